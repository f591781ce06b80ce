/-
  THE WALK OF MerklePeaksGrow.
-/
import Derived.Test.YtonfdgbohmcpjabDoorGm
namespace Go.Proofs.YtonfdgbohmcpjabDoor
open Go.RowKit Go.ChangeShapes Go.WideShapes Go.ChangeAt

/-- The peaks of the first k elements. -/
noncomputable def PL (l : List Wm.Bs) (k : Nat) : List Wm.Bs := Mk.pk nodeD emptyD (l.take k)
theorem PL_zero (l : List Wm.Bs) : PL l 0 = [] := by unfold PL; rw [List.take_zero, Mk.pk_nil]
theorem PL_len (l : List Wm.Bs) {k : Nat} (h : k ≤ l.length) : (PL l k).length = Mk.ones k := by
  unfold PL
  rw [Mk.pk_len nodeD emptyD _ _ (Nat.le_refl _), List.length_take, Nat.min_eq_left h]
theorem PL_top (l : List Wm.Bs) (k : Nat) : Mk.topOf nodeD emptyD (PL l k) = rootD (l.take k) := Mk.top_root nodeD emptyD _ _ (Nat.le_refl _)
theorem PL_app (l : List Wm.Bs) {k : Nat} (h : k < l.length) : Mk.app nodeD emptyD k (PL l k) l[k] = PL l (k + 1) := by
  unfold PL
  have h1 := Mk.app_snoc nodeD emptyD (l.take k) l[k]
  rw [List.length_take, Nat.min_eq_left (Nat.le_of_lt h)] at h1
  rw [h1, List.take_succ_eq_append_getElem h]
theorem PL_isD {l : List Wm.Bs} (hl : isD l) : ∀ k, k ≤ l.length → isD (PL l k) := by
  have h : ∀ N (l : List Wm.Bs), l.length ≤ N → isD l → isD (Mk.pk nodeD emptyD l) := by
    intro N
    induction N with
    | zero =>
      intro l h _
      rw [List.eq_nil_of_length_eq_zero (by omega : l.length = 0), Mk.pk_nil]
      exact fun _ h => by cases h
    | succ N ih =>
      intro l h hl
      by_cases h0 : l.length = 0
      · rw [List.eq_nil_of_length_eq_zero h0, Mk.pk_nil]; exact fun _ h => by cases h
      · rw [Mk.pk_some nodeD emptyD l h0]
        intro d hd
        rcases List.mem_cons.1 hd with rfl | hd
        · exact rootD_dig (fun x hx => hl x (List.mem_of_mem_take hx))
        · exact ih (l.drop (Mk.gp l.length)) (by rw [List.length_drop]; have := Mk.gp_pos l.length; omega) (fun x hx => hl x (List.mem_of_mem_drop hx)) d hd
  intro k _
  exact h _ _ (Nat.le_refl _) (fun x hx => hl x (List.mem_of_mem_take hx))
theorem PL_wf (l : List Wm.Bs) {k : Nat} (h : k ≤ l.length) (hb : k ≤ 1099511627776) : WF (k : Int) (PL l k).length :=
  ⟨by omega, by omega, by rw [PL_len l h, pop_ones 64 _ (by rw [Int.toNat_natCast]; omega), Int.toNat_natCast]⟩
theorem PL_le (l : List Wm.Bs) {k : Nat} (h : k ≤ l.length) (hb : k ≤ 1099511627776) : (PL l k).length ≤ 64 := by
  rw [(PL_wf l h hb).2.2]; exact Pop.ones_le 64 _
theorem topPL_any (l : List Wm.Bs) (hl : isD l) (k : Nat) (hk : k ≤ l.length) (hb : k ≤ 1099511627776) (A : Option Addr) (c : Nat) (w : World) (hs : Sl w 16 A (PL l k).length (Ds (PL l k))) (tab : Tab w) :
    Calls Tryd.prog 26 #[.agg #[.int .i64 k, .slice A (PL l k).length c]] w fun e w' => e = .returned (.tuple #[.agg (U (rootD (l.take k))).toArray, .int .i64 0]) ∧ Later w w' := by
  rcases Nat.eq_zero_or_pos k with rfl | h0
  · have h := top_zero A (PL l 0).length c w (PL_wf l hk hb) tab
    rw [show rootD (l.take 0) = emptyD by unfold rootD; rw [List.take_zero, Mk.root_nil]]
    exact h
  · rw [← PL_top]
    exact top_any k A _ c _ w (PL_wf l hk hb) (by omega) hs (PL_isD hl k hk) tab
theorem sl_take {w : World} {A : Option Addr} {n : Nat} {l : List Wm.Bs} (h : Sl w 16 A n (Ds l)) (hl : isD l) {k : Nat} (hk : k ≤ n) : Sl w 16 A k (Ds (l.take k)) := by
  have hn := h.dlen hl
  refine ⟨?_, fun h0 => ?_⟩
  · unfold Ds; rw [U_length, flat_len (fun x hx => hl x (List.mem_of_mem_take hx)), List.length_take]; congr 1; omega
  · obtain ⟨ad, e, hb, hc⟩ := h.2 (by omega)
    refine ⟨ad, e, hb, fun j u hu => hc j u ?_⟩
    have e2 : Ds l = Ds (l.take k) ++ Ds (l.drop k) := by unfold Ds; rw [← U_append, ← List.flatten_append, List.take_append_drop]
    rw [e2, List.getElem?_append_left]
    · exact hu
    · rcases Nat.lt_or_ge j (Ds (l.take k)).length with h1 | h1
      · exact h1
      · rw [List.getElem?_eq_none h1] at hu; cases hu

set_option maxRecDepth 100000 in
set_option maxHeartbeats 1000000 in
theorem peaksGrow_big (A : Option Addr) (n c : Nat) (w : World) (tab : Tab w) (tab0 : Tab0 w) (h : 40 < n) :
    Calls Tryd.prog 7 #[.slice A n c] w fun e w' => e = .returned (.bool true) ∧ Later w w' := by
  have HS := Lib.hid fun w' (h : Later w w') => sanity_any w' (tab.keep h) (tab0.keep h)
  clear tab tab0
  go_enter Tryd.func7, Tryd.ntmps7
  go_wp2_with (go_at_call 9; refine (HS.out _ (Below.refl _ _)).mono ?_; rintro e w1 ⟨rfl, l1⟩)
  go_ret
  exact ⟨rfl, l1⟩
set_option maxRecDepth 100000 in
set_option maxHeartbeats 4000000 in
theorem peaksGrow_any (A : Option Addr) (n c : Nat) (l : List Wm.Bs) (w : World) (tab : Tab w) (tab0 : Tab0 w) (hn : n ≤ 40) (hs : Sl w 16 A n (Ds l)) (hl : isD l) (hnc : n ≤ c) (hc : c ≤ 9223372036854775807) :
    Calls Tryd.prog 7 #[.slice A n c] w fun e w' => e = .returned (.bool true) ∧ Later w w' := by
  have hll := hs.dlen hl
  have HSN := Lib.hid fun w' (h : Later w w') => sanity_any w' (tab.keep h) (tab0.keep h)
  have HTP := Lib.hid fun (k : Nat) (hk : k ≤ n) (A1 : Option Addr) (cc : Nat) (w' : World) (hp : Sl w' 16 A1 (PL l k).length (Ds (PL l k))) (h : Later w w') => topPL_any l hl k (by omega) (by omega) A1 cc w' hp (tab.keep h)
  have HRT := Lib.hid fun (k : Nat) (hk : k ≤ n) (w' : World) (h : Later w w') => root_any k A k c (l.take k) w' (Nat.le_refl _) (sl_take (hs.keep h) hl hk) (fun x hx => hl x (List.mem_of_mem_take hx)) (by omega) (by omega) hc (tab.keep h)
  have HAP := Lib.hid fun (k : Nat) (hk : k < n) (X : Wm.Bs) (hX : l[k]? = some X) (A1 : Option Addr) (cc : Nat) (w' : World) (hp : Pt w' A1 (PL l k).length cc (PL l k)) (h : Later w w') => (by
    have hkl : k < l.length := by omega
    obtain rfl : l[k] = X := by rw [List.getElem?_eq_getElem hkl] at hX; exact Option.some.inj hX
    have h := append_any k A1 _ cc (PL l k) l[k] w' (PL_wf l (by omega) (by omega)) (by omega) hp.1 (PL_isD hl k (by omega)) (hl _ (List.getElem_mem hkl)) hp.2.1 (tab.keep h)
    rw [PL_app l hkl] at h
    exact h.mono fun _ _ ⟨A', c', he, h1, h2, h3, _, h5, h6⟩ => ⟨A', c', he, ⟨h3, h1, h2⟩, h5, h6⟩ :
    Calls Tryd.prog 25 #[.agg #[.int .i64 k, .slice A1 (PL l k).length cc], .agg (U X).toArray] w' fun e w'' => ∃ A' c', e = .returned (.tuple #[.agg #[.int .i64 ((k : Int) + 1), .slice A' (PL l (k + 1)).length c'], .int .i64 0]) ∧ Pt w'' A' (PL l (k + 1)).length c' (PL l (k + 1)) ∧ (∀ ad, A' = some ad → w'.heap.size ≤ ad.block) ∧ Later w' w'')
  have HSM := Lib.hid fun (J : List Wm.Bs) (A B : Option Addr) (x y m : Nat) (w' : World) (jd : isD J) (h1 : Pt w' A m x J) (h2 : Pt w' B m y J) (hm : m ≤ 64) => (by
    have h := same_any A B m x m y J J w' h1.1 jd h2.1 jd (by unfold maxLen; omega)
    rw [decide_eq_true rfl] at h; exact h : Calls Tryd.prog 17 #[.slice A m x, .slice B m y] w' fun e w'' => e = .returned (.bool true) ∧ Later w' w'')
  have HPD := Lib.hid fun k (hk : k ≤ n) => PL_isD hl k (by omega)
  have HPL := Lib.hid fun k (hk : k ≤ n) => PL_le l (k := k) (by omega) (by omega)
  have HRD := Lib.hid fun k => rootD_dig (l := l.take k) (fun x hx => hl x (List.mem_of_mem_take hx))
  have HL := Lib.hid hl
  have HLL := Lib.hid hll
  have hAw : ∀ ad, 0 < n → A = some ad → ad.block < w.heap.size := fun ad h0 e => by obtain ⟨a, e', hb, _⟩ := hs.2 h0; rw [e] at e'; cases e'; exact hb
  have HAW := Lib.hid hAw
  obtain ⟨i0, hI⟩ := dgI
  have HI := Lib.hid hI
  have k40 : ¬ 40 < n := by omega
  clear tab tab0 hl hll hAw hI
  have hl0 : Later w (w.alloc (.cells #[.int .i64 0, .slice none 0 0] 43)) := (Below.refl _ _).alloc (Nat.le_refl _) _
  have bq0 : Blk (w.alloc (.cells #[.int .i64 0, .slice none 0 0] 43)) w.heap.size 43 [.int .i64 0, .slice none 0 0] := Blk.new _ _ _ _ rfl
  have hs0 := hs.keep hl0
  clear hs
  go_enter Tryd.func7, Tryd.ntmps7
  go_wp2
  obtain ⟨Q, eQ⟩ : ∃ Q, Q = w.heap.size := ⟨_, rfl⟩
  have hQw : w.heap.size ≤ Q := by omega
  have HAQ0 : Hid (∀ ad, 0 < n → A = some ad → ad.block ≠ Q) := Lib.hid fun ad h0 e => by have := HAW.out ad h0 e; omega
  rw [← eQ] at bq0 ⊢
  generalize w.alloc (.cells #[.int .i64 0, .slice none 0 0] 43) = u0 at hl0 bq0 hs0 ⊢
  clear eQ
  go_loopw [4] (fun v wr => ∃ (k : Nat) (A1 : Option Addr) (nn cc : Nat), v = .int .i64 k ∧ k ≤ n ∧ Hid (nn = (PL l k).length) ∧ Blk wr Q 43 [.int .i64 k, .slice A1 nn cc] ∧ Hid (∀ ad, A1 = some ad → ad.block ≠ Q) ∧ Pt wr A1 nn cc (PL l k) ∧ Sl wr 16 A n (Ds l) ∧ Later w wr) (fun v _ => n + 1 - (intOf v).toNat)
  case atStart => exact ⟨0, none, 0, 0, rfl, Nat.zero_le _, Lib.hid (by rw [PL_zero]; rfl), bq0, Lib.hid (fun _ h => by cases h), ⟨by rw [PL_zero]; exact Sl.nil _ _ _, Nat.le_refl _, by decide⟩, hs0, hl0⟩
  case round =>
    clear bq0 hs0 hl0
    obtain ⟨k, A1, nn, cc, rfl, hk, HNN, bq, HQA, pt, sl, lr⟩ := hrel
    have HT1 := Lib.hid fun (w' : World) (hp : Pt w' A1 nn cc (PL l k)) (h : Later w w') => (by have h2 := HTP.out k hk A1 cc w' (by rw [← HNN.out]; exact hp.1) h; rw [← HNN.out] at h2; exact h2 : Calls Tryd.prog 26 #[.agg #[.int .i64 k, .slice A1 nn cc]] w' fun e w'' => e = .returned (.tuple #[.agg (U (rootD (l.take k))).toArray, .int .i64 0]) ∧ Later w' w'')
    have HR1 := Lib.hid (HRT.out k hk)
    have HRd := Lib.hid (HRD.out k)
    obtain ⟨R, eR⟩ : ∃ R, R = rootD (l.take k) := ⟨_, rfl⟩
    rw [← eR] at HT1 HR1 HRd
    have HPd := Lib.hid (HPD.out k hk)
    have HN64 : nn ≤ 64 := by rw [HNN.out]; exact HPL.out k hk
    have hgd : Tryd.prog.eqGuardType Tryd.prog.depth 31 = false := by kernel_rfl
    have qr : ∀ w' : World, (Op.equalIn 10000 31 (.agg (U R).toArray) (.agg (U R).toArray)).run Tryd.prog w' = .ok true w' := fun w' => by rw [dig_eq HRd.out.1 HRd.out.1 w', decide_eq_true rfl]
    have hkn : (k : Int) ≤ n := by omega
    have hkc : ¬ c < k := by omega
    clear eR
    go_wp2_with (first
      | ((with_reducible refine wpList_load_blk (o := ⟨some 21, .load 43 (.tmp 3), _, _, _, none⟩) rfl _ _ rfl Q 43 [.int .i64 k, .slice A1 nn cc] _ ?_ bq Tryd.underlying43 ?_ (pk_sz _ _) ?_); rfl; rfl)
      | (go_at_call 26; (with_reducible refine (HT1.out _ pt lr).mono ?_); rintro e w3 ⟨rfl, l3⟩; replace bq := bq.keep l3; replace pt := pt.keep l3; replace sl := sl.keep l3; replace lr := Later.trans_ lr l3)
      | ((with_reducible refine wpList_store_abs (o := ⟨none, .store 31 (.tmp 5) (.tmp 23), _, _, _, none⟩) rfl _ _ _ rfl w3.heap.size 31 (PartB [] 16) (U R) ?_ ?_ (Blk.new w3 _ _ _ rfl) (dig_sz HRd.out.1) (dig_z HRd.out.1) (U_one _) ?_); rfl; rfl; intro w4 x4 o4; have k4 : Later w3 w4 := Below.only (laterZ w3 (.cells (PartB [] 16).toArray 31)) o4 (Nat.le_refl _); replace bq := bq.keep k4; replace pt := pt.keep k4; replace sl := sl.keep k4; replace lr := Later.trans_ lr k4))
    obtain ⟨G4, e4⟩ : ∃ B, B = w3.heap.size := ⟨_, rfl⟩
    rw [← e4] at x4 ⊢
    clear e4 o4 k4 l3 HT1
    refine wp_region_held_drew (S := fun w' => w'.rangeAt G4 0 (U R) ∧ w'.cell? ⟨Q, 0, none⟩ = some (.int .i64 k)) (by kernel_rfl) ⟨blk_at x4.drew, bq.drew.cell (j := 0) rfl⟩ (fun hHeld => ?_)
    refine wpAnyH_take (i := 0) (oi := ⟨some 25, .move (.tmp 6), _, _, _, none⟩) (v := .int .i64 0) rfl (by kernel_rfl) (by kernel_rfl) (by kernel_rfl) (fun _ _ _ h => h) (Or.inl ⟨by rfl, fun _ _ => rfl⟩) hHeld ?_
    simp only [Act.put, List.setIfInBounds_toArray, List.set_cons_zero, List.set_cons_succ]
    refine wpAnyH_take (i := 1) (oi := ⟨some 26, .binOp .neq 24 (.tmp 25) (.const (.int .i64 0)) 24, _, _, _, none⟩) (v := .bool false) rfl (by kernel_rfl) (by kernel_rfl) (by kernel_rfl) (fun _ _ _ h => h) (Or.inl ⟨by rfl, fun w _ => by go_simp⟩) hHeld ?_
    simp only [Act.put, List.setIfInBounds_toArray, List.set_cons_zero, List.set_cons_succ]
    refine wpAnyH_take (i := 2) (oi := ⟨some 27, .move (.tmp 26), _, _, _, none⟩) (v := .bool false) rfl (by kernel_rfl) (by kernel_rfl) (by kernel_rfl) (fun _ _ _ h => h) (Or.inl ⟨by rfl, fun _ _ => rfl⟩) hHeld ?_
    simp only [Act.put, List.setIfInBounds_toArray, List.set_cons_zero, List.set_cons_succ]
    refine wpAnyH_take (i := 3) (oi := ⟨some 28, .load 31 (.tmp 5), _, _, _, _⟩) (v := .agg (U R).toArray) rfl (by kernel_rfl) (by kernel_rfl) (by kernel_rfl) (fun _ _ _ h => h) (yieldsIf_load_mid (by rfl) _ _ rfl _ _ rfl _ _ (fun w h => h.1) Tryd.underlying31 rfl (dig_sz HRd.out.1)) hHeld ?_
    simp only [Act.put, List.setIfInBounds_toArray, List.set_cons_zero, List.set_cons_succ]
    refine wpAnyH_take (i := 4) (oi := ⟨some 29, .move (.tmp 0), _, _, _, _⟩) (v := .slice A n c) rfl (by kernel_rfl) (by kernel_rfl) (by kernel_rfl) (fun _ _ _ h => h) (Or.inl ⟨by rfl, fun _ _ => rfl⟩) hHeld ?_
    simp only [Act.put, List.setIfInBounds_toArray, List.set_cons_zero, List.set_cons_succ]
    refine wpAnyH_take (i := 5) (oi := ⟨some 30, .move (.tmp 4), _, _, _, _⟩) (v := .int .i64 k) rfl (by kernel_rfl) (by kernel_rfl) (by kernel_rfl) (fun _ _ _ h => h) (Or.inl ⟨by rfl, fun _ _ => rfl⟩) hHeld ?_
    simp only [Act.put, List.setIfInBounds_toArray, List.set_cons_zero, List.set_cons_succ]
    refine wpAnyH_take (i := 6) (oi := ⟨some 31, .slice 22 (.tmp 29) none (some (.tmp 30)) none, _, _, _, _⟩) (v := .slice A k c) rfl (by kernel_rfl) (by kernel_rfl) (by kernel_rfl) (fun _ _ _ h => h) (Or.inl ⟨by rfl, fun w _ => by go_simp⟩) hHeld ?_
    simp only [Act.put, List.setIfInBounds_toArray, List.set_cons_zero, List.set_cons_succ]
    refine wpAnyH_ready (rs := [7]) (by kernel_rfl) (by simp) (AllReadyH.cons (o := ⟨some 32, .call { callee := .value (.func 15), args := #[.tmp 31], argTypes := #[22] }, _, _, _, _⟩) rfl (fun K' hK => ?_) (AllReadyH.nil))
    go_simp
    refine (HR1.out _ lr.drew).mono ?_
    rintro e wz ⟨rfl, l5⟩
    replace bq := bq.drew.keep l5; replace pt := pt.drew.keep l5; replace sl := sl.drew.keep l5; replace x4 := x4.drew.keep l5; replace lr := Later.trans_ lr.drew l5
    refine hK.out _ _ ⟨blk_at x4, bq.cell (j := 0) rfl⟩ (fun hHeld => ?_)
    clear hK K'
    try simp only [Act.put, List.setIfInBounds_toArray, List.set_cons_zero, List.set_cons_succ]
    refine wpAnyH_take (i := 8) (oi := ⟨some 33, .binOp .neq 31 (.tmp 28) (.tmp 32) 31, _, _, _, _⟩) (v := .bool false) rfl (by kernel_rfl) (by kernel_rfl) (by kernel_rfl) (fun _ _ _ h => h) (Or.inl ⟨by rfl, fun w _ => by go_simp⟩) hHeld ?_
    simp only [Act.put, List.setIfInBounds_toArray, List.set_cons_zero, List.set_cons_succ]
    refine wpAnyH_take (i := 9) (oi := ⟨some 34, .pick (.tmp 27) (.const (.bool true)) (.tmp 33), _, _, _, none⟩) (v := .bool false) rfl (by kernel_rfl) (by kernel_rfl) (by kernel_rfl) (fun _ _ _ h => h) (Or.inl ⟨by rfl, fun w _ => by go_simp⟩) hHeld ?_
    simp only [Act.put, List.setIfInBounds_toArray, List.set_cons_zero, List.set_cons_succ]
    refine wpAnyH_take (i := 10) (oi := ⟨some 35, .move (.tmp 34), _, _, _, none⟩) (v := .bool false) rfl (by kernel_rfl) (by kernel_rfl) (by kernel_rfl) (fun _ _ _ h => h) (Or.inl ⟨by rfl, fun _ _ => rfl⟩) hHeld ?_
    simp only [Act.put, List.setIfInBounds_toArray, List.set_cons_zero, List.set_cons_succ]
    refine wpAnyH_take (i := 11) (oi := ⟨some 36, .fieldAddr 43 (.tmp 3) 0, _, _, _, _⟩) (v := .pointer (some ⟨Q, 0, none⟩)) rfl (by kernel_rfl) (by kernel_rfl) (by kernel_rfl) (fun _ _ _ h => h) (Or.inl ⟨by rfl, fun w _ => by go_simp⟩) hHeld ?_
    simp only [Act.put, List.setIfInBounds_toArray, List.set_cons_zero, List.set_cons_succ]
    refine wpAnyH_take (i := 12) (oi := ⟨some 37, .load 3 (.tmp 36), _, _, _, _⟩) (v := .int .i64 k) rfl (by kernel_rfl) (by kernel_rfl) (by kernel_rfl) (fun _ _ _ h => h) (Or.inl ⟨by rfl, fun w h => by have hc := h.2; go_simp⟩) hHeld ?_
    simp only [Act.put, List.setIfInBounds_toArray, List.set_cons_zero, List.set_cons_succ]
    refine wpAnyH_take (i := 13) (oi := ⟨some 38, .move (.tmp 4), _, _, _, _⟩) (v := .int .i64 k) rfl (by kernel_rfl) (by kernel_rfl) (by kernel_rfl) (fun _ _ _ h => h) (Or.inl ⟨by rfl, fun _ _ => rfl⟩) hHeld ?_
    simp only [Act.put, List.setIfInBounds_toArray, List.set_cons_zero, List.set_cons_succ]
    refine wpAnyH_take (i := 14) (oi := ⟨some 39, .binOp .neq 3 (.tmp 37) (.tmp 38) 3, _, _, _, _⟩) (v := .bool false) rfl (by kernel_rfl) (by kernel_rfl) (by kernel_rfl) (fun _ _ _ h => h) (Or.inl ⟨by rfl, fun w _ => by go_simp⟩) hHeld ?_
    simp only [Act.put, List.setIfInBounds_toArray, List.set_cons_zero, List.set_cons_succ]
    refine wpAnyH_take (i := 15) (oi := ⟨some 40, .pick (.tmp 35) (.const (.bool true)) (.tmp 39), _, _, _, none⟩) (v := .bool false) rfl (by kernel_rfl) (by kernel_rfl) (by kernel_rfl) (fun _ _ _ h => h) (Or.inl ⟨by rfl, fun w _ => by go_simp⟩) hHeld ?_
    simp only [Act.put, List.setIfInBounds_toArray, List.set_cons_zero, List.set_cons_succ]
    refine wpAnyH_done (by kernel_rfl) ?_ _
    clear hHeld
    clear x4 qr hgd HRd HR1
    have hR : True := trivial
    by_cases hlt : k < n
    · obtain ⟨ad, eA, hadb, hkl, hck⟩ := sl.digest HL.out hlt
      obtain ⟨X, hX⟩ : ∃ X, X = l[k] := ⟨_, rfl⟩
      have hXs : l[k]? = some X := by rw [List.getElem?_eq_getElem hkl, hX]
      have HXD := Lib.hid (HL.out _ (List.getElem_mem hkl))
      rw [← hX] at hck HXD
      have HCK := Lib.hid fun (w' : World) (h : Sl w' 16 A n (Ds l)) (j : Nat) (v : Value) (hv : (U X)[j]? = some v) => (by
        obtain ⟨ad', e, _, hkl, hck⟩ := h.digest HL.out hlt
        rw [eA] at e; cases e
        exact hck j v (by rw [← hX]; exact hv) : w'.cell? ((ad.add (k * 16)).add j) = some v)
      have HS1 := Lib.hid fun (w' : World) (hp : Pt w' A1 nn cc (PL l k)) (hw : Later w w') => (by have h := HAP.out k hlt X hXs A1 cc w' (by rw [← HNN.out]; exact hp) hw; rw [← HNN.out] at h; exact h :
        Calls Tryd.prog 25 #[.agg #[.int .i64 k, .slice A1 nn cc], .agg (U X).toArray] w' fun e w'' => ∃ A' c', e = .returned (.tuple #[.agg #[.int .i64 ((k : Int) + 1), .slice A' (PL l (k + 1)).length c'], .int .i64 0]) ∧ Pt w'' A' (PL l (k + 1)).length c' (PL l (k + 1)) ∧ (∀ ad, A' = some ad → w'.heap.size ≤ ad.block) ∧ Later w' w'')
      obtain ⟨n', en⟩ : ∃ n', n' = (PL l (k + 1)).length := ⟨_, rfl⟩
      rw [← en] at HS1
      have HEN := Lib.hid en
      have kn : ¬ (k : Int) = n := by omega
      have kw : ((k : Int) == (n : Int)) = false := beq_eq_false_iff_ne.2 kn
      have kn1 : IntKind.i64.wrap ((k : Int) + 1) = (k : Int) + 1 := IntWalk.i64_in _ (by omega)
      have kn2 : (k : Int) < n := by omega
      subst eA
      have hcq : ∀ wX, Blk wX Q 43 [.int .i64 k, .slice A1 nn cc] → wX.cell? ⟨Q, 1, none⟩ = some (.slice A1 nn cc) ∧ wX.cell? ⟨Q, 0, none⟩ = some (.int .i64 k) := fun wX h => ⟨h.cell (j := 1) rfl, h.cell (j := 0) rfl⟩
      have HCQ := Lib.hid hcq
      clear hck hX hXs hkl en hR hcq
      have hq1 := (HCQ.out _ (bq.alloc (.cells #[] 31))).1
      have own0 := own_empty wz w.heap.size lr.size
      go_wp2_with ((with_reducible refine wpList_plain (o := ⟨some 48, .call { callee := .builtin .append, args := #[.tmp 45, .tmp 47], argTypes := #[22, 22] }, _, _, _, none⟩) rfl (fun K' hK => ?_)); refine wp_app _ (.tmp 45) (.tmp 47) 22 rfl w.heap.size 31 i0 _ 16 16 Tryd.underlying22 HI.out.hi HI.out.hz HI.out.hs HI.out.hb rfl (by decide) (.slice (some ⟨wz.heap.size, 0, none⟩) 0 0) 0 [] rfl own0 A1 nn cc (Ds (PL l k)) rfl (pt.keep (laterZ _ _)).1 (U_one _) (by unfold maxLen; omega) (by omega) (lr.alloc lr.size _).size ?_; intro v1 w5 own1 grow1; refine hK _ _ ?_; clear hK K'; obtain ⟨A2, c2, rfl, q1, q2', q3, _⟩ := own_form own1)
      have k5 : Later wz w5 := (laterZ wz (.cells #[] 31)).grown grow1 (by simp) (fun b hb => by have : b = wz.heap.size := (by simpa [Value.ownBlock] using hb.symm); omega)
      replace bq := bq.keep k5; replace pt := pt.keep k5; replace sl := sl.keep k5; replace lr := Later.trans_ lr k5
      rw [List.nil_append, Nat.zero_add] at q3
      rw [Nat.zero_add] at q1
      have pk : Pt w5 A2 nn c2 (PL l k) := ⟨q3, q1, by unfold maxLen at q2'; omega⟩
      clear own0 own1 grow1 k5 q1 q2' q3 hq1
      have hqr : Q < w5.drew.heap.size := bq.lt
      have hQ1 := lr.size
      refine wp_region_held_drew (S := fun w' => w'.rangeAt Q 0 [.int .i64 k, .slice A1 nn cc] ∧ ∀ j v, (U X)[j]? = some v → w'.cell? ((ad.add (k * 16)).add j) = some v) (by kernel_rfl) ⟨blk_at bq.drew, HCK.out _ sl.drew⟩ (fun hHeld => ?_)
      refine wpAnyH_take (i := 0) (oi := ⟨some 50, .load 43 (.tmp 3), _, _, _, none⟩) (v := .agg #[.int .i64 k, .slice A1 nn cc]) rfl (by kernel_rfl) (by kernel_rfl) (by kernel_rfl) (fun _ _ _ h => h) (yieldsIf_load_mid (by rfl) _ _ rfl _ _ rfl [.int .i64 k, .slice A1 nn cc] _ (fun w h => h.1) Tryd.underlying43 rfl peaks_sz) hHeld ?_
      simp only [Act.put, List.setIfInBounds_toArray, List.set_cons_zero, List.set_cons_succ]
      refine wpAnyH_take (i := 1) (oi := ⟨some 51, .move (.tmp 0), _, _, _, none⟩) (v := .slice (some ad) n c) rfl (by kernel_rfl) (by kernel_rfl) (by kernel_rfl) (fun _ _ _ h => h) (Or.inl ⟨by rfl, fun _ _ => rfl⟩) hHeld ?_
      simp only [Act.put, List.setIfInBounds_toArray, List.set_cons_zero, List.set_cons_succ]
      refine wpAnyH_take (i := 2) (oi := ⟨some 52, .move (.tmp 4), _, _, _, none⟩) (v := .int .i64 k) rfl (by kernel_rfl) (by kernel_rfl) (by kernel_rfl) (fun _ _ _ h => h) (Or.inl ⟨by rfl, fun _ _ => rfl⟩) hHeld ?_
      simp only [Act.put, List.setIfInBounds_toArray, List.set_cons_zero, List.set_cons_succ]
      refine wpAnyH_take (i := 3) (oi := ⟨some 53, .indexAddr 22 (.tmp 51) (.tmp 52), _, _, _, none⟩) (v := .pointer (some (ad.add (k * 16)))) rfl (by kernel_rfl) (by kernel_rfl) (by kernel_rfl) (fun _ _ _ h => h) (Or.inl ⟨by rfl, fun w _ => by go_simp⟩) hHeld ?_
      simp only [Act.put, List.setIfInBounds_toArray, List.set_cons_zero, List.set_cons_succ]
      refine wpAnyH_take (i := 4) (oi := ⟨some 54, .load 31 (.tmp 53), _, _, _, none⟩) (v := .agg (U X).toArray) rfl (by kernel_rfl) (by kernel_rfl) (by kernel_rfl) (fun _ _ _ h => h) (yieldsIf_load_addr (by rfl) _ _ rfl _ (by rfl) (U X) _ (fun w h => h.2) Tryd.underlying31 rfl (dig_sz HXD.out.1)) hHeld ?_
      simp only [Act.put, List.setIfInBounds_toArray, List.set_cons_zero, List.set_cons_succ]
      refine wpAnyH_ready (rs := [5, 9]) (by kernel_rfl) (by simp) (AllReadyH.cons (o := ⟨some 55, .call { callee := .value (.func 25), args := #[.tmp 50, .tmp 54], argTypes := #[43, 31] }, _, _, _, none⟩) rfl (fun K' hK => ?_) (AllReadyH.cons (o := ⟨some 8, .alloc 43, _, _, _, none⟩) rfl (fun K' hK => ?_) (AllReadyH.nil)))
      · go_simp
        refine (HS1.out _ pt.drew lr.drew).mono ?_
        rintro e w6 ⟨A', c', rfl, q2, qA, l3⟩
        replace bq := bq.drew; replace pt := pt.drew; replace pk := pk.drew; replace sl := sl.drew
        replace bq := bq.keep l3; replace pt := pt.keep l3; replace pk := pk.keep l3; replace sl := sl.keep l3
        have lw : Later w w6 := Later.trans_ lr.drew l3
        have hAQ : ∀ ad, A' = some ad → ad.block ≠ Q := fun ad e => by have := qA ad e; omega
        refine hK.out _ _ ⟨blk_at bq, HCK.out _ sl⟩ (fun hHeld => ?_)
        clear hK K'
        try simp only [Act.put, List.setIfInBounds_toArray, List.set_cons_zero, List.set_cons_succ]
        refine wpAnyH_take (i := 6) (oi := ⟨some 49, .move (.tmp 55), _, _, _, none⟩) (v := .tuple #[.agg #[.int .i64 ((k : Int) + 1), .slice A' n' c'], .int .i64 0]) rfl (by kernel_rfl) (by kernel_rfl) (by kernel_rfl) (fun _ _ _ h => h) (Or.inl ⟨by rfl, fun _ _ => rfl⟩) hHeld ?_
        simp only [Act.put, List.setIfInBounds_toArray, List.set_cons_zero, List.set_cons_succ]
        refine wpAnyH_take (i := 7) (oi := ⟨some 56, .extract (.tmp 49) 0, _, _, _, none⟩) (v := .agg #[.int .i64 ((k : Int) + 1), .slice A' n' c']) rfl (by kernel_rfl) (by kernel_rfl) (by kernel_rfl) (fun _ _ _ h => h) (Or.inl ⟨by rfl, fun w _ => by go_simp⟩) hHeld ?_
        simp only [Act.put, List.setIfInBounds_toArray, List.set_cons_zero, List.set_cons_succ]
        refine wpAnyH_take (i := 8) (oi := ⟨some 57, .extract (.tmp 49) 1, _, _, _, none⟩) (v := .int .i64 0) rfl (by kernel_rfl) (by kernel_rfl) (by kernel_rfl) (fun _ _ _ h => h) (Or.inl ⟨by rfl, fun w _ => by go_simp⟩) hHeld ?_
        simp only [Act.put, List.setIfInBounds_toArray, List.set_cons_zero, List.set_cons_succ]
        refine wpAnyH_ready (rs := [9]) (by kernel_rfl) (by simp) (AllReadyH.cons (o := ⟨some 8, .alloc 43, _, _, _, none⟩) rfl (fun K' hK => ?_) (AllReadyH.nil))
        go_simp
        have la : Later w6 (w6.alloc (.cells #[.int .i64 0, .slice none 0 0] 43)) := laterZ _ _
        have bG : Blk (w6.alloc (.cells #[.int .i64 0, .slice none 0 0] 43)) w6.heap.size 43 [.int .i64 0, .slice none 0 0] := Blk.new _ _ _ _ rfl
        have hqG := bq.lt
        refine hK.out _ _ ⟨blk_at (bq.keep la), HCK.out _ (sl.keep la)⟩ (fun hHeld => ?_)
        clear hK K'
        try simp only [Act.put, List.setIfInBounds_toArray, List.set_cons_zero, List.set_cons_succ]
        obtain ⟨G, eG⟩ : ∃ G, G = w6.heap.size := ⟨_, rfl⟩
        have hGQ : Q ≠ G := by rw [eG]; exact Nat.ne_of_lt hqG
        have hGs : w6.heap.size ≤ G := by rw [eG]; exact Nat.le_refl _
        rw [← eG] at bG ⊢
        generalize w6.alloc (.cells #[.int .i64 0, .slice none 0 0] 43) = wa at la bG hHeld ⊢
        clear eG
        refine wpAnyH_ready (rs := [10]) (by kernel_rfl) (by simp) (AllReadyH.cons (o := ⟨none, .store 43 (.tmp 8) (.tmp 56), _, _, _, none⟩) rfl (fun K' hK => ?_) (AllReadyH.nil))
        refine wp_store_whole _ _ _ rfl G 43 [.int .i64 0, .slice none 0 0] [.int .i64 ((k : Int) + 1), .slice A' n' c'] rfl rfl bG peaks_sz rfl (pk_one _ _ rfl rfl) ?_
        intro w7 y1 y2
        have k7 : Later w6 w7 := Below.only la y2 hGs
        replace bq := bq.keep k7; replace pt := pt.keep k7; replace pk := pk.keep k7; replace sl := sl.keep k7; replace q2 := q2.keep k7; replace lw := Later.trans_ lw k7
        clear la bG y2 k7
        refine hK.out _ _ ⟨blk_at bq, HCK.out _ sl⟩ (fun hHeld => ?_)
        clear hK K'
        try simp only [Act.put]
        refine wpAnyH_take (i := 11) (oi := ⟨some 9, .assign (.tmp 57), _, _, _, none⟩) (v := .int .i64 0) rfl (by kernel_rfl) (by kernel_rfl) (by kernel_rfl) (fun _ _ _ h => h) (Or.inl ⟨by rfl, fun _ _ => rfl⟩) hHeld ?_
        simp only [Act.put, List.setIfInBounds_toArray, List.set_cons_zero, List.set_cons_succ]
        refine wpAnyH_done (by kernel_rfl) ?_ _
        clear hHeld
        have hq1 := (HCQ.out _ bq).1
        go_wp2_with (first
          | (go_at_call 17; refine (HSM.out (PL l k) A1 A2 cc c2 nn _ HPd.out pt pk HN64).mono ?_; rintro e w8 ⟨rfl, l8⟩; replace bq := bq.keep l8; replace sl := sl.keep l8; replace q2 := q2.keep l8; replace y1 := y1.keep l8; replace lw := Later.trans_ lw l8; clear hq1; have hq0 := (HCQ.out _ bq).2)
          | ((with_reducible refine wpList_load_blk (o := ⟨some 73, .load 43 (.tmp 8), _, _, _, none⟩) rfl _ _ rfl G 43 [.int .i64 ((k : Int) + 1), .slice A' n' c'] _ ?_ y1 Tryd.underlying43 ?_ (pk_sz _ _) ?_); rfl; rfl)
          | ((with_reducible refine wpList_store_abs (o := ⟨none, .store 43 (.tmp 3) (.tmp 73), _, _, _, none⟩) rfl _ _ _ rfl Q 43 [.int .i64 k, .slice A1 nn cc] [.int .i64 ((k : Int) + 1), .slice A' n' c'] ?_ ?_ bq (pk_sz _ _) (pk_len _ _ _ _) (pk_one _ _ ?_ ?_) ?_); rfl; rfl; rfl; rfl; intro w9 z1 z2))
        replace q2 := q2.only z2 hAQ
        replace sl := sl.only z2 (HAQ0.out ad (by omega) rfl)
        replace lw : Later w w9 := Below.only lw z2 hQw
        go_roundw
        case rel => exact ⟨k + 1, A', n', c', by go_num, hlt, HEN, z1, Lib.hid hAQ, q2, sl, lw⟩
        case measure => simp [intOf]; omega

      · go_simp
        replace bq := bq.drew; replace pt := pt.drew; replace pk := pk.drew; replace sl := sl.drew; replace lr := lr.drew
        have la : Later w5.drew (w5.alloc (.cells #[.int .i64 0, .slice none 0 0] 43)).drew := (laterZ w5.drew (.cells #[.int .i64 0, .slice none 0 0] 43))
        have bG : Blk (w5.alloc (.cells #[.int .i64 0, .slice none 0 0] 43)).drew w5.heap.size 43 [.int .i64 0, .slice none 0 0] := (Blk.new w5 _ _ _ rfl).drew
        refine hK.out _ _ ⟨blk_at (bq.keep la), HCK.out _ (sl.keep la)⟩ (fun hHeld => ?_)
        clear hK K'
        try simp only [Act.put, List.setIfInBounds_toArray, List.set_cons_zero, List.set_cons_succ]
        obtain ⟨G, eG⟩ : ∃ G, G = w5.heap.size := ⟨_, rfl⟩
        have hGQ : Q ≠ G := by rw [eG]; exact Nat.ne_of_lt hqr
        have hGs : w5.drew.heap.size ≤ G := by rw [eG]; exact Nat.le_refl _
        rw [← eG] at bG ⊢
        generalize (w5.alloc (.cells #[.int .i64 0, .slice none 0 0] 43)).drew = wa at la bG hHeld ⊢
        clear eG
        refine wpAnyH_ready (rs := [5]) (by kernel_rfl) (by simp) (AllReadyH.cons (o := ⟨some 55, .call { callee := .value (.func 25), args := #[.tmp 50, .tmp 54], argTypes := #[43, 31] }, _, _, _, none⟩) rfl (fun K' hK => ?_) (AllReadyH.nil))
        go_simp
        refine (HS1.out _ (pt.keep la) (Later.trans_ lr la)).mono ?_
        rintro e w6 ⟨A', c', rfl, q2, qA, l3⟩
        have hGa := bG.lt
        have hAG : ∀ ad, A' = some ad → ad.block ≠ G := fun ad e => by have := qA ad e; omega
        have hla := la.size
        have hAQ : ∀ ad, A' = some ad → ad.block ≠ Q := fun ad e => by have := qA ad e; omega
        replace bG := bG.keep l3
        replace la := Later.trans_ la l3
        refine hK.out _ _ ⟨blk_at (bq.keep la), HCK.out _ (sl.keep la)⟩ (fun hHeld => ?_)
        clear hK K' hla hGa
        try simp only [Act.put, List.setIfInBounds_toArray, List.set_cons_zero, List.set_cons_succ]
        refine wpAnyH_take (i := 6) (oi := ⟨some 49, .move (.tmp 55), _, _, _, none⟩) (v := .tuple #[.agg #[.int .i64 ((k : Int) + 1), .slice A' n' c'], .int .i64 0]) rfl (by kernel_rfl) (by kernel_rfl) (by kernel_rfl) (fun _ _ _ h => h) (Or.inl ⟨by rfl, fun _ _ => rfl⟩) hHeld ?_
        simp only [Act.put, List.setIfInBounds_toArray, List.set_cons_zero, List.set_cons_succ]
        refine wpAnyH_take (i := 7) (oi := ⟨some 56, .extract (.tmp 49) 0, _, _, _, none⟩) (v := .agg #[.int .i64 ((k : Int) + 1), .slice A' n' c']) rfl (by kernel_rfl) (by kernel_rfl) (by kernel_rfl) (fun _ _ _ h => h) (Or.inl ⟨by rfl, fun w _ => by go_simp⟩) hHeld ?_
        simp only [Act.put, List.setIfInBounds_toArray, List.set_cons_zero, List.set_cons_succ]
        refine wpAnyH_take (i := 8) (oi := ⟨some 57, .extract (.tmp 49) 1, _, _, _, none⟩) (v := .int .i64 0) rfl (by kernel_rfl) (by kernel_rfl) (by kernel_rfl) (fun _ _ _ h => h) (Or.inl ⟨by rfl, fun w _ => by go_simp⟩) hHeld ?_
        simp only [Act.put, List.setIfInBounds_toArray, List.set_cons_zero, List.set_cons_succ]
        refine wpAnyH_ready (rs := [10]) (by kernel_rfl) (by simp) (AllReadyH.cons (o := ⟨none, .store 43 (.tmp 8) (.tmp 56), _, _, _, none⟩) rfl (fun K' hK => ?_) (AllReadyH.nil))
        refine wp_store_whole _ _ _ rfl G 43 [.int .i64 0, .slice none 0 0] [.int .i64 ((k : Int) + 1), .slice A' n' c'] rfl rfl bG peaks_sz rfl (pk_one _ _ rfl rfl) ?_
        intro w7 y1 y2
        have k7 : Later w5.drew w7 := Below.only la y2 hGs
        replace bq := bq.keep k7; replace pt := pt.keep k7; replace pk := pk.keep k7; replace sl := sl.keep k7; replace q2 := q2.only y2 hAG
        have lw : Later w w7 := Later.trans_ lr k7
        clear la bG y2 k7
        refine hK.out _ _ ⟨blk_at bq, HCK.out _ sl⟩ (fun hHeld => ?_)
        clear hK K'
        try simp only [Act.put]
        refine wpAnyH_take (i := 11) (oi := ⟨some 9, .assign (.tmp 57), _, _, _, none⟩) (v := .int .i64 0) rfl (by kernel_rfl) (by kernel_rfl) (by kernel_rfl) (fun _ _ _ h => h) (Or.inl ⟨by rfl, fun _ _ => rfl⟩) hHeld ?_
        simp only [Act.put, List.setIfInBounds_toArray, List.set_cons_zero, List.set_cons_succ]
        refine wpAnyH_done (by kernel_rfl) ?_ _
        clear hHeld
        have hq1 := (HCQ.out _ bq).1
        go_wp2_with (first
          | (go_at_call 17; refine (HSM.out (PL l k) A1 A2 cc c2 nn _ HPd.out pt pk HN64).mono ?_; rintro e w8 ⟨rfl, l8⟩; replace bq := bq.keep l8; replace sl := sl.keep l8; replace q2 := q2.keep l8; replace y1 := y1.keep l8; replace lw := Later.trans_ lw l8; clear hq1; have hq0 := (HCQ.out _ bq).2)
          | ((with_reducible refine wpList_load_blk (o := ⟨some 73, .load 43 (.tmp 8), _, _, _, none⟩) rfl _ _ rfl G 43 [.int .i64 ((k : Int) + 1), .slice A' n' c'] _ ?_ y1 Tryd.underlying43 ?_ (pk_sz _ _) ?_); rfl; rfl)
          | ((with_reducible refine wpList_store_abs (o := ⟨none, .store 43 (.tmp 3) (.tmp 73), _, _, _, none⟩) rfl _ _ _ rfl Q 43 [.int .i64 k, .slice A1 nn cc] [.int .i64 ((k : Int) + 1), .slice A' n' c'] ?_ ?_ bq (pk_sz _ _) (pk_len _ _ _ _) (pk_one _ _ ?_ ?_) ?_); rfl; rfl; rfl; rfl; intro w9 z1 z2))
        replace q2 := q2.only z2 hAQ
        replace sl := sl.only z2 (HAQ0.out ad (by omega) rfl)
        replace lw : Later w w9 := Below.only lw z2 hQw
        go_roundw
        case rel => exact ⟨k + 1, A', n', c', by go_num, hlt, HEN, z1, Lib.hid hAQ, q2, sl, lw⟩
        case measure => simp [intOf]; omega

    · obtain rfl : k = n := by omega
      clear hlt hR
      go_wp2_with (go_at_call 9; refine (HSN.out _ lr).mono ?_; rintro e w9 ⟨rfl, l9⟩)
      go_ret
      exact ⟨rfl, Later.trans_ lr l9⟩
end Go.Proofs.YtonfdgbohmcpjabDoor
