/-
  THE WALK OF Of.
-/
import Derived.Test.YtjfphjgmphlbhaaDoorJn
import Derived.Deep.RegionHeld3
namespace Go.Proofs.YtjfphjgmphlbhaaDoor
open Go.RowKit Go.ChangeShapes Go.WideShapes Go.ChangeAt
attribute [local go_sem] Oper.semAt_some

set_option maxRecDepth 100000 in
theorem Sl.grownA {w w' : World} {size n : Nat} {A : Option Addr} {xs : List Value} {row : Option Nat} (h : Sl w size A n xs) (g : w.grownBy w' row) (hne : 0 < n → ∀ ad, A = some ad → some ad.block ≠ row) : Sl w' size A n xs := by
  refine ⟨h.1, fun hn => ?_⟩
  obtain ⟨ad, e, hb, hc⟩ := h.2 hn
  have hblk := g.block ad.block hb (hne hn ad e)
  have hB' : ad.block < w'.heap.size := Nat.lt_of_lt_of_le hb g.size
  refine ⟨ad, e, hB', fun j u hu => ?_⟩
  have := hc j u hu
  unfold World.cell? at this ⊢
  rw [addr_add_block] at this ⊢
  rw [hblk]; exact this
set_option maxRecDepth 100000 in
theorem cell_cells {w : World} {a : Addr} {v : Value} (h : w.cell? a = some v) : ∃ c t f, w.heap[a.block]? = some (.cells c t f) := by
  unfold World.cell? at h
  split at h
  · rename_i c t f hq
    exact ⟨c, t, f, hq⟩
  · cases h
set_option maxRecDepth 100000 in
theorem not_row {w : World} {row : Option Nat} {B H : Nat} {c : Array Value} {t : TypeId} {f : Nat × Nat} (hr : ∀ r, row = some r → H ≤ r ∧ ∃ o : Obj, w.heap[r]? = some o ∧ o.isCells = false) (h : w.heap[B]? = some (.cells c t f)) : some B ≠ row := fun e => by
  obtain ⟨_, o, ho, hc⟩ := hr B e.symm
  rw [h] at ho
  cases ho
  cases hc
set_option maxRecDepth 100000 in
theorem sgs_le (b : Wm.Bs) (k : Nat) : (Im.sgs b k).length ≤ k := by
  induction k with
  | zero => exact Nat.le_refl _
  | succ k ih =>
    rw [Im.sgs, List.length_append]
    unfold Im.pseg
    split
    · simp; omega
    · simp; omega
set_option maxRecDepth 100000 in
theorem sgs_in (b : Wm.Bs) (n : Nat) (hn : n ≤ 64) : inSeg (Im.sgs b n) := by
  induction n with
  | zero => intro x hx; cases hx
  | succ k ih =>
    intro x hx
    rw [Im.sgs] at hx
    rcases List.mem_append.1 hx with hx | hx
    · exact ih (by omega) x hx
    · unfold Im.pseg at hx
      split at hx
      · cases hx
      · obtain rfl := List.mem_singleton.1 hx
        have h1 := Im.core_len (Im.page b k)
        have h2 : (Im.page b k).length ≤ 128 := by unfold Im.page; rw [List.length_take]; exact Nat.min_le_left _ _
        simp only [Im.strN_size]
        omega
set_option maxRecDepth 100000 in
/-- What the loop of Of keeps. -/
def OfI (w0 : World) (G BR H : Nat) (en : Int) (n : Nat) (B' : Option Addr) (md cd' : Nat) (d : Wm.Bs) (pre : List Im.Seg) (W : World) : Prop :=
  ∃ vS, Blk W G 29 [.int .i64 en, .int .i64 (n : Int), vS, .slice B' md cd'] ∧ W.ownsRow H 47 2 vS pre.length (Gs pre) ∧ Blk W BR 29 [.int .i64 0, .int .i64 0, .slice none 0 0, .slice none 0 0] ∧ Sl W 128 B' md (U d) ∧ H ≤ W.heap.size ∧ Below w0.heap.size w0 W
set_option maxRecDepth 100000 in
theorem OfI_own (w0 : World) (G BR H H2 : Nat) (en : Int) (n : Nat) (B' : Option Addr) (md cd' : Nat) (d : Wm.Bs) (hH : w0.heap.size ≤ H2) : OwnFrom H2 (OfI w0 G BR H en n B' md cd' d) := by
  rintro s W W' row ⟨vS, h1, h2, h3, h4, h5, h6⟩ hg hr
  refine ⟨vS, h1.grown hg (not_row hr h1), h2.kept hg ?_, h3.grown hg (not_row hr h3), h4.grownA hg (fun hn ad e => ?_), Nat.le_trans h5 hg.size, h6.grown hg h6.size (fun k e => Nat.le_trans hH (hr k e).1)⟩
  · rcases h2.2 with ⟨rfl, _⟩ | ⟨g, cap, cur, rfl, _, hg2, _⟩
    · exact .inl rfl
    · exact .inr (not_row hr hg2)
  · obtain ⟨ad', e', _, hc⟩ := h4.2 hn
    rw [e] at e'
    cases e'
    have hl := h4.1
    rw [U_length] at hl
    obtain ⟨c, t, f, hq⟩ := cell_cells (hc 0 _ (U_get d 0 (by omega)))
    rw [addr_add_block] at hq
    exact not_row hr hq
set_option maxRecDepth 100000 in
theorem wp_store_abs {P : Program} {o : Oper} {a : Act} {w : World} {K : Act → World → Prop} {Q : Exit → Act → World → Prop} (ty : TypeId) (x y : Operand) (ho : o.op = .store ty x y)
    (g : Nat) (t : TypeId) (old cs : List Value) (hx : a.eval x = .pointer (some ⟨g, 0, none⟩)) (hy : a.eval y = .agg cs.toArray) (hg : Blk w g t old)
    (hi : (P.info? ty).map (·.size) = some cs.length) (hold : old.length = cs.length) (h1 : ∀ v ∈ cs, v.oneCell' = true)
    (h : ∀ w', Blk w' g t cs → Only g w w' → K (a.put o.dst undef) w') : o.wp P a w K Q :=
  wp_store_row ty x y ho g cs.toArray hx hy t old.toArray hg (by rw [List.size_toArray]; exact hi) (by simpa using hold) (all_oneCell_toArray h1) (h _ (hg.row cs) (Only.row _ _ _))
set_option maxRecDepth 100000 in
/-- What hands back pages, wherever they lie, but for what was there. -/
theorem cloneD_any (B : Option Addr) (m cd : Nat) (d : Wm.Bs) (w : World) (hd : Sl w 128 B m (U d)) (hm : m ≤ 64) :
    Calls Tryd.prog 30 #[.slice B m cd] w fun e w' => ∃ B' cd', e = .returned (.slice B' m cd') ∧ m ≤ cd' ∧ cd' ≤ maxLen ∧ Sl w' 128 B' m (U d) ∧ (∀ ad, B' = some ad → w.heap.size ≤ ad.block) ∧ Later w w' := by
  by_cases h1 : 1 ≤ m
  · refine (clone_any B m cd d w hd h1 hm).mono fun e w' ⟨g, c', h1, h2, h3, h4, h5, h6⟩ => ⟨_, c', h1, h3, h4, h5.sl, fun ad e => ?_, h6⟩
    cases e; exact h2
  · obtain rfl : m = 0 := by omega
    obtain rfl : d = [] := List.eq_nil_of_length_eq_zero (by have := hd.1; rw [U_length] at this; omega)
    have hnil := run_eql_nil (P := Tryd.prog) w 22 76 B 0 cd Tryd.underlying22
    cases B with
    | none =>
      go_enter Tryd.func30, Tryd.ntmps30
      go_wp2
      go_ret
      exact ⟨none, 0, rfl, Nat.le_refl _, Nat.zero_le _, Sl.nil _ _ _, fun ad e => (by cases e), later0 _⟩
    | some ad =>
      go_enter Tryd.func30, Tryd.ntmps30
      go_wp2
      go_ret
      exact ⟨some ⟨w.heap.size, 0, none⟩, 0, rfl, Nat.le_refl _, Nat.zero_le _, Sl.nil _ _ _, fun ad e => (by cases e; exact Nat.le_refl _), later1 _ _⟩
set_option maxRecDepth 100000 in
set_option maxHeartbeats 4000000 in
theorem of_ok (A : Option Addr) (n c : Nat) (en : Int) (B : Option Addr) (md cd : Nat) (b d : Wm.Bs) (w : World) (hs : Sl w 128 A n (U b)) (hb : Wm.isBs b) (hd : Sl w 128 B md (U d)) (h1 : 1 ≤ n ∧ n ≤ 64) (hen : Im.entry en ((n * 128 : Nat) : Int) = true) (hm : md ≤ 64) (her : -9223372036854775808 ≤ en ∧ en ≤ 9223372036854775807) :
    Calls Tryd.prog 9 #[.agg #[.slice A n c], .int .i64 en, .slice B md cd] w fun e w' => ∃ v, e = .returned (.tuple #[v, .int .i64 0]) ∧ Img w' v ⟨en, (n : Int), Im.sgs b n, d, md⟩ ∧ Later w w' := by
  have HV := Lib.hid fun w' => valid_any A n c w'
  rw [decide_eq_true h1] at HV
  have HSZ := Lib.hid fun w' => size_any A n c w' h1.2
  have HE := Lib.hid fun w' => isEntry_any en ((n * 128 : Nat) : Int) w'
  rw [hen] at HE
  have HCL := Lib.hid fun w' (hl : Later w w') => cloneD_any B md cd d w' (hd.keep hl) hm
  have hmd : ¬ ((md : Int) > 64) := by omega
  obtain ⟨sI, hgi, hgz, hgs, hgb⟩ := info_parts seg_info
  have HGI := Lib.hid (show _ ∧ _ ∧ _ ∧ _ from ⟨hgi, hgz, hgs, hgb⟩)
  clear hgi hgz hgs hgb
  have HLS := Lib.hid (sgs_le b n)
  have HS9 := Lib.hid fun w' (hl : Later w w') => hs.keep hl
  have HB := Lib.hid hb
  have H1 := Lib.hid h1
  have HAD := Lib.hid (show ∀ ad, A = some ad → ad.block < w.heap.size from fun ad e => by
    obtain ⟨_, e2, h3, _⟩ := hs.2 (by omega)
    rw [e] at e2; cases e2; exact h3)
  clear hs hb hd hen
  refine (callsIn_wide (n := 3)).1 (callsIn_of_wp_marks Tryd.func9 rfl trivial ?_ rfl)
  simp only [Tryd.ntmps9, List.size_toArray, List.length_cons, List.length_nil, Nat.reduceAdd, Nat.reduceSub, Array.replicate_succ, Array.replicate_zero, List.push_toArray, List.append_toArray, List.nil_append, List.cons_append]
  refine wpIn_wide.2 ?_
  have b3 := (Blk.new w 24 #[.slice A n c] [.slice A n c] rfl).alloc (.cells #[.int .i64 0, .int .i64 0, .slice none 0 0, .slice none 0 0] 29)
  have bR := Blk.new' (w.alloc (.cells #[.slice A n c] 24)) (w.heap.size + 1) 29 #[.int .i64 0, .int .i64 0, .slice none 0 0, .slice none 0 0] [.int .i64 0, .int .i64 0, .slice none 0 0, .slice none 0 0] (by simp) rfl
  have lr := (later1 w (.cells #[.slice A n c] 24)).alloc (by simp) (.cells #[.int .i64 0, .int .i64 0, .slice none 0 0, .slice none 0 0] 29)
  go_wp2_with (first
    | (go_at_call 27; refine (HV.out _).mono ?_; rintro e w1 ⟨rfl, l1⟩; replace b3 := b3.keep l1; replace bR := bR.keep l1; replace lr := Later.trans_ lr l1; have c3 := b3.cell (j := 0) (v := .slice A n c) rfl)
    | (go_at_call 29; refine (HSZ.out _).mono ?_; rintro e w2 ⟨rfl, l2⟩; replace b3 := b3.keep l2; replace bR := bR.keep l2; replace lr := Later.trans_ lr l2; have c3' := b3.cell (j := 0) (v := .slice A n c) rfl)
    | (go_at_call 28; refine (HE.out _).mono ?_; rintro e w9 ⟨rfl, rfl⟩))
  have hszR : w.heap.size + 2 ≤ w2.heap.size := by have := bR.lt; omega
  clear c3 c3' l1 l2
  replace b3 := b3.drew
  replace bR := bR.drew
  replace lr := lr.drew
  refine wp_region_noPanic ?_
  refine wp_region_held_drew (S := fun w' => w'.cell? ⟨w.heap.size, 0, none⟩ = some (.slice A n c)) (by kernel_rfl) (b3.cell (j := 0) rfl) (fun hHeld => ?_)
  refine wpAnyH_take (i := 0) (oi := ⟨some 27, .move (.tmp 1), _, _, _, none⟩) (v := .int .i64 en) rfl (by kernel_rfl) (by kernel_rfl) (by kernel_rfl) (fun _ _ _ h => h) (Or.inl ⟨by rfl, fun _ _ => rfl⟩) hHeld ?_
  simp only [Act.put, List.setIfInBounds_toArray, List.set_cons_zero, List.set_cons_succ]
  refine wpAnyH_take (i := 1) (oi := ⟨some 28, .fieldAddr 24 (.tmp 3) 0, _, _, _, none⟩) (v := .pointer (some ⟨w.heap.size, 0, none⟩)) rfl (by kernel_rfl) (by kernel_rfl) (by kernel_rfl) (fun _ _ _ h => h) (Or.inl ⟨by rfl, fun w _ => by go_simp⟩) hHeld ?_
  simp only [Act.put, List.setIfInBounds_toArray, List.set_cons_zero, List.set_cons_succ]
  refine wpAnyH_take (i := 2) (oi := ⟨some 29, .load 22 (.tmp 28), _, _, _, none⟩) (v := .slice A n c) rfl (by kernel_rfl) (by kernel_rfl) (by kernel_rfl) (fun _ _ _ h => h) (Or.inl ⟨by rfl, fun w hS => by have h0 := hS; go_simp⟩) hHeld ?_
  simp only [Act.put, List.setIfInBounds_toArray, List.set_cons_zero, List.set_cons_succ]
  refine wpAnyH_take (i := 3) (oi := ⟨some 30, .call { callee := .builtin .len, args := #[.tmp 29], argTypes := #[22] }, _, _, _, none⟩) (v := .int .i64 (n : Int)) rfl (by kernel_rfl) (by kernel_rfl) (by kernel_rfl) (fun _ _ _ h => h) (Or.inl ⟨by rfl, fun w _ => by go_simp⟩) hHeld ?_
  simp only [Act.put, List.setIfInBounds_toArray, List.set_cons_zero, List.set_cons_succ]
  refine wpAnyH_take (i := 4) (oi := ⟨some 31, .move (.tmp 2), _, _, _, none⟩) (v := .slice B md cd) rfl (by kernel_rfl) (by kernel_rfl) (by kernel_rfl) (fun _ _ _ h => h) (Or.inl ⟨by rfl, fun _ _ => rfl⟩) hHeld ?_
  simp only [Act.put, List.setIfInBounds_toArray, List.set_cons_zero, List.set_cons_succ]
  refine wpAnyH_ready (rs := [5, 7]) (by kernel_rfl) (by simp) (AllReadyH.cons (o := ⟨some 32, .call { callee := .value (.func 30), args := #[.tmp 31], argTypes := #[22] }, _, _, _, none⟩) rfl (fun K' hK => ?_) (AllReadyH.cons (o := ⟨some 8, .alloc 29, _, _, _, none⟩) rfl (fun K' hK => ?_) AllReadyH.nil))
  · go_simp
    refine (HCL.out _ lr).mono ?_
    rintro e w4 ⟨B', cd', rfl, m1, m2, sD, mB, l4⟩
    replace b3 := b3.keep l4
    replace bR := bR.keep l4
    replace lr := Later.trans_ lr l4
    refine hK.out _ _ (b3.cell (j := 0) rfl) (fun hHeld => ?_)
    clear hK K'
    try simp only [Act.put, List.setIfInBounds_toArray, List.set_cons_zero, List.set_cons_succ]
    refine wpAnyH_take (i := 6) (oi := ⟨some 33, .build 29 #[(0, .tmp 27), (1, .tmp 30), (3, .tmp 32)], _, _, _, none⟩) (v := .agg #[.int .i64 en, .int .i64 (n : Int), .slice none 0 0, .slice B' md cd']) rfl (by kernel_rfl) (by kernel_rfl) (by kernel_rfl) (fun _ _ _ h => h) (Or.inl ⟨by rfl, fun w _ => by go_simp⟩) hHeld ?_
    simp only [Act.put, List.setIfInBounds_toArray, List.set_cons_zero, List.set_cons_succ]
    refine wpAnyH_ready (rs := [7]) (by kernel_rfl) (by simp) (AllReadyH.cons (o := ⟨some 8, .alloc 29, _, _, _, none⟩) rfl (fun K' hK => ?_) AllReadyH.nil)
    go_simp
    have bI : Blk (w4.alloc (.cells #[.int .i64 0, .int .i64 0, .slice none 0 0, .slice none 0 0] 29)) w4.heap.size 29 [.int .i64 0, .int .i64 0, .slice none 0 0, .slice none 0 0] := Blk.new w4 29 #[.int .i64 0, .int .i64 0, .slice none 0 0, .slice none 0 0] [.int .i64 0, .int .i64 0, .slice none 0 0, .slice none 0 0] rfl
    replace b3 := b3.alloc (.cells #[.int .i64 0, .int .i64 0, .slice none 0 0, .slice none 0 0] 29)
    replace bR := bR.alloc (.cells #[.int .i64 0, .int .i64 0, .slice none 0 0, .slice none 0 0] 29)
    replace lr := lr.alloc lr.size (.cells #[.int .i64 0, .int .i64 0, .slice none 0 0, .slice none 0 0] 29)
    obtain ⟨G, hG⟩ : ∃ G, G = w4.heap.size := ⟨_, rfl⟩
    have hG2 : w2.heap.size ≤ G := by rw [hG]; exact l4.size
    have sDG : ∀ ad, B' = some ad → 0 < md → ad.block ≠ G := fun ad e h => by
      obtain ⟨_, e2, h3, _⟩ := sD.2 h
      rw [e] at e2
      cases e2
      omega
    replace sD := sD.alloc (.cells #[.int .i64 0, .int .i64 0, .slice none 0 0, .slice none 0 0] 29)
    refine hK.out _ _ (b3.cell (j := 0) rfl) (fun hHeld => ?_)
    clear hK K'
    try simp only [Act.put, List.setIfInBounds_toArray, List.set_cons_zero, List.set_cons_succ]
    refine wpAnyH_ready (rs := [8]) (by kernel_rfl) (by simp) (AllReadyH.cons (o := ⟨none, .store 29 (.tmp 8) (.tmp 33), _, _, _, none⟩) rfl (fun K' hK => ?_) AllReadyH.nil)
    refine wp_store_abs 29 _ _ rfl _ 29 [.int .i64 0, .int .i64 0, .slice none 0 0, .slice none 0 0] [.int .i64 en, .int .i64 (n : Int), .slice none 0 0, .slice B' md cd'] rfl rfl bI (img_sz _ _ _ _) rfl (img_one _ _ _ _ _ _ _ _) ?_
    intro w8 b8 o8
    rw [← hG] at b8 o8
    replace b3 := b3.only o8 (by omega)
    replace bR := bR.only o8 (by omega)
    replace sD := sD.lx (Lx.only o8) (fun hn ad e => sDG ad e hn)
    replace lr := Below.only lr o8 (by omega)
    refine hK.out _ _ (b3.cell (j := 0) rfl) (fun hHeld => ?_)
    clear hK K'
    try simp only [Act.put]
    refine wpAnyH_done (by kernel_rfl) ?_ _
    clear hHeld
    refine NoPanic.normal ?_
    rw [← hG]
    clear hG bI
    have c3 := b3.cell (j := 0) (v := .slice A n c) rfl
    go_wp2_with (first
      | (go_at_call 31; refine (segments_any _ _).mono ?_; rintro e w9 ⟨rfl, rfl⟩))
    have hG8 := b8.lt
    have hsD : 0 < md → ∀ ad, B' = some ad → ad.block < w8.heap.size := fun h ad e => by
      obtain ⟨_, e2, h3, _⟩ := sD.2 h
      rw [e] at e2; cases e2; exact h3
    have cM := (Blk.new w8 24 #[.slice A n c] [.slice A n c] rfl).cell (j := 0) (v := .slice A n c) rfl
    replace b8 := b8.alloc (.cells #[.slice A n c] 24)
    replace bR := bR.alloc (.cells #[.slice A n c] 24)
    replace sD := sD.alloc (.cells #[.slice A n c] 24)
    have lr9 := lr.alloc lr.size (.cells #[.slice A n c] 24)
    have hsz9 : (w8.alloc (.cells #[.slice A n c] 24)).heap.size = w8.heap.size + 1 := by simp
    have hlr := lr.size
    obtain ⟨wF, hwF⟩ : ∃ wF, wF = w8.alloc (.cells #[.slice A n c] 24) := ⟨_, rfl⟩
    rw [← hwF] at b8 bR sD lr9 cM hsz9 ⊢
    clear hwF b3 lr c3
    have hs9 := HS9.out _ lr9
    refine (wpIn_wide (n := 3)).1 ?_
    refine wpIn_rangeFunc_ownH rfl (by decide) (gf := 53) (lb := #[.pointer (some ⟨w8.heap.size, 0, none⟩)]) rfl trivial (enters_of Tryd.func53 (by kernel_rfl) rfl)
      (segments_stops 2 w8.heap.size w.heap.size A n c b wF (by omega) cM hs9 HB.out H1.out.1 H1.out.2 (fun ad e _ => HAD.out ad e) lr9.size)
      belowK_t (belowK_b lr9.size) (Below.refl _ _) (fun _ => rfl)
      (OfI w G (w.heap.size + 1) w8.heap.size en n B' md cd' d) (fun _ _ _ => False)
      (OfI_own w G (w.heap.size + 1) w8.heap.size wF.heap.size en n B' md cd' d lr9.size) (fun _ _ _ _ _ hs _ _ => hs)
      ⟨.slice none 0 0, b8, World.ownsRow_nil _ _ _ _, bR, sD, by omega, lr9⟩
      (fun x a' W => ∃ Bx, w8.heap.size ≤ Bx ∧ Blk W Bx 47 [.int .i64 x.1, .string x.2] ∧ a' = { tmps := #[.agg #[.slice A n c], .int .i64 en, .slice B md cd, .pointer (some ⟨w.heap.size, 0, none⟩), undef, undef, .pointer (some ⟨w.heap.size + 1, 0, none⟩), .int .i64 0, .pointer (some ⟨G, 0, none⟩), .pointer (some ⟨Bx, 0, none⟩), .bool false, .agg #[.slice A n c], .bool true, .bool false, undef, .bool false, .int .i64 en, .agg #[.slice A n c], .int .i64 ((n : Int) * 128), .bool true, .bool false, undef, .bool (decide (64 < (md : Int))), .slice B md cd, .int .i64 (md : Int), .bool (decide (64 < (md : Int))), undef, .int .i64 en, .pointer (some ⟨w.heap.size, 0, none⟩), .slice A n c, .int .i64 (n : Int), .slice B md cd, .slice B' md cd', .agg #[.int .i64 en, .int .i64 (n : Int), .slice none 0 0, .slice B' md cd'], .agg #[.slice A n c], .func (.func 53) #[] #[.pointer (some ⟨w8.heap.size, 0, none⟩)], .agg #[.int .i64 x.1, .string x.2], undef, undef, undef, undef, undef, undef, undef], defers := [] })
      (fun x a' => by
        rintro s W W' row ⟨Bx, h1, h2, h3⟩ hg hr
        exact ⟨Bx, h1, h2.grown hg (not_row hr h2), h3⟩) ?assign ?body ?done ?stop
    case assign =>
      rintro l pre x W K ⟨vS, i1, i2, i3, i4, i5, i6⟩ hK
      dsimp only [encSeg]
      gi_wp2
      refine hK _ _ ((KeepsOthers.alloc _ _).from _) ((Below.refl _ W).alloc i6.size _) ⟨vS, i1.alloc _, i2.alloc _, i3.alloc _, i4.alloc _, Nat.le_trans i5 (by simp), i6.alloc i6.size _⟩ ⟨W.heap.size, i5, Blk.new W _ _ _ rfl, rfl⟩
    case body =>
      rintro l pre x a' W hl ⟨r, hr⟩ ⟨vS, i1, i2, i3, i4, i5, i6⟩ ⟨Bx, hBx, bX, rfl⟩ hlt
      have hpl : pre.length < 64 := by have := HLS.out; have := H1.out.2; omega
      have c2 := i1.cell (j := 2) (v := vS) rfl
      have x0 := bX.cell (j := 0) (v := .int .i64 x.1) rfl
      have x1 := bX.cell (j := 1) (v := .string x.2) rfl
      have hGW := i1.lt
      gi_wp2_with (first
        | (gi_at_builtin; refine wpListIn_append_own _ rfl _ _ 27 rfl w8.heap.size 47 sI _ 2 24 Tryd.underlying27 HGI.out.1 HGI.out.2.1 HGI.out.2.2.1 HGI.out.2.2.2 rfl (by decide) _ _ _ rfl (i2.alloc _) ⟨W.heap.size, 0, none⟩ 1 1 [.int .i64 x.1, .string x.2] rfl rfl (news_blk (Blk.new W _ _ _ rfl)) (seg_one _ _) (by unfold maxLen; omega) (by omega) (Nat.le_trans i5 (by simp)) ?_; intro v' w1 hown' hgrow0 _; have hgrow : (W.alloc (.cells #[.int .i64 x.1, .string x.2] 47)).grownBy w1 vS.ownBlock := hgrow0; clear hgrow0; obtain ⟨g', cap', rfl⟩ := ownsRow_succ hown'; have hlo := fun k (hk : vS.ownBlock = some k) => (i2.lt k hk).1; have j1 := (i1.alloc (.cells #[.int .i64 x.1, .string x.2] 47)).grown hgrow (fun e => by have := hlo _ e.symm; omega); have cI := j1.cell (j := 2) (v := vS) rfl; have fI := j1.frz 2))
      have hg' := (hown'.lt g' rfl).1
      have k1 : Below w.heap.size W w1 := ((Below.refl _ W).alloc i6.size _).grown hgrow (Nat.le_trans i6.size (by simp)) (fun k hk => Nat.le_trans hlr (hlo k hk))
      have k2 : Below w.heap.size W (w1.setCell ⟨G, 2, none⟩ (.slice (some ⟨g', 0, none⟩) (pre.length + 1) cap')) := k1.setCell (p := ⟨G, 2, none⟩) (by show w.heap.size ≤ G; omega) _
      have j3 := (i3.alloc (.cells #[.int .i64 x.1, .string x.2] 47)).grown hgrow (fun e => by have := hlo _ e.symm; omega)
      have j4 := (i4.alloc (.cells #[.int .i64 x.1, .string x.2] 47)).grownA hgrow (fun hn ad e e2 => by have := hlo _ e2.symm; have := hsD hn ad e; omega)
      refine ⟨?_, k2, .slice (some ⟨g', 0, none⟩) (pre.length + 1) cap', j1.set 2 _, ?_, j3.set_other ⟨G, 2, none⟩ _ (by show w.heap.size + 1 ≠ G; omega), j4.lx (Lx.only (Only.set w1 G 2 _)) (fun hn ad e => sDG ad e hn), ?_, i6.trans k2⟩
      · refine KeepsOthers.from ((KeepsOthers.alloc W _).trans ((KeepsOthers.of_grownBy hgrow ?_).trans (KeepsOthers.setCell _ _ _))) _
        intro j o hj ho
        rcases (i2.alloc (.cells #[.int .i64 x.1, .string x.2] 47)).2 with ⟨rfl, _⟩ | ⟨g2, cap2, cur2, rfl, _, hq, _⟩
        · cases hj
        · have e : g2 = j := by simpa [Value.ownBlock] using hj
          rw [← e, hq] at ho
          cases ho
          rfl
      · rw [Gs_snoc, List.length_append, List.length_singleton]
        exact own_only1 hown' (Only.set w1 G 2 _) (by omega)
      · have := hgrow.size
        simp only [World.size_alloc] at this
        simp only [World.size_setCell]
        omega
    case done =>
      rintro D ys W hD rfl ⟨vS, i1, i2, i3, i4, i5, i6⟩ hK
      obtain ⟨A7, c7, rfl, k1, k2, k3, k4⟩ := own_form i2
      go_wp2_with (first
        | ((with_reducible refine wpList_load_blk (o := ⟨some 43, .load 29 (.tmp 8), _, _, _, none⟩) rfl _ _ rfl G 29 [.int .i64 en, .int .i64 (n : Int), .slice A7 (Im.sgs b n).length c7, .slice B' md cd'] _ ?_ i1 Tryd.underlying29 rfl (img_sz _ _ _ _) ?_); rfl)
        | ((with_reducible refine wpList_store_abs (o := ⟨none, .store 29 (.tmp 6) (.tmp 43), _, _, _, none⟩) rfl _ _ _ rfl (w.heap.size + 1) 29 [.int .i64 0, .int .i64 0, .slice none 0 0, .slice none 0 0] [.int .i64 en, .int .i64 (n : Int), .slice A7 (Im.sgs b n).length c7, .slice B' md cd'] ?_ ?_ i3 (img_sz _ _ _ _) rfl (img_one _ _ _ _ _ _ _ _) ?_); rfl; rfl; intro wz bz oz))
      have hKz : wz.heap[D]? = some (.deferred (some [])) := by rw [oz.2.2.2.2 D (by omega)]; exact hK
      have s1 := k3.lx (Lx.only oz) (fun hn ad e => by have := (k4 ad e).1; omega)
      have s2 := i4.lx (Lx.only oz) (fun hn ad e => u8_far i4 i3 hn e)
      have lz : Below w.heap.size w wz := Below.only i6 oz (by omega)
      have gz := grownBy_putObj' wz D (.deferred none)
      have ex := fun (A : Option Addr) (n size : Nat) (xs : List Value) (h : Sl wz size A n xs) (hx : 0 < n → 0 < xs.length) => h.grownA gz (fun hn ad e => by
        obtain ⟨ad', e', _, hc⟩ := h.2 hn
        rw [e] at e'
        cases e'
        obtain ⟨c, t, f, hq⟩ := cell_cells (hc 0 _ (List.getElem?_eq_getElem (hx hn)))
        rw [addr_add_block] at hq
        intro e2
        have e3 : ad.block = D := Option.some.inj e2
        rw [e3, hKz] at hq
        cases hq)
      have hneD : some (w.heap.size + 1) ≠ some D := fun e => by have := Option.some.inj e; omega
      have t1 := ex A7 _ 2 _ s1 (fun h => by rw [Gs_len]; omega)
      have t2 := ex B' md 128 _ s2 (fun h => by have := s2.1; rw [this]; omega)
      refine ⟨by simp, .inl ⟨_, _, rfl, run_takeDeferred hKz, ?_⟩⟩
      refine ⟨.tuple #[.agg #[.int .i64 en, .int .i64 (n : Int), .slice A7 (Im.sgs b n).length c7, .slice B' md cd'], .int .i64 0], results_cell_tmp Tryd.results9 _ _ (w.heap.size + 1) 29 [.int .i64 en, .int .i64 (n : Int), .slice A7 (Im.sgs b n).length c7, .slice B' md cd'] _ _ rfl rfl (bz.grown gz hneD) Tryd.underlying29 rfl (img_sz _ _ _ _), _, rfl, ⟨A7, _, c7, B', cd', rfl, t1, t2, ?_, ?_, ?_, her, ?_, m1, m2⟩, ?_⟩
      · exact sgs_in b n H1.out.2
      · have := HLS.out; omega
      · show md ≤ 1000000; omega
      · show -9223372036854775808 ≤ (n : Int) ∧ (n : Int) ≤ 9223372036854775807; omega
      · exact lz.trans (belowK_b (w := w) (Nat.le_refl _) wz D _ _ (by omega) hKz rfl rfl)
    case stop =>
      rintro D c pre W _ _ h _
      exact h.elim
  · go_simp
    have bI : Blk (w2.drew.alloc (.cells #[.int .i64 0, .int .i64 0, .slice none 0 0, .slice none 0 0] 29)) w2.heap.size 29 [.int .i64 0, .int .i64 0, .slice none 0 0, .slice none 0 0] := Blk.new w2.drew 29 #[.int .i64 0, .int .i64 0, .slice none 0 0, .slice none 0 0] [.int .i64 0, .int .i64 0, .slice none 0 0, .slice none 0 0] rfl
    replace b3 := b3.alloc (.cells #[.int .i64 0, .int .i64 0, .slice none 0 0, .slice none 0 0] 29)
    replace bR := bR.alloc (.cells #[.int .i64 0, .int .i64 0, .slice none 0 0, .slice none 0 0] 29)
    replace lr := lr.alloc lr.size (.cells #[.int .i64 0, .int .i64 0, .slice none 0 0, .slice none 0 0] 29)
    obtain ⟨G, hG⟩ : ∃ G, G = w2.heap.size := ⟨_, rfl⟩
    have hG2 : w2.heap.size ≤ G := by rw [hG]; exact Nat.le_refl _
    refine hK.out _ _ (b3.cell (j := 0) rfl) (fun hHeld => ?_)
    clear hK K'
    try simp only [Act.put, List.setIfInBounds_toArray, List.set_cons_zero, List.set_cons_succ]
    refine wpAnyH_ready (rs := [5]) (by kernel_rfl) (by simp) (AllReadyH.cons (o := ⟨some 32, .call { callee := .value (.func 30), args := #[.tmp 31], argTypes := #[22] }, _, _, _, none⟩) rfl (fun K' hK => ?_) AllReadyH.nil)
    go_simp
    refine (HCL.out _ lr).mono ?_
    rintro e w4 ⟨B', cd', rfl, m1, m2, sD, mB, l4⟩
    replace b3 := b3.keep l4
    replace bR := bR.keep l4
    replace lr := Later.trans_ lr l4
    replace bI := bI.keep l4
    have sDG : ∀ ad, B' = some ad → 0 < md → ad.block ≠ G := fun ad e _ => by
      have h1 := mB ad e
      have h2 : w2.heap.size + 1 ≤ ad.block := by simpa using h1
      rw [hG]
      show ad.block ≠ w2.heap.size
      omega
    refine hK.out _ _ (b3.cell (j := 0) rfl) (fun hHeld => ?_)
    clear hK K'
    try simp only [Act.put, List.setIfInBounds_toArray, List.set_cons_zero, List.set_cons_succ]
    refine wpAnyH_take (i := 6) (oi := ⟨some 33, .build 29 #[(0, .tmp 27), (1, .tmp 30), (3, .tmp 32)], _, _, _, none⟩) (v := .agg #[.int .i64 en, .int .i64 (n : Int), .slice none 0 0, .slice B' md cd']) rfl (by kernel_rfl) (by kernel_rfl) (by kernel_rfl) (fun _ _ _ h => h) (Or.inl ⟨by rfl, fun w _ => by go_simp⟩) hHeld ?_
    simp only [Act.put, List.setIfInBounds_toArray, List.set_cons_zero, List.set_cons_succ]
    refine wpAnyH_ready (rs := [8]) (by kernel_rfl) (by simp) (AllReadyH.cons (o := ⟨none, .store 29 (.tmp 8) (.tmp 33), _, _, _, none⟩) rfl (fun K' hK => ?_) AllReadyH.nil)
    refine wp_store_abs 29 _ _ rfl _ 29 [.int .i64 0, .int .i64 0, .slice none 0 0, .slice none 0 0] [.int .i64 en, .int .i64 (n : Int), .slice none 0 0, .slice B' md cd'] rfl rfl bI (img_sz _ _ _ _) rfl (img_one _ _ _ _ _ _ _ _) ?_
    intro w8 b8 o8
    rw [← hG] at b8 o8
    replace b3 := b3.only o8 (by omega)
    replace bR := bR.only o8 (by omega)
    replace sD := sD.lx (Lx.only o8) (fun hn ad e => sDG ad e hn)
    replace lr := Below.only lr o8 (by omega)
    refine hK.out _ _ (b3.cell (j := 0) rfl) (fun hHeld => ?_)
    clear hK K'
    try simp only [Act.put]
    refine wpAnyH_done (by kernel_rfl) ?_ _
    clear hHeld
    refine NoPanic.normal ?_
    rw [← hG]
    clear hG bI
    have c3 := b3.cell (j := 0) (v := .slice A n c) rfl
    go_wp2_with (first
      | (go_at_call 31; refine (segments_any _ _).mono ?_; rintro e w9 ⟨rfl, rfl⟩))
    have hG8 := b8.lt
    have hsD : 0 < md → ∀ ad, B' = some ad → ad.block < w8.heap.size := fun h ad e => by
      obtain ⟨_, e2, h3, _⟩ := sD.2 h
      rw [e] at e2; cases e2; exact h3
    have cM := (Blk.new w8 24 #[.slice A n c] [.slice A n c] rfl).cell (j := 0) (v := .slice A n c) rfl
    replace b8 := b8.alloc (.cells #[.slice A n c] 24)
    replace bR := bR.alloc (.cells #[.slice A n c] 24)
    replace sD := sD.alloc (.cells #[.slice A n c] 24)
    have lr9 := lr.alloc lr.size (.cells #[.slice A n c] 24)
    have hsz9 : (w8.alloc (.cells #[.slice A n c] 24)).heap.size = w8.heap.size + 1 := by simp
    have hlr := lr.size
    obtain ⟨wF, hwF⟩ : ∃ wF, wF = w8.alloc (.cells #[.slice A n c] 24) := ⟨_, rfl⟩
    rw [← hwF] at b8 bR sD lr9 cM hsz9 ⊢
    clear hwF b3 lr c3
    have hs9 := HS9.out _ lr9
    refine (wpIn_wide (n := 3)).1 ?_
    refine wpIn_rangeFunc_ownH rfl (by decide) (gf := 53) (lb := #[.pointer (some ⟨w8.heap.size, 0, none⟩)]) rfl trivial (enters_of Tryd.func53 (by kernel_rfl) rfl)
      (segments_stops 2 w8.heap.size w.heap.size A n c b wF (by omega) cM hs9 HB.out H1.out.1 H1.out.2 (fun ad e _ => HAD.out ad e) lr9.size)
      belowK_t (belowK_b lr9.size) (Below.refl _ _) (fun _ => rfl)
      (OfI w G (w.heap.size + 1) w8.heap.size en n B' md cd' d) (fun _ _ _ => False)
      (OfI_own w G (w.heap.size + 1) w8.heap.size wF.heap.size en n B' md cd' d lr9.size) (fun _ _ _ _ _ hs _ _ => hs)
      ⟨.slice none 0 0, b8, World.ownsRow_nil _ _ _ _, bR, sD, by omega, lr9⟩
      (fun x a' W => ∃ Bx, w8.heap.size ≤ Bx ∧ Blk W Bx 47 [.int .i64 x.1, .string x.2] ∧ a' = { tmps := #[.agg #[.slice A n c], .int .i64 en, .slice B md cd, .pointer (some ⟨w.heap.size, 0, none⟩), undef, undef, .pointer (some ⟨w.heap.size + 1, 0, none⟩), .int .i64 0, .pointer (some ⟨G, 0, none⟩), .pointer (some ⟨Bx, 0, none⟩), .bool false, .agg #[.slice A n c], .bool true, .bool false, undef, .bool false, .int .i64 en, .agg #[.slice A n c], .int .i64 ((n : Int) * 128), .bool true, .bool false, undef, .bool (decide (64 < (md : Int))), .slice B md cd, .int .i64 (md : Int), .bool (decide (64 < (md : Int))), undef, .int .i64 en, .pointer (some ⟨w.heap.size, 0, none⟩), .slice A n c, .int .i64 (n : Int), .slice B md cd, .slice B' md cd', .agg #[.int .i64 en, .int .i64 (n : Int), .slice none 0 0, .slice B' md cd'], .agg #[.slice A n c], .func (.func 53) #[] #[.pointer (some ⟨w8.heap.size, 0, none⟩)], .agg #[.int .i64 x.1, .string x.2], undef, undef, undef, undef, undef, undef, undef], defers := [] })
      (fun x a' => by
        rintro s W W' row ⟨Bx, h1, h2, h3⟩ hg hr
        exact ⟨Bx, h1, h2.grown hg (not_row hr h2), h3⟩) ?assign ?body ?done ?stop
    case assign =>
      rintro l pre x W K ⟨vS, i1, i2, i3, i4, i5, i6⟩ hK
      dsimp only [encSeg]
      gi_wp2
      refine hK _ _ ((KeepsOthers.alloc _ _).from _) ((Below.refl _ W).alloc i6.size _) ⟨vS, i1.alloc _, i2.alloc _, i3.alloc _, i4.alloc _, Nat.le_trans i5 (by simp), i6.alloc i6.size _⟩ ⟨W.heap.size, i5, Blk.new W _ _ _ rfl, rfl⟩
    case body =>
      rintro l pre x a' W hl ⟨r, hr⟩ ⟨vS, i1, i2, i3, i4, i5, i6⟩ ⟨Bx, hBx, bX, rfl⟩ hlt
      have hpl : pre.length < 64 := by have := HLS.out; have := H1.out.2; omega
      have c2 := i1.cell (j := 2) (v := vS) rfl
      have x0 := bX.cell (j := 0) (v := .int .i64 x.1) rfl
      have x1 := bX.cell (j := 1) (v := .string x.2) rfl
      have hGW := i1.lt
      gi_wp2_with (first
        | (gi_at_builtin; refine wpListIn_append_own _ rfl _ _ 27 rfl w8.heap.size 47 sI _ 2 24 Tryd.underlying27 HGI.out.1 HGI.out.2.1 HGI.out.2.2.1 HGI.out.2.2.2 rfl (by decide) _ _ _ rfl (i2.alloc _) ⟨W.heap.size, 0, none⟩ 1 1 [.int .i64 x.1, .string x.2] rfl rfl (news_blk (Blk.new W _ _ _ rfl)) (seg_one _ _) (by unfold maxLen; omega) (by omega) (Nat.le_trans i5 (by simp)) ?_; intro v' w1 hown' hgrow0 _; have hgrow : (W.alloc (.cells #[.int .i64 x.1, .string x.2] 47)).grownBy w1 vS.ownBlock := hgrow0; clear hgrow0; obtain ⟨g', cap', rfl⟩ := ownsRow_succ hown'; have hlo := fun k (hk : vS.ownBlock = some k) => (i2.lt k hk).1; have j1 := (i1.alloc (.cells #[.int .i64 x.1, .string x.2] 47)).grown hgrow (fun e => by have := hlo _ e.symm; omega); have cI := j1.cell (j := 2) (v := vS) rfl; have fI := j1.frz 2))
      have hg' := (hown'.lt g' rfl).1
      have k1 : Below w.heap.size W w1 := ((Below.refl _ W).alloc i6.size _).grown hgrow (Nat.le_trans i6.size (by simp)) (fun k hk => Nat.le_trans hlr (hlo k hk))
      have k2 : Below w.heap.size W (w1.setCell ⟨G, 2, none⟩ (.slice (some ⟨g', 0, none⟩) (pre.length + 1) cap')) := k1.setCell (p := ⟨G, 2, none⟩) (by show w.heap.size ≤ G; omega) _
      have j3 := (i3.alloc (.cells #[.int .i64 x.1, .string x.2] 47)).grown hgrow (fun e => by have := hlo _ e.symm; omega)
      have j4 := (i4.alloc (.cells #[.int .i64 x.1, .string x.2] 47)).grownA hgrow (fun hn ad e e2 => by have := hlo _ e2.symm; have := hsD hn ad e; omega)
      refine ⟨?_, k2, .slice (some ⟨g', 0, none⟩) (pre.length + 1) cap', j1.set 2 _, ?_, j3.set_other ⟨G, 2, none⟩ _ (by show w.heap.size + 1 ≠ G; omega), j4.lx (Lx.only (Only.set w1 G 2 _)) (fun hn ad e => sDG ad e hn), ?_, i6.trans k2⟩
      · refine KeepsOthers.from ((KeepsOthers.alloc W _).trans ((KeepsOthers.of_grownBy hgrow ?_).trans (KeepsOthers.setCell _ _ _))) _
        intro j o hj ho
        rcases (i2.alloc (.cells #[.int .i64 x.1, .string x.2] 47)).2 with ⟨rfl, _⟩ | ⟨g2, cap2, cur2, rfl, _, hq, _⟩
        · cases hj
        · have e : g2 = j := by simpa [Value.ownBlock] using hj
          rw [← e, hq] at ho
          cases ho
          rfl
      · rw [Gs_snoc, List.length_append, List.length_singleton]
        exact own_only1 hown' (Only.set w1 G 2 _) (by omega)
      · have := hgrow.size
        simp only [World.size_alloc] at this
        simp only [World.size_setCell]
        omega
    case done =>
      rintro D ys W hD rfl ⟨vS, i1, i2, i3, i4, i5, i6⟩ hK
      obtain ⟨A7, c7, rfl, k1, k2, k3, k4⟩ := own_form i2
      go_wp2_with (first
        | ((with_reducible refine wpList_load_blk (o := ⟨some 43, .load 29 (.tmp 8), _, _, _, none⟩) rfl _ _ rfl G 29 [.int .i64 en, .int .i64 (n : Int), .slice A7 (Im.sgs b n).length c7, .slice B' md cd'] _ ?_ i1 Tryd.underlying29 rfl (img_sz _ _ _ _) ?_); rfl)
        | ((with_reducible refine wpList_store_abs (o := ⟨none, .store 29 (.tmp 6) (.tmp 43), _, _, _, none⟩) rfl _ _ _ rfl (w.heap.size + 1) 29 [.int .i64 0, .int .i64 0, .slice none 0 0, .slice none 0 0] [.int .i64 en, .int .i64 (n : Int), .slice A7 (Im.sgs b n).length c7, .slice B' md cd'] ?_ ?_ i3 (img_sz _ _ _ _) rfl (img_one _ _ _ _ _ _ _ _) ?_); rfl; rfl; intro wz bz oz))
      have hKz : wz.heap[D]? = some (.deferred (some [])) := by rw [oz.2.2.2.2 D (by omega)]; exact hK
      have s1 := k3.lx (Lx.only oz) (fun hn ad e => by have := (k4 ad e).1; omega)
      have s2 := i4.lx (Lx.only oz) (fun hn ad e => u8_far i4 i3 hn e)
      have lz : Below w.heap.size w wz := Below.only i6 oz (by omega)
      have gz := grownBy_putObj' wz D (.deferred none)
      have ex := fun (A : Option Addr) (n size : Nat) (xs : List Value) (h : Sl wz size A n xs) (hx : 0 < n → 0 < xs.length) => h.grownA gz (fun hn ad e => by
        obtain ⟨ad', e', _, hc⟩ := h.2 hn
        rw [e] at e'
        cases e'
        obtain ⟨c, t, f, hq⟩ := cell_cells (hc 0 _ (List.getElem?_eq_getElem (hx hn)))
        rw [addr_add_block] at hq
        intro e2
        have e3 : ad.block = D := Option.some.inj e2
        rw [e3, hKz] at hq
        cases hq)
      have hneD : some (w.heap.size + 1) ≠ some D := fun e => by have := Option.some.inj e; omega
      have t1 := ex A7 _ 2 _ s1 (fun h => by rw [Gs_len]; omega)
      have t2 := ex B' md 128 _ s2 (fun h => by have := s2.1; rw [this]; omega)
      refine ⟨by simp, .inl ⟨_, _, rfl, run_takeDeferred hKz, ?_⟩⟩
      refine ⟨.tuple #[.agg #[.int .i64 en, .int .i64 (n : Int), .slice A7 (Im.sgs b n).length c7, .slice B' md cd'], .int .i64 0], results_cell_tmp Tryd.results9 _ _ (w.heap.size + 1) 29 [.int .i64 en, .int .i64 (n : Int), .slice A7 (Im.sgs b n).length c7, .slice B' md cd'] _ _ rfl rfl (bz.grown gz hneD) Tryd.underlying29 rfl (img_sz _ _ _ _), _, rfl, ⟨A7, _, c7, B', cd', rfl, t1, t2, ?_, ?_, ?_, her, ?_, m1, m2⟩, ?_⟩
      · exact sgs_in b n H1.out.2
      · have := HLS.out; omega
      · show md ≤ 1000000; omega
      · show -9223372036854775808 ≤ (n : Int) ∧ (n : Int) ≤ 9223372036854775807; omega
      · exact lz.trans (belowK_b (w := w) (Nat.le_refl _) wz D _ _ (by omega) hKz rfl rfl)
    case stop =>
      rintro D c pre W _ _ h _
      exact h.elim

set_option maxRecDepth 100000 in
set_option maxHeartbeats 1000000 in
theorem of_arg (A : Option Addr) (n c : Nat) (en : Int) (B : Option Addr) (md cd : Nat) (w : World) (h1 : ¬ (1 ≤ n ∧ n ≤ 64)) :
    Calls Tryd.prog 9 #[.agg #[.slice A n c], .int .i64 en, .slice B md cd] w fun e w' => e = .returned (.tuple #[zImg, .int .i64 1]) ∧ Later w w' := by
  have HV := Lib.hid fun w' => valid_any A n c w'
  rw [decide_eq_false h1] at HV
  clear h1
  have b3 := (Blk.new w 24 #[.slice A n c] [.slice A n c] rfl).alloc (.cells #[.int .i64 0, .int .i64 0, .slice none 0 0, .slice none 0 0] 29)
  have bR := Blk.new' (w.alloc (.cells #[.slice A n c] 24)) (w.heap.size + 1) 29 #[.int .i64 0, .int .i64 0, .slice none 0 0, .slice none 0 0] [.int .i64 0, .int .i64 0, .slice none 0 0, .slice none 0 0] (by simp) rfl
  have lr := (later1 w (.cells #[.slice A n c] 24)).alloc (by simp) (.cells #[.int .i64 0, .int .i64 0, .slice none 0 0, .slice none 0 0] 29)
  go_enter Tryd.func9, Tryd.ntmps9
  go_wp2_with (first
    | (go_at_call 27; refine (HV.out _).mono ?_; rintro e w1 ⟨rfl, l1⟩; replace b3 := b3.keep l1; replace bR := bR.keep l1; replace lr := Later.trans_ lr l1; have c3 := b3.cell (j := 0) (v := .slice A n c) rfl)
    | ((with_reducible refine wpList_store_abs (o := ⟨none, .store 29 (.tmp 6) (.tmp 14), _, _, _, none⟩) rfl _ _ _ rfl (w.heap.size + 1) 29 [.int .i64 0, .int .i64 0, .slice none 0 0, .slice none 0 0] [.int .i64 0, .int .i64 0, .slice none 0 0, .slice none 0 0] ?_ ?_ bR (img_sz _ _ _ _) rfl (img_one _ _ _ _ _ _ _ _) ?_); rfl; rfl; intro wz bz oz))
  exact bodyPost_ret (v := .tuple #[zImg, .int .i64 1]) (results_cell_tmp Tryd.results9 _ _ (w.heap.size + 1) 29 [.int .i64 0, .int .i64 0, .slice none 0 0, .slice none 0 0] _ _ rfl rfl bz Tryd.underlying29 rfl (img_sz _ _ _ _)) rfl ⟨rfl, Below.only lr oz (by omega)⟩

set_option maxRecDepth 100000 in
set_option maxHeartbeats 1000000 in
theorem of_range_I (A : Option Addr) (n c : Nat) (en : Int) (B : Option Addr) (md cd : Nat) (w : World) (h1 : 1 ≤ n ∧ n ≤ 64) (hen : Im.entry en ((n * 128 : Nat) : Int) = false) :
    Calls Tryd.prog 9 #[.agg #[.slice A n c], .int .i64 en, .slice B md cd] w fun e w' => e = .returned (.tuple #[zImg, .int .i64 7]) ∧ Later w w' := by
  have HV := Lib.hid fun w' => valid_any A n c w'
  rw [decide_eq_true h1] at HV
  have HSZ := Lib.hid fun w' => size_any A n c w' h1.2
  have HE := Lib.hid fun w' => isEntry_any en ((n * 128 : Nat) : Int) w'
  rw [hen] at HE
  clear hen
  have b3 := (Blk.new w 24 #[.slice A n c] [.slice A n c] rfl).alloc (.cells #[.int .i64 0, .int .i64 0, .slice none 0 0, .slice none 0 0] 29)
  have bR := Blk.new' (w.alloc (.cells #[.slice A n c] 24)) (w.heap.size + 1) 29 #[.int .i64 0, .int .i64 0, .slice none 0 0, .slice none 0 0] [.int .i64 0, .int .i64 0, .slice none 0 0, .slice none 0 0] (by simp) rfl
  have lr := (later1 w (.cells #[.slice A n c] 24)).alloc (by simp) (.cells #[.int .i64 0, .int .i64 0, .slice none 0 0, .slice none 0 0] 29)
  go_enter Tryd.func9, Tryd.ntmps9
  go_wp2_with (first
    | (go_at_call 27; refine (HV.out _).mono ?_; rintro e w1 ⟨rfl, l1⟩; replace b3 := b3.keep l1; replace bR := bR.keep l1; replace lr := Later.trans_ lr l1; have c3 := b3.cell (j := 0) (v := .slice A n c) rfl)
    | (go_at_call 29; refine (HSZ.out _).mono ?_; rintro e w2 ⟨rfl, l2⟩; replace b3 := b3.keep l2; replace bR := bR.keep l2; replace lr := Later.trans_ lr l2)
    | (go_at_call 28; refine (HE.out _).mono ?_; rintro e w9 ⟨rfl, rfl⟩)
    | ((with_reducible refine wpList_store_abs (o := ⟨none, .store 29 (.tmp 6) (.tmp 21), _, _, _, none⟩) rfl _ _ _ rfl (w.heap.size + 1) 29 [.int .i64 0, .int .i64 0, .slice none 0 0, .slice none 0 0] [.int .i64 0, .int .i64 0, .slice none 0 0, .slice none 0 0] ?_ ?_ bR (img_sz _ _ _ _) rfl (img_one _ _ _ _ _ _ _ _) ?_); rfl; rfl; intro wz bz oz))
  exact bodyPost_ret (v := .tuple #[zImg, .int .i64 7]) (results_cell_tmp Tryd.results9 _ _ (w.heap.size + 1) 29 [.int .i64 0, .int .i64 0, .slice none 0 0, .slice none 0 0] _ _ rfl rfl bz Tryd.underlying29 rfl (img_sz _ _ _ _)) rfl ⟨rfl, Below.only lr oz (by omega)⟩

set_option maxRecDepth 100000 in
set_option maxHeartbeats 1000000 in
theorem of_limit (A : Option Addr) (n c : Nat) (en : Int) (B : Option Addr) (md cd : Nat) (w : World) (h1 : 1 ≤ n ∧ n ≤ 64) (hen : Im.entry en ((n * 128 : Nat) : Int) = true) (hm : 64 < md) :
    Calls Tryd.prog 9 #[.agg #[.slice A n c], .int .i64 en, .slice B md cd] w fun e w' => e = .returned (.tuple #[zImg, .int .i64 2]) ∧ Later w w' := by
  have HV := Lib.hid fun w' => valid_any A n c w'
  rw [decide_eq_true h1] at HV
  have HSZ := Lib.hid fun w' => size_any A n c w' h1.2
  have HE := Lib.hid fun w' => isEntry_any en ((n * 128 : Nat) : Int) w'
  rw [hen] at HE
  have hm1 : (md : Int) > 64 := by omega
  clear hen
  have b3 := (Blk.new w 24 #[.slice A n c] [.slice A n c] rfl).alloc (.cells #[.int .i64 0, .int .i64 0, .slice none 0 0, .slice none 0 0] 29)
  have bR := Blk.new' (w.alloc (.cells #[.slice A n c] 24)) (w.heap.size + 1) 29 #[.int .i64 0, .int .i64 0, .slice none 0 0, .slice none 0 0] [.int .i64 0, .int .i64 0, .slice none 0 0, .slice none 0 0] (by simp) rfl
  have lr := (later1 w (.cells #[.slice A n c] 24)).alloc (by simp) (.cells #[.int .i64 0, .int .i64 0, .slice none 0 0, .slice none 0 0] 29)
  go_enter Tryd.func9, Tryd.ntmps9
  go_wp2_with (first
    | (go_at_call 27; refine (HV.out _).mono ?_; rintro e w1 ⟨rfl, l1⟩; replace b3 := b3.keep l1; replace bR := bR.keep l1; replace lr := Later.trans_ lr l1; have c3 := b3.cell (j := 0) (v := .slice A n c) rfl)
    | (go_at_call 29; refine (HSZ.out _).mono ?_; rintro e w2 ⟨rfl, l2⟩; replace b3 := b3.keep l2; replace bR := bR.keep l2; replace lr := Later.trans_ lr l2)
    | (go_at_call 28; refine (HE.out _).mono ?_; rintro e w9 ⟨rfl, rfl⟩)
    | ((with_reducible refine wpList_store_abs (o := ⟨none, .store 29 (.tmp 6) (.tmp 26), _, _, _, none⟩) rfl _ _ _ rfl (w.heap.size + 1) 29 [.int .i64 0, .int .i64 0, .slice none 0 0, .slice none 0 0] [.int .i64 0, .int .i64 0, .slice none 0 0, .slice none 0 0] ?_ ?_ bR (img_sz _ _ _ _) rfl (img_one _ _ _ _ _ _ _ _) ?_); rfl; rfl; intro wz bz oz))
  exact bodyPost_ret (v := .tuple #[zImg, .int .i64 2]) (results_cell_tmp Tryd.results9 _ _ (w.heap.size + 1) 29 [.int .i64 0, .int .i64 0, .slice none 0 0, .slice none 0 0] _ _ rfl rfl bz Tryd.underlying29 rfl (img_sz _ _ _ _)) rfl ⟨rfl, Below.only lr oz (by omega)⟩

set_option maxRecDepth 100000 in
def ofE (n : Nat) (en : Int) (md : Nat) : Int := if 1 ≤ n ∧ n ≤ 64 then (if Im.entry en ((n * 128 : Nat) : Int) = true then (if 64 < md then 2 else 0) else 7) else 1
set_option maxRecDepth 100000 in
/-- The image of a memory, or the error. -/
def ofD (n : Nat) (en : Int) (md : Nat) (b d : Wm.Bs) : Dat := if ofE n en md = 0 then ⟨en, (n : Int), Im.sgs b n, d, md⟩ else zD
set_option maxRecDepth 100000 in
theorem imgOf_any (A : Option Addr) (n c : Nat) (en : Int) (B : Option Addr) (md cd : Nat) (b d : Wm.Bs) (w : World) (hs : Sl w 128 A n (U b)) (hb : Wm.isBs b) (hd : Sl w 128 B md (U d)) (her : -9223372036854775808 ≤ en ∧ en ≤ 9223372036854775807) :
    Calls Tryd.prog 9 #[.agg #[.slice A n c], .int .i64 en, .slice B md cd] w fun e w' => ∃ v, e = .returned (.tuple #[v, .int .i64 (ofE n en md)]) ∧ Img w' v (ofD n en md b d) ∧ Later w w' := by
  unfold ofD ofE
  by_cases h1 : 1 ≤ n ∧ n ≤ 64
  · simp only [if_pos h1]
    cases he : Im.entry en ((n * 128 : Nat) : Int) with
    | false =>
      refine (of_range_I A n c en B md cd w h1 he).mono fun e w' ⟨h2, h3⟩ => ⟨zImg, h2, ?_, h3⟩
      exact zImg_img w'
    | true =>
      by_cases h4 : 64 < md
      · simp only [if_pos h4]
        refine (of_limit A n c en B md cd w h1 he h4).mono fun e w' ⟨h2, h3⟩ => ⟨zImg, h2, ?_, h3⟩
        exact zImg_img w'
      · simp only [if_neg h4]
        exact of_ok A n c en B md cd b d w hs hb hd h1 he (by omega) her
  · simp only [if_neg h1]
    refine (of_arg A n c en B md cd w h1).mono fun e w' ⟨h2, h3⟩ => ⟨zImg, h2, ?_, h3⟩
    exact zImg_img w'
end Go.Proofs.YtjfphjgmphlbhaaDoor
