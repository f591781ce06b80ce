/-
  THE WALK OF the reference's find.
-/
import Derived.Test.YtiaejldknbicdaaTabX
namespace Go.Proofs.Ytiaejldknbicdaa
open Go.RowKit Go.ChangeShapes Go.WideShapes Go.ChangeAt

theorem leaf_sz (a b c d e : Value) : (Try.prog.info? 74).map (·.size) = some [a, b, c, d, e].length := by
  show _ = some 5
  kernel_rfl
theorem leaf_one (a e p : Int) (A : Option Addr) (n c : Nat) (z : Bool) : ∀ v ∈ [Value.int .i64 a, .int .i64 e, .int .i64 p, .slice A n c, .bool z], v.oneCell' = true := by
  intro v hv
  simp only [List.mem_cons, List.not_mem_nil, or_false] at hv
  rcases hv with rfl | rfl | rfl | rfl | rfl <;> rfl
theorem sl_two64 {w : World} {B : Nat} {t : TypeId} {a s : Int} (h : Blk w B t [.int .i64 a, .int .i64 s]) : Sl w 1 (some ⟨B, 0, none⟩) 2 (N64 [a, s]) := by
  refine ⟨rfl, fun _ => ⟨_, rfl, h.lt, fun j u hu => ?_⟩⟩
  rw [Addr.add_mid, Nat.zero_add]
  exact h.cell hu
/-- What hands back a leaf. -/
def GotLf (F : Tm.Lf) (pg : Int) (w : World) (r : Ending) (w' : World) : Prop :=
  ∃ AR cr, r = .returned (.agg #[.int .i64 F.a, .int .i64 F.e, .int .i64 pg, .slice AR F.r.length cr, .bool F.ok]) ∧ Sl w' 1 AR F.r.length (N64 F.r) ∧ (∀ ad, AR = some ad → w.heap.size ≤ ad.block) ∧ Later w w'
theorem sl_one64 {w : World} {B : Nat} {t : TypeId} {a : Int} (h : Blk w B t [.int .i64 a]) : Sl w 1 (some ⟨B, 0, none⟩) 1 (N64 [a]) := by
  refine ⟨rfl, fun _ => ⟨_, rfl, h.lt, fun j u hu => ?_⟩⟩
  rw [Addr.add_mid, Nat.zero_add]
  exact h.cell hu

set_option maxRecDepth 100000 in
set_option maxHeartbeats 4000000 in
theorem rfind_any (A : Option Addr) (n c : Nat) (root va : Int) (b : Wm.Bs) (w : World) (hs : Sl w 128 A n (U b)) (hb : Wm.isBs b) (hn : n ≤ 64) (hr : 0 ≤ root ∧ root < 4294967296) (hv : 0 ≤ va ∧ va < 131072) :
    Calls Try.prog 35 #[.agg #[.slice A n c], .int .i64 root, .int .i64 va] w fun r w' => ∃ pg, GotLf (Tm.find n b root va) pg w r w' ∧ ((Tm.find n b root va).ok = true → pg = Tm.pgOf (Tm.find n b root va).e va) := by
  have HT := Lib.hid fun w' (hl : Later w w') => rtop_any A n c root va b w' (hs.keep hl) hb hn hr hv
  unfold Tm.find
  obtain ⟨a, ha⟩ : ∃ a, a = Tm.fA root va := ⟨_, rfl⟩
  rw [← ha] at HT ⊢
  have he := Tm.wd_e hb a
  obtain ⟨e, hE⟩ : ∃ e, e = Tm.wd b a := ⟨_, rfl⟩
  rw [← hE] at HT he ⊢
  obtain ⟨vl, hvl⟩ : ∃ v, v = Tm.has e 1 := ⟨_, rfl⟩
  rw [← hvl] at HT ⊢
  obtain ⟨rf, hrf⟩ : ∃ v, v = Tm.rF n e := ⟨_, rfl⟩
  rw [← hrf] at HT ⊢
  obtain ⟨lg, hlg⟩ : ∃ v, v = Tm.has e 64 := ⟨_, rfl⟩
  rw [← hlg] at HT ⊢
  have b3 := (Blk.new w 24 #[.slice A n c] [.slice A n c] rfl).alloc (.cells #[.int .i64 0, .int .i64 0, .int .i64 0, .slice none 0 0, .bool false] 74)
  have b6 := Blk.new' (w.alloc (.cells #[.slice A n c] 24)) (w.heap.size + 1) 74 #[.int .i64 0, .int .i64 0, .int .i64 0, .slice none 0 0, .bool false] [.int .i64 0, .int .i64 0, .int .i64 0, .slice none 0 0, .bool false] (by simp) rfl
  have lx := (later1 w (.cells #[.slice A n c] 24)).alloc (by simp) (.cells #[.int .i64 0, .int .i64 0, .int .i64 0, .slice none 0 0, .bool false] 74)
  clear ha hE
  cases vl with
  | false =>
    rw [if_neg (by simp)]
    refine Calls.mono (R := GotLf ⟨0, 0, [a], false⟩ 0 w) ?_ (fun r w' h => ⟨0, h, fun h => (by cases h)⟩)
    clear hs hb hvl hrf hlg hr hv he
    go_enter Try.func35, Try.ntmps35
    go_wp2_with (first
      | (go_at_call 52; refine (HT.out _ lx).mono ?_; rintro r w2 ⟨rfl, l2⟩; have b7 := Blk.new w2 88 #[.int .i64 a, .int .i64 e, .bool false, .bool rf, .bool lg] [.int .i64 a, .int .i64 e, .bool false, .bool rf, .bool lg] rfl; replace b3 := (b3.keep l2).keep (later1 w2 (.cells #[.int .i64 a, .int .i64 e, .bool false, .bool rf, .bool lg] 88)); have h6 := (b6.keep l2).lt; replace b6 := (b6.keep l2).keep (later1 w2 (.cells #[.int .i64 a, .int .i64 e, .bool false, .bool rf, .bool lg] 88)); have lw := Later.trans_ (Later.trans_ lx l2) (later1 w2 (.cells #[.int .i64 a, .int .i64 e, .bool false, .bool rf, .bool lg] 88)))
      | ((with_reducible refine wpList_store_abs (o := ⟨none, .store 74 (.tmp 6) (.tmp 25), _, _, _, none⟩) rfl _ _ _ rfl (w.heap.size + 1) 74 [.int .i64 0, .int .i64 0, .int .i64 0, .slice none 0 0, .bool false] [.int .i64 0, .int .i64 0, .int .i64 0, .slice (some ⟨w2.heap.size + 1, 0, none⟩) 1 1, .bool false] ?_ ?_ (b6.alloc (.cells #[.int .i64 a] 3)) ?_ ?_ ?_ ?_); rfl; rfl; exact leaf_sz _ _ _ _ _; rfl; exact leaf_one _ _ _ _ _ _ _; intro w5 b8 o5))
    have bS := Blk.new' (w2.alloc (.cells #[.int .i64 a, .int .i64 e, .bool false, .bool rf, .bool lg] 88)) (w2.heap.size + 1) 3 #[.int .i64 a] [.int .i64 a] (by simp) rfl
    exact bodyPost_ret (v := .agg #[.int .i64 0, .int .i64 0, .int .i64 0, .slice (some ⟨w2.heap.size + 1, 0, none⟩) 1 1, .bool false]) (results_blk Try.results35 _ _ (w.heap.size + 1) 74 [.int .i64 0, .int .i64 0, .int .i64 0, .slice (some ⟨w2.heap.size + 1, 0, none⟩) 1 1, .bool false] _ rfl b8 Try.underlying74 rfl (leaf_sz _ _ _ _ _)) rfl
      ⟨_, _, rfl, sl_one64 (bS.only o5 (by omega)), (fun ad h => by cases h; show w.heap.size ≤ w2.heap.size + 1; omega), Below.only (lw.alloc lw.size (.cells #[.int .i64 a] 3)) o5 (by omega)⟩
  | true =>
    cases rf with
    | false =>
      rw [if_neg (by simp)]
      refine Calls.mono (R := GotLf ⟨0, 0, [a], false⟩ 0 w) ?_ (fun r w' h => ⟨0, h, fun h => (by cases h)⟩)
      clear hs hb hvl hrf hlg hr hv he
      go_enter Try.func35, Try.ntmps35
      go_wp2_with (first
        | (go_at_call 52; refine (HT.out _ lx).mono ?_; rintro r w2 ⟨rfl, l2⟩; have b7 := Blk.new w2 88 #[.int .i64 a, .int .i64 e, .bool true, .bool false, .bool lg] [.int .i64 a, .int .i64 e, .bool true, .bool false, .bool lg] rfl; replace b3 := (b3.keep l2).keep (later1 w2 (.cells #[.int .i64 a, .int .i64 e, .bool true, .bool false, .bool lg] 88)); have h6 := (b6.keep l2).lt; replace b6 := (b6.keep l2).keep (later1 w2 (.cells #[.int .i64 a, .int .i64 e, .bool true, .bool false, .bool lg] 88)); have lw := Later.trans_ (Later.trans_ lx l2) (later1 w2 (.cells #[.int .i64 a, .int .i64 e, .bool true, .bool false, .bool lg] 88)))
        | ((with_reducible refine wpList_store_abs (o := ⟨none, .store 74 (.tmp 6) (.tmp 25), _, _, _, none⟩) rfl _ _ _ rfl (w.heap.size + 1) 74 [.int .i64 0, .int .i64 0, .int .i64 0, .slice none 0 0, .bool false] [.int .i64 0, .int .i64 0, .int .i64 0, .slice (some ⟨w2.heap.size + 1, 0, none⟩) 1 1, .bool false] ?_ ?_ (b6.alloc (.cells #[.int .i64 a] 3)) ?_ ?_ ?_ ?_); rfl; rfl; exact leaf_sz _ _ _ _ _; rfl; exact leaf_one _ _ _ _ _ _ _; intro w5 b8 o5))
      have bS := Blk.new' (w2.alloc (.cells #[.int .i64 a, .int .i64 e, .bool true, .bool false, .bool lg] 88)) (w2.heap.size + 1) 3 #[.int .i64 a] [.int .i64 a] (by simp) rfl
      exact bodyPost_ret (v := .agg #[.int .i64 0, .int .i64 0, .int .i64 0, .slice (some ⟨w2.heap.size + 1, 0, none⟩) 1 1, .bool false]) (results_blk Try.results35 _ _ (w.heap.size + 1) 74 [.int .i64 0, .int .i64 0, .int .i64 0, .slice (some ⟨w2.heap.size + 1, 0, none⟩) 1 1, .bool false] _ rfl b8 Try.underlying74 rfl (leaf_sz _ _ _ _ _)) rfl
        ⟨_, _, rfl, sl_one64 (bS.only o5 (by omega)), (fun ad h => by cases h; show w.heap.size ≤ w2.heap.size + 1; omega), Below.only (lw.alloc lw.size (.cells #[.int .i64 a] 3)) o5 (by omega)⟩
    | true =>
      have he2 : 0 ≤ e ∧ e < 1099511627776 := ⟨he.1, by have := he.2; omega⟩
      have HA := Lib.hid fun w' => raddress_any e w' he2
      have h1 : va.tdiv 128 = va / 128 := Int.tdiv_eq_ediv_of_nonneg hv.1
      have h2 : (va / 128).tmod 32 = va / 128 % 32 := Int.tmod_eq_emod_of_nonneg (by omega)
      have h0 : IntKind.i64.wrap (va / 128) = va / 128 := wrp64 _ (by omega) (by omega)
      rw [if_pos (by rfl)]
      cases lg with
      | true =>
        rw [if_pos rfl]
        have hX : Tm.adr e + 128 * (va / 128 % 32) = Tm.pgOf e va := by
          unfold Tm.pgOf
          rw [if_pos hlg.symm]
          omega
        have hp0 : 0 ≤ Tm.adr e ∧ Tm.adr e < 1099511627776 := by unfold Tm.adr; omega
        refine Calls.mono (R := GotLf ⟨a, e, [a], true⟩ (Tm.adr e + 128 * (va / 128 % 32)) w) ?_ (fun r w' h => ⟨_, h, fun _ => hX⟩)
        obtain ⟨p, hp⟩ : ∃ p, p = Tm.adr e := ⟨_, rfl⟩
        rw [← hp] at HA hp0 ⊢
        have h3 : IntKind.i64.wrap (128 * (va / 128 % 32)) = 128 * (va / 128 % 32) := wrp64 _ (by omega) (by omega)
        have h4 : IntKind.i64.wrap (p + 128 * (va / 128 % 32)) = p + 128 * (va / 128 % 32) := wrp64 _ (by omega) (by omega)
        clear hs hb hvl hrf hlg hr hv he he2 hX hp
        go_enter Try.func35, Try.ntmps35
        go_wp2_with (first
          | (go_at_call 52; refine (HT.out _ lx).mono ?_; rintro r w2 ⟨rfl, l2⟩; have b7 := Blk.new w2 88 #[.int .i64 a, .int .i64 e, .bool true, .bool true, .bool true] [.int .i64 a, .int .i64 e, .bool true, .bool true, .bool true] rfl; replace b3 := (b3.keep l2).keep (later1 w2 (.cells #[.int .i64 a, .int .i64 e, .bool true, .bool true, .bool true] 88)); have h6 := (b6.keep l2).lt; replace b6 := (b6.keep l2).keep (later1 w2 (.cells #[.int .i64 a, .int .i64 e, .bool true, .bool true, .bool true] 88)); have lw := Later.trans_ (Later.trans_ lx l2) (later1 w2 (.cells #[.int .i64 a, .int .i64 e, .bool true, .bool true, .bool true] 88))))
        have hz3 : (w2.alloc (.cells #[.int .i64 a, .int .i64 e, .bool true, .bool true, .bool true] 88)).heap.size = w2.heap.size + 1 := by simp
        obtain ⟨w3, hw3⟩ : ∃ x, x = w2.alloc (.cells #[.int .i64 a, .int .i64 e, .bool true, .bool true, .bool true] 88) := ⟨_, rfl⟩
        rw [← hw3] at b3 b6 b7 lw hz3 ⊢
        clear hw3
        replace b3 := b3.drew
        replace b6 := b6.drew
        replace b7 := b7.drew
        replace lw := lw.drew
        refine wp_region_held_drew (S := fun w' => w'.cell? ⟨w2.heap.size, 0, none⟩ = some (.int .i64 a) ∧ w'.cell? ⟨w2.heap.size, 1, none⟩ = some (.int .i64 e)) (by kernel_rfl) ⟨b7.cell (j := 0) rfl, b7.cell (j := 1) rfl⟩ (fun hHeld => ?_)
        refine wpAnyH_take (i := 0) (oi := ⟨some 28, .fieldAddr 88 (.tmp 7) 0, _, _, _, none⟩) (v := .pointer (some ⟨w2.heap.size, 0, none⟩)) rfl (by kernel_rfl) (by kernel_rfl) (by kernel_rfl) (fun _ _ _ h => h) (Or.inl ⟨by rfl, fun w _ => by go_simp⟩) hHeld ?_
        simp only [Act.put, List.setIfInBounds_toArray, List.set_cons_zero, List.set_cons_succ]
        refine wpAnyH_take (i := 1) (oi := ⟨some 29, .load 3 (.tmp 28), _, _, _, none⟩) (v := .int .i64 a) rfl (by kernel_rfl) (by kernel_rfl) (by kernel_rfl) (fun _ _ _ h => h) (Or.inl ⟨by rfl, fun w hSw => by have e1 := hSw.1; clear hSw; go_simp⟩) hHeld ?_
        simp only [Act.put, List.setIfInBounds_toArray, List.set_cons_zero, List.set_cons_succ]
        refine wpAnyH_take (i := 2) (oi := ⟨some 30, .fieldAddr 88 (.tmp 7) 1, _, _, _, none⟩) (v := .pointer (some ⟨w2.heap.size, 1, none⟩)) rfl (by kernel_rfl) (by kernel_rfl) (by kernel_rfl) (fun _ _ _ h => h) (Or.inl ⟨by rfl, fun w _ => by go_simp⟩) hHeld ?_
        simp only [Act.put, List.setIfInBounds_toArray, List.set_cons_zero, List.set_cons_succ]
        refine wpAnyH_take (i := 3) (oi := ⟨some 31, .load 3 (.tmp 30), _, _, _, none⟩) (v := .int .i64 e) rfl (by kernel_rfl) (by kernel_rfl) (by kernel_rfl) (fun _ _ _ h => h) (Or.inl ⟨by rfl, fun w hSw => by have e1 := hSw.2; clear hSw; go_simp⟩) hHeld ?_
        simp only [Act.put, List.setIfInBounds_toArray, List.set_cons_zero, List.set_cons_succ]
        refine wpAnyH_take (i := 4) (oi := ⟨some 32, .fieldAddr 88 (.tmp 7) 1, _, _, _, none⟩) (v := .pointer (some ⟨w2.heap.size, 1, none⟩)) rfl (by kernel_rfl) (by kernel_rfl) (by kernel_rfl) (fun _ _ _ h => h) (Or.inl ⟨by rfl, fun w _ => by go_simp⟩) hHeld ?_
        simp only [Act.put, List.setIfInBounds_toArray, List.set_cons_zero, List.set_cons_succ]
        refine wpAnyH_take (i := 5) (oi := ⟨some 33, .load 3 (.tmp 32), _, _, _, none⟩) (v := .int .i64 e) rfl (by kernel_rfl) (by kernel_rfl) (by kernel_rfl) (fun _ _ _ h => h) (Or.inl ⟨by rfl, fun w hSw => by have e1 := hSw.2; clear hSw; go_simp⟩) hHeld ?_
        simp only [Act.put, List.setIfInBounds_toArray, List.set_cons_zero, List.set_cons_succ]
        refine wpAnyH_take (i := 7) (oi := ⟨some 35, .move (.tmp 2), _, _, _, none⟩) (v := .int .i64 va) rfl (by kernel_rfl) (by kernel_rfl) (by kernel_rfl) (fun _ _ _ h => h) (Or.inl ⟨by rfl, fun _ _ => rfl⟩) hHeld ?_
        simp only [Act.put, List.setIfInBounds_toArray, List.set_cons_zero, List.set_cons_succ]
        refine wpAnyH_take (i := 8) (oi := ⟨some 36, .binOp .quo 3 (.tmp 35) (.const (.int .i64 128)) 3, _, _, _, none⟩) (v := .int .i64 (va / 128)) rfl (by kernel_rfl) (by kernel_rfl) (by kernel_rfl) (fun _ _ _ h => h) (Or.inl ⟨by rfl, fun w _ => by go_simp⟩) hHeld ?_
        simp only [Act.put, List.setIfInBounds_toArray, List.set_cons_zero, List.set_cons_succ]
        refine wpAnyH_take (i := 9) (oi := ⟨some 37, .binOp .rem 3 (.tmp 36) (.const (.int .i64 32)) 3, _, _, _, none⟩) (v := .int .i64 (va / 128 % 32)) rfl (by kernel_rfl) (by kernel_rfl) (by kernel_rfl) (fun _ _ _ h => h) (Or.inl ⟨by rfl, fun w _ => by go_simp⟩) hHeld ?_
        simp only [Act.put, List.setIfInBounds_toArray, List.set_cons_zero, List.set_cons_succ]
        refine wpAnyH_take (i := 10) (oi := ⟨some 38, .binOp .mul 3 (.const (.int .i64 128)) (.tmp 37) 3, _, _, _, none⟩) (v := .int .i64 (128 * (va / 128 % 32))) rfl (by kernel_rfl) (by kernel_rfl) (by kernel_rfl) (fun _ _ _ h => h) (Or.inl ⟨by rfl, fun w _ => by go_simp⟩) hHeld ?_
        simp only [Act.put, List.setIfInBounds_toArray, List.set_cons_zero, List.set_cons_succ]
        refine wpAnyH_take (i := 12) (oi := ⟨some 40, .fieldAddr 88 (.tmp 7) 0, _, _, _, none⟩) (v := .pointer (some ⟨w2.heap.size, 0, none⟩)) rfl (by kernel_rfl) (by kernel_rfl) (by kernel_rfl) (fun _ _ _ h => h) (Or.inl ⟨by rfl, fun w _ => by go_simp⟩) hHeld ?_
        simp only [Act.put, List.setIfInBounds_toArray, List.set_cons_zero, List.set_cons_succ]
        refine wpAnyH_take (i := 13) (oi := ⟨some 41, .load 3 (.tmp 40), _, _, _, none⟩) (v := .int .i64 a) rfl (by kernel_rfl) (by kernel_rfl) (by kernel_rfl) (fun _ _ _ h => h) (Or.inl ⟨by rfl, fun w hSw => by have e1 := hSw.1; clear hSw; go_simp⟩) hHeld ?_
        simp only [Act.put, List.setIfInBounds_toArray, List.set_cons_zero, List.set_cons_succ]
        refine wpAnyH_ready (rs := [6, 14]) (by kernel_rfl) (by simp) (AllReadyH.cons (o := ⟨some 34, .call { callee := .value (.func 59), args := #[.tmp 33], argTypes := #[3] }, _, _, _, none⟩) rfl (fun K' hK => ?_) (AllReadyH.cons (o := ⟨some 42, .buildSlice 30 1 #[(0, .tmp 41)], _, _, _, none⟩) rfl (fun K' hK => ?_) AllReadyH.nil))
        · go_simp
          refine (HA.out _).mono ?_
          rintro r w' ⟨rfl, rfl⟩
          refine hK.out _ _ ⟨b7.cell (j := 0) rfl, b7.cell (j := 1) rfl⟩ (fun hHeld => ?_)
          clear hK K'
          try simp only [Act.put, List.setIfInBounds_toArray, List.set_cons_zero, List.set_cons_succ]
          refine wpAnyH_take (i := 11) (oi := ⟨some 39, .binOp .add 3 (.tmp 34) (.tmp 38) 3, _, _, _, none⟩) (v := .int .i64 (p + 128 * (va / 128 % 32))) rfl (by kernel_rfl) (by kernel_rfl) (by kernel_rfl) (fun _ _ _ h => h) (Or.inl ⟨by rfl, fun w _ => by go_simp⟩) hHeld ?_
          simp only [Act.put, List.setIfInBounds_toArray, List.set_cons_zero, List.set_cons_succ]
          refine wpAnyH_ready (rs := [14]) (by kernel_rfl) (by simp) (AllReadyH.cons (o := ⟨some 42, .buildSlice 30 1 #[(0, .tmp 41)], _, _, _, none⟩) rfl (fun K' hK => ?_) AllReadyH.nil)
          go_simp
          have bS := Blk.new w3 3 #[.int .i64 a] [.int .i64 a] rfl
          replace bS := bS.drew
          replace b6 := b6.alloc (.cells #[.int .i64 a] 3)
          replace b7 := b7.alloc (.cells #[.int .i64 a] 3)
          replace lw := lw.alloc lw.size (.cells #[.int .i64 a] 3)
          refine hK.out _ _ ⟨b7.cell (j := 0) rfl, b7.cell (j := 1) rfl⟩ (fun hHeld => ?_)
          clear hK K'
          try simp only [Act.put, List.setIfInBounds_toArray, List.set_cons_zero, List.set_cons_succ]
          refine wpAnyH_take (i := 15) (oi := ⟨some 43, .build 74 #[(0, .tmp 29), (1, .tmp 31), (2, .tmp 39), (3, .tmp 42), (4, .const (.bool true))], _, _, _, none⟩) (v := .agg #[.int .i64 a, .int .i64 e, .int .i64 (p + 128 * (va / 128 % 32)), .slice (some ⟨w3.heap.size, 0, none⟩) 1 1, .bool true]) rfl (by kernel_rfl) (by kernel_rfl) (by kernel_rfl) (fun _ _ _ h => h) (Or.inl ⟨by rfl, fun w _ => by go_simp⟩) hHeld ?_
          simp only [Act.put, List.setIfInBounds_toArray, List.set_cons_zero, List.set_cons_succ]
          refine wpAnyH_ready (rs := [16]) (by kernel_rfl) (by simp) (AllReadyH.cons (o := ⟨none, .store 74 (.tmp 6) (.tmp 43), _, _, _, none⟩) rfl (fun K' hK => ?_) AllReadyH.nil)
          refine wp_store_abs 74 _ _ rfl _ 74 [.int .i64 0, .int .i64 0, .int .i64 0, .slice none 0 0, .bool false] [.int .i64 a, .int .i64 e, .int .i64 (p + 128 * (va / 128 % 32)), .slice (some ⟨w3.heap.size, 0, none⟩) 1 1, .bool true] rfl rfl b6 (leaf_sz _ _ _ _ _) rfl (leaf_one _ _ _ _ _ _ _) ?_
          intro w5 b8 o5
          replace b7 := b7.only o5 (by omega)
          replace bS := bS.only o5 (by omega)
          replace lw := Below.only lw o5 (by omega)
          refine hK.out _ _ ⟨b7.cell (j := 0) rfl, b7.cell (j := 1) rfl⟩ (fun hHeld => ?_)
          clear hK K'
          try simp only [Act.put]
          refine wpAnyH_done (by kernel_rfl) ?_ _
          clear hHeld
          go_wp2
          exact bodyPost_ret (v := .agg #[.int .i64 a, .int .i64 e, .int .i64 (p + 128 * (va / 128 % 32)), .slice (some ⟨w3.heap.size, 0, none⟩) 1 1, .bool true]) (results_blk Try.results35 _ _ (w.heap.size + 1) 74 [.int .i64 a, .int .i64 e, .int .i64 (p + 128 * (va / 128 % 32)), .slice (some ⟨w3.heap.size, 0, none⟩) 1 1, .bool true] _ rfl b8 Try.underlying74 rfl (leaf_sz _ _ _ _ _)) rfl
            ⟨_, _, rfl, sl_one64 bS, (fun ad h => by cases h; show w.heap.size ≤ w3.heap.size; omega), lw⟩
        · go_simp
          have bS := Blk.new w3 3 #[.int .i64 a] [.int .i64 a] rfl
          replace bS := bS.drew
          replace b6 := b6.alloc (.cells #[.int .i64 a] 3)
          replace b7 := b7.alloc (.cells #[.int .i64 a] 3)
          replace lw := lw.alloc lw.size (.cells #[.int .i64 a] 3)
          refine hK.out _ _ ⟨b7.cell (j := 0) rfl, b7.cell (j := 1) rfl⟩ (fun hHeld => ?_)
          clear hK K'
          try simp only [Act.put, List.setIfInBounds_toArray, List.set_cons_zero, List.set_cons_succ]
          refine wpAnyH_ready (rs := [6]) (by kernel_rfl) (by simp) (AllReadyH.cons (o := ⟨some 34, .call { callee := .value (.func 59), args := #[.tmp 33], argTypes := #[3] }, _, _, _, none⟩) rfl (fun K' hK => ?_) AllReadyH.nil)
          go_simp
          refine (HA.out _).mono ?_
          rintro r w' ⟨rfl, rfl⟩
          refine hK.out _ _ ⟨b7.cell (j := 0) rfl, b7.cell (j := 1) rfl⟩ (fun hHeld => ?_)
          clear hK K'
          try simp only [Act.put, List.setIfInBounds_toArray, List.set_cons_zero, List.set_cons_succ]
          refine wpAnyH_take (i := 11) (oi := ⟨some 39, .binOp .add 3 (.tmp 34) (.tmp 38) 3, _, _, _, none⟩) (v := .int .i64 (p + 128 * (va / 128 % 32))) rfl (by kernel_rfl) (by kernel_rfl) (by kernel_rfl) (fun _ _ _ h => h) (Or.inl ⟨by rfl, fun w _ => by go_simp⟩) hHeld ?_
          simp only [Act.put, List.setIfInBounds_toArray, List.set_cons_zero, List.set_cons_succ]
          refine wpAnyH_take (i := 15) (oi := ⟨some 43, .build 74 #[(0, .tmp 29), (1, .tmp 31), (2, .tmp 39), (3, .tmp 42), (4, .const (.bool true))], _, _, _, none⟩) (v := .agg #[.int .i64 a, .int .i64 e, .int .i64 (p + 128 * (va / 128 % 32)), .slice (some ⟨w3.heap.size, 0, none⟩) 1 1, .bool true]) rfl (by kernel_rfl) (by kernel_rfl) (by kernel_rfl) (fun _ _ _ h => h) (Or.inl ⟨by rfl, fun w _ => by go_simp⟩) hHeld ?_
          simp only [Act.put, List.setIfInBounds_toArray, List.set_cons_zero, List.set_cons_succ]
          refine wpAnyH_ready (rs := [16]) (by kernel_rfl) (by simp) (AllReadyH.cons (o := ⟨none, .store 74 (.tmp 6) (.tmp 43), _, _, _, none⟩) rfl (fun K' hK => ?_) AllReadyH.nil)
          refine wp_store_abs 74 _ _ rfl _ 74 [.int .i64 0, .int .i64 0, .int .i64 0, .slice none 0 0, .bool false] [.int .i64 a, .int .i64 e, .int .i64 (p + 128 * (va / 128 % 32)), .slice (some ⟨w3.heap.size, 0, none⟩) 1 1, .bool true] rfl rfl b6 (leaf_sz _ _ _ _ _) rfl (leaf_one _ _ _ _ _ _ _) ?_
          intro w5 b8 o5
          replace b7 := b7.only o5 (by omega)
          replace bS := bS.only o5 (by omega)
          replace lw := Below.only lw o5 (by omega)
          refine hK.out _ _ ⟨b7.cell (j := 0) rfl, b7.cell (j := 1) rfl⟩ (fun hHeld => ?_)
          clear hK K'
          try simp only [Act.put]
          refine wpAnyH_done (by kernel_rfl) ?_ _
          clear hHeld
          go_wp2
          exact bodyPost_ret (v := .agg #[.int .i64 a, .int .i64 e, .int .i64 (p + 128 * (va / 128 % 32)), .slice (some ⟨w3.heap.size, 0, none⟩) 1 1, .bool true]) (results_blk Try.results35 _ _ (w.heap.size + 1) 74 [.int .i64 a, .int .i64 e, .int .i64 (p + 128 * (va / 128 % 32)), .slice (some ⟨w3.heap.size, 0, none⟩) 1 1, .bool true] _ rfl b8 Try.underlying74 rfl (leaf_sz _ _ _ _ _)) rfl
            ⟨_, _, rfl, sl_one64 bS, (fun ad h => by cases h; show w.heap.size ≤ w3.heap.size; omega), lw⟩
      | false =>
        rw [if_neg (by decide)]
        have hp0 : 0 ≤ Tm.adr e ∧ Tm.adr e < 1099511627776 := by unfold Tm.adr; omega
        have hs1 : Tm.adr e + 4 * (va / 128 % 32) = Tm.sA (Tm.adr e) va := by unfold Tm.sA; omega
        have hs8 : Tm.adr e ≤ e := by unfold Tm.adr; omega
        have hs9 := he.2
        have hs0 : 0 ≤ Tm.sA (Tm.adr e) va ∧ Tm.sA (Tm.adr e) va < 1099511627776 := by omega
        clear hs8 hs9
        have HBL := Lib.hid fun w' => rbelow_any a e va true true false w' he2 (by omega)
        rw [hs1] at HBL
        obtain ⟨s, hsE⟩ : ∃ s, s = Tm.sA (Tm.adr e) va := ⟨_, rfl⟩
        rw [← hsE] at HBL hs0 ⊢
        have HW := Lib.hid fun w' (hl : Later w w') => rword_any A n c s b w' (hs.keep hl) hb hn hs0
        have hf := Tm.wd_e hb s
        obtain ⟨f, hF⟩ : ∃ f, f = Tm.wd b s := ⟨_, rfl⟩
        rw [← hF] at HW hf ⊢
        have hf2 : 0 ≤ f ∧ f < 1099511627776 := ⟨hf.1, by have := hf.2; omega⟩
        have HA2 := Lib.hid fun w' => raddress_any f w' hf2
        have HV := Lib.hid fun w' => rhas_any f 1 w' hf2 (by omega)
        have HG := Lib.hid fun w' => rhas_any f 64 w' hf2 (by omega)
        have hX : (Tm.has f 1 && !Tm.has f 64) = true → Tm.adr f = Tm.pgOf f va := by
          unfold Tm.pgOf
          intro h
          rw [if_neg (by intro h2; rw [h2] at h; simp at h)]
        refine Calls.mono (R := GotLf ⟨s, f, [a, s], Tm.has f 1 && !Tm.has f 64⟩ (Tm.adr f) w) ?_ (fun r w' h => ⟨_, h, hX⟩)
        obtain ⟨p, hp⟩ : ∃ p, p = Tm.adr f := ⟨_, rfl⟩
        rw [← hp] at HA2 ⊢
        obtain ⟨v2, hv2⟩ : ∃ v, v = Tm.has f 1 := ⟨_, rfl⟩
        rw [← hv2] at HV ⊢
        obtain ⟨g2, hg2⟩ : ∃ v, v = Tm.has f 64 := ⟨_, rfl⟩
        rw [← hg2] at HG ⊢
        clear hs hb hvl hrf hlg hr hv he he2 hX hp hv2 hg2 hsE hF hs1 h0 h1 h2 hf hf2 hs0 hp0 HA
        cases v2 with
        | true =>
          go_enter Try.func35, Try.ntmps35
          go_wp2_with (first
            | (go_at_call 52; refine (HT.out _ lx).mono ?_; rintro r w2 ⟨rfl, l2⟩; have b7 := Blk.new w2 88 #[.int .i64 a, .int .i64 e, .bool true, .bool true, .bool false] [.int .i64 a, .int .i64 e, .bool true, .bool true, .bool false] rfl; replace b3 := (b3.keep l2).keep (later1 w2 (.cells #[.int .i64 a, .int .i64 e, .bool true, .bool true, .bool false] 88)); have h6 := (b6.keep l2).lt; replace b6 := (b6.keep l2).keep (later1 w2 (.cells #[.int .i64 a, .int .i64 e, .bool true, .bool true, .bool false] 88)); have lw := Later.trans_ (Later.trans_ lx l2) (later1 w2 (.cells #[.int .i64 a, .int .i64 e, .bool true, .bool true, .bool false] 88)))
            | (go_at_call 53; refine (HBL.out _).mono ?_; rintro r w3 ⟨rfl, l3⟩; replace b3 := b3.keep l3; replace b6 := b6.keep l3; replace b7 := b7.keep l3; replace lw := Later.trans_ lw l3; have c3 := b3.cell (j := 0) (v := .slice A n c) rfl)
            | (go_at_call 56; refine (HW.out _ lw).mono ?_; rintro r w4 ⟨rfl, l4⟩; clear c3; replace b3 := b3.keep l4; replace b6 := b6.keep l4; replace b7 := b7.keep l4; replace lw := Later.trans_ lw l4))
          have hz4 := b7.lt
          replace b3 := b3.drew
          replace b6 := b6.drew
          replace b7 := b7.drew
          replace lw := lw.drew
          refine wp_region_held_drew (S := fun w' => w'.cell? ⟨w2.heap.size, 0, none⟩ = some (.int .i64 a)) (by kernel_rfl) (b7.cell (j := 0) rfl) (fun hHeld => ?_)
          refine wpAnyH_take (i := 0) (oi := ⟨some 50, .move (.tmp 8), _, _, _, none⟩) (v := .int .i64 s) rfl (by kernel_rfl) (by kernel_rfl) (by kernel_rfl) (fun _ _ _ h => h) (Or.inl ⟨by rfl, fun _ _ => rfl⟩) hHeld ?_
          simp only [Act.put, List.setIfInBounds_toArray, List.set_cons_zero, List.set_cons_succ]
          refine wpAnyH_take (i := 1) (oi := ⟨some 51, .move (.tmp 9), _, _, _, none⟩) (v := .int .i64 f) rfl (by kernel_rfl) (by kernel_rfl) (by kernel_rfl) (fun _ _ _ h => h) (Or.inl ⟨by rfl, fun _ _ => rfl⟩) hHeld ?_
          simp only [Act.put, List.setIfInBounds_toArray, List.set_cons_zero, List.set_cons_succ]
          refine wpAnyH_take (i := 2) (oi := ⟨some 52, .move (.tmp 9), _, _, _, none⟩) (v := .int .i64 f) rfl (by kernel_rfl) (by kernel_rfl) (by kernel_rfl) (fun _ _ _ h => h) (Or.inl ⟨by rfl, fun _ _ => rfl⟩) hHeld ?_
          simp only [Act.put, List.setIfInBounds_toArray, List.set_cons_zero, List.set_cons_succ]
          refine wpAnyH_take (i := 4) (oi := ⟨some 54, .fieldAddr 88 (.tmp 7) 0, _, _, _, none⟩) (v := .pointer (some ⟨w2.heap.size, 0, none⟩)) rfl (by kernel_rfl) (by kernel_rfl) (by kernel_rfl) (fun _ _ _ h => h) (Or.inl ⟨by rfl, fun w _ => by go_simp⟩) hHeld ?_
          simp only [Act.put, List.setIfInBounds_toArray, List.set_cons_zero, List.set_cons_succ]
          refine wpAnyH_take (i := 5) (oi := ⟨some 55, .load 3 (.tmp 54), _, _, _, none⟩) (v := .int .i64 a) rfl (by kernel_rfl) (by kernel_rfl) (by kernel_rfl) (fun _ _ _ h => h) (Or.inl ⟨by rfl, fun w hSw => by have e1 := hSw; clear hSw; go_simp⟩) hHeld ?_
          simp only [Act.put, List.setIfInBounds_toArray, List.set_cons_zero, List.set_cons_succ]
          refine wpAnyH_take (i := 6) (oi := ⟨some 56, .move (.tmp 8), _, _, _, none⟩) (v := .int .i64 s) rfl (by kernel_rfl) (by kernel_rfl) (by kernel_rfl) (fun _ _ _ h => h) (Or.inl ⟨by rfl, fun _ _ => rfl⟩) hHeld ?_
          simp only [Act.put, List.setIfInBounds_toArray, List.set_cons_zero, List.set_cons_succ]
          refine wpAnyH_take (i := 8) (oi := ⟨some 58, .move (.tmp 9), _, _, _, none⟩) (v := .int .i64 f) rfl (by kernel_rfl) (by kernel_rfl) (by kernel_rfl) (fun _ _ _ h => h) (Or.inl ⟨by rfl, fun _ _ => rfl⟩) hHeld ?_
          simp only [Act.put, List.setIfInBounds_toArray, List.set_cons_zero, List.set_cons_succ]
          refine wpAnyH_ready (rs := [3, 7]) (by kernel_rfl) (by simp) (AllReadyH.cons (o := ⟨some 53, .call { callee := .value (.func 59), args := #[.tmp 52], argTypes := #[3] }, _, _, _, none⟩) rfl (fun K' hK => ?_) (AllReadyH.cons (o := ⟨some 57, .buildSlice 30 2 #[(0, .tmp 55), (1, .tmp 56)], _, _, _, none⟩) rfl (fun K' hK => ?_) AllReadyH.nil))
          · go_simp
            refine (HA2.out _).mono ?_
            rintro r w' ⟨rfl, rfl⟩
            refine hK.out _ _ (b7.cell (j := 0) rfl) (fun hHeld => ?_)
            clear hK K'
            try simp only [Act.put, List.setIfInBounds_toArray, List.set_cons_zero, List.set_cons_succ]
            refine wpAnyH_ready (rs := [7, 9]) (by kernel_rfl) (by simp) (AllReadyH.cons (o := ⟨some 57, .buildSlice 30 2 #[(0, .tmp 55), (1, .tmp 56)], _, _, _, none⟩) rfl (fun K' hK => ?_) (AllReadyH.cons (o := ⟨some 59, .call { callee := .value (.func 36), args := #[.tmp 58, .const (.int .i64 1)], argTypes := #[3, 3] }, _, _, _, none⟩) rfl (fun K' hK => ?_) AllReadyH.nil))
            · go_simp
              have bS := Blk.new w4 3 #[.int .i64 a, .int .i64 s] [.int .i64 a, .int .i64 s] rfl
              replace bS := bS.drew
              replace b6 := b6.alloc (.cells #[.int .i64 a, .int .i64 s] 3)
              replace b7 := b7.alloc (.cells #[.int .i64 a, .int .i64 s] 3)
              replace lw := lw.alloc lw.size (.cells #[.int .i64 a, .int .i64 s] 3)
              refine hK.out _ _ (b7.cell (j := 0) rfl) (fun hHeld => ?_)
              clear hK K'
              try simp only [Act.put, List.setIfInBounds_toArray, List.set_cons_zero, List.set_cons_succ]
              refine wpAnyH_ready (rs := [9]) (by kernel_rfl) (by simp) (AllReadyH.cons (o := ⟨some 59, .call { callee := .value (.func 36), args := #[.tmp 58, .const (.int .i64 1)], argTypes := #[3, 3] }, _, _, _, none⟩) rfl (fun K' hK => ?_) AllReadyH.nil)
              go_simp
              refine (HV.out _).mono ?_
              rintro r w' ⟨rfl, rfl⟩
              refine hK.out _ _ (b7.cell (j := 0) rfl) (fun hHeld => ?_)
              clear hK K'
              try simp only [Act.put, List.setIfInBounds_toArray, List.set_cons_zero, List.set_cons_succ]
              refine wpAnyH_take (i := 10) (oi := ⟨some 60, .move (.tmp 59), _, _, _, none⟩) (v := .bool true) rfl (by kernel_rfl) (by kernel_rfl) (by kernel_rfl) (fun _ _ _ h => h) (Or.inl ⟨by rfl, fun _ _ => rfl⟩) hHeld ?_
              simp only [Act.put, List.setIfInBounds_toArray, List.set_cons_zero, List.set_cons_succ]
              refine wpAnyH_take (i := 11) (oi := ⟨some 61, .move (.tmp 9), _, _, _, _⟩) (v := .int .i64 f) rfl (by kernel_rfl) (by kernel_rfl) (by kernel_rfl) (fun _ _ _ h => h) (Or.inl ⟨by rfl, fun _ _ => rfl⟩) hHeld ?_
              simp only [Act.put, List.setIfInBounds_toArray, List.set_cons_zero, List.set_cons_succ]
              refine wpAnyH_ready (rs := [12]) (by kernel_rfl) (by simp) (AllReadyH.cons (o := ⟨some 62, .call { callee := .value (.func 36), args := #[.tmp 61, .const (.int .i64 64)], argTypes := #[3, 3] }, _, _, _, _⟩) rfl (fun K' hK => ?_) AllReadyH.nil)
              go_simp
              refine (HG.out _).mono ?_
              rintro r w' ⟨rfl, rfl⟩
              refine hK.out _ _ (b7.cell (j := 0) rfl) (fun hHeld => ?_)
              clear hK K'
              try simp only [Act.put, List.setIfInBounds_toArray, List.set_cons_zero, List.set_cons_succ]
              refine wpAnyH_take (i := 13) (oi := ⟨some 63, .unOp .not 4 (.tmp 62), _, _, _, _⟩) (v := .bool (!g2)) rfl (by kernel_rfl) (by kernel_rfl) (by kernel_rfl) (fun _ _ _ h => h) (Or.inl ⟨by rfl, fun w _ => by go_simp⟩) hHeld ?_
              simp only [Act.put, List.setIfInBounds_toArray, List.set_cons_zero, List.set_cons_succ]
              refine wpAnyH_take (i := 14) (oi := ⟨some 64, .pick (.tmp 60) (.tmp 63) (.const (.bool false)), _, _, _, none⟩) (v := .bool (!g2)) rfl (by kernel_rfl) (by kernel_rfl) (by kernel_rfl) (fun _ _ _ h => h) (Or.inl ⟨by rfl, fun w _ => by go_simp⟩) hHeld ?_
              simp only [Act.put, List.setIfInBounds_toArray, List.set_cons_zero, List.set_cons_succ]
              refine wpAnyH_take (i := 15) (oi := ⟨some 65, .build 74 #[(0, .tmp 50), (1, .tmp 51), (2, .tmp 53), (3, .tmp 57), (4, .tmp 64)], _, _, _, none⟩) (v := .agg #[.int .i64 s, .int .i64 f, .int .i64 p, .slice (some ⟨w4.heap.size, 0, none⟩) 2 2, .bool (!g2)]) rfl (by kernel_rfl) (by kernel_rfl) (by kernel_rfl) (fun _ _ _ h => h) (Or.inl ⟨by rfl, fun w _ => by go_simp⟩) hHeld ?_
              simp only [Act.put, List.setIfInBounds_toArray, List.set_cons_zero, List.set_cons_succ]
              refine wpAnyH_ready (rs := [16]) (by kernel_rfl) (by simp) (AllReadyH.cons (o := ⟨none, .store 74 (.tmp 6) (.tmp 65), _, _, _, none⟩) rfl (fun K' hK => ?_) AllReadyH.nil)
              refine wp_store_abs 74 _ _ rfl _ 74 [.int .i64 0, .int .i64 0, .int .i64 0, .slice none 0 0, .bool false] [.int .i64 s, .int .i64 f, .int .i64 p, .slice (some ⟨w4.heap.size, 0, none⟩) 2 2, .bool (!g2)] rfl rfl b6 (leaf_sz _ _ _ _ _) rfl (leaf_one _ _ _ _ _ _ _) ?_
              intro w5 b8 o5
              replace b7 := b7.only o5 (by omega)
              replace bS := bS.only o5 (by omega)
              replace lw := Below.only lw o5 (by omega)
              refine hK.out _ _ (b7.cell (j := 0) rfl) (fun hHeld => ?_)
              clear hK K'
              try simp only [Act.put]
              refine wpAnyH_done (by kernel_rfl) ?_ _
              clear hHeld
              go_wp2
              exact bodyPost_ret (v := .agg #[.int .i64 s, .int .i64 f, .int .i64 p, .slice (some ⟨w4.heap.size, 0, none⟩) 2 2, .bool (!g2)]) (results_blk Try.results35 _ _ (w.heap.size + 1) 74 [.int .i64 s, .int .i64 f, .int .i64 p, .slice (some ⟨w4.heap.size, 0, none⟩) 2 2, .bool (!g2)] _ rfl b8 Try.underlying74 rfl (leaf_sz _ _ _ _ _)) rfl
                ⟨_, _, rfl, sl_two64 bS, (fun ad h => by cases h; show w.heap.size ≤ w4.heap.size; omega), lw⟩
            · go_simp
              refine (HV.out _).mono ?_
              rintro r w' ⟨rfl, rfl⟩
              refine hK.out _ _ (b7.cell (j := 0) rfl) (fun hHeld => ?_)
              clear hK K'
              try simp only [Act.put, List.setIfInBounds_toArray, List.set_cons_zero, List.set_cons_succ]
              refine wpAnyH_take (i := 10) (oi := ⟨some 60, .move (.tmp 59), _, _, _, none⟩) (v := .bool true) rfl (by kernel_rfl) (by kernel_rfl) (by kernel_rfl) (fun _ _ _ h => h) (Or.inl ⟨by rfl, fun _ _ => rfl⟩) hHeld ?_
              simp only [Act.put, List.setIfInBounds_toArray, List.set_cons_zero, List.set_cons_succ]
              refine wpAnyH_take (i := 11) (oi := ⟨some 61, .move (.tmp 9), _, _, _, _⟩) (v := .int .i64 f) rfl (by kernel_rfl) (by kernel_rfl) (by kernel_rfl) (fun _ _ _ h => h) (Or.inl ⟨by rfl, fun _ _ => rfl⟩) hHeld ?_
              simp only [Act.put, List.setIfInBounds_toArray, List.set_cons_zero, List.set_cons_succ]
              refine wpAnyH_ready (rs := [7, 12]) (by kernel_rfl) (by simp) (AllReadyH.cons (o := ⟨some 57, .buildSlice 30 2 #[(0, .tmp 55), (1, .tmp 56)], _, _, _, none⟩) rfl (fun K' hK => ?_) (AllReadyH.cons (o := ⟨some 62, .call { callee := .value (.func 36), args := #[.tmp 61, .const (.int .i64 64)], argTypes := #[3, 3] }, _, _, _, _⟩) rfl (fun K' hK => ?_) AllReadyH.nil))
              · go_simp
                have bS := Blk.new w4 3 #[.int .i64 a, .int .i64 s] [.int .i64 a, .int .i64 s] rfl
                replace bS := bS.drew
                replace b6 := b6.alloc (.cells #[.int .i64 a, .int .i64 s] 3)
                replace b7 := b7.alloc (.cells #[.int .i64 a, .int .i64 s] 3)
                replace lw := lw.alloc lw.size (.cells #[.int .i64 a, .int .i64 s] 3)
                refine hK.out _ _ (b7.cell (j := 0) rfl) (fun hHeld => ?_)
                clear hK K'
                try simp only [Act.put, List.setIfInBounds_toArray, List.set_cons_zero, List.set_cons_succ]
                refine wpAnyH_ready (rs := [12]) (by kernel_rfl) (by simp) (AllReadyH.cons (o := ⟨some 62, .call { callee := .value (.func 36), args := #[.tmp 61, .const (.int .i64 64)], argTypes := #[3, 3] }, _, _, _, _⟩) rfl (fun K' hK => ?_) AllReadyH.nil)
                go_simp
                refine (HG.out _).mono ?_
                rintro r w' ⟨rfl, rfl⟩
                refine hK.out _ _ (b7.cell (j := 0) rfl) (fun hHeld => ?_)
                clear hK K'
                try simp only [Act.put, List.setIfInBounds_toArray, List.set_cons_zero, List.set_cons_succ]
                refine wpAnyH_take (i := 13) (oi := ⟨some 63, .unOp .not 4 (.tmp 62), _, _, _, _⟩) (v := .bool (!g2)) rfl (by kernel_rfl) (by kernel_rfl) (by kernel_rfl) (fun _ _ _ h => h) (Or.inl ⟨by rfl, fun w _ => by go_simp⟩) hHeld ?_
                simp only [Act.put, List.setIfInBounds_toArray, List.set_cons_zero, List.set_cons_succ]
                refine wpAnyH_take (i := 14) (oi := ⟨some 64, .pick (.tmp 60) (.tmp 63) (.const (.bool false)), _, _, _, none⟩) (v := .bool (!g2)) rfl (by kernel_rfl) (by kernel_rfl) (by kernel_rfl) (fun _ _ _ h => h) (Or.inl ⟨by rfl, fun w _ => by go_simp⟩) hHeld ?_
                simp only [Act.put, List.setIfInBounds_toArray, List.set_cons_zero, List.set_cons_succ]
                refine wpAnyH_take (i := 15) (oi := ⟨some 65, .build 74 #[(0, .tmp 50), (1, .tmp 51), (2, .tmp 53), (3, .tmp 57), (4, .tmp 64)], _, _, _, none⟩) (v := .agg #[.int .i64 s, .int .i64 f, .int .i64 p, .slice (some ⟨w4.heap.size, 0, none⟩) 2 2, .bool (!g2)]) rfl (by kernel_rfl) (by kernel_rfl) (by kernel_rfl) (fun _ _ _ h => h) (Or.inl ⟨by rfl, fun w _ => by go_simp⟩) hHeld ?_
                simp only [Act.put, List.setIfInBounds_toArray, List.set_cons_zero, List.set_cons_succ]
                refine wpAnyH_ready (rs := [16]) (by kernel_rfl) (by simp) (AllReadyH.cons (o := ⟨none, .store 74 (.tmp 6) (.tmp 65), _, _, _, none⟩) rfl (fun K' hK => ?_) AllReadyH.nil)
                refine wp_store_abs 74 _ _ rfl _ 74 [.int .i64 0, .int .i64 0, .int .i64 0, .slice none 0 0, .bool false] [.int .i64 s, .int .i64 f, .int .i64 p, .slice (some ⟨w4.heap.size, 0, none⟩) 2 2, .bool (!g2)] rfl rfl b6 (leaf_sz _ _ _ _ _) rfl (leaf_one _ _ _ _ _ _ _) ?_
                intro w5 b8 o5
                replace b7 := b7.only o5 (by omega)
                replace bS := bS.only o5 (by omega)
                replace lw := Below.only lw o5 (by omega)
                refine hK.out _ _ (b7.cell (j := 0) rfl) (fun hHeld => ?_)
                clear hK K'
                try simp only [Act.put]
                refine wpAnyH_done (by kernel_rfl) ?_ _
                clear hHeld
                go_wp2
                exact bodyPost_ret (v := .agg #[.int .i64 s, .int .i64 f, .int .i64 p, .slice (some ⟨w4.heap.size, 0, none⟩) 2 2, .bool (!g2)]) (results_blk Try.results35 _ _ (w.heap.size + 1) 74 [.int .i64 s, .int .i64 f, .int .i64 p, .slice (some ⟨w4.heap.size, 0, none⟩) 2 2, .bool (!g2)] _ rfl b8 Try.underlying74 rfl (leaf_sz _ _ _ _ _)) rfl
                  ⟨_, _, rfl, sl_two64 bS, (fun ad h => by cases h; show w.heap.size ≤ w4.heap.size; omega), lw⟩
              · go_simp
                refine (HG.out _).mono ?_
                rintro r w' ⟨rfl, rfl⟩
                refine hK.out _ _ (b7.cell (j := 0) rfl) (fun hHeld => ?_)
                clear hK K'
                try simp only [Act.put, List.setIfInBounds_toArray, List.set_cons_zero, List.set_cons_succ]
                refine wpAnyH_take (i := 13) (oi := ⟨some 63, .unOp .not 4 (.tmp 62), _, _, _, _⟩) (v := .bool (!g2)) rfl (by kernel_rfl) (by kernel_rfl) (by kernel_rfl) (fun _ _ _ h => h) (Or.inl ⟨by rfl, fun w _ => by go_simp⟩) hHeld ?_
                simp only [Act.put, List.setIfInBounds_toArray, List.set_cons_zero, List.set_cons_succ]
                refine wpAnyH_take (i := 14) (oi := ⟨some 64, .pick (.tmp 60) (.tmp 63) (.const (.bool false)), _, _, _, none⟩) (v := .bool (!g2)) rfl (by kernel_rfl) (by kernel_rfl) (by kernel_rfl) (fun _ _ _ h => h) (Or.inl ⟨by rfl, fun w _ => by go_simp⟩) hHeld ?_
                simp only [Act.put, List.setIfInBounds_toArray, List.set_cons_zero, List.set_cons_succ]
                refine wpAnyH_ready (rs := [7]) (by kernel_rfl) (by simp) (AllReadyH.cons (o := ⟨some 57, .buildSlice 30 2 #[(0, .tmp 55), (1, .tmp 56)], _, _, _, none⟩) rfl (fun K' hK => ?_) AllReadyH.nil)
                go_simp
                have bS := Blk.new w4 3 #[.int .i64 a, .int .i64 s] [.int .i64 a, .int .i64 s] rfl
                replace bS := bS.drew
                replace b6 := b6.alloc (.cells #[.int .i64 a, .int .i64 s] 3)
                replace b7 := b7.alloc (.cells #[.int .i64 a, .int .i64 s] 3)
                replace lw := lw.alloc lw.size (.cells #[.int .i64 a, .int .i64 s] 3)
                refine hK.out _ _ (b7.cell (j := 0) rfl) (fun hHeld => ?_)
                clear hK K'
                try simp only [Act.put, List.setIfInBounds_toArray, List.set_cons_zero, List.set_cons_succ]
                refine wpAnyH_take (i := 15) (oi := ⟨some 65, .build 74 #[(0, .tmp 50), (1, .tmp 51), (2, .tmp 53), (3, .tmp 57), (4, .tmp 64)], _, _, _, none⟩) (v := .agg #[.int .i64 s, .int .i64 f, .int .i64 p, .slice (some ⟨w4.heap.size, 0, none⟩) 2 2, .bool (!g2)]) rfl (by kernel_rfl) (by kernel_rfl) (by kernel_rfl) (fun _ _ _ h => h) (Or.inl ⟨by rfl, fun w _ => by go_simp⟩) hHeld ?_
                simp only [Act.put, List.setIfInBounds_toArray, List.set_cons_zero, List.set_cons_succ]
                refine wpAnyH_ready (rs := [16]) (by kernel_rfl) (by simp) (AllReadyH.cons (o := ⟨none, .store 74 (.tmp 6) (.tmp 65), _, _, _, none⟩) rfl (fun K' hK => ?_) AllReadyH.nil)
                refine wp_store_abs 74 _ _ rfl _ 74 [.int .i64 0, .int .i64 0, .int .i64 0, .slice none 0 0, .bool false] [.int .i64 s, .int .i64 f, .int .i64 p, .slice (some ⟨w4.heap.size, 0, none⟩) 2 2, .bool (!g2)] rfl rfl b6 (leaf_sz _ _ _ _ _) rfl (leaf_one _ _ _ _ _ _ _) ?_
                intro w5 b8 o5
                replace b7 := b7.only o5 (by omega)
                replace bS := bS.only o5 (by omega)
                replace lw := Below.only lw o5 (by omega)
                refine hK.out _ _ (b7.cell (j := 0) rfl) (fun hHeld => ?_)
                clear hK K'
                try simp only [Act.put]
                refine wpAnyH_done (by kernel_rfl) ?_ _
                clear hHeld
                go_wp2
                exact bodyPost_ret (v := .agg #[.int .i64 s, .int .i64 f, .int .i64 p, .slice (some ⟨w4.heap.size, 0, none⟩) 2 2, .bool (!g2)]) (results_blk Try.results35 _ _ (w.heap.size + 1) 74 [.int .i64 s, .int .i64 f, .int .i64 p, .slice (some ⟨w4.heap.size, 0, none⟩) 2 2, .bool (!g2)] _ rfl b8 Try.underlying74 rfl (leaf_sz _ _ _ _ _)) rfl
                  ⟨_, _, rfl, sl_two64 bS, (fun ad h => by cases h; show w.heap.size ≤ w4.heap.size; omega), lw⟩
          · go_simp
            have bS := Blk.new w4 3 #[.int .i64 a, .int .i64 s] [.int .i64 a, .int .i64 s] rfl
            replace bS := bS.drew
            replace b6 := b6.alloc (.cells #[.int .i64 a, .int .i64 s] 3)
            replace b7 := b7.alloc (.cells #[.int .i64 a, .int .i64 s] 3)
            replace lw := lw.alloc lw.size (.cells #[.int .i64 a, .int .i64 s] 3)
            refine hK.out _ _ (b7.cell (j := 0) rfl) (fun hHeld => ?_)
            clear hK K'
            try simp only [Act.put, List.setIfInBounds_toArray, List.set_cons_zero, List.set_cons_succ]
            refine wpAnyH_ready (rs := [3]) (by kernel_rfl) (by simp) (AllReadyH.cons (o := ⟨some 53, .call { callee := .value (.func 59), args := #[.tmp 52], argTypes := #[3] }, _, _, _, none⟩) rfl (fun K' hK => ?_) AllReadyH.nil)
            go_simp
            refine (HA2.out _).mono ?_
            rintro r w' ⟨rfl, rfl⟩
            refine hK.out _ _ (b7.cell (j := 0) rfl) (fun hHeld => ?_)
            clear hK K'
            try simp only [Act.put, List.setIfInBounds_toArray, List.set_cons_zero, List.set_cons_succ]
            refine wpAnyH_ready (rs := [9]) (by kernel_rfl) (by simp) (AllReadyH.cons (o := ⟨some 59, .call { callee := .value (.func 36), args := #[.tmp 58, .const (.int .i64 1)], argTypes := #[3, 3] }, _, _, _, none⟩) rfl (fun K' hK => ?_) AllReadyH.nil)
            go_simp
            refine (HV.out _).mono ?_
            rintro r w' ⟨rfl, rfl⟩
            refine hK.out _ _ (b7.cell (j := 0) rfl) (fun hHeld => ?_)
            clear hK K'
            try simp only [Act.put, List.setIfInBounds_toArray, List.set_cons_zero, List.set_cons_succ]
            refine wpAnyH_take (i := 10) (oi := ⟨some 60, .move (.tmp 59), _, _, _, none⟩) (v := .bool true) rfl (by kernel_rfl) (by kernel_rfl) (by kernel_rfl) (fun _ _ _ h => h) (Or.inl ⟨by rfl, fun _ _ => rfl⟩) hHeld ?_
            simp only [Act.put, List.setIfInBounds_toArray, List.set_cons_zero, List.set_cons_succ]
            refine wpAnyH_take (i := 11) (oi := ⟨some 61, .move (.tmp 9), _, _, _, _⟩) (v := .int .i64 f) rfl (by kernel_rfl) (by kernel_rfl) (by kernel_rfl) (fun _ _ _ h => h) (Or.inl ⟨by rfl, fun _ _ => rfl⟩) hHeld ?_
            simp only [Act.put, List.setIfInBounds_toArray, List.set_cons_zero, List.set_cons_succ]
            refine wpAnyH_ready (rs := [12]) (by kernel_rfl) (by simp) (AllReadyH.cons (o := ⟨some 62, .call { callee := .value (.func 36), args := #[.tmp 61, .const (.int .i64 64)], argTypes := #[3, 3] }, _, _, _, _⟩) rfl (fun K' hK => ?_) AllReadyH.nil)
            go_simp
            refine (HG.out _).mono ?_
            rintro r w' ⟨rfl, rfl⟩
            refine hK.out _ _ (b7.cell (j := 0) rfl) (fun hHeld => ?_)
            clear hK K'
            try simp only [Act.put, List.setIfInBounds_toArray, List.set_cons_zero, List.set_cons_succ]
            refine wpAnyH_take (i := 13) (oi := ⟨some 63, .unOp .not 4 (.tmp 62), _, _, _, _⟩) (v := .bool (!g2)) rfl (by kernel_rfl) (by kernel_rfl) (by kernel_rfl) (fun _ _ _ h => h) (Or.inl ⟨by rfl, fun w _ => by go_simp⟩) hHeld ?_
            simp only [Act.put, List.setIfInBounds_toArray, List.set_cons_zero, List.set_cons_succ]
            refine wpAnyH_take (i := 14) (oi := ⟨some 64, .pick (.tmp 60) (.tmp 63) (.const (.bool false)), _, _, _, none⟩) (v := .bool (!g2)) rfl (by kernel_rfl) (by kernel_rfl) (by kernel_rfl) (fun _ _ _ h => h) (Or.inl ⟨by rfl, fun w _ => by go_simp⟩) hHeld ?_
            simp only [Act.put, List.setIfInBounds_toArray, List.set_cons_zero, List.set_cons_succ]
            refine wpAnyH_take (i := 15) (oi := ⟨some 65, .build 74 #[(0, .tmp 50), (1, .tmp 51), (2, .tmp 53), (3, .tmp 57), (4, .tmp 64)], _, _, _, none⟩) (v := .agg #[.int .i64 s, .int .i64 f, .int .i64 p, .slice (some ⟨w4.heap.size, 0, none⟩) 2 2, .bool (!g2)]) rfl (by kernel_rfl) (by kernel_rfl) (by kernel_rfl) (fun _ _ _ h => h) (Or.inl ⟨by rfl, fun w _ => by go_simp⟩) hHeld ?_
            simp only [Act.put, List.setIfInBounds_toArray, List.set_cons_zero, List.set_cons_succ]
            refine wpAnyH_ready (rs := [16]) (by kernel_rfl) (by simp) (AllReadyH.cons (o := ⟨none, .store 74 (.tmp 6) (.tmp 65), _, _, _, none⟩) rfl (fun K' hK => ?_) AllReadyH.nil)
            refine wp_store_abs 74 _ _ rfl _ 74 [.int .i64 0, .int .i64 0, .int .i64 0, .slice none 0 0, .bool false] [.int .i64 s, .int .i64 f, .int .i64 p, .slice (some ⟨w4.heap.size, 0, none⟩) 2 2, .bool (!g2)] rfl rfl b6 (leaf_sz _ _ _ _ _) rfl (leaf_one _ _ _ _ _ _ _) ?_
            intro w5 b8 o5
            replace b7 := b7.only o5 (by omega)
            replace bS := bS.only o5 (by omega)
            replace lw := Below.only lw o5 (by omega)
            refine hK.out _ _ (b7.cell (j := 0) rfl) (fun hHeld => ?_)
            clear hK K'
            try simp only [Act.put]
            refine wpAnyH_done (by kernel_rfl) ?_ _
            clear hHeld
            go_wp2
            exact bodyPost_ret (v := .agg #[.int .i64 s, .int .i64 f, .int .i64 p, .slice (some ⟨w4.heap.size, 0, none⟩) 2 2, .bool (!g2)]) (results_blk Try.results35 _ _ (w.heap.size + 1) 74 [.int .i64 s, .int .i64 f, .int .i64 p, .slice (some ⟨w4.heap.size, 0, none⟩) 2 2, .bool (!g2)] _ rfl b8 Try.underlying74 rfl (leaf_sz _ _ _ _ _)) rfl
              ⟨_, _, rfl, sl_two64 bS, (fun ad h => by cases h; show w.heap.size ≤ w4.heap.size; omega), lw⟩
        | false =>
          go_enter Try.func35, Try.ntmps35
          go_wp2_with (first
            | (go_at_call 52; refine (HT.out _ lx).mono ?_; rintro r w2 ⟨rfl, l2⟩; have b7 := Blk.new w2 88 #[.int .i64 a, .int .i64 e, .bool true, .bool true, .bool false] [.int .i64 a, .int .i64 e, .bool true, .bool true, .bool false] rfl; replace b3 := (b3.keep l2).keep (later1 w2 (.cells #[.int .i64 a, .int .i64 e, .bool true, .bool true, .bool false] 88)); have h6 := (b6.keep l2).lt; replace b6 := (b6.keep l2).keep (later1 w2 (.cells #[.int .i64 a, .int .i64 e, .bool true, .bool true, .bool false] 88)); have lw := Later.trans_ (Later.trans_ lx l2) (later1 w2 (.cells #[.int .i64 a, .int .i64 e, .bool true, .bool true, .bool false] 88)))
            | (go_at_call 53; refine (HBL.out _).mono ?_; rintro r w3 ⟨rfl, l3⟩; replace b3 := b3.keep l3; replace b6 := b6.keep l3; replace b7 := b7.keep l3; replace lw := Later.trans_ lw l3; have c3 := b3.cell (j := 0) (v := .slice A n c) rfl)
            | (go_at_call 56; refine (HW.out _ lw).mono ?_; rintro r w4 ⟨rfl, l4⟩; clear c3; replace b3 := b3.keep l4; replace b6 := b6.keep l4; replace b7 := b7.keep l4; replace lw := Later.trans_ lw l4))
          have hz4 := b7.lt
          replace b3 := b3.drew
          replace b6 := b6.drew
          replace b7 := b7.drew
          replace lw := lw.drew
          refine wp_region_held_drew (S := fun w' => w'.cell? ⟨w2.heap.size, 0, none⟩ = some (.int .i64 a)) (by kernel_rfl) (b7.cell (j := 0) rfl) (fun hHeld => ?_)
          refine wpAnyH_take (i := 0) (oi := ⟨some 50, .move (.tmp 8), _, _, _, none⟩) (v := .int .i64 s) rfl (by kernel_rfl) (by kernel_rfl) (by kernel_rfl) (fun _ _ _ h => h) (Or.inl ⟨by rfl, fun _ _ => rfl⟩) hHeld ?_
          simp only [Act.put, List.setIfInBounds_toArray, List.set_cons_zero, List.set_cons_succ]
          refine wpAnyH_take (i := 1) (oi := ⟨some 51, .move (.tmp 9), _, _, _, none⟩) (v := .int .i64 f) rfl (by kernel_rfl) (by kernel_rfl) (by kernel_rfl) (fun _ _ _ h => h) (Or.inl ⟨by rfl, fun _ _ => rfl⟩) hHeld ?_
          simp only [Act.put, List.setIfInBounds_toArray, List.set_cons_zero, List.set_cons_succ]
          refine wpAnyH_take (i := 2) (oi := ⟨some 52, .move (.tmp 9), _, _, _, none⟩) (v := .int .i64 f) rfl (by kernel_rfl) (by kernel_rfl) (by kernel_rfl) (fun _ _ _ h => h) (Or.inl ⟨by rfl, fun _ _ => rfl⟩) hHeld ?_
          simp only [Act.put, List.setIfInBounds_toArray, List.set_cons_zero, List.set_cons_succ]
          refine wpAnyH_take (i := 4) (oi := ⟨some 54, .fieldAddr 88 (.tmp 7) 0, _, _, _, none⟩) (v := .pointer (some ⟨w2.heap.size, 0, none⟩)) rfl (by kernel_rfl) (by kernel_rfl) (by kernel_rfl) (fun _ _ _ h => h) (Or.inl ⟨by rfl, fun w _ => by go_simp⟩) hHeld ?_
          simp only [Act.put, List.setIfInBounds_toArray, List.set_cons_zero, List.set_cons_succ]
          refine wpAnyH_take (i := 5) (oi := ⟨some 55, .load 3 (.tmp 54), _, _, _, none⟩) (v := .int .i64 a) rfl (by kernel_rfl) (by kernel_rfl) (by kernel_rfl) (fun _ _ _ h => h) (Or.inl ⟨by rfl, fun w hSw => by have e1 := hSw; clear hSw; go_simp⟩) hHeld ?_
          simp only [Act.put, List.setIfInBounds_toArray, List.set_cons_zero, List.set_cons_succ]
          refine wpAnyH_take (i := 6) (oi := ⟨some 56, .move (.tmp 8), _, _, _, none⟩) (v := .int .i64 s) rfl (by kernel_rfl) (by kernel_rfl) (by kernel_rfl) (fun _ _ _ h => h) (Or.inl ⟨by rfl, fun _ _ => rfl⟩) hHeld ?_
          simp only [Act.put, List.setIfInBounds_toArray, List.set_cons_zero, List.set_cons_succ]
          refine wpAnyH_take (i := 8) (oi := ⟨some 58, .move (.tmp 9), _, _, _, none⟩) (v := .int .i64 f) rfl (by kernel_rfl) (by kernel_rfl) (by kernel_rfl) (fun _ _ _ h => h) (Or.inl ⟨by rfl, fun _ _ => rfl⟩) hHeld ?_
          simp only [Act.put, List.setIfInBounds_toArray, List.set_cons_zero, List.set_cons_succ]
          refine wpAnyH_ready (rs := [3, 7]) (by kernel_rfl) (by simp) (AllReadyH.cons (o := ⟨some 53, .call { callee := .value (.func 59), args := #[.tmp 52], argTypes := #[3] }, _, _, _, none⟩) rfl (fun K' hK => ?_) (AllReadyH.cons (o := ⟨some 57, .buildSlice 30 2 #[(0, .tmp 55), (1, .tmp 56)], _, _, _, none⟩) rfl (fun K' hK => ?_) AllReadyH.nil))
          · go_simp
            refine (HA2.out _).mono ?_
            rintro r w' ⟨rfl, rfl⟩
            refine hK.out _ _ (b7.cell (j := 0) rfl) (fun hHeld => ?_)
            clear hK K'
            try simp only [Act.put, List.setIfInBounds_toArray, List.set_cons_zero, List.set_cons_succ]
            refine wpAnyH_ready (rs := [7, 9]) (by kernel_rfl) (by simp) (AllReadyH.cons (o := ⟨some 57, .buildSlice 30 2 #[(0, .tmp 55), (1, .tmp 56)], _, _, _, none⟩) rfl (fun K' hK => ?_) (AllReadyH.cons (o := ⟨some 59, .call { callee := .value (.func 36), args := #[.tmp 58, .const (.int .i64 1)], argTypes := #[3, 3] }, _, _, _, none⟩) rfl (fun K' hK => ?_) AllReadyH.nil))
            · go_simp
              have bS := Blk.new w4 3 #[.int .i64 a, .int .i64 s] [.int .i64 a, .int .i64 s] rfl
              replace bS := bS.drew
              replace b6 := b6.alloc (.cells #[.int .i64 a, .int .i64 s] 3)
              replace b7 := b7.alloc (.cells #[.int .i64 a, .int .i64 s] 3)
              replace lw := lw.alloc lw.size (.cells #[.int .i64 a, .int .i64 s] 3)
              refine hK.out _ _ (b7.cell (j := 0) rfl) (fun hHeld => ?_)
              clear hK K'
              try simp only [Act.put, List.setIfInBounds_toArray, List.set_cons_zero, List.set_cons_succ]
              refine wpAnyH_ready (rs := [9]) (by kernel_rfl) (by simp) (AllReadyH.cons (o := ⟨some 59, .call { callee := .value (.func 36), args := #[.tmp 58, .const (.int .i64 1)], argTypes := #[3, 3] }, _, _, _, none⟩) rfl (fun K' hK => ?_) AllReadyH.nil)
              go_simp
              refine (HV.out _).mono ?_
              rintro r w' ⟨rfl, rfl⟩
              refine hK.out _ _ (b7.cell (j := 0) rfl) (fun hHeld => ?_)
              clear hK K'
              try simp only [Act.put, List.setIfInBounds_toArray, List.set_cons_zero, List.set_cons_succ]
              refine wpAnyH_take (i := 10) (oi := ⟨some 60, .move (.tmp 59), _, _, _, none⟩) (v := .bool false) rfl (by kernel_rfl) (by kernel_rfl) (by kernel_rfl) (fun _ _ _ h => h) (Or.inl ⟨by rfl, fun _ _ => rfl⟩) hHeld ?_
              simp only [Act.put, List.setIfInBounds_toArray, List.set_cons_zero, List.set_cons_succ]
              refine wpAnyH_take (i := 11) (oi := ⟨some 61, .move (.tmp 9), _, _, _, _⟩) (v := undef) rfl (by kernel_rfl) (by kernel_rfl) (by kernel_rfl) (fun _ _ _ h => h) (Or.inr ⟨by rfl, rfl⟩) hHeld ?_
              simp only [Act.put, List.setIfInBounds_toArray, List.set_cons_zero, List.set_cons_succ]
              refine wpAnyH_take (i := 12) (oi := ⟨some 62, .call { callee := .value (.func 36), args := #[.tmp 61, .const (.int .i64 64)], argTypes := #[3, 3] }, _, _, _, _⟩) (v := undef) rfl (by kernel_rfl) (by kernel_rfl) (by kernel_rfl) (fun _ _ _ h => h) (Or.inr ⟨by rfl, rfl⟩) hHeld ?_
              simp only [Act.put, List.setIfInBounds_toArray, List.set_cons_zero, List.set_cons_succ]
              refine wpAnyH_take (i := 13) (oi := ⟨some 63, .unOp .not 4 (.tmp 62), _, _, _, _⟩) (v := undef) rfl (by kernel_rfl) (by kernel_rfl) (by kernel_rfl) (fun _ _ _ h => h) (Or.inr ⟨by rfl, rfl⟩) hHeld ?_
              simp only [Act.put, List.setIfInBounds_toArray, List.set_cons_zero, List.set_cons_succ]
              refine wpAnyH_take (i := 14) (oi := ⟨some 64, .pick (.tmp 60) (.tmp 63) (.const (.bool false)), _, _, _, none⟩) (v := .bool false) rfl (by kernel_rfl) (by kernel_rfl) (by kernel_rfl) (fun _ _ _ h => h) (Or.inl ⟨by rfl, fun w _ => by go_simp⟩) hHeld ?_
              simp only [Act.put, List.setIfInBounds_toArray, List.set_cons_zero, List.set_cons_succ]
              refine wpAnyH_take (i := 15) (oi := ⟨some 65, .build 74 #[(0, .tmp 50), (1, .tmp 51), (2, .tmp 53), (3, .tmp 57), (4, .tmp 64)], _, _, _, none⟩) (v := .agg #[.int .i64 s, .int .i64 f, .int .i64 p, .slice (some ⟨w4.heap.size, 0, none⟩) 2 2, .bool false]) rfl (by kernel_rfl) (by kernel_rfl) (by kernel_rfl) (fun _ _ _ h => h) (Or.inl ⟨by rfl, fun w _ => by go_simp⟩) hHeld ?_
              simp only [Act.put, List.setIfInBounds_toArray, List.set_cons_zero, List.set_cons_succ]
              refine wpAnyH_ready (rs := [16]) (by kernel_rfl) (by simp) (AllReadyH.cons (o := ⟨none, .store 74 (.tmp 6) (.tmp 65), _, _, _, none⟩) rfl (fun K' hK => ?_) AllReadyH.nil)
              refine wp_store_abs 74 _ _ rfl _ 74 [.int .i64 0, .int .i64 0, .int .i64 0, .slice none 0 0, .bool false] [.int .i64 s, .int .i64 f, .int .i64 p, .slice (some ⟨w4.heap.size, 0, none⟩) 2 2, .bool false] rfl rfl b6 (leaf_sz _ _ _ _ _) rfl (leaf_one _ _ _ _ _ _ _) ?_
              intro w5 b8 o5
              replace b7 := b7.only o5 (by omega)
              replace bS := bS.only o5 (by omega)
              replace lw := Below.only lw o5 (by omega)
              refine hK.out _ _ (b7.cell (j := 0) rfl) (fun hHeld => ?_)
              clear hK K'
              try simp only [Act.put]
              refine wpAnyH_done (by kernel_rfl) ?_ _
              clear hHeld
              go_wp2
              exact bodyPost_ret (v := .agg #[.int .i64 s, .int .i64 f, .int .i64 p, .slice (some ⟨w4.heap.size, 0, none⟩) 2 2, .bool false]) (results_blk Try.results35 _ _ (w.heap.size + 1) 74 [.int .i64 s, .int .i64 f, .int .i64 p, .slice (some ⟨w4.heap.size, 0, none⟩) 2 2, .bool false] _ rfl b8 Try.underlying74 rfl (leaf_sz _ _ _ _ _)) rfl
                ⟨_, _, rfl, sl_two64 bS, (fun ad h => by cases h; show w.heap.size ≤ w4.heap.size; omega), lw⟩
            · go_simp
              refine (HV.out _).mono ?_
              rintro r w' ⟨rfl, rfl⟩
              refine hK.out _ _ (b7.cell (j := 0) rfl) (fun hHeld => ?_)
              clear hK K'
              try simp only [Act.put, List.setIfInBounds_toArray, List.set_cons_zero, List.set_cons_succ]
              refine wpAnyH_take (i := 10) (oi := ⟨some 60, .move (.tmp 59), _, _, _, none⟩) (v := .bool false) rfl (by kernel_rfl) (by kernel_rfl) (by kernel_rfl) (fun _ _ _ h => h) (Or.inl ⟨by rfl, fun _ _ => rfl⟩) hHeld ?_
              simp only [Act.put, List.setIfInBounds_toArray, List.set_cons_zero, List.set_cons_succ]
              refine wpAnyH_take (i := 11) (oi := ⟨some 61, .move (.tmp 9), _, _, _, _⟩) (v := undef) rfl (by kernel_rfl) (by kernel_rfl) (by kernel_rfl) (fun _ _ _ h => h) (Or.inr ⟨by rfl, rfl⟩) hHeld ?_
              simp only [Act.put, List.setIfInBounds_toArray, List.set_cons_zero, List.set_cons_succ]
              refine wpAnyH_take (i := 12) (oi := ⟨some 62, .call { callee := .value (.func 36), args := #[.tmp 61, .const (.int .i64 64)], argTypes := #[3, 3] }, _, _, _, _⟩) (v := undef) rfl (by kernel_rfl) (by kernel_rfl) (by kernel_rfl) (fun _ _ _ h => h) (Or.inr ⟨by rfl, rfl⟩) hHeld ?_
              simp only [Act.put, List.setIfInBounds_toArray, List.set_cons_zero, List.set_cons_succ]
              refine wpAnyH_take (i := 13) (oi := ⟨some 63, .unOp .not 4 (.tmp 62), _, _, _, _⟩) (v := undef) rfl (by kernel_rfl) (by kernel_rfl) (by kernel_rfl) (fun _ _ _ h => h) (Or.inr ⟨by rfl, rfl⟩) hHeld ?_
              simp only [Act.put, List.setIfInBounds_toArray, List.set_cons_zero, List.set_cons_succ]
              refine wpAnyH_take (i := 14) (oi := ⟨some 64, .pick (.tmp 60) (.tmp 63) (.const (.bool false)), _, _, _, none⟩) (v := .bool false) rfl (by kernel_rfl) (by kernel_rfl) (by kernel_rfl) (fun _ _ _ h => h) (Or.inl ⟨by rfl, fun w _ => by go_simp⟩) hHeld ?_
              simp only [Act.put, List.setIfInBounds_toArray, List.set_cons_zero, List.set_cons_succ]
              refine wpAnyH_ready (rs := [7]) (by kernel_rfl) (by simp) (AllReadyH.cons (o := ⟨some 57, .buildSlice 30 2 #[(0, .tmp 55), (1, .tmp 56)], _, _, _, none⟩) rfl (fun K' hK => ?_) AllReadyH.nil)
              go_simp
              have bS := Blk.new w4 3 #[.int .i64 a, .int .i64 s] [.int .i64 a, .int .i64 s] rfl
              replace bS := bS.drew
              replace b6 := b6.alloc (.cells #[.int .i64 a, .int .i64 s] 3)
              replace b7 := b7.alloc (.cells #[.int .i64 a, .int .i64 s] 3)
              replace lw := lw.alloc lw.size (.cells #[.int .i64 a, .int .i64 s] 3)
              refine hK.out _ _ (b7.cell (j := 0) rfl) (fun hHeld => ?_)
              clear hK K'
              try simp only [Act.put, List.setIfInBounds_toArray, List.set_cons_zero, List.set_cons_succ]
              refine wpAnyH_take (i := 15) (oi := ⟨some 65, .build 74 #[(0, .tmp 50), (1, .tmp 51), (2, .tmp 53), (3, .tmp 57), (4, .tmp 64)], _, _, _, none⟩) (v := .agg #[.int .i64 s, .int .i64 f, .int .i64 p, .slice (some ⟨w4.heap.size, 0, none⟩) 2 2, .bool false]) rfl (by kernel_rfl) (by kernel_rfl) (by kernel_rfl) (fun _ _ _ h => h) (Or.inl ⟨by rfl, fun w _ => by go_simp⟩) hHeld ?_
              simp only [Act.put, List.setIfInBounds_toArray, List.set_cons_zero, List.set_cons_succ]
              refine wpAnyH_ready (rs := [16]) (by kernel_rfl) (by simp) (AllReadyH.cons (o := ⟨none, .store 74 (.tmp 6) (.tmp 65), _, _, _, none⟩) rfl (fun K' hK => ?_) AllReadyH.nil)
              refine wp_store_abs 74 _ _ rfl _ 74 [.int .i64 0, .int .i64 0, .int .i64 0, .slice none 0 0, .bool false] [.int .i64 s, .int .i64 f, .int .i64 p, .slice (some ⟨w4.heap.size, 0, none⟩) 2 2, .bool false] rfl rfl b6 (leaf_sz _ _ _ _ _) rfl (leaf_one _ _ _ _ _ _ _) ?_
              intro w5 b8 o5
              replace b7 := b7.only o5 (by omega)
              replace bS := bS.only o5 (by omega)
              replace lw := Below.only lw o5 (by omega)
              refine hK.out _ _ (b7.cell (j := 0) rfl) (fun hHeld => ?_)
              clear hK K'
              try simp only [Act.put]
              refine wpAnyH_done (by kernel_rfl) ?_ _
              clear hHeld
              go_wp2
              exact bodyPost_ret (v := .agg #[.int .i64 s, .int .i64 f, .int .i64 p, .slice (some ⟨w4.heap.size, 0, none⟩) 2 2, .bool false]) (results_blk Try.results35 _ _ (w.heap.size + 1) 74 [.int .i64 s, .int .i64 f, .int .i64 p, .slice (some ⟨w4.heap.size, 0, none⟩) 2 2, .bool false] _ rfl b8 Try.underlying74 rfl (leaf_sz _ _ _ _ _)) rfl
                ⟨_, _, rfl, sl_two64 bS, (fun ad h => by cases h; show w.heap.size ≤ w4.heap.size; omega), lw⟩
          · go_simp
            have bS := Blk.new w4 3 #[.int .i64 a, .int .i64 s] [.int .i64 a, .int .i64 s] rfl
            replace bS := bS.drew
            replace b6 := b6.alloc (.cells #[.int .i64 a, .int .i64 s] 3)
            replace b7 := b7.alloc (.cells #[.int .i64 a, .int .i64 s] 3)
            replace lw := lw.alloc lw.size (.cells #[.int .i64 a, .int .i64 s] 3)
            refine hK.out _ _ (b7.cell (j := 0) rfl) (fun hHeld => ?_)
            clear hK K'
            try simp only [Act.put, List.setIfInBounds_toArray, List.set_cons_zero, List.set_cons_succ]
            refine wpAnyH_ready (rs := [3]) (by kernel_rfl) (by simp) (AllReadyH.cons (o := ⟨some 53, .call { callee := .value (.func 59), args := #[.tmp 52], argTypes := #[3] }, _, _, _, none⟩) rfl (fun K' hK => ?_) AllReadyH.nil)
            go_simp
            refine (HA2.out _).mono ?_
            rintro r w' ⟨rfl, rfl⟩
            refine hK.out _ _ (b7.cell (j := 0) rfl) (fun hHeld => ?_)
            clear hK K'
            try simp only [Act.put, List.setIfInBounds_toArray, List.set_cons_zero, List.set_cons_succ]
            refine wpAnyH_ready (rs := [9]) (by kernel_rfl) (by simp) (AllReadyH.cons (o := ⟨some 59, .call { callee := .value (.func 36), args := #[.tmp 58, .const (.int .i64 1)], argTypes := #[3, 3] }, _, _, _, none⟩) rfl (fun K' hK => ?_) AllReadyH.nil)
            go_simp
            refine (HV.out _).mono ?_
            rintro r w' ⟨rfl, rfl⟩
            refine hK.out _ _ (b7.cell (j := 0) rfl) (fun hHeld => ?_)
            clear hK K'
            try simp only [Act.put, List.setIfInBounds_toArray, List.set_cons_zero, List.set_cons_succ]
            refine wpAnyH_take (i := 10) (oi := ⟨some 60, .move (.tmp 59), _, _, _, none⟩) (v := .bool false) rfl (by kernel_rfl) (by kernel_rfl) (by kernel_rfl) (fun _ _ _ h => h) (Or.inl ⟨by rfl, fun _ _ => rfl⟩) hHeld ?_
            simp only [Act.put, List.setIfInBounds_toArray, List.set_cons_zero, List.set_cons_succ]
            refine wpAnyH_take (i := 11) (oi := ⟨some 61, .move (.tmp 9), _, _, _, _⟩) (v := undef) rfl (by kernel_rfl) (by kernel_rfl) (by kernel_rfl) (fun _ _ _ h => h) (Or.inr ⟨by rfl, rfl⟩) hHeld ?_
            simp only [Act.put, List.setIfInBounds_toArray, List.set_cons_zero, List.set_cons_succ]
            refine wpAnyH_take (i := 12) (oi := ⟨some 62, .call { callee := .value (.func 36), args := #[.tmp 61, .const (.int .i64 64)], argTypes := #[3, 3] }, _, _, _, _⟩) (v := undef) rfl (by kernel_rfl) (by kernel_rfl) (by kernel_rfl) (fun _ _ _ h => h) (Or.inr ⟨by rfl, rfl⟩) hHeld ?_
            simp only [Act.put, List.setIfInBounds_toArray, List.set_cons_zero, List.set_cons_succ]
            refine wpAnyH_take (i := 13) (oi := ⟨some 63, .unOp .not 4 (.tmp 62), _, _, _, _⟩) (v := undef) rfl (by kernel_rfl) (by kernel_rfl) (by kernel_rfl) (fun _ _ _ h => h) (Or.inr ⟨by rfl, rfl⟩) hHeld ?_
            simp only [Act.put, List.setIfInBounds_toArray, List.set_cons_zero, List.set_cons_succ]
            refine wpAnyH_take (i := 14) (oi := ⟨some 64, .pick (.tmp 60) (.tmp 63) (.const (.bool false)), _, _, _, none⟩) (v := .bool false) rfl (by kernel_rfl) (by kernel_rfl) (by kernel_rfl) (fun _ _ _ h => h) (Or.inl ⟨by rfl, fun w _ => by go_simp⟩) hHeld ?_
            simp only [Act.put, List.setIfInBounds_toArray, List.set_cons_zero, List.set_cons_succ]
            refine wpAnyH_take (i := 15) (oi := ⟨some 65, .build 74 #[(0, .tmp 50), (1, .tmp 51), (2, .tmp 53), (3, .tmp 57), (4, .tmp 64)], _, _, _, none⟩) (v := .agg #[.int .i64 s, .int .i64 f, .int .i64 p, .slice (some ⟨w4.heap.size, 0, none⟩) 2 2, .bool false]) rfl (by kernel_rfl) (by kernel_rfl) (by kernel_rfl) (fun _ _ _ h => h) (Or.inl ⟨by rfl, fun w _ => by go_simp⟩) hHeld ?_
            simp only [Act.put, List.setIfInBounds_toArray, List.set_cons_zero, List.set_cons_succ]
            refine wpAnyH_ready (rs := [16]) (by kernel_rfl) (by simp) (AllReadyH.cons (o := ⟨none, .store 74 (.tmp 6) (.tmp 65), _, _, _, none⟩) rfl (fun K' hK => ?_) AllReadyH.nil)
            refine wp_store_abs 74 _ _ rfl _ 74 [.int .i64 0, .int .i64 0, .int .i64 0, .slice none 0 0, .bool false] [.int .i64 s, .int .i64 f, .int .i64 p, .slice (some ⟨w4.heap.size, 0, none⟩) 2 2, .bool false] rfl rfl b6 (leaf_sz _ _ _ _ _) rfl (leaf_one _ _ _ _ _ _ _) ?_
            intro w5 b8 o5
            replace b7 := b7.only o5 (by omega)
            replace bS := bS.only o5 (by omega)
            replace lw := Below.only lw o5 (by omega)
            refine hK.out _ _ (b7.cell (j := 0) rfl) (fun hHeld => ?_)
            clear hK K'
            try simp only [Act.put]
            refine wpAnyH_done (by kernel_rfl) ?_ _
            clear hHeld
            go_wp2
            exact bodyPost_ret (v := .agg #[.int .i64 s, .int .i64 f, .int .i64 p, .slice (some ⟨w4.heap.size, 0, none⟩) 2 2, .bool false]) (results_blk Try.results35 _ _ (w.heap.size + 1) 74 [.int .i64 s, .int .i64 f, .int .i64 p, .slice (some ⟨w4.heap.size, 0, none⟩) 2 2, .bool false] _ rfl b8 Try.underlying74 rfl (leaf_sz _ _ _ _ _)) rfl
              ⟨_, _, rfl, sl_two64 bS, (fun ad h => by cases h; show w.heap.size ≤ w4.heap.size; omega), lw⟩

end Go.Proofs.Ytiaejldknbicdaa
