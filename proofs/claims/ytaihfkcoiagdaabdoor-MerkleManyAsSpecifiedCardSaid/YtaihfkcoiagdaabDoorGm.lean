/-
  FOR MerkleProofsMatchSpec: both sides' Inclusion and Consistency, whatever the number.
-/
import Derived.Test.YtaihfkcoiagdaabDoorGl
namespace Go.Proofs.YtaihfkcoiagdaabDoor
open Go.RowKit Go.ChangeShapes Go.WideShapes Go.ChangeAt

/-- A list and a number handed back by the program. -/
def GotE (J : List Wm.Bs) (er : Int) (w : World) (e : Ending) (w' : World) : Prop := ∃ A c, e = .returned (.tuple #[.slice A J.length c, .int .i64 er]) ∧ Pt w' A J.length c J ∧ Later w w'
/-- The same of the reference. -/
def GotR (J : List Wm.Bs) (er : Int) (w : World) (e : Ending) (w' : World) : Prop := ∃ A c, e = .returned (.agg #[.slice A J.length c, .int .i64 er]) ∧ Pt w' A J.length c J ∧ Later w w'
theorem gotE_path {J : List Wm.Bs} {w w' : World} {e : Ending} (h : GotPath J w e w') : GotE J 0 w e w' := by
  obtain ⟨A, c, he, h1, h2, h3, _, h5⟩ := h
  exact ⟨A, c, he, ⟨h3, h1, h2⟩, h5⟩
theorem gotR_p {J : List Wm.Bs} {er : Int} {w w' : World} {e : Ending} (h : GotP J er w e w') : GotR J er w e w' := by
  obtain ⟨A, c, he, h1, h2, h3, h4⟩ := h
  exact ⟨A, c, he, ⟨h3, h1, h2⟩, h4⟩
theorem gotE_bad {w w' : World} {e : Ending} (h : e = .returned (.tuple #[.slice none 0 0, .int .i64 1]) ∧ w' = w) : GotE [] 1 w e w' := by
  obtain ⟨rfl, rfl⟩ := h
  exact ⟨none, 0, rfl, ⟨Sl.nil _ _ _, Nat.le_refl _, by decide⟩, Below.refl _ _⟩
theorem incl_both (A : Option Addr) (n c : Nat) (i : Int) (l : List Wm.Bs) (w : World) (hs : Sl w 16 A n (Ds l)) (hl : isD l) (hn : n ≤ 40) (hnc : n ≤ c) (hc : c ≤ 9223372036854775807) (tab : Tab w) (tab0 : Tab0 w) :
    ∃ J er, isD J ∧ J.length ≤ 64 ∧ (∀ w', Later w w' → Calls Tryd.prog 10 #[.slice A n c, .int .i64 i] w' (GotE J er w')) ∧
      (∀ w', Later w w' → Calls Tryd.prog 12 #[.slice A n c, .int .i64 i] w' (GotR J er w')) := by
  by_cases h : i < 0 ∨ (n : Int) ≤ i
  · exact ⟨[], 1, fun _ h => (by cases h), by decide, fun w' _ => (inclusion_bad A n c i w' h).mono fun _ _ => gotE_bad, fun w' _ => (refInclusion_bad A n c i w' h).mono fun _ _ => gotR_p⟩
  · obtain ⟨k, rfl⟩ := Int.eq_ofNat_of_zero_le (show 0 ≤ i by omega)
    have hk : k < n := by omega
    exact ⟨Mk.incl nodeD emptyD l k, 0, incl_isD _ l k (Nat.le_refl _) hl, by have := incl_len l l.length k (Nat.le_refl _); have := hs.dlen hl; omega,
      fun w' hw => (inclusion_any A n c k l w' hk (by omega) hnc hc (hs.keep hw) hl (tab.keep hw)).mono fun _ _ => gotE_path,
      fun w' hw => (refInclusion_any A n c k l w' hk (hs.keep hw) hl (by omega) hnc hc (tab0.keep hw)).mono fun _ _ => gotR_p⟩
theorem cons_both (A : Option Addr) (n c : Nat) (m : Int) (l : List Wm.Bs) (w : World) (hs : Sl w 16 A n (Ds l)) (hl : isD l) (hn : n ≤ 40) (hnc : n ≤ c) (hc : c ≤ 9223372036854775807) (tab : Tab w) (tab0 : Tab0 w) :
    ∃ J er, isD J ∧ (∀ w', Later w w' → Calls Tryd.prog 11 #[.slice A n c, .int .i64 m] w' (GotE J er w')) ∧
      (∀ w', Later w w' → Calls Tryd.prog 13 #[.slice A n c, .int .i64 m] w' (GotR J er w')) := by
  have hll := hs.dlen hl
  by_cases h : m < 0 ∨ (n : Int) < m
  · exact ⟨[], 1, fun _ h => (by cases h), fun w' _ => (consistency_bad A n c m w' h).mono fun _ _ => gotE_bad, fun w' _ => (refConsistency_bad A n c m w' h).mono fun _ _ => gotR_p⟩
  · obtain ⟨k, rfl⟩ := Int.eq_ofNat_of_zero_le (show 0 ≤ m by omega)
    have hk : k ≤ n := by omega
    by_cases h0 : k = 0
    · subst h0
      exact ⟨[], 0, fun _ h => (by cases h), fun w' _ => (consistency_zero A n c w').mono fun _ _ => gotE_path, fun w' _ => (refConsistency_none A n c 0 w' (.inl rfl) hk).mono fun _ _ => gotR_p⟩
    · by_cases h1 : k = n
      · refine ⟨[], 0, fun _ h => (by cases h), fun w' hw => ?_, fun w' _ => (refConsistency_none A n c k w' (.inr h1) hk).mono fun _ _ => gotR_p⟩
        have h2 := consistency_any A n c k l w' (by omega) hk (by omega) hnc hc (hs.keep hw) hl (tab.keep hw)
        rw [show k = l.length by omega, Mk.cons_all, if_pos rfl] at h2
        rw [show k = l.length by omega]
        exact h2.mono fun _ _ => gotE_path
      · refine ⟨Mk.cons nodeD emptyD l k true, 0, ?_, fun w' hw => (consistency_any A n c k l w' (by omega) hk (by omega) hnc hc (hs.keep hw) hl (tab.keep hw)).mono fun _ _ => gotE_path,
          fun w' hw => (refConsistency_any A n c k l w' (by omega) (by omega) (hs.keep hw) hl (by omega) hnc hc (tab0.keep hw)).mono fun _ _ => gotR_p⟩
        exact cons_isD _ l k true (Nat.le_refl _) hl
end Go.Proofs.YtaihfkcoiagdaabDoor

/-
  THE WALK OF MerkleProofsMatchSpec.
-/
namespace Go.Proofs.YtaihfkcoiagdaabDoor
open Go.RowKit Go.ChangeShapes Go.WideShapes Go.ChangeAt

theorem laterZ (w : World) (o : Obj) : Later w (w.alloc o) := (Below.refl _ _).alloc (Nat.le_refl _) o
set_option maxRecDepth 100000 in
set_option maxHeartbeats 1000000 in
theorem proofs_big (A : Option Addr) (n c : Nat) (i m : Int) (s : ByteArray) (w : World) (tab : Tab w) (tab0 : Tab0 w) (h : 40 < n ∨ 200 < s.size) :
    Calls Tryd.prog 3 #[.slice A n c, .int .i64 i, .int .i64 m, .string s] w fun e w' => e = .returned (.bool true) ∧ Later w w' := by
  have HS := Lib.hid fun w' (h : Later w w') => sanity_any w' (tab.keep h) (tab0.keep h)
  clear tab tab0
  rcases Nat.lt_or_ge 40 n with h1 | h1
  · go_enter Tryd.func3, Tryd.ntmps3
    go_wp2_with (go_at_call 9; refine (HS.out _ (Below.refl _ _)).mono ?_; rintro e w1 ⟨rfl, l1⟩)
    go_ret
    exact ⟨rfl, l1⟩
  · have h2 : 200 < s.size := by omega
    go_enter Tryd.func3, Tryd.ntmps3
    go_wp2_with (go_at_call 9; refine (HS.out _ (Below.refl _ _)).mono ?_; rintro e w1 ⟨rfl, l1⟩)
    go_ret
    exact ⟨rfl, l1⟩
set_option maxRecDepth 100000 in
set_option maxHeartbeats 4000000 in
theorem proofs_any (A : Option Addr) (n c : Nat) (i m : Int) (s : ByteArray) (l : List Wm.Bs) (w : World) (tab : Tab w) (tab0 : Tab0 w) (hn : n ≤ 40) (hs2 : s.size ≤ 200) (hs : Sl w 16 A n (Ds l)) (hl : isD l) (hnc : n ≤ c) (hc : c ≤ 9223372036854775807) :
    Calls Tryd.prog 3 #[.slice A n c, .int .i64 i, .int .i64 m, .string s] w fun e w' => e = .returned (.bool true) ∧ Later w w' := by
  have HSN := Lib.hid fun w' (h : Later w w') => sanity_any w' (tab.keep h) (tab0.keep h)
  obtain ⟨J1, er1, jd1, jl1, a1, a2⟩ := incl_both A n c i l w hs hl hn hnc hc tab tab0
  obtain ⟨J2, er2, jd2, a3, a4⟩ := cons_both A n c m l w hs hl hn hnc hc tab tab0
  have HI := Lib.hid a1; have HRI := Lib.hid a2; have HC := Lib.hid a3; have HRC := Lib.hid a4
  have JD1 := Lib.hid jd1; have JD2 := Lib.hid jd2
  have HLF := Lib.hid fun w' (h : Later w w') => leaf_any s w' (by omega) (tab.keep h)
  have HRL := Lib.hid fun w' (h : Later w w') => refLeaf_any s w' (by omega) (tab0.keep h)
  have HRT := Lib.hid fun w' (h : Later w w') => root_any n A n c l w' (Nat.le_refl _) (hs.keep h) hl (by omega) hnc hc (tab.keep h)
  have HRR := Lib.hid fun w' (h : Later w w') => refRoot_any n A n c l w' (Nat.le_refl _) (hs.keep h) hl (by omega) hnc hc (tab0.keep h)
  have hd : (leafD s).length = 16 ∧ Wm.isBs (leafD s) := ⟨digOf_len _, digOf_bs _⟩
  have hr := rootD_dig hl
  obtain ⟨d, ed⟩ : ∃ d, d = leafD s := ⟨_, rfl⟩
  obtain ⟨rt, er⟩ : ∃ rt, rt = rootD l := ⟨_, rfl⟩
  rw [← ed] at HLF HRL hd; rw [← er] at HRT HRR hr
  have HN := Lib.hid fun w' (h : Later w w') => node_any d rt w' hd.1 hr.1 (tab.keep h)
  have HRN := Lib.hid fun w' (h : Later w w') => refNode_any d rt w' hd.1 hr.1 (tab0.keep h)
  have hnd : (nodeD d rt).length = 16 ∧ Wm.isBs (nodeD d rt) := ⟨nodeD_len _ _, nodeD_bs _ _⟩
  obtain ⟨nd, en⟩ : ∃ nd, nd = nodeD d rt := ⟨_, rfl⟩
  rw [← en] at HN HRN hnd
  have HDd := Lib.hid hd; have HDr := Lib.hid hr; have HDn := Lib.hid hnd
  have HSM := Lib.hid fun (J : List Wm.Bs) (A B : Option Addr) (x y : Nat) (w' : World) (jd : isD J) (h1 : Pt w' A J.length x J) (h2 : Pt w' B J.length y J) => (by
    have h := same_any A B J.length x J.length y J J w' h1.1 jd h2.1 jd (by have := h1.2; unfold maxLen; omega)
    rw [decide_eq_true rfl] at h; exact h : Calls Tryd.prog 17 #[.slice A J.length x, .slice B J.length y] w' fun e w'' => e = .returned (.bool true) ∧ Later w' w'')
  have k1 : ¬ 40 < n := by omega
  have k2 : ¬ 200 < s.size := by omega
  clear tab tab0 hs hl a1 a2 a3 a4 jd1 jd2 jl1 hd hr hnd ed er en hn hs2
  go_enter Tryd.func3, Tryd.ntmps3
  go_wp2_with (first
    | (go_at_call 10; (with_reducible refine (HI.out _ (Below.refl _ _)).mono ?_); rintro e w1 ⟨A1, c1, rfl, p1, h1⟩; have l1 : Later w w1 := h1)
    | (go_at_call 11; (with_reducible refine (HC.out _ l1).mono ?_); rintro e w2 ⟨A2, c2, rfl, p2, h2⟩; have l2 : Later w w2 := Later.trans_ l1 h2; replace p1 := p1.keep h2)
    | (go_at_call 12; (with_reducible refine (HRI.out _ l2).mono ?_); rintro e w3 ⟨A3, c3, rfl, p3, h3⟩; have l3 : Later w w3 := Later.trans_ l2 h3; replace p1 := p1.keep h3; replace p2 := p2.keep h3)
    | (go_at_call 13; (with_reducible refine (HRC.out _ (l3.alloc l3.size _)).mono ?_); rintro e w4 ⟨A4, c4, rfl, p4, h4⟩; have l4 : Later w w4 := Later.trans_ (l3.alloc l3.size _) h4; have b3 := (Blk.new w3 _ #[.slice A3 J1.length c3, .int .i64 er1] [.slice A3 J1.length c3, .int .i64 er1] rfl).keep h4; replace h4 : Later w3 w4 := Later.trans_ (laterZ _ _) h4; replace p1 := p1.keep h4; replace p2 := p2.keep h4; replace p3 := p3.keep h4)
    | (go_at_call 14; (with_reducible refine (HLF.out _ (l4.alloc l4.size _)).mono ?_); rintro e w5 ⟨rfl, h5⟩; have l5 : Later w w5 := Later.trans_ (l4.alloc l4.size _) h5; have b4 := (Blk.new w4 _ #[.slice A4 J2.length c4, .int .i64 er2] [.slice A4 J2.length c4, .int .i64 er2] rfl).keep h5; replace h5 : Later w4 w5 := Later.trans_ (laterZ _ _) h5; replace p1 := p1.keep h5; replace p2 := p2.keep h5; replace p3 := p3.keep h5; replace p4 := p4.keep h5; replace b3 := b3.keep h5)
    | ((with_reducible refine wpList_store_abs (o := ⟨none, .store 31 (.tmp 15) (.tmp 45), _, _, _, none⟩) rfl _ _ _ rfl w5.heap.size 31 (PartB [] 16) (U d) ?_ ?_ (Blk.new w5 _ _ _ rfl) (dig_sz HDd.out.1) (dig_z HDd.out.1) (U_one _) ?_); rfl; rfl; intro w6 x5 o5; have m5 := l5.size; have k5 : Later w5 w6 := Below.only (laterZ w5 (.cells (PartB [] 16).toArray 31)) o5 (Nat.le_refl _); have l6 : Later w w6 := Later.trans_ l5 k5; replace p1 := p1.keep k5; replace p2 := p2.keep k5; replace p3 := p3.keep k5; replace p4 := p4.keep k5; replace b3 := b3.keep k5; replace b4 := b4.keep k5)
    | (go_at_call 15; (with_reducible refine (HRT.out _ l6).mono ?_); rintro e w7 ⟨rfl, h7⟩; have l7 : Later w w7 := Later.trans_ l6 h7; replace p1 := p1.keep h7; replace p2 := p2.keep h7; replace p3 := p3.keep h7; replace p4 := p4.keep h7; replace b3 := b3.keep h7; replace b4 := b4.keep h7; replace x5 := x5.keep h7)
    | ((with_reducible refine wpList_store_abs (o := ⟨none, .store 31 (.tmp 16) (.tmp 47), _, _, _, none⟩) rfl _ _ _ rfl w7.heap.size 31 (PartB [] 16) (U rt) ?_ ?_ (Blk.new w7 _ _ _ rfl) (dig_sz HDr.out.1) (dig_z HDr.out.1) (U_one _) ?_); rfl; rfl; intro w8 x7 o7; have k7 : Later w7 w8 := Below.only (laterZ w7 (.cells (PartB [] 16).toArray 31)) o7 (Nat.le_refl _); have l8 : Later w w8 := Later.trans_ l7 k7; replace p1 := p1.keep k7; replace p2 := p2.keep k7; replace p3 := p3.keep k7; replace p4 := p4.keep k7; replace b3 := b3.keep k7; replace b4 := b4.keep k7; replace x5 := x5.keep k7))
  obtain ⟨B3, e3⟩ : ∃ B, B = w3.heap.size := ⟨_, rfl⟩
  obtain ⟨B4, e4⟩ : ∃ B, B = w4.heap.size := ⟨_, rfl⟩
  obtain ⟨B5, e5⟩ : ∃ B, B = w5.heap.size := ⟨_, rfl⟩
  obtain ⟨B7, e7⟩ : ∃ B, B = w7.heap.size := ⟨_, rfl⟩
  rw [← e3] at b3 ⊢; rw [← e4] at b4 ⊢; rw [← e5] at x5 ⊢; rw [← e7] at x7 ⊢
  clear e3 e4 e5 e7 h1 h2 h3 h4 h5 h7 k5 k7 o5 o7 l1 l2 l3 l4 l5 l6 l7 m5 HI HC HRI HRC HLF HRT
  have hgd : Tryd.prog.eqGuardType Tryd.prog.depth 31 = false := by kernel_rfl
  have qr : ∀ w' : World, (Op.equalIn 10000 31 (.agg (U rt).toArray) (.agg (U rt).toArray)).run Tryd.prog w' = .ok true w' := fun w' => by rw [dig_eq HDr.out.1 HDr.out.1 w', decide_eq_true rfl]
  have qd : ∀ w' : World, (Op.equalIn 10000 31 (.agg (U d).toArray) (.agg (U d).toArray)).run Tryd.prog w' = .ok true w' := fun w' => by rw [dig_eq HDd.out.1 HDd.out.1 w', decide_eq_true rfl]
  have qn : ∀ w' : World, (Op.equalIn 10000 31 (.agg (U nd).toArray) (.agg (U nd).toArray)).run Tryd.prog w' = .ok true w' := fun w' => by rw [dig_eq HDn.out.1 HDn.out.1 w', decide_eq_true rfl]
  have g1 := b3.cell (j := 0) rfl; have g2 := b3.cell (j := 1) rfl; have g3 := b4.cell (j := 0) rfl; have g4 := b4.cell (j := 1) rfl
  clear g1 g2 g3 g4
  refine wp_region_held_drew (S := fun w' => w'.rangeAt B7 0 (U rt) ∧ w'.rangeAt B5 0 (U d) ∧ w'.cell? ⟨B3, 0, none⟩ = some (.slice A3 J1.length c3) ∧ w'.cell? ⟨B3, 1, none⟩ = some (.int .i64 er1) ∧ w'.cell? ⟨B4, 0, none⟩ = some (.slice A4 J2.length c4) ∧ w'.cell? ⟨B4, 1, none⟩ = some (.int .i64 er2)) (by kernel_rfl) ⟨blk_at x7.drew, blk_at x5.drew, b3.drew.cell (j := 0) rfl, b3.drew.cell (j := 1) rfl, b4.drew.cell (j := 0) rfl, b4.drew.cell (j := 1) rfl⟩ (fun hHeld => ?_)
  refine wpAnyH_ready (rs := [0]) (by kernel_rfl) (by simp) (AllReadyH.cons (o := ⟨some 48, .call { callee := .value (.func 9), args := #[], argTypes := #[] }, _, _, _, none⟩) rfl (fun K' hK => ?_) (AllReadyH.nil))
  go_simp
  replace p1 := p1.drew; replace p2 := p2.drew; replace p3 := p3.drew; replace p4 := p4.drew; replace b3 := b3.drew; replace b4 := b4.drew; replace x5 := x5.drew; replace x7 := x7.drew; replace l8 : Later w w8.drew := l8.drew
  refine (HSN.out _ l8).mono ?_
  rintro e v1 ⟨rfl, k1'⟩
  replace p1 := p1.keep k1'; replace p2 := p2.keep k1'; replace p3 := p3.keep k1'; replace p4 := p4.keep k1'; replace b3 := b3.keep k1'; replace b4 := b4.keep k1'; replace x5 := x5.keep k1'; replace x7 := x7.keep k1'; replace l8 := Later.trans_ l8 k1'
  refine hK.out _ _ ⟨blk_at x7, blk_at x5, b3.cell (j := 0) rfl, b3.cell (j := 1) rfl, b4.cell (j := 0) rfl, b4.cell (j := 1) rfl⟩ (fun hHeld => ?_)
  clear hK K'
  try simp only [Act.put, List.setIfInBounds_toArray, List.set_cons_zero, List.set_cons_succ]
  refine wpAnyH_take (i := 1) (oi := ⟨some 49, .move (.tmp 48), _, _, _, none⟩) (v := .bool true) rfl (by kernel_rfl) (by kernel_rfl) (by kernel_rfl) (fun _ _ _ h => h) (Or.inl ⟨by rfl, fun _ _ => rfl⟩) hHeld ?_
  simp only [Act.put, List.setIfInBounds_toArray, List.set_cons_zero, List.set_cons_succ]
  refine wpAnyH_take (i := 2) (oi := ⟨some 50, .load 31 (.tmp 16), _, _, _, _⟩) (v := .agg (U rt).toArray) rfl (by kernel_rfl) (by kernel_rfl) (by kernel_rfl) (fun _ _ _ h => h) (yieldsIf_load_mid (by rfl) _ _ rfl _ _ rfl _ _ (fun w h => h.1) Tryd.underlying31 rfl (dig_sz HDr.out.1)) hHeld ?_
  simp only [Act.put, List.setIfInBounds_toArray, List.set_cons_zero, List.set_cons_succ]
  refine wpAnyH_take (i := 3) (oi := ⟨some 51, .move (.tmp 0), _, _, _, _⟩) (v := .slice A n c) rfl (by kernel_rfl) (by kernel_rfl) (by kernel_rfl) (fun _ _ _ h => h) (Or.inl ⟨by rfl, fun _ _ => rfl⟩) hHeld ?_
  simp only [Act.put, List.setIfInBounds_toArray, List.set_cons_zero, List.set_cons_succ]
  refine wpAnyH_ready (rs := [4]) (by kernel_rfl) (by simp) (AllReadyH.cons (o := ⟨some 52, .call { callee := .value (.func 16), args := #[.tmp 51], argTypes := #[22] }, _, _, _, _⟩) rfl (fun K' hK => ?_) (AllReadyH.nil))
  go_simp
  refine (HRR.out _ l8).mono ?_
  rintro e v2 ⟨rfl, k2'⟩
  replace p1 := p1.keep k2'; replace p2 := p2.keep k2'; replace p3 := p3.keep k2'; replace p4 := p4.keep k2'; replace b3 := b3.keep k2'; replace b4 := b4.keep k2'; replace x5 := x5.keep k2'; replace x7 := x7.keep k2'; replace l8 := Later.trans_ l8 k2'
  refine hK.out _ _ ⟨blk_at x7, blk_at x5, b3.cell (j := 0) rfl, b3.cell (j := 1) rfl, b4.cell (j := 0) rfl, b4.cell (j := 1) rfl⟩ (fun hHeld => ?_)
  clear hK K'
  try simp only [Act.put, List.setIfInBounds_toArray, List.set_cons_zero, List.set_cons_succ]
  refine wpAnyH_take (i := 5) (oi := ⟨some 53, .binOp .eql 31 (.tmp 50) (.tmp 52) 31, _, _, _, _⟩) (v := .bool true) rfl (by kernel_rfl) (by kernel_rfl) (by kernel_rfl) (fun _ _ _ h => h) (Or.inl ⟨by rfl, fun w _ => by go_simp⟩) hHeld ?_
  simp only [Act.put, List.setIfInBounds_toArray, List.set_cons_zero, List.set_cons_succ]
  refine wpAnyH_take (i := 6) (oi := ⟨some 54, .pick (.tmp 49) (.tmp 53) (.const (.bool false)), _, _, _, none⟩) (v := .bool true) rfl (by kernel_rfl) (by kernel_rfl) (by kernel_rfl) (fun _ _ _ h => h) (Or.inl ⟨by rfl, fun w _ => by go_simp⟩) hHeld ?_
  simp only [Act.put, List.setIfInBounds_toArray, List.set_cons_zero, List.set_cons_succ]
  refine wpAnyH_take (i := 7) (oi := ⟨some 55, .move (.tmp 54), _, _, _, none⟩) (v := .bool true) rfl (by kernel_rfl) (by kernel_rfl) (by kernel_rfl) (fun _ _ _ h => h) (Or.inl ⟨by rfl, fun _ _ => rfl⟩) hHeld ?_
  simp only [Act.put, List.setIfInBounds_toArray, List.set_cons_zero, List.set_cons_succ]
  refine wpAnyH_take (i := 8) (oi := ⟨some 56, .move (.tmp 9), _, _, _, _⟩) (v := .slice A1 J1.length c1) rfl (by kernel_rfl) (by kernel_rfl) (by kernel_rfl) (fun _ _ _ h => h) (Or.inl ⟨by rfl, fun _ _ => rfl⟩) hHeld ?_
  simp only [Act.put, List.setIfInBounds_toArray, List.set_cons_zero, List.set_cons_succ]
  refine wpAnyH_take (i := 9) (oi := ⟨some 57, .fieldAddr 28 (.tmp 13) 0, _, _, _, _⟩) (v := .pointer (some ⟨B3, 0, none⟩)) rfl (by kernel_rfl) (by kernel_rfl) (by kernel_rfl) (fun _ _ _ h => h) (Or.inl ⟨by rfl, fun w _ => by go_simp⟩) hHeld ?_
  simp only [Act.put, List.setIfInBounds_toArray, List.set_cons_zero, List.set_cons_succ]
  refine wpAnyH_take (i := 10) (oi := ⟨some 58, .load 22 (.tmp 57), _, _, _, _⟩) (v := .slice A3 J1.length c3) rfl (by kernel_rfl) (by kernel_rfl) (by kernel_rfl) (fun _ _ _ h => h) (Or.inl ⟨by rfl, fun w h => by have hc := h.2.2.1; go_simp⟩) hHeld ?_
  simp only [Act.put, List.setIfInBounds_toArray, List.set_cons_zero, List.set_cons_succ]
  refine wpAnyH_ready (rs := [11]) (by kernel_rfl) (by simp) (AllReadyH.cons (o := ⟨some 59, .call { callee := .value (.func 17), args := #[.tmp 56, .tmp 58], argTypes := #[22, 22] }, _, _, _, _⟩) rfl (fun K' hK => ?_) (AllReadyH.nil))
  go_simp
  refine (HSM.out J1 A1 A3 c1 c3 _ JD1.out p1 p3).mono ?_
  rintro e v3 ⟨rfl, k3'⟩
  replace p1 := p1.keep k3'; replace p2 := p2.keep k3'; replace p3 := p3.keep k3'; replace p4 := p4.keep k3'; replace b3 := b3.keep k3'; replace b4 := b4.keep k3'; replace x5 := x5.keep k3'; replace x7 := x7.keep k3'; replace l8 := Later.trans_ l8 k3'
  refine hK.out _ _ ⟨blk_at x7, blk_at x5, b3.cell (j := 0) rfl, b3.cell (j := 1) rfl, b4.cell (j := 0) rfl, b4.cell (j := 1) rfl⟩ (fun hHeld => ?_)
  clear hK K'
  try simp only [Act.put, List.setIfInBounds_toArray, List.set_cons_zero, List.set_cons_succ]
  refine wpAnyH_take (i := 12) (oi := ⟨some 60, .pick (.tmp 55) (.tmp 59) (.const (.bool false)), _, _, _, none⟩) (v := .bool true) rfl (by kernel_rfl) (by kernel_rfl) (by kernel_rfl) (fun _ _ _ h => h) (Or.inl ⟨by rfl, fun w _ => by go_simp⟩) hHeld ?_
  simp only [Act.put, List.setIfInBounds_toArray, List.set_cons_zero, List.set_cons_succ]
  refine wpAnyH_take (i := 13) (oi := ⟨some 61, .move (.tmp 60), _, _, _, none⟩) (v := .bool true) rfl (by kernel_rfl) (by kernel_rfl) (by kernel_rfl) (fun _ _ _ h => h) (Or.inl ⟨by rfl, fun _ _ => rfl⟩) hHeld ?_
  simp only [Act.put, List.setIfInBounds_toArray, List.set_cons_zero, List.set_cons_succ]
  refine wpAnyH_take (i := 14) (oi := ⟨some 62, .move (.tmp 10), _, _, _, _⟩) (v := .int .i64 er1) rfl (by kernel_rfl) (by kernel_rfl) (by kernel_rfl) (fun _ _ _ h => h) (Or.inl ⟨by rfl, fun _ _ => rfl⟩) hHeld ?_
  simp only [Act.put, List.setIfInBounds_toArray, List.set_cons_zero, List.set_cons_succ]
  refine wpAnyH_take (i := 15) (oi := ⟨some 63, .fieldAddr 28 (.tmp 13) 1, _, _, _, _⟩) (v := .pointer (some ⟨B3, 1, none⟩)) rfl (by kernel_rfl) (by kernel_rfl) (by kernel_rfl) (fun _ _ _ h => h) (Or.inl ⟨by rfl, fun w _ => by go_simp⟩) hHeld ?_
  simp only [Act.put, List.setIfInBounds_toArray, List.set_cons_zero, List.set_cons_succ]
  refine wpAnyH_take (i := 16) (oi := ⟨some 64, .load 24 (.tmp 63), _, _, _, _⟩) (v := .int .i64 er1) rfl (by kernel_rfl) (by kernel_rfl) (by kernel_rfl) (fun _ _ _ h => h) (Or.inl ⟨by rfl, fun w h => by have hc := h.2.2.2.1; go_simp⟩) hHeld ?_
  simp only [Act.put, List.setIfInBounds_toArray, List.set_cons_zero, List.set_cons_succ]
  refine wpAnyH_take (i := 17) (oi := ⟨some 65, .binOp .eql 24 (.tmp 62) (.tmp 64) 24, _, _, _, _⟩) (v := .bool true) rfl (by kernel_rfl) (by kernel_rfl) (by kernel_rfl) (fun _ _ _ h => h) (Or.inl ⟨by rfl, fun w _ => by go_simp⟩) hHeld ?_
  simp only [Act.put, List.setIfInBounds_toArray, List.set_cons_zero, List.set_cons_succ]
  refine wpAnyH_take (i := 18) (oi := ⟨some 66, .pick (.tmp 61) (.tmp 65) (.const (.bool false)), _, _, _, none⟩) (v := .bool true) rfl (by kernel_rfl) (by kernel_rfl) (by kernel_rfl) (fun _ _ _ h => h) (Or.inl ⟨by rfl, fun w _ => by go_simp⟩) hHeld ?_
  simp only [Act.put, List.setIfInBounds_toArray, List.set_cons_zero, List.set_cons_succ]
  refine wpAnyH_take (i := 19) (oi := ⟨some 67, .move (.tmp 66), _, _, _, none⟩) (v := .bool true) rfl (by kernel_rfl) (by kernel_rfl) (by kernel_rfl) (fun _ _ _ h => h) (Or.inl ⟨by rfl, fun _ _ => rfl⟩) hHeld ?_
  simp only [Act.put, List.setIfInBounds_toArray, List.set_cons_zero, List.set_cons_succ]
  refine wpAnyH_take (i := 20) (oi := ⟨some 68, .move (.tmp 11), _, _, _, _⟩) (v := .slice A2 J2.length c2) rfl (by kernel_rfl) (by kernel_rfl) (by kernel_rfl) (fun _ _ _ h => h) (Or.inl ⟨by rfl, fun _ _ => rfl⟩) hHeld ?_
  simp only [Act.put, List.setIfInBounds_toArray, List.set_cons_zero, List.set_cons_succ]
  refine wpAnyH_take (i := 21) (oi := ⟨some 69, .fieldAddr 28 (.tmp 14) 0, _, _, _, _⟩) (v := .pointer (some ⟨B4, 0, none⟩)) rfl (by kernel_rfl) (by kernel_rfl) (by kernel_rfl) (fun _ _ _ h => h) (Or.inl ⟨by rfl, fun w _ => by go_simp⟩) hHeld ?_
  simp only [Act.put, List.setIfInBounds_toArray, List.set_cons_zero, List.set_cons_succ]
  refine wpAnyH_take (i := 22) (oi := ⟨some 70, .load 22 (.tmp 69), _, _, _, _⟩) (v := .slice A4 J2.length c4) rfl (by kernel_rfl) (by kernel_rfl) (by kernel_rfl) (fun _ _ _ h => h) (Or.inl ⟨by rfl, fun w h => by have hc := h.2.2.2.2.1; go_simp⟩) hHeld ?_
  simp only [Act.put, List.setIfInBounds_toArray, List.set_cons_zero, List.set_cons_succ]
  refine wpAnyH_ready (rs := [23]) (by kernel_rfl) (by simp) (AllReadyH.cons (o := ⟨some 71, .call { callee := .value (.func 17), args := #[.tmp 68, .tmp 70], argTypes := #[22, 22] }, _, _, _, _⟩) rfl (fun K' hK => ?_) (AllReadyH.nil))
  go_simp
  refine (HSM.out J2 A2 A4 c2 c4 _ JD2.out p2 p4).mono ?_
  rintro e v4 ⟨rfl, k4'⟩
  replace p1 := p1.keep k4'; replace p2 := p2.keep k4'; replace p3 := p3.keep k4'; replace p4 := p4.keep k4'; replace b3 := b3.keep k4'; replace b4 := b4.keep k4'; replace x5 := x5.keep k4'; replace x7 := x7.keep k4'; replace l8 := Later.trans_ l8 k4'
  refine hK.out _ _ ⟨blk_at x7, blk_at x5, b3.cell (j := 0) rfl, b3.cell (j := 1) rfl, b4.cell (j := 0) rfl, b4.cell (j := 1) rfl⟩ (fun hHeld => ?_)
  clear hK K'
  try simp only [Act.put, List.setIfInBounds_toArray, List.set_cons_zero, List.set_cons_succ]
  refine wpAnyH_take (i := 24) (oi := ⟨some 72, .pick (.tmp 67) (.tmp 71) (.const (.bool false)), _, _, _, none⟩) (v := .bool true) rfl (by kernel_rfl) (by kernel_rfl) (by kernel_rfl) (fun _ _ _ h => h) (Or.inl ⟨by rfl, fun w _ => by go_simp⟩) hHeld ?_
  simp only [Act.put, List.setIfInBounds_toArray, List.set_cons_zero, List.set_cons_succ]
  refine wpAnyH_take (i := 25) (oi := ⟨some 73, .move (.tmp 72), _, _, _, none⟩) (v := .bool true) rfl (by kernel_rfl) (by kernel_rfl) (by kernel_rfl) (fun _ _ _ h => h) (Or.inl ⟨by rfl, fun _ _ => rfl⟩) hHeld ?_
  simp only [Act.put, List.setIfInBounds_toArray, List.set_cons_zero, List.set_cons_succ]
  refine wpAnyH_take (i := 26) (oi := ⟨some 74, .move (.tmp 12), _, _, _, _⟩) (v := .int .i64 er2) rfl (by kernel_rfl) (by kernel_rfl) (by kernel_rfl) (fun _ _ _ h => h) (Or.inl ⟨by rfl, fun _ _ => rfl⟩) hHeld ?_
  simp only [Act.put, List.setIfInBounds_toArray, List.set_cons_zero, List.set_cons_succ]
  refine wpAnyH_take (i := 27) (oi := ⟨some 75, .fieldAddr 28 (.tmp 14) 1, _, _, _, _⟩) (v := .pointer (some ⟨B4, 1, none⟩)) rfl (by kernel_rfl) (by kernel_rfl) (by kernel_rfl) (fun _ _ _ h => h) (Or.inl ⟨by rfl, fun w _ => by go_simp⟩) hHeld ?_
  simp only [Act.put, List.setIfInBounds_toArray, List.set_cons_zero, List.set_cons_succ]
  refine wpAnyH_take (i := 28) (oi := ⟨some 76, .load 24 (.tmp 75), _, _, _, _⟩) (v := .int .i64 er2) rfl (by kernel_rfl) (by kernel_rfl) (by kernel_rfl) (fun _ _ _ h => h) (Or.inl ⟨by rfl, fun w h => by have hc := h.2.2.2.2.2; go_simp⟩) hHeld ?_
  simp only [Act.put, List.setIfInBounds_toArray, List.set_cons_zero, List.set_cons_succ]
  refine wpAnyH_take (i := 29) (oi := ⟨some 77, .binOp .eql 24 (.tmp 74) (.tmp 76) 24, _, _, _, _⟩) (v := .bool true) rfl (by kernel_rfl) (by kernel_rfl) (by kernel_rfl) (fun _ _ _ h => h) (Or.inl ⟨by rfl, fun w _ => by go_simp⟩) hHeld ?_
  simp only [Act.put, List.setIfInBounds_toArray, List.set_cons_zero, List.set_cons_succ]
  refine wpAnyH_take (i := 30) (oi := ⟨some 78, .pick (.tmp 73) (.tmp 77) (.const (.bool false)), _, _, _, none⟩) (v := .bool true) rfl (by kernel_rfl) (by kernel_rfl) (by kernel_rfl) (fun _ _ _ h => h) (Or.inl ⟨by rfl, fun w _ => by go_simp⟩) hHeld ?_
  simp only [Act.put, List.setIfInBounds_toArray, List.set_cons_zero, List.set_cons_succ]
  refine wpAnyH_take (i := 31) (oi := ⟨some 79, .move (.tmp 78), _, _, _, none⟩) (v := .bool true) rfl (by kernel_rfl) (by kernel_rfl) (by kernel_rfl) (fun _ _ _ h => h) (Or.inl ⟨by rfl, fun _ _ => rfl⟩) hHeld ?_
  simp only [Act.put, List.setIfInBounds_toArray, List.set_cons_zero, List.set_cons_succ]
  refine wpAnyH_take (i := 32) (oi := ⟨some 80, .load 31 (.tmp 15), _, _, _, _⟩) (v := .agg (U d).toArray) rfl (by kernel_rfl) (by kernel_rfl) (by kernel_rfl) (fun _ _ _ h => h) (yieldsIf_load_mid (by rfl) _ _ rfl _ _ rfl _ _ (fun w h => h.2.1) Tryd.underlying31 rfl (dig_sz HDd.out.1)) hHeld ?_
  simp only [Act.put, List.setIfInBounds_toArray, List.set_cons_zero, List.set_cons_succ]
  refine wpAnyH_take (i := 33) (oi := ⟨some 81, .move (.tmp 3), _, _, _, _⟩) (v := .string s) rfl (by kernel_rfl) (by kernel_rfl) (by kernel_rfl) (fun _ _ _ h => h) (Or.inl ⟨by rfl, fun _ _ => rfl⟩) hHeld ?_
  simp only [Act.put, List.setIfInBounds_toArray, List.set_cons_zero, List.set_cons_succ]
  refine wpAnyH_ready (rs := [34]) (by kernel_rfl) (by simp) (AllReadyH.cons (o := ⟨some 82, .call { callee := .value (.func 18), args := #[.tmp 81], argTypes := #[9] }, _, _, _, _⟩) rfl (fun K' hK => ?_) (AllReadyH.nil))
  go_simp
  refine (HRL.out _ l8).mono ?_
  rintro e v5 ⟨rfl, k5'⟩
  replace p1 := p1.keep k5'; replace p2 := p2.keep k5'; replace p3 := p3.keep k5'; replace p4 := p4.keep k5'; replace b3 := b3.keep k5'; replace b4 := b4.keep k5'; replace x5 := x5.keep k5'; replace x7 := x7.keep k5'; replace l8 := Later.trans_ l8 k5'
  refine hK.out _ _ ⟨blk_at x7, blk_at x5, b3.cell (j := 0) rfl, b3.cell (j := 1) rfl, b4.cell (j := 0) rfl, b4.cell (j := 1) rfl⟩ (fun hHeld => ?_)
  clear hK K'
  try simp only [Act.put, List.setIfInBounds_toArray, List.set_cons_zero, List.set_cons_succ]
  refine wpAnyH_take (i := 35) (oi := ⟨some 83, .binOp .eql 31 (.tmp 80) (.tmp 82) 31, _, _, _, _⟩) (v := .bool true) rfl (by kernel_rfl) (by kernel_rfl) (by kernel_rfl) (fun _ _ _ h => h) (Or.inl ⟨by rfl, fun w _ => by go_simp⟩) hHeld ?_
  simp only [Act.put, List.setIfInBounds_toArray, List.set_cons_zero, List.set_cons_succ]
  refine wpAnyH_take (i := 36) (oi := ⟨some 84, .pick (.tmp 79) (.tmp 83) (.const (.bool false)), _, _, _, none⟩) (v := .bool true) rfl (by kernel_rfl) (by kernel_rfl) (by kernel_rfl) (fun _ _ _ h => h) (Or.inl ⟨by rfl, fun w _ => by go_simp⟩) hHeld ?_
  simp only [Act.put, List.setIfInBounds_toArray, List.set_cons_zero, List.set_cons_succ]
  refine wpAnyH_take (i := 37) (oi := ⟨some 85, .move (.tmp 84), _, _, _, none⟩) (v := .bool true) rfl (by kernel_rfl) (by kernel_rfl) (by kernel_rfl) (fun _ _ _ h => h) (Or.inl ⟨by rfl, fun _ _ => rfl⟩) hHeld ?_
  simp only [Act.put, List.setIfInBounds_toArray, List.set_cons_zero, List.set_cons_succ]
  refine wpAnyH_take (i := 38) (oi := ⟨some 86, .load 31 (.tmp 15), _, _, _, _⟩) (v := .agg (U d).toArray) rfl (by kernel_rfl) (by kernel_rfl) (by kernel_rfl) (fun _ _ _ h => h) (yieldsIf_load_mid (by rfl) _ _ rfl _ _ rfl _ _ (fun w h => h.2.1) Tryd.underlying31 rfl (dig_sz HDd.out.1)) hHeld ?_
  simp only [Act.put, List.setIfInBounds_toArray, List.set_cons_zero, List.set_cons_succ]
  refine wpAnyH_take (i := 39) (oi := ⟨some 87, .load 31 (.tmp 16), _, _, _, _⟩) (v := .agg (U rt).toArray) rfl (by kernel_rfl) (by kernel_rfl) (by kernel_rfl) (fun _ _ _ h => h) (yieldsIf_load_mid (by rfl) _ _ rfl _ _ rfl _ _ (fun w h => h.1) Tryd.underlying31 rfl (dig_sz HDr.out.1)) hHeld ?_
  simp only [Act.put, List.setIfInBounds_toArray, List.set_cons_zero, List.set_cons_succ]
  refine wpAnyH_take (i := 41) (oi := ⟨some 89, .load 31 (.tmp 15), _, _, _, _⟩) (v := .agg (U d).toArray) rfl (by kernel_rfl) (by kernel_rfl) (by kernel_rfl) (fun _ _ _ h => h) (yieldsIf_load_mid (by rfl) _ _ rfl _ _ rfl _ _ (fun w h => h.2.1) Tryd.underlying31 rfl (dig_sz HDd.out.1)) hHeld ?_
  simp only [Act.put, List.setIfInBounds_toArray, List.set_cons_zero, List.set_cons_succ]
  refine wpAnyH_take (i := 42) (oi := ⟨some 90, .load 31 (.tmp 16), _, _, _, _⟩) (v := .agg (U rt).toArray) rfl (by kernel_rfl) (by kernel_rfl) (by kernel_rfl) (fun _ _ _ h => h) (yieldsIf_load_mid (by rfl) _ _ rfl _ _ rfl _ _ (fun w h => h.1) Tryd.underlying31 rfl (dig_sz HDr.out.1)) hHeld ?_
  simp only [Act.put, List.setIfInBounds_toArray, List.set_cons_zero, List.set_cons_succ]
  refine wpAnyH_ready (rs := [40]) (by kernel_rfl) (by simp) (AllReadyH.cons (o := ⟨some 88, .call { callee := .value (.func 19), args := #[.tmp 86, .tmp 87], argTypes := #[31, 31] }, _, _, _, _⟩) rfl (fun K' hK => ?_) (AllReadyH.nil))
  go_simp
  refine (HN.out _ l8).mono ?_
  rintro e v6 ⟨rfl, k6'⟩
  replace p1 := p1.keep k6'; replace p2 := p2.keep k6'; replace p3 := p3.keep k6'; replace p4 := p4.keep k6'; replace b3 := b3.keep k6'; replace b4 := b4.keep k6'; replace x5 := x5.keep k6'; replace x7 := x7.keep k6'; replace l8 := Later.trans_ l8 k6'
  refine hK.out _ _ ⟨blk_at x7, blk_at x5, b3.cell (j := 0) rfl, b3.cell (j := 1) rfl, b4.cell (j := 0) rfl, b4.cell (j := 1) rfl⟩ (fun hHeld => ?_)
  clear hK K'
  try simp only [Act.put, List.setIfInBounds_toArray, List.set_cons_zero, List.set_cons_succ]
  refine wpAnyH_ready (rs := [43]) (by kernel_rfl) (by simp) (AllReadyH.cons (o := ⟨some 91, .call { callee := .value (.func 20), args := #[.tmp 89, .tmp 90], argTypes := #[31, 31] }, _, _, _, _⟩) rfl (fun K' hK => ?_) (AllReadyH.nil))
  go_simp
  refine (HRN.out _ l8).mono ?_
  rintro e v7 ⟨rfl, k7'⟩
  replace p1 := p1.keep k7'; replace p2 := p2.keep k7'; replace p3 := p3.keep k7'; replace p4 := p4.keep k7'; replace b3 := b3.keep k7'; replace b4 := b4.keep k7'; replace x5 := x5.keep k7'; replace x7 := x7.keep k7'; replace l8 := Later.trans_ l8 k7'
  refine hK.out _ _ ⟨blk_at x7, blk_at x5, b3.cell (j := 0) rfl, b3.cell (j := 1) rfl, b4.cell (j := 0) rfl, b4.cell (j := 1) rfl⟩ (fun hHeld => ?_)
  clear hK K'
  try simp only [Act.put, List.setIfInBounds_toArray, List.set_cons_zero, List.set_cons_succ]
  refine wpAnyH_take (i := 44) (oi := ⟨some 92, .binOp .eql 31 (.tmp 88) (.tmp 91) 31, _, _, _, _⟩) (v := .bool true) rfl (by kernel_rfl) (by kernel_rfl) (by kernel_rfl) (fun _ _ _ h => h) (Or.inl ⟨by rfl, fun w _ => by go_simp⟩) hHeld ?_
  simp only [Act.put, List.setIfInBounds_toArray, List.set_cons_zero, List.set_cons_succ]
  refine wpAnyH_take (i := 45) (oi := ⟨some 93, .pick (.tmp 85) (.tmp 92) (.const (.bool false)), _, _, _, none⟩) (v := .bool true) rfl (by kernel_rfl) (by kernel_rfl) (by kernel_rfl) (fun _ _ _ h => h) (Or.inl ⟨by rfl, fun w _ => by go_simp⟩) hHeld ?_
  simp only [Act.put, List.setIfInBounds_toArray, List.set_cons_zero, List.set_cons_succ]
  refine wpAnyH_take (i := 46) (oi := ⟨some 8, .assign (.tmp 93), _, _, _, none⟩) (v := .bool true) rfl (by kernel_rfl) (by kernel_rfl) (by kernel_rfl) (fun _ _ _ h => h) (Or.inl ⟨by rfl, fun _ _ => rfl⟩) hHeld ?_
  simp only [Act.put, List.setIfInBounds_toArray, List.set_cons_zero, List.set_cons_succ]
  refine wpAnyH_done (by kernel_rfl) ?_ _
  clear hHeld
  go_wp2
  go_ret
  exact ⟨rfl, l8⟩
end Go.Proofs.YtaihfkcoiagdaabDoor
