/-
  THE STATEMENT LinesCode: Encode and Decode do what the specification says, and Decode of Encode is the control; for every control, and at most 300 bytes.
-/
import Derived.Test.YtkpigonlnabmdabLinR
import Derived.Deep.RegionHeld
namespace Go.Proofs.Ytkpigonlnabmdab
open Go.RowKit Go.ChangeShapes Go.WideShapes Go.ChangeAt

theorem wpAnyH_more0 {P : Program} {md : Region.Mode} {ops : Array Oper} {Q : Exit → Act → World → Prop} {S S' : World → Prop} (h : ∀ w, S' w → S w) : ∀ (fuel : Nat) (listed : Array Bool) (a : Act) (w : World), wpAnyH P md ops Q S' fuel listed a w → wpAnyH P md ops Q S fuel listed a w
  | 0, _, _, _, k => k
  | fuel + 1, _, _, _, k => ⟨k.1, fun i hi => wpOp_mono (fun a' w' h' => ⟨h _ h'.1, wpAnyH_more0 h fuel _ a' w' h'.2⟩) (k.2 i hi)⟩
theorem wpAnyH_more {P : Program} {md : Region.Mode} {ops : Array Oper} {Q : Exit → Act → World → Prop} {S S' : World → Prop} {fuel : Nat} {listed : Array Bool} {a : Act} {w : World} (h : ∀ w, S' w → S w) (k : wpAnyH P md ops Q S' fuel listed a w) : wpAnyH P md ops Q S fuel listed a w := wpAnyH_more0 h fuel listed a w k
theorem dec_both (S : Option Addr) (n c : Nat) (b : Wm.Bs) (hb : Wm.isBs b) (hnc : n ≤ c) (hn : c ≤ maxLen) (hsm : n ≤ 1000000) : ∃ (X : Ctl) (E : Int),
    (∀ w, Sl w 1 S n (U b) → Calls Try.prog 18 #[.slice S n c] w fun r w' => r = .returned (.tuple #[.agg X.cells.toArray, .int .i64 E]) ∧ Later w w') ∧
    (∀ w, Sl w 1 S n (U b) → Calls Try.prog 19 #[.slice S n c] w fun r w' => r = .returned (.agg (didC X 0 E).toArray) ∧ Later w w') := by
  obtain ⟨l, u, e, hd⟩ : ∃ l u e, Wm.decL Wm.decI 1 b = (l, u, e) := ⟨_, _, _, rfl⟩
  have hsame := ok_same hb hd
  by_cases h : okD b l e
  · exact ⟨ofL l, 0, fun w hs => (dec_any S n c b w hs hb hnc hn hsm l u e hd).1 h, fun w hs => (rdec_any S n c b w hs hb hnc hn hsm l u e hd).1 (hsame.2 h)⟩
  · exact ⟨zK, 11, fun w hs => (dec_any S n c b w hs hb hnc hn hsm l u e hd).2 h, fun w hs => (rdec_any S n c b w hs hb hnc hn hsm l u e hd).2 (fun g => h (hsame.1 g))⟩
set_option maxRecDepth 100000 in
set_option maxHeartbeats 8000000 in
theorem code_all (x : Ctl) (S : Option Addr) (n c : Nat) (b : Wm.Bs) (w : World) (hx : x.wf) (hs : Sl w 1 S n (U b)) (hb : Wm.isBs b) (hnc : n ≤ c) (hn : c ≤ maxLen) :
    Calls Try.prog 4 #[.agg x.cells.toArray, .slice S n c] w fun e w' => e = .returned (.bool true) ∧ Later w w' := by
  have KS := Lib.hid fun w' => sanity_any w'
  have b2 := Blk.new w 26 x.cells.toArray x.cells rfl
  have lw := later1 w (.cells x.cells.toArray 26)
  by_cases h300 : 300 < n
  · have d3 : decide (300 < (n : Int)) = true := decide_eq_true (by omega)
    clear hx hs hb hnc hn
    go_enter Try.func4, Try.ntmps4
    go_wp2_with (first
      | (go_at_call 11; (with_reducible refine (KS.out _).mono ?_); rintro e w3 ⟨rfl, l3⟩; replace b2 := b2.keep l3; replace lw := Later.trans_ lw l3))
    go_ret
    exact ⟨rfl, lw⟩
  have d3 : decide (300 < (n : Int)) = false := decide_eq_false (by omega)
  obtain ⟨X, E, hD, hR⟩ := dec_both S n c b hb hnc hn (by omega)
  have KD := Lib.hid hD
  have KRD := Lib.hid hR
  have lk := Lib.hid (fun (w' : World) (hl : Later w w') => hs.keep hl)
  have hqX := ctl_same X
  by_cases hok : x.Ok
  · have KV := Lib.hid fun w' => rvalid_yes hx hok w'
    have KE0 := fun w' => enc_any x w' hx
    have KR0 := fun w' => renc_any x w' hx
    have hlen := encL_le x.nums (nums_in hx) rfl
    have hbe : Wm.isBs (Wm.encL Wm.encI x.nums) := encLI_bytes _
    have hback := Wm.ints_back x.nums [] (nums_in hx) (by show (14 : Nat) ≤ _; omega)
    rw [List.append_nil] at hback
    have KDE0 := fun (A4 : Option Addr) (c4 : Nat) (w' : World) (g3 : (Wm.encL Wm.encI x.nums).length ≤ c4) (g4 : c4 ≤ maxLen) (s4 : Sl w' 1 A4 (Wm.encL Wm.encI x.nums).length (U (Wm.encL Wm.encI x.nums))) => (dec_any A4 _ c4 _ w' s4 hbe g3 g4 (by omega) _ _ _ hback).1 (okD_back hx hok)
    obtain ⟨EB, hEB⟩ : ∃ EB, EB = Wm.encL Wm.encI x.nums := ⟨_, rfl⟩
    obtain ⟨Y, hY⟩ : ∃ Y, Y = ofL x.nums := ⟨_, rfl⟩
    have HYX := Lib.hid (show Y.cells = x.cells by rw [hY]; exact ofL_cells hx)
    rw [← hEB] at KE0 KR0 KDE0
    rw [← hY] at KDE0
    have KE := Lib.hid KE0
    have KRE := Lib.hid KR0
    have KDE := Lib.hid KDE0
    have hqx := ctl_same x
    clear KE0 KR0 KDE0 hEB hY hback hbe hlen hD hR hok hx hs hb hnc hn h300
    go_enter Try.func4, Try.ntmps4
    go_upto_region 7 with (first
  | (go_at_call 18; refine (KD.out _ (lk.out _ lw)).mono ?_; rintro e w1 ⟨rfl, l1⟩; replace b2 := b2.keep l1; replace lw := Later.trans_ lw l1)
  | ((with_reducible refine wpList_store_abs (o := ⟨none, .store 26 (.tmp 5) (.tmp 17), _, _, _, none⟩) rfl _ _ _ rfl w1.heap.size 26 zK.cells X.cells ?_ ?_ ?_ ?_ ?_ ?_ ?_); rfl; rfl; exact (Blk.new _ _ _ _ rfl); exact ctl_sz _; rfl; exact ctl_one _; intro v1 b5 ob5; replace b2 := (b2.alloc (.cells zK.cells.toArray 26)).only ob5 (Nat.ne_of_lt b2.lt); replace lw := Below.only (lw.alloc lw.size (.cells zK.cells.toArray 26)) ob5 lw.size; clear ob5)
  | (go_at_call 19; refine (KRD.out _ (lk.out _ lw)).mono ?_; rintro e w2 ⟨rfl, l2⟩; replace b2 := b2.keep l2; replace b5 := b5.keep l2; replace lw := Later.trans_ lw l2)
  | ((with_reducible refine wpList_store_abs (o := ⟨none, .store 37 (.tmp 7) (.tmp 20), _, _, _, none⟩) rfl _ _ _ rfl w2.heap.size 37 (didC zK 0 0) (didC X 0 E) ?_ ?_ ?_ ?_ ?_ ?_ ?_); rfl; rfl; exact (Blk.new _ _ _ _ rfl); exact did_sz _ _ _; rfl; exact did_one _ _ _; intro v2 b7 o7; replace b2 := (b2.alloc (.cells (didC zK 0 0).toArray 37)).only o7 (Nat.ne_of_lt b2.lt); replace b5 := (b5.alloc (.cells (didC zK 0 0).toArray 37)).only o7 (Nat.ne_of_lt b5.lt); replace lw := Below.only (lw.alloc lw.size (.cells (didC zK 0 0).toArray 37)) o7 lw.size; clear o7; have c7 := b7.cell (j := 15) rfl)
  | ((with_reducible refine wpList_load_blk (o := ⟨some 21, .load 26 (.tmp 5), _, _, _, none⟩) rfl _ _ rfl w1.heap.size 26 X.cells _ ?_ ?_ Try.underlying26 rfl (ctl_sz _) ?_); rfl; exact b5)
  | ((with_reducible refine wpList_load_at (o := ⟨some 23, .load 26 (.tmp 22), _, _, _, none⟩) rfl _ _ rfl w2.heap.size 0 14 37 (didC X 0 E) X.cells _ ?_ ?_ ?_ Try.underlying26 rfl (ctl_sz _) ?_); rfl; exact b7; rfl))
    clear b5 b7 c7
    go_upto_region 10 with (first
      | ((with_reducible refine wpList_load_blk (o := ⟨some 31, .load 26 (.tmp 2), _, _, _, none⟩) rfl _ _ rfl w.heap.size 26 x.cells _ ?_ ?_ Try.underlying26 rfl (ctl_sz _) ?_); rfl; exact b2)
      | (go_at_call 9; (with_reducible refine (KV.out _).mono ?_); rintro e w7 ⟨rfl, l7⟩; replace b2 := b2.keep l7; replace lw := Later.trans_ lw l7)
      | ((with_reducible refine wpList_load_blk (o := ⟨some 36, .load 26 (.tmp 2), _, _, _, none⟩) rfl _ _ rfl w.heap.size 26 x.cells _ ?_ ?_ Try.underlying26 rfl (ctl_sz _) ?_); rfl; exact b2)
      | (go_at_call 20; refine (KE.out _).mono ?_; rintro e w4 ⟨A4, n4, c4, rfl, g3, g4, rfl, s4, l4⟩; replace b2 := b2.keep l4; replace lw := Later.trans_ lw l4)
      | (go_at_call 18; refine (KDE.out A4 c4 _ g3 g4 s4).mono ?_; rintro e w5 ⟨rfl, l5⟩; replace b2 := b2.keep l5; replace lw := Later.trans_ lw l5)
      | ((with_reducible refine wpList_store_abs (o := ⟨none, .store 26 (.tmp 8) (.tmp 39), _, _, _, none⟩) rfl _ _ _ rfl w5.heap.size 26 zK.cells Y.cells ?_ ?_ ?_ ?_ ?_ ?_ ?_); rfl; rfl; exact (Blk.new _ _ _ _ rfl); exact ctl_sz _; rfl; exact ctl_one _; intro v5 b8 ob8; replace b2 := (b2.alloc (.cells zK.cells.toArray 26)).only ob8 (Nat.ne_of_lt b2.lt); replace lw := Below.only (lw.alloc lw.size (.cells zK.cells.toArray 26)) ob8 lw.size; clear ob8))
    rw [HYX.out] at b8
    replace b2 := b2.drew
    replace b8 := b8.drew
    replace lw := lw.drew
    refine wp_region_held_drew (S := fun w' => World.rangeAt w' w.heap.size 0 x.cells ∧ World.rangeAt w' w5.heap.size 0 x.cells) (by kernel_rfl) ⟨(show World.rangeAt _ w.heap.size 0 x.cells from b2.range 0 14), (show World.rangeAt _ w5.heap.size 0 x.cells from b8.range 0 14)⟩ (fun hHeld => ?_)
    refine wpAnyH_ready (rs := [0]) (by kernel_rfl) (by simp) (AllReadyH.cons (o := ⟨some 41, .call { callee := .value (.func 11), args := #[], argTypes := #[] }, _, _, _, none⟩) rfl (fun K' hK => ?_) (AllReadyH.nil))
    go_simp
    (with_reducible refine (KS.out _).mono ?_)
    rintro e x1 ⟨rfl, l1⟩
    replace b2 := b2.keep l1
    replace b8 := b8.keep l1
    replace lw := Later.trans_ lw l1
    refine hK.out _ _ ⟨(show World.rangeAt _ w.heap.size 0 x.cells from b2.range 0 14), (show World.rangeAt _ w5.heap.size 0 x.cells from b8.range 0 14)⟩ (fun hHeld => ?_)
    clear hK K'
    try simp only [Act.put, List.setIfInBounds_toArray, List.set_cons_zero, List.set_cons_succ]
    refine wpAnyH_take (i := 1) (oi := ⟨some 42, .move (.tmp 41), _, _, _, none⟩) (v := .bool true) rfl (by kernel_rfl) (by kernel_rfl) (by kernel_rfl) (fun _ _ _ h => h) (Or.inl ⟨by rfl, fun _ _ => rfl⟩) hHeld ?_
    simp only [Act.put, List.setIfInBounds_toArray, List.set_cons_zero, List.set_cons_succ]
    refine wpAnyH_take (i := 2) (oi := ⟨some 43, .load 26 (.tmp 2), _, _, _, _⟩) (v := .agg x.cells.toArray) rfl (by kernel_rfl) (by kernel_rfl) (by kernel_rfl) (fun _ _ _ h => h) (yieldsIf_load_mid (by rfl) _ _ rfl _ _ rfl x.cells _ (fun w h => h.1) Try.underlying26 rfl (ctl_sz _)) hHeld ?_
    simp only [Act.put, List.setIfInBounds_toArray, List.set_cons_zero, List.set_cons_succ]
    refine wpAnyH_take (i := 5) (oi := ⟨some 46, .load 26 (.tmp 2), _, _, _, _⟩) (v := .agg x.cells.toArray) rfl (by kernel_rfl) (by kernel_rfl) (by kernel_rfl) (fun _ _ _ h => h) (yieldsIf_load_mid (by rfl) _ _ rfl _ _ rfl x.cells _ (fun w h => h.1) Try.underlying26 rfl (ctl_sz _)) hHeld ?_
    simp only [Act.put, List.setIfInBounds_toArray, List.set_cons_zero, List.set_cons_succ]
    refine wpAnyH_ready (rs := [3]) (by kernel_rfl) (by simp) (AllReadyH.cons (o := ⟨some 44, .call { callee := .value (.func 20), args := #[.tmp 43], argTypes := #[26] }, _, _, _, _⟩) rfl (fun K' hK => ?_) (AllReadyH.nil))
    go_simp
    refine (KE.out _).mono ?_
    rintro e x2 ⟨A6, n6, c6, rfl, _, _, rfl, s6, l1⟩
    replace b2 := b2.keep l1
    replace b8 := b8.keep l1
    replace lw := Later.trans_ lw l1
    refine hK.out _ _ ⟨(show World.rangeAt _ w.heap.size 0 x.cells from b2.range 0 14), (show World.rangeAt _ w5.heap.size 0 x.cells from b8.range 0 14)⟩ (fun hHeld => ?_)
    clear hK K'
    try simp only [Act.put, List.setIfInBounds_toArray, List.set_cons_zero, List.set_cons_succ]
    refine wpAnyH_more (S' := fun w' => (World.rangeAt w' w.heap.size 0 x.cells ∧ World.rangeAt w' w5.heap.size 0 x.cells) ∧ Sl w' 1 A6 EB.length (U EB)) (fun _ h => h.1) ?_
    replace hHeld := And.intro (And.intro (show World.rangeAt _ w.heap.size 0 x.cells from b2.range 0 14) (show World.rangeAt _ w5.heap.size 0 x.cells from b8.range 0 14)) s6
    refine wpAnyH_take (i := 4) (oi := ⟨some 45, .convert 42 9 (.tmp 44), _, _, _, _⟩) (v := (.string (strOfNums EB))) rfl (by kernel_rfl) (by kernel_rfl) (by kernel_rfl) (fun _ _ _ h => h) (Or.inl ⟨by rfl, fun w hSw => by have e1 := to_str (hSw.2) c6; clear hSw; go_simp⟩) hHeld ?_
    simp only [Act.put, List.setIfInBounds_toArray, List.set_cons_zero, List.set_cons_succ]
    refine wpAnyH_ready (rs := [6]) (by kernel_rfl) (by simp) (AllReadyH.cons (o := ⟨some 47, .call { callee := .value (.func 21), args := #[.tmp 46], argTypes := #[26] }, _, _, _, _⟩) rfl (fun K' hK => ?_) (AllReadyH.nil))
    go_simp
    refine (KRE.out _).mono ?_
    rintro e x3 ⟨A7, n7, c7, rfl, _, _, rfl, s7, l1⟩
    replace b2 := b2.keep l1
    replace b8 := b8.keep l1
    replace lw := Later.trans_ lw l1
    replace s6 := s6.keep l1
    refine hK.out _ _ ⟨⟨(show World.rangeAt _ w.heap.size 0 x.cells from b2.range 0 14), (show World.rangeAt _ w5.heap.size 0 x.cells from b8.range 0 14)⟩, s6⟩ (fun hHeld => ?_)
    clear hK K'
    try simp only [Act.put, List.setIfInBounds_toArray, List.set_cons_zero, List.set_cons_succ]
    refine wpAnyH_more (S' := fun w' => ((World.rangeAt w' w.heap.size 0 x.cells ∧ World.rangeAt w' w5.heap.size 0 x.cells) ∧ Sl w' 1 A6 EB.length (U EB)) ∧ Sl w' 1 A7 EB.length (U EB)) (fun _ h => h.1) ?_
    replace hHeld := And.intro (And.intro (And.intro (show World.rangeAt _ w.heap.size 0 x.cells from b2.range 0 14) (show World.rangeAt _ w5.heap.size 0 x.cells from b8.range 0 14)) s6) s7
    refine wpAnyH_take (i := 7) (oi := ⟨some 48, .convert 42 9 (.tmp 47), _, _, _, _⟩) (v := (.string (strOfNums EB))) rfl (by kernel_rfl) (by kernel_rfl) (by kernel_rfl) (fun _ _ _ h => h) (Or.inl ⟨by rfl, fun w hSw => by have e1 := to_str (hSw.2) c7; clear hSw; go_simp⟩) hHeld ?_
    simp only [Act.put, List.setIfInBounds_toArray, List.set_cons_zero, List.set_cons_succ]
    refine wpAnyH_take (i := 8) (oi := ⟨some 49, .binOp .eql 9 (.tmp 45) (.tmp 48) 9, _, _, _, _⟩) (v := .bool true) rfl (by kernel_rfl) (by kernel_rfl) (by kernel_rfl) (fun _ _ _ h => h) (Or.inl ⟨by rfl, fun w _ => by go_simp⟩) hHeld ?_
    simp only [Act.put, List.setIfInBounds_toArray, List.set_cons_zero, List.set_cons_succ]
    refine wpAnyH_take (i := 9) (oi := ⟨some 50, .pick (.tmp 42) (.tmp 49) (.const (.bool false)), _, _, _, none⟩) (v := .bool true) rfl (by kernel_rfl) (by kernel_rfl) (by kernel_rfl) (fun _ _ _ h => h) (Or.inl ⟨by rfl, fun w _ => by go_simp⟩) hHeld ?_
    simp only [Act.put, List.setIfInBounds_toArray, List.set_cons_zero, List.set_cons_succ]
    refine wpAnyH_take (i := 10) (oi := ⟨some 51, .move (.tmp 50), _, _, _, none⟩) (v := .bool true) rfl (by kernel_rfl) (by kernel_rfl) (by kernel_rfl) (fun _ _ _ h => h) (Or.inl ⟨by rfl, fun _ _ => rfl⟩) hHeld ?_
    simp only [Act.put, List.setIfInBounds_toArray, List.set_cons_zero, List.set_cons_succ]
    refine wpAnyH_take (i := 11) (oi := ⟨some 52, .move (.tmp 9), _, _, _, _⟩) (v := .int .i64 0) rfl (by kernel_rfl) (by kernel_rfl) (by kernel_rfl) (fun _ _ _ h => h) (Or.inl ⟨by rfl, fun _ _ => rfl⟩) hHeld ?_
    simp only [Act.put, List.setIfInBounds_toArray, List.set_cons_zero, List.set_cons_succ]
    refine wpAnyH_take (i := 12) (oi := ⟨some 53, .binOp .eql 29 (.tmp 52) (.const (.int .i64 0)) 29, _, _, _, _⟩) (v := .bool true) rfl (by kernel_rfl) (by kernel_rfl) (by kernel_rfl) (fun _ _ _ h => h) (Or.inl ⟨by rfl, fun w _ => by go_simp⟩) hHeld ?_
    simp only [Act.put, List.setIfInBounds_toArray, List.set_cons_zero, List.set_cons_succ]
    refine wpAnyH_take (i := 13) (oi := ⟨some 54, .pick (.tmp 51) (.tmp 53) (.const (.bool false)), _, _, _, none⟩) (v := .bool true) rfl (by kernel_rfl) (by kernel_rfl) (by kernel_rfl) (fun _ _ _ h => h) (Or.inl ⟨by rfl, fun w _ => by go_simp⟩) hHeld ?_
    simp only [Act.put, List.setIfInBounds_toArray, List.set_cons_zero, List.set_cons_succ]
    refine wpAnyH_take (i := 14) (oi := ⟨some 55, .move (.tmp 54), _, _, _, none⟩) (v := .bool true) rfl (by kernel_rfl) (by kernel_rfl) (by kernel_rfl) (fun _ _ _ h => h) (Or.inl ⟨by rfl, fun _ _ => rfl⟩) hHeld ?_
    simp only [Act.put, List.setIfInBounds_toArray, List.set_cons_zero, List.set_cons_succ]
    refine wpAnyH_take (i := 15) (oi := ⟨some 56, .load 26 (.tmp 8), _, _, _, _⟩) (v := .agg x.cells.toArray) rfl (by kernel_rfl) (by kernel_rfl) (by kernel_rfl) (fun _ _ _ h => h) (yieldsIf_load_mid (by rfl) _ _ rfl _ _ rfl x.cells _ (fun w h => h.1.1.2) Try.underlying26 rfl (ctl_sz _)) hHeld ?_
    simp only [Act.put, List.setIfInBounds_toArray, List.set_cons_zero, List.set_cons_succ]
    refine wpAnyH_take (i := 16) (oi := ⟨some 57, .load 26 (.tmp 2), _, _, _, _⟩) (v := .agg x.cells.toArray) rfl (by kernel_rfl) (by kernel_rfl) (by kernel_rfl) (fun _ _ _ h => h) (yieldsIf_load_mid (by rfl) _ _ rfl _ _ rfl x.cells _ (fun w h => h.1.1.1) Try.underlying26 rfl (ctl_sz _)) hHeld ?_
    simp only [Act.put, List.setIfInBounds_toArray, List.set_cons_zero, List.set_cons_succ]
    refine wpAnyH_take (i := 17) (oi := ⟨some 58, .binOp .eql 26 (.tmp 56) (.tmp 57) 26, _, _, _, _⟩) (v := .bool true) rfl (by kernel_rfl) (by kernel_rfl) (by kernel_rfl) (fun _ _ _ h => h) (Or.inl ⟨by rfl, fun w _ => by go_simp⟩) hHeld ?_
    simp only [Act.put, List.setIfInBounds_toArray, List.set_cons_zero, List.set_cons_succ]
    refine wpAnyH_take (i := 18) (oi := ⟨some 59, .pick (.tmp 55) (.tmp 58) (.const (.bool false)), _, _, _, none⟩) (v := .bool true) rfl (by kernel_rfl) (by kernel_rfl) (by kernel_rfl) (fun _ _ _ h => h) (Or.inl ⟨by rfl, fun w _ => by go_simp⟩) hHeld ?_
    simp only [Act.put, List.setIfInBounds_toArray, List.set_cons_zero, List.set_cons_succ]
    refine wpAnyH_take (i := 19) (oi := ⟨some 4, .assign (.tmp 59), _, _, _, none⟩) (v := .bool true) rfl (by kernel_rfl) (by kernel_rfl) (by kernel_rfl) (fun _ _ _ h => h) (Or.inl ⟨by rfl, fun _ _ => rfl⟩) hHeld ?_
    simp only [Act.put, List.setIfInBounds_toArray, List.set_cons_zero, List.set_cons_succ]
    refine wpAnyH_done (by kernel_rfl) ?_ _
    clear hHeld
    go_wp2
    go_ret
    exact ⟨rfl, lw⟩
  · have KV := Lib.hid fun w' => rvalid_no hx hok w'
    clear hD hR hok hx hs hb hnc hn h300
    go_enter Try.func4, Try.ntmps4
    go_upto_region 7 with (first
  | (go_at_call 18; refine (KD.out _ (lk.out _ lw)).mono ?_; rintro e w1 ⟨rfl, l1⟩; replace b2 := b2.keep l1; replace lw := Later.trans_ lw l1)
  | ((with_reducible refine wpList_store_abs (o := ⟨none, .store 26 (.tmp 5) (.tmp 17), _, _, _, none⟩) rfl _ _ _ rfl w1.heap.size 26 zK.cells X.cells ?_ ?_ ?_ ?_ ?_ ?_ ?_); rfl; rfl; exact (Blk.new _ _ _ _ rfl); exact ctl_sz _; rfl; exact ctl_one _; intro v1 b5 ob5; replace b2 := (b2.alloc (.cells zK.cells.toArray 26)).only ob5 (Nat.ne_of_lt b2.lt); replace lw := Below.only (lw.alloc lw.size (.cells zK.cells.toArray 26)) ob5 lw.size; clear ob5)
  | (go_at_call 19; refine (KRD.out _ (lk.out _ lw)).mono ?_; rintro e w2 ⟨rfl, l2⟩; replace b2 := b2.keep l2; replace b5 := b5.keep l2; replace lw := Later.trans_ lw l2)
  | ((with_reducible refine wpList_store_abs (o := ⟨none, .store 37 (.tmp 7) (.tmp 20), _, _, _, none⟩) rfl _ _ _ rfl w2.heap.size 37 (didC zK 0 0) (didC X 0 E) ?_ ?_ ?_ ?_ ?_ ?_ ?_); rfl; rfl; exact (Blk.new _ _ _ _ rfl); exact did_sz _ _ _; rfl; exact did_one _ _ _; intro v2 b7 o7; replace b2 := (b2.alloc (.cells (didC zK 0 0).toArray 37)).only o7 (Nat.ne_of_lt b2.lt); replace b5 := (b5.alloc (.cells (didC zK 0 0).toArray 37)).only o7 (Nat.ne_of_lt b5.lt); replace lw := Below.only (lw.alloc lw.size (.cells (didC zK 0 0).toArray 37)) o7 lw.size; clear o7; have c7 := b7.cell (j := 15) rfl)
  | ((with_reducible refine wpList_load_blk (o := ⟨some 21, .load 26 (.tmp 5), _, _, _, none⟩) rfl _ _ rfl w1.heap.size 26 X.cells _ ?_ ?_ Try.underlying26 rfl (ctl_sz _) ?_); rfl; exact b5)
  | ((with_reducible refine wpList_load_at (o := ⟨some 23, .load 26 (.tmp 22), _, _, _, none⟩) rfl _ _ rfl w2.heap.size 0 14 37 (didC X 0 E) X.cells _ ?_ ?_ ?_ Try.underlying26 rfl (ctl_sz _) ?_); rfl; exact b7; rfl))
    clear b5 b7 c7
    go_wp2_with (first
      | ((with_reducible refine wpList_load_blk (o := ⟨some 31, .load 26 (.tmp 2), _, _, _, none⟩) rfl _ _ rfl w.heap.size 26 x.cells _ ?_ ?_ Try.underlying26 rfl (ctl_sz _) ?_); rfl; exact b2)
      | (go_at_call 9; (with_reducible refine (KV.out _).mono ?_); rintro e w7 ⟨rfl, l7⟩; replace b2 := b2.keep l7; replace lw := Later.trans_ lw l7)
      | (go_at_call 11; (with_reducible refine (KS.out _).mono ?_); rintro e w8 ⟨rfl, l8⟩; replace b2 := b2.keep l8; replace lw := Later.trans_ lw l8))
    go_ret
    exact ⟨rfl, lw⟩

set_option maxRecDepth 100000 in
theorem linesCode_lifted (os : Os) (started : os.Started) (H : Type) (enc : TypeId × Value → H) :
    ReturnsInHanded {} Try.checked os 4 .any (Rows.linesCodeSpec.pre6 enc Try.prog Try.f4 Rows.linesCodeRow.domain false) (Rows.linesCodeSpec.post enc Try.prog Try.f4 false true false false) := by
  refine returnsInHanded_of_change (C := Try.checked) ownK started (by kernel_rfl) Try.func4
    (ChangeSpec.witness6 (enc := enc) (C := Try.checked) false ⟨#[], #[.agg #[.int .i64 0, .int .u32 0, .int .u32 0, .int .u32 0, .int .u32 0, .int .u32 0, .int .u32 0, .int .u32 0, .int .u32 0, .int .i64 0, .int .i64 0, .int .i64 0, .int .i64 0, .int .i64 0], .slice none 0 0], []⟩ 8 (by kernel_rfl) (by kernel_rfl) (by kernel_rfl) (by kernel_rfl)) ?_
  intro W base args ds gs before hval0 hW hcnd _
  have hval : ∀ (j : Nat) t v, Try.f4.params[j]? = some t → args[j]? = some v → Value.okWide Try.prog W .any base t v := hval0
  have hW' := hW
  obtain ⟨p, q, hA0, hV, rfl, hfz, hnd⟩ := hW
  have hA : DataW.TrodAll enc Try.prog W 0 (fun _ => true) true Try.f4.params.toList args.toList ds p := hA0
  rw [Try.params4] at hA hval
  obtain ⟨v0, vs0, d0, ds0, p0, q0, hargs, rfl, rfl, h0, r0⟩ := trodAll_cons hA
  obtain ⟨v1, vs1, d1, ds1, p1, q1, rfl, rfl, rfl, h1, r1⟩ := trodAll_cons r0
  obtain ⟨rfl, rfl, rfl⟩ := trodAll_nil r1
  obtain rfl : args = #[v0, v1] := by cases args; simp_all
  obtain ⟨rfl, rfl⟩ := trodVars_none hV
  obtain ⟨a0, rfl, z0⟩ := ctl_open (hval 0 26 v0 rfl rfl) h0
  obtain ⟨A1, n1, c1, b1, rfl, x1, y1, s1, z1⟩ := bytes_arg Try.underlying42 Try.underlying5 (by kernel_rfl) (hval 1 42 v1 rfl rfl) h1
  clear hA0 hval0
  simp only [List.append_nil] at hW'
  refine (code_all a0 A1 n1 c1 b1 W z0 s1 z1 x1 y1).mono fun e W' ⟨he, hw⟩ => ?_
  subst he
  exact ⟨_, rfl, law_post laidK rfl (by kernel_rfl) (by kernel_rfl) Try.underlying4 (by kernel_rfl) hW' rfl hw⟩
set_option maxRecDepth 100000 in
/-- The statement. -/
theorem linesCode_said : Rows.LinesCodeSaid :=
  OpenClaim.holds_of_wide 4 Try.f4 rfl rfl rfl rfl rfl rfl rfl ⟨rfl, rfl, rfl, rfl, rfl⟩ rfl rfl rfl rfl rfl (by kernel_rfl) Try.func4 (by kernel_rfl)
    (of_decide_eq_true (by kernel_rfl)) (by unfold Func.isWrapper; first | (rw [if_pos (by decide +kernel)]; kernel_rfl) | (rw [if_neg (by decide +kernel)]; exact ⟨rfl, rfl⟩))
    (fun os started H enc _ => linesCode_lifted os started H enc)
#print axioms linesCode_said
end Go.Proofs.Ytkpigonlnabmdab
