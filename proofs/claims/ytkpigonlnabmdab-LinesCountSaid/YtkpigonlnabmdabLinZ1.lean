/-
  THE STATEMENT LinesCount: raising a line twice is raising it once, two lines can be raised in any order, an acknowledgement takes a line away; for every control, two numbers and a processor.
-/
import Derived.Test.YtkpigonlnabmdabLinK
import Derived.Deep.RegionHeld
namespace Go.Proofs.Ytkpigonlnabmdab
open Go.RowKit Go.ChangeShapes Go.WideShapes Go.ChangeAt

set_option maxRecDepth 100000 in
set_option maxHeartbeats 8000000 in
theorem count_all (x : Ctl) (ln ot cp : Int) (w : World) (hx : x.wf) (hcp : 0 ≤ cp ∧ cp ≤ 255) :
    Calls Try.prog 7 #[.agg x.cells.toArray, .int .i64 ln, .int .i64 ot, .int .u8 cp] w fun e w' => e = .returned (.bool true) ∧ Later w w' := by
  have KS := Lib.hid fun w' => sanity_any w'
  have b4 := Blk.new w 26 x.cells.toArray x.cells rfl
  have lw := later1 w (.cells x.cells.toArray 26)
  by_cases hok : x.Ok
  · have KV := Lib.hid fun w' => rvalid_yes hx hok w'
    have hn1 := hok.n1
    have hn4 := hok.n4
    have hnz : ¬ x.n = 0 := by omega
    have hw8 : IntKind.i64.wrap cp = cp := by rw [IntKind.wrap_i64]; omega
    have hmd : cp.tmod x.n = (((cp % x.n).toNat : Nat) : Int) := by
      rw [Int.tmod_eq_emod_of_nonneg hcp.1, Int.toNat_of_nonneg (Int.emod_nonneg _ hnz)]
    have hkn : (((cp % x.n).toNat : Nat) : Int) < x.n := by
      rw [Int.toNat_of_nonneg (Int.emod_nonneg _ hnz)]; exact Int.emod_lt_of_pos _ (by omega)
    obtain ⟨k, hk⟩ : ∃ k, k = (cp % x.n).toNat := ⟨_, rfl⟩
    rw [← hk] at hmd hkn
    have K1 := Lib.hid fun w' => raise_any x ln k w' hok hx hkn
    have hyk := hok.raised hx (l := ln) (k := k) hkn
    have hny : (x.raise ln k).n = x.n := by unfold Ctl.raise; split <;> rfl
    have K2 := Lib.hid fun w' => raise_any (x.raise ln k) ln k w' hyk.1 hyk.2 (by rw [hny]; exact hkn)
    rw [raise_twice hok hx hkn] at K2
    have K3 := Lib.hid fun w' => raise_any (x.raise ln k) ot k w' hyk.1 hyk.2 (by rw [hny]; exact hkn)
    have K4 := Lib.hid fun w' => raise_any x ot k w' hok hx hkn
    have huk := hok.raised hx (l := ot) (k := k) hkn
    have hnu : (x.raise ot k).n = x.n := by unfold Ctl.raise; split <;> rfl
    have K5 := Lib.hid fun w' => raise_any (x.raise ot k) ln k w' huk.1 huk.2 (by rw [hnu]; exact hkn)
    rw [← raise_swap hok hx hkn ln ot] at K5
    obtain ⟨z, hz⟩ : ∃ z, z = (x.raise ln k).raise ot k := ⟨_, rfl⟩
    rw [← hz] at K3 K5
    obtain ⟨y, hy⟩ : ∃ y, y = x.raise ln k := ⟨_, rfl⟩
    rw [← hy] at K1 K2 K3 hyk hny
    obtain ⟨u, hu⟩ : ∃ u, u = x.raise ot k := ⟨_, rfl⟩
    rw [← hu] at K4 K5
    have hqy := ctl_same y
    have hqz := ctl_same z
    have HY := Lib.hid hy
    have HO := Lib.hid hok
    have HW := Lib.hid hx
    have HYK := Lib.hid hyk
    have HNY := Lib.hid hny
    clear hk hz hy hu huk hnu hok hx hcp hyk hny
    go_enter Try.func7, Try.ntmps7
    go_upto_region 5 with (first
      | ((with_reducible refine wpList_load_blk (o := ⟨some 18, .load 26 (.tmp 4), _, _, _, none⟩) rfl _ _ rfl w.heap.size 26 x.cells _ ?_ ?_ Try.underlying26 rfl (ctl_sz _) ?_); rfl; exact b4)
      | (go_at_call 9; (with_reducible refine (KV.out _).mono ?_); rintro e w1 ⟨rfl, l1⟩; replace b4 := b4.keep l1; replace lw := Later.trans_ lw l1; have e0 := b4.cell (ctl_n x))
      | ((with_reducible refine wpList_load_blk (o := ⟨some 27, .load 26 (.tmp 4), _, _, _, none⟩) rfl _ _ rfl w.heap.size 26 x.cells _ ?_ ?_ Try.underlying26 rfl (ctl_sz _) ?_); rfl; exact b4; clear e0)
      | (go_at_call 14; (with_reducible refine (K1.out _).mono ?_); rintro e w2 ⟨rfl, l2⟩; replace b4 := b4.keep l2; replace lw := Later.trans_ lw l2)
      | ((with_reducible refine wpList_store_abs (o := ⟨none, .store 26 (.tmp 10) (.tmp 30), _, _, _, none⟩) rfl _ _ _ rfl w2.heap.size 26 zK.cells y.cells ?_ ?_ ?_ ?_ ?_ ?_ ?_); rfl; rfl; exact (Blk.new _ _ _ _ rfl); exact ctl_sz _; rfl; exact ctl_one _; intro v2 b10 ob10; replace b4 := (b4.alloc (.cells zK.cells.toArray 26)).only ob10 (Nat.ne_of_lt b4.lt); replace lw := Below.only (lw.alloc lw.size (.cells zK.cells.toArray 26)) ob10 lw.size; clear ob10))
    clear K1
    replace b4 := b4.drew
    replace b10 := b10.drew
    replace lw := lw.drew
    refine wp_region_held_drew (S := fun w' => World.rangeAt w' w2.heap.size 0 y.cells ∧ World.rangeAt w' w.heap.size 0 x.cells) (by kernel_rfl) ⟨(show World.rangeAt _ w2.heap.size 0 y.cells from b10.range 0 14), (show World.rangeAt _ w.heap.size 0 x.cells from b4.range 0 14)⟩ (fun hHeld => ?_)
    refine wpAnyH_take (i := 0) (oi := ⟨some 31, .load 26 (.tmp 10), _, _, _, none⟩) (v := .agg y.cells.toArray) rfl (by kernel_rfl) (by kernel_rfl) (by kernel_rfl) (fun _ _ _ h => h) (yieldsIf_load_mid (by rfl) _ _ rfl _ _ rfl y.cells _ (fun w h => h.1) Try.underlying26 rfl (ctl_sz _)) hHeld ?_
    simp only [Act.put, List.setIfInBounds_toArray, List.set_cons_zero, List.set_cons_succ]
    refine wpAnyH_take (i := 1) (oi := ⟨some 32, .move (.tmp 1), _, _, _, none⟩) (v := .int .i64 ln) rfl (by kernel_rfl) (by kernel_rfl) (by kernel_rfl) (fun _ _ _ h => h) (Or.inl ⟨by rfl, fun _ _ => rfl⟩) hHeld ?_
    simp only [Act.put, List.setIfInBounds_toArray, List.set_cons_zero, List.set_cons_succ]
    refine wpAnyH_take (i := 2) (oi := ⟨some 33, .move (.tmp 9), _, _, _, none⟩) (v := .int .i64 (k : Int)) rfl (by kernel_rfl) (by kernel_rfl) (by kernel_rfl) (fun _ _ _ h => h) (Or.inl ⟨by rfl, fun _ _ => rfl⟩) hHeld ?_
    simp only [Act.put, List.setIfInBounds_toArray, List.set_cons_zero, List.set_cons_succ]
    refine wpAnyH_take (i := 4) (oi := ⟨some 35, .load 26 (.tmp 10), _, _, _, none⟩) (v := .agg y.cells.toArray) rfl (by kernel_rfl) (by kernel_rfl) (by kernel_rfl) (fun _ _ _ h => h) (yieldsIf_load_mid (by rfl) _ _ rfl _ _ rfl y.cells _ (fun w h => h.1) Try.underlying26 rfl (ctl_sz _)) hHeld ?_
    simp only [Act.put, List.setIfInBounds_toArray, List.set_cons_zero, List.set_cons_succ]
    refine wpAnyH_ready (rs := [3]) (by kernel_rfl) (by simp) (AllReadyH.cons (o := ⟨some 34, .call { callee := .value (.func 14), args := #[.tmp 31, .tmp 32, .tmp 33], argTypes := #[26, 3, 3] }, _, _, _, none⟩) rfl (fun K' hK => ?_) (AllReadyH.nil))
    go_simp
    (with_reducible refine (K2.out _).mono ?_)
    rintro e v3 ⟨rfl, l1⟩
    replace b4 := b4.keep l1
    replace b10 := b10.keep l1
    replace lw := Later.trans_ lw l1
    refine hK.out _ _ ⟨(show World.rangeAt _ w2.heap.size 0 y.cells from b10.range 0 14), (show World.rangeAt _ w.heap.size 0 x.cells from b4.range 0 14)⟩ (fun hHeld => ?_)
    clear hK K'
    try simp only [Act.put, List.setIfInBounds_toArray, List.set_cons_zero, List.set_cons_succ]
    refine wpAnyH_take (i := 5) (oi := ⟨some 36, .binOp .neq 26 (.tmp 34) (.tmp 35) 26, _, _, _, none⟩) (v := .bool false) rfl (by kernel_rfl) (by kernel_rfl) (by kernel_rfl) (fun _ _ _ h => h) (Or.inl ⟨by rfl, fun w _ => by go_simp⟩) hHeld ?_
    simp only [Act.put, List.setIfInBounds_toArray, List.set_cons_zero, List.set_cons_succ]
    refine wpAnyH_take (i := 6) (oi := ⟨some 37, .move (.tmp 36), _, _, _, none⟩) (v := .bool false) rfl (by kernel_rfl) (by kernel_rfl) (by kernel_rfl) (fun _ _ _ h => h) (Or.inl ⟨by rfl, fun _ _ => rfl⟩) hHeld ?_
    simp only [Act.put, List.setIfInBounds_toArray, List.set_cons_zero, List.set_cons_succ]
    refine wpAnyH_take (i := 7) (oi := ⟨some 38, .load 26 (.tmp 10), _, _, _, _⟩) (v := .agg y.cells.toArray) rfl (by kernel_rfl) (by kernel_rfl) (by kernel_rfl) (fun _ _ _ h => h) (yieldsIf_load_mid (by rfl) _ _ rfl _ _ rfl y.cells _ (fun w h => h.1) Try.underlying26 rfl (ctl_sz _)) hHeld ?_
    simp only [Act.put, List.setIfInBounds_toArray, List.set_cons_zero, List.set_cons_succ]
    refine wpAnyH_take (i := 8) (oi := ⟨some 39, .move (.tmp 2), _, _, _, _⟩) (v := .int .i64 ot) rfl (by kernel_rfl) (by kernel_rfl) (by kernel_rfl) (fun _ _ _ h => h) (Or.inl ⟨by rfl, fun _ _ => rfl⟩) hHeld ?_
    simp only [Act.put, List.setIfInBounds_toArray, List.set_cons_zero, List.set_cons_succ]
    refine wpAnyH_take (i := 9) (oi := ⟨some 40, .move (.tmp 9), _, _, _, _⟩) (v := .int .i64 (k : Int)) rfl (by kernel_rfl) (by kernel_rfl) (by kernel_rfl) (fun _ _ _ h => h) (Or.inl ⟨by rfl, fun _ _ => rfl⟩) hHeld ?_
    simp only [Act.put, List.setIfInBounds_toArray, List.set_cons_zero, List.set_cons_succ]
    refine wpAnyH_take (i := 11) (oi := ⟨some 42, .load 26 (.tmp 4), _, _, _, _⟩) (v := .agg x.cells.toArray) rfl (by kernel_rfl) (by kernel_rfl) (by kernel_rfl) (fun _ _ _ h => h) (yieldsIf_load_mid (by rfl) _ _ rfl _ _ rfl x.cells _ (fun w h => h.2) Try.underlying26 rfl (ctl_sz _)) hHeld ?_
    simp only [Act.put, List.setIfInBounds_toArray, List.set_cons_zero, List.set_cons_succ]
    refine wpAnyH_take (i := 12) (oi := ⟨some 43, .move (.tmp 2), _, _, _, _⟩) (v := .int .i64 ot) rfl (by kernel_rfl) (by kernel_rfl) (by kernel_rfl) (fun _ _ _ h => h) (Or.inl ⟨by rfl, fun _ _ => rfl⟩) hHeld ?_
    simp only [Act.put, List.setIfInBounds_toArray, List.set_cons_zero, List.set_cons_succ]
    refine wpAnyH_take (i := 13) (oi := ⟨some 44, .move (.tmp 9), _, _, _, _⟩) (v := .int .i64 (k : Int)) rfl (by kernel_rfl) (by kernel_rfl) (by kernel_rfl) (fun _ _ _ h => h) (Or.inl ⟨by rfl, fun _ _ => rfl⟩) hHeld ?_
    simp only [Act.put, List.setIfInBounds_toArray, List.set_cons_zero, List.set_cons_succ]
    refine wpAnyH_take (i := 15) (oi := ⟨some 46, .move (.tmp 1), _, _, _, _⟩) (v := .int .i64 ln) rfl (by kernel_rfl) (by kernel_rfl) (by kernel_rfl) (fun _ _ _ h => h) (Or.inl ⟨by rfl, fun _ _ => rfl⟩) hHeld ?_
    simp only [Act.put, List.setIfInBounds_toArray, List.set_cons_zero, List.set_cons_succ]
    refine wpAnyH_take (i := 16) (oi := ⟨some 47, .move (.tmp 9), _, _, _, _⟩) (v := .int .i64 (k : Int)) rfl (by kernel_rfl) (by kernel_rfl) (by kernel_rfl) (fun _ _ _ h => h) (Or.inl ⟨by rfl, fun _ _ => rfl⟩) hHeld ?_
    simp only [Act.put, List.setIfInBounds_toArray, List.set_cons_zero, List.set_cons_succ]
    refine wpAnyH_ready (rs := [10]) (by kernel_rfl) (by simp) (AllReadyH.cons (o := ⟨some 41, .call { callee := .value (.func 14), args := #[.tmp 38, .tmp 39, .tmp 40], argTypes := #[26, 3, 3] }, _, _, _, _⟩) rfl (fun K' hK => ?_) (AllReadyH.nil))
    go_simp
    (with_reducible refine (K3.out _).mono ?_)
    rintro e v4 ⟨rfl, l1⟩
    replace b4 := b4.keep l1
    replace b10 := b10.keep l1
    replace lw := Later.trans_ lw l1
    refine hK.out _ _ ⟨(show World.rangeAt _ w2.heap.size 0 y.cells from b10.range 0 14), (show World.rangeAt _ w.heap.size 0 x.cells from b4.range 0 14)⟩ (fun hHeld => ?_)
    clear hK K'
    try simp only [Act.put, List.setIfInBounds_toArray, List.set_cons_zero, List.set_cons_succ]
    refine wpAnyH_ready (rs := [14]) (by kernel_rfl) (by simp) (AllReadyH.cons (o := ⟨some 45, .call { callee := .value (.func 14), args := #[.tmp 42, .tmp 43, .tmp 44], argTypes := #[26, 3, 3] }, _, _, _, _⟩) rfl (fun K' hK => ?_) (AllReadyH.nil))
    go_simp
    (with_reducible refine (K4.out _).mono ?_)
    rintro e v5 ⟨rfl, l1⟩
    replace b4 := b4.keep l1
    replace b10 := b10.keep l1
    replace lw := Later.trans_ lw l1
    refine hK.out _ _ ⟨(show World.rangeAt _ w2.heap.size 0 y.cells from b10.range 0 14), (show World.rangeAt _ w.heap.size 0 x.cells from b4.range 0 14)⟩ (fun hHeld => ?_)
    clear hK K'
    try simp only [Act.put, List.setIfInBounds_toArray, List.set_cons_zero, List.set_cons_succ]
    refine wpAnyH_ready (rs := [17]) (by kernel_rfl) (by simp) (AllReadyH.cons (o := ⟨some 48, .call { callee := .value (.func 14), args := #[.tmp 45, .tmp 46, .tmp 47], argTypes := #[26, 3, 3] }, _, _, _, _⟩) rfl (fun K' hK => ?_) (AllReadyH.nil))
    go_simp
    (with_reducible refine (K5.out _).mono ?_)
    rintro e v6 ⟨rfl, l1⟩
    replace b4 := b4.keep l1
    replace b10 := b10.keep l1
    replace lw := Later.trans_ lw l1
    refine hK.out _ _ ⟨(show World.rangeAt _ w2.heap.size 0 y.cells from b10.range 0 14), (show World.rangeAt _ w.heap.size 0 x.cells from b4.range 0 14)⟩ (fun hHeld => ?_)
    clear hK K'
    try simp only [Act.put, List.setIfInBounds_toArray, List.set_cons_zero, List.set_cons_succ]
    refine wpAnyH_take (i := 18) (oi := ⟨some 49, .binOp .neq 26 (.tmp 41) (.tmp 48) 26, _, _, _, _⟩) (v := .bool false) rfl (by kernel_rfl) (by kernel_rfl) (by kernel_rfl) (fun _ _ _ h => h) (Or.inl ⟨by rfl, fun w _ => by go_simp⟩) hHeld ?_
    simp only [Act.put, List.setIfInBounds_toArray, List.set_cons_zero, List.set_cons_succ]
    refine wpAnyH_take (i := 19) (oi := ⟨some 50, .pick (.tmp 37) (.const (.bool true)) (.tmp 49), _, _, _, none⟩) (v := .bool false) rfl (by kernel_rfl) (by kernel_rfl) (by kernel_rfl) (fun _ _ _ h => h) (Or.inl ⟨by rfl, fun w _ => by go_simp⟩) hHeld ?_
    simp only [Act.put, List.setIfInBounds_toArray, List.set_cons_zero, List.set_cons_succ]
    refine wpAnyH_done (by kernel_rfl) ?_ _
    clear hHeld
    clear hqz K2 K3 K4 K5
    by_cases hl : 0 ≤ ln ∧ ln < 5
    · rcases (show ln = 0 ∨ ln = 1 ∨ ln = 2 ∨ ln = 3 ∨ ln = 4 by omega) with rfl | rfl | rfl | rfl | rfl
      · clear hl
        have hat : x.at 0 k = k := rfl
        have ha := HO.out.at4 (l := 0) (k := k) ⟨by decide, by decide⟩ hkn
        rw [hat] at ha
        obtain ⟨ha4, han⟩ := ha
        have h5 := HO.out.r5 HW.out ha4
        have hyr : y.r k = orB (x.r k) 0 := by
          rw [HY.out, raise_in x k ⟨by decide, by decide⟩, hat]
          exact upd_at _ _ _
        have hob : bits .and .u32 (y.r k / bt 0) 1 = 1 := by rw [hyr]; exact or_bit h5 (by decide)
        rw [show bt 0 = 1 from rfl, Int.ediv_one] at hob
        have hy5 : is5 (y.r k) := by rw [hyr]; exact or_5 h5 (by decide)
        have ha0 : (0 : Int) ≤ (k : Int) := by omega
        have ha4i : (k : Int) < 4 := by omega
        have KP1 := Lib.hid fun w' => (show Calls Try.prog 12 #[.agg y.cells.toArray, .int .i64 (k : Int), .agg #[.bool false, .int .i64 2, .int .u32 0]] w' fun e w'' => e = .returned (.tuple #[.agg (y.out k 2 0).cells.toArray, .int .u32 0, .int .i64 0]) ∧ Later w' w'' from port_any y k false 2 0 w' HYK.out.1 HYK.out.2 (by rw [HNY.out]; exact han) ⟨by decide, by decide⟩)
        have hqk := HYK.out.1.outed HYK.out.2 (k := k) (p := 2) (v := 0) (by rw [HNY.out]; exact han) ⟨by decide, by decide⟩
        have hqq : (y.out k 2 0).out k 2 0 = y.out k 2 0 := by
          show ({ y with r := upd (upd y.r k (anB (y.r k) 0)) k (anB (upd y.r k (anB (y.r k) 0) k) 0) } : Ctl) = _
          rw [upd_at, upd_upd, an_twice hy5 (by decide)]
          rfl
        have hqr : (y.out k 2 0).r k = anB (y.r k) 0 := upd_at _ _ _
        have hqb : bits .and .u32 ((y.out k 2 0).r k / bt 0) 1 = 0 := by rw [hqr]; exact an_bit hy5 (by decide)
        rw [show bt 0 = 1 from rfl, Int.ediv_one] at hqb
        have hqn : (y.out k 2 0).n = x.n := HNY.out
        have KP2 := Lib.hid fun w' => (show Calls Try.prog 12 #[.agg (y.out k 2 0).cells.toArray, .int .i64 (k : Int), .agg #[.bool false, .int .i64 2, .int .u32 0]] w' fun e w'' => e = .returned (.tuple #[.agg ((y.out k 2 0).out k 2 0).cells.toArray, .int .u32 0, .int .i64 0]) ∧ Later w' w'' from port_any (y.out k 2 0) k false 2 0 w' hqk.1 hqk.2 (by rw [hqn]; exact han) ⟨by decide, by decide⟩)
        rw [hqq] at KP2
        obtain ⟨q, hq⟩ : ∃ q, q = y.out k 2 0 := ⟨_, rfl⟩
        rw [← hq] at KP1 KP2 hqb
        have hqs := ctl_same q
        have ey := b10.cell (ctl_r y ha4)
        clear hq hqq hqr hqn hqk hy5 hyr h5 hat
        go_upto_region 14 with fail
        clear ey hob
        have hwu : IntKind.u32.wrap 0 = 0 := by decide
        go_cut [12, 14] (fun q12 q14 wx => ∃ g : Nat, q12 = .pointer (some ⟨g, 0, none⟩) ∧ q14 = .int .i64 0 ∧ Blk wx g 26 q.cells ∧ Later w wx)
        case first =>
          replace b10 := b10.drew
          replace lw := lw.drew
          refine wp_region_held_drew (S := fun w' => World.rangeAt w' w2.heap.size 0 y.cells) (by kernel_rfl) (show World.rangeAt _ w2.heap.size 0 y.cells from b10.range 0 14) (fun hHeld => ?_)
          refine wpAnyH_take (i := 0) (oi := ⟨some 87, .load 26 (.tmp 10), _, _, _, none⟩) (v := .agg y.cells.toArray) rfl (by kernel_rfl) (by kernel_rfl) (by kernel_rfl) (fun _ _ _ h => h) (yieldsIf_load_mid (by rfl) _ _ rfl _ _ rfl y.cells _ (fun w h => h) Try.underlying26 rfl (ctl_sz _)) hHeld ?_
          simp only [Act.put, List.setIfInBounds_toArray, List.set_cons_zero, List.set_cons_succ]
          refine wpAnyH_take (i := 1) (oi := ⟨some 88, .move (.tmp 11), _, _, _, none⟩) (v := .int .i64 (k : Int)) rfl (by kernel_rfl) (by kernel_rfl) (by kernel_rfl) (fun _ _ _ h => h) (Or.inl ⟨by rfl, fun _ _ => rfl⟩) hHeld ?_
          simp only [Act.put, List.setIfInBounds_toArray, List.set_cons_zero, List.set_cons_succ]
          refine wpAnyH_take (i := 2) (oi := ⟨some 89, .move (.tmp 1), _, _, _, none⟩) (v := .int .i64 0) rfl (by kernel_rfl) (by kernel_rfl) (by kernel_rfl) (fun _ _ _ h => h) (Or.inl ⟨by rfl, fun _ _ => rfl⟩) hHeld ?_
          simp only [Act.put, List.setIfInBounds_toArray, List.set_cons_zero, List.set_cons_succ]
          refine wpAnyH_take (i := 3) (oi := ⟨some 90, .convert 3 22 (.tmp 89), _, _, _, none⟩) (v := .int .u32 0) rfl (by kernel_rfl) (by kernel_rfl) (by kernel_rfl) (fun _ _ _ h => h) (Or.inl ⟨by rfl, fun w _ => by go_simp⟩) hHeld ?_
          simp only [Act.put, List.setIfInBounds_toArray, List.set_cons_zero, List.set_cons_succ]
          refine wpAnyH_ready (rs := [4, 10]) (by kernel_rfl) (by simp) (AllReadyH.cons (o := ⟨some 91, .call { callee := .value (.func 23), args := #[.const (.int .i64 2), .tmp 90], argTypes := #[3, 22] }, _, _, _, none⟩) rfl (fun K' hK => ?_) (AllReadyH.cons (o := ⟨some 12, .alloc 26, _, _, _, none⟩) rfl (fun K' hK => ?_) AllReadyH.nil))
          · go_simp
            (with_reducible refine (out_any 2 0 _).mono ?_)
            rintro e v14a ⟨rfl, l1⟩
            replace b10 := b10.keep l1
            replace lw := Later.trans_ lw l1
            try replace bn := bn.keep l1
            refine hK.out _ _ (show World.rangeAt _ w2.heap.size 0 y.cells from b10.range 0 14) (fun hHeld => ?_)
            clear hK K'
            try simp only [Act.put, List.setIfInBounds_toArray, List.set_cons_zero, List.set_cons_succ]
            refine wpAnyH_ready (rs := [5, 10]) (by kernel_rfl) (by simp) (AllReadyH.cons (o := ⟨some 92, .call { callee := .value (.func 12), args := #[.tmp 87, .tmp 88, .tmp 91], argTypes := #[26, 3, 28] }, _, _, _, none⟩) rfl (fun K' hK => ?_) (AllReadyH.cons (o := ⟨some 12, .alloc 26, _, _, _, none⟩) rfl (fun K' hK => ?_) AllReadyH.nil))
            · go_simp
              (with_reducible refine (KP1.out _).mono ?_)
              rintro e v14b ⟨rfl, l1⟩
              replace b10 := b10.keep l1
              replace lw := Later.trans_ lw l1
              try replace bn := bn.keep l1
              refine hK.out _ _ (show World.rangeAt _ w2.heap.size 0 y.cells from b10.range 0 14) (fun hHeld => ?_)
              clear hK K'
              try simp only [Act.put, List.setIfInBounds_toArray, List.set_cons_zero, List.set_cons_succ]
              refine wpAnyH_take (i := 6) (oi := ⟨some 86, .move (.tmp 92), _, _, _, none⟩) (v := (.tuple #[.agg q.cells.toArray, .int .u32 0, .int .i64 0])) rfl (by kernel_rfl) (by kernel_rfl) (by kernel_rfl) (fun _ _ _ h => h) (Or.inl ⟨by rfl, fun _ _ => rfl⟩) hHeld ?_
              simp only [Act.put, List.setIfInBounds_toArray, List.set_cons_zero, List.set_cons_succ]
              refine wpAnyH_take (i := 7) (oi := ⟨some 93, .extract (.tmp 86) 0, _, _, _, none⟩) (v := .agg q.cells.toArray) rfl (by kernel_rfl) (by kernel_rfl) (by kernel_rfl) (fun _ _ _ h => h) (Or.inl ⟨by rfl, fun w _ => by go_simp⟩) hHeld ?_
              simp only [Act.put, List.setIfInBounds_toArray, List.set_cons_zero, List.set_cons_succ]
              refine wpAnyH_take (i := 8) (oi := ⟨some 94, .extract (.tmp 86) 1, _, _, _, none⟩) (v := .int .u32 0) rfl (by kernel_rfl) (by kernel_rfl) (by kernel_rfl) (fun _ _ _ h => h) (Or.inl ⟨by rfl, fun w _ => by go_simp⟩) hHeld ?_
              simp only [Act.put, List.setIfInBounds_toArray, List.set_cons_zero, List.set_cons_succ]
              refine wpAnyH_take (i := 9) (oi := ⟨some 95, .extract (.tmp 86) 2, _, _, _, none⟩) (v := .int .i64 0) rfl (by kernel_rfl) (by kernel_rfl) (by kernel_rfl) (fun _ _ _ h => h) (Or.inl ⟨by rfl, fun w _ => by go_simp⟩) hHeld ?_
              simp only [Act.put, List.setIfInBounds_toArray, List.set_cons_zero, List.set_cons_succ]
              refine wpAnyH_ready (rs := [10]) (by kernel_rfl) (by simp) (AllReadyH.cons (o := ⟨some 12, .alloc 26, _, _, _, none⟩) rfl (fun K' hK => ?_) AllReadyH.nil)
              go_simp
              have nb10 := Nat.ne_of_lt b10.lt
              have m2 := lw.size
              have bn := Blk.new v14b 26 zK.cells.toArray zK.cells rfl
              replace b10 := b10.alloc (.cells zK.cells.toArray 26)
              replace lw := lw.alloc m2 (.cells zK.cells.toArray 26)
              refine hK.out _ _ (show World.rangeAt _ w2.heap.size 0 y.cells from b10.range 0 14) (fun hHeld => ?_)
              clear hK K'
              try simp only [Act.put, List.setIfInBounds_toArray, List.set_cons_zero, List.set_cons_succ]
              refine wpAnyH_ready (rs := [11]) (by kernel_rfl) (by simp) (AllReadyH.cons (o := ⟨none, .store 26 (.tmp 12) (.tmp 93), _, _, _, none⟩) rfl (fun K' hK => ?_) AllReadyH.nil)
              refine wp_store_blk 26 _ _ rfl v14b.heap.size 26 zK.cells q.cells rfl rfl bn (ctl_sz _) rfl (ctl_one _) ?_
              intro wq2 bq oq
              replace b10 := b10.only oq nb10
              replace lw := Below.only lw oq m2
              clear bn
              have bn := bq
              clear bq oq
              refine hK.out _ _ (show World.rangeAt _ w2.heap.size 0 y.cells from b10.range 0 14) (fun hHeld => ?_)
              clear hK K'
              try simp only [Act.put]
              refine wpAnyH_take (i := 12) (oi := ⟨some 13, .assign (.tmp 94), _, _, _, none⟩) (v := .int .u32 0) rfl (by kernel_rfl) (by kernel_rfl) (by kernel_rfl) (fun _ _ _ h => h) (Or.inl ⟨by rfl, fun _ _ => rfl⟩) hHeld ?_
              simp only [Act.put, List.setIfInBounds_toArray, List.set_cons_zero, List.set_cons_succ]
              refine wpAnyH_take (i := 13) (oi := ⟨some 14, .assign (.tmp 95), _, _, _, none⟩) (v := .int .i64 0) rfl (by kernel_rfl) (by kernel_rfl) (by kernel_rfl) (fun _ _ _ h => h) (Or.inl ⟨by rfl, fun _ _ => rfl⟩) hHeld ?_
              simp only [Act.put, List.setIfInBounds_toArray, List.set_cons_zero, List.set_cons_succ]
              refine wpAnyH_done (by kernel_rfl) ?_ _
              clear hHeld
              go_wp2
              go_meet
              exact ⟨_, rfl, rfl, bn, lw⟩
            · go_simp
              have nb10 := Nat.ne_of_lt b10.lt
              have m2 := lw.size
              have bn := Blk.new v14a 26 zK.cells.toArray zK.cells rfl
              replace b10 := b10.alloc (.cells zK.cells.toArray 26)
              replace lw := lw.alloc m2 (.cells zK.cells.toArray 26)
              refine hK.out _ _ (show World.rangeAt _ w2.heap.size 0 y.cells from b10.range 0 14) (fun hHeld => ?_)
              clear hK K'
              try simp only [Act.put, List.setIfInBounds_toArray, List.set_cons_zero, List.set_cons_succ]
              refine wpAnyH_ready (rs := [5]) (by kernel_rfl) (by simp) (AllReadyH.cons (o := ⟨some 92, .call { callee := .value (.func 12), args := #[.tmp 87, .tmp 88, .tmp 91], argTypes := #[26, 3, 28] }, _, _, _, none⟩) rfl (fun K' hK => ?_) AllReadyH.nil)
              go_simp
              (with_reducible refine (KP1.out _).mono ?_)
              rintro e v14b ⟨rfl, l1⟩
              replace b10 := b10.keep l1
              replace lw := Later.trans_ lw l1
              try replace bn := bn.keep l1
              refine hK.out _ _ (show World.rangeAt _ w2.heap.size 0 y.cells from b10.range 0 14) (fun hHeld => ?_)
              clear hK K'
              try simp only [Act.put, List.setIfInBounds_toArray, List.set_cons_zero, List.set_cons_succ]
              refine wpAnyH_take (i := 6) (oi := ⟨some 86, .move (.tmp 92), _, _, _, none⟩) (v := (.tuple #[.agg q.cells.toArray, .int .u32 0, .int .i64 0])) rfl (by kernel_rfl) (by kernel_rfl) (by kernel_rfl) (fun _ _ _ h => h) (Or.inl ⟨by rfl, fun _ _ => rfl⟩) hHeld ?_
              simp only [Act.put, List.setIfInBounds_toArray, List.set_cons_zero, List.set_cons_succ]
              refine wpAnyH_take (i := 7) (oi := ⟨some 93, .extract (.tmp 86) 0, _, _, _, none⟩) (v := .agg q.cells.toArray) rfl (by kernel_rfl) (by kernel_rfl) (by kernel_rfl) (fun _ _ _ h => h) (Or.inl ⟨by rfl, fun w _ => by go_simp⟩) hHeld ?_
              simp only [Act.put, List.setIfInBounds_toArray, List.set_cons_zero, List.set_cons_succ]
              refine wpAnyH_take (i := 8) (oi := ⟨some 94, .extract (.tmp 86) 1, _, _, _, none⟩) (v := .int .u32 0) rfl (by kernel_rfl) (by kernel_rfl) (by kernel_rfl) (fun _ _ _ h => h) (Or.inl ⟨by rfl, fun w _ => by go_simp⟩) hHeld ?_
              simp only [Act.put, List.setIfInBounds_toArray, List.set_cons_zero, List.set_cons_succ]
              refine wpAnyH_take (i := 9) (oi := ⟨some 95, .extract (.tmp 86) 2, _, _, _, none⟩) (v := .int .i64 0) rfl (by kernel_rfl) (by kernel_rfl) (by kernel_rfl) (fun _ _ _ h => h) (Or.inl ⟨by rfl, fun w _ => by go_simp⟩) hHeld ?_
              simp only [Act.put, List.setIfInBounds_toArray, List.set_cons_zero, List.set_cons_succ]
              refine wpAnyH_ready (rs := [11]) (by kernel_rfl) (by simp) (AllReadyH.cons (o := ⟨none, .store 26 (.tmp 12) (.tmp 93), _, _, _, none⟩) rfl (fun K' hK => ?_) AllReadyH.nil)
              refine wp_store_blk 26 _ _ rfl v14a.heap.size 26 zK.cells q.cells rfl rfl bn (ctl_sz _) rfl (ctl_one _) ?_
              intro wq2 bq oq
              replace b10 := b10.only oq nb10
              replace lw := Below.only lw oq m2
              clear bn
              have bn := bq
              clear bq oq
              refine hK.out _ _ (show World.rangeAt _ w2.heap.size 0 y.cells from b10.range 0 14) (fun hHeld => ?_)
              clear hK K'
              try simp only [Act.put]
              refine wpAnyH_take (i := 12) (oi := ⟨some 13, .assign (.tmp 94), _, _, _, none⟩) (v := .int .u32 0) rfl (by kernel_rfl) (by kernel_rfl) (by kernel_rfl) (fun _ _ _ h => h) (Or.inl ⟨by rfl, fun _ _ => rfl⟩) hHeld ?_
              simp only [Act.put, List.setIfInBounds_toArray, List.set_cons_zero, List.set_cons_succ]
              refine wpAnyH_take (i := 13) (oi := ⟨some 14, .assign (.tmp 95), _, _, _, none⟩) (v := .int .i64 0) rfl (by kernel_rfl) (by kernel_rfl) (by kernel_rfl) (fun _ _ _ h => h) (Or.inl ⟨by rfl, fun _ _ => rfl⟩) hHeld ?_
              simp only [Act.put, List.setIfInBounds_toArray, List.set_cons_zero, List.set_cons_succ]
              refine wpAnyH_done (by kernel_rfl) ?_ _
              clear hHeld
              go_wp2
              go_meet
              exact ⟨_, rfl, rfl, bn, lw⟩
          · go_simp
            have nb10 := Nat.ne_of_lt b10.lt
            have m2 := lw.size
            have bn := Blk.new v6.drew 26 zK.cells.toArray zK.cells rfl
            replace b10 := b10.alloc (.cells zK.cells.toArray 26)
            replace lw := lw.alloc m2 (.cells zK.cells.toArray 26)
            refine hK.out _ _ (show World.rangeAt _ w2.heap.size 0 y.cells from b10.range 0 14) (fun hHeld => ?_)
            clear hK K'
            try simp only [Act.put, List.setIfInBounds_toArray, List.set_cons_zero, List.set_cons_succ]
            refine wpAnyH_ready (rs := [4]) (by kernel_rfl) (by simp) (AllReadyH.cons (o := ⟨some 91, .call { callee := .value (.func 23), args := #[.const (.int .i64 2), .tmp 90], argTypes := #[3, 22] }, _, _, _, none⟩) rfl (fun K' hK => ?_) AllReadyH.nil)
            go_simp
            (with_reducible refine (out_any 2 0 _).mono ?_)
            rintro e v14a ⟨rfl, l1⟩
            replace b10 := b10.keep l1
            replace lw := Later.trans_ lw l1
            try replace bn := bn.keep l1
            refine hK.out _ _ (show World.rangeAt _ w2.heap.size 0 y.cells from b10.range 0 14) (fun hHeld => ?_)
            clear hK K'
            try simp only [Act.put, List.setIfInBounds_toArray, List.set_cons_zero, List.set_cons_succ]
            refine wpAnyH_ready (rs := [5]) (by kernel_rfl) (by simp) (AllReadyH.cons (o := ⟨some 92, .call { callee := .value (.func 12), args := #[.tmp 87, .tmp 88, .tmp 91], argTypes := #[26, 3, 28] }, _, _, _, none⟩) rfl (fun K' hK => ?_) AllReadyH.nil)
            go_simp
            (with_reducible refine (KP1.out _).mono ?_)
            rintro e v14b ⟨rfl, l1⟩
            replace b10 := b10.keep l1
            replace lw := Later.trans_ lw l1
            try replace bn := bn.keep l1
            refine hK.out _ _ (show World.rangeAt _ w2.heap.size 0 y.cells from b10.range 0 14) (fun hHeld => ?_)
            clear hK K'
            try simp only [Act.put, List.setIfInBounds_toArray, List.set_cons_zero, List.set_cons_succ]
            refine wpAnyH_take (i := 6) (oi := ⟨some 86, .move (.tmp 92), _, _, _, none⟩) (v := (.tuple #[.agg q.cells.toArray, .int .u32 0, .int .i64 0])) rfl (by kernel_rfl) (by kernel_rfl) (by kernel_rfl) (fun _ _ _ h => h) (Or.inl ⟨by rfl, fun _ _ => rfl⟩) hHeld ?_
            simp only [Act.put, List.setIfInBounds_toArray, List.set_cons_zero, List.set_cons_succ]
            refine wpAnyH_take (i := 7) (oi := ⟨some 93, .extract (.tmp 86) 0, _, _, _, none⟩) (v := .agg q.cells.toArray) rfl (by kernel_rfl) (by kernel_rfl) (by kernel_rfl) (fun _ _ _ h => h) (Or.inl ⟨by rfl, fun w _ => by go_simp⟩) hHeld ?_
            simp only [Act.put, List.setIfInBounds_toArray, List.set_cons_zero, List.set_cons_succ]
            refine wpAnyH_take (i := 8) (oi := ⟨some 94, .extract (.tmp 86) 1, _, _, _, none⟩) (v := .int .u32 0) rfl (by kernel_rfl) (by kernel_rfl) (by kernel_rfl) (fun _ _ _ h => h) (Or.inl ⟨by rfl, fun w _ => by go_simp⟩) hHeld ?_
            simp only [Act.put, List.setIfInBounds_toArray, List.set_cons_zero, List.set_cons_succ]
            refine wpAnyH_take (i := 9) (oi := ⟨some 95, .extract (.tmp 86) 2, _, _, _, none⟩) (v := .int .i64 0) rfl (by kernel_rfl) (by kernel_rfl) (by kernel_rfl) (fun _ _ _ h => h) (Or.inl ⟨by rfl, fun w _ => by go_simp⟩) hHeld ?_
            simp only [Act.put, List.setIfInBounds_toArray, List.set_cons_zero, List.set_cons_succ]
            refine wpAnyH_ready (rs := [11]) (by kernel_rfl) (by simp) (AllReadyH.cons (o := ⟨none, .store 26 (.tmp 12) (.tmp 93), _, _, _, none⟩) rfl (fun K' hK => ?_) AllReadyH.nil)
            refine wp_store_blk 26 _ _ rfl v6.heap.size 26 zK.cells q.cells rfl rfl bn (ctl_sz _) rfl (ctl_one _) ?_
            intro wq2 bq oq
            replace b10 := b10.only oq nb10
            replace lw := Below.only lw oq m2
            clear bn
            have bn := bq
            clear bq oq
            refine hK.out _ _ (show World.rangeAt _ w2.heap.size 0 y.cells from b10.range 0 14) (fun hHeld => ?_)
            clear hK K'
            try simp only [Act.put]
            refine wpAnyH_take (i := 12) (oi := ⟨some 13, .assign (.tmp 94), _, _, _, none⟩) (v := .int .u32 0) rfl (by kernel_rfl) (by kernel_rfl) (by kernel_rfl) (fun _ _ _ h => h) (Or.inl ⟨by rfl, fun _ _ => rfl⟩) hHeld ?_
            simp only [Act.put, List.setIfInBounds_toArray, List.set_cons_zero, List.set_cons_succ]
            refine wpAnyH_take (i := 13) (oi := ⟨some 14, .assign (.tmp 95), _, _, _, none⟩) (v := .int .i64 0) rfl (by kernel_rfl) (by kernel_rfl) (by kernel_rfl) (fun _ _ _ h => h) (Or.inl ⟨by rfl, fun _ _ => rfl⟩) hHeld ?_
            simp only [Act.put, List.setIfInBounds_toArray, List.set_cons_zero, List.set_cons_succ]
            refine wpAnyH_done (by kernel_rfl) ?_ _
            clear hHeld
            go_wp2
            go_meet
            exact ⟨_, rfl, rfl, bn, lw⟩
        case rest =>
          clear b10 b4 lw KP1
          obtain ⟨g12, rfl, rfl, b12, lw⟩ := hcut
          go_upto_region 15 with fail
          go_cut [15, 17] (fun q15 q17 wx => ∃ g : Nat, q15 = .pointer (some ⟨g, 0, none⟩) ∧ q17 = .int .i64 0 ∧ Blk wx g 26 q.cells ∧ Blk wx g12 26 q.cells ∧ Later w wx)
          case first =>
            replace b12 := b12.drew
            replace lw := lw.drew
            refine wp_region_held_drew (S := fun w' => World.rangeAt w' g12 0 q.cells) (by kernel_rfl) (show World.rangeAt _ g12 0 q.cells from b12.range 0 14) (fun hHeld => ?_)
            refine wpAnyH_take (i := 0) (oi := ⟨some 97, .load 26 (.tmp 12), _, _, _, none⟩) (v := .agg q.cells.toArray) rfl (by kernel_rfl) (by kernel_rfl) (by kernel_rfl) (fun _ _ _ h => h) (yieldsIf_load_mid (by rfl) _ _ rfl _ _ rfl q.cells _ (fun w h => h) Try.underlying26 rfl (ctl_sz _)) hHeld ?_
            simp only [Act.put, List.setIfInBounds_toArray, List.set_cons_zero, List.set_cons_succ]
            refine wpAnyH_take (i := 1) (oi := ⟨some 98, .move (.tmp 11), _, _, _, none⟩) (v := .int .i64 (k : Int)) rfl (by kernel_rfl) (by kernel_rfl) (by kernel_rfl) (fun _ _ _ h => h) (Or.inl ⟨by rfl, fun _ _ => rfl⟩) hHeld ?_
            simp only [Act.put, List.setIfInBounds_toArray, List.set_cons_zero, List.set_cons_succ]
            refine wpAnyH_take (i := 2) (oi := ⟨some 99, .move (.tmp 1), _, _, _, none⟩) (v := .int .i64 0) rfl (by kernel_rfl) (by kernel_rfl) (by kernel_rfl) (fun _ _ _ h => h) (Or.inl ⟨by rfl, fun _ _ => rfl⟩) hHeld ?_
            simp only [Act.put, List.setIfInBounds_toArray, List.set_cons_zero, List.set_cons_succ]
            refine wpAnyH_take (i := 3) (oi := ⟨some 100, .convert 3 22 (.tmp 99), _, _, _, none⟩) (v := .int .u32 0) rfl (by kernel_rfl) (by kernel_rfl) (by kernel_rfl) (fun _ _ _ h => h) (Or.inl ⟨by rfl, fun w _ => by go_simp⟩) hHeld ?_
            simp only [Act.put, List.setIfInBounds_toArray, List.set_cons_zero, List.set_cons_succ]
            refine wpAnyH_ready (rs := [4, 10]) (by kernel_rfl) (by simp) (AllReadyH.cons (o := ⟨some 101, .call { callee := .value (.func 23), args := #[.const (.int .i64 2), .tmp 100], argTypes := #[3, 22] }, _, _, _, none⟩) rfl (fun K' hK => ?_) (AllReadyH.cons (o := ⟨some 15, .alloc 26, _, _, _, none⟩) rfl (fun K' hK => ?_) AllReadyH.nil))
            · go_simp
              (with_reducible refine (out_any 2 0 _).mono ?_)
              rintro e v15a ⟨rfl, l1⟩
              replace b12 := b12.keep l1
              replace lw := Later.trans_ lw l1
              try replace bn := bn.keep l1
              refine hK.out _ _ (show World.rangeAt _ g12 0 q.cells from b12.range 0 14) (fun hHeld => ?_)
              clear hK K'
              try simp only [Act.put, List.setIfInBounds_toArray, List.set_cons_zero, List.set_cons_succ]
              refine wpAnyH_ready (rs := [5, 10]) (by kernel_rfl) (by simp) (AllReadyH.cons (o := ⟨some 102, .call { callee := .value (.func 12), args := #[.tmp 97, .tmp 98, .tmp 101], argTypes := #[26, 3, 28] }, _, _, _, none⟩) rfl (fun K' hK => ?_) (AllReadyH.cons (o := ⟨some 15, .alloc 26, _, _, _, none⟩) rfl (fun K' hK => ?_) AllReadyH.nil))
              · go_simp
                (with_reducible refine (KP2.out _).mono ?_)
                rintro e v15b ⟨rfl, l1⟩
                replace b12 := b12.keep l1
                replace lw := Later.trans_ lw l1
                try replace bn := bn.keep l1
                refine hK.out _ _ (show World.rangeAt _ g12 0 q.cells from b12.range 0 14) (fun hHeld => ?_)
                clear hK K'
                try simp only [Act.put, List.setIfInBounds_toArray, List.set_cons_zero, List.set_cons_succ]
                refine wpAnyH_take (i := 6) (oi := ⟨some 96, .move (.tmp 102), _, _, _, none⟩) (v := (.tuple #[.agg q.cells.toArray, .int .u32 0, .int .i64 0])) rfl (by kernel_rfl) (by kernel_rfl) (by kernel_rfl) (fun _ _ _ h => h) (Or.inl ⟨by rfl, fun _ _ => rfl⟩) hHeld ?_
                simp only [Act.put, List.setIfInBounds_toArray, List.set_cons_zero, List.set_cons_succ]
                refine wpAnyH_take (i := 7) (oi := ⟨some 103, .extract (.tmp 96) 0, _, _, _, none⟩) (v := .agg q.cells.toArray) rfl (by kernel_rfl) (by kernel_rfl) (by kernel_rfl) (fun _ _ _ h => h) (Or.inl ⟨by rfl, fun w _ => by go_simp⟩) hHeld ?_
                simp only [Act.put, List.setIfInBounds_toArray, List.set_cons_zero, List.set_cons_succ]
                refine wpAnyH_take (i := 8) (oi := ⟨some 104, .extract (.tmp 96) 1, _, _, _, none⟩) (v := .int .u32 0) rfl (by kernel_rfl) (by kernel_rfl) (by kernel_rfl) (fun _ _ _ h => h) (Or.inl ⟨by rfl, fun w _ => by go_simp⟩) hHeld ?_
                simp only [Act.put, List.setIfInBounds_toArray, List.set_cons_zero, List.set_cons_succ]
                refine wpAnyH_take (i := 9) (oi := ⟨some 105, .extract (.tmp 96) 2, _, _, _, none⟩) (v := .int .i64 0) rfl (by kernel_rfl) (by kernel_rfl) (by kernel_rfl) (fun _ _ _ h => h) (Or.inl ⟨by rfl, fun w _ => by go_simp⟩) hHeld ?_
                simp only [Act.put, List.setIfInBounds_toArray, List.set_cons_zero, List.set_cons_succ]
                refine wpAnyH_ready (rs := [10]) (by kernel_rfl) (by simp) (AllReadyH.cons (o := ⟨some 15, .alloc 26, _, _, _, none⟩) rfl (fun K' hK => ?_) AllReadyH.nil)
                go_simp
                have nb12 := Nat.ne_of_lt b12.lt
                have m2 := lw.size
                have bn := Blk.new v15b 26 zK.cells.toArray zK.cells rfl
                replace b12 := b12.alloc (.cells zK.cells.toArray 26)
                replace lw := lw.alloc m2 (.cells zK.cells.toArray 26)
                refine hK.out _ _ (show World.rangeAt _ g12 0 q.cells from b12.range 0 14) (fun hHeld => ?_)
                clear hK K'
                try simp only [Act.put, List.setIfInBounds_toArray, List.set_cons_zero, List.set_cons_succ]
                refine wpAnyH_ready (rs := [11]) (by kernel_rfl) (by simp) (AllReadyH.cons (o := ⟨none, .store 26 (.tmp 15) (.tmp 103), _, _, _, none⟩) rfl (fun K' hK => ?_) AllReadyH.nil)
                refine wp_store_blk 26 _ _ rfl v15b.heap.size 26 zK.cells q.cells rfl rfl bn (ctl_sz _) rfl (ctl_one _) ?_
                intro wq2 bq oq
                replace b12 := b12.only oq nb12
                replace lw := Below.only lw oq m2
                clear bn
                have bn := bq
                clear bq oq
                refine hK.out _ _ (show World.rangeAt _ g12 0 q.cells from b12.range 0 14) (fun hHeld => ?_)
                clear hK K'
                try simp only [Act.put]
                refine wpAnyH_take (i := 12) (oi := ⟨some 16, .assign (.tmp 104), _, _, _, none⟩) (v := .int .u32 0) rfl (by kernel_rfl) (by kernel_rfl) (by kernel_rfl) (fun _ _ _ h => h) (Or.inl ⟨by rfl, fun _ _ => rfl⟩) hHeld ?_
                simp only [Act.put, List.setIfInBounds_toArray, List.set_cons_zero, List.set_cons_succ]
                refine wpAnyH_take (i := 13) (oi := ⟨some 17, .assign (.tmp 105), _, _, _, none⟩) (v := .int .i64 0) rfl (by kernel_rfl) (by kernel_rfl) (by kernel_rfl) (fun _ _ _ h => h) (Or.inl ⟨by rfl, fun _ _ => rfl⟩) hHeld ?_
                simp only [Act.put, List.setIfInBounds_toArray, List.set_cons_zero, List.set_cons_succ]
                refine wpAnyH_done (by kernel_rfl) ?_ _
                clear hHeld
                go_wp2
                go_meet
                exact ⟨_, rfl, rfl, bn, b12, lw⟩
              · go_simp
                have nb12 := Nat.ne_of_lt b12.lt
                have m2 := lw.size
                have bn := Blk.new v15a 26 zK.cells.toArray zK.cells rfl
                replace b12 := b12.alloc (.cells zK.cells.toArray 26)
                replace lw := lw.alloc m2 (.cells zK.cells.toArray 26)
                refine hK.out _ _ (show World.rangeAt _ g12 0 q.cells from b12.range 0 14) (fun hHeld => ?_)
                clear hK K'
                try simp only [Act.put, List.setIfInBounds_toArray, List.set_cons_zero, List.set_cons_succ]
                refine wpAnyH_ready (rs := [5]) (by kernel_rfl) (by simp) (AllReadyH.cons (o := ⟨some 102, .call { callee := .value (.func 12), args := #[.tmp 97, .tmp 98, .tmp 101], argTypes := #[26, 3, 28] }, _, _, _, none⟩) rfl (fun K' hK => ?_) AllReadyH.nil)
                go_simp
                (with_reducible refine (KP2.out _).mono ?_)
                rintro e v15b ⟨rfl, l1⟩
                replace b12 := b12.keep l1
                replace lw := Later.trans_ lw l1
                try replace bn := bn.keep l1
                refine hK.out _ _ (show World.rangeAt _ g12 0 q.cells from b12.range 0 14) (fun hHeld => ?_)
                clear hK K'
                try simp only [Act.put, List.setIfInBounds_toArray, List.set_cons_zero, List.set_cons_succ]
                refine wpAnyH_take (i := 6) (oi := ⟨some 96, .move (.tmp 102), _, _, _, none⟩) (v := (.tuple #[.agg q.cells.toArray, .int .u32 0, .int .i64 0])) rfl (by kernel_rfl) (by kernel_rfl) (by kernel_rfl) (fun _ _ _ h => h) (Or.inl ⟨by rfl, fun _ _ => rfl⟩) hHeld ?_
                simp only [Act.put, List.setIfInBounds_toArray, List.set_cons_zero, List.set_cons_succ]
                refine wpAnyH_take (i := 7) (oi := ⟨some 103, .extract (.tmp 96) 0, _, _, _, none⟩) (v := .agg q.cells.toArray) rfl (by kernel_rfl) (by kernel_rfl) (by kernel_rfl) (fun _ _ _ h => h) (Or.inl ⟨by rfl, fun w _ => by go_simp⟩) hHeld ?_
                simp only [Act.put, List.setIfInBounds_toArray, List.set_cons_zero, List.set_cons_succ]
                refine wpAnyH_take (i := 8) (oi := ⟨some 104, .extract (.tmp 96) 1, _, _, _, none⟩) (v := .int .u32 0) rfl (by kernel_rfl) (by kernel_rfl) (by kernel_rfl) (fun _ _ _ h => h) (Or.inl ⟨by rfl, fun w _ => by go_simp⟩) hHeld ?_
                simp only [Act.put, List.setIfInBounds_toArray, List.set_cons_zero, List.set_cons_succ]
                refine wpAnyH_take (i := 9) (oi := ⟨some 105, .extract (.tmp 96) 2, _, _, _, none⟩) (v := .int .i64 0) rfl (by kernel_rfl) (by kernel_rfl) (by kernel_rfl) (fun _ _ _ h => h) (Or.inl ⟨by rfl, fun w _ => by go_simp⟩) hHeld ?_
                simp only [Act.put, List.setIfInBounds_toArray, List.set_cons_zero, List.set_cons_succ]
                refine wpAnyH_ready (rs := [11]) (by kernel_rfl) (by simp) (AllReadyH.cons (o := ⟨none, .store 26 (.tmp 15) (.tmp 103), _, _, _, none⟩) rfl (fun K' hK => ?_) AllReadyH.nil)
                refine wp_store_blk 26 _ _ rfl v15a.heap.size 26 zK.cells q.cells rfl rfl bn (ctl_sz _) rfl (ctl_one _) ?_
                intro wq2 bq oq
                replace b12 := b12.only oq nb12
                replace lw := Below.only lw oq m2
                clear bn
                have bn := bq
                clear bq oq
                refine hK.out _ _ (show World.rangeAt _ g12 0 q.cells from b12.range 0 14) (fun hHeld => ?_)
                clear hK K'
                try simp only [Act.put]
                refine wpAnyH_take (i := 12) (oi := ⟨some 16, .assign (.tmp 104), _, _, _, none⟩) (v := .int .u32 0) rfl (by kernel_rfl) (by kernel_rfl) (by kernel_rfl) (fun _ _ _ h => h) (Or.inl ⟨by rfl, fun _ _ => rfl⟩) hHeld ?_
                simp only [Act.put, List.setIfInBounds_toArray, List.set_cons_zero, List.set_cons_succ]
                refine wpAnyH_take (i := 13) (oi := ⟨some 17, .assign (.tmp 105), _, _, _, none⟩) (v := .int .i64 0) rfl (by kernel_rfl) (by kernel_rfl) (by kernel_rfl) (fun _ _ _ h => h) (Or.inl ⟨by rfl, fun _ _ => rfl⟩) hHeld ?_
                simp only [Act.put, List.setIfInBounds_toArray, List.set_cons_zero, List.set_cons_succ]
                refine wpAnyH_done (by kernel_rfl) ?_ _
                clear hHeld
                go_wp2
                go_meet
                exact ⟨_, rfl, rfl, bn, b12, lw⟩
            · go_simp
              have nb12 := Nat.ne_of_lt b12.lt
              have m2 := lw.size
              have bn := Blk.new wc.drew 26 zK.cells.toArray zK.cells rfl
              replace b12 := b12.alloc (.cells zK.cells.toArray 26)
              replace lw := lw.alloc m2 (.cells zK.cells.toArray 26)
              refine hK.out _ _ (show World.rangeAt _ g12 0 q.cells from b12.range 0 14) (fun hHeld => ?_)
              clear hK K'
              try simp only [Act.put, List.setIfInBounds_toArray, List.set_cons_zero, List.set_cons_succ]
              refine wpAnyH_ready (rs := [4]) (by kernel_rfl) (by simp) (AllReadyH.cons (o := ⟨some 101, .call { callee := .value (.func 23), args := #[.const (.int .i64 2), .tmp 100], argTypes := #[3, 22] }, _, _, _, none⟩) rfl (fun K' hK => ?_) AllReadyH.nil)
              go_simp
              (with_reducible refine (out_any 2 0 _).mono ?_)
              rintro e v15a ⟨rfl, l1⟩
              replace b12 := b12.keep l1
              replace lw := Later.trans_ lw l1
              try replace bn := bn.keep l1
              refine hK.out _ _ (show World.rangeAt _ g12 0 q.cells from b12.range 0 14) (fun hHeld => ?_)
              clear hK K'
              try simp only [Act.put, List.setIfInBounds_toArray, List.set_cons_zero, List.set_cons_succ]
              refine wpAnyH_ready (rs := [5]) (by kernel_rfl) (by simp) (AllReadyH.cons (o := ⟨some 102, .call { callee := .value (.func 12), args := #[.tmp 97, .tmp 98, .tmp 101], argTypes := #[26, 3, 28] }, _, _, _, none⟩) rfl (fun K' hK => ?_) AllReadyH.nil)
              go_simp
              (with_reducible refine (KP2.out _).mono ?_)
              rintro e v15b ⟨rfl, l1⟩
              replace b12 := b12.keep l1
              replace lw := Later.trans_ lw l1
              try replace bn := bn.keep l1
              refine hK.out _ _ (show World.rangeAt _ g12 0 q.cells from b12.range 0 14) (fun hHeld => ?_)
              clear hK K'
              try simp only [Act.put, List.setIfInBounds_toArray, List.set_cons_zero, List.set_cons_succ]
              refine wpAnyH_take (i := 6) (oi := ⟨some 96, .move (.tmp 102), _, _, _, none⟩) (v := (.tuple #[.agg q.cells.toArray, .int .u32 0, .int .i64 0])) rfl (by kernel_rfl) (by kernel_rfl) (by kernel_rfl) (fun _ _ _ h => h) (Or.inl ⟨by rfl, fun _ _ => rfl⟩) hHeld ?_
              simp only [Act.put, List.setIfInBounds_toArray, List.set_cons_zero, List.set_cons_succ]
              refine wpAnyH_take (i := 7) (oi := ⟨some 103, .extract (.tmp 96) 0, _, _, _, none⟩) (v := .agg q.cells.toArray) rfl (by kernel_rfl) (by kernel_rfl) (by kernel_rfl) (fun _ _ _ h => h) (Or.inl ⟨by rfl, fun w _ => by go_simp⟩) hHeld ?_
              simp only [Act.put, List.setIfInBounds_toArray, List.set_cons_zero, List.set_cons_succ]
              refine wpAnyH_take (i := 8) (oi := ⟨some 104, .extract (.tmp 96) 1, _, _, _, none⟩) (v := .int .u32 0) rfl (by kernel_rfl) (by kernel_rfl) (by kernel_rfl) (fun _ _ _ h => h) (Or.inl ⟨by rfl, fun w _ => by go_simp⟩) hHeld ?_
              simp only [Act.put, List.setIfInBounds_toArray, List.set_cons_zero, List.set_cons_succ]
              refine wpAnyH_take (i := 9) (oi := ⟨some 105, .extract (.tmp 96) 2, _, _, _, none⟩) (v := .int .i64 0) rfl (by kernel_rfl) (by kernel_rfl) (by kernel_rfl) (fun _ _ _ h => h) (Or.inl ⟨by rfl, fun w _ => by go_simp⟩) hHeld ?_
              simp only [Act.put, List.setIfInBounds_toArray, List.set_cons_zero, List.set_cons_succ]
              refine wpAnyH_ready (rs := [11]) (by kernel_rfl) (by simp) (AllReadyH.cons (o := ⟨none, .store 26 (.tmp 15) (.tmp 103), _, _, _, none⟩) rfl (fun K' hK => ?_) AllReadyH.nil)
              refine wp_store_blk 26 _ _ rfl wc.heap.size 26 zK.cells q.cells rfl rfl bn (ctl_sz _) rfl (ctl_one _) ?_
              intro wq2 bq oq
              replace b12 := b12.only oq nb12
              replace lw := Below.only lw oq m2
              clear bn
              have bn := bq
              clear bq oq
              refine hK.out _ _ (show World.rangeAt _ g12 0 q.cells from b12.range 0 14) (fun hHeld => ?_)
              clear hK K'
              try simp only [Act.put]
              refine wpAnyH_take (i := 12) (oi := ⟨some 16, .assign (.tmp 104), _, _, _, none⟩) (v := .int .u32 0) rfl (by kernel_rfl) (by kernel_rfl) (by kernel_rfl) (fun _ _ _ h => h) (Or.inl ⟨by rfl, fun _ _ => rfl⟩) hHeld ?_
              simp only [Act.put, List.setIfInBounds_toArray, List.set_cons_zero, List.set_cons_succ]
              refine wpAnyH_take (i := 13) (oi := ⟨some 17, .assign (.tmp 105), _, _, _, none⟩) (v := .int .i64 0) rfl (by kernel_rfl) (by kernel_rfl) (by kernel_rfl) (fun _ _ _ h => h) (Or.inl ⟨by rfl, fun _ _ => rfl⟩) hHeld ?_
              simp only [Act.put, List.setIfInBounds_toArray, List.set_cons_zero, List.set_cons_succ]
              refine wpAnyH_done (by kernel_rfl) ?_ _
              clear hHeld
              go_wp2
              go_meet
              exact ⟨_, rfl, rfl, bn, b12, lw⟩
          case rest =>
            clear b12 lw KP2
            obtain ⟨g15, rfl, rfl, b15, b12, lw⟩ := hcut
            go_wp2_with (first
              | (go_at_call 11; (with_reducible refine (KS.out _).mono ?_); rintro e w16 ⟨rfl, l16⟩; replace b12 := b12.keep l16; replace b15 := b15.keep l16; replace lw := Later.trans_ lw l16; have eq1 := b12.cell (ctl_r q ha4))
              | ((with_reducible refine wpList_load_g (o := ⟨some 126, .load 26 (.tmp 15), _, _, _, _⟩) _ _ rfl g15 26 q.cells _ ?_ ?_ ?_ Try.underlying26 ?_ (ctl_sz _) ?_); rfl; rfl; exact b15; rfl)
              | ((with_reducible refine wpList_load_g (o := ⟨some 127, .load 26 (.tmp 12), _, _, _, _⟩) _ _ rfl g12 26 q.cells _ ?_ ?_ ?_ Try.underlying26 ?_ (ctl_sz _) ?_); rfl; rfl; exact b12; rfl))
            go_ret
            exact ⟨rfl, lw⟩
      · clear hl
        obtain ⟨a, hA⟩ : ∃ a, a = (x.t 1).toNat := ⟨_, rfl⟩
        have hat : x.at 1 k = a := by rw [hA]; rfl
        have ha := HO.out.at4 (l := 1) (k := k) ⟨by decide, by decide⟩ hkn
        rw [hat] at ha
        obtain ⟨ha4, han⟩ := ha
        have hca : x.t 1 = (a : Int) := by rw [hA]; exact (HO.out.t4 (k := 1) (by decide)).2.1.symm
        have et := b4.cell (ctl_t x (k := 1) (by decide))
        rw [hca] at et
        clear hca
        have h5 := HO.out.r5 HW.out ha4
        have hyr : y.r a = orB (x.r a) 1 := by
          rw [HY.out, raise_in x k ⟨by decide, by decide⟩, hat]
          exact upd_at _ _ _
        have hob : bits .and .u32 (y.r a / bt 1) 1 = 1 := by rw [hyr]; exact or_bit h5 (by decide)
        rw [show bt 1 = 2 from rfl] at hob
        have hy5 : is5 (y.r a) := by rw [hyr]; exact or_5 h5 (by decide)
        have ha0 : (0 : Int) ≤ (a : Int) := by omega
        have ha4i : (a : Int) < 4 := by omega
        have KP1 := Lib.hid fun w' => (show Calls Try.prog 12 #[.agg y.cells.toArray, .int .i64 (a : Int), .agg #[.bool false, .int .i64 2, .int .u32 1]] w' fun e w'' => e = .returned (.tuple #[.agg (y.out a 2 1).cells.toArray, .int .u32 0, .int .i64 0]) ∧ Later w' w'' from port_any y a false 2 1 w' HYK.out.1 HYK.out.2 (by rw [HNY.out]; exact han) ⟨by decide, by decide⟩)
        have hqk := HYK.out.1.outed HYK.out.2 (k := a) (p := 2) (v := 1) (by rw [HNY.out]; exact han) ⟨by decide, by decide⟩
        have hqq : (y.out a 2 1).out a 2 1 = y.out a 2 1 := by
          show ({ y with r := upd (upd y.r a (anB (y.r a) 1)) a (anB (upd y.r a (anB (y.r a) 1) a) 1) } : Ctl) = _
          rw [upd_at, upd_upd, an_twice hy5 (by decide)]
          rfl
        have hqr : (y.out a 2 1).r a = anB (y.r a) 1 := upd_at _ _ _
        have hqb : bits .and .u32 ((y.out a 2 1).r a / bt 1) 1 = 0 := by rw [hqr]; exact an_bit hy5 (by decide)
        rw [show bt 1 = 2 from rfl] at hqb
        have hqn : (y.out a 2 1).n = x.n := HNY.out
        have KP2 := Lib.hid fun w' => (show Calls Try.prog 12 #[.agg (y.out a 2 1).cells.toArray, .int .i64 (a : Int), .agg #[.bool false, .int .i64 2, .int .u32 1]] w' fun e w'' => e = .returned (.tuple #[.agg ((y.out a 2 1).out a 2 1).cells.toArray, .int .u32 0, .int .i64 0]) ∧ Later w' w'' from port_any (y.out a 2 1) a false 2 1 w' hqk.1 hqk.2 (by rw [hqn]; exact han) ⟨by decide, by decide⟩)
        rw [hqq] at KP2
        obtain ⟨q, hq⟩ : ∃ q, q = y.out a 2 1 := ⟨_, rfl⟩
        rw [← hq] at KP1 KP2 hqb
        have hqs := ctl_same q
        have ey := b10.cell (ctl_r y ha4)
        clear hq hqq hqr hqn hqk hy5 hyr h5 hat hA
        go_upto_region 14 with fail
        clear ey hob et
        have hwu : IntKind.u32.wrap 1 = 1 := by decide
        go_cut [12, 14] (fun q12 q14 wx => ∃ g : Nat, q12 = .pointer (some ⟨g, 0, none⟩) ∧ q14 = .int .i64 0 ∧ Blk wx g 26 q.cells ∧ Later w wx)
        case first =>
          replace b10 := b10.drew
          replace lw := lw.drew
          refine wp_region_held_drew (S := fun w' => World.rangeAt w' w2.heap.size 0 y.cells) (by kernel_rfl) (show World.rangeAt _ w2.heap.size 0 y.cells from b10.range 0 14) (fun hHeld => ?_)
          refine wpAnyH_take (i := 0) (oi := ⟨some 87, .load 26 (.tmp 10), _, _, _, none⟩) (v := .agg y.cells.toArray) rfl (by kernel_rfl) (by kernel_rfl) (by kernel_rfl) (fun _ _ _ h => h) (yieldsIf_load_mid (by rfl) _ _ rfl _ _ rfl y.cells _ (fun w h => h) Try.underlying26 rfl (ctl_sz _)) hHeld ?_
          simp only [Act.put, List.setIfInBounds_toArray, List.set_cons_zero, List.set_cons_succ]
          refine wpAnyH_take (i := 1) (oi := ⟨some 88, .move (.tmp 11), _, _, _, none⟩) (v := .int .i64 (a : Int)) rfl (by kernel_rfl) (by kernel_rfl) (by kernel_rfl) (fun _ _ _ h => h) (Or.inl ⟨by rfl, fun _ _ => rfl⟩) hHeld ?_
          simp only [Act.put, List.setIfInBounds_toArray, List.set_cons_zero, List.set_cons_succ]
          refine wpAnyH_take (i := 2) (oi := ⟨some 89, .move (.tmp 1), _, _, _, none⟩) (v := .int .i64 1) rfl (by kernel_rfl) (by kernel_rfl) (by kernel_rfl) (fun _ _ _ h => h) (Or.inl ⟨by rfl, fun _ _ => rfl⟩) hHeld ?_
          simp only [Act.put, List.setIfInBounds_toArray, List.set_cons_zero, List.set_cons_succ]
          refine wpAnyH_take (i := 3) (oi := ⟨some 90, .convert 3 22 (.tmp 89), _, _, _, none⟩) (v := .int .u32 1) rfl (by kernel_rfl) (by kernel_rfl) (by kernel_rfl) (fun _ _ _ h => h) (Or.inl ⟨by rfl, fun w _ => by go_simp⟩) hHeld ?_
          simp only [Act.put, List.setIfInBounds_toArray, List.set_cons_zero, List.set_cons_succ]
          refine wpAnyH_ready (rs := [4, 10]) (by kernel_rfl) (by simp) (AllReadyH.cons (o := ⟨some 91, .call { callee := .value (.func 23), args := #[.const (.int .i64 2), .tmp 90], argTypes := #[3, 22] }, _, _, _, none⟩) rfl (fun K' hK => ?_) (AllReadyH.cons (o := ⟨some 12, .alloc 26, _, _, _, none⟩) rfl (fun K' hK => ?_) AllReadyH.nil))
          · go_simp
            (with_reducible refine (out_any 2 1 _).mono ?_)
            rintro e v14a ⟨rfl, l1⟩
            replace b10 := b10.keep l1
            replace lw := Later.trans_ lw l1
            try replace bn := bn.keep l1
            refine hK.out _ _ (show World.rangeAt _ w2.heap.size 0 y.cells from b10.range 0 14) (fun hHeld => ?_)
            clear hK K'
            try simp only [Act.put, List.setIfInBounds_toArray, List.set_cons_zero, List.set_cons_succ]
            refine wpAnyH_ready (rs := [5, 10]) (by kernel_rfl) (by simp) (AllReadyH.cons (o := ⟨some 92, .call { callee := .value (.func 12), args := #[.tmp 87, .tmp 88, .tmp 91], argTypes := #[26, 3, 28] }, _, _, _, none⟩) rfl (fun K' hK => ?_) (AllReadyH.cons (o := ⟨some 12, .alloc 26, _, _, _, none⟩) rfl (fun K' hK => ?_) AllReadyH.nil))
            · go_simp
              (with_reducible refine (KP1.out _).mono ?_)
              rintro e v14b ⟨rfl, l1⟩
              replace b10 := b10.keep l1
              replace lw := Later.trans_ lw l1
              try replace bn := bn.keep l1
              refine hK.out _ _ (show World.rangeAt _ w2.heap.size 0 y.cells from b10.range 0 14) (fun hHeld => ?_)
              clear hK K'
              try simp only [Act.put, List.setIfInBounds_toArray, List.set_cons_zero, List.set_cons_succ]
              refine wpAnyH_take (i := 6) (oi := ⟨some 86, .move (.tmp 92), _, _, _, none⟩) (v := (.tuple #[.agg q.cells.toArray, .int .u32 0, .int .i64 0])) rfl (by kernel_rfl) (by kernel_rfl) (by kernel_rfl) (fun _ _ _ h => h) (Or.inl ⟨by rfl, fun _ _ => rfl⟩) hHeld ?_
              simp only [Act.put, List.setIfInBounds_toArray, List.set_cons_zero, List.set_cons_succ]
              refine wpAnyH_take (i := 7) (oi := ⟨some 93, .extract (.tmp 86) 0, _, _, _, none⟩) (v := .agg q.cells.toArray) rfl (by kernel_rfl) (by kernel_rfl) (by kernel_rfl) (fun _ _ _ h => h) (Or.inl ⟨by rfl, fun w _ => by go_simp⟩) hHeld ?_
              simp only [Act.put, List.setIfInBounds_toArray, List.set_cons_zero, List.set_cons_succ]
              refine wpAnyH_take (i := 8) (oi := ⟨some 94, .extract (.tmp 86) 1, _, _, _, none⟩) (v := .int .u32 0) rfl (by kernel_rfl) (by kernel_rfl) (by kernel_rfl) (fun _ _ _ h => h) (Or.inl ⟨by rfl, fun w _ => by go_simp⟩) hHeld ?_
              simp only [Act.put, List.setIfInBounds_toArray, List.set_cons_zero, List.set_cons_succ]
              refine wpAnyH_take (i := 9) (oi := ⟨some 95, .extract (.tmp 86) 2, _, _, _, none⟩) (v := .int .i64 0) rfl (by kernel_rfl) (by kernel_rfl) (by kernel_rfl) (fun _ _ _ h => h) (Or.inl ⟨by rfl, fun w _ => by go_simp⟩) hHeld ?_
              simp only [Act.put, List.setIfInBounds_toArray, List.set_cons_zero, List.set_cons_succ]
              refine wpAnyH_ready (rs := [10]) (by kernel_rfl) (by simp) (AllReadyH.cons (o := ⟨some 12, .alloc 26, _, _, _, none⟩) rfl (fun K' hK => ?_) AllReadyH.nil)
              go_simp
              have nb10 := Nat.ne_of_lt b10.lt
              have m2 := lw.size
              have bn := Blk.new v14b 26 zK.cells.toArray zK.cells rfl
              replace b10 := b10.alloc (.cells zK.cells.toArray 26)
              replace lw := lw.alloc m2 (.cells zK.cells.toArray 26)
              refine hK.out _ _ (show World.rangeAt _ w2.heap.size 0 y.cells from b10.range 0 14) (fun hHeld => ?_)
              clear hK K'
              try simp only [Act.put, List.setIfInBounds_toArray, List.set_cons_zero, List.set_cons_succ]
              refine wpAnyH_ready (rs := [11]) (by kernel_rfl) (by simp) (AllReadyH.cons (o := ⟨none, .store 26 (.tmp 12) (.tmp 93), _, _, _, none⟩) rfl (fun K' hK => ?_) AllReadyH.nil)
              refine wp_store_blk 26 _ _ rfl v14b.heap.size 26 zK.cells q.cells rfl rfl bn (ctl_sz _) rfl (ctl_one _) ?_
              intro wq2 bq oq
              replace b10 := b10.only oq nb10
              replace lw := Below.only lw oq m2
              clear bn
              have bn := bq
              clear bq oq
              refine hK.out _ _ (show World.rangeAt _ w2.heap.size 0 y.cells from b10.range 0 14) (fun hHeld => ?_)
              clear hK K'
              try simp only [Act.put]
              refine wpAnyH_take (i := 12) (oi := ⟨some 13, .assign (.tmp 94), _, _, _, none⟩) (v := .int .u32 0) rfl (by kernel_rfl) (by kernel_rfl) (by kernel_rfl) (fun _ _ _ h => h) (Or.inl ⟨by rfl, fun _ _ => rfl⟩) hHeld ?_
              simp only [Act.put, List.setIfInBounds_toArray, List.set_cons_zero, List.set_cons_succ]
              refine wpAnyH_take (i := 13) (oi := ⟨some 14, .assign (.tmp 95), _, _, _, none⟩) (v := .int .i64 0) rfl (by kernel_rfl) (by kernel_rfl) (by kernel_rfl) (fun _ _ _ h => h) (Or.inl ⟨by rfl, fun _ _ => rfl⟩) hHeld ?_
              simp only [Act.put, List.setIfInBounds_toArray, List.set_cons_zero, List.set_cons_succ]
              refine wpAnyH_done (by kernel_rfl) ?_ _
              clear hHeld
              go_wp2
              go_meet
              exact ⟨_, rfl, rfl, bn, lw⟩
            · go_simp
              have nb10 := Nat.ne_of_lt b10.lt
              have m2 := lw.size
              have bn := Blk.new v14a 26 zK.cells.toArray zK.cells rfl
              replace b10 := b10.alloc (.cells zK.cells.toArray 26)
              replace lw := lw.alloc m2 (.cells zK.cells.toArray 26)
              refine hK.out _ _ (show World.rangeAt _ w2.heap.size 0 y.cells from b10.range 0 14) (fun hHeld => ?_)
              clear hK K'
              try simp only [Act.put, List.setIfInBounds_toArray, List.set_cons_zero, List.set_cons_succ]
              refine wpAnyH_ready (rs := [5]) (by kernel_rfl) (by simp) (AllReadyH.cons (o := ⟨some 92, .call { callee := .value (.func 12), args := #[.tmp 87, .tmp 88, .tmp 91], argTypes := #[26, 3, 28] }, _, _, _, none⟩) rfl (fun K' hK => ?_) AllReadyH.nil)
              go_simp
              (with_reducible refine (KP1.out _).mono ?_)
              rintro e v14b ⟨rfl, l1⟩
              replace b10 := b10.keep l1
              replace lw := Later.trans_ lw l1
              try replace bn := bn.keep l1
              refine hK.out _ _ (show World.rangeAt _ w2.heap.size 0 y.cells from b10.range 0 14) (fun hHeld => ?_)
              clear hK K'
              try simp only [Act.put, List.setIfInBounds_toArray, List.set_cons_zero, List.set_cons_succ]
              refine wpAnyH_take (i := 6) (oi := ⟨some 86, .move (.tmp 92), _, _, _, none⟩) (v := (.tuple #[.agg q.cells.toArray, .int .u32 0, .int .i64 0])) rfl (by kernel_rfl) (by kernel_rfl) (by kernel_rfl) (fun _ _ _ h => h) (Or.inl ⟨by rfl, fun _ _ => rfl⟩) hHeld ?_
              simp only [Act.put, List.setIfInBounds_toArray, List.set_cons_zero, List.set_cons_succ]
              refine wpAnyH_take (i := 7) (oi := ⟨some 93, .extract (.tmp 86) 0, _, _, _, none⟩) (v := .agg q.cells.toArray) rfl (by kernel_rfl) (by kernel_rfl) (by kernel_rfl) (fun _ _ _ h => h) (Or.inl ⟨by rfl, fun w _ => by go_simp⟩) hHeld ?_
              simp only [Act.put, List.setIfInBounds_toArray, List.set_cons_zero, List.set_cons_succ]
              refine wpAnyH_take (i := 8) (oi := ⟨some 94, .extract (.tmp 86) 1, _, _, _, none⟩) (v := .int .u32 0) rfl (by kernel_rfl) (by kernel_rfl) (by kernel_rfl) (fun _ _ _ h => h) (Or.inl ⟨by rfl, fun w _ => by go_simp⟩) hHeld ?_
              simp only [Act.put, List.setIfInBounds_toArray, List.set_cons_zero, List.set_cons_succ]
              refine wpAnyH_take (i := 9) (oi := ⟨some 95, .extract (.tmp 86) 2, _, _, _, none⟩) (v := .int .i64 0) rfl (by kernel_rfl) (by kernel_rfl) (by kernel_rfl) (fun _ _ _ h => h) (Or.inl ⟨by rfl, fun w _ => by go_simp⟩) hHeld ?_
              simp only [Act.put, List.setIfInBounds_toArray, List.set_cons_zero, List.set_cons_succ]
              refine wpAnyH_ready (rs := [11]) (by kernel_rfl) (by simp) (AllReadyH.cons (o := ⟨none, .store 26 (.tmp 12) (.tmp 93), _, _, _, none⟩) rfl (fun K' hK => ?_) AllReadyH.nil)
              refine wp_store_blk 26 _ _ rfl v14a.heap.size 26 zK.cells q.cells rfl rfl bn (ctl_sz _) rfl (ctl_one _) ?_
              intro wq2 bq oq
              replace b10 := b10.only oq nb10
              replace lw := Below.only lw oq m2
              clear bn
              have bn := bq
              clear bq oq
              refine hK.out _ _ (show World.rangeAt _ w2.heap.size 0 y.cells from b10.range 0 14) (fun hHeld => ?_)
              clear hK K'
              try simp only [Act.put]
              refine wpAnyH_take (i := 12) (oi := ⟨some 13, .assign (.tmp 94), _, _, _, none⟩) (v := .int .u32 0) rfl (by kernel_rfl) (by kernel_rfl) (by kernel_rfl) (fun _ _ _ h => h) (Or.inl ⟨by rfl, fun _ _ => rfl⟩) hHeld ?_
              simp only [Act.put, List.setIfInBounds_toArray, List.set_cons_zero, List.set_cons_succ]
              refine wpAnyH_take (i := 13) (oi := ⟨some 14, .assign (.tmp 95), _, _, _, none⟩) (v := .int .i64 0) rfl (by kernel_rfl) (by kernel_rfl) (by kernel_rfl) (fun _ _ _ h => h) (Or.inl ⟨by rfl, fun _ _ => rfl⟩) hHeld ?_
              simp only [Act.put, List.setIfInBounds_toArray, List.set_cons_zero, List.set_cons_succ]
              refine wpAnyH_done (by kernel_rfl) ?_ _
              clear hHeld
              go_wp2
              go_meet
              exact ⟨_, rfl, rfl, bn, lw⟩
          · go_simp
            have nb10 := Nat.ne_of_lt b10.lt
            have m2 := lw.size
            have bn := Blk.new v6.drew 26 zK.cells.toArray zK.cells rfl
            replace b10 := b10.alloc (.cells zK.cells.toArray 26)
            replace lw := lw.alloc m2 (.cells zK.cells.toArray 26)
            refine hK.out _ _ (show World.rangeAt _ w2.heap.size 0 y.cells from b10.range 0 14) (fun hHeld => ?_)
            clear hK K'
            try simp only [Act.put, List.setIfInBounds_toArray, List.set_cons_zero, List.set_cons_succ]
            refine wpAnyH_ready (rs := [4]) (by kernel_rfl) (by simp) (AllReadyH.cons (o := ⟨some 91, .call { callee := .value (.func 23), args := #[.const (.int .i64 2), .tmp 90], argTypes := #[3, 22] }, _, _, _, none⟩) rfl (fun K' hK => ?_) AllReadyH.nil)
            go_simp
            (with_reducible refine (out_any 2 1 _).mono ?_)
            rintro e v14a ⟨rfl, l1⟩
            replace b10 := b10.keep l1
            replace lw := Later.trans_ lw l1
            try replace bn := bn.keep l1
            refine hK.out _ _ (show World.rangeAt _ w2.heap.size 0 y.cells from b10.range 0 14) (fun hHeld => ?_)
            clear hK K'
            try simp only [Act.put, List.setIfInBounds_toArray, List.set_cons_zero, List.set_cons_succ]
            refine wpAnyH_ready (rs := [5]) (by kernel_rfl) (by simp) (AllReadyH.cons (o := ⟨some 92, .call { callee := .value (.func 12), args := #[.tmp 87, .tmp 88, .tmp 91], argTypes := #[26, 3, 28] }, _, _, _, none⟩) rfl (fun K' hK => ?_) AllReadyH.nil)
            go_simp
            (with_reducible refine (KP1.out _).mono ?_)
            rintro e v14b ⟨rfl, l1⟩
            replace b10 := b10.keep l1
            replace lw := Later.trans_ lw l1
            try replace bn := bn.keep l1
            refine hK.out _ _ (show World.rangeAt _ w2.heap.size 0 y.cells from b10.range 0 14) (fun hHeld => ?_)
            clear hK K'
            try simp only [Act.put, List.setIfInBounds_toArray, List.set_cons_zero, List.set_cons_succ]
            refine wpAnyH_take (i := 6) (oi := ⟨some 86, .move (.tmp 92), _, _, _, none⟩) (v := (.tuple #[.agg q.cells.toArray, .int .u32 0, .int .i64 0])) rfl (by kernel_rfl) (by kernel_rfl) (by kernel_rfl) (fun _ _ _ h => h) (Or.inl ⟨by rfl, fun _ _ => rfl⟩) hHeld ?_
            simp only [Act.put, List.setIfInBounds_toArray, List.set_cons_zero, List.set_cons_succ]
            refine wpAnyH_take (i := 7) (oi := ⟨some 93, .extract (.tmp 86) 0, _, _, _, none⟩) (v := .agg q.cells.toArray) rfl (by kernel_rfl) (by kernel_rfl) (by kernel_rfl) (fun _ _ _ h => h) (Or.inl ⟨by rfl, fun w _ => by go_simp⟩) hHeld ?_
            simp only [Act.put, List.setIfInBounds_toArray, List.set_cons_zero, List.set_cons_succ]
            refine wpAnyH_take (i := 8) (oi := ⟨some 94, .extract (.tmp 86) 1, _, _, _, none⟩) (v := .int .u32 0) rfl (by kernel_rfl) (by kernel_rfl) (by kernel_rfl) (fun _ _ _ h => h) (Or.inl ⟨by rfl, fun w _ => by go_simp⟩) hHeld ?_
            simp only [Act.put, List.setIfInBounds_toArray, List.set_cons_zero, List.set_cons_succ]
            refine wpAnyH_take (i := 9) (oi := ⟨some 95, .extract (.tmp 86) 2, _, _, _, none⟩) (v := .int .i64 0) rfl (by kernel_rfl) (by kernel_rfl) (by kernel_rfl) (fun _ _ _ h => h) (Or.inl ⟨by rfl, fun w _ => by go_simp⟩) hHeld ?_
            simp only [Act.put, List.setIfInBounds_toArray, List.set_cons_zero, List.set_cons_succ]
            refine wpAnyH_ready (rs := [11]) (by kernel_rfl) (by simp) (AllReadyH.cons (o := ⟨none, .store 26 (.tmp 12) (.tmp 93), _, _, _, none⟩) rfl (fun K' hK => ?_) AllReadyH.nil)
            refine wp_store_blk 26 _ _ rfl v6.heap.size 26 zK.cells q.cells rfl rfl bn (ctl_sz _) rfl (ctl_one _) ?_
            intro wq2 bq oq
            replace b10 := b10.only oq nb10
            replace lw := Below.only lw oq m2
            clear bn
            have bn := bq
            clear bq oq
            refine hK.out _ _ (show World.rangeAt _ w2.heap.size 0 y.cells from b10.range 0 14) (fun hHeld => ?_)
            clear hK K'
            try simp only [Act.put]
            refine wpAnyH_take (i := 12) (oi := ⟨some 13, .assign (.tmp 94), _, _, _, none⟩) (v := .int .u32 0) rfl (by kernel_rfl) (by kernel_rfl) (by kernel_rfl) (fun _ _ _ h => h) (Or.inl ⟨by rfl, fun _ _ => rfl⟩) hHeld ?_
            simp only [Act.put, List.setIfInBounds_toArray, List.set_cons_zero, List.set_cons_succ]
            refine wpAnyH_take (i := 13) (oi := ⟨some 14, .assign (.tmp 95), _, _, _, none⟩) (v := .int .i64 0) rfl (by kernel_rfl) (by kernel_rfl) (by kernel_rfl) (fun _ _ _ h => h) (Or.inl ⟨by rfl, fun _ _ => rfl⟩) hHeld ?_
            simp only [Act.put, List.setIfInBounds_toArray, List.set_cons_zero, List.set_cons_succ]
            refine wpAnyH_done (by kernel_rfl) ?_ _
            clear hHeld
            go_wp2
            go_meet
            exact ⟨_, rfl, rfl, bn, lw⟩
        case rest =>
          clear b10 b4 lw KP1
          obtain ⟨g12, rfl, rfl, b12, lw⟩ := hcut
          go_upto_region 15 with fail
          go_cut [15, 17] (fun q15 q17 wx => ∃ g : Nat, q15 = .pointer (some ⟨g, 0, none⟩) ∧ q17 = .int .i64 0 ∧ Blk wx g 26 q.cells ∧ Blk wx g12 26 q.cells ∧ Later w wx)
          case first =>
            replace b12 := b12.drew
            replace lw := lw.drew
            refine wp_region_held_drew (S := fun w' => World.rangeAt w' g12 0 q.cells) (by kernel_rfl) (show World.rangeAt _ g12 0 q.cells from b12.range 0 14) (fun hHeld => ?_)
            refine wpAnyH_take (i := 0) (oi := ⟨some 97, .load 26 (.tmp 12), _, _, _, none⟩) (v := .agg q.cells.toArray) rfl (by kernel_rfl) (by kernel_rfl) (by kernel_rfl) (fun _ _ _ h => h) (yieldsIf_load_mid (by rfl) _ _ rfl _ _ rfl q.cells _ (fun w h => h) Try.underlying26 rfl (ctl_sz _)) hHeld ?_
            simp only [Act.put, List.setIfInBounds_toArray, List.set_cons_zero, List.set_cons_succ]
            refine wpAnyH_take (i := 1) (oi := ⟨some 98, .move (.tmp 11), _, _, _, none⟩) (v := .int .i64 (a : Int)) rfl (by kernel_rfl) (by kernel_rfl) (by kernel_rfl) (fun _ _ _ h => h) (Or.inl ⟨by rfl, fun _ _ => rfl⟩) hHeld ?_
            simp only [Act.put, List.setIfInBounds_toArray, List.set_cons_zero, List.set_cons_succ]
            refine wpAnyH_take (i := 2) (oi := ⟨some 99, .move (.tmp 1), _, _, _, none⟩) (v := .int .i64 1) rfl (by kernel_rfl) (by kernel_rfl) (by kernel_rfl) (fun _ _ _ h => h) (Or.inl ⟨by rfl, fun _ _ => rfl⟩) hHeld ?_
            simp only [Act.put, List.setIfInBounds_toArray, List.set_cons_zero, List.set_cons_succ]
            refine wpAnyH_take (i := 3) (oi := ⟨some 100, .convert 3 22 (.tmp 99), _, _, _, none⟩) (v := .int .u32 1) rfl (by kernel_rfl) (by kernel_rfl) (by kernel_rfl) (fun _ _ _ h => h) (Or.inl ⟨by rfl, fun w _ => by go_simp⟩) hHeld ?_
            simp only [Act.put, List.setIfInBounds_toArray, List.set_cons_zero, List.set_cons_succ]
            refine wpAnyH_ready (rs := [4, 10]) (by kernel_rfl) (by simp) (AllReadyH.cons (o := ⟨some 101, .call { callee := .value (.func 23), args := #[.const (.int .i64 2), .tmp 100], argTypes := #[3, 22] }, _, _, _, none⟩) rfl (fun K' hK => ?_) (AllReadyH.cons (o := ⟨some 15, .alloc 26, _, _, _, none⟩) rfl (fun K' hK => ?_) AllReadyH.nil))
            · go_simp
              (with_reducible refine (out_any 2 1 _).mono ?_)
              rintro e v15a ⟨rfl, l1⟩
              replace b12 := b12.keep l1
              replace lw := Later.trans_ lw l1
              try replace bn := bn.keep l1
              refine hK.out _ _ (show World.rangeAt _ g12 0 q.cells from b12.range 0 14) (fun hHeld => ?_)
              clear hK K'
              try simp only [Act.put, List.setIfInBounds_toArray, List.set_cons_zero, List.set_cons_succ]
              refine wpAnyH_ready (rs := [5, 10]) (by kernel_rfl) (by simp) (AllReadyH.cons (o := ⟨some 102, .call { callee := .value (.func 12), args := #[.tmp 97, .tmp 98, .tmp 101], argTypes := #[26, 3, 28] }, _, _, _, none⟩) rfl (fun K' hK => ?_) (AllReadyH.cons (o := ⟨some 15, .alloc 26, _, _, _, none⟩) rfl (fun K' hK => ?_) AllReadyH.nil))
              · go_simp
                (with_reducible refine (KP2.out _).mono ?_)
                rintro e v15b ⟨rfl, l1⟩
                replace b12 := b12.keep l1
                replace lw := Later.trans_ lw l1
                try replace bn := bn.keep l1
                refine hK.out _ _ (show World.rangeAt _ g12 0 q.cells from b12.range 0 14) (fun hHeld => ?_)
                clear hK K'
                try simp only [Act.put, List.setIfInBounds_toArray, List.set_cons_zero, List.set_cons_succ]
                refine wpAnyH_take (i := 6) (oi := ⟨some 96, .move (.tmp 102), _, _, _, none⟩) (v := (.tuple #[.agg q.cells.toArray, .int .u32 0, .int .i64 0])) rfl (by kernel_rfl) (by kernel_rfl) (by kernel_rfl) (fun _ _ _ h => h) (Or.inl ⟨by rfl, fun _ _ => rfl⟩) hHeld ?_
                simp only [Act.put, List.setIfInBounds_toArray, List.set_cons_zero, List.set_cons_succ]
                refine wpAnyH_take (i := 7) (oi := ⟨some 103, .extract (.tmp 96) 0, _, _, _, none⟩) (v := .agg q.cells.toArray) rfl (by kernel_rfl) (by kernel_rfl) (by kernel_rfl) (fun _ _ _ h => h) (Or.inl ⟨by rfl, fun w _ => by go_simp⟩) hHeld ?_
                simp only [Act.put, List.setIfInBounds_toArray, List.set_cons_zero, List.set_cons_succ]
                refine wpAnyH_take (i := 8) (oi := ⟨some 104, .extract (.tmp 96) 1, _, _, _, none⟩) (v := .int .u32 0) rfl (by kernel_rfl) (by kernel_rfl) (by kernel_rfl) (fun _ _ _ h => h) (Or.inl ⟨by rfl, fun w _ => by go_simp⟩) hHeld ?_
                simp only [Act.put, List.setIfInBounds_toArray, List.set_cons_zero, List.set_cons_succ]
                refine wpAnyH_take (i := 9) (oi := ⟨some 105, .extract (.tmp 96) 2, _, _, _, none⟩) (v := .int .i64 0) rfl (by kernel_rfl) (by kernel_rfl) (by kernel_rfl) (fun _ _ _ h => h) (Or.inl ⟨by rfl, fun w _ => by go_simp⟩) hHeld ?_
                simp only [Act.put, List.setIfInBounds_toArray, List.set_cons_zero, List.set_cons_succ]
                refine wpAnyH_ready (rs := [10]) (by kernel_rfl) (by simp) (AllReadyH.cons (o := ⟨some 15, .alloc 26, _, _, _, none⟩) rfl (fun K' hK => ?_) AllReadyH.nil)
                go_simp
                have nb12 := Nat.ne_of_lt b12.lt
                have m2 := lw.size
                have bn := Blk.new v15b 26 zK.cells.toArray zK.cells rfl
                replace b12 := b12.alloc (.cells zK.cells.toArray 26)
                replace lw := lw.alloc m2 (.cells zK.cells.toArray 26)
                refine hK.out _ _ (show World.rangeAt _ g12 0 q.cells from b12.range 0 14) (fun hHeld => ?_)
                clear hK K'
                try simp only [Act.put, List.setIfInBounds_toArray, List.set_cons_zero, List.set_cons_succ]
                refine wpAnyH_ready (rs := [11]) (by kernel_rfl) (by simp) (AllReadyH.cons (o := ⟨none, .store 26 (.tmp 15) (.tmp 103), _, _, _, none⟩) rfl (fun K' hK => ?_) AllReadyH.nil)
                refine wp_store_blk 26 _ _ rfl v15b.heap.size 26 zK.cells q.cells rfl rfl bn (ctl_sz _) rfl (ctl_one _) ?_
                intro wq2 bq oq
                replace b12 := b12.only oq nb12
                replace lw := Below.only lw oq m2
                clear bn
                have bn := bq
                clear bq oq
                refine hK.out _ _ (show World.rangeAt _ g12 0 q.cells from b12.range 0 14) (fun hHeld => ?_)
                clear hK K'
                try simp only [Act.put]
                refine wpAnyH_take (i := 12) (oi := ⟨some 16, .assign (.tmp 104), _, _, _, none⟩) (v := .int .u32 0) rfl (by kernel_rfl) (by kernel_rfl) (by kernel_rfl) (fun _ _ _ h => h) (Or.inl ⟨by rfl, fun _ _ => rfl⟩) hHeld ?_
                simp only [Act.put, List.setIfInBounds_toArray, List.set_cons_zero, List.set_cons_succ]
                refine wpAnyH_take (i := 13) (oi := ⟨some 17, .assign (.tmp 105), _, _, _, none⟩) (v := .int .i64 0) rfl (by kernel_rfl) (by kernel_rfl) (by kernel_rfl) (fun _ _ _ h => h) (Or.inl ⟨by rfl, fun _ _ => rfl⟩) hHeld ?_
                simp only [Act.put, List.setIfInBounds_toArray, List.set_cons_zero, List.set_cons_succ]
                refine wpAnyH_done (by kernel_rfl) ?_ _
                clear hHeld
                go_wp2
                go_meet
                exact ⟨_, rfl, rfl, bn, b12, lw⟩
              · go_simp
                have nb12 := Nat.ne_of_lt b12.lt
                have m2 := lw.size
                have bn := Blk.new v15a 26 zK.cells.toArray zK.cells rfl
                replace b12 := b12.alloc (.cells zK.cells.toArray 26)
                replace lw := lw.alloc m2 (.cells zK.cells.toArray 26)
                refine hK.out _ _ (show World.rangeAt _ g12 0 q.cells from b12.range 0 14) (fun hHeld => ?_)
                clear hK K'
                try simp only [Act.put, List.setIfInBounds_toArray, List.set_cons_zero, List.set_cons_succ]
                refine wpAnyH_ready (rs := [5]) (by kernel_rfl) (by simp) (AllReadyH.cons (o := ⟨some 102, .call { callee := .value (.func 12), args := #[.tmp 97, .tmp 98, .tmp 101], argTypes := #[26, 3, 28] }, _, _, _, none⟩) rfl (fun K' hK => ?_) AllReadyH.nil)
                go_simp
                (with_reducible refine (KP2.out _).mono ?_)
                rintro e v15b ⟨rfl, l1⟩
                replace b12 := b12.keep l1
                replace lw := Later.trans_ lw l1
                try replace bn := bn.keep l1
                refine hK.out _ _ (show World.rangeAt _ g12 0 q.cells from b12.range 0 14) (fun hHeld => ?_)
                clear hK K'
                try simp only [Act.put, List.setIfInBounds_toArray, List.set_cons_zero, List.set_cons_succ]
                refine wpAnyH_take (i := 6) (oi := ⟨some 96, .move (.tmp 102), _, _, _, none⟩) (v := (.tuple #[.agg q.cells.toArray, .int .u32 0, .int .i64 0])) rfl (by kernel_rfl) (by kernel_rfl) (by kernel_rfl) (fun _ _ _ h => h) (Or.inl ⟨by rfl, fun _ _ => rfl⟩) hHeld ?_
                simp only [Act.put, List.setIfInBounds_toArray, List.set_cons_zero, List.set_cons_succ]
                refine wpAnyH_take (i := 7) (oi := ⟨some 103, .extract (.tmp 96) 0, _, _, _, none⟩) (v := .agg q.cells.toArray) rfl (by kernel_rfl) (by kernel_rfl) (by kernel_rfl) (fun _ _ _ h => h) (Or.inl ⟨by rfl, fun w _ => by go_simp⟩) hHeld ?_
                simp only [Act.put, List.setIfInBounds_toArray, List.set_cons_zero, List.set_cons_succ]
                refine wpAnyH_take (i := 8) (oi := ⟨some 104, .extract (.tmp 96) 1, _, _, _, none⟩) (v := .int .u32 0) rfl (by kernel_rfl) (by kernel_rfl) (by kernel_rfl) (fun _ _ _ h => h) (Or.inl ⟨by rfl, fun w _ => by go_simp⟩) hHeld ?_
                simp only [Act.put, List.setIfInBounds_toArray, List.set_cons_zero, List.set_cons_succ]
                refine wpAnyH_take (i := 9) (oi := ⟨some 105, .extract (.tmp 96) 2, _, _, _, none⟩) (v := .int .i64 0) rfl (by kernel_rfl) (by kernel_rfl) (by kernel_rfl) (fun _ _ _ h => h) (Or.inl ⟨by rfl, fun w _ => by go_simp⟩) hHeld ?_
                simp only [Act.put, List.setIfInBounds_toArray, List.set_cons_zero, List.set_cons_succ]
                refine wpAnyH_ready (rs := [11]) (by kernel_rfl) (by simp) (AllReadyH.cons (o := ⟨none, .store 26 (.tmp 15) (.tmp 103), _, _, _, none⟩) rfl (fun K' hK => ?_) AllReadyH.nil)
                refine wp_store_blk 26 _ _ rfl v15a.heap.size 26 zK.cells q.cells rfl rfl bn (ctl_sz _) rfl (ctl_one _) ?_
                intro wq2 bq oq
                replace b12 := b12.only oq nb12
                replace lw := Below.only lw oq m2
                clear bn
                have bn := bq
                clear bq oq
                refine hK.out _ _ (show World.rangeAt _ g12 0 q.cells from b12.range 0 14) (fun hHeld => ?_)
                clear hK K'
                try simp only [Act.put]
                refine wpAnyH_take (i := 12) (oi := ⟨some 16, .assign (.tmp 104), _, _, _, none⟩) (v := .int .u32 0) rfl (by kernel_rfl) (by kernel_rfl) (by kernel_rfl) (fun _ _ _ h => h) (Or.inl ⟨by rfl, fun _ _ => rfl⟩) hHeld ?_
                simp only [Act.put, List.setIfInBounds_toArray, List.set_cons_zero, List.set_cons_succ]
                refine wpAnyH_take (i := 13) (oi := ⟨some 17, .assign (.tmp 105), _, _, _, none⟩) (v := .int .i64 0) rfl (by kernel_rfl) (by kernel_rfl) (by kernel_rfl) (fun _ _ _ h => h) (Or.inl ⟨by rfl, fun _ _ => rfl⟩) hHeld ?_
                simp only [Act.put, List.setIfInBounds_toArray, List.set_cons_zero, List.set_cons_succ]
                refine wpAnyH_done (by kernel_rfl) ?_ _
                clear hHeld
                go_wp2
                go_meet
                exact ⟨_, rfl, rfl, bn, b12, lw⟩
            · go_simp
              have nb12 := Nat.ne_of_lt b12.lt
              have m2 := lw.size
              have bn := Blk.new wc.drew 26 zK.cells.toArray zK.cells rfl
              replace b12 := b12.alloc (.cells zK.cells.toArray 26)
              replace lw := lw.alloc m2 (.cells zK.cells.toArray 26)
              refine hK.out _ _ (show World.rangeAt _ g12 0 q.cells from b12.range 0 14) (fun hHeld => ?_)
              clear hK K'
              try simp only [Act.put, List.setIfInBounds_toArray, List.set_cons_zero, List.set_cons_succ]
              refine wpAnyH_ready (rs := [4]) (by kernel_rfl) (by simp) (AllReadyH.cons (o := ⟨some 101, .call { callee := .value (.func 23), args := #[.const (.int .i64 2), .tmp 100], argTypes := #[3, 22] }, _, _, _, none⟩) rfl (fun K' hK => ?_) AllReadyH.nil)
              go_simp
              (with_reducible refine (out_any 2 1 _).mono ?_)
              rintro e v15a ⟨rfl, l1⟩
              replace b12 := b12.keep l1
              replace lw := Later.trans_ lw l1
              try replace bn := bn.keep l1
              refine hK.out _ _ (show World.rangeAt _ g12 0 q.cells from b12.range 0 14) (fun hHeld => ?_)
              clear hK K'
              try simp only [Act.put, List.setIfInBounds_toArray, List.set_cons_zero, List.set_cons_succ]
              refine wpAnyH_ready (rs := [5]) (by kernel_rfl) (by simp) (AllReadyH.cons (o := ⟨some 102, .call { callee := .value (.func 12), args := #[.tmp 97, .tmp 98, .tmp 101], argTypes := #[26, 3, 28] }, _, _, _, none⟩) rfl (fun K' hK => ?_) AllReadyH.nil)
              go_simp
              (with_reducible refine (KP2.out _).mono ?_)
              rintro e v15b ⟨rfl, l1⟩
              replace b12 := b12.keep l1
              replace lw := Later.trans_ lw l1
              try replace bn := bn.keep l1
              refine hK.out _ _ (show World.rangeAt _ g12 0 q.cells from b12.range 0 14) (fun hHeld => ?_)
              clear hK K'
              try simp only [Act.put, List.setIfInBounds_toArray, List.set_cons_zero, List.set_cons_succ]
              refine wpAnyH_take (i := 6) (oi := ⟨some 96, .move (.tmp 102), _, _, _, none⟩) (v := (.tuple #[.agg q.cells.toArray, .int .u32 0, .int .i64 0])) rfl (by kernel_rfl) (by kernel_rfl) (by kernel_rfl) (fun _ _ _ h => h) (Or.inl ⟨by rfl, fun _ _ => rfl⟩) hHeld ?_
              simp only [Act.put, List.setIfInBounds_toArray, List.set_cons_zero, List.set_cons_succ]
              refine wpAnyH_take (i := 7) (oi := ⟨some 103, .extract (.tmp 96) 0, _, _, _, none⟩) (v := .agg q.cells.toArray) rfl (by kernel_rfl) (by kernel_rfl) (by kernel_rfl) (fun _ _ _ h => h) (Or.inl ⟨by rfl, fun w _ => by go_simp⟩) hHeld ?_
              simp only [Act.put, List.setIfInBounds_toArray, List.set_cons_zero, List.set_cons_succ]
              refine wpAnyH_take (i := 8) (oi := ⟨some 104, .extract (.tmp 96) 1, _, _, _, none⟩) (v := .int .u32 0) rfl (by kernel_rfl) (by kernel_rfl) (by kernel_rfl) (fun _ _ _ h => h) (Or.inl ⟨by rfl, fun w _ => by go_simp⟩) hHeld ?_
              simp only [Act.put, List.setIfInBounds_toArray, List.set_cons_zero, List.set_cons_succ]
              refine wpAnyH_take (i := 9) (oi := ⟨some 105, .extract (.tmp 96) 2, _, _, _, none⟩) (v := .int .i64 0) rfl (by kernel_rfl) (by kernel_rfl) (by kernel_rfl) (fun _ _ _ h => h) (Or.inl ⟨by rfl, fun w _ => by go_simp⟩) hHeld ?_
              simp only [Act.put, List.setIfInBounds_toArray, List.set_cons_zero, List.set_cons_succ]
              refine wpAnyH_ready (rs := [11]) (by kernel_rfl) (by simp) (AllReadyH.cons (o := ⟨none, .store 26 (.tmp 15) (.tmp 103), _, _, _, none⟩) rfl (fun K' hK => ?_) AllReadyH.nil)
              refine wp_store_blk 26 _ _ rfl wc.heap.size 26 zK.cells q.cells rfl rfl bn (ctl_sz _) rfl (ctl_one _) ?_
              intro wq2 bq oq
              replace b12 := b12.only oq nb12
              replace lw := Below.only lw oq m2
              clear bn
              have bn := bq
              clear bq oq
              refine hK.out _ _ (show World.rangeAt _ g12 0 q.cells from b12.range 0 14) (fun hHeld => ?_)
              clear hK K'
              try simp only [Act.put]
              refine wpAnyH_take (i := 12) (oi := ⟨some 16, .assign (.tmp 104), _, _, _, none⟩) (v := .int .u32 0) rfl (by kernel_rfl) (by kernel_rfl) (by kernel_rfl) (fun _ _ _ h => h) (Or.inl ⟨by rfl, fun _ _ => rfl⟩) hHeld ?_
              simp only [Act.put, List.setIfInBounds_toArray, List.set_cons_zero, List.set_cons_succ]
              refine wpAnyH_take (i := 13) (oi := ⟨some 17, .assign (.tmp 105), _, _, _, none⟩) (v := .int .i64 0) rfl (by kernel_rfl) (by kernel_rfl) (by kernel_rfl) (fun _ _ _ h => h) (Or.inl ⟨by rfl, fun _ _ => rfl⟩) hHeld ?_
              simp only [Act.put, List.setIfInBounds_toArray, List.set_cons_zero, List.set_cons_succ]
              refine wpAnyH_done (by kernel_rfl) ?_ _
              clear hHeld
              go_wp2
              go_meet
              exact ⟨_, rfl, rfl, bn, b12, lw⟩
          case rest =>
            clear b12 lw KP2
            obtain ⟨g15, rfl, rfl, b15, b12, lw⟩ := hcut
            go_wp2_with (first
              | (go_at_call 11; (with_reducible refine (KS.out _).mono ?_); rintro e w16 ⟨rfl, l16⟩; replace b12 := b12.keep l16; replace b15 := b15.keep l16; replace lw := Later.trans_ lw l16; have eq1 := b12.cell (ctl_r q ha4))
              | ((with_reducible refine wpList_load_g (o := ⟨some 126, .load 26 (.tmp 15), _, _, _, _⟩) _ _ rfl g15 26 q.cells _ ?_ ?_ ?_ Try.underlying26 ?_ (ctl_sz _) ?_); rfl; rfl; exact b15; rfl)
              | ((with_reducible refine wpList_load_g (o := ⟨some 127, .load 26 (.tmp 12), _, _, _, _⟩) _ _ rfl g12 26 q.cells _ ?_ ?_ ?_ Try.underlying26 ?_ (ctl_sz _) ?_); rfl; rfl; exact b12; rfl))
            go_ret
            exact ⟨rfl, lw⟩
      · clear hl
        obtain ⟨a, hA⟩ : ∃ a, a = (x.t 2).toNat := ⟨_, rfl⟩
        have hat : x.at 2 k = a := by rw [hA]; rfl
        have ha := HO.out.at4 (l := 2) (k := k) ⟨by decide, by decide⟩ hkn
        rw [hat] at ha
        obtain ⟨ha4, han⟩ := ha
        have hca : x.t 2 = (a : Int) := by rw [hA]; exact (HO.out.t4 (k := 2) (by decide)).2.1.symm
        have et := b4.cell (ctl_t x (k := 2) (by decide))
        rw [hca] at et
        clear hca
        have h5 := HO.out.r5 HW.out ha4
        have hyr : y.r a = orB (x.r a) 2 := by
          rw [HY.out, raise_in x k ⟨by decide, by decide⟩, hat]
          exact upd_at _ _ _
        have hob : bits .and .u32 (y.r a / bt 2) 1 = 1 := by rw [hyr]; exact or_bit h5 (by decide)
        rw [show bt 2 = 4 from rfl] at hob
        have hy5 : is5 (y.r a) := by rw [hyr]; exact or_5 h5 (by decide)
        have ha0 : (0 : Int) ≤ (a : Int) := by omega
        have ha4i : (a : Int) < 4 := by omega
        have KP1 := Lib.hid fun w' => (show Calls Try.prog 12 #[.agg y.cells.toArray, .int .i64 (a : Int), .agg #[.bool false, .int .i64 2, .int .u32 2]] w' fun e w'' => e = .returned (.tuple #[.agg (y.out a 2 2).cells.toArray, .int .u32 0, .int .i64 0]) ∧ Later w' w'' from port_any y a false 2 2 w' HYK.out.1 HYK.out.2 (by rw [HNY.out]; exact han) ⟨by decide, by decide⟩)
        have hqk := HYK.out.1.outed HYK.out.2 (k := a) (p := 2) (v := 2) (by rw [HNY.out]; exact han) ⟨by decide, by decide⟩
        have hqq : (y.out a 2 2).out a 2 2 = y.out a 2 2 := by
          show ({ y with r := upd (upd y.r a (anB (y.r a) 2)) a (anB (upd y.r a (anB (y.r a) 2) a) 2) } : Ctl) = _
          rw [upd_at, upd_upd, an_twice hy5 (by decide)]
          rfl
        have hqr : (y.out a 2 2).r a = anB (y.r a) 2 := upd_at _ _ _
        have hqb : bits .and .u32 ((y.out a 2 2).r a / bt 2) 1 = 0 := by rw [hqr]; exact an_bit hy5 (by decide)
        rw [show bt 2 = 4 from rfl] at hqb
        have hqn : (y.out a 2 2).n = x.n := HNY.out
        have KP2 := Lib.hid fun w' => (show Calls Try.prog 12 #[.agg (y.out a 2 2).cells.toArray, .int .i64 (a : Int), .agg #[.bool false, .int .i64 2, .int .u32 2]] w' fun e w'' => e = .returned (.tuple #[.agg ((y.out a 2 2).out a 2 2).cells.toArray, .int .u32 0, .int .i64 0]) ∧ Later w' w'' from port_any (y.out a 2 2) a false 2 2 w' hqk.1 hqk.2 (by rw [hqn]; exact han) ⟨by decide, by decide⟩)
        rw [hqq] at KP2
        obtain ⟨q, hq⟩ : ∃ q, q = y.out a 2 2 := ⟨_, rfl⟩
        rw [← hq] at KP1 KP2 hqb
        have hqs := ctl_same q
        have ey := b10.cell (ctl_r y ha4)
        clear hq hqq hqr hqn hqk hy5 hyr h5 hat hA
        go_upto_region 14 with fail
        clear ey hob et
        have hwu : IntKind.u32.wrap 2 = 2 := by decide
        go_cut [12, 14] (fun q12 q14 wx => ∃ g : Nat, q12 = .pointer (some ⟨g, 0, none⟩) ∧ q14 = .int .i64 0 ∧ Blk wx g 26 q.cells ∧ Later w wx)
        case first =>
          replace b10 := b10.drew
          replace lw := lw.drew
          refine wp_region_held_drew (S := fun w' => World.rangeAt w' w2.heap.size 0 y.cells) (by kernel_rfl) (show World.rangeAt _ w2.heap.size 0 y.cells from b10.range 0 14) (fun hHeld => ?_)
          refine wpAnyH_take (i := 0) (oi := ⟨some 87, .load 26 (.tmp 10), _, _, _, none⟩) (v := .agg y.cells.toArray) rfl (by kernel_rfl) (by kernel_rfl) (by kernel_rfl) (fun _ _ _ h => h) (yieldsIf_load_mid (by rfl) _ _ rfl _ _ rfl y.cells _ (fun w h => h) Try.underlying26 rfl (ctl_sz _)) hHeld ?_
          simp only [Act.put, List.setIfInBounds_toArray, List.set_cons_zero, List.set_cons_succ]
          refine wpAnyH_take (i := 1) (oi := ⟨some 88, .move (.tmp 11), _, _, _, none⟩) (v := .int .i64 (a : Int)) rfl (by kernel_rfl) (by kernel_rfl) (by kernel_rfl) (fun _ _ _ h => h) (Or.inl ⟨by rfl, fun _ _ => rfl⟩) hHeld ?_
          simp only [Act.put, List.setIfInBounds_toArray, List.set_cons_zero, List.set_cons_succ]
          refine wpAnyH_take (i := 2) (oi := ⟨some 89, .move (.tmp 1), _, _, _, none⟩) (v := .int .i64 2) rfl (by kernel_rfl) (by kernel_rfl) (by kernel_rfl) (fun _ _ _ h => h) (Or.inl ⟨by rfl, fun _ _ => rfl⟩) hHeld ?_
          simp only [Act.put, List.setIfInBounds_toArray, List.set_cons_zero, List.set_cons_succ]
          refine wpAnyH_take (i := 3) (oi := ⟨some 90, .convert 3 22 (.tmp 89), _, _, _, none⟩) (v := .int .u32 2) rfl (by kernel_rfl) (by kernel_rfl) (by kernel_rfl) (fun _ _ _ h => h) (Or.inl ⟨by rfl, fun w _ => by go_simp⟩) hHeld ?_
          simp only [Act.put, List.setIfInBounds_toArray, List.set_cons_zero, List.set_cons_succ]
          refine wpAnyH_ready (rs := [4, 10]) (by kernel_rfl) (by simp) (AllReadyH.cons (o := ⟨some 91, .call { callee := .value (.func 23), args := #[.const (.int .i64 2), .tmp 90], argTypes := #[3, 22] }, _, _, _, none⟩) rfl (fun K' hK => ?_) (AllReadyH.cons (o := ⟨some 12, .alloc 26, _, _, _, none⟩) rfl (fun K' hK => ?_) AllReadyH.nil))
          · go_simp
            (with_reducible refine (out_any 2 2 _).mono ?_)
            rintro e v14a ⟨rfl, l1⟩
            replace b10 := b10.keep l1
            replace lw := Later.trans_ lw l1
            try replace bn := bn.keep l1
            refine hK.out _ _ (show World.rangeAt _ w2.heap.size 0 y.cells from b10.range 0 14) (fun hHeld => ?_)
            clear hK K'
            try simp only [Act.put, List.setIfInBounds_toArray, List.set_cons_zero, List.set_cons_succ]
            refine wpAnyH_ready (rs := [5, 10]) (by kernel_rfl) (by simp) (AllReadyH.cons (o := ⟨some 92, .call { callee := .value (.func 12), args := #[.tmp 87, .tmp 88, .tmp 91], argTypes := #[26, 3, 28] }, _, _, _, none⟩) rfl (fun K' hK => ?_) (AllReadyH.cons (o := ⟨some 12, .alloc 26, _, _, _, none⟩) rfl (fun K' hK => ?_) AllReadyH.nil))
            · go_simp
              (with_reducible refine (KP1.out _).mono ?_)
              rintro e v14b ⟨rfl, l1⟩
              replace b10 := b10.keep l1
              replace lw := Later.trans_ lw l1
              try replace bn := bn.keep l1
              refine hK.out _ _ (show World.rangeAt _ w2.heap.size 0 y.cells from b10.range 0 14) (fun hHeld => ?_)
              clear hK K'
              try simp only [Act.put, List.setIfInBounds_toArray, List.set_cons_zero, List.set_cons_succ]
              refine wpAnyH_take (i := 6) (oi := ⟨some 86, .move (.tmp 92), _, _, _, none⟩) (v := (.tuple #[.agg q.cells.toArray, .int .u32 0, .int .i64 0])) rfl (by kernel_rfl) (by kernel_rfl) (by kernel_rfl) (fun _ _ _ h => h) (Or.inl ⟨by rfl, fun _ _ => rfl⟩) hHeld ?_
              simp only [Act.put, List.setIfInBounds_toArray, List.set_cons_zero, List.set_cons_succ]
              refine wpAnyH_take (i := 7) (oi := ⟨some 93, .extract (.tmp 86) 0, _, _, _, none⟩) (v := .agg q.cells.toArray) rfl (by kernel_rfl) (by kernel_rfl) (by kernel_rfl) (fun _ _ _ h => h) (Or.inl ⟨by rfl, fun w _ => by go_simp⟩) hHeld ?_
              simp only [Act.put, List.setIfInBounds_toArray, List.set_cons_zero, List.set_cons_succ]
              refine wpAnyH_take (i := 8) (oi := ⟨some 94, .extract (.tmp 86) 1, _, _, _, none⟩) (v := .int .u32 0) rfl (by kernel_rfl) (by kernel_rfl) (by kernel_rfl) (fun _ _ _ h => h) (Or.inl ⟨by rfl, fun w _ => by go_simp⟩) hHeld ?_
              simp only [Act.put, List.setIfInBounds_toArray, List.set_cons_zero, List.set_cons_succ]
              refine wpAnyH_take (i := 9) (oi := ⟨some 95, .extract (.tmp 86) 2, _, _, _, none⟩) (v := .int .i64 0) rfl (by kernel_rfl) (by kernel_rfl) (by kernel_rfl) (fun _ _ _ h => h) (Or.inl ⟨by rfl, fun w _ => by go_simp⟩) hHeld ?_
              simp only [Act.put, List.setIfInBounds_toArray, List.set_cons_zero, List.set_cons_succ]
              refine wpAnyH_ready (rs := [10]) (by kernel_rfl) (by simp) (AllReadyH.cons (o := ⟨some 12, .alloc 26, _, _, _, none⟩) rfl (fun K' hK => ?_) AllReadyH.nil)
              go_simp
              have nb10 := Nat.ne_of_lt b10.lt
              have m2 := lw.size
              have bn := Blk.new v14b 26 zK.cells.toArray zK.cells rfl
              replace b10 := b10.alloc (.cells zK.cells.toArray 26)
              replace lw := lw.alloc m2 (.cells zK.cells.toArray 26)
              refine hK.out _ _ (show World.rangeAt _ w2.heap.size 0 y.cells from b10.range 0 14) (fun hHeld => ?_)
              clear hK K'
              try simp only [Act.put, List.setIfInBounds_toArray, List.set_cons_zero, List.set_cons_succ]
              refine wpAnyH_ready (rs := [11]) (by kernel_rfl) (by simp) (AllReadyH.cons (o := ⟨none, .store 26 (.tmp 12) (.tmp 93), _, _, _, none⟩) rfl (fun K' hK => ?_) AllReadyH.nil)
              refine wp_store_blk 26 _ _ rfl v14b.heap.size 26 zK.cells q.cells rfl rfl bn (ctl_sz _) rfl (ctl_one _) ?_
              intro wq2 bq oq
              replace b10 := b10.only oq nb10
              replace lw := Below.only lw oq m2
              clear bn
              have bn := bq
              clear bq oq
              refine hK.out _ _ (show World.rangeAt _ w2.heap.size 0 y.cells from b10.range 0 14) (fun hHeld => ?_)
              clear hK K'
              try simp only [Act.put]
              refine wpAnyH_take (i := 12) (oi := ⟨some 13, .assign (.tmp 94), _, _, _, none⟩) (v := .int .u32 0) rfl (by kernel_rfl) (by kernel_rfl) (by kernel_rfl) (fun _ _ _ h => h) (Or.inl ⟨by rfl, fun _ _ => rfl⟩) hHeld ?_
              simp only [Act.put, List.setIfInBounds_toArray, List.set_cons_zero, List.set_cons_succ]
              refine wpAnyH_take (i := 13) (oi := ⟨some 14, .assign (.tmp 95), _, _, _, none⟩) (v := .int .i64 0) rfl (by kernel_rfl) (by kernel_rfl) (by kernel_rfl) (fun _ _ _ h => h) (Or.inl ⟨by rfl, fun _ _ => rfl⟩) hHeld ?_
              simp only [Act.put, List.setIfInBounds_toArray, List.set_cons_zero, List.set_cons_succ]
              refine wpAnyH_done (by kernel_rfl) ?_ _
              clear hHeld
              go_wp2
              go_meet
              exact ⟨_, rfl, rfl, bn, lw⟩
            · go_simp
              have nb10 := Nat.ne_of_lt b10.lt
              have m2 := lw.size
              have bn := Blk.new v14a 26 zK.cells.toArray zK.cells rfl
              replace b10 := b10.alloc (.cells zK.cells.toArray 26)
              replace lw := lw.alloc m2 (.cells zK.cells.toArray 26)
              refine hK.out _ _ (show World.rangeAt _ w2.heap.size 0 y.cells from b10.range 0 14) (fun hHeld => ?_)
              clear hK K'
              try simp only [Act.put, List.setIfInBounds_toArray, List.set_cons_zero, List.set_cons_succ]
              refine wpAnyH_ready (rs := [5]) (by kernel_rfl) (by simp) (AllReadyH.cons (o := ⟨some 92, .call { callee := .value (.func 12), args := #[.tmp 87, .tmp 88, .tmp 91], argTypes := #[26, 3, 28] }, _, _, _, none⟩) rfl (fun K' hK => ?_) AllReadyH.nil)
              go_simp
              (with_reducible refine (KP1.out _).mono ?_)
              rintro e v14b ⟨rfl, l1⟩
              replace b10 := b10.keep l1
              replace lw := Later.trans_ lw l1
              try replace bn := bn.keep l1
              refine hK.out _ _ (show World.rangeAt _ w2.heap.size 0 y.cells from b10.range 0 14) (fun hHeld => ?_)
              clear hK K'
              try simp only [Act.put, List.setIfInBounds_toArray, List.set_cons_zero, List.set_cons_succ]
              refine wpAnyH_take (i := 6) (oi := ⟨some 86, .move (.tmp 92), _, _, _, none⟩) (v := (.tuple #[.agg q.cells.toArray, .int .u32 0, .int .i64 0])) rfl (by kernel_rfl) (by kernel_rfl) (by kernel_rfl) (fun _ _ _ h => h) (Or.inl ⟨by rfl, fun _ _ => rfl⟩) hHeld ?_
              simp only [Act.put, List.setIfInBounds_toArray, List.set_cons_zero, List.set_cons_succ]
              refine wpAnyH_take (i := 7) (oi := ⟨some 93, .extract (.tmp 86) 0, _, _, _, none⟩) (v := .agg q.cells.toArray) rfl (by kernel_rfl) (by kernel_rfl) (by kernel_rfl) (fun _ _ _ h => h) (Or.inl ⟨by rfl, fun w _ => by go_simp⟩) hHeld ?_
              simp only [Act.put, List.setIfInBounds_toArray, List.set_cons_zero, List.set_cons_succ]
              refine wpAnyH_take (i := 8) (oi := ⟨some 94, .extract (.tmp 86) 1, _, _, _, none⟩) (v := .int .u32 0) rfl (by kernel_rfl) (by kernel_rfl) (by kernel_rfl) (fun _ _ _ h => h) (Or.inl ⟨by rfl, fun w _ => by go_simp⟩) hHeld ?_
              simp only [Act.put, List.setIfInBounds_toArray, List.set_cons_zero, List.set_cons_succ]
              refine wpAnyH_take (i := 9) (oi := ⟨some 95, .extract (.tmp 86) 2, _, _, _, none⟩) (v := .int .i64 0) rfl (by kernel_rfl) (by kernel_rfl) (by kernel_rfl) (fun _ _ _ h => h) (Or.inl ⟨by rfl, fun w _ => by go_simp⟩) hHeld ?_
              simp only [Act.put, List.setIfInBounds_toArray, List.set_cons_zero, List.set_cons_succ]
              refine wpAnyH_ready (rs := [11]) (by kernel_rfl) (by simp) (AllReadyH.cons (o := ⟨none, .store 26 (.tmp 12) (.tmp 93), _, _, _, none⟩) rfl (fun K' hK => ?_) AllReadyH.nil)
              refine wp_store_blk 26 _ _ rfl v14a.heap.size 26 zK.cells q.cells rfl rfl bn (ctl_sz _) rfl (ctl_one _) ?_
              intro wq2 bq oq
              replace b10 := b10.only oq nb10
              replace lw := Below.only lw oq m2
              clear bn
              have bn := bq
              clear bq oq
              refine hK.out _ _ (show World.rangeAt _ w2.heap.size 0 y.cells from b10.range 0 14) (fun hHeld => ?_)
              clear hK K'
              try simp only [Act.put]
              refine wpAnyH_take (i := 12) (oi := ⟨some 13, .assign (.tmp 94), _, _, _, none⟩) (v := .int .u32 0) rfl (by kernel_rfl) (by kernel_rfl) (by kernel_rfl) (fun _ _ _ h => h) (Or.inl ⟨by rfl, fun _ _ => rfl⟩) hHeld ?_
              simp only [Act.put, List.setIfInBounds_toArray, List.set_cons_zero, List.set_cons_succ]
              refine wpAnyH_take (i := 13) (oi := ⟨some 14, .assign (.tmp 95), _, _, _, none⟩) (v := .int .i64 0) rfl (by kernel_rfl) (by kernel_rfl) (by kernel_rfl) (fun _ _ _ h => h) (Or.inl ⟨by rfl, fun _ _ => rfl⟩) hHeld ?_
              simp only [Act.put, List.setIfInBounds_toArray, List.set_cons_zero, List.set_cons_succ]
              refine wpAnyH_done (by kernel_rfl) ?_ _
              clear hHeld
              go_wp2
              go_meet
              exact ⟨_, rfl, rfl, bn, lw⟩
          · go_simp
            have nb10 := Nat.ne_of_lt b10.lt
            have m2 := lw.size
            have bn := Blk.new v6.drew 26 zK.cells.toArray zK.cells rfl
            replace b10 := b10.alloc (.cells zK.cells.toArray 26)
            replace lw := lw.alloc m2 (.cells zK.cells.toArray 26)
            refine hK.out _ _ (show World.rangeAt _ w2.heap.size 0 y.cells from b10.range 0 14) (fun hHeld => ?_)
            clear hK K'
            try simp only [Act.put, List.setIfInBounds_toArray, List.set_cons_zero, List.set_cons_succ]
            refine wpAnyH_ready (rs := [4]) (by kernel_rfl) (by simp) (AllReadyH.cons (o := ⟨some 91, .call { callee := .value (.func 23), args := #[.const (.int .i64 2), .tmp 90], argTypes := #[3, 22] }, _, _, _, none⟩) rfl (fun K' hK => ?_) AllReadyH.nil)
            go_simp
            (with_reducible refine (out_any 2 2 _).mono ?_)
            rintro e v14a ⟨rfl, l1⟩
            replace b10 := b10.keep l1
            replace lw := Later.trans_ lw l1
            try replace bn := bn.keep l1
            refine hK.out _ _ (show World.rangeAt _ w2.heap.size 0 y.cells from b10.range 0 14) (fun hHeld => ?_)
            clear hK K'
            try simp only [Act.put, List.setIfInBounds_toArray, List.set_cons_zero, List.set_cons_succ]
            refine wpAnyH_ready (rs := [5]) (by kernel_rfl) (by simp) (AllReadyH.cons (o := ⟨some 92, .call { callee := .value (.func 12), args := #[.tmp 87, .tmp 88, .tmp 91], argTypes := #[26, 3, 28] }, _, _, _, none⟩) rfl (fun K' hK => ?_) AllReadyH.nil)
            go_simp
            (with_reducible refine (KP1.out _).mono ?_)
            rintro e v14b ⟨rfl, l1⟩
            replace b10 := b10.keep l1
            replace lw := Later.trans_ lw l1
            try replace bn := bn.keep l1
            refine hK.out _ _ (show World.rangeAt _ w2.heap.size 0 y.cells from b10.range 0 14) (fun hHeld => ?_)
            clear hK K'
            try simp only [Act.put, List.setIfInBounds_toArray, List.set_cons_zero, List.set_cons_succ]
            refine wpAnyH_take (i := 6) (oi := ⟨some 86, .move (.tmp 92), _, _, _, none⟩) (v := (.tuple #[.agg q.cells.toArray, .int .u32 0, .int .i64 0])) rfl (by kernel_rfl) (by kernel_rfl) (by kernel_rfl) (fun _ _ _ h => h) (Or.inl ⟨by rfl, fun _ _ => rfl⟩) hHeld ?_
            simp only [Act.put, List.setIfInBounds_toArray, List.set_cons_zero, List.set_cons_succ]
            refine wpAnyH_take (i := 7) (oi := ⟨some 93, .extract (.tmp 86) 0, _, _, _, none⟩) (v := .agg q.cells.toArray) rfl (by kernel_rfl) (by kernel_rfl) (by kernel_rfl) (fun _ _ _ h => h) (Or.inl ⟨by rfl, fun w _ => by go_simp⟩) hHeld ?_
            simp only [Act.put, List.setIfInBounds_toArray, List.set_cons_zero, List.set_cons_succ]
            refine wpAnyH_take (i := 8) (oi := ⟨some 94, .extract (.tmp 86) 1, _, _, _, none⟩) (v := .int .u32 0) rfl (by kernel_rfl) (by kernel_rfl) (by kernel_rfl) (fun _ _ _ h => h) (Or.inl ⟨by rfl, fun w _ => by go_simp⟩) hHeld ?_
            simp only [Act.put, List.setIfInBounds_toArray, List.set_cons_zero, List.set_cons_succ]
            refine wpAnyH_take (i := 9) (oi := ⟨some 95, .extract (.tmp 86) 2, _, _, _, none⟩) (v := .int .i64 0) rfl (by kernel_rfl) (by kernel_rfl) (by kernel_rfl) (fun _ _ _ h => h) (Or.inl ⟨by rfl, fun w _ => by go_simp⟩) hHeld ?_
            simp only [Act.put, List.setIfInBounds_toArray, List.set_cons_zero, List.set_cons_succ]
            refine wpAnyH_ready (rs := [11]) (by kernel_rfl) (by simp) (AllReadyH.cons (o := ⟨none, .store 26 (.tmp 12) (.tmp 93), _, _, _, none⟩) rfl (fun K' hK => ?_) AllReadyH.nil)
            refine wp_store_blk 26 _ _ rfl v6.heap.size 26 zK.cells q.cells rfl rfl bn (ctl_sz _) rfl (ctl_one _) ?_
            intro wq2 bq oq
            replace b10 := b10.only oq nb10
            replace lw := Below.only lw oq m2
            clear bn
            have bn := bq
            clear bq oq
            refine hK.out _ _ (show World.rangeAt _ w2.heap.size 0 y.cells from b10.range 0 14) (fun hHeld => ?_)
            clear hK K'
            try simp only [Act.put]
            refine wpAnyH_take (i := 12) (oi := ⟨some 13, .assign (.tmp 94), _, _, _, none⟩) (v := .int .u32 0) rfl (by kernel_rfl) (by kernel_rfl) (by kernel_rfl) (fun _ _ _ h => h) (Or.inl ⟨by rfl, fun _ _ => rfl⟩) hHeld ?_
            simp only [Act.put, List.setIfInBounds_toArray, List.set_cons_zero, List.set_cons_succ]
            refine wpAnyH_take (i := 13) (oi := ⟨some 14, .assign (.tmp 95), _, _, _, none⟩) (v := .int .i64 0) rfl (by kernel_rfl) (by kernel_rfl) (by kernel_rfl) (fun _ _ _ h => h) (Or.inl ⟨by rfl, fun _ _ => rfl⟩) hHeld ?_
            simp only [Act.put, List.setIfInBounds_toArray, List.set_cons_zero, List.set_cons_succ]
            refine wpAnyH_done (by kernel_rfl) ?_ _
            clear hHeld
            go_wp2
            go_meet
            exact ⟨_, rfl, rfl, bn, lw⟩
        case rest =>
          clear b10 b4 lw KP1
          obtain ⟨g12, rfl, rfl, b12, lw⟩ := hcut
          go_upto_region 15 with fail
          go_cut [15, 17] (fun q15 q17 wx => ∃ g : Nat, q15 = .pointer (some ⟨g, 0, none⟩) ∧ q17 = .int .i64 0 ∧ Blk wx g 26 q.cells ∧ Blk wx g12 26 q.cells ∧ Later w wx)
          case first =>
            replace b12 := b12.drew
            replace lw := lw.drew
            refine wp_region_held_drew (S := fun w' => World.rangeAt w' g12 0 q.cells) (by kernel_rfl) (show World.rangeAt _ g12 0 q.cells from b12.range 0 14) (fun hHeld => ?_)
            refine wpAnyH_take (i := 0) (oi := ⟨some 97, .load 26 (.tmp 12), _, _, _, none⟩) (v := .agg q.cells.toArray) rfl (by kernel_rfl) (by kernel_rfl) (by kernel_rfl) (fun _ _ _ h => h) (yieldsIf_load_mid (by rfl) _ _ rfl _ _ rfl q.cells _ (fun w h => h) Try.underlying26 rfl (ctl_sz _)) hHeld ?_
            simp only [Act.put, List.setIfInBounds_toArray, List.set_cons_zero, List.set_cons_succ]
            refine wpAnyH_take (i := 1) (oi := ⟨some 98, .move (.tmp 11), _, _, _, none⟩) (v := .int .i64 (a : Int)) rfl (by kernel_rfl) (by kernel_rfl) (by kernel_rfl) (fun _ _ _ h => h) (Or.inl ⟨by rfl, fun _ _ => rfl⟩) hHeld ?_
            simp only [Act.put, List.setIfInBounds_toArray, List.set_cons_zero, List.set_cons_succ]
            refine wpAnyH_take (i := 2) (oi := ⟨some 99, .move (.tmp 1), _, _, _, none⟩) (v := .int .i64 2) rfl (by kernel_rfl) (by kernel_rfl) (by kernel_rfl) (fun _ _ _ h => h) (Or.inl ⟨by rfl, fun _ _ => rfl⟩) hHeld ?_
            simp only [Act.put, List.setIfInBounds_toArray, List.set_cons_zero, List.set_cons_succ]
            refine wpAnyH_take (i := 3) (oi := ⟨some 100, .convert 3 22 (.tmp 99), _, _, _, none⟩) (v := .int .u32 2) rfl (by kernel_rfl) (by kernel_rfl) (by kernel_rfl) (fun _ _ _ h => h) (Or.inl ⟨by rfl, fun w _ => by go_simp⟩) hHeld ?_
            simp only [Act.put, List.setIfInBounds_toArray, List.set_cons_zero, List.set_cons_succ]
            refine wpAnyH_ready (rs := [4, 10]) (by kernel_rfl) (by simp) (AllReadyH.cons (o := ⟨some 101, .call { callee := .value (.func 23), args := #[.const (.int .i64 2), .tmp 100], argTypes := #[3, 22] }, _, _, _, none⟩) rfl (fun K' hK => ?_) (AllReadyH.cons (o := ⟨some 15, .alloc 26, _, _, _, none⟩) rfl (fun K' hK => ?_) AllReadyH.nil))
            · go_simp
              (with_reducible refine (out_any 2 2 _).mono ?_)
              rintro e v15a ⟨rfl, l1⟩
              replace b12 := b12.keep l1
              replace lw := Later.trans_ lw l1
              try replace bn := bn.keep l1
              refine hK.out _ _ (show World.rangeAt _ g12 0 q.cells from b12.range 0 14) (fun hHeld => ?_)
              clear hK K'
              try simp only [Act.put, List.setIfInBounds_toArray, List.set_cons_zero, List.set_cons_succ]
              refine wpAnyH_ready (rs := [5, 10]) (by kernel_rfl) (by simp) (AllReadyH.cons (o := ⟨some 102, .call { callee := .value (.func 12), args := #[.tmp 97, .tmp 98, .tmp 101], argTypes := #[26, 3, 28] }, _, _, _, none⟩) rfl (fun K' hK => ?_) (AllReadyH.cons (o := ⟨some 15, .alloc 26, _, _, _, none⟩) rfl (fun K' hK => ?_) AllReadyH.nil))
              · go_simp
                (with_reducible refine (KP2.out _).mono ?_)
                rintro e v15b ⟨rfl, l1⟩
                replace b12 := b12.keep l1
                replace lw := Later.trans_ lw l1
                try replace bn := bn.keep l1
                refine hK.out _ _ (show World.rangeAt _ g12 0 q.cells from b12.range 0 14) (fun hHeld => ?_)
                clear hK K'
                try simp only [Act.put, List.setIfInBounds_toArray, List.set_cons_zero, List.set_cons_succ]
                refine wpAnyH_take (i := 6) (oi := ⟨some 96, .move (.tmp 102), _, _, _, none⟩) (v := (.tuple #[.agg q.cells.toArray, .int .u32 0, .int .i64 0])) rfl (by kernel_rfl) (by kernel_rfl) (by kernel_rfl) (fun _ _ _ h => h) (Or.inl ⟨by rfl, fun _ _ => rfl⟩) hHeld ?_
                simp only [Act.put, List.setIfInBounds_toArray, List.set_cons_zero, List.set_cons_succ]
                refine wpAnyH_take (i := 7) (oi := ⟨some 103, .extract (.tmp 96) 0, _, _, _, none⟩) (v := .agg q.cells.toArray) rfl (by kernel_rfl) (by kernel_rfl) (by kernel_rfl) (fun _ _ _ h => h) (Or.inl ⟨by rfl, fun w _ => by go_simp⟩) hHeld ?_
                simp only [Act.put, List.setIfInBounds_toArray, List.set_cons_zero, List.set_cons_succ]
                refine wpAnyH_take (i := 8) (oi := ⟨some 104, .extract (.tmp 96) 1, _, _, _, none⟩) (v := .int .u32 0) rfl (by kernel_rfl) (by kernel_rfl) (by kernel_rfl) (fun _ _ _ h => h) (Or.inl ⟨by rfl, fun w _ => by go_simp⟩) hHeld ?_
                simp only [Act.put, List.setIfInBounds_toArray, List.set_cons_zero, List.set_cons_succ]
                refine wpAnyH_take (i := 9) (oi := ⟨some 105, .extract (.tmp 96) 2, _, _, _, none⟩) (v := .int .i64 0) rfl (by kernel_rfl) (by kernel_rfl) (by kernel_rfl) (fun _ _ _ h => h) (Or.inl ⟨by rfl, fun w _ => by go_simp⟩) hHeld ?_
                simp only [Act.put, List.setIfInBounds_toArray, List.set_cons_zero, List.set_cons_succ]
                refine wpAnyH_ready (rs := [10]) (by kernel_rfl) (by simp) (AllReadyH.cons (o := ⟨some 15, .alloc 26, _, _, _, none⟩) rfl (fun K' hK => ?_) AllReadyH.nil)
                go_simp
                have nb12 := Nat.ne_of_lt b12.lt
                have m2 := lw.size
                have bn := Blk.new v15b 26 zK.cells.toArray zK.cells rfl
                replace b12 := b12.alloc (.cells zK.cells.toArray 26)
                replace lw := lw.alloc m2 (.cells zK.cells.toArray 26)
                refine hK.out _ _ (show World.rangeAt _ g12 0 q.cells from b12.range 0 14) (fun hHeld => ?_)
                clear hK K'
                try simp only [Act.put, List.setIfInBounds_toArray, List.set_cons_zero, List.set_cons_succ]
                refine wpAnyH_ready (rs := [11]) (by kernel_rfl) (by simp) (AllReadyH.cons (o := ⟨none, .store 26 (.tmp 15) (.tmp 103), _, _, _, none⟩) rfl (fun K' hK => ?_) AllReadyH.nil)
                refine wp_store_blk 26 _ _ rfl v15b.heap.size 26 zK.cells q.cells rfl rfl bn (ctl_sz _) rfl (ctl_one _) ?_
                intro wq2 bq oq
                replace b12 := b12.only oq nb12
                replace lw := Below.only lw oq m2
                clear bn
                have bn := bq
                clear bq oq
                refine hK.out _ _ (show World.rangeAt _ g12 0 q.cells from b12.range 0 14) (fun hHeld => ?_)
                clear hK K'
                try simp only [Act.put]
                refine wpAnyH_take (i := 12) (oi := ⟨some 16, .assign (.tmp 104), _, _, _, none⟩) (v := .int .u32 0) rfl (by kernel_rfl) (by kernel_rfl) (by kernel_rfl) (fun _ _ _ h => h) (Or.inl ⟨by rfl, fun _ _ => rfl⟩) hHeld ?_
                simp only [Act.put, List.setIfInBounds_toArray, List.set_cons_zero, List.set_cons_succ]
                refine wpAnyH_take (i := 13) (oi := ⟨some 17, .assign (.tmp 105), _, _, _, none⟩) (v := .int .i64 0) rfl (by kernel_rfl) (by kernel_rfl) (by kernel_rfl) (fun _ _ _ h => h) (Or.inl ⟨by rfl, fun _ _ => rfl⟩) hHeld ?_
                simp only [Act.put, List.setIfInBounds_toArray, List.set_cons_zero, List.set_cons_succ]
                refine wpAnyH_done (by kernel_rfl) ?_ _
                clear hHeld
                go_wp2
                go_meet
                exact ⟨_, rfl, rfl, bn, b12, lw⟩
              · go_simp
                have nb12 := Nat.ne_of_lt b12.lt
                have m2 := lw.size
                have bn := Blk.new v15a 26 zK.cells.toArray zK.cells rfl
                replace b12 := b12.alloc (.cells zK.cells.toArray 26)
                replace lw := lw.alloc m2 (.cells zK.cells.toArray 26)
                refine hK.out _ _ (show World.rangeAt _ g12 0 q.cells from b12.range 0 14) (fun hHeld => ?_)
                clear hK K'
                try simp only [Act.put, List.setIfInBounds_toArray, List.set_cons_zero, List.set_cons_succ]
                refine wpAnyH_ready (rs := [5]) (by kernel_rfl) (by simp) (AllReadyH.cons (o := ⟨some 102, .call { callee := .value (.func 12), args := #[.tmp 97, .tmp 98, .tmp 101], argTypes := #[26, 3, 28] }, _, _, _, none⟩) rfl (fun K' hK => ?_) AllReadyH.nil)
                go_simp
                (with_reducible refine (KP2.out _).mono ?_)
                rintro e v15b ⟨rfl, l1⟩
                replace b12 := b12.keep l1
                replace lw := Later.trans_ lw l1
                try replace bn := bn.keep l1
                refine hK.out _ _ (show World.rangeAt _ g12 0 q.cells from b12.range 0 14) (fun hHeld => ?_)
                clear hK K'
                try simp only [Act.put, List.setIfInBounds_toArray, List.set_cons_zero, List.set_cons_succ]
                refine wpAnyH_take (i := 6) (oi := ⟨some 96, .move (.tmp 102), _, _, _, none⟩) (v := (.tuple #[.agg q.cells.toArray, .int .u32 0, .int .i64 0])) rfl (by kernel_rfl) (by kernel_rfl) (by kernel_rfl) (fun _ _ _ h => h) (Or.inl ⟨by rfl, fun _ _ => rfl⟩) hHeld ?_
                simp only [Act.put, List.setIfInBounds_toArray, List.set_cons_zero, List.set_cons_succ]
                refine wpAnyH_take (i := 7) (oi := ⟨some 103, .extract (.tmp 96) 0, _, _, _, none⟩) (v := .agg q.cells.toArray) rfl (by kernel_rfl) (by kernel_rfl) (by kernel_rfl) (fun _ _ _ h => h) (Or.inl ⟨by rfl, fun w _ => by go_simp⟩) hHeld ?_
                simp only [Act.put, List.setIfInBounds_toArray, List.set_cons_zero, List.set_cons_succ]
                refine wpAnyH_take (i := 8) (oi := ⟨some 104, .extract (.tmp 96) 1, _, _, _, none⟩) (v := .int .u32 0) rfl (by kernel_rfl) (by kernel_rfl) (by kernel_rfl) (fun _ _ _ h => h) (Or.inl ⟨by rfl, fun w _ => by go_simp⟩) hHeld ?_
                simp only [Act.put, List.setIfInBounds_toArray, List.set_cons_zero, List.set_cons_succ]
                refine wpAnyH_take (i := 9) (oi := ⟨some 105, .extract (.tmp 96) 2, _, _, _, none⟩) (v := .int .i64 0) rfl (by kernel_rfl) (by kernel_rfl) (by kernel_rfl) (fun _ _ _ h => h) (Or.inl ⟨by rfl, fun w _ => by go_simp⟩) hHeld ?_
                simp only [Act.put, List.setIfInBounds_toArray, List.set_cons_zero, List.set_cons_succ]
                refine wpAnyH_ready (rs := [11]) (by kernel_rfl) (by simp) (AllReadyH.cons (o := ⟨none, .store 26 (.tmp 15) (.tmp 103), _, _, _, none⟩) rfl (fun K' hK => ?_) AllReadyH.nil)
                refine wp_store_blk 26 _ _ rfl v15a.heap.size 26 zK.cells q.cells rfl rfl bn (ctl_sz _) rfl (ctl_one _) ?_
                intro wq2 bq oq
                replace b12 := b12.only oq nb12
                replace lw := Below.only lw oq m2
                clear bn
                have bn := bq
                clear bq oq
                refine hK.out _ _ (show World.rangeAt _ g12 0 q.cells from b12.range 0 14) (fun hHeld => ?_)
                clear hK K'
                try simp only [Act.put]
                refine wpAnyH_take (i := 12) (oi := ⟨some 16, .assign (.tmp 104), _, _, _, none⟩) (v := .int .u32 0) rfl (by kernel_rfl) (by kernel_rfl) (by kernel_rfl) (fun _ _ _ h => h) (Or.inl ⟨by rfl, fun _ _ => rfl⟩) hHeld ?_
                simp only [Act.put, List.setIfInBounds_toArray, List.set_cons_zero, List.set_cons_succ]
                refine wpAnyH_take (i := 13) (oi := ⟨some 17, .assign (.tmp 105), _, _, _, none⟩) (v := .int .i64 0) rfl (by kernel_rfl) (by kernel_rfl) (by kernel_rfl) (fun _ _ _ h => h) (Or.inl ⟨by rfl, fun _ _ => rfl⟩) hHeld ?_
                simp only [Act.put, List.setIfInBounds_toArray, List.set_cons_zero, List.set_cons_succ]
                refine wpAnyH_done (by kernel_rfl) ?_ _
                clear hHeld
                go_wp2
                go_meet
                exact ⟨_, rfl, rfl, bn, b12, lw⟩
            · go_simp
              have nb12 := Nat.ne_of_lt b12.lt
              have m2 := lw.size
              have bn := Blk.new wc.drew 26 zK.cells.toArray zK.cells rfl
              replace b12 := b12.alloc (.cells zK.cells.toArray 26)
              replace lw := lw.alloc m2 (.cells zK.cells.toArray 26)
              refine hK.out _ _ (show World.rangeAt _ g12 0 q.cells from b12.range 0 14) (fun hHeld => ?_)
              clear hK K'
              try simp only [Act.put, List.setIfInBounds_toArray, List.set_cons_zero, List.set_cons_succ]
              refine wpAnyH_ready (rs := [4]) (by kernel_rfl) (by simp) (AllReadyH.cons (o := ⟨some 101, .call { callee := .value (.func 23), args := #[.const (.int .i64 2), .tmp 100], argTypes := #[3, 22] }, _, _, _, none⟩) rfl (fun K' hK => ?_) AllReadyH.nil)
              go_simp
              (with_reducible refine (out_any 2 2 _).mono ?_)
              rintro e v15a ⟨rfl, l1⟩
              replace b12 := b12.keep l1
              replace lw := Later.trans_ lw l1
              try replace bn := bn.keep l1
              refine hK.out _ _ (show World.rangeAt _ g12 0 q.cells from b12.range 0 14) (fun hHeld => ?_)
              clear hK K'
              try simp only [Act.put, List.setIfInBounds_toArray, List.set_cons_zero, List.set_cons_succ]
              refine wpAnyH_ready (rs := [5]) (by kernel_rfl) (by simp) (AllReadyH.cons (o := ⟨some 102, .call { callee := .value (.func 12), args := #[.tmp 97, .tmp 98, .tmp 101], argTypes := #[26, 3, 28] }, _, _, _, none⟩) rfl (fun K' hK => ?_) AllReadyH.nil)
              go_simp
              (with_reducible refine (KP2.out _).mono ?_)
              rintro e v15b ⟨rfl, l1⟩
              replace b12 := b12.keep l1
              replace lw := Later.trans_ lw l1
              try replace bn := bn.keep l1
              refine hK.out _ _ (show World.rangeAt _ g12 0 q.cells from b12.range 0 14) (fun hHeld => ?_)
              clear hK K'
              try simp only [Act.put, List.setIfInBounds_toArray, List.set_cons_zero, List.set_cons_succ]
              refine wpAnyH_take (i := 6) (oi := ⟨some 96, .move (.tmp 102), _, _, _, none⟩) (v := (.tuple #[.agg q.cells.toArray, .int .u32 0, .int .i64 0])) rfl (by kernel_rfl) (by kernel_rfl) (by kernel_rfl) (fun _ _ _ h => h) (Or.inl ⟨by rfl, fun _ _ => rfl⟩) hHeld ?_
              simp only [Act.put, List.setIfInBounds_toArray, List.set_cons_zero, List.set_cons_succ]
              refine wpAnyH_take (i := 7) (oi := ⟨some 103, .extract (.tmp 96) 0, _, _, _, none⟩) (v := .agg q.cells.toArray) rfl (by kernel_rfl) (by kernel_rfl) (by kernel_rfl) (fun _ _ _ h => h) (Or.inl ⟨by rfl, fun w _ => by go_simp⟩) hHeld ?_
              simp only [Act.put, List.setIfInBounds_toArray, List.set_cons_zero, List.set_cons_succ]
              refine wpAnyH_take (i := 8) (oi := ⟨some 104, .extract (.tmp 96) 1, _, _, _, none⟩) (v := .int .u32 0) rfl (by kernel_rfl) (by kernel_rfl) (by kernel_rfl) (fun _ _ _ h => h) (Or.inl ⟨by rfl, fun w _ => by go_simp⟩) hHeld ?_
              simp only [Act.put, List.setIfInBounds_toArray, List.set_cons_zero, List.set_cons_succ]
              refine wpAnyH_take (i := 9) (oi := ⟨some 105, .extract (.tmp 96) 2, _, _, _, none⟩) (v := .int .i64 0) rfl (by kernel_rfl) (by kernel_rfl) (by kernel_rfl) (fun _ _ _ h => h) (Or.inl ⟨by rfl, fun w _ => by go_simp⟩) hHeld ?_
              simp only [Act.put, List.setIfInBounds_toArray, List.set_cons_zero, List.set_cons_succ]
              refine wpAnyH_ready (rs := [11]) (by kernel_rfl) (by simp) (AllReadyH.cons (o := ⟨none, .store 26 (.tmp 15) (.tmp 103), _, _, _, none⟩) rfl (fun K' hK => ?_) AllReadyH.nil)
              refine wp_store_blk 26 _ _ rfl wc.heap.size 26 zK.cells q.cells rfl rfl bn (ctl_sz _) rfl (ctl_one _) ?_
              intro wq2 bq oq
              replace b12 := b12.only oq nb12
              replace lw := Below.only lw oq m2
              clear bn
              have bn := bq
              clear bq oq
              refine hK.out _ _ (show World.rangeAt _ g12 0 q.cells from b12.range 0 14) (fun hHeld => ?_)
              clear hK K'
              try simp only [Act.put]
              refine wpAnyH_take (i := 12) (oi := ⟨some 16, .assign (.tmp 104), _, _, _, none⟩) (v := .int .u32 0) rfl (by kernel_rfl) (by kernel_rfl) (by kernel_rfl) (fun _ _ _ h => h) (Or.inl ⟨by rfl, fun _ _ => rfl⟩) hHeld ?_
              simp only [Act.put, List.setIfInBounds_toArray, List.set_cons_zero, List.set_cons_succ]
              refine wpAnyH_take (i := 13) (oi := ⟨some 17, .assign (.tmp 105), _, _, _, none⟩) (v := .int .i64 0) rfl (by kernel_rfl) (by kernel_rfl) (by kernel_rfl) (fun _ _ _ h => h) (Or.inl ⟨by rfl, fun _ _ => rfl⟩) hHeld ?_
              simp only [Act.put, List.setIfInBounds_toArray, List.set_cons_zero, List.set_cons_succ]
              refine wpAnyH_done (by kernel_rfl) ?_ _
              clear hHeld
              go_wp2
              go_meet
              exact ⟨_, rfl, rfl, bn, b12, lw⟩
          case rest =>
            clear b12 lw KP2
            obtain ⟨g15, rfl, rfl, b15, b12, lw⟩ := hcut
            go_wp2_with (first
              | (go_at_call 11; (with_reducible refine (KS.out _).mono ?_); rintro e w16 ⟨rfl, l16⟩; replace b12 := b12.keep l16; replace b15 := b15.keep l16; replace lw := Later.trans_ lw l16; have eq1 := b12.cell (ctl_r q ha4))
              | ((with_reducible refine wpList_load_g (o := ⟨some 126, .load 26 (.tmp 15), _, _, _, _⟩) _ _ rfl g15 26 q.cells _ ?_ ?_ ?_ Try.underlying26 ?_ (ctl_sz _) ?_); rfl; rfl; exact b15; rfl)
              | ((with_reducible refine wpList_load_g (o := ⟨some 127, .load 26 (.tmp 12), _, _, _, _⟩) _ _ rfl g12 26 q.cells _ ?_ ?_ ?_ Try.underlying26 ?_ (ctl_sz _) ?_); rfl; rfl; exact b12; rfl))
            go_ret
            exact ⟨rfl, lw⟩
      · clear hl
        obtain ⟨a, hA⟩ : ∃ a, a = (x.t 3).toNat := ⟨_, rfl⟩
        have hat : x.at 3 k = a := by rw [hA]; rfl
        have ha := HO.out.at4 (l := 3) (k := k) ⟨by decide, by decide⟩ hkn
        rw [hat] at ha
        obtain ⟨ha4, han⟩ := ha
        have hca : x.t 3 = (a : Int) := by rw [hA]; exact (HO.out.t4 (k := 3) (by decide)).2.1.symm
        have et := b4.cell (ctl_t x (k := 3) (by decide))
        rw [hca] at et
        clear hca
        have h5 := HO.out.r5 HW.out ha4
        have hyr : y.r a = orB (x.r a) 3 := by
          rw [HY.out, raise_in x k ⟨by decide, by decide⟩, hat]
          exact upd_at _ _ _
        have hob : bits .and .u32 (y.r a / bt 3) 1 = 1 := by rw [hyr]; exact or_bit h5 (by decide)
        rw [show bt 3 = 8 from rfl] at hob
        have hy5 : is5 (y.r a) := by rw [hyr]; exact or_5 h5 (by decide)
        have ha0 : (0 : Int) ≤ (a : Int) := by omega
        have ha4i : (a : Int) < 4 := by omega
        have KP1 := Lib.hid fun w' => (show Calls Try.prog 12 #[.agg y.cells.toArray, .int .i64 (a : Int), .agg #[.bool false, .int .i64 2, .int .u32 3]] w' fun e w'' => e = .returned (.tuple #[.agg (y.out a 2 3).cells.toArray, .int .u32 0, .int .i64 0]) ∧ Later w' w'' from port_any y a false 2 3 w' HYK.out.1 HYK.out.2 (by rw [HNY.out]; exact han) ⟨by decide, by decide⟩)
        have hqk := HYK.out.1.outed HYK.out.2 (k := a) (p := 2) (v := 3) (by rw [HNY.out]; exact han) ⟨by decide, by decide⟩
        have hqq : (y.out a 2 3).out a 2 3 = y.out a 2 3 := by
          show ({ y with r := upd (upd y.r a (anB (y.r a) 3)) a (anB (upd y.r a (anB (y.r a) 3) a) 3) } : Ctl) = _
          rw [upd_at, upd_upd, an_twice hy5 (by decide)]
          rfl
        have hqr : (y.out a 2 3).r a = anB (y.r a) 3 := upd_at _ _ _
        have hqb : bits .and .u32 ((y.out a 2 3).r a / bt 3) 1 = 0 := by rw [hqr]; exact an_bit hy5 (by decide)
        rw [show bt 3 = 8 from rfl] at hqb
        have hqn : (y.out a 2 3).n = x.n := HNY.out
        have KP2 := Lib.hid fun w' => (show Calls Try.prog 12 #[.agg (y.out a 2 3).cells.toArray, .int .i64 (a : Int), .agg #[.bool false, .int .i64 2, .int .u32 3]] w' fun e w'' => e = .returned (.tuple #[.agg ((y.out a 2 3).out a 2 3).cells.toArray, .int .u32 0, .int .i64 0]) ∧ Later w' w'' from port_any (y.out a 2 3) a false 2 3 w' hqk.1 hqk.2 (by rw [hqn]; exact han) ⟨by decide, by decide⟩)
        rw [hqq] at KP2
        obtain ⟨q, hq⟩ : ∃ q, q = y.out a 2 3 := ⟨_, rfl⟩
        rw [← hq] at KP1 KP2 hqb
        have hqs := ctl_same q
        have ey := b10.cell (ctl_r y ha4)
        clear hq hqq hqr hqn hqk hy5 hyr h5 hat hA
        go_upto_region 14 with fail
        clear ey hob et
        have hwu : IntKind.u32.wrap 3 = 3 := by decide
        go_cut [12, 14] (fun q12 q14 wx => ∃ g : Nat, q12 = .pointer (some ⟨g, 0, none⟩) ∧ q14 = .int .i64 0 ∧ Blk wx g 26 q.cells ∧ Later w wx)
        case first =>
          replace b10 := b10.drew
          replace lw := lw.drew
          refine wp_region_held_drew (S := fun w' => World.rangeAt w' w2.heap.size 0 y.cells) (by kernel_rfl) (show World.rangeAt _ w2.heap.size 0 y.cells from b10.range 0 14) (fun hHeld => ?_)
          refine wpAnyH_take (i := 0) (oi := ⟨some 87, .load 26 (.tmp 10), _, _, _, none⟩) (v := .agg y.cells.toArray) rfl (by kernel_rfl) (by kernel_rfl) (by kernel_rfl) (fun _ _ _ h => h) (yieldsIf_load_mid (by rfl) _ _ rfl _ _ rfl y.cells _ (fun w h => h) Try.underlying26 rfl (ctl_sz _)) hHeld ?_
          simp only [Act.put, List.setIfInBounds_toArray, List.set_cons_zero, List.set_cons_succ]
          refine wpAnyH_take (i := 1) (oi := ⟨some 88, .move (.tmp 11), _, _, _, none⟩) (v := .int .i64 (a : Int)) rfl (by kernel_rfl) (by kernel_rfl) (by kernel_rfl) (fun _ _ _ h => h) (Or.inl ⟨by rfl, fun _ _ => rfl⟩) hHeld ?_
          simp only [Act.put, List.setIfInBounds_toArray, List.set_cons_zero, List.set_cons_succ]
          refine wpAnyH_take (i := 2) (oi := ⟨some 89, .move (.tmp 1), _, _, _, none⟩) (v := .int .i64 3) rfl (by kernel_rfl) (by kernel_rfl) (by kernel_rfl) (fun _ _ _ h => h) (Or.inl ⟨by rfl, fun _ _ => rfl⟩) hHeld ?_
          simp only [Act.put, List.setIfInBounds_toArray, List.set_cons_zero, List.set_cons_succ]
          refine wpAnyH_take (i := 3) (oi := ⟨some 90, .convert 3 22 (.tmp 89), _, _, _, none⟩) (v := .int .u32 3) rfl (by kernel_rfl) (by kernel_rfl) (by kernel_rfl) (fun _ _ _ h => h) (Or.inl ⟨by rfl, fun w _ => by go_simp⟩) hHeld ?_
          simp only [Act.put, List.setIfInBounds_toArray, List.set_cons_zero, List.set_cons_succ]
          refine wpAnyH_ready (rs := [4, 10]) (by kernel_rfl) (by simp) (AllReadyH.cons (o := ⟨some 91, .call { callee := .value (.func 23), args := #[.const (.int .i64 2), .tmp 90], argTypes := #[3, 22] }, _, _, _, none⟩) rfl (fun K' hK => ?_) (AllReadyH.cons (o := ⟨some 12, .alloc 26, _, _, _, none⟩) rfl (fun K' hK => ?_) AllReadyH.nil))
          · go_simp
            (with_reducible refine (out_any 2 3 _).mono ?_)
            rintro e v14a ⟨rfl, l1⟩
            replace b10 := b10.keep l1
            replace lw := Later.trans_ lw l1
            try replace bn := bn.keep l1
            refine hK.out _ _ (show World.rangeAt _ w2.heap.size 0 y.cells from b10.range 0 14) (fun hHeld => ?_)
            clear hK K'
            try simp only [Act.put, List.setIfInBounds_toArray, List.set_cons_zero, List.set_cons_succ]
            refine wpAnyH_ready (rs := [5, 10]) (by kernel_rfl) (by simp) (AllReadyH.cons (o := ⟨some 92, .call { callee := .value (.func 12), args := #[.tmp 87, .tmp 88, .tmp 91], argTypes := #[26, 3, 28] }, _, _, _, none⟩) rfl (fun K' hK => ?_) (AllReadyH.cons (o := ⟨some 12, .alloc 26, _, _, _, none⟩) rfl (fun K' hK => ?_) AllReadyH.nil))
            · go_simp
              (with_reducible refine (KP1.out _).mono ?_)
              rintro e v14b ⟨rfl, l1⟩
              replace b10 := b10.keep l1
              replace lw := Later.trans_ lw l1
              try replace bn := bn.keep l1
              refine hK.out _ _ (show World.rangeAt _ w2.heap.size 0 y.cells from b10.range 0 14) (fun hHeld => ?_)
              clear hK K'
              try simp only [Act.put, List.setIfInBounds_toArray, List.set_cons_zero, List.set_cons_succ]
              refine wpAnyH_take (i := 6) (oi := ⟨some 86, .move (.tmp 92), _, _, _, none⟩) (v := (.tuple #[.agg q.cells.toArray, .int .u32 0, .int .i64 0])) rfl (by kernel_rfl) (by kernel_rfl) (by kernel_rfl) (fun _ _ _ h => h) (Or.inl ⟨by rfl, fun _ _ => rfl⟩) hHeld ?_
              simp only [Act.put, List.setIfInBounds_toArray, List.set_cons_zero, List.set_cons_succ]
              refine wpAnyH_take (i := 7) (oi := ⟨some 93, .extract (.tmp 86) 0, _, _, _, none⟩) (v := .agg q.cells.toArray) rfl (by kernel_rfl) (by kernel_rfl) (by kernel_rfl) (fun _ _ _ h => h) (Or.inl ⟨by rfl, fun w _ => by go_simp⟩) hHeld ?_
              simp only [Act.put, List.setIfInBounds_toArray, List.set_cons_zero, List.set_cons_succ]
              refine wpAnyH_take (i := 8) (oi := ⟨some 94, .extract (.tmp 86) 1, _, _, _, none⟩) (v := .int .u32 0) rfl (by kernel_rfl) (by kernel_rfl) (by kernel_rfl) (fun _ _ _ h => h) (Or.inl ⟨by rfl, fun w _ => by go_simp⟩) hHeld ?_
              simp only [Act.put, List.setIfInBounds_toArray, List.set_cons_zero, List.set_cons_succ]
              refine wpAnyH_take (i := 9) (oi := ⟨some 95, .extract (.tmp 86) 2, _, _, _, none⟩) (v := .int .i64 0) rfl (by kernel_rfl) (by kernel_rfl) (by kernel_rfl) (fun _ _ _ h => h) (Or.inl ⟨by rfl, fun w _ => by go_simp⟩) hHeld ?_
              simp only [Act.put, List.setIfInBounds_toArray, List.set_cons_zero, List.set_cons_succ]
              refine wpAnyH_ready (rs := [10]) (by kernel_rfl) (by simp) (AllReadyH.cons (o := ⟨some 12, .alloc 26, _, _, _, none⟩) rfl (fun K' hK => ?_) AllReadyH.nil)
              go_simp
              have nb10 := Nat.ne_of_lt b10.lt
              have m2 := lw.size
              have bn := Blk.new v14b 26 zK.cells.toArray zK.cells rfl
              replace b10 := b10.alloc (.cells zK.cells.toArray 26)
              replace lw := lw.alloc m2 (.cells zK.cells.toArray 26)
              refine hK.out _ _ (show World.rangeAt _ w2.heap.size 0 y.cells from b10.range 0 14) (fun hHeld => ?_)
              clear hK K'
              try simp only [Act.put, List.setIfInBounds_toArray, List.set_cons_zero, List.set_cons_succ]
              refine wpAnyH_ready (rs := [11]) (by kernel_rfl) (by simp) (AllReadyH.cons (o := ⟨none, .store 26 (.tmp 12) (.tmp 93), _, _, _, none⟩) rfl (fun K' hK => ?_) AllReadyH.nil)
              refine wp_store_blk 26 _ _ rfl v14b.heap.size 26 zK.cells q.cells rfl rfl bn (ctl_sz _) rfl (ctl_one _) ?_
              intro wq2 bq oq
              replace b10 := b10.only oq nb10
              replace lw := Below.only lw oq m2
              clear bn
              have bn := bq
              clear bq oq
              refine hK.out _ _ (show World.rangeAt _ w2.heap.size 0 y.cells from b10.range 0 14) (fun hHeld => ?_)
              clear hK K'
              try simp only [Act.put]
              refine wpAnyH_take (i := 12) (oi := ⟨some 13, .assign (.tmp 94), _, _, _, none⟩) (v := .int .u32 0) rfl (by kernel_rfl) (by kernel_rfl) (by kernel_rfl) (fun _ _ _ h => h) (Or.inl ⟨by rfl, fun _ _ => rfl⟩) hHeld ?_
              simp only [Act.put, List.setIfInBounds_toArray, List.set_cons_zero, List.set_cons_succ]
              refine wpAnyH_take (i := 13) (oi := ⟨some 14, .assign (.tmp 95), _, _, _, none⟩) (v := .int .i64 0) rfl (by kernel_rfl) (by kernel_rfl) (by kernel_rfl) (fun _ _ _ h => h) (Or.inl ⟨by rfl, fun _ _ => rfl⟩) hHeld ?_
              simp only [Act.put, List.setIfInBounds_toArray, List.set_cons_zero, List.set_cons_succ]
              refine wpAnyH_done (by kernel_rfl) ?_ _
              clear hHeld
              go_wp2
              go_meet
              exact ⟨_, rfl, rfl, bn, lw⟩
            · go_simp
              have nb10 := Nat.ne_of_lt b10.lt
              have m2 := lw.size
              have bn := Blk.new v14a 26 zK.cells.toArray zK.cells rfl
              replace b10 := b10.alloc (.cells zK.cells.toArray 26)
              replace lw := lw.alloc m2 (.cells zK.cells.toArray 26)
              refine hK.out _ _ (show World.rangeAt _ w2.heap.size 0 y.cells from b10.range 0 14) (fun hHeld => ?_)
              clear hK K'
              try simp only [Act.put, List.setIfInBounds_toArray, List.set_cons_zero, List.set_cons_succ]
              refine wpAnyH_ready (rs := [5]) (by kernel_rfl) (by simp) (AllReadyH.cons (o := ⟨some 92, .call { callee := .value (.func 12), args := #[.tmp 87, .tmp 88, .tmp 91], argTypes := #[26, 3, 28] }, _, _, _, none⟩) rfl (fun K' hK => ?_) AllReadyH.nil)
              go_simp
              (with_reducible refine (KP1.out _).mono ?_)
              rintro e v14b ⟨rfl, l1⟩
              replace b10 := b10.keep l1
              replace lw := Later.trans_ lw l1
              try replace bn := bn.keep l1
              refine hK.out _ _ (show World.rangeAt _ w2.heap.size 0 y.cells from b10.range 0 14) (fun hHeld => ?_)
              clear hK K'
              try simp only [Act.put, List.setIfInBounds_toArray, List.set_cons_zero, List.set_cons_succ]
              refine wpAnyH_take (i := 6) (oi := ⟨some 86, .move (.tmp 92), _, _, _, none⟩) (v := (.tuple #[.agg q.cells.toArray, .int .u32 0, .int .i64 0])) rfl (by kernel_rfl) (by kernel_rfl) (by kernel_rfl) (fun _ _ _ h => h) (Or.inl ⟨by rfl, fun _ _ => rfl⟩) hHeld ?_
              simp only [Act.put, List.setIfInBounds_toArray, List.set_cons_zero, List.set_cons_succ]
              refine wpAnyH_take (i := 7) (oi := ⟨some 93, .extract (.tmp 86) 0, _, _, _, none⟩) (v := .agg q.cells.toArray) rfl (by kernel_rfl) (by kernel_rfl) (by kernel_rfl) (fun _ _ _ h => h) (Or.inl ⟨by rfl, fun w _ => by go_simp⟩) hHeld ?_
              simp only [Act.put, List.setIfInBounds_toArray, List.set_cons_zero, List.set_cons_succ]
              refine wpAnyH_take (i := 8) (oi := ⟨some 94, .extract (.tmp 86) 1, _, _, _, none⟩) (v := .int .u32 0) rfl (by kernel_rfl) (by kernel_rfl) (by kernel_rfl) (fun _ _ _ h => h) (Or.inl ⟨by rfl, fun w _ => by go_simp⟩) hHeld ?_
              simp only [Act.put, List.setIfInBounds_toArray, List.set_cons_zero, List.set_cons_succ]
              refine wpAnyH_take (i := 9) (oi := ⟨some 95, .extract (.tmp 86) 2, _, _, _, none⟩) (v := .int .i64 0) rfl (by kernel_rfl) (by kernel_rfl) (by kernel_rfl) (fun _ _ _ h => h) (Or.inl ⟨by rfl, fun w _ => by go_simp⟩) hHeld ?_
              simp only [Act.put, List.setIfInBounds_toArray, List.set_cons_zero, List.set_cons_succ]
              refine wpAnyH_ready (rs := [11]) (by kernel_rfl) (by simp) (AllReadyH.cons (o := ⟨none, .store 26 (.tmp 12) (.tmp 93), _, _, _, none⟩) rfl (fun K' hK => ?_) AllReadyH.nil)
              refine wp_store_blk 26 _ _ rfl v14a.heap.size 26 zK.cells q.cells rfl rfl bn (ctl_sz _) rfl (ctl_one _) ?_
              intro wq2 bq oq
              replace b10 := b10.only oq nb10
              replace lw := Below.only lw oq m2
              clear bn
              have bn := bq
              clear bq oq
              refine hK.out _ _ (show World.rangeAt _ w2.heap.size 0 y.cells from b10.range 0 14) (fun hHeld => ?_)
              clear hK K'
              try simp only [Act.put]
              refine wpAnyH_take (i := 12) (oi := ⟨some 13, .assign (.tmp 94), _, _, _, none⟩) (v := .int .u32 0) rfl (by kernel_rfl) (by kernel_rfl) (by kernel_rfl) (fun _ _ _ h => h) (Or.inl ⟨by rfl, fun _ _ => rfl⟩) hHeld ?_
              simp only [Act.put, List.setIfInBounds_toArray, List.set_cons_zero, List.set_cons_succ]
              refine wpAnyH_take (i := 13) (oi := ⟨some 14, .assign (.tmp 95), _, _, _, none⟩) (v := .int .i64 0) rfl (by kernel_rfl) (by kernel_rfl) (by kernel_rfl) (fun _ _ _ h => h) (Or.inl ⟨by rfl, fun _ _ => rfl⟩) hHeld ?_
              simp only [Act.put, List.setIfInBounds_toArray, List.set_cons_zero, List.set_cons_succ]
              refine wpAnyH_done (by kernel_rfl) ?_ _
              clear hHeld
              go_wp2
              go_meet
              exact ⟨_, rfl, rfl, bn, lw⟩
          · go_simp
            have nb10 := Nat.ne_of_lt b10.lt
            have m2 := lw.size
            have bn := Blk.new v6.drew 26 zK.cells.toArray zK.cells rfl
            replace b10 := b10.alloc (.cells zK.cells.toArray 26)
            replace lw := lw.alloc m2 (.cells zK.cells.toArray 26)
            refine hK.out _ _ (show World.rangeAt _ w2.heap.size 0 y.cells from b10.range 0 14) (fun hHeld => ?_)
            clear hK K'
            try simp only [Act.put, List.setIfInBounds_toArray, List.set_cons_zero, List.set_cons_succ]
            refine wpAnyH_ready (rs := [4]) (by kernel_rfl) (by simp) (AllReadyH.cons (o := ⟨some 91, .call { callee := .value (.func 23), args := #[.const (.int .i64 2), .tmp 90], argTypes := #[3, 22] }, _, _, _, none⟩) rfl (fun K' hK => ?_) AllReadyH.nil)
            go_simp
            (with_reducible refine (out_any 2 3 _).mono ?_)
            rintro e v14a ⟨rfl, l1⟩
            replace b10 := b10.keep l1
            replace lw := Later.trans_ lw l1
            try replace bn := bn.keep l1
            refine hK.out _ _ (show World.rangeAt _ w2.heap.size 0 y.cells from b10.range 0 14) (fun hHeld => ?_)
            clear hK K'
            try simp only [Act.put, List.setIfInBounds_toArray, List.set_cons_zero, List.set_cons_succ]
            refine wpAnyH_ready (rs := [5]) (by kernel_rfl) (by simp) (AllReadyH.cons (o := ⟨some 92, .call { callee := .value (.func 12), args := #[.tmp 87, .tmp 88, .tmp 91], argTypes := #[26, 3, 28] }, _, _, _, none⟩) rfl (fun K' hK => ?_) AllReadyH.nil)
            go_simp
            (with_reducible refine (KP1.out _).mono ?_)
            rintro e v14b ⟨rfl, l1⟩
            replace b10 := b10.keep l1
            replace lw := Later.trans_ lw l1
            try replace bn := bn.keep l1
            refine hK.out _ _ (show World.rangeAt _ w2.heap.size 0 y.cells from b10.range 0 14) (fun hHeld => ?_)
            clear hK K'
            try simp only [Act.put, List.setIfInBounds_toArray, List.set_cons_zero, List.set_cons_succ]
            refine wpAnyH_take (i := 6) (oi := ⟨some 86, .move (.tmp 92), _, _, _, none⟩) (v := (.tuple #[.agg q.cells.toArray, .int .u32 0, .int .i64 0])) rfl (by kernel_rfl) (by kernel_rfl) (by kernel_rfl) (fun _ _ _ h => h) (Or.inl ⟨by rfl, fun _ _ => rfl⟩) hHeld ?_
            simp only [Act.put, List.setIfInBounds_toArray, List.set_cons_zero, List.set_cons_succ]
            refine wpAnyH_take (i := 7) (oi := ⟨some 93, .extract (.tmp 86) 0, _, _, _, none⟩) (v := .agg q.cells.toArray) rfl (by kernel_rfl) (by kernel_rfl) (by kernel_rfl) (fun _ _ _ h => h) (Or.inl ⟨by rfl, fun w _ => by go_simp⟩) hHeld ?_
            simp only [Act.put, List.setIfInBounds_toArray, List.set_cons_zero, List.set_cons_succ]
            refine wpAnyH_take (i := 8) (oi := ⟨some 94, .extract (.tmp 86) 1, _, _, _, none⟩) (v := .int .u32 0) rfl (by kernel_rfl) (by kernel_rfl) (by kernel_rfl) (fun _ _ _ h => h) (Or.inl ⟨by rfl, fun w _ => by go_simp⟩) hHeld ?_
            simp only [Act.put, List.setIfInBounds_toArray, List.set_cons_zero, List.set_cons_succ]
            refine wpAnyH_take (i := 9) (oi := ⟨some 95, .extract (.tmp 86) 2, _, _, _, none⟩) (v := .int .i64 0) rfl (by kernel_rfl) (by kernel_rfl) (by kernel_rfl) (fun _ _ _ h => h) (Or.inl ⟨by rfl, fun w _ => by go_simp⟩) hHeld ?_
            simp only [Act.put, List.setIfInBounds_toArray, List.set_cons_zero, List.set_cons_succ]
            refine wpAnyH_ready (rs := [11]) (by kernel_rfl) (by simp) (AllReadyH.cons (o := ⟨none, .store 26 (.tmp 12) (.tmp 93), _, _, _, none⟩) rfl (fun K' hK => ?_) AllReadyH.nil)
            refine wp_store_blk 26 _ _ rfl v6.heap.size 26 zK.cells q.cells rfl rfl bn (ctl_sz _) rfl (ctl_one _) ?_
            intro wq2 bq oq
            replace b10 := b10.only oq nb10
            replace lw := Below.only lw oq m2
            clear bn
            have bn := bq
            clear bq oq
            refine hK.out _ _ (show World.rangeAt _ w2.heap.size 0 y.cells from b10.range 0 14) (fun hHeld => ?_)
            clear hK K'
            try simp only [Act.put]
            refine wpAnyH_take (i := 12) (oi := ⟨some 13, .assign (.tmp 94), _, _, _, none⟩) (v := .int .u32 0) rfl (by kernel_rfl) (by kernel_rfl) (by kernel_rfl) (fun _ _ _ h => h) (Or.inl ⟨by rfl, fun _ _ => rfl⟩) hHeld ?_
            simp only [Act.put, List.setIfInBounds_toArray, List.set_cons_zero, List.set_cons_succ]
            refine wpAnyH_take (i := 13) (oi := ⟨some 14, .assign (.tmp 95), _, _, _, none⟩) (v := .int .i64 0) rfl (by kernel_rfl) (by kernel_rfl) (by kernel_rfl) (fun _ _ _ h => h) (Or.inl ⟨by rfl, fun _ _ => rfl⟩) hHeld ?_
            simp only [Act.put, List.setIfInBounds_toArray, List.set_cons_zero, List.set_cons_succ]
            refine wpAnyH_done (by kernel_rfl) ?_ _
            clear hHeld
            go_wp2
            go_meet
            exact ⟨_, rfl, rfl, bn, lw⟩
        case rest =>
          clear b10 b4 lw KP1
          obtain ⟨g12, rfl, rfl, b12, lw⟩ := hcut
          go_upto_region 15 with fail
          go_cut [15, 17] (fun q15 q17 wx => ∃ g : Nat, q15 = .pointer (some ⟨g, 0, none⟩) ∧ q17 = .int .i64 0 ∧ Blk wx g 26 q.cells ∧ Blk wx g12 26 q.cells ∧ Later w wx)
          case first =>
            replace b12 := b12.drew
            replace lw := lw.drew
            refine wp_region_held_drew (S := fun w' => World.rangeAt w' g12 0 q.cells) (by kernel_rfl) (show World.rangeAt _ g12 0 q.cells from b12.range 0 14) (fun hHeld => ?_)
            refine wpAnyH_take (i := 0) (oi := ⟨some 97, .load 26 (.tmp 12), _, _, _, none⟩) (v := .agg q.cells.toArray) rfl (by kernel_rfl) (by kernel_rfl) (by kernel_rfl) (fun _ _ _ h => h) (yieldsIf_load_mid (by rfl) _ _ rfl _ _ rfl q.cells _ (fun w h => h) Try.underlying26 rfl (ctl_sz _)) hHeld ?_
            simp only [Act.put, List.setIfInBounds_toArray, List.set_cons_zero, List.set_cons_succ]
            refine wpAnyH_take (i := 1) (oi := ⟨some 98, .move (.tmp 11), _, _, _, none⟩) (v := .int .i64 (a : Int)) rfl (by kernel_rfl) (by kernel_rfl) (by kernel_rfl) (fun _ _ _ h => h) (Or.inl ⟨by rfl, fun _ _ => rfl⟩) hHeld ?_
            simp only [Act.put, List.setIfInBounds_toArray, List.set_cons_zero, List.set_cons_succ]
            refine wpAnyH_take (i := 2) (oi := ⟨some 99, .move (.tmp 1), _, _, _, none⟩) (v := .int .i64 3) rfl (by kernel_rfl) (by kernel_rfl) (by kernel_rfl) (fun _ _ _ h => h) (Or.inl ⟨by rfl, fun _ _ => rfl⟩) hHeld ?_
            simp only [Act.put, List.setIfInBounds_toArray, List.set_cons_zero, List.set_cons_succ]
            refine wpAnyH_take (i := 3) (oi := ⟨some 100, .convert 3 22 (.tmp 99), _, _, _, none⟩) (v := .int .u32 3) rfl (by kernel_rfl) (by kernel_rfl) (by kernel_rfl) (fun _ _ _ h => h) (Or.inl ⟨by rfl, fun w _ => by go_simp⟩) hHeld ?_
            simp only [Act.put, List.setIfInBounds_toArray, List.set_cons_zero, List.set_cons_succ]
            refine wpAnyH_ready (rs := [4, 10]) (by kernel_rfl) (by simp) (AllReadyH.cons (o := ⟨some 101, .call { callee := .value (.func 23), args := #[.const (.int .i64 2), .tmp 100], argTypes := #[3, 22] }, _, _, _, none⟩) rfl (fun K' hK => ?_) (AllReadyH.cons (o := ⟨some 15, .alloc 26, _, _, _, none⟩) rfl (fun K' hK => ?_) AllReadyH.nil))
            · go_simp
              (with_reducible refine (out_any 2 3 _).mono ?_)
              rintro e v15a ⟨rfl, l1⟩
              replace b12 := b12.keep l1
              replace lw := Later.trans_ lw l1
              try replace bn := bn.keep l1
              refine hK.out _ _ (show World.rangeAt _ g12 0 q.cells from b12.range 0 14) (fun hHeld => ?_)
              clear hK K'
              try simp only [Act.put, List.setIfInBounds_toArray, List.set_cons_zero, List.set_cons_succ]
              refine wpAnyH_ready (rs := [5, 10]) (by kernel_rfl) (by simp) (AllReadyH.cons (o := ⟨some 102, .call { callee := .value (.func 12), args := #[.tmp 97, .tmp 98, .tmp 101], argTypes := #[26, 3, 28] }, _, _, _, none⟩) rfl (fun K' hK => ?_) (AllReadyH.cons (o := ⟨some 15, .alloc 26, _, _, _, none⟩) rfl (fun K' hK => ?_) AllReadyH.nil))
              · go_simp
                (with_reducible refine (KP2.out _).mono ?_)
                rintro e v15b ⟨rfl, l1⟩
                replace b12 := b12.keep l1
                replace lw := Later.trans_ lw l1
                try replace bn := bn.keep l1
                refine hK.out _ _ (show World.rangeAt _ g12 0 q.cells from b12.range 0 14) (fun hHeld => ?_)
                clear hK K'
                try simp only [Act.put, List.setIfInBounds_toArray, List.set_cons_zero, List.set_cons_succ]
                refine wpAnyH_take (i := 6) (oi := ⟨some 96, .move (.tmp 102), _, _, _, none⟩) (v := (.tuple #[.agg q.cells.toArray, .int .u32 0, .int .i64 0])) rfl (by kernel_rfl) (by kernel_rfl) (by kernel_rfl) (fun _ _ _ h => h) (Or.inl ⟨by rfl, fun _ _ => rfl⟩) hHeld ?_
                simp only [Act.put, List.setIfInBounds_toArray, List.set_cons_zero, List.set_cons_succ]
                refine wpAnyH_take (i := 7) (oi := ⟨some 103, .extract (.tmp 96) 0, _, _, _, none⟩) (v := .agg q.cells.toArray) rfl (by kernel_rfl) (by kernel_rfl) (by kernel_rfl) (fun _ _ _ h => h) (Or.inl ⟨by rfl, fun w _ => by go_simp⟩) hHeld ?_
                simp only [Act.put, List.setIfInBounds_toArray, List.set_cons_zero, List.set_cons_succ]
                refine wpAnyH_take (i := 8) (oi := ⟨some 104, .extract (.tmp 96) 1, _, _, _, none⟩) (v := .int .u32 0) rfl (by kernel_rfl) (by kernel_rfl) (by kernel_rfl) (fun _ _ _ h => h) (Or.inl ⟨by rfl, fun w _ => by go_simp⟩) hHeld ?_
                simp only [Act.put, List.setIfInBounds_toArray, List.set_cons_zero, List.set_cons_succ]
                refine wpAnyH_take (i := 9) (oi := ⟨some 105, .extract (.tmp 96) 2, _, _, _, none⟩) (v := .int .i64 0) rfl (by kernel_rfl) (by kernel_rfl) (by kernel_rfl) (fun _ _ _ h => h) (Or.inl ⟨by rfl, fun w _ => by go_simp⟩) hHeld ?_
                simp only [Act.put, List.setIfInBounds_toArray, List.set_cons_zero, List.set_cons_succ]
                refine wpAnyH_ready (rs := [10]) (by kernel_rfl) (by simp) (AllReadyH.cons (o := ⟨some 15, .alloc 26, _, _, _, none⟩) rfl (fun K' hK => ?_) AllReadyH.nil)
                go_simp
                have nb12 := Nat.ne_of_lt b12.lt
                have m2 := lw.size
                have bn := Blk.new v15b 26 zK.cells.toArray zK.cells rfl
                replace b12 := b12.alloc (.cells zK.cells.toArray 26)
                replace lw := lw.alloc m2 (.cells zK.cells.toArray 26)
                refine hK.out _ _ (show World.rangeAt _ g12 0 q.cells from b12.range 0 14) (fun hHeld => ?_)
                clear hK K'
                try simp only [Act.put, List.setIfInBounds_toArray, List.set_cons_zero, List.set_cons_succ]
                refine wpAnyH_ready (rs := [11]) (by kernel_rfl) (by simp) (AllReadyH.cons (o := ⟨none, .store 26 (.tmp 15) (.tmp 103), _, _, _, none⟩) rfl (fun K' hK => ?_) AllReadyH.nil)
                refine wp_store_blk 26 _ _ rfl v15b.heap.size 26 zK.cells q.cells rfl rfl bn (ctl_sz _) rfl (ctl_one _) ?_
                intro wq2 bq oq
                replace b12 := b12.only oq nb12
                replace lw := Below.only lw oq m2
                clear bn
                have bn := bq
                clear bq oq
                refine hK.out _ _ (show World.rangeAt _ g12 0 q.cells from b12.range 0 14) (fun hHeld => ?_)
                clear hK K'
                try simp only [Act.put]
                refine wpAnyH_take (i := 12) (oi := ⟨some 16, .assign (.tmp 104), _, _, _, none⟩) (v := .int .u32 0) rfl (by kernel_rfl) (by kernel_rfl) (by kernel_rfl) (fun _ _ _ h => h) (Or.inl ⟨by rfl, fun _ _ => rfl⟩) hHeld ?_
                simp only [Act.put, List.setIfInBounds_toArray, List.set_cons_zero, List.set_cons_succ]
                refine wpAnyH_take (i := 13) (oi := ⟨some 17, .assign (.tmp 105), _, _, _, none⟩) (v := .int .i64 0) rfl (by kernel_rfl) (by kernel_rfl) (by kernel_rfl) (fun _ _ _ h => h) (Or.inl ⟨by rfl, fun _ _ => rfl⟩) hHeld ?_
                simp only [Act.put, List.setIfInBounds_toArray, List.set_cons_zero, List.set_cons_succ]
                refine wpAnyH_done (by kernel_rfl) ?_ _
                clear hHeld
                go_wp2
                go_meet
                exact ⟨_, rfl, rfl, bn, b12, lw⟩
              · go_simp
                have nb12 := Nat.ne_of_lt b12.lt
                have m2 := lw.size
                have bn := Blk.new v15a 26 zK.cells.toArray zK.cells rfl
                replace b12 := b12.alloc (.cells zK.cells.toArray 26)
                replace lw := lw.alloc m2 (.cells zK.cells.toArray 26)
                refine hK.out _ _ (show World.rangeAt _ g12 0 q.cells from b12.range 0 14) (fun hHeld => ?_)
                clear hK K'
                try simp only [Act.put, List.setIfInBounds_toArray, List.set_cons_zero, List.set_cons_succ]
                refine wpAnyH_ready (rs := [5]) (by kernel_rfl) (by simp) (AllReadyH.cons (o := ⟨some 102, .call { callee := .value (.func 12), args := #[.tmp 97, .tmp 98, .tmp 101], argTypes := #[26, 3, 28] }, _, _, _, none⟩) rfl (fun K' hK => ?_) AllReadyH.nil)
                go_simp
                (with_reducible refine (KP2.out _).mono ?_)
                rintro e v15b ⟨rfl, l1⟩
                replace b12 := b12.keep l1
                replace lw := Later.trans_ lw l1
                try replace bn := bn.keep l1
                refine hK.out _ _ (show World.rangeAt _ g12 0 q.cells from b12.range 0 14) (fun hHeld => ?_)
                clear hK K'
                try simp only [Act.put, List.setIfInBounds_toArray, List.set_cons_zero, List.set_cons_succ]
                refine wpAnyH_take (i := 6) (oi := ⟨some 96, .move (.tmp 102), _, _, _, none⟩) (v := (.tuple #[.agg q.cells.toArray, .int .u32 0, .int .i64 0])) rfl (by kernel_rfl) (by kernel_rfl) (by kernel_rfl) (fun _ _ _ h => h) (Or.inl ⟨by rfl, fun _ _ => rfl⟩) hHeld ?_
                simp only [Act.put, List.setIfInBounds_toArray, List.set_cons_zero, List.set_cons_succ]
                refine wpAnyH_take (i := 7) (oi := ⟨some 103, .extract (.tmp 96) 0, _, _, _, none⟩) (v := .agg q.cells.toArray) rfl (by kernel_rfl) (by kernel_rfl) (by kernel_rfl) (fun _ _ _ h => h) (Or.inl ⟨by rfl, fun w _ => by go_simp⟩) hHeld ?_
                simp only [Act.put, List.setIfInBounds_toArray, List.set_cons_zero, List.set_cons_succ]
                refine wpAnyH_take (i := 8) (oi := ⟨some 104, .extract (.tmp 96) 1, _, _, _, none⟩) (v := .int .u32 0) rfl (by kernel_rfl) (by kernel_rfl) (by kernel_rfl) (fun _ _ _ h => h) (Or.inl ⟨by rfl, fun w _ => by go_simp⟩) hHeld ?_
                simp only [Act.put, List.setIfInBounds_toArray, List.set_cons_zero, List.set_cons_succ]
                refine wpAnyH_take (i := 9) (oi := ⟨some 105, .extract (.tmp 96) 2, _, _, _, none⟩) (v := .int .i64 0) rfl (by kernel_rfl) (by kernel_rfl) (by kernel_rfl) (fun _ _ _ h => h) (Or.inl ⟨by rfl, fun w _ => by go_simp⟩) hHeld ?_
                simp only [Act.put, List.setIfInBounds_toArray, List.set_cons_zero, List.set_cons_succ]
                refine wpAnyH_ready (rs := [11]) (by kernel_rfl) (by simp) (AllReadyH.cons (o := ⟨none, .store 26 (.tmp 15) (.tmp 103), _, _, _, none⟩) rfl (fun K' hK => ?_) AllReadyH.nil)
                refine wp_store_blk 26 _ _ rfl v15a.heap.size 26 zK.cells q.cells rfl rfl bn (ctl_sz _) rfl (ctl_one _) ?_
                intro wq2 bq oq
                replace b12 := b12.only oq nb12
                replace lw := Below.only lw oq m2
                clear bn
                have bn := bq
                clear bq oq
                refine hK.out _ _ (show World.rangeAt _ g12 0 q.cells from b12.range 0 14) (fun hHeld => ?_)
                clear hK K'
                try simp only [Act.put]
                refine wpAnyH_take (i := 12) (oi := ⟨some 16, .assign (.tmp 104), _, _, _, none⟩) (v := .int .u32 0) rfl (by kernel_rfl) (by kernel_rfl) (by kernel_rfl) (fun _ _ _ h => h) (Or.inl ⟨by rfl, fun _ _ => rfl⟩) hHeld ?_
                simp only [Act.put, List.setIfInBounds_toArray, List.set_cons_zero, List.set_cons_succ]
                refine wpAnyH_take (i := 13) (oi := ⟨some 17, .assign (.tmp 105), _, _, _, none⟩) (v := .int .i64 0) rfl (by kernel_rfl) (by kernel_rfl) (by kernel_rfl) (fun _ _ _ h => h) (Or.inl ⟨by rfl, fun _ _ => rfl⟩) hHeld ?_
                simp only [Act.put, List.setIfInBounds_toArray, List.set_cons_zero, List.set_cons_succ]
                refine wpAnyH_done (by kernel_rfl) ?_ _
                clear hHeld
                go_wp2
                go_meet
                exact ⟨_, rfl, rfl, bn, b12, lw⟩
            · go_simp
              have nb12 := Nat.ne_of_lt b12.lt
              have m2 := lw.size
              have bn := Blk.new wc.drew 26 zK.cells.toArray zK.cells rfl
              replace b12 := b12.alloc (.cells zK.cells.toArray 26)
              replace lw := lw.alloc m2 (.cells zK.cells.toArray 26)
              refine hK.out _ _ (show World.rangeAt _ g12 0 q.cells from b12.range 0 14) (fun hHeld => ?_)
              clear hK K'
              try simp only [Act.put, List.setIfInBounds_toArray, List.set_cons_zero, List.set_cons_succ]
              refine wpAnyH_ready (rs := [4]) (by kernel_rfl) (by simp) (AllReadyH.cons (o := ⟨some 101, .call { callee := .value (.func 23), args := #[.const (.int .i64 2), .tmp 100], argTypes := #[3, 22] }, _, _, _, none⟩) rfl (fun K' hK => ?_) AllReadyH.nil)
              go_simp
              (with_reducible refine (out_any 2 3 _).mono ?_)
              rintro e v15a ⟨rfl, l1⟩
              replace b12 := b12.keep l1
              replace lw := Later.trans_ lw l1
              try replace bn := bn.keep l1
              refine hK.out _ _ (show World.rangeAt _ g12 0 q.cells from b12.range 0 14) (fun hHeld => ?_)
              clear hK K'
              try simp only [Act.put, List.setIfInBounds_toArray, List.set_cons_zero, List.set_cons_succ]
              refine wpAnyH_ready (rs := [5]) (by kernel_rfl) (by simp) (AllReadyH.cons (o := ⟨some 102, .call { callee := .value (.func 12), args := #[.tmp 97, .tmp 98, .tmp 101], argTypes := #[26, 3, 28] }, _, _, _, none⟩) rfl (fun K' hK => ?_) AllReadyH.nil)
              go_simp
              (with_reducible refine (KP2.out _).mono ?_)
              rintro e v15b ⟨rfl, l1⟩
              replace b12 := b12.keep l1
              replace lw := Later.trans_ lw l1
              try replace bn := bn.keep l1
              refine hK.out _ _ (show World.rangeAt _ g12 0 q.cells from b12.range 0 14) (fun hHeld => ?_)
              clear hK K'
              try simp only [Act.put, List.setIfInBounds_toArray, List.set_cons_zero, List.set_cons_succ]
              refine wpAnyH_take (i := 6) (oi := ⟨some 96, .move (.tmp 102), _, _, _, none⟩) (v := (.tuple #[.agg q.cells.toArray, .int .u32 0, .int .i64 0])) rfl (by kernel_rfl) (by kernel_rfl) (by kernel_rfl) (fun _ _ _ h => h) (Or.inl ⟨by rfl, fun _ _ => rfl⟩) hHeld ?_
              simp only [Act.put, List.setIfInBounds_toArray, List.set_cons_zero, List.set_cons_succ]
              refine wpAnyH_take (i := 7) (oi := ⟨some 103, .extract (.tmp 96) 0, _, _, _, none⟩) (v := .agg q.cells.toArray) rfl (by kernel_rfl) (by kernel_rfl) (by kernel_rfl) (fun _ _ _ h => h) (Or.inl ⟨by rfl, fun w _ => by go_simp⟩) hHeld ?_
              simp only [Act.put, List.setIfInBounds_toArray, List.set_cons_zero, List.set_cons_succ]
              refine wpAnyH_take (i := 8) (oi := ⟨some 104, .extract (.tmp 96) 1, _, _, _, none⟩) (v := .int .u32 0) rfl (by kernel_rfl) (by kernel_rfl) (by kernel_rfl) (fun _ _ _ h => h) (Or.inl ⟨by rfl, fun w _ => by go_simp⟩) hHeld ?_
              simp only [Act.put, List.setIfInBounds_toArray, List.set_cons_zero, List.set_cons_succ]
              refine wpAnyH_take (i := 9) (oi := ⟨some 105, .extract (.tmp 96) 2, _, _, _, none⟩) (v := .int .i64 0) rfl (by kernel_rfl) (by kernel_rfl) (by kernel_rfl) (fun _ _ _ h => h) (Or.inl ⟨by rfl, fun w _ => by go_simp⟩) hHeld ?_
              simp only [Act.put, List.setIfInBounds_toArray, List.set_cons_zero, List.set_cons_succ]
              refine wpAnyH_ready (rs := [11]) (by kernel_rfl) (by simp) (AllReadyH.cons (o := ⟨none, .store 26 (.tmp 15) (.tmp 103), _, _, _, none⟩) rfl (fun K' hK => ?_) AllReadyH.nil)
              refine wp_store_blk 26 _ _ rfl wc.heap.size 26 zK.cells q.cells rfl rfl bn (ctl_sz _) rfl (ctl_one _) ?_
              intro wq2 bq oq
              replace b12 := b12.only oq nb12
              replace lw := Below.only lw oq m2
              clear bn
              have bn := bq
              clear bq oq
              refine hK.out _ _ (show World.rangeAt _ g12 0 q.cells from b12.range 0 14) (fun hHeld => ?_)
              clear hK K'
              try simp only [Act.put]
              refine wpAnyH_take (i := 12) (oi := ⟨some 16, .assign (.tmp 104), _, _, _, none⟩) (v := .int .u32 0) rfl (by kernel_rfl) (by kernel_rfl) (by kernel_rfl) (fun _ _ _ h => h) (Or.inl ⟨by rfl, fun _ _ => rfl⟩) hHeld ?_
              simp only [Act.put, List.setIfInBounds_toArray, List.set_cons_zero, List.set_cons_succ]
              refine wpAnyH_take (i := 13) (oi := ⟨some 17, .assign (.tmp 105), _, _, _, none⟩) (v := .int .i64 0) rfl (by kernel_rfl) (by kernel_rfl) (by kernel_rfl) (fun _ _ _ h => h) (Or.inl ⟨by rfl, fun _ _ => rfl⟩) hHeld ?_
              simp only [Act.put, List.setIfInBounds_toArray, List.set_cons_zero, List.set_cons_succ]
              refine wpAnyH_done (by kernel_rfl) ?_ _
              clear hHeld
              go_wp2
              go_meet
              exact ⟨_, rfl, rfl, bn, b12, lw⟩
          case rest =>
            clear b12 lw KP2
            obtain ⟨g15, rfl, rfl, b15, b12, lw⟩ := hcut
            go_wp2_with (first
              | (go_at_call 11; (with_reducible refine (KS.out _).mono ?_); rintro e w16 ⟨rfl, l16⟩; replace b12 := b12.keep l16; replace b15 := b15.keep l16; replace lw := Later.trans_ lw l16; have eq1 := b12.cell (ctl_r q ha4))
              | ((with_reducible refine wpList_load_g (o := ⟨some 126, .load 26 (.tmp 15), _, _, _, _⟩) _ _ rfl g15 26 q.cells _ ?_ ?_ ?_ Try.underlying26 ?_ (ctl_sz _) ?_); rfl; rfl; exact b15; rfl)
              | ((with_reducible refine wpList_load_g (o := ⟨some 127, .load 26 (.tmp 12), _, _, _, _⟩) _ _ rfl g12 26 q.cells _ ?_ ?_ ?_ Try.underlying26 ?_ (ctl_sz _) ?_); rfl; rfl; exact b12; rfl))
            go_ret
            exact ⟨rfl, lw⟩
      · clear hl
        have hat : x.at 4 k = k := rfl
        have ha := HO.out.at4 (l := 4) (k := k) ⟨by decide, by decide⟩ hkn
        rw [hat] at ha
        obtain ⟨ha4, han⟩ := ha
        have h5 := HO.out.r5 HW.out ha4
        have hyr : y.r k = orB (x.r k) 4 := by
          rw [HY.out, raise_in x k ⟨by decide, by decide⟩, hat]
          exact upd_at _ _ _
        have hob : bits .and .u32 (y.r k / bt 4) 1 = 1 := by rw [hyr]; exact or_bit h5 (by decide)
        rw [show bt 4 = 16 from rfl] at hob
        have hy5 : is5 (y.r k) := by rw [hyr]; exact or_5 h5 (by decide)
        have ha0 : (0 : Int) ≤ (k : Int) := by omega
        have ha4i : (k : Int) < 4 := by omega
        have KP1 := Lib.hid fun w' => (show Calls Try.prog 12 #[.agg y.cells.toArray, .int .i64 (k : Int), .agg #[.bool false, .int .i64 2, .int .u32 4]] w' fun e w'' => e = .returned (.tuple #[.agg (y.out k 2 4).cells.toArray, .int .u32 0, .int .i64 0]) ∧ Later w' w'' from port_any y k false 2 4 w' HYK.out.1 HYK.out.2 (by rw [HNY.out]; exact han) ⟨by decide, by decide⟩)
        have hqk := HYK.out.1.outed HYK.out.2 (k := k) (p := 2) (v := 4) (by rw [HNY.out]; exact han) ⟨by decide, by decide⟩
        have hqq : (y.out k 2 4).out k 2 4 = y.out k 2 4 := by
          show ({ y with r := upd (upd y.r k (anB (y.r k) 4)) k (anB (upd y.r k (anB (y.r k) 4) k) 4) } : Ctl) = _
          rw [upd_at, upd_upd, an_twice hy5 (by decide)]
          rfl
        have hqr : (y.out k 2 4).r k = anB (y.r k) 4 := upd_at _ _ _
        have hqb : bits .and .u32 ((y.out k 2 4).r k / bt 4) 1 = 0 := by rw [hqr]; exact an_bit hy5 (by decide)
        rw [show bt 4 = 16 from rfl] at hqb
        have hqn : (y.out k 2 4).n = x.n := HNY.out
        have KP2 := Lib.hid fun w' => (show Calls Try.prog 12 #[.agg (y.out k 2 4).cells.toArray, .int .i64 (k : Int), .agg #[.bool false, .int .i64 2, .int .u32 4]] w' fun e w'' => e = .returned (.tuple #[.agg ((y.out k 2 4).out k 2 4).cells.toArray, .int .u32 0, .int .i64 0]) ∧ Later w' w'' from port_any (y.out k 2 4) k false 2 4 w' hqk.1 hqk.2 (by rw [hqn]; exact han) ⟨by decide, by decide⟩)
        rw [hqq] at KP2
        obtain ⟨q, hq⟩ : ∃ q, q = y.out k 2 4 := ⟨_, rfl⟩
        rw [← hq] at KP1 KP2 hqb
        have hqs := ctl_same q
        have ey := b10.cell (ctl_r y ha4)
        clear hq hqq hqr hqn hqk hy5 hyr h5 hat
        go_upto_region 14 with fail
        clear ey hob
        have hwu : IntKind.u32.wrap 4 = 4 := by decide
        go_cut [12, 14] (fun q12 q14 wx => ∃ g : Nat, q12 = .pointer (some ⟨g, 0, none⟩) ∧ q14 = .int .i64 0 ∧ Blk wx g 26 q.cells ∧ Later w wx)
        case first =>
          replace b10 := b10.drew
          replace lw := lw.drew
          refine wp_region_held_drew (S := fun w' => World.rangeAt w' w2.heap.size 0 y.cells) (by kernel_rfl) (show World.rangeAt _ w2.heap.size 0 y.cells from b10.range 0 14) (fun hHeld => ?_)
          refine wpAnyH_take (i := 0) (oi := ⟨some 87, .load 26 (.tmp 10), _, _, _, none⟩) (v := .agg y.cells.toArray) rfl (by kernel_rfl) (by kernel_rfl) (by kernel_rfl) (fun _ _ _ h => h) (yieldsIf_load_mid (by rfl) _ _ rfl _ _ rfl y.cells _ (fun w h => h) Try.underlying26 rfl (ctl_sz _)) hHeld ?_
          simp only [Act.put, List.setIfInBounds_toArray, List.set_cons_zero, List.set_cons_succ]
          refine wpAnyH_take (i := 1) (oi := ⟨some 88, .move (.tmp 11), _, _, _, none⟩) (v := .int .i64 (k : Int)) rfl (by kernel_rfl) (by kernel_rfl) (by kernel_rfl) (fun _ _ _ h => h) (Or.inl ⟨by rfl, fun _ _ => rfl⟩) hHeld ?_
          simp only [Act.put, List.setIfInBounds_toArray, List.set_cons_zero, List.set_cons_succ]
          refine wpAnyH_take (i := 2) (oi := ⟨some 89, .move (.tmp 1), _, _, _, none⟩) (v := .int .i64 4) rfl (by kernel_rfl) (by kernel_rfl) (by kernel_rfl) (fun _ _ _ h => h) (Or.inl ⟨by rfl, fun _ _ => rfl⟩) hHeld ?_
          simp only [Act.put, List.setIfInBounds_toArray, List.set_cons_zero, List.set_cons_succ]
          refine wpAnyH_take (i := 3) (oi := ⟨some 90, .convert 3 22 (.tmp 89), _, _, _, none⟩) (v := .int .u32 4) rfl (by kernel_rfl) (by kernel_rfl) (by kernel_rfl) (fun _ _ _ h => h) (Or.inl ⟨by rfl, fun w _ => by go_simp⟩) hHeld ?_
          simp only [Act.put, List.setIfInBounds_toArray, List.set_cons_zero, List.set_cons_succ]
          refine wpAnyH_ready (rs := [4, 10]) (by kernel_rfl) (by simp) (AllReadyH.cons (o := ⟨some 91, .call { callee := .value (.func 23), args := #[.const (.int .i64 2), .tmp 90], argTypes := #[3, 22] }, _, _, _, none⟩) rfl (fun K' hK => ?_) (AllReadyH.cons (o := ⟨some 12, .alloc 26, _, _, _, none⟩) rfl (fun K' hK => ?_) AllReadyH.nil))
          · go_simp
            (with_reducible refine (out_any 2 4 _).mono ?_)
            rintro e v14a ⟨rfl, l1⟩
            replace b10 := b10.keep l1
            replace lw := Later.trans_ lw l1
            try replace bn := bn.keep l1
            refine hK.out _ _ (show World.rangeAt _ w2.heap.size 0 y.cells from b10.range 0 14) (fun hHeld => ?_)
            clear hK K'
            try simp only [Act.put, List.setIfInBounds_toArray, List.set_cons_zero, List.set_cons_succ]
            refine wpAnyH_ready (rs := [5, 10]) (by kernel_rfl) (by simp) (AllReadyH.cons (o := ⟨some 92, .call { callee := .value (.func 12), args := #[.tmp 87, .tmp 88, .tmp 91], argTypes := #[26, 3, 28] }, _, _, _, none⟩) rfl (fun K' hK => ?_) (AllReadyH.cons (o := ⟨some 12, .alloc 26, _, _, _, none⟩) rfl (fun K' hK => ?_) AllReadyH.nil))
            · go_simp
              (with_reducible refine (KP1.out _).mono ?_)
              rintro e v14b ⟨rfl, l1⟩
              replace b10 := b10.keep l1
              replace lw := Later.trans_ lw l1
              try replace bn := bn.keep l1
              refine hK.out _ _ (show World.rangeAt _ w2.heap.size 0 y.cells from b10.range 0 14) (fun hHeld => ?_)
              clear hK K'
              try simp only [Act.put, List.setIfInBounds_toArray, List.set_cons_zero, List.set_cons_succ]
              refine wpAnyH_take (i := 6) (oi := ⟨some 86, .move (.tmp 92), _, _, _, none⟩) (v := (.tuple #[.agg q.cells.toArray, .int .u32 0, .int .i64 0])) rfl (by kernel_rfl) (by kernel_rfl) (by kernel_rfl) (fun _ _ _ h => h) (Or.inl ⟨by rfl, fun _ _ => rfl⟩) hHeld ?_
              simp only [Act.put, List.setIfInBounds_toArray, List.set_cons_zero, List.set_cons_succ]
              refine wpAnyH_take (i := 7) (oi := ⟨some 93, .extract (.tmp 86) 0, _, _, _, none⟩) (v := .agg q.cells.toArray) rfl (by kernel_rfl) (by kernel_rfl) (by kernel_rfl) (fun _ _ _ h => h) (Or.inl ⟨by rfl, fun w _ => by go_simp⟩) hHeld ?_
              simp only [Act.put, List.setIfInBounds_toArray, List.set_cons_zero, List.set_cons_succ]
              refine wpAnyH_take (i := 8) (oi := ⟨some 94, .extract (.tmp 86) 1, _, _, _, none⟩) (v := .int .u32 0) rfl (by kernel_rfl) (by kernel_rfl) (by kernel_rfl) (fun _ _ _ h => h) (Or.inl ⟨by rfl, fun w _ => by go_simp⟩) hHeld ?_
              simp only [Act.put, List.setIfInBounds_toArray, List.set_cons_zero, List.set_cons_succ]
              refine wpAnyH_take (i := 9) (oi := ⟨some 95, .extract (.tmp 86) 2, _, _, _, none⟩) (v := .int .i64 0) rfl (by kernel_rfl) (by kernel_rfl) (by kernel_rfl) (fun _ _ _ h => h) (Or.inl ⟨by rfl, fun w _ => by go_simp⟩) hHeld ?_
              simp only [Act.put, List.setIfInBounds_toArray, List.set_cons_zero, List.set_cons_succ]
              refine wpAnyH_ready (rs := [10]) (by kernel_rfl) (by simp) (AllReadyH.cons (o := ⟨some 12, .alloc 26, _, _, _, none⟩) rfl (fun K' hK => ?_) AllReadyH.nil)
              go_simp
              have nb10 := Nat.ne_of_lt b10.lt
              have m2 := lw.size
              have bn := Blk.new v14b 26 zK.cells.toArray zK.cells rfl
              replace b10 := b10.alloc (.cells zK.cells.toArray 26)
              replace lw := lw.alloc m2 (.cells zK.cells.toArray 26)
              refine hK.out _ _ (show World.rangeAt _ w2.heap.size 0 y.cells from b10.range 0 14) (fun hHeld => ?_)
              clear hK K'
              try simp only [Act.put, List.setIfInBounds_toArray, List.set_cons_zero, List.set_cons_succ]
              refine wpAnyH_ready (rs := [11]) (by kernel_rfl) (by simp) (AllReadyH.cons (o := ⟨none, .store 26 (.tmp 12) (.tmp 93), _, _, _, none⟩) rfl (fun K' hK => ?_) AllReadyH.nil)
              refine wp_store_blk 26 _ _ rfl v14b.heap.size 26 zK.cells q.cells rfl rfl bn (ctl_sz _) rfl (ctl_one _) ?_
              intro wq2 bq oq
              replace b10 := b10.only oq nb10
              replace lw := Below.only lw oq m2
              clear bn
              have bn := bq
              clear bq oq
              refine hK.out _ _ (show World.rangeAt _ w2.heap.size 0 y.cells from b10.range 0 14) (fun hHeld => ?_)
              clear hK K'
              try simp only [Act.put]
              refine wpAnyH_take (i := 12) (oi := ⟨some 13, .assign (.tmp 94), _, _, _, none⟩) (v := .int .u32 0) rfl (by kernel_rfl) (by kernel_rfl) (by kernel_rfl) (fun _ _ _ h => h) (Or.inl ⟨by rfl, fun _ _ => rfl⟩) hHeld ?_
              simp only [Act.put, List.setIfInBounds_toArray, List.set_cons_zero, List.set_cons_succ]
              refine wpAnyH_take (i := 13) (oi := ⟨some 14, .assign (.tmp 95), _, _, _, none⟩) (v := .int .i64 0) rfl (by kernel_rfl) (by kernel_rfl) (by kernel_rfl) (fun _ _ _ h => h) (Or.inl ⟨by rfl, fun _ _ => rfl⟩) hHeld ?_
              simp only [Act.put, List.setIfInBounds_toArray, List.set_cons_zero, List.set_cons_succ]
              refine wpAnyH_done (by kernel_rfl) ?_ _
              clear hHeld
              go_wp2
              go_meet
              exact ⟨_, rfl, rfl, bn, lw⟩
            · go_simp
              have nb10 := Nat.ne_of_lt b10.lt
              have m2 := lw.size
              have bn := Blk.new v14a 26 zK.cells.toArray zK.cells rfl
              replace b10 := b10.alloc (.cells zK.cells.toArray 26)
              replace lw := lw.alloc m2 (.cells zK.cells.toArray 26)
              refine hK.out _ _ (show World.rangeAt _ w2.heap.size 0 y.cells from b10.range 0 14) (fun hHeld => ?_)
              clear hK K'
              try simp only [Act.put, List.setIfInBounds_toArray, List.set_cons_zero, List.set_cons_succ]
              refine wpAnyH_ready (rs := [5]) (by kernel_rfl) (by simp) (AllReadyH.cons (o := ⟨some 92, .call { callee := .value (.func 12), args := #[.tmp 87, .tmp 88, .tmp 91], argTypes := #[26, 3, 28] }, _, _, _, none⟩) rfl (fun K' hK => ?_) AllReadyH.nil)
              go_simp
              (with_reducible refine (KP1.out _).mono ?_)
              rintro e v14b ⟨rfl, l1⟩
              replace b10 := b10.keep l1
              replace lw := Later.trans_ lw l1
              try replace bn := bn.keep l1
              refine hK.out _ _ (show World.rangeAt _ w2.heap.size 0 y.cells from b10.range 0 14) (fun hHeld => ?_)
              clear hK K'
              try simp only [Act.put, List.setIfInBounds_toArray, List.set_cons_zero, List.set_cons_succ]
              refine wpAnyH_take (i := 6) (oi := ⟨some 86, .move (.tmp 92), _, _, _, none⟩) (v := (.tuple #[.agg q.cells.toArray, .int .u32 0, .int .i64 0])) rfl (by kernel_rfl) (by kernel_rfl) (by kernel_rfl) (fun _ _ _ h => h) (Or.inl ⟨by rfl, fun _ _ => rfl⟩) hHeld ?_
              simp only [Act.put, List.setIfInBounds_toArray, List.set_cons_zero, List.set_cons_succ]
              refine wpAnyH_take (i := 7) (oi := ⟨some 93, .extract (.tmp 86) 0, _, _, _, none⟩) (v := .agg q.cells.toArray) rfl (by kernel_rfl) (by kernel_rfl) (by kernel_rfl) (fun _ _ _ h => h) (Or.inl ⟨by rfl, fun w _ => by go_simp⟩) hHeld ?_
              simp only [Act.put, List.setIfInBounds_toArray, List.set_cons_zero, List.set_cons_succ]
              refine wpAnyH_take (i := 8) (oi := ⟨some 94, .extract (.tmp 86) 1, _, _, _, none⟩) (v := .int .u32 0) rfl (by kernel_rfl) (by kernel_rfl) (by kernel_rfl) (fun _ _ _ h => h) (Or.inl ⟨by rfl, fun w _ => by go_simp⟩) hHeld ?_
              simp only [Act.put, List.setIfInBounds_toArray, List.set_cons_zero, List.set_cons_succ]
              refine wpAnyH_take (i := 9) (oi := ⟨some 95, .extract (.tmp 86) 2, _, _, _, none⟩) (v := .int .i64 0) rfl (by kernel_rfl) (by kernel_rfl) (by kernel_rfl) (fun _ _ _ h => h) (Or.inl ⟨by rfl, fun w _ => by go_simp⟩) hHeld ?_
              simp only [Act.put, List.setIfInBounds_toArray, List.set_cons_zero, List.set_cons_succ]
              refine wpAnyH_ready (rs := [11]) (by kernel_rfl) (by simp) (AllReadyH.cons (o := ⟨none, .store 26 (.tmp 12) (.tmp 93), _, _, _, none⟩) rfl (fun K' hK => ?_) AllReadyH.nil)
              refine wp_store_blk 26 _ _ rfl v14a.heap.size 26 zK.cells q.cells rfl rfl bn (ctl_sz _) rfl (ctl_one _) ?_
              intro wq2 bq oq
              replace b10 := b10.only oq nb10
              replace lw := Below.only lw oq m2
              clear bn
              have bn := bq
              clear bq oq
              refine hK.out _ _ (show World.rangeAt _ w2.heap.size 0 y.cells from b10.range 0 14) (fun hHeld => ?_)
              clear hK K'
              try simp only [Act.put]
              refine wpAnyH_take (i := 12) (oi := ⟨some 13, .assign (.tmp 94), _, _, _, none⟩) (v := .int .u32 0) rfl (by kernel_rfl) (by kernel_rfl) (by kernel_rfl) (fun _ _ _ h => h) (Or.inl ⟨by rfl, fun _ _ => rfl⟩) hHeld ?_
              simp only [Act.put, List.setIfInBounds_toArray, List.set_cons_zero, List.set_cons_succ]
              refine wpAnyH_take (i := 13) (oi := ⟨some 14, .assign (.tmp 95), _, _, _, none⟩) (v := .int .i64 0) rfl (by kernel_rfl) (by kernel_rfl) (by kernel_rfl) (fun _ _ _ h => h) (Or.inl ⟨by rfl, fun _ _ => rfl⟩) hHeld ?_
              simp only [Act.put, List.setIfInBounds_toArray, List.set_cons_zero, List.set_cons_succ]
              refine wpAnyH_done (by kernel_rfl) ?_ _
              clear hHeld
              go_wp2
              go_meet
              exact ⟨_, rfl, rfl, bn, lw⟩
          · go_simp
            have nb10 := Nat.ne_of_lt b10.lt
            have m2 := lw.size
            have bn := Blk.new v6.drew 26 zK.cells.toArray zK.cells rfl
            replace b10 := b10.alloc (.cells zK.cells.toArray 26)
            replace lw := lw.alloc m2 (.cells zK.cells.toArray 26)
            refine hK.out _ _ (show World.rangeAt _ w2.heap.size 0 y.cells from b10.range 0 14) (fun hHeld => ?_)
            clear hK K'
            try simp only [Act.put, List.setIfInBounds_toArray, List.set_cons_zero, List.set_cons_succ]
            refine wpAnyH_ready (rs := [4]) (by kernel_rfl) (by simp) (AllReadyH.cons (o := ⟨some 91, .call { callee := .value (.func 23), args := #[.const (.int .i64 2), .tmp 90], argTypes := #[3, 22] }, _, _, _, none⟩) rfl (fun K' hK => ?_) AllReadyH.nil)
            go_simp
            (with_reducible refine (out_any 2 4 _).mono ?_)
            rintro e v14a ⟨rfl, l1⟩
            replace b10 := b10.keep l1
            replace lw := Later.trans_ lw l1
            try replace bn := bn.keep l1
            refine hK.out _ _ (show World.rangeAt _ w2.heap.size 0 y.cells from b10.range 0 14) (fun hHeld => ?_)
            clear hK K'
            try simp only [Act.put, List.setIfInBounds_toArray, List.set_cons_zero, List.set_cons_succ]
            refine wpAnyH_ready (rs := [5]) (by kernel_rfl) (by simp) (AllReadyH.cons (o := ⟨some 92, .call { callee := .value (.func 12), args := #[.tmp 87, .tmp 88, .tmp 91], argTypes := #[26, 3, 28] }, _, _, _, none⟩) rfl (fun K' hK => ?_) AllReadyH.nil)
            go_simp
            (with_reducible refine (KP1.out _).mono ?_)
            rintro e v14b ⟨rfl, l1⟩
            replace b10 := b10.keep l1
            replace lw := Later.trans_ lw l1
            try replace bn := bn.keep l1
            refine hK.out _ _ (show World.rangeAt _ w2.heap.size 0 y.cells from b10.range 0 14) (fun hHeld => ?_)
            clear hK K'
            try simp only [Act.put, List.setIfInBounds_toArray, List.set_cons_zero, List.set_cons_succ]
            refine wpAnyH_take (i := 6) (oi := ⟨some 86, .move (.tmp 92), _, _, _, none⟩) (v := (.tuple #[.agg q.cells.toArray, .int .u32 0, .int .i64 0])) rfl (by kernel_rfl) (by kernel_rfl) (by kernel_rfl) (fun _ _ _ h => h) (Or.inl ⟨by rfl, fun _ _ => rfl⟩) hHeld ?_
            simp only [Act.put, List.setIfInBounds_toArray, List.set_cons_zero, List.set_cons_succ]
            refine wpAnyH_take (i := 7) (oi := ⟨some 93, .extract (.tmp 86) 0, _, _, _, none⟩) (v := .agg q.cells.toArray) rfl (by kernel_rfl) (by kernel_rfl) (by kernel_rfl) (fun _ _ _ h => h) (Or.inl ⟨by rfl, fun w _ => by go_simp⟩) hHeld ?_
            simp only [Act.put, List.setIfInBounds_toArray, List.set_cons_zero, List.set_cons_succ]
            refine wpAnyH_take (i := 8) (oi := ⟨some 94, .extract (.tmp 86) 1, _, _, _, none⟩) (v := .int .u32 0) rfl (by kernel_rfl) (by kernel_rfl) (by kernel_rfl) (fun _ _ _ h => h) (Or.inl ⟨by rfl, fun w _ => by go_simp⟩) hHeld ?_
            simp only [Act.put, List.setIfInBounds_toArray, List.set_cons_zero, List.set_cons_succ]
            refine wpAnyH_take (i := 9) (oi := ⟨some 95, .extract (.tmp 86) 2, _, _, _, none⟩) (v := .int .i64 0) rfl (by kernel_rfl) (by kernel_rfl) (by kernel_rfl) (fun _ _ _ h => h) (Or.inl ⟨by rfl, fun w _ => by go_simp⟩) hHeld ?_
            simp only [Act.put, List.setIfInBounds_toArray, List.set_cons_zero, List.set_cons_succ]
            refine wpAnyH_ready (rs := [11]) (by kernel_rfl) (by simp) (AllReadyH.cons (o := ⟨none, .store 26 (.tmp 12) (.tmp 93), _, _, _, none⟩) rfl (fun K' hK => ?_) AllReadyH.nil)
            refine wp_store_blk 26 _ _ rfl v6.heap.size 26 zK.cells q.cells rfl rfl bn (ctl_sz _) rfl (ctl_one _) ?_
            intro wq2 bq oq
            replace b10 := b10.only oq nb10
            replace lw := Below.only lw oq m2
            clear bn
            have bn := bq
            clear bq oq
            refine hK.out _ _ (show World.rangeAt _ w2.heap.size 0 y.cells from b10.range 0 14) (fun hHeld => ?_)
            clear hK K'
            try simp only [Act.put]
            refine wpAnyH_take (i := 12) (oi := ⟨some 13, .assign (.tmp 94), _, _, _, none⟩) (v := .int .u32 0) rfl (by kernel_rfl) (by kernel_rfl) (by kernel_rfl) (fun _ _ _ h => h) (Or.inl ⟨by rfl, fun _ _ => rfl⟩) hHeld ?_
            simp only [Act.put, List.setIfInBounds_toArray, List.set_cons_zero, List.set_cons_succ]
            refine wpAnyH_take (i := 13) (oi := ⟨some 14, .assign (.tmp 95), _, _, _, none⟩) (v := .int .i64 0) rfl (by kernel_rfl) (by kernel_rfl) (by kernel_rfl) (fun _ _ _ h => h) (Or.inl ⟨by rfl, fun _ _ => rfl⟩) hHeld ?_
            simp only [Act.put, List.setIfInBounds_toArray, List.set_cons_zero, List.set_cons_succ]
            refine wpAnyH_done (by kernel_rfl) ?_ _
            clear hHeld
            go_wp2
            go_meet
            exact ⟨_, rfl, rfl, bn, lw⟩
        case rest =>
          clear b10 b4 lw KP1
          obtain ⟨g12, rfl, rfl, b12, lw⟩ := hcut
          go_upto_region 15 with fail
          go_cut [15, 17] (fun q15 q17 wx => ∃ g : Nat, q15 = .pointer (some ⟨g, 0, none⟩) ∧ q17 = .int .i64 0 ∧ Blk wx g 26 q.cells ∧ Blk wx g12 26 q.cells ∧ Later w wx)
          case first =>
            replace b12 := b12.drew
            replace lw := lw.drew
            refine wp_region_held_drew (S := fun w' => World.rangeAt w' g12 0 q.cells) (by kernel_rfl) (show World.rangeAt _ g12 0 q.cells from b12.range 0 14) (fun hHeld => ?_)
            refine wpAnyH_take (i := 0) (oi := ⟨some 97, .load 26 (.tmp 12), _, _, _, none⟩) (v := .agg q.cells.toArray) rfl (by kernel_rfl) (by kernel_rfl) (by kernel_rfl) (fun _ _ _ h => h) (yieldsIf_load_mid (by rfl) _ _ rfl _ _ rfl q.cells _ (fun w h => h) Try.underlying26 rfl (ctl_sz _)) hHeld ?_
            simp only [Act.put, List.setIfInBounds_toArray, List.set_cons_zero, List.set_cons_succ]
            refine wpAnyH_take (i := 1) (oi := ⟨some 98, .move (.tmp 11), _, _, _, none⟩) (v := .int .i64 (k : Int)) rfl (by kernel_rfl) (by kernel_rfl) (by kernel_rfl) (fun _ _ _ h => h) (Or.inl ⟨by rfl, fun _ _ => rfl⟩) hHeld ?_
            simp only [Act.put, List.setIfInBounds_toArray, List.set_cons_zero, List.set_cons_succ]
            refine wpAnyH_take (i := 2) (oi := ⟨some 99, .move (.tmp 1), _, _, _, none⟩) (v := .int .i64 4) rfl (by kernel_rfl) (by kernel_rfl) (by kernel_rfl) (fun _ _ _ h => h) (Or.inl ⟨by rfl, fun _ _ => rfl⟩) hHeld ?_
            simp only [Act.put, List.setIfInBounds_toArray, List.set_cons_zero, List.set_cons_succ]
            refine wpAnyH_take (i := 3) (oi := ⟨some 100, .convert 3 22 (.tmp 99), _, _, _, none⟩) (v := .int .u32 4) rfl (by kernel_rfl) (by kernel_rfl) (by kernel_rfl) (fun _ _ _ h => h) (Or.inl ⟨by rfl, fun w _ => by go_simp⟩) hHeld ?_
            simp only [Act.put, List.setIfInBounds_toArray, List.set_cons_zero, List.set_cons_succ]
            refine wpAnyH_ready (rs := [4, 10]) (by kernel_rfl) (by simp) (AllReadyH.cons (o := ⟨some 101, .call { callee := .value (.func 23), args := #[.const (.int .i64 2), .tmp 100], argTypes := #[3, 22] }, _, _, _, none⟩) rfl (fun K' hK => ?_) (AllReadyH.cons (o := ⟨some 15, .alloc 26, _, _, _, none⟩) rfl (fun K' hK => ?_) AllReadyH.nil))
            · go_simp
              (with_reducible refine (out_any 2 4 _).mono ?_)
              rintro e v15a ⟨rfl, l1⟩
              replace b12 := b12.keep l1
              replace lw := Later.trans_ lw l1
              try replace bn := bn.keep l1
              refine hK.out _ _ (show World.rangeAt _ g12 0 q.cells from b12.range 0 14) (fun hHeld => ?_)
              clear hK K'
              try simp only [Act.put, List.setIfInBounds_toArray, List.set_cons_zero, List.set_cons_succ]
              refine wpAnyH_ready (rs := [5, 10]) (by kernel_rfl) (by simp) (AllReadyH.cons (o := ⟨some 102, .call { callee := .value (.func 12), args := #[.tmp 97, .tmp 98, .tmp 101], argTypes := #[26, 3, 28] }, _, _, _, none⟩) rfl (fun K' hK => ?_) (AllReadyH.cons (o := ⟨some 15, .alloc 26, _, _, _, none⟩) rfl (fun K' hK => ?_) AllReadyH.nil))
              · go_simp
                (with_reducible refine (KP2.out _).mono ?_)
                rintro e v15b ⟨rfl, l1⟩
                replace b12 := b12.keep l1
                replace lw := Later.trans_ lw l1
                try replace bn := bn.keep l1
                refine hK.out _ _ (show World.rangeAt _ g12 0 q.cells from b12.range 0 14) (fun hHeld => ?_)
                clear hK K'
                try simp only [Act.put, List.setIfInBounds_toArray, List.set_cons_zero, List.set_cons_succ]
                refine wpAnyH_take (i := 6) (oi := ⟨some 96, .move (.tmp 102), _, _, _, none⟩) (v := (.tuple #[.agg q.cells.toArray, .int .u32 0, .int .i64 0])) rfl (by kernel_rfl) (by kernel_rfl) (by kernel_rfl) (fun _ _ _ h => h) (Or.inl ⟨by rfl, fun _ _ => rfl⟩) hHeld ?_
                simp only [Act.put, List.setIfInBounds_toArray, List.set_cons_zero, List.set_cons_succ]
                refine wpAnyH_take (i := 7) (oi := ⟨some 103, .extract (.tmp 96) 0, _, _, _, none⟩) (v := .agg q.cells.toArray) rfl (by kernel_rfl) (by kernel_rfl) (by kernel_rfl) (fun _ _ _ h => h) (Or.inl ⟨by rfl, fun w _ => by go_simp⟩) hHeld ?_
                simp only [Act.put, List.setIfInBounds_toArray, List.set_cons_zero, List.set_cons_succ]
                refine wpAnyH_take (i := 8) (oi := ⟨some 104, .extract (.tmp 96) 1, _, _, _, none⟩) (v := .int .u32 0) rfl (by kernel_rfl) (by kernel_rfl) (by kernel_rfl) (fun _ _ _ h => h) (Or.inl ⟨by rfl, fun w _ => by go_simp⟩) hHeld ?_
                simp only [Act.put, List.setIfInBounds_toArray, List.set_cons_zero, List.set_cons_succ]
                refine wpAnyH_take (i := 9) (oi := ⟨some 105, .extract (.tmp 96) 2, _, _, _, none⟩) (v := .int .i64 0) rfl (by kernel_rfl) (by kernel_rfl) (by kernel_rfl) (fun _ _ _ h => h) (Or.inl ⟨by rfl, fun w _ => by go_simp⟩) hHeld ?_
                simp only [Act.put, List.setIfInBounds_toArray, List.set_cons_zero, List.set_cons_succ]
                refine wpAnyH_ready (rs := [10]) (by kernel_rfl) (by simp) (AllReadyH.cons (o := ⟨some 15, .alloc 26, _, _, _, none⟩) rfl (fun K' hK => ?_) AllReadyH.nil)
                go_simp
                have nb12 := Nat.ne_of_lt b12.lt
                have m2 := lw.size
                have bn := Blk.new v15b 26 zK.cells.toArray zK.cells rfl
                replace b12 := b12.alloc (.cells zK.cells.toArray 26)
                replace lw := lw.alloc m2 (.cells zK.cells.toArray 26)
                refine hK.out _ _ (show World.rangeAt _ g12 0 q.cells from b12.range 0 14) (fun hHeld => ?_)
                clear hK K'
                try simp only [Act.put, List.setIfInBounds_toArray, List.set_cons_zero, List.set_cons_succ]
                refine wpAnyH_ready (rs := [11]) (by kernel_rfl) (by simp) (AllReadyH.cons (o := ⟨none, .store 26 (.tmp 15) (.tmp 103), _, _, _, none⟩) rfl (fun K' hK => ?_) AllReadyH.nil)
                refine wp_store_blk 26 _ _ rfl v15b.heap.size 26 zK.cells q.cells rfl rfl bn (ctl_sz _) rfl (ctl_one _) ?_
                intro wq2 bq oq
                replace b12 := b12.only oq nb12
                replace lw := Below.only lw oq m2
                clear bn
                have bn := bq
                clear bq oq
                refine hK.out _ _ (show World.rangeAt _ g12 0 q.cells from b12.range 0 14) (fun hHeld => ?_)
                clear hK K'
                try simp only [Act.put]
                refine wpAnyH_take (i := 12) (oi := ⟨some 16, .assign (.tmp 104), _, _, _, none⟩) (v := .int .u32 0) rfl (by kernel_rfl) (by kernel_rfl) (by kernel_rfl) (fun _ _ _ h => h) (Or.inl ⟨by rfl, fun _ _ => rfl⟩) hHeld ?_
                simp only [Act.put, List.setIfInBounds_toArray, List.set_cons_zero, List.set_cons_succ]
                refine wpAnyH_take (i := 13) (oi := ⟨some 17, .assign (.tmp 105), _, _, _, none⟩) (v := .int .i64 0) rfl (by kernel_rfl) (by kernel_rfl) (by kernel_rfl) (fun _ _ _ h => h) (Or.inl ⟨by rfl, fun _ _ => rfl⟩) hHeld ?_
                simp only [Act.put, List.setIfInBounds_toArray, List.set_cons_zero, List.set_cons_succ]
                refine wpAnyH_done (by kernel_rfl) ?_ _
                clear hHeld
                go_wp2
                go_meet
                exact ⟨_, rfl, rfl, bn, b12, lw⟩
              · go_simp
                have nb12 := Nat.ne_of_lt b12.lt
                have m2 := lw.size
                have bn := Blk.new v15a 26 zK.cells.toArray zK.cells rfl
                replace b12 := b12.alloc (.cells zK.cells.toArray 26)
                replace lw := lw.alloc m2 (.cells zK.cells.toArray 26)
                refine hK.out _ _ (show World.rangeAt _ g12 0 q.cells from b12.range 0 14) (fun hHeld => ?_)
                clear hK K'
                try simp only [Act.put, List.setIfInBounds_toArray, List.set_cons_zero, List.set_cons_succ]
                refine wpAnyH_ready (rs := [5]) (by kernel_rfl) (by simp) (AllReadyH.cons (o := ⟨some 102, .call { callee := .value (.func 12), args := #[.tmp 97, .tmp 98, .tmp 101], argTypes := #[26, 3, 28] }, _, _, _, none⟩) rfl (fun K' hK => ?_) AllReadyH.nil)
                go_simp
                (with_reducible refine (KP2.out _).mono ?_)
                rintro e v15b ⟨rfl, l1⟩
                replace b12 := b12.keep l1
                replace lw := Later.trans_ lw l1
                try replace bn := bn.keep l1
                refine hK.out _ _ (show World.rangeAt _ g12 0 q.cells from b12.range 0 14) (fun hHeld => ?_)
                clear hK K'
                try simp only [Act.put, List.setIfInBounds_toArray, List.set_cons_zero, List.set_cons_succ]
                refine wpAnyH_take (i := 6) (oi := ⟨some 96, .move (.tmp 102), _, _, _, none⟩) (v := (.tuple #[.agg q.cells.toArray, .int .u32 0, .int .i64 0])) rfl (by kernel_rfl) (by kernel_rfl) (by kernel_rfl) (fun _ _ _ h => h) (Or.inl ⟨by rfl, fun _ _ => rfl⟩) hHeld ?_
                simp only [Act.put, List.setIfInBounds_toArray, List.set_cons_zero, List.set_cons_succ]
                refine wpAnyH_take (i := 7) (oi := ⟨some 103, .extract (.tmp 96) 0, _, _, _, none⟩) (v := .agg q.cells.toArray) rfl (by kernel_rfl) (by kernel_rfl) (by kernel_rfl) (fun _ _ _ h => h) (Or.inl ⟨by rfl, fun w _ => by go_simp⟩) hHeld ?_
                simp only [Act.put, List.setIfInBounds_toArray, List.set_cons_zero, List.set_cons_succ]
                refine wpAnyH_take (i := 8) (oi := ⟨some 104, .extract (.tmp 96) 1, _, _, _, none⟩) (v := .int .u32 0) rfl (by kernel_rfl) (by kernel_rfl) (by kernel_rfl) (fun _ _ _ h => h) (Or.inl ⟨by rfl, fun w _ => by go_simp⟩) hHeld ?_
                simp only [Act.put, List.setIfInBounds_toArray, List.set_cons_zero, List.set_cons_succ]
                refine wpAnyH_take (i := 9) (oi := ⟨some 105, .extract (.tmp 96) 2, _, _, _, none⟩) (v := .int .i64 0) rfl (by kernel_rfl) (by kernel_rfl) (by kernel_rfl) (fun _ _ _ h => h) (Or.inl ⟨by rfl, fun w _ => by go_simp⟩) hHeld ?_
                simp only [Act.put, List.setIfInBounds_toArray, List.set_cons_zero, List.set_cons_succ]
                refine wpAnyH_ready (rs := [11]) (by kernel_rfl) (by simp) (AllReadyH.cons (o := ⟨none, .store 26 (.tmp 15) (.tmp 103), _, _, _, none⟩) rfl (fun K' hK => ?_) AllReadyH.nil)
                refine wp_store_blk 26 _ _ rfl v15a.heap.size 26 zK.cells q.cells rfl rfl bn (ctl_sz _) rfl (ctl_one _) ?_
                intro wq2 bq oq
                replace b12 := b12.only oq nb12
                replace lw := Below.only lw oq m2
                clear bn
                have bn := bq
                clear bq oq
                refine hK.out _ _ (show World.rangeAt _ g12 0 q.cells from b12.range 0 14) (fun hHeld => ?_)
                clear hK K'
                try simp only [Act.put]
                refine wpAnyH_take (i := 12) (oi := ⟨some 16, .assign (.tmp 104), _, _, _, none⟩) (v := .int .u32 0) rfl (by kernel_rfl) (by kernel_rfl) (by kernel_rfl) (fun _ _ _ h => h) (Or.inl ⟨by rfl, fun _ _ => rfl⟩) hHeld ?_
                simp only [Act.put, List.setIfInBounds_toArray, List.set_cons_zero, List.set_cons_succ]
                refine wpAnyH_take (i := 13) (oi := ⟨some 17, .assign (.tmp 105), _, _, _, none⟩) (v := .int .i64 0) rfl (by kernel_rfl) (by kernel_rfl) (by kernel_rfl) (fun _ _ _ h => h) (Or.inl ⟨by rfl, fun _ _ => rfl⟩) hHeld ?_
                simp only [Act.put, List.setIfInBounds_toArray, List.set_cons_zero, List.set_cons_succ]
                refine wpAnyH_done (by kernel_rfl) ?_ _
                clear hHeld
                go_wp2
                go_meet
                exact ⟨_, rfl, rfl, bn, b12, lw⟩
            · go_simp
              have nb12 := Nat.ne_of_lt b12.lt
              have m2 := lw.size
              have bn := Blk.new wc.drew 26 zK.cells.toArray zK.cells rfl
              replace b12 := b12.alloc (.cells zK.cells.toArray 26)
              replace lw := lw.alloc m2 (.cells zK.cells.toArray 26)
              refine hK.out _ _ (show World.rangeAt _ g12 0 q.cells from b12.range 0 14) (fun hHeld => ?_)
              clear hK K'
              try simp only [Act.put, List.setIfInBounds_toArray, List.set_cons_zero, List.set_cons_succ]
              refine wpAnyH_ready (rs := [4]) (by kernel_rfl) (by simp) (AllReadyH.cons (o := ⟨some 101, .call { callee := .value (.func 23), args := #[.const (.int .i64 2), .tmp 100], argTypes := #[3, 22] }, _, _, _, none⟩) rfl (fun K' hK => ?_) AllReadyH.nil)
              go_simp
              (with_reducible refine (out_any 2 4 _).mono ?_)
              rintro e v15a ⟨rfl, l1⟩
              replace b12 := b12.keep l1
              replace lw := Later.trans_ lw l1
              try replace bn := bn.keep l1
              refine hK.out _ _ (show World.rangeAt _ g12 0 q.cells from b12.range 0 14) (fun hHeld => ?_)
              clear hK K'
              try simp only [Act.put, List.setIfInBounds_toArray, List.set_cons_zero, List.set_cons_succ]
              refine wpAnyH_ready (rs := [5]) (by kernel_rfl) (by simp) (AllReadyH.cons (o := ⟨some 102, .call { callee := .value (.func 12), args := #[.tmp 97, .tmp 98, .tmp 101], argTypes := #[26, 3, 28] }, _, _, _, none⟩) rfl (fun K' hK => ?_) AllReadyH.nil)
              go_simp
              (with_reducible refine (KP2.out _).mono ?_)
              rintro e v15b ⟨rfl, l1⟩
              replace b12 := b12.keep l1
              replace lw := Later.trans_ lw l1
              try replace bn := bn.keep l1
              refine hK.out _ _ (show World.rangeAt _ g12 0 q.cells from b12.range 0 14) (fun hHeld => ?_)
              clear hK K'
              try simp only [Act.put, List.setIfInBounds_toArray, List.set_cons_zero, List.set_cons_succ]
              refine wpAnyH_take (i := 6) (oi := ⟨some 96, .move (.tmp 102), _, _, _, none⟩) (v := (.tuple #[.agg q.cells.toArray, .int .u32 0, .int .i64 0])) rfl (by kernel_rfl) (by kernel_rfl) (by kernel_rfl) (fun _ _ _ h => h) (Or.inl ⟨by rfl, fun _ _ => rfl⟩) hHeld ?_
              simp only [Act.put, List.setIfInBounds_toArray, List.set_cons_zero, List.set_cons_succ]
              refine wpAnyH_take (i := 7) (oi := ⟨some 103, .extract (.tmp 96) 0, _, _, _, none⟩) (v := .agg q.cells.toArray) rfl (by kernel_rfl) (by kernel_rfl) (by kernel_rfl) (fun _ _ _ h => h) (Or.inl ⟨by rfl, fun w _ => by go_simp⟩) hHeld ?_
              simp only [Act.put, List.setIfInBounds_toArray, List.set_cons_zero, List.set_cons_succ]
              refine wpAnyH_take (i := 8) (oi := ⟨some 104, .extract (.tmp 96) 1, _, _, _, none⟩) (v := .int .u32 0) rfl (by kernel_rfl) (by kernel_rfl) (by kernel_rfl) (fun _ _ _ h => h) (Or.inl ⟨by rfl, fun w _ => by go_simp⟩) hHeld ?_
              simp only [Act.put, List.setIfInBounds_toArray, List.set_cons_zero, List.set_cons_succ]
              refine wpAnyH_take (i := 9) (oi := ⟨some 105, .extract (.tmp 96) 2, _, _, _, none⟩) (v := .int .i64 0) rfl (by kernel_rfl) (by kernel_rfl) (by kernel_rfl) (fun _ _ _ h => h) (Or.inl ⟨by rfl, fun w _ => by go_simp⟩) hHeld ?_
              simp only [Act.put, List.setIfInBounds_toArray, List.set_cons_zero, List.set_cons_succ]
              refine wpAnyH_ready (rs := [11]) (by kernel_rfl) (by simp) (AllReadyH.cons (o := ⟨none, .store 26 (.tmp 15) (.tmp 103), _, _, _, none⟩) rfl (fun K' hK => ?_) AllReadyH.nil)
              refine wp_store_blk 26 _ _ rfl wc.heap.size 26 zK.cells q.cells rfl rfl bn (ctl_sz _) rfl (ctl_one _) ?_
              intro wq2 bq oq
              replace b12 := b12.only oq nb12
              replace lw := Below.only lw oq m2
              clear bn
              have bn := bq
              clear bq oq
              refine hK.out _ _ (show World.rangeAt _ g12 0 q.cells from b12.range 0 14) (fun hHeld => ?_)
              clear hK K'
              try simp only [Act.put]
              refine wpAnyH_take (i := 12) (oi := ⟨some 16, .assign (.tmp 104), _, _, _, none⟩) (v := .int .u32 0) rfl (by kernel_rfl) (by kernel_rfl) (by kernel_rfl) (fun _ _ _ h => h) (Or.inl ⟨by rfl, fun _ _ => rfl⟩) hHeld ?_
              simp only [Act.put, List.setIfInBounds_toArray, List.set_cons_zero, List.set_cons_succ]
              refine wpAnyH_take (i := 13) (oi := ⟨some 17, .assign (.tmp 105), _, _, _, none⟩) (v := .int .i64 0) rfl (by kernel_rfl) (by kernel_rfl) (by kernel_rfl) (fun _ _ _ h => h) (Or.inl ⟨by rfl, fun _ _ => rfl⟩) hHeld ?_
              simp only [Act.put, List.setIfInBounds_toArray, List.set_cons_zero, List.set_cons_succ]
              refine wpAnyH_done (by kernel_rfl) ?_ _
              clear hHeld
              go_wp2
              go_meet
              exact ⟨_, rfl, rfl, bn, b12, lw⟩
          case rest =>
            clear b12 lw KP2
            obtain ⟨g15, rfl, rfl, b15, b12, lw⟩ := hcut
            go_wp2_with (first
              | (go_at_call 11; (with_reducible refine (KS.out _).mono ?_); rintro e w16 ⟨rfl, l16⟩; replace b12 := b12.keep l16; replace b15 := b15.keep l16; replace lw := Later.trans_ lw l16; have eq1 := b12.cell (ctl_r q ha4))
              | ((with_reducible refine wpList_load_g (o := ⟨some 126, .load 26 (.tmp 15), _, _, _, _⟩) _ _ rfl g15 26 q.cells _ ?_ ?_ ?_ Try.underlying26 ?_ (ctl_sz _) ?_); rfl; rfl; exact b15; rfl)
              | ((with_reducible refine wpList_load_g (o := ⟨some 127, .load 26 (.tmp 12), _, _, _, _⟩) _ _ rfl g12 26 q.cells _ ?_ ?_ ?_ Try.underlying26 ?_ (ctl_sz _) ?_); rfl; rfl; exact b12; rfl))
            go_ret
            exact ⟨rfl, lw⟩
    · have hyx : y = x := by rw [HY.out]; exact raise_out x k hl
      clear HY HYK HNY
      subst hyx
      by_cases h0 : ln < 0
      · have d0 : decide (ln < 0) = true := decide_eq_true h0
        go_wp2_with (first
  | (go_at_call 11; (with_reducible refine (KS.out _).mono ?_); rintro e w8 ⟨rfl, l8⟩; replace b4 := b4.keep l8; replace b10 := b10.keep l8; replace lw := Later.trans_ lw l8)
  | ((with_reducible refine wpList_load_g (o := ⟨some 59, .load 26 (.tmp 10), _, _, _, _⟩) _ _ rfl w2.heap.size 26 y.cells _ ?_ ?_ ?_ Try.underlying26 ?_ (ctl_sz _) ?_); rfl; rfl; exact b10; rfl)
  | ((with_reducible refine wpList_load_g (o := ⟨some 60, .load 26 (.tmp 4), _, _, _, _⟩) _ _ rfl w.heap.size 26 y.cells _ ?_ ?_ ?_ Try.underlying26 ?_ (ctl_sz _) ?_); rfl; rfl; exact b4; rfl))
        go_ret
        exact ⟨rfl, lw⟩
      · have d0 : decide (ln < 0) = false := decide_eq_false h0
        have d5 : decide (5 ≤ ln) = true := decide_eq_true (by omega)
        go_wp2_with (first
  | (go_at_call 11; (with_reducible refine (KS.out _).mono ?_); rintro e w8 ⟨rfl, l8⟩; replace b4 := b4.keep l8; replace b10 := b10.keep l8; replace lw := Later.trans_ lw l8)
  | ((with_reducible refine wpList_load_g (o := ⟨some 59, .load 26 (.tmp 10), _, _, _, _⟩) _ _ rfl w2.heap.size 26 y.cells _ ?_ ?_ ?_ Try.underlying26 ?_ (ctl_sz _) ?_); rfl; rfl; exact b10; rfl)
  | ((with_reducible refine wpList_load_g (o := ⟨some 60, .load 26 (.tmp 4), _, _, _, _⟩) _ _ rfl w.heap.size 26 y.cells _ ?_ ?_ ?_ Try.underlying26 ?_ (ctl_sz _) ?_); rfl; rfl; exact b4; rfl))
        go_ret
        exact ⟨rfl, lw⟩
  · have KV := Lib.hid fun w' => rvalid_no hx hok w'
    clear hok hx hcp
    go_enter Try.func7, Try.ntmps7
    go_wp2_with (first
      | ((with_reducible refine wpList_load_blk (o := ⟨some 18, .load 26 (.tmp 4), _, _, _, none⟩) rfl _ _ rfl w.heap.size 26 x.cells _ ?_ ?_ Try.underlying26 rfl (ctl_sz _) ?_); rfl; exact b4)
      | (go_at_call 9; (with_reducible refine (KV.out _).mono ?_); rintro e w1 ⟨rfl, l1⟩; replace b4 := b4.keep l1; replace lw := Later.trans_ lw l1)
      | (go_at_call 11; (with_reducible refine (KS.out _).mono ?_); rintro e w2 ⟨rfl, l2⟩; replace b4 := b4.keep l2; replace lw := Later.trans_ lw l2))
    go_ret
    exact ⟨rfl, lw⟩

set_option maxRecDepth 100000 in
theorem linesCount_lifted (os : Os) (started : os.Started) (H : Type) (enc : TypeId × Value → H) :
    ReturnsInHanded {} Try.checked os 7 .any (Rows.linesCountSpec.pre6 enc Try.prog Try.f7 Rows.linesCountRow.domain false) (Rows.linesCountSpec.post enc Try.prog Try.f7 false true false false) := by
  refine returnsInHanded_of_change (C := Try.checked) ownK started (by kernel_rfl) Try.func7
    (ChangeSpec.witness6 (enc := enc) (C := Try.checked) false ⟨#[], #[.agg #[.int .i64 0, .int .u32 0, .int .u32 0, .int .u32 0, .int .u32 0, .int .u32 0, .int .u32 0, .int .u32 0, .int .u32 0, .int .i64 0, .int .i64 0, .int .i64 0, .int .i64 0, .int .i64 0], .int .i64 0, .int .i64 0, .int .u8 0], []⟩ 8 (by kernel_rfl) (by kernel_rfl) (by kernel_rfl) (by kernel_rfl)) ?_
  intro W base args ds gs before hval0 hW hcnd _
  have hval : ∀ (j : Nat) t v, Try.f7.params[j]? = some t → args[j]? = some v → Value.okWide Try.prog W .any base t v := hval0
  have hW' := hW
  obtain ⟨p, q, hA0, hV, rfl, hfz, hnd⟩ := hW
  have hA : DataW.TrodAll enc Try.prog W 0 (fun _ => true) true Try.f7.params.toList args.toList ds p := hA0
  rw [Try.params7] at hA hval
  obtain ⟨v0, vs0, d0, ds0, p0, q0, hargs, rfl, rfl, h0, r0⟩ := trodAll_cons hA
  obtain ⟨v1, vs1, d1, ds1, p1, q1, rfl, rfl, rfl, h1, r1⟩ := trodAll_cons r0
  obtain ⟨v2, vs2, d2, ds2, p2, q2, rfl, rfl, rfl, h2, r2⟩ := trodAll_cons r1
  obtain ⟨v3, vs3, d3, ds3, p3, q3, rfl, rfl, rfl, h3, r3⟩ := trodAll_cons r2
  obtain ⟨rfl, rfl, rfl⟩ := trodAll_nil r3
  obtain rfl : args = #[v0, v1, v2, v3] := by cases args; simp_all
  obtain ⟨rfl, rfl⟩ := trodVars_none hV
  obtain ⟨a0, rfl, z0⟩ := ctl_open (hval 0 26 v0 rfl rfl) h0
  obtain ⟨a1, rfl, z1⟩ := int_arg Try.underlying3 (hval 1 3 v1 rfl rfl) h1
  obtain ⟨a2, rfl, z2⟩ := int_arg Try.underlying3 (hval 2 3 v2 rfl rfl) h2
  obtain ⟨a3, rfl, _, _, w3⟩ := open_int Try.underlying5 (hval 3 5 v3 rfl rfl) h3
  have z3 : 0 ≤ a3 ∧ a3 ≤ 255 := by
    have e1 : IntKind.u8.min = 0 := rfl
    have e2 : IntKind.u8.max = 255 := rfl
    simp only [Lit.wf, Bool.and_eq_true, decide_eq_true_eq] at w3
    omega
  clear hA0 hval0
  simp only [List.append_nil] at hW'
  refine (count_all a0 a1 a2 a3 W z0 z3).mono fun e W' ⟨he, hw⟩ => ?_
  subst he
  exact ⟨_, rfl, law_post laidK rfl (by kernel_rfl) (by kernel_rfl) Try.underlying4 (by kernel_rfl) hW' rfl hw⟩
set_option maxRecDepth 100000 in
/-- The statement. -/
theorem linesCount_said : Rows.LinesCountSaid :=
  OpenClaim.holds_of_wide 7 Try.f7 rfl rfl rfl rfl rfl rfl rfl ⟨rfl, rfl, rfl, rfl, rfl⟩ rfl rfl rfl rfl rfl (by kernel_rfl) Try.func7 (by kernel_rfl)
    (of_decide_eq_true (by kernel_rfl)) (by unfold Func.isWrapper; first | (rw [if_pos (by decide +kernel)]; kernel_rfl) | (rw [if_neg (by decide +kernel)]; exact ⟨rfl, rfl⟩))
    (fun os started H enc _ => linesCount_lifted os started H enc)
#print axioms linesCount_said
end Go.Proofs.Ytkpigonlnabmdab
