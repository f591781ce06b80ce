/-
  THE STATEMENT LinesWorkAsSpecified: New and Valid, and of valid controls Raise, Pending and Port, do what the specification says; for every control, numbers, and what is asked.
-/
import Derived.Test.YtkpigonlnabmdabLinL
import Derived.Deep.RegionHeld
namespace Go.Proofs.Ytkpigonlnabmdab
open Go.RowKit Go.ChangeShapes Go.WideShapes Go.ChangeAt

theorem kN_ok (n : Int) : (kN n).Ok ↔ 1 ≤ n ∧ n ≤ 4 := by
  constructor
  · intro h; exact ⟨h.n1, h.n4⟩
  · intro h
    refine ⟨h.1, h.2, fun k _ => ?_, fun k _ => ?_⟩
    · exact ⟨(show (0 : Int) < 32 by decide), (show (0 : Int) < 32 by decide), fun _ => ⟨rfl, rfl⟩⟩
    · exact ⟨(show (0 : Int) ≤ 0 by decide), (show (0 : Int) < n by omega), fun _ => rfl⟩
theorem kN_wf {n : Int} (h : i64 n) : (kN n).wf := by
  refine ⟨h, fun k _ => ?_, fun k _ => ?_, fun k _ => ?_⟩
  · exact ⟨(show (0 : Int) ≤ 0 by decide), (show (0 : Int) < 4294967296 by decide)⟩
  · exact ⟨(show (0 : Int) ≤ 0 by decide), (show (0 : Int) < 4294967296 by decide)⟩
  · exact ⟨(show (-9223372036854775808 : Int) ≤ 0 by decide), (show (0 : Int) ≤ 9223372036854775807 by decide)⟩
set_option maxRecDepth 100000 in
set_option maxHeartbeats 8000000 in
theorem work_all (x : Ctl) (n cp ln : Int) (inn : Bool) (p v : Int) (w : World) (hx : x.wf) (hn : i64 n) (hcp : 0 ≤ cp ∧ cp ≤ 255) (hv : Tm.isE v) :
    Calls Try.prog 3 #[.agg x.cells.toArray, .int .i64 n, .int .u8 cp, .int .i64 ln, .agg #[.bool inn, .int .i64 p, .int .u32 v]] w fun e w' => e = .returned (.bool true) ∧ Later w w' := by
  have KS := Lib.hid fun w' => sanity_any w'
  have b5 := (Blk.new w 26 x.cells.toArray x.cells rfl).alloc (.cells (ioC inn p v).toArray 28)
  have b9 := Blk.new' (w.alloc (.cells x.cells.toArray 26)) (w.heap.size + 1) 28 (ioC inn p v).toArray (ioC inn p v) (by simp) rfl
  have lw := (later1 w (.cells x.cells.toArray 26)).alloc (by simp) (.cells (ioC inn p v).toArray 28)
  have KN := Lib.hid fun w' => new_any n w'
  by_cases hn4 : 1 ≤ n ∧ n ≤ 4
  · have KF := Lib.hid fun w' => rvalid_yes (kN_wf hn) ((kN_ok n).2 hn4) w'
    rw [show newC n = kN n from if_pos hn4, show newE n = 0 from if_pos hn4] at KN
    have hqn := ctl_same (kN n)
    have hpos : decide (0 < n) = true := decide_eq_true (by omega)
    clear hn4 hn
    by_cases hok : x.Ok
    · obtain ⟨b, hb⟩ : ∃ b : Bool, b = true := ⟨_, rfl⟩
      have KL := Lib.hid fun w' => valid_any x b w' hx (by simp [hb, hok])
      have KR := Lib.hid fun w' => rvalid_any x b w' hx (by simp [hb, hok])
      have hn1 := hok.n1
      have hn4 := hok.n4
      have hnz : ¬ x.n = 0 := by omega
      have hw8 : IntKind.i64.wrap cp = cp := by rw [IntKind.wrap_i64]; omega
      have hmd : cp.tmod x.n = (((cp % x.n).toNat : Nat) : Int) := by
        rw [Int.tmod_eq_emod_of_nonneg hcp.1, Int.toNat_of_nonneg (Int.emod_nonneg _ hnz)]
      have hkn : (((cp % x.n).toNat : Nat) : Int) < x.n := by
        rw [Int.toNat_of_nonneg (Int.emod_nonneg _ hnz)]; exact Int.emod_lt_of_pos _ (by omega)
      obtain ⟨k, hk⟩ : ∃ k, k = (cp % x.n).toNat := ⟨_, rfl⟩
      rw [← hk] at hmd hkn
      have KP := Lib.hid fun w' => (show Calls Try.prog 12 #[.agg x.cells.toArray, .int .i64 (k : Int), .agg (ioC inn p v).toArray] w' fun e w'' => e = .returned (.tuple #[.agg (x.port k inn p v).cells.toArray, .int .u32 (x.val k inn p), .int .i64 (pErr inn p)]) ∧ Later w' w'' from port_any x k inn p v w' hok hx hkn hv)
      have KQ := Lib.hid fun w' => (show Calls Try.prog 13 #[.agg x.cells.toArray, .int .i64 (k : Int), .agg (ioC inn p v).toArray] w' fun e w'' => e = .returned (.agg (didC (x.port k inn p v) (x.val k inn p) (pErr inn p)).toArray) ∧ Later w' w'' from rport_any x k inn p v w' hok hx hkn hv)
      have K1 := Lib.hid fun w' => raise_any x ln k w' hok hx hkn
      have K2 := Lib.hid fun w' => rraise_any x ln k w' hok hx hkn
      have K3 := Lib.hid fun w' => pending_any x k w' hok hx hkn
      have K4 := Lib.hid fun w' => rpending_any x k w' hok hx hkn
      have hyk := hok.ported hx (k := k) (inn := inn) (p := p) (v := v) hkn hv
      have KY := Lib.hid fun w' => valid_any (x.port k inn p v) true w' hyk.2 (by simp [hyk.1])
      obtain ⟨y, hy⟩ : ∃ y, y = x.port k inn p v := ⟨_, rfl⟩
      obtain ⟨vv, hvv⟩ : ∃ u, u = x.val k inn p := ⟨_, rfl⟩
      obtain ⟨qq, hqq⟩ : ∃ q, q = pErr inn p := ⟨_, rfl⟩
      obtain ⟨z, hz⟩ : ∃ z, z = x.raise ln k := ⟨_, rfl⟩
      obtain ⟨pe, hpe⟩ : ∃ z, z = x.pend k := ⟨_, rfl⟩
      rw [← hy, ← hvv, ← hqq] at KP KQ
      rw [← hy] at KY
      rw [← hz] at K1 K2
      rw [← hpe] at K3 K4
      have hqy := ctl_same y
      have hqz := ctl_same z
      clear hk hy hvv hqq hz hpe hyk hok hx hv hcp
      rw [hb] at KL KR
      clear hb b
      go_enter Try.func3, Try.ntmps3
      go_upto_region 1 with fail
      go_upto_region 5 with (first
        | (go_at_call 8; (with_reducible refine (KN.out _).mono ?_); rintro e w1 ⟨rfl, l1⟩; replace b5 := b5.keep l1; replace b9 := b9.keep l1; replace lw := Later.trans_ lw l1)
        | ((with_reducible refine wpList_store_abs (o := ⟨none, .store 26 (.tmp 11) (.tmp 22), _, _, _, none⟩) rfl _ _ _ rfl w1.heap.size 26 zK.cells (kN n).cells ?_ ?_ ?_ ?_ ?_ ?_ ?_); rfl; rfl; exact (Blk.new _ _ _ _ rfl); exact ctl_sz _; rfl; exact ctl_one _; intro v1 b11 ob11; replace b5 := (b5.alloc (.cells zK.cells.toArray 26)).only ob11 (Nat.ne_of_lt b5.lt); replace b9 := (b9.alloc (.cells zK.cells.toArray 26)).only ob11 (Nat.ne_of_lt b9.lt); replace lw := Below.only (lw.alloc lw.size (.cells zK.cells.toArray 26)) ob11 lw.size; clear ob11)
        | ((with_reducible refine wpList_bld (o := ⟨some 25, .build 26 #[(0, .tmp 24)], _, _, _, none⟩) rfl _ #[(0, .tmp 24)] #[(0, .int .i64 n)] (kN n).cells.toArray rfl ?_ (run_n n _) ?_); rfl)
        | ((with_reducible refine wpList_store_abs (o := ⟨none, .store 26 (.tmp 13) (.tmp 25), _, _, _, none⟩) rfl _ _ _ rfl v1.heap.size 26 zK.cells (kN n).cells ?_ ?_ ?_ ?_ ?_ ?_ ?_); rfl; rfl; exact (Blk.new _ _ _ _ rfl); exact ctl_sz _; rfl; exact ctl_one _; have n5 := Nat.ne_of_lt b5.lt; have n9 := Nat.ne_of_lt b9.lt; have n11 := Nat.ne_of_lt b11.lt; have nw := lw.size; intro v2 b13 ob13; replace b5 := (b5.alloc (.cells zK.cells.toArray 26)).only ob13 (Nat.ne_of_lt b5.lt); replace b9 := (b9.alloc (.cells zK.cells.toArray 26)).only ob13 (Nat.ne_of_lt b9.lt); replace b11 := (b11.alloc (.cells zK.cells.toArray 26)).only ob13 (Nat.ne_of_lt b11.lt); replace lw := Below.only (lw.alloc lw.size (.cells zK.cells.toArray 26)) ob13 lw.size; clear ob13)
        | ((with_reducible refine wpList_load_blk (o := ⟨some 26, .load 26 (.tmp 13), _, _, _, none⟩) rfl _ _ rfl v1.heap.size 26 (kN n).cells _ ?_ ?_ Try.underlying26 rfl (ctl_sz _) ?_); rfl; exact b13)
        | (go_at_call 9; (with_reducible refine (KF.out _).mono ?_); rintro e w2 ⟨rfl, l2⟩; replace b5 := b5.keep l2; replace b9 := b9.keep l2; replace b11 := b11.keep l2; replace b13 := b13.keep l2; replace lw := Later.trans_ lw l2))
      clear n5 n9 n11 nw
      replace b5 := b5.drew
      replace b9 := b9.drew
      replace b11 := b11.drew
      replace b13 := b13.drew
      replace lw := lw.drew
      refine wp_region_held_drew (S := fun w' => World.rangeAt w' w1.heap.size 0 (kN n).cells ∧ World.rangeAt w' v1.heap.size 0 (kN n).cells ∧ w'.cell? ⟨v1.heap.size, 0, none⟩ = some (.int .i64 n) ∧ World.rangeAt w' w.heap.size 0 x.cells) (by kernel_rfl) ⟨(show World.rangeAt _ w1.heap.size 0 (kN n).cells from b11.range 0 14), (show World.rangeAt _ v1.heap.size 0 (kN n).cells from b13.range 0 14), b13.cell (j := 0) rfl, (show World.rangeAt _ w.heap.size 0 x.cells from b5.range 0 14)⟩ (fun hHeld => ?_)
      refine wpAnyH_take (i := 0) (oi := ⟨some 30, .load 26 (.tmp 11), _, _, _, none⟩) (v := .agg (kN n).cells.toArray) rfl (by kernel_rfl) (by kernel_rfl) (by kernel_rfl) (fun _ _ _ h => h) (yieldsIf_load_mid (by rfl) _ _ rfl _ _ rfl (kN n).cells _ (fun w h => h.1) Try.underlying26 rfl (ctl_sz _)) hHeld ?_
      simp only [Act.put, List.setIfInBounds_toArray, List.set_cons_zero, List.set_cons_succ]
      refine wpAnyH_take (i := 1) (oi := ⟨some 31, .load 26 (.tmp 13), _, _, _, none⟩) (v := .agg (kN n).cells.toArray) rfl (by kernel_rfl) (by kernel_rfl) (by kernel_rfl) (fun _ _ _ h => h) (yieldsIf_load_mid (by rfl) _ _ rfl _ _ rfl (kN n).cells _ (fun w h => h.2.1) Try.underlying26 rfl (ctl_sz _)) hHeld ?_
      simp only [Act.put, List.setIfInBounds_toArray, List.set_cons_zero, List.set_cons_succ]
      refine wpAnyH_take (i := 2) (oi := ⟨some 32, .binOp .neq 26 (.tmp 30) (.tmp 31) 26, _, _, _, none⟩) (v := .bool false) rfl (by kernel_rfl) (by kernel_rfl) (by kernel_rfl) (fun _ _ _ h => h) (Or.inl ⟨by rfl, fun w _ => by go_simp⟩) hHeld ?_
      simp only [Act.put, List.setIfInBounds_toArray, List.set_cons_zero, List.set_cons_succ]
      refine wpAnyH_take (i := 3) (oi := ⟨some 33, .move (.tmp 32), _, _, _, none⟩) (v := .bool false) rfl (by kernel_rfl) (by kernel_rfl) (by kernel_rfl) (fun _ _ _ h => h) (Or.inl ⟨by rfl, fun _ _ => rfl⟩) hHeld ?_
      simp only [Act.put, List.setIfInBounds_toArray, List.set_cons_zero, List.set_cons_succ]
      refine wpAnyH_take (i := 4) (oi := ⟨some 34, .move (.tmp 12), _, _, _, _⟩) (v := .int .i64 0) rfl (by kernel_rfl) (by kernel_rfl) (by kernel_rfl) (fun _ _ _ h => h) (Or.inl ⟨by rfl, fun _ _ => rfl⟩) hHeld ?_
      simp only [Act.put, List.setIfInBounds_toArray, List.set_cons_zero, List.set_cons_succ]
      refine wpAnyH_take (i := 5) (oi := ⟨some 35, .binOp .eql 29 (.tmp 34) (.const (.int .i64 0)) 29, _, _, _, _⟩) (v := .bool true) rfl (by kernel_rfl) (by kernel_rfl) (by kernel_rfl) (fun _ _ _ h => h) (Or.inl ⟨by rfl, fun w _ => by go_simp⟩) hHeld ?_
      simp only [Act.put, List.setIfInBounds_toArray, List.set_cons_zero, List.set_cons_succ]
      refine wpAnyH_take (i := 6) (oi := ⟨some 36, .fieldAddr 26 (.tmp 13) 0, _, _, _, _⟩) (v := .pointer (some ⟨v1.heap.size, 0, none⟩)) rfl (by kernel_rfl) (by kernel_rfl) (by kernel_rfl) (fun _ _ _ h => h) (Or.inl ⟨by rfl, fun w _ => by go_simp⟩) hHeld ?_
      simp only [Act.put, List.setIfInBounds_toArray, List.set_cons_zero, List.set_cons_succ]
      refine wpAnyH_take (i := 7) (oi := ⟨some 37, .load 3 (.tmp 36), _, _, _, _⟩) (v := .int .i64 n) rfl (by kernel_rfl) (by kernel_rfl) (by kernel_rfl) (fun _ _ _ h => h) (Or.inl ⟨by rfl, fun w hSw => by have e1 := hSw.2.2.1; clear hSw; go_simp⟩) hHeld ?_
      simp only [Act.put, List.setIfInBounds_toArray, List.set_cons_zero, List.set_cons_succ]
      refine wpAnyH_take (i := 8) (oi := ⟨some 38, .binOp .gtr 3 (.tmp 37) (.const (.int .i64 0)) 3, _, _, _, _⟩) (v := .bool true) rfl (by kernel_rfl) (by kernel_rfl) (by kernel_rfl) (fun _ _ _ h => h) (Or.inl ⟨by rfl, fun w _ => by go_simp⟩) hHeld ?_
      simp only [Act.put, List.setIfInBounds_toArray, List.set_cons_zero, List.set_cons_succ]
      refine wpAnyH_take (i := 9) (oi := ⟨some 39, .binOp .neq 4 (.tmp 35) (.tmp 38) 4, _, _, _, _⟩) (v := .bool false) rfl (by kernel_rfl) (by kernel_rfl) (by kernel_rfl) (fun _ _ _ h => h) (Or.inl ⟨by rfl, fun w _ => by go_simp⟩) hHeld ?_
      simp only [Act.put, List.setIfInBounds_toArray, List.set_cons_zero, List.set_cons_succ]
      refine wpAnyH_take (i := 10) (oi := ⟨some 40, .pick (.tmp 33) (.const (.bool true)) (.tmp 39), _, _, _, none⟩) (v := .bool false) rfl (by kernel_rfl) (by kernel_rfl) (by kernel_rfl) (fun _ _ _ h => h) (Or.inl ⟨by rfl, fun w _ => by go_simp⟩) hHeld ?_
      simp only [Act.put, List.setIfInBounds_toArray, List.set_cons_zero, List.set_cons_succ]
      refine wpAnyH_take (i := 11) (oi := ⟨some 41, .move (.tmp 40), _, _, _, none⟩) (v := .bool false) rfl (by kernel_rfl) (by kernel_rfl) (by kernel_rfl) (fun _ _ _ h => h) (Or.inl ⟨by rfl, fun _ _ => rfl⟩) hHeld ?_
      simp only [Act.put, List.setIfInBounds_toArray, List.set_cons_zero, List.set_cons_succ]
      refine wpAnyH_take (i := 12) (oi := ⟨some 42, .move (.tmp 12), _, _, _, _⟩) (v := .int .i64 0) rfl (by kernel_rfl) (by kernel_rfl) (by kernel_rfl) (fun _ _ _ h => h) (Or.inl ⟨by rfl, fun _ _ => rfl⟩) hHeld ?_
      simp only [Act.put, List.setIfInBounds_toArray, List.set_cons_zero, List.set_cons_succ]
      refine wpAnyH_take (i := 13) (oi := ⟨some 43, .binOp .neq 29 (.tmp 42) (.const (.int .i64 0)) 29, _, _, _, _⟩) (v := .bool false) rfl (by kernel_rfl) (by kernel_rfl) (by kernel_rfl) (fun _ _ _ h => h) (Or.inl ⟨by rfl, fun w _ => by go_simp⟩) hHeld ?_
      simp only [Act.put, List.setIfInBounds_toArray, List.set_cons_zero, List.set_cons_succ]
      refine wpAnyH_take (i := 14) (oi := ⟨some 44, .move (.tmp 43), _, _, _, _⟩) (v := .bool false) rfl (by kernel_rfl) (by kernel_rfl) (by kernel_rfl) (fun _ _ _ h => h) (Or.inl ⟨by rfl, fun _ _ => rfl⟩) hHeld ?_
      simp only [Act.put, List.setIfInBounds_toArray, List.set_cons_zero, List.set_cons_succ]
      refine wpAnyH_take (i := 15) (oi := ⟨some 45, .move (.tmp 12), _, _, _, _⟩) (v := undef) rfl (by kernel_rfl) (by kernel_rfl) (by kernel_rfl) (fun _ _ _ h => h) (Or.inr ⟨by rfl, rfl⟩) hHeld ?_
      simp only [Act.put, List.setIfInBounds_toArray, List.set_cons_zero, List.set_cons_succ]
      refine wpAnyH_take (i := 16) (oi := ⟨some 46, .binOp .neq 29 (.tmp 45) (.const (.int .i64 1)) 29, _, _, _, _⟩) (v := undef) rfl (by kernel_rfl) (by kernel_rfl) (by kernel_rfl) (fun _ _ _ h => h) (Or.inr ⟨by rfl, rfl⟩) hHeld ?_
      simp only [Act.put, List.setIfInBounds_toArray, List.set_cons_zero, List.set_cons_succ]
      refine wpAnyH_take (i := 17) (oi := ⟨some 47, .pick (.tmp 44) (.tmp 46) (.const (.bool false)), _, _, _, _⟩) (v := .bool false) rfl (by kernel_rfl) (by kernel_rfl) (by kernel_rfl) (fun _ _ _ h => h) (Or.inl ⟨by rfl, fun w _ => by go_simp⟩) hHeld ?_
      simp only [Act.put, List.setIfInBounds_toArray, List.set_cons_zero, List.set_cons_succ]
      refine wpAnyH_take (i := 18) (oi := ⟨some 48, .pick (.tmp 41) (.const (.bool true)) (.tmp 47), _, _, _, none⟩) (v := .bool false) rfl (by kernel_rfl) (by kernel_rfl) (by kernel_rfl) (fun _ _ _ h => h) (Or.inl ⟨by rfl, fun w _ => by go_simp⟩) hHeld ?_
      simp only [Act.put, List.setIfInBounds_toArray, List.set_cons_zero, List.set_cons_succ]
      refine wpAnyH_take (i := 19) (oi := ⟨some 49, .move (.tmp 48), _, _, _, none⟩) (v := .bool false) rfl (by kernel_rfl) (by kernel_rfl) (by kernel_rfl) (fun _ _ _ h => h) (Or.inl ⟨by rfl, fun _ _ => rfl⟩) hHeld ?_
      simp only [Act.put, List.setIfInBounds_toArray, List.set_cons_zero, List.set_cons_succ]
      refine wpAnyH_take (i := 20) (oi := ⟨some 50, .load 26 (.tmp 5), _, _, _, _⟩) (v := .agg x.cells.toArray) rfl (by kernel_rfl) (by kernel_rfl) (by kernel_rfl) (fun _ _ _ h => h) (yieldsIf_load_mid (by rfl) _ _ rfl _ _ rfl x.cells _ (fun w h => h.2.2.2) Try.underlying26 rfl (ctl_sz _)) hHeld ?_
      simp only [Act.put, List.setIfInBounds_toArray, List.set_cons_zero, List.set_cons_succ]
      refine wpAnyH_take (i := 22) (oi := ⟨some 52, .load 26 (.tmp 5), _, _, _, _⟩) (v := .agg x.cells.toArray) rfl (by kernel_rfl) (by kernel_rfl) (by kernel_rfl) (fun _ _ _ h => h) (yieldsIf_load_mid (by rfl) _ _ rfl _ _ rfl x.cells _ (fun w h => h.2.2.2) Try.underlying26 rfl (ctl_sz _)) hHeld ?_
      simp only [Act.put, List.setIfInBounds_toArray, List.set_cons_zero, List.set_cons_succ]
      refine wpAnyH_ready (rs := [21]) (by kernel_rfl) (by simp) (AllReadyH.cons (o := ⟨some 51, .call { callee := .value (.func 10), args := #[.tmp 50], argTypes := #[26] }, _, _, _, _⟩) rfl (fun K' hK => ?_) (AllReadyH.nil))
      go_simp
      (with_reducible refine (KL.out _).mono ?_)
      rintro e x1 ⟨rfl, l1⟩
      replace b5 := b5.keep l1
      replace b9 := b9.keep l1
      replace b11 := b11.keep l1
      replace b13 := b13.keep l1
      replace lw := Later.trans_ lw l1
      refine hK.out _ _ ⟨(show World.rangeAt _ w1.heap.size 0 (kN n).cells from b11.range 0 14), (show World.rangeAt _ v1.heap.size 0 (kN n).cells from b13.range 0 14), b13.cell (j := 0) rfl, (show World.rangeAt _ w.heap.size 0 x.cells from b5.range 0 14)⟩ (fun hHeld => ?_)
      clear hK K'
      try simp only [Act.put, List.setIfInBounds_toArray, List.set_cons_zero, List.set_cons_succ]
      refine wpAnyH_ready (rs := [23]) (by kernel_rfl) (by simp) (AllReadyH.cons (o := ⟨some 53, .call { callee := .value (.func 9), args := #[.tmp 52], argTypes := #[26] }, _, _, _, _⟩) rfl (fun K' hK => ?_) (AllReadyH.nil))
      go_simp
      (with_reducible refine (KR.out _).mono ?_)
      rintro e x2 ⟨rfl, l1⟩
      replace b5 := b5.keep l1
      replace b9 := b9.keep l1
      replace b11 := b11.keep l1
      replace b13 := b13.keep l1
      replace lw := Later.trans_ lw l1
      refine hK.out _ _ ⟨(show World.rangeAt _ w1.heap.size 0 (kN n).cells from b11.range 0 14), (show World.rangeAt _ v1.heap.size 0 (kN n).cells from b13.range 0 14), b13.cell (j := 0) rfl, (show World.rangeAt _ w.heap.size 0 x.cells from b5.range 0 14)⟩ (fun hHeld => ?_)
      clear hK K'
      try simp only [Act.put, List.setIfInBounds_toArray, List.set_cons_zero, List.set_cons_succ]
      refine wpAnyH_take (i := 24) (oi := ⟨some 54, .binOp .neq 4 (.tmp 51) (.tmp 53) 4, _, _, _, _⟩) (v := .bool false) rfl (by kernel_rfl) (by kernel_rfl) (by kernel_rfl) (fun _ _ _ h => h) (Or.inl ⟨by rfl, fun w _ => by go_simp⟩) hHeld ?_
      simp only [Act.put, List.setIfInBounds_toArray, List.set_cons_zero, List.set_cons_succ]
      refine wpAnyH_take (i := 25) (oi := ⟨some 55, .pick (.tmp 49) (.const (.bool true)) (.tmp 54), _, _, _, none⟩) (v := .bool false) rfl (by kernel_rfl) (by kernel_rfl) (by kernel_rfl) (fun _ _ _ h => h) (Or.inl ⟨by rfl, fun w _ => by go_simp⟩) hHeld ?_
      simp only [Act.put, List.setIfInBounds_toArray, List.set_cons_zero, List.set_cons_succ]
      refine wpAnyH_done (by kernel_rfl) ?_ _
      clear hHeld
      clear b11 b13
      go_upto_region 7 with fail
      go_upto_region 12 with (first
        | ((with_reducible refine wpList_load_blk (o := ⟨some 56, .load 26 (.tmp 5), _, _, _, none⟩) rfl _ _ rfl w.heap.size 26 x.cells _ ?_ ?_ Try.underlying26 rfl (ctl_sz _) ?_); rfl; exact b5)
        | (go_at_call 9; (with_reducible refine (KR.out _).mono ?_); rintro e w7 ⟨rfl, l7⟩; replace b5 := b5.keep l7; replace b9 := b9.keep l7; replace lw := Later.trans_ lw l7; have en := b5.cell (ctl_n x))
        | ((with_reducible refine wpList_load_blk (o := ⟨some 66, .load 26 (.tmp 5), _, _, _, none⟩) rfl _ _ rfl w.heap.size 26 x.cells _ ?_ ?_ Try.underlying26 rfl (ctl_sz _) ?_); rfl; exact b5; clear en)
        | ((with_reducible refine wpList_load_blk (o := ⟨some 68, .load 28 (.tmp 9), _, _, _, none⟩) rfl _ _ rfl (w.heap.size + 1) 28 (ioC inn p v) _ ?_ ?_ Try.underlying28 rfl (io_sz _ _ _) ?_); rfl; exact b9)
        | (go_at_call 12; (with_reducible refine (KP.out _).mono ?_); rintro e w9 ⟨rfl, l9⟩; replace b5 := b5.keep l9; replace b9 := b9.keep l9; replace lw := Later.trans_ lw l9)
        | ((with_reducible refine wpList_store_abs (o := ⟨none, .store 26 (.tmp 15) (.tmp 70), _, _, _, none⟩) rfl _ _ _ rfl w9.heap.size 26 zK.cells y.cells ?_ ?_ ?_ ?_ ?_ ?_ ?_); rfl; rfl; exact (Blk.new _ _ _ _ rfl); exact ctl_sz _; rfl; exact ctl_one _; intro v4 b15 ob15; replace b5 := (b5.alloc (.cells zK.cells.toArray 26)).only ob15 (Nat.ne_of_lt b5.lt); replace b9 := (b9.alloc (.cells zK.cells.toArray 26)).only ob15 (Nat.ne_of_lt b9.lt); replace lw := Below.only (lw.alloc lw.size (.cells zK.cells.toArray 26)) ob15 lw.size; clear ob15)
        | ((with_reducible refine wpList_load_blk (o := ⟨some 73, .load 26 (.tmp 5), _, _, _, none⟩) rfl _ _ rfl w.heap.size 26 x.cells _ ?_ ?_ Try.underlying26 rfl (ctl_sz _) ?_); rfl; exact b5)
        | ((with_reducible refine wpList_load_blk (o := ⟨some 75, .load 28 (.tmp 9), _, _, _, none⟩) rfl _ _ rfl (w.heap.size + 1) 28 (ioC inn p v) _ ?_ ?_ Try.underlying28 rfl (io_sz _ _ _) ?_); rfl; exact b9)
        | (go_at_call 13; (with_reducible refine (KQ.out _).mono ?_); rintro e w10 ⟨rfl, l10⟩; replace b5 := b5.keep l10; replace b9 := b9.keep l10; replace b15 := b15.keep l10; replace lw := Later.trans_ lw l10)
        | ((with_reducible refine wpList_store_abs (o := ⟨none, .store 37 (.tmp 18) (.tmp 76), _, _, _, none⟩) rfl _ _ _ rfl w10.heap.size 37 (didC zK 0 0) (didC y vv qq) ?_ ?_ ?_ ?_ ?_ ?_ ?_); rfl; rfl; exact (Blk.new _ _ _ _ rfl); exact did_sz _ _ _; rfl; exact did_one _ _ _; intro v5 b18 ob18; replace b5 := (b5.alloc (.cells (didC zK 0 0).toArray 37)).only ob18 (Nat.ne_of_lt b5.lt); replace b9 := (b9.alloc (.cells (didC zK 0 0).toArray 37)).only ob18 (Nat.ne_of_lt b9.lt); replace b15 := (b15.alloc (.cells (didC zK 0 0).toArray 37)).only ob18 (Nat.ne_of_lt b15.lt); replace lw := Below.only (lw.alloc lw.size (.cells (didC zK 0 0).toArray 37)) ob18 lw.size; clear ob18))
      replace b5 := b5.drew
      replace b15 := b15.drew
      replace b18 := b18.drew
      replace lw := lw.drew
      refine wp_region_held_drew (S := fun w' => World.rangeAt w' w.heap.size 0 x.cells ∧ World.rangeAt w' w9.heap.size 0 y.cells ∧ World.rangeAt w' w10.heap.size 0 y.cells ∧ w'.cell? ⟨w10.heap.size, 14, none⟩ = some (.int .u32 vv) ∧ w'.cell? ⟨w10.heap.size, 15, none⟩ = some (.int .i64 qq)) (by kernel_rfl) ⟨(show World.rangeAt _ w.heap.size 0 x.cells from b5.range 0 14), (show World.rangeAt _ w9.heap.size 0 y.cells from b15.range 0 14), (show World.rangeAt _ w10.heap.size 0 y.cells from b18.range 0 14), b18.cell (j := 14) rfl, b18.cell (j := 15) rfl⟩ (fun hHeld => ?_)
      refine wpAnyH_ready (rs := [0]) (by kernel_rfl) (by simp) (AllReadyH.cons (o := ⟨some 77, .call { callee := .value (.func 11), args := #[], argTypes := #[] }, _, _, _, none⟩) rfl (fun K' hK => ?_) (AllReadyH.nil))
      go_simp
      (with_reducible refine (KS.out _).mono ?_)
      rintro e y1 ⟨rfl, l1⟩
      replace b5 := b5.keep l1
      replace b15 := b15.keep l1
      replace b18 := b18.keep l1
      replace lw := Later.trans_ lw l1
      refine hK.out _ _ ⟨(show World.rangeAt _ w.heap.size 0 x.cells from b5.range 0 14), (show World.rangeAt _ w9.heap.size 0 y.cells from b15.range 0 14), (show World.rangeAt _ w10.heap.size 0 y.cells from b18.range 0 14), b18.cell (j := 14) rfl, b18.cell (j := 15) rfl⟩ (fun hHeld => ?_)
      clear hK K'
      try simp only [Act.put, List.setIfInBounds_toArray, List.set_cons_zero, List.set_cons_succ]
      refine wpAnyH_take (i := 1) (oi := ⟨some 78, .move (.tmp 77), _, _, _, none⟩) (v := .bool true) rfl (by kernel_rfl) (by kernel_rfl) (by kernel_rfl) (fun _ _ _ h => h) (Or.inl ⟨by rfl, fun _ _ => rfl⟩) hHeld ?_
      simp only [Act.put, List.setIfInBounds_toArray, List.set_cons_zero, List.set_cons_succ]
      refine wpAnyH_take (i := 2) (oi := ⟨some 79, .load 26 (.tmp 5), _, _, _, _⟩) (v := .agg x.cells.toArray) rfl (by kernel_rfl) (by kernel_rfl) (by kernel_rfl) (fun _ _ _ h => h) (yieldsIf_load_mid (by rfl) _ _ rfl _ _ rfl x.cells _ (fun w h => h.1) Try.underlying26 rfl (ctl_sz _)) hHeld ?_
      simp only [Act.put, List.setIfInBounds_toArray, List.set_cons_zero, List.set_cons_succ]
      refine wpAnyH_take (i := 3) (oi := ⟨some 80, .move (.tmp 3), _, _, _, _⟩) (v := .int .i64 ln) rfl (by kernel_rfl) (by kernel_rfl) (by kernel_rfl) (fun _ _ _ h => h) (Or.inl ⟨by rfl, fun _ _ => rfl⟩) hHeld ?_
      simp only [Act.put, List.setIfInBounds_toArray, List.set_cons_zero, List.set_cons_succ]
      refine wpAnyH_take (i := 4) (oi := ⟨some 81, .move (.tmp 14), _, _, _, _⟩) (v := .int .i64 (k : Int)) rfl (by kernel_rfl) (by kernel_rfl) (by kernel_rfl) (fun _ _ _ h => h) (Or.inl ⟨by rfl, fun _ _ => rfl⟩) hHeld ?_
      simp only [Act.put, List.setIfInBounds_toArray, List.set_cons_zero, List.set_cons_succ]
      refine wpAnyH_take (i := 6) (oi := ⟨some 83, .load 26 (.tmp 5), _, _, _, _⟩) (v := .agg x.cells.toArray) rfl (by kernel_rfl) (by kernel_rfl) (by kernel_rfl) (fun _ _ _ h => h) (yieldsIf_load_mid (by rfl) _ _ rfl _ _ rfl x.cells _ (fun w h => h.1) Try.underlying26 rfl (ctl_sz _)) hHeld ?_
      simp only [Act.put, List.setIfInBounds_toArray, List.set_cons_zero, List.set_cons_succ]
      refine wpAnyH_take (i := 7) (oi := ⟨some 84, .move (.tmp 3), _, _, _, _⟩) (v := .int .i64 ln) rfl (by kernel_rfl) (by kernel_rfl) (by kernel_rfl) (fun _ _ _ h => h) (Or.inl ⟨by rfl, fun _ _ => rfl⟩) hHeld ?_
      simp only [Act.put, List.setIfInBounds_toArray, List.set_cons_zero, List.set_cons_succ]
      refine wpAnyH_take (i := 8) (oi := ⟨some 85, .move (.tmp 14), _, _, _, _⟩) (v := .int .i64 (k : Int)) rfl (by kernel_rfl) (by kernel_rfl) (by kernel_rfl) (fun _ _ _ h => h) (Or.inl ⟨by rfl, fun _ _ => rfl⟩) hHeld ?_
      simp only [Act.put, List.setIfInBounds_toArray, List.set_cons_zero, List.set_cons_succ]
      refine wpAnyH_ready (rs := [5]) (by kernel_rfl) (by simp) (AllReadyH.cons (o := ⟨some 82, .call { callee := .value (.func 14), args := #[.tmp 79, .tmp 80, .tmp 81], argTypes := #[26, 3, 3] }, _, _, _, _⟩) rfl (fun K' hK => ?_) (AllReadyH.nil))
      go_simp
      (with_reducible refine (K1.out _).mono ?_)
      rintro e y2 ⟨rfl, l1⟩
      replace b5 := b5.keep l1
      replace b15 := b15.keep l1
      replace b18 := b18.keep l1
      replace lw := Later.trans_ lw l1
      refine hK.out _ _ ⟨(show World.rangeAt _ w.heap.size 0 x.cells from b5.range 0 14), (show World.rangeAt _ w9.heap.size 0 y.cells from b15.range 0 14), (show World.rangeAt _ w10.heap.size 0 y.cells from b18.range 0 14), b18.cell (j := 14) rfl, b18.cell (j := 15) rfl⟩ (fun hHeld => ?_)
      clear hK K'
      try simp only [Act.put, List.setIfInBounds_toArray, List.set_cons_zero, List.set_cons_succ]
      refine wpAnyH_ready (rs := [9]) (by kernel_rfl) (by simp) (AllReadyH.cons (o := ⟨some 86, .call { callee := .value (.func 15), args := #[.tmp 83, .tmp 84, .tmp 85], argTypes := #[26, 3, 3] }, _, _, _, _⟩) rfl (fun K' hK => ?_) (AllReadyH.nil))
      go_simp
      (with_reducible refine (K2.out _).mono ?_)
      rintro e y3 ⟨rfl, l1⟩
      replace b5 := b5.keep l1
      replace b15 := b15.keep l1
      replace b18 := b18.keep l1
      replace lw := Later.trans_ lw l1
      refine hK.out _ _ ⟨(show World.rangeAt _ w.heap.size 0 x.cells from b5.range 0 14), (show World.rangeAt _ w9.heap.size 0 y.cells from b15.range 0 14), (show World.rangeAt _ w10.heap.size 0 y.cells from b18.range 0 14), b18.cell (j := 14) rfl, b18.cell (j := 15) rfl⟩ (fun hHeld => ?_)
      clear hK K'
      try simp only [Act.put, List.setIfInBounds_toArray, List.set_cons_zero, List.set_cons_succ]
      refine wpAnyH_take (i := 10) (oi := ⟨some 87, .binOp .eql 26 (.tmp 82) (.tmp 86) 26, _, _, _, _⟩) (v := .bool true) rfl (by kernel_rfl) (by kernel_rfl) (by kernel_rfl) (fun _ _ _ h => h) (Or.inl ⟨by rfl, fun w _ => by go_simp⟩) hHeld ?_
      simp only [Act.put, List.setIfInBounds_toArray, List.set_cons_zero, List.set_cons_succ]
      refine wpAnyH_take (i := 11) (oi := ⟨some 88, .pick (.tmp 78) (.tmp 87) (.const (.bool false)), _, _, _, none⟩) (v := .bool true) rfl (by kernel_rfl) (by kernel_rfl) (by kernel_rfl) (fun _ _ _ h => h) (Or.inl ⟨by rfl, fun w _ => by go_simp⟩) hHeld ?_
      simp only [Act.put, List.setIfInBounds_toArray, List.set_cons_zero, List.set_cons_succ]
      refine wpAnyH_take (i := 12) (oi := ⟨some 89, .move (.tmp 88), _, _, _, none⟩) (v := .bool true) rfl (by kernel_rfl) (by kernel_rfl) (by kernel_rfl) (fun _ _ _ h => h) (Or.inl ⟨by rfl, fun _ _ => rfl⟩) hHeld ?_
      simp only [Act.put, List.setIfInBounds_toArray, List.set_cons_zero, List.set_cons_succ]
      refine wpAnyH_take (i := 13) (oi := ⟨some 90, .load 26 (.tmp 5), _, _, _, _⟩) (v := .agg x.cells.toArray) rfl (by kernel_rfl) (by kernel_rfl) (by kernel_rfl) (fun _ _ _ h => h) (yieldsIf_load_mid (by rfl) _ _ rfl _ _ rfl x.cells _ (fun w h => h.1) Try.underlying26 rfl (ctl_sz _)) hHeld ?_
      simp only [Act.put, List.setIfInBounds_toArray, List.set_cons_zero, List.set_cons_succ]
      refine wpAnyH_take (i := 14) (oi := ⟨some 91, .move (.tmp 14), _, _, _, _⟩) (v := .int .i64 (k : Int)) rfl (by kernel_rfl) (by kernel_rfl) (by kernel_rfl) (fun _ _ _ h => h) (Or.inl ⟨by rfl, fun _ _ => rfl⟩) hHeld ?_
      simp only [Act.put, List.setIfInBounds_toArray, List.set_cons_zero, List.set_cons_succ]
      refine wpAnyH_take (i := 16) (oi := ⟨some 93, .load 26 (.tmp 5), _, _, _, _⟩) (v := .agg x.cells.toArray) rfl (by kernel_rfl) (by kernel_rfl) (by kernel_rfl) (fun _ _ _ h => h) (yieldsIf_load_mid (by rfl) _ _ rfl _ _ rfl x.cells _ (fun w h => h.1) Try.underlying26 rfl (ctl_sz _)) hHeld ?_
      simp only [Act.put, List.setIfInBounds_toArray, List.set_cons_zero, List.set_cons_succ]
      refine wpAnyH_take (i := 17) (oi := ⟨some 94, .move (.tmp 14), _, _, _, _⟩) (v := .int .i64 (k : Int)) rfl (by kernel_rfl) (by kernel_rfl) (by kernel_rfl) (fun _ _ _ h => h) (Or.inl ⟨by rfl, fun _ _ => rfl⟩) hHeld ?_
      simp only [Act.put, List.setIfInBounds_toArray, List.set_cons_zero, List.set_cons_succ]
      refine wpAnyH_ready (rs := [15]) (by kernel_rfl) (by simp) (AllReadyH.cons (o := ⟨some 92, .call { callee := .value (.func 16), args := #[.tmp 90, .tmp 91], argTypes := #[26, 3] }, _, _, _, _⟩) rfl (fun K' hK => ?_) (AllReadyH.nil))
      go_simp
      (with_reducible refine (K3.out _).mono ?_)
      rintro e y4 ⟨rfl, l1⟩
      replace b5 := b5.keep l1
      replace b15 := b15.keep l1
      replace b18 := b18.keep l1
      replace lw := Later.trans_ lw l1
      refine hK.out _ _ ⟨(show World.rangeAt _ w.heap.size 0 x.cells from b5.range 0 14), (show World.rangeAt _ w9.heap.size 0 y.cells from b15.range 0 14), (show World.rangeAt _ w10.heap.size 0 y.cells from b18.range 0 14), b18.cell (j := 14) rfl, b18.cell (j := 15) rfl⟩ (fun hHeld => ?_)
      clear hK K'
      try simp only [Act.put, List.setIfInBounds_toArray, List.set_cons_zero, List.set_cons_succ]
      refine wpAnyH_ready (rs := [18]) (by kernel_rfl) (by simp) (AllReadyH.cons (o := ⟨some 95, .call { callee := .value (.func 17), args := #[.tmp 93, .tmp 94], argTypes := #[26, 3] }, _, _, _, _⟩) rfl (fun K' hK => ?_) (AllReadyH.nil))
      go_simp
      (with_reducible refine (K4.out _).mono ?_)
      rintro e y5 ⟨rfl, l1⟩
      replace b5 := b5.keep l1
      replace b15 := b15.keep l1
      replace b18 := b18.keep l1
      replace lw := Later.trans_ lw l1
      refine hK.out _ _ ⟨(show World.rangeAt _ w.heap.size 0 x.cells from b5.range 0 14), (show World.rangeAt _ w9.heap.size 0 y.cells from b15.range 0 14), (show World.rangeAt _ w10.heap.size 0 y.cells from b18.range 0 14), b18.cell (j := 14) rfl, b18.cell (j := 15) rfl⟩ (fun hHeld => ?_)
      clear hK K'
      try simp only [Act.put, List.setIfInBounds_toArray, List.set_cons_zero, List.set_cons_succ]
      refine wpAnyH_take (i := 19) (oi := ⟨some 96, .binOp .eql 22 (.tmp 92) (.tmp 95) 22, _, _, _, _⟩) (v := .bool true) rfl (by kernel_rfl) (by kernel_rfl) (by kernel_rfl) (fun _ _ _ h => h) (Or.inl ⟨by rfl, fun w _ => by go_simp⟩) hHeld ?_
      simp only [Act.put, List.setIfInBounds_toArray, List.set_cons_zero, List.set_cons_succ]
      refine wpAnyH_take (i := 20) (oi := ⟨some 97, .pick (.tmp 89) (.tmp 96) (.const (.bool false)), _, _, _, none⟩) (v := .bool true) rfl (by kernel_rfl) (by kernel_rfl) (by kernel_rfl) (fun _ _ _ h => h) (Or.inl ⟨by rfl, fun w _ => by go_simp⟩) hHeld ?_
      simp only [Act.put, List.setIfInBounds_toArray, List.set_cons_zero, List.set_cons_succ]
      refine wpAnyH_take (i := 21) (oi := ⟨some 98, .move (.tmp 97), _, _, _, none⟩) (v := .bool true) rfl (by kernel_rfl) (by kernel_rfl) (by kernel_rfl) (fun _ _ _ h => h) (Or.inl ⟨by rfl, fun _ _ => rfl⟩) hHeld ?_
      simp only [Act.put, List.setIfInBounds_toArray, List.set_cons_zero, List.set_cons_succ]
      refine wpAnyH_take (i := 22) (oi := ⟨some 99, .load 26 (.tmp 15), _, _, _, _⟩) (v := .agg y.cells.toArray) rfl (by kernel_rfl) (by kernel_rfl) (by kernel_rfl) (fun _ _ _ h => h) (yieldsIf_load_mid (by rfl) _ _ rfl _ _ rfl y.cells _ (fun w h => h.2.1) Try.underlying26 rfl (ctl_sz _)) hHeld ?_
      simp only [Act.put, List.setIfInBounds_toArray, List.set_cons_zero, List.set_cons_succ]
      refine wpAnyH_take (i := 23) (oi := ⟨some 100, .fieldAddr 37 (.tmp 18) 0, _, _, _, _⟩) (v := .pointer (some ⟨w10.heap.size, 0, none⟩)) rfl (by kernel_rfl) (by kernel_rfl) (by kernel_rfl) (fun _ _ _ h => h) (Or.inl ⟨by rfl, fun w _ => by go_simp⟩) hHeld ?_
      simp only [Act.put, List.setIfInBounds_toArray, List.set_cons_zero, List.set_cons_succ]
      refine wpAnyH_take (i := 24) (oi := ⟨some 101, .load 26 (.tmp 100), _, _, _, _⟩) (v := .agg y.cells.toArray) rfl (by kernel_rfl) (by kernel_rfl) (by kernel_rfl) (fun _ _ _ h => h) (yieldsIf_load_mid (by rfl) _ _ rfl _ _ rfl y.cells _ (fun w h => h.2.2.1) Try.underlying26 rfl (ctl_sz _)) hHeld ?_
      simp only [Act.put, List.setIfInBounds_toArray, List.set_cons_zero, List.set_cons_succ]
      refine wpAnyH_take (i := 25) (oi := ⟨some 102, .binOp .eql 26 (.tmp 99) (.tmp 101) 26, _, _, _, _⟩) (v := .bool true) rfl (by kernel_rfl) (by kernel_rfl) (by kernel_rfl) (fun _ _ _ h => h) (Or.inl ⟨by rfl, fun w _ => by go_simp⟩) hHeld ?_
      simp only [Act.put, List.setIfInBounds_toArray, List.set_cons_zero, List.set_cons_succ]
      refine wpAnyH_take (i := 26) (oi := ⟨some 103, .pick (.tmp 98) (.tmp 102) (.const (.bool false)), _, _, _, none⟩) (v := .bool true) rfl (by kernel_rfl) (by kernel_rfl) (by kernel_rfl) (fun _ _ _ h => h) (Or.inl ⟨by rfl, fun w _ => by go_simp⟩) hHeld ?_
      simp only [Act.put, List.setIfInBounds_toArray, List.set_cons_zero, List.set_cons_succ]
      refine wpAnyH_take (i := 27) (oi := ⟨some 104, .move (.tmp 103), _, _, _, none⟩) (v := .bool true) rfl (by kernel_rfl) (by kernel_rfl) (by kernel_rfl) (fun _ _ _ h => h) (Or.inl ⟨by rfl, fun _ _ => rfl⟩) hHeld ?_
      simp only [Act.put, List.setIfInBounds_toArray, List.set_cons_zero, List.set_cons_succ]
      refine wpAnyH_take (i := 28) (oi := ⟨some 105, .move (.tmp 16), _, _, _, _⟩) (v := .int .u32 vv) rfl (by kernel_rfl) (by kernel_rfl) (by kernel_rfl) (fun _ _ _ h => h) (Or.inl ⟨by rfl, fun _ _ => rfl⟩) hHeld ?_
      simp only [Act.put, List.setIfInBounds_toArray, List.set_cons_zero, List.set_cons_succ]
      refine wpAnyH_take (i := 29) (oi := ⟨some 106, .fieldAddr 37 (.tmp 18) 1, _, _, _, _⟩) (v := .pointer (some ⟨w10.heap.size, 14, none⟩)) rfl (by kernel_rfl) (by kernel_rfl) (by kernel_rfl) (fun _ _ _ h => h) (Or.inl ⟨by rfl, fun w _ => by go_simp⟩) hHeld ?_
      simp only [Act.put, List.setIfInBounds_toArray, List.set_cons_zero, List.set_cons_succ]
      refine wpAnyH_take (i := 30) (oi := ⟨some 107, .load 22 (.tmp 106), _, _, _, _⟩) (v := .int .u32 vv) rfl (by kernel_rfl) (by kernel_rfl) (by kernel_rfl) (fun _ _ _ h => h) (Or.inl ⟨by rfl, fun w hSw => by have e1 := hSw.2.2.2.1; clear hSw; go_simp⟩) hHeld ?_
      simp only [Act.put, List.setIfInBounds_toArray, List.set_cons_zero, List.set_cons_succ]
      refine wpAnyH_take (i := 31) (oi := ⟨some 108, .binOp .eql 22 (.tmp 105) (.tmp 107) 22, _, _, _, _⟩) (v := .bool true) rfl (by kernel_rfl) (by kernel_rfl) (by kernel_rfl) (fun _ _ _ h => h) (Or.inl ⟨by rfl, fun w _ => by go_simp⟩) hHeld ?_
      simp only [Act.put, List.setIfInBounds_toArray, List.set_cons_zero, List.set_cons_succ]
      refine wpAnyH_take (i := 32) (oi := ⟨some 109, .pick (.tmp 104) (.tmp 108) (.const (.bool false)), _, _, _, none⟩) (v := .bool true) rfl (by kernel_rfl) (by kernel_rfl) (by kernel_rfl) (fun _ _ _ h => h) (Or.inl ⟨by rfl, fun w _ => by go_simp⟩) hHeld ?_
      simp only [Act.put, List.setIfInBounds_toArray, List.set_cons_zero, List.set_cons_succ]
      refine wpAnyH_take (i := 33) (oi := ⟨some 110, .move (.tmp 109), _, _, _, none⟩) (v := .bool true) rfl (by kernel_rfl) (by kernel_rfl) (by kernel_rfl) (fun _ _ _ h => h) (Or.inl ⟨by rfl, fun _ _ => rfl⟩) hHeld ?_
      simp only [Act.put, List.setIfInBounds_toArray, List.set_cons_zero, List.set_cons_succ]
      refine wpAnyH_take (i := 34) (oi := ⟨some 111, .move (.tmp 17), _, _, _, _⟩) (v := .int .i64 qq) rfl (by kernel_rfl) (by kernel_rfl) (by kernel_rfl) (fun _ _ _ h => h) (Or.inl ⟨by rfl, fun _ _ => rfl⟩) hHeld ?_
      simp only [Act.put, List.setIfInBounds_toArray, List.set_cons_zero, List.set_cons_succ]
      refine wpAnyH_take (i := 35) (oi := ⟨some 112, .fieldAddr 37 (.tmp 18) 2, _, _, _, _⟩) (v := .pointer (some ⟨w10.heap.size, 15, none⟩)) rfl (by kernel_rfl) (by kernel_rfl) (by kernel_rfl) (fun _ _ _ h => h) (Or.inl ⟨by rfl, fun w _ => by go_simp⟩) hHeld ?_
      simp only [Act.put, List.setIfInBounds_toArray, List.set_cons_zero, List.set_cons_succ]
      refine wpAnyH_take (i := 36) (oi := ⟨some 113, .load 29 (.tmp 112), _, _, _, _⟩) (v := .int .i64 qq) rfl (by kernel_rfl) (by kernel_rfl) (by kernel_rfl) (fun _ _ _ h => h) (Or.inl ⟨by rfl, fun w hSw => by have e1 := hSw.2.2.2.2; clear hSw; go_simp⟩) hHeld ?_
      simp only [Act.put, List.setIfInBounds_toArray, List.set_cons_zero, List.set_cons_succ]
      refine wpAnyH_take (i := 37) (oi := ⟨some 114, .binOp .eql 29 (.tmp 111) (.tmp 113) 29, _, _, _, _⟩) (v := .bool true) rfl (by kernel_rfl) (by kernel_rfl) (by kernel_rfl) (fun _ _ _ h => h) (Or.inl ⟨by rfl, fun w _ => by go_simp⟩) hHeld ?_
      simp only [Act.put, List.setIfInBounds_toArray, List.set_cons_zero, List.set_cons_succ]
      refine wpAnyH_take (i := 38) (oi := ⟨some 115, .pick (.tmp 110) (.tmp 114) (.const (.bool false)), _, _, _, none⟩) (v := .bool true) rfl (by kernel_rfl) (by kernel_rfl) (by kernel_rfl) (fun _ _ _ h => h) (Or.inl ⟨by rfl, fun w _ => by go_simp⟩) hHeld ?_
      simp only [Act.put, List.setIfInBounds_toArray, List.set_cons_zero, List.set_cons_succ]
      refine wpAnyH_take (i := 39) (oi := ⟨some 116, .move (.tmp 115), _, _, _, none⟩) (v := .bool true) rfl (by kernel_rfl) (by kernel_rfl) (by kernel_rfl) (fun _ _ _ h => h) (Or.inl ⟨by rfl, fun _ _ => rfl⟩) hHeld ?_
      simp only [Act.put, List.setIfInBounds_toArray, List.set_cons_zero, List.set_cons_succ]
      refine wpAnyH_take (i := 40) (oi := ⟨some 117, .load 26 (.tmp 15), _, _, _, _⟩) (v := .agg y.cells.toArray) rfl (by kernel_rfl) (by kernel_rfl) (by kernel_rfl) (fun _ _ _ h => h) (yieldsIf_load_mid (by rfl) _ _ rfl _ _ rfl y.cells _ (fun w h => h.2.1) Try.underlying26 rfl (ctl_sz _)) hHeld ?_
      simp only [Act.put, List.setIfInBounds_toArray, List.set_cons_zero, List.set_cons_succ]
      refine wpAnyH_ready (rs := [41]) (by kernel_rfl) (by simp) (AllReadyH.cons (o := ⟨some 118, .call { callee := .value (.func 10), args := #[.tmp 117], argTypes := #[26] }, _, _, _, _⟩) rfl (fun K' hK => ?_) (AllReadyH.nil))
      go_simp
      (with_reducible refine (KY.out _).mono ?_)
      rintro e y6 ⟨rfl, l1⟩
      replace b5 := b5.keep l1
      replace b15 := b15.keep l1
      replace b18 := b18.keep l1
      replace lw := Later.trans_ lw l1
      refine hK.out _ _ ⟨(show World.rangeAt _ w.heap.size 0 x.cells from b5.range 0 14), (show World.rangeAt _ w9.heap.size 0 y.cells from b15.range 0 14), (show World.rangeAt _ w10.heap.size 0 y.cells from b18.range 0 14), b18.cell (j := 14) rfl, b18.cell (j := 15) rfl⟩ (fun hHeld => ?_)
      clear hK K'
      try simp only [Act.put, List.setIfInBounds_toArray, List.set_cons_zero, List.set_cons_succ]
      refine wpAnyH_take (i := 42) (oi := ⟨some 119, .pick (.tmp 116) (.tmp 118) (.const (.bool false)), _, _, _, none⟩) (v := .bool true) rfl (by kernel_rfl) (by kernel_rfl) (by kernel_rfl) (fun _ _ _ h => h) (Or.inl ⟨by rfl, fun w _ => by go_simp⟩) hHeld ?_
      simp only [Act.put, List.setIfInBounds_toArray, List.set_cons_zero, List.set_cons_succ]
      refine wpAnyH_take (i := 43) (oi := ⟨some 10, .assign (.tmp 119), _, _, _, none⟩) (v := .bool true) rfl (by kernel_rfl) (by kernel_rfl) (by kernel_rfl) (fun _ _ _ h => h) (Or.inl ⟨by rfl, fun _ _ => rfl⟩) hHeld ?_
      simp only [Act.put, List.setIfInBounds_toArray, List.set_cons_zero, List.set_cons_succ]
      refine wpAnyH_done (by kernel_rfl) ?_ _
      clear hHeld
      go_wp2
      go_ret
      exact ⟨rfl, lw⟩
    · have KL := Lib.hid fun w' => valid_any x false w' hx (by simp [hok])
      have KR := Lib.hid fun w' => rvalid_any x false w' hx (by simp [hok])
      clear hok hx hv hcp
      go_enter Try.func3, Try.ntmps3
      go_upto_region 1 with fail
      go_upto_region 5 with (first
        | (go_at_call 8; (with_reducible refine (KN.out _).mono ?_); rintro e w1 ⟨rfl, l1⟩; replace b5 := b5.keep l1; replace b9 := b9.keep l1; replace lw := Later.trans_ lw l1)
        | ((with_reducible refine wpList_store_abs (o := ⟨none, .store 26 (.tmp 11) (.tmp 22), _, _, _, none⟩) rfl _ _ _ rfl w1.heap.size 26 zK.cells (kN n).cells ?_ ?_ ?_ ?_ ?_ ?_ ?_); rfl; rfl; exact (Blk.new _ _ _ _ rfl); exact ctl_sz _; rfl; exact ctl_one _; intro v1 b11 ob11; replace b5 := (b5.alloc (.cells zK.cells.toArray 26)).only ob11 (Nat.ne_of_lt b5.lt); replace b9 := (b9.alloc (.cells zK.cells.toArray 26)).only ob11 (Nat.ne_of_lt b9.lt); replace lw := Below.only (lw.alloc lw.size (.cells zK.cells.toArray 26)) ob11 lw.size; clear ob11)
        | ((with_reducible refine wpList_bld (o := ⟨some 25, .build 26 #[(0, .tmp 24)], _, _, _, none⟩) rfl _ #[(0, .tmp 24)] #[(0, .int .i64 n)] (kN n).cells.toArray rfl ?_ (run_n n _) ?_); rfl)
        | ((with_reducible refine wpList_store_abs (o := ⟨none, .store 26 (.tmp 13) (.tmp 25), _, _, _, none⟩) rfl _ _ _ rfl v1.heap.size 26 zK.cells (kN n).cells ?_ ?_ ?_ ?_ ?_ ?_ ?_); rfl; rfl; exact (Blk.new _ _ _ _ rfl); exact ctl_sz _; rfl; exact ctl_one _; have n5 := Nat.ne_of_lt b5.lt; have n9 := Nat.ne_of_lt b9.lt; have n11 := Nat.ne_of_lt b11.lt; have nw := lw.size; intro v2 b13 ob13; replace b5 := (b5.alloc (.cells zK.cells.toArray 26)).only ob13 (Nat.ne_of_lt b5.lt); replace b9 := (b9.alloc (.cells zK.cells.toArray 26)).only ob13 (Nat.ne_of_lt b9.lt); replace b11 := (b11.alloc (.cells zK.cells.toArray 26)).only ob13 (Nat.ne_of_lt b11.lt); replace lw := Below.only (lw.alloc lw.size (.cells zK.cells.toArray 26)) ob13 lw.size; clear ob13)
        | ((with_reducible refine wpList_load_blk (o := ⟨some 26, .load 26 (.tmp 13), _, _, _, none⟩) rfl _ _ rfl v1.heap.size 26 (kN n).cells _ ?_ ?_ Try.underlying26 rfl (ctl_sz _) ?_); rfl; exact b13)
        | (go_at_call 9; (with_reducible refine (KF.out _).mono ?_); rintro e w2 ⟨rfl, l2⟩; replace b5 := b5.keep l2; replace b9 := b9.keep l2; replace b11 := b11.keep l2; replace b13 := b13.keep l2; replace lw := Later.trans_ lw l2))
      clear n5 n9 n11 nw
      replace b5 := b5.drew
      replace b9 := b9.drew
      replace b11 := b11.drew
      replace b13 := b13.drew
      replace lw := lw.drew
      refine wp_region_held_drew (S := fun w' => World.rangeAt w' w1.heap.size 0 (kN n).cells ∧ World.rangeAt w' v1.heap.size 0 (kN n).cells ∧ w'.cell? ⟨v1.heap.size, 0, none⟩ = some (.int .i64 n) ∧ World.rangeAt w' w.heap.size 0 x.cells) (by kernel_rfl) ⟨(show World.rangeAt _ w1.heap.size 0 (kN n).cells from b11.range 0 14), (show World.rangeAt _ v1.heap.size 0 (kN n).cells from b13.range 0 14), b13.cell (j := 0) rfl, (show World.rangeAt _ w.heap.size 0 x.cells from b5.range 0 14)⟩ (fun hHeld => ?_)
      refine wpAnyH_take (i := 0) (oi := ⟨some 30, .load 26 (.tmp 11), _, _, _, none⟩) (v := .agg (kN n).cells.toArray) rfl (by kernel_rfl) (by kernel_rfl) (by kernel_rfl) (fun _ _ _ h => h) (yieldsIf_load_mid (by rfl) _ _ rfl _ _ rfl (kN n).cells _ (fun w h => h.1) Try.underlying26 rfl (ctl_sz _)) hHeld ?_
      simp only [Act.put, List.setIfInBounds_toArray, List.set_cons_zero, List.set_cons_succ]
      refine wpAnyH_take (i := 1) (oi := ⟨some 31, .load 26 (.tmp 13), _, _, _, none⟩) (v := .agg (kN n).cells.toArray) rfl (by kernel_rfl) (by kernel_rfl) (by kernel_rfl) (fun _ _ _ h => h) (yieldsIf_load_mid (by rfl) _ _ rfl _ _ rfl (kN n).cells _ (fun w h => h.2.1) Try.underlying26 rfl (ctl_sz _)) hHeld ?_
      simp only [Act.put, List.setIfInBounds_toArray, List.set_cons_zero, List.set_cons_succ]
      refine wpAnyH_take (i := 2) (oi := ⟨some 32, .binOp .neq 26 (.tmp 30) (.tmp 31) 26, _, _, _, none⟩) (v := .bool false) rfl (by kernel_rfl) (by kernel_rfl) (by kernel_rfl) (fun _ _ _ h => h) (Or.inl ⟨by rfl, fun w _ => by go_simp⟩) hHeld ?_
      simp only [Act.put, List.setIfInBounds_toArray, List.set_cons_zero, List.set_cons_succ]
      refine wpAnyH_take (i := 3) (oi := ⟨some 33, .move (.tmp 32), _, _, _, none⟩) (v := .bool false) rfl (by kernel_rfl) (by kernel_rfl) (by kernel_rfl) (fun _ _ _ h => h) (Or.inl ⟨by rfl, fun _ _ => rfl⟩) hHeld ?_
      simp only [Act.put, List.setIfInBounds_toArray, List.set_cons_zero, List.set_cons_succ]
      refine wpAnyH_take (i := 4) (oi := ⟨some 34, .move (.tmp 12), _, _, _, _⟩) (v := .int .i64 0) rfl (by kernel_rfl) (by kernel_rfl) (by kernel_rfl) (fun _ _ _ h => h) (Or.inl ⟨by rfl, fun _ _ => rfl⟩) hHeld ?_
      simp only [Act.put, List.setIfInBounds_toArray, List.set_cons_zero, List.set_cons_succ]
      refine wpAnyH_take (i := 5) (oi := ⟨some 35, .binOp .eql 29 (.tmp 34) (.const (.int .i64 0)) 29, _, _, _, _⟩) (v := .bool true) rfl (by kernel_rfl) (by kernel_rfl) (by kernel_rfl) (fun _ _ _ h => h) (Or.inl ⟨by rfl, fun w _ => by go_simp⟩) hHeld ?_
      simp only [Act.put, List.setIfInBounds_toArray, List.set_cons_zero, List.set_cons_succ]
      refine wpAnyH_take (i := 6) (oi := ⟨some 36, .fieldAddr 26 (.tmp 13) 0, _, _, _, _⟩) (v := .pointer (some ⟨v1.heap.size, 0, none⟩)) rfl (by kernel_rfl) (by kernel_rfl) (by kernel_rfl) (fun _ _ _ h => h) (Or.inl ⟨by rfl, fun w _ => by go_simp⟩) hHeld ?_
      simp only [Act.put, List.setIfInBounds_toArray, List.set_cons_zero, List.set_cons_succ]
      refine wpAnyH_take (i := 7) (oi := ⟨some 37, .load 3 (.tmp 36), _, _, _, _⟩) (v := .int .i64 n) rfl (by kernel_rfl) (by kernel_rfl) (by kernel_rfl) (fun _ _ _ h => h) (Or.inl ⟨by rfl, fun w hSw => by have e1 := hSw.2.2.1; clear hSw; go_simp⟩) hHeld ?_
      simp only [Act.put, List.setIfInBounds_toArray, List.set_cons_zero, List.set_cons_succ]
      refine wpAnyH_take (i := 8) (oi := ⟨some 38, .binOp .gtr 3 (.tmp 37) (.const (.int .i64 0)) 3, _, _, _, _⟩) (v := .bool true) rfl (by kernel_rfl) (by kernel_rfl) (by kernel_rfl) (fun _ _ _ h => h) (Or.inl ⟨by rfl, fun w _ => by go_simp⟩) hHeld ?_
      simp only [Act.put, List.setIfInBounds_toArray, List.set_cons_zero, List.set_cons_succ]
      refine wpAnyH_take (i := 9) (oi := ⟨some 39, .binOp .neq 4 (.tmp 35) (.tmp 38) 4, _, _, _, _⟩) (v := .bool false) rfl (by kernel_rfl) (by kernel_rfl) (by kernel_rfl) (fun _ _ _ h => h) (Or.inl ⟨by rfl, fun w _ => by go_simp⟩) hHeld ?_
      simp only [Act.put, List.setIfInBounds_toArray, List.set_cons_zero, List.set_cons_succ]
      refine wpAnyH_take (i := 10) (oi := ⟨some 40, .pick (.tmp 33) (.const (.bool true)) (.tmp 39), _, _, _, none⟩) (v := .bool false) rfl (by kernel_rfl) (by kernel_rfl) (by kernel_rfl) (fun _ _ _ h => h) (Or.inl ⟨by rfl, fun w _ => by go_simp⟩) hHeld ?_
      simp only [Act.put, List.setIfInBounds_toArray, List.set_cons_zero, List.set_cons_succ]
      refine wpAnyH_take (i := 11) (oi := ⟨some 41, .move (.tmp 40), _, _, _, none⟩) (v := .bool false) rfl (by kernel_rfl) (by kernel_rfl) (by kernel_rfl) (fun _ _ _ h => h) (Or.inl ⟨by rfl, fun _ _ => rfl⟩) hHeld ?_
      simp only [Act.put, List.setIfInBounds_toArray, List.set_cons_zero, List.set_cons_succ]
      refine wpAnyH_take (i := 12) (oi := ⟨some 42, .move (.tmp 12), _, _, _, _⟩) (v := .int .i64 0) rfl (by kernel_rfl) (by kernel_rfl) (by kernel_rfl) (fun _ _ _ h => h) (Or.inl ⟨by rfl, fun _ _ => rfl⟩) hHeld ?_
      simp only [Act.put, List.setIfInBounds_toArray, List.set_cons_zero, List.set_cons_succ]
      refine wpAnyH_take (i := 13) (oi := ⟨some 43, .binOp .neq 29 (.tmp 42) (.const (.int .i64 0)) 29, _, _, _, _⟩) (v := .bool false) rfl (by kernel_rfl) (by kernel_rfl) (by kernel_rfl) (fun _ _ _ h => h) (Or.inl ⟨by rfl, fun w _ => by go_simp⟩) hHeld ?_
      simp only [Act.put, List.setIfInBounds_toArray, List.set_cons_zero, List.set_cons_succ]
      refine wpAnyH_take (i := 14) (oi := ⟨some 44, .move (.tmp 43), _, _, _, _⟩) (v := .bool false) rfl (by kernel_rfl) (by kernel_rfl) (by kernel_rfl) (fun _ _ _ h => h) (Or.inl ⟨by rfl, fun _ _ => rfl⟩) hHeld ?_
      simp only [Act.put, List.setIfInBounds_toArray, List.set_cons_zero, List.set_cons_succ]
      refine wpAnyH_take (i := 15) (oi := ⟨some 45, .move (.tmp 12), _, _, _, _⟩) (v := undef) rfl (by kernel_rfl) (by kernel_rfl) (by kernel_rfl) (fun _ _ _ h => h) (Or.inr ⟨by rfl, rfl⟩) hHeld ?_
      simp only [Act.put, List.setIfInBounds_toArray, List.set_cons_zero, List.set_cons_succ]
      refine wpAnyH_take (i := 16) (oi := ⟨some 46, .binOp .neq 29 (.tmp 45) (.const (.int .i64 1)) 29, _, _, _, _⟩) (v := undef) rfl (by kernel_rfl) (by kernel_rfl) (by kernel_rfl) (fun _ _ _ h => h) (Or.inr ⟨by rfl, rfl⟩) hHeld ?_
      simp only [Act.put, List.setIfInBounds_toArray, List.set_cons_zero, List.set_cons_succ]
      refine wpAnyH_take (i := 17) (oi := ⟨some 47, .pick (.tmp 44) (.tmp 46) (.const (.bool false)), _, _, _, _⟩) (v := .bool false) rfl (by kernel_rfl) (by kernel_rfl) (by kernel_rfl) (fun _ _ _ h => h) (Or.inl ⟨by rfl, fun w _ => by go_simp⟩) hHeld ?_
      simp only [Act.put, List.setIfInBounds_toArray, List.set_cons_zero, List.set_cons_succ]
      refine wpAnyH_take (i := 18) (oi := ⟨some 48, .pick (.tmp 41) (.const (.bool true)) (.tmp 47), _, _, _, none⟩) (v := .bool false) rfl (by kernel_rfl) (by kernel_rfl) (by kernel_rfl) (fun _ _ _ h => h) (Or.inl ⟨by rfl, fun w _ => by go_simp⟩) hHeld ?_
      simp only [Act.put, List.setIfInBounds_toArray, List.set_cons_zero, List.set_cons_succ]
      refine wpAnyH_take (i := 19) (oi := ⟨some 49, .move (.tmp 48), _, _, _, none⟩) (v := .bool false) rfl (by kernel_rfl) (by kernel_rfl) (by kernel_rfl) (fun _ _ _ h => h) (Or.inl ⟨by rfl, fun _ _ => rfl⟩) hHeld ?_
      simp only [Act.put, List.setIfInBounds_toArray, List.set_cons_zero, List.set_cons_succ]
      refine wpAnyH_take (i := 20) (oi := ⟨some 50, .load 26 (.tmp 5), _, _, _, _⟩) (v := .agg x.cells.toArray) rfl (by kernel_rfl) (by kernel_rfl) (by kernel_rfl) (fun _ _ _ h => h) (yieldsIf_load_mid (by rfl) _ _ rfl _ _ rfl x.cells _ (fun w h => h.2.2.2) Try.underlying26 rfl (ctl_sz _)) hHeld ?_
      simp only [Act.put, List.setIfInBounds_toArray, List.set_cons_zero, List.set_cons_succ]
      refine wpAnyH_take (i := 22) (oi := ⟨some 52, .load 26 (.tmp 5), _, _, _, _⟩) (v := .agg x.cells.toArray) rfl (by kernel_rfl) (by kernel_rfl) (by kernel_rfl) (fun _ _ _ h => h) (yieldsIf_load_mid (by rfl) _ _ rfl _ _ rfl x.cells _ (fun w h => h.2.2.2) Try.underlying26 rfl (ctl_sz _)) hHeld ?_
      simp only [Act.put, List.setIfInBounds_toArray, List.set_cons_zero, List.set_cons_succ]
      refine wpAnyH_ready (rs := [21]) (by kernel_rfl) (by simp) (AllReadyH.cons (o := ⟨some 51, .call { callee := .value (.func 10), args := #[.tmp 50], argTypes := #[26] }, _, _, _, _⟩) rfl (fun K' hK => ?_) (AllReadyH.nil))
      go_simp
      (with_reducible refine (KL.out _).mono ?_)
      rintro e x1 ⟨rfl, l1⟩
      replace b5 := b5.keep l1
      replace b9 := b9.keep l1
      replace b11 := b11.keep l1
      replace b13 := b13.keep l1
      replace lw := Later.trans_ lw l1
      refine hK.out _ _ ⟨(show World.rangeAt _ w1.heap.size 0 (kN n).cells from b11.range 0 14), (show World.rangeAt _ v1.heap.size 0 (kN n).cells from b13.range 0 14), b13.cell (j := 0) rfl, (show World.rangeAt _ w.heap.size 0 x.cells from b5.range 0 14)⟩ (fun hHeld => ?_)
      clear hK K'
      try simp only [Act.put, List.setIfInBounds_toArray, List.set_cons_zero, List.set_cons_succ]
      refine wpAnyH_ready (rs := [23]) (by kernel_rfl) (by simp) (AllReadyH.cons (o := ⟨some 53, .call { callee := .value (.func 9), args := #[.tmp 52], argTypes := #[26] }, _, _, _, _⟩) rfl (fun K' hK => ?_) (AllReadyH.nil))
      go_simp
      (with_reducible refine (KR.out _).mono ?_)
      rintro e x2 ⟨rfl, l1⟩
      replace b5 := b5.keep l1
      replace b9 := b9.keep l1
      replace b11 := b11.keep l1
      replace b13 := b13.keep l1
      replace lw := Later.trans_ lw l1
      refine hK.out _ _ ⟨(show World.rangeAt _ w1.heap.size 0 (kN n).cells from b11.range 0 14), (show World.rangeAt _ v1.heap.size 0 (kN n).cells from b13.range 0 14), b13.cell (j := 0) rfl, (show World.rangeAt _ w.heap.size 0 x.cells from b5.range 0 14)⟩ (fun hHeld => ?_)
      clear hK K'
      try simp only [Act.put, List.setIfInBounds_toArray, List.set_cons_zero, List.set_cons_succ]
      refine wpAnyH_take (i := 24) (oi := ⟨some 54, .binOp .neq 4 (.tmp 51) (.tmp 53) 4, _, _, _, _⟩) (v := .bool false) rfl (by kernel_rfl) (by kernel_rfl) (by kernel_rfl) (fun _ _ _ h => h) (Or.inl ⟨by rfl, fun w _ => by go_simp⟩) hHeld ?_
      simp only [Act.put, List.setIfInBounds_toArray, List.set_cons_zero, List.set_cons_succ]
      refine wpAnyH_take (i := 25) (oi := ⟨some 55, .pick (.tmp 49) (.const (.bool true)) (.tmp 54), _, _, _, none⟩) (v := .bool false) rfl (by kernel_rfl) (by kernel_rfl) (by kernel_rfl) (fun _ _ _ h => h) (Or.inl ⟨by rfl, fun w _ => by go_simp⟩) hHeld ?_
      simp only [Act.put, List.setIfInBounds_toArray, List.set_cons_zero, List.set_cons_succ]
      refine wpAnyH_done (by kernel_rfl) ?_ _
      clear hHeld
      clear b11 b13
      go_upto_region 7 with fail
      go_wp2_with (first
        | ((with_reducible refine wpList_load_blk (o := ⟨some 56, .load 26 (.tmp 5), _, _, _, none⟩) rfl _ _ rfl w.heap.size 26 x.cells _ ?_ ?_ Try.underlying26 rfl (ctl_sz _) ?_); rfl; exact b5)
        | (go_at_call 9; (with_reducible refine (KR.out _).mono ?_); rintro e w7 ⟨rfl, l7⟩; replace b5 := b5.keep l7; replace lw := Later.trans_ lw l7)
        | (go_at_call 11; (with_reducible refine (KS.out _).mono ?_); rintro e w8 ⟨rfl, l8⟩; replace b5 := b5.keep l8; replace lw := Later.trans_ lw l8))
      go_ret
      exact ⟨rfl, lw⟩
  · have KF := Lib.hid fun w' => rvalid_no (kN_wf hn) (fun h => hn4 ((kN_ok n).1 h)) w'
    rw [show newC n = zK from if_neg hn4, show newE n = 1 from if_neg hn4] at KN
    have hqn := ctl_same zK
    clear hn4 hn
    by_cases hok : x.Ok
    · obtain ⟨b, hb⟩ : ∃ b : Bool, b = true := ⟨_, rfl⟩
      have KL := Lib.hid fun w' => valid_any x b w' hx (by simp [hb, hok])
      have KR := Lib.hid fun w' => rvalid_any x b w' hx (by simp [hb, hok])
      have hn1 := hok.n1
      have hn4 := hok.n4
      have hnz : ¬ x.n = 0 := by omega
      have hw8 : IntKind.i64.wrap cp = cp := by rw [IntKind.wrap_i64]; omega
      have hmd : cp.tmod x.n = (((cp % x.n).toNat : Nat) : Int) := by
        rw [Int.tmod_eq_emod_of_nonneg hcp.1, Int.toNat_of_nonneg (Int.emod_nonneg _ hnz)]
      have hkn : (((cp % x.n).toNat : Nat) : Int) < x.n := by
        rw [Int.toNat_of_nonneg (Int.emod_nonneg _ hnz)]; exact Int.emod_lt_of_pos _ (by omega)
      obtain ⟨k, hk⟩ : ∃ k, k = (cp % x.n).toNat := ⟨_, rfl⟩
      rw [← hk] at hmd hkn
      have KP := Lib.hid fun w' => (show Calls Try.prog 12 #[.agg x.cells.toArray, .int .i64 (k : Int), .agg (ioC inn p v).toArray] w' fun e w'' => e = .returned (.tuple #[.agg (x.port k inn p v).cells.toArray, .int .u32 (x.val k inn p), .int .i64 (pErr inn p)]) ∧ Later w' w'' from port_any x k inn p v w' hok hx hkn hv)
      have KQ := Lib.hid fun w' => (show Calls Try.prog 13 #[.agg x.cells.toArray, .int .i64 (k : Int), .agg (ioC inn p v).toArray] w' fun e w'' => e = .returned (.agg (didC (x.port k inn p v) (x.val k inn p) (pErr inn p)).toArray) ∧ Later w' w'' from rport_any x k inn p v w' hok hx hkn hv)
      have K1 := Lib.hid fun w' => raise_any x ln k w' hok hx hkn
      have K2 := Lib.hid fun w' => rraise_any x ln k w' hok hx hkn
      have K3 := Lib.hid fun w' => pending_any x k w' hok hx hkn
      have K4 := Lib.hid fun w' => rpending_any x k w' hok hx hkn
      have hyk := hok.ported hx (k := k) (inn := inn) (p := p) (v := v) hkn hv
      have KY := Lib.hid fun w' => valid_any (x.port k inn p v) true w' hyk.2 (by simp [hyk.1])
      obtain ⟨y, hy⟩ : ∃ y, y = x.port k inn p v := ⟨_, rfl⟩
      obtain ⟨vv, hvv⟩ : ∃ u, u = x.val k inn p := ⟨_, rfl⟩
      obtain ⟨qq, hqq⟩ : ∃ q, q = pErr inn p := ⟨_, rfl⟩
      obtain ⟨z, hz⟩ : ∃ z, z = x.raise ln k := ⟨_, rfl⟩
      obtain ⟨pe, hpe⟩ : ∃ z, z = x.pend k := ⟨_, rfl⟩
      rw [← hy, ← hvv, ← hqq] at KP KQ
      rw [← hy] at KY
      rw [← hz] at K1 K2
      rw [← hpe] at K3 K4
      have hqy := ctl_same y
      have hqz := ctl_same z
      clear hk hy hvv hqq hz hpe hyk hok hx hv hcp
      rw [hb] at KL KR
      clear hb b
      go_enter Try.func3, Try.ntmps3
      go_upto_region 1 with fail
      go_upto_region 5 with (first
        | (go_at_call 8; (with_reducible refine (KN.out _).mono ?_); rintro e w1 ⟨rfl, l1⟩; replace b5 := b5.keep l1; replace b9 := b9.keep l1; replace lw := Later.trans_ lw l1)
        | ((with_reducible refine wpList_store_abs (o := ⟨none, .store 26 (.tmp 11) (.tmp 22), _, _, _, none⟩) rfl _ _ _ rfl w1.heap.size 26 zK.cells zK.cells ?_ ?_ ?_ ?_ ?_ ?_ ?_); rfl; rfl; exact (Blk.new _ _ _ _ rfl); exact ctl_sz _; rfl; exact ctl_one _; intro v1 b11 ob11; replace b5 := (b5.alloc (.cells zK.cells.toArray 26)).only ob11 (Nat.ne_of_lt b5.lt); replace b9 := (b9.alloc (.cells zK.cells.toArray 26)).only ob11 (Nat.ne_of_lt b9.lt); replace lw := Below.only (lw.alloc lw.size (.cells zK.cells.toArray 26)) ob11 lw.size; clear ob11)
        | ((with_reducible refine wpList_bld (o := ⟨some 25, .build 26 #[(0, .tmp 24)], _, _, _, none⟩) rfl _ #[(0, .tmp 24)] #[(0, .int .i64 n)] (kN n).cells.toArray rfl ?_ (run_n n _) ?_); rfl)
        | ((with_reducible refine wpList_store_abs (o := ⟨none, .store 26 (.tmp 13) (.tmp 25), _, _, _, none⟩) rfl _ _ _ rfl v1.heap.size 26 zK.cells (kN n).cells ?_ ?_ ?_ ?_ ?_ ?_ ?_); rfl; rfl; exact (Blk.new _ _ _ _ rfl); exact ctl_sz _; rfl; exact ctl_one _; have n5 := Nat.ne_of_lt b5.lt; have n9 := Nat.ne_of_lt b9.lt; have n11 := Nat.ne_of_lt b11.lt; have nw := lw.size; intro v2 b13 ob13; replace b5 := (b5.alloc (.cells zK.cells.toArray 26)).only ob13 (Nat.ne_of_lt b5.lt); replace b9 := (b9.alloc (.cells zK.cells.toArray 26)).only ob13 (Nat.ne_of_lt b9.lt); replace b11 := (b11.alloc (.cells zK.cells.toArray 26)).only ob13 (Nat.ne_of_lt b11.lt); replace lw := Below.only (lw.alloc lw.size (.cells zK.cells.toArray 26)) ob13 lw.size; clear ob13)
        | ((with_reducible refine wpList_load_blk (o := ⟨some 26, .load 26 (.tmp 13), _, _, _, none⟩) rfl _ _ rfl v1.heap.size 26 (kN n).cells _ ?_ ?_ Try.underlying26 rfl (ctl_sz _) ?_); rfl; exact b13)
        | (go_at_call 9; (with_reducible refine (KF.out _).mono ?_); rintro e w2 ⟨rfl, l2⟩; replace b5 := b5.keep l2; replace b9 := b9.keep l2; replace b11 := b11.keep l2; replace b13 := b13.keep l2; replace lw := Later.trans_ lw l2)
        | ((with_reducible refine wpList_bld (o := ⟨some 29, .build 26 #[], _, _, _, none⟩) rfl _ #[] #[] zK.cells.toArray rfl ?_ (run_0 _) ?_); rfl)
        | ((with_reducible refine wpList_store_abs (o := ⟨none, .store 26 (.tmp 13) (.tmp 29), _, _, _, none⟩) rfl _ _ _ rfl v1.heap.size 26 (kN n).cells zK.cells ?_ ?_ ?_ ?_ ?_ ?_ ?_); rfl; rfl; exact b13; exact ctl_sz _; rfl; exact ctl_one _; intro v3 bq oq; replace b5 := b5.only oq n5; replace b9 := b9.only oq n9; replace b11 := b11.only oq n11; clear b13; have b13 := bq; replace lw := Below.only lw oq nw; clear bq oq))
      clear n5 n9 n11 nw
      replace b5 := b5.drew
      replace b9 := b9.drew
      replace b11 := b11.drew
      replace b13 := b13.drew
      replace lw := lw.drew
      refine wp_region_held_drew (S := fun w' => World.rangeAt w' w1.heap.size 0 zK.cells ∧ World.rangeAt w' v1.heap.size 0 zK.cells ∧ w'.cell? ⟨v1.heap.size, 0, none⟩ = some (.int .i64 0) ∧ World.rangeAt w' w.heap.size 0 x.cells) (by kernel_rfl) ⟨(show World.rangeAt _ w1.heap.size 0 zK.cells from b11.range 0 14), (show World.rangeAt _ v1.heap.size 0 zK.cells from b13.range 0 14), b13.cell (j := 0) rfl, (show World.rangeAt _ w.heap.size 0 x.cells from b5.range 0 14)⟩ (fun hHeld => ?_)
      refine wpAnyH_take (i := 0) (oi := ⟨some 30, .load 26 (.tmp 11), _, _, _, none⟩) (v := .agg zK.cells.toArray) rfl (by kernel_rfl) (by kernel_rfl) (by kernel_rfl) (fun _ _ _ h => h) (yieldsIf_load_mid (by rfl) _ _ rfl _ _ rfl zK.cells _ (fun w h => h.1) Try.underlying26 rfl (ctl_sz _)) hHeld ?_
      simp only [Act.put, List.setIfInBounds_toArray, List.set_cons_zero, List.set_cons_succ]
      refine wpAnyH_take (i := 1) (oi := ⟨some 31, .load 26 (.tmp 13), _, _, _, none⟩) (v := .agg zK.cells.toArray) rfl (by kernel_rfl) (by kernel_rfl) (by kernel_rfl) (fun _ _ _ h => h) (yieldsIf_load_mid (by rfl) _ _ rfl _ _ rfl zK.cells _ (fun w h => h.2.1) Try.underlying26 rfl (ctl_sz _)) hHeld ?_
      simp only [Act.put, List.setIfInBounds_toArray, List.set_cons_zero, List.set_cons_succ]
      refine wpAnyH_take (i := 2) (oi := ⟨some 32, .binOp .neq 26 (.tmp 30) (.tmp 31) 26, _, _, _, none⟩) (v := .bool false) rfl (by kernel_rfl) (by kernel_rfl) (by kernel_rfl) (fun _ _ _ h => h) (Or.inl ⟨by rfl, fun w _ => by go_simp⟩) hHeld ?_
      simp only [Act.put, List.setIfInBounds_toArray, List.set_cons_zero, List.set_cons_succ]
      refine wpAnyH_take (i := 3) (oi := ⟨some 33, .move (.tmp 32), _, _, _, none⟩) (v := .bool false) rfl (by kernel_rfl) (by kernel_rfl) (by kernel_rfl) (fun _ _ _ h => h) (Or.inl ⟨by rfl, fun _ _ => rfl⟩) hHeld ?_
      simp only [Act.put, List.setIfInBounds_toArray, List.set_cons_zero, List.set_cons_succ]
      refine wpAnyH_take (i := 4) (oi := ⟨some 34, .move (.tmp 12), _, _, _, _⟩) (v := .int .i64 1) rfl (by kernel_rfl) (by kernel_rfl) (by kernel_rfl) (fun _ _ _ h => h) (Or.inl ⟨by rfl, fun _ _ => rfl⟩) hHeld ?_
      simp only [Act.put, List.setIfInBounds_toArray, List.set_cons_zero, List.set_cons_succ]
      refine wpAnyH_take (i := 5) (oi := ⟨some 35, .binOp .eql 29 (.tmp 34) (.const (.int .i64 0)) 29, _, _, _, _⟩) (v := .bool false) rfl (by kernel_rfl) (by kernel_rfl) (by kernel_rfl) (fun _ _ _ h => h) (Or.inl ⟨by rfl, fun w _ => by go_simp⟩) hHeld ?_
      simp only [Act.put, List.setIfInBounds_toArray, List.set_cons_zero, List.set_cons_succ]
      refine wpAnyH_take (i := 6) (oi := ⟨some 36, .fieldAddr 26 (.tmp 13) 0, _, _, _, _⟩) (v := .pointer (some ⟨v1.heap.size, 0, none⟩)) rfl (by kernel_rfl) (by kernel_rfl) (by kernel_rfl) (fun _ _ _ h => h) (Or.inl ⟨by rfl, fun w _ => by go_simp⟩) hHeld ?_
      simp only [Act.put, List.setIfInBounds_toArray, List.set_cons_zero, List.set_cons_succ]
      refine wpAnyH_take (i := 7) (oi := ⟨some 37, .load 3 (.tmp 36), _, _, _, _⟩) (v := .int .i64 0) rfl (by kernel_rfl) (by kernel_rfl) (by kernel_rfl) (fun _ _ _ h => h) (Or.inl ⟨by rfl, fun w hSw => by have e1 := hSw.2.2.1; clear hSw; go_simp⟩) hHeld ?_
      simp only [Act.put, List.setIfInBounds_toArray, List.set_cons_zero, List.set_cons_succ]
      refine wpAnyH_take (i := 8) (oi := ⟨some 38, .binOp .gtr 3 (.tmp 37) (.const (.int .i64 0)) 3, _, _, _, _⟩) (v := .bool false) rfl (by kernel_rfl) (by kernel_rfl) (by kernel_rfl) (fun _ _ _ h => h) (Or.inl ⟨by rfl, fun w _ => by go_simp⟩) hHeld ?_
      simp only [Act.put, List.setIfInBounds_toArray, List.set_cons_zero, List.set_cons_succ]
      refine wpAnyH_take (i := 9) (oi := ⟨some 39, .binOp .neq 4 (.tmp 35) (.tmp 38) 4, _, _, _, _⟩) (v := .bool false) rfl (by kernel_rfl) (by kernel_rfl) (by kernel_rfl) (fun _ _ _ h => h) (Or.inl ⟨by rfl, fun w _ => by go_simp⟩) hHeld ?_
      simp only [Act.put, List.setIfInBounds_toArray, List.set_cons_zero, List.set_cons_succ]
      refine wpAnyH_take (i := 10) (oi := ⟨some 40, .pick (.tmp 33) (.const (.bool true)) (.tmp 39), _, _, _, none⟩) (v := .bool false) rfl (by kernel_rfl) (by kernel_rfl) (by kernel_rfl) (fun _ _ _ h => h) (Or.inl ⟨by rfl, fun w _ => by go_simp⟩) hHeld ?_
      simp only [Act.put, List.setIfInBounds_toArray, List.set_cons_zero, List.set_cons_succ]
      refine wpAnyH_take (i := 11) (oi := ⟨some 41, .move (.tmp 40), _, _, _, none⟩) (v := .bool false) rfl (by kernel_rfl) (by kernel_rfl) (by kernel_rfl) (fun _ _ _ h => h) (Or.inl ⟨by rfl, fun _ _ => rfl⟩) hHeld ?_
      simp only [Act.put, List.setIfInBounds_toArray, List.set_cons_zero, List.set_cons_succ]
      refine wpAnyH_take (i := 12) (oi := ⟨some 42, .move (.tmp 12), _, _, _, _⟩) (v := .int .i64 1) rfl (by kernel_rfl) (by kernel_rfl) (by kernel_rfl) (fun _ _ _ h => h) (Or.inl ⟨by rfl, fun _ _ => rfl⟩) hHeld ?_
      simp only [Act.put, List.setIfInBounds_toArray, List.set_cons_zero, List.set_cons_succ]
      refine wpAnyH_take (i := 13) (oi := ⟨some 43, .binOp .neq 29 (.tmp 42) (.const (.int .i64 0)) 29, _, _, _, _⟩) (v := .bool true) rfl (by kernel_rfl) (by kernel_rfl) (by kernel_rfl) (fun _ _ _ h => h) (Or.inl ⟨by rfl, fun w _ => by go_simp⟩) hHeld ?_
      simp only [Act.put, List.setIfInBounds_toArray, List.set_cons_zero, List.set_cons_succ]
      refine wpAnyH_take (i := 14) (oi := ⟨some 44, .move (.tmp 43), _, _, _, _⟩) (v := .bool true) rfl (by kernel_rfl) (by kernel_rfl) (by kernel_rfl) (fun _ _ _ h => h) (Or.inl ⟨by rfl, fun _ _ => rfl⟩) hHeld ?_
      simp only [Act.put, List.setIfInBounds_toArray, List.set_cons_zero, List.set_cons_succ]
      refine wpAnyH_take (i := 15) (oi := ⟨some 45, .move (.tmp 12), _, _, _, _⟩) (v := .int .i64 1) rfl (by kernel_rfl) (by kernel_rfl) (by kernel_rfl) (fun _ _ _ h => h) (Or.inl ⟨by rfl, fun _ _ => rfl⟩) hHeld ?_
      simp only [Act.put, List.setIfInBounds_toArray, List.set_cons_zero, List.set_cons_succ]
      refine wpAnyH_take (i := 16) (oi := ⟨some 46, .binOp .neq 29 (.tmp 45) (.const (.int .i64 1)) 29, _, _, _, _⟩) (v := .bool false) rfl (by kernel_rfl) (by kernel_rfl) (by kernel_rfl) (fun _ _ _ h => h) (Or.inl ⟨by rfl, fun w _ => by go_simp⟩) hHeld ?_
      simp only [Act.put, List.setIfInBounds_toArray, List.set_cons_zero, List.set_cons_succ]
      refine wpAnyH_take (i := 17) (oi := ⟨some 47, .pick (.tmp 44) (.tmp 46) (.const (.bool false)), _, _, _, _⟩) (v := .bool false) rfl (by kernel_rfl) (by kernel_rfl) (by kernel_rfl) (fun _ _ _ h => h) (Or.inl ⟨by rfl, fun w _ => by go_simp⟩) hHeld ?_
      simp only [Act.put, List.setIfInBounds_toArray, List.set_cons_zero, List.set_cons_succ]
      refine wpAnyH_take (i := 18) (oi := ⟨some 48, .pick (.tmp 41) (.const (.bool true)) (.tmp 47), _, _, _, none⟩) (v := .bool false) rfl (by kernel_rfl) (by kernel_rfl) (by kernel_rfl) (fun _ _ _ h => h) (Or.inl ⟨by rfl, fun w _ => by go_simp⟩) hHeld ?_
      simp only [Act.put, List.setIfInBounds_toArray, List.set_cons_zero, List.set_cons_succ]
      refine wpAnyH_take (i := 19) (oi := ⟨some 49, .move (.tmp 48), _, _, _, none⟩) (v := .bool false) rfl (by kernel_rfl) (by kernel_rfl) (by kernel_rfl) (fun _ _ _ h => h) (Or.inl ⟨by rfl, fun _ _ => rfl⟩) hHeld ?_
      simp only [Act.put, List.setIfInBounds_toArray, List.set_cons_zero, List.set_cons_succ]
      refine wpAnyH_take (i := 20) (oi := ⟨some 50, .load 26 (.tmp 5), _, _, _, _⟩) (v := .agg x.cells.toArray) rfl (by kernel_rfl) (by kernel_rfl) (by kernel_rfl) (fun _ _ _ h => h) (yieldsIf_load_mid (by rfl) _ _ rfl _ _ rfl x.cells _ (fun w h => h.2.2.2) Try.underlying26 rfl (ctl_sz _)) hHeld ?_
      simp only [Act.put, List.setIfInBounds_toArray, List.set_cons_zero, List.set_cons_succ]
      refine wpAnyH_take (i := 22) (oi := ⟨some 52, .load 26 (.tmp 5), _, _, _, _⟩) (v := .agg x.cells.toArray) rfl (by kernel_rfl) (by kernel_rfl) (by kernel_rfl) (fun _ _ _ h => h) (yieldsIf_load_mid (by rfl) _ _ rfl _ _ rfl x.cells _ (fun w h => h.2.2.2) Try.underlying26 rfl (ctl_sz _)) hHeld ?_
      simp only [Act.put, List.setIfInBounds_toArray, List.set_cons_zero, List.set_cons_succ]
      refine wpAnyH_ready (rs := [21]) (by kernel_rfl) (by simp) (AllReadyH.cons (o := ⟨some 51, .call { callee := .value (.func 10), args := #[.tmp 50], argTypes := #[26] }, _, _, _, _⟩) rfl (fun K' hK => ?_) (AllReadyH.nil))
      go_simp
      (with_reducible refine (KL.out _).mono ?_)
      rintro e x1 ⟨rfl, l1⟩
      replace b5 := b5.keep l1
      replace b9 := b9.keep l1
      replace b11 := b11.keep l1
      replace b13 := b13.keep l1
      replace lw := Later.trans_ lw l1
      refine hK.out _ _ ⟨(show World.rangeAt _ w1.heap.size 0 zK.cells from b11.range 0 14), (show World.rangeAt _ v1.heap.size 0 zK.cells from b13.range 0 14), b13.cell (j := 0) rfl, (show World.rangeAt _ w.heap.size 0 x.cells from b5.range 0 14)⟩ (fun hHeld => ?_)
      clear hK K'
      try simp only [Act.put, List.setIfInBounds_toArray, List.set_cons_zero, List.set_cons_succ]
      refine wpAnyH_ready (rs := [23]) (by kernel_rfl) (by simp) (AllReadyH.cons (o := ⟨some 53, .call { callee := .value (.func 9), args := #[.tmp 52], argTypes := #[26] }, _, _, _, _⟩) rfl (fun K' hK => ?_) (AllReadyH.nil))
      go_simp
      (with_reducible refine (KR.out _).mono ?_)
      rintro e x2 ⟨rfl, l1⟩
      replace b5 := b5.keep l1
      replace b9 := b9.keep l1
      replace b11 := b11.keep l1
      replace b13 := b13.keep l1
      replace lw := Later.trans_ lw l1
      refine hK.out _ _ ⟨(show World.rangeAt _ w1.heap.size 0 zK.cells from b11.range 0 14), (show World.rangeAt _ v1.heap.size 0 zK.cells from b13.range 0 14), b13.cell (j := 0) rfl, (show World.rangeAt _ w.heap.size 0 x.cells from b5.range 0 14)⟩ (fun hHeld => ?_)
      clear hK K'
      try simp only [Act.put, List.setIfInBounds_toArray, List.set_cons_zero, List.set_cons_succ]
      refine wpAnyH_take (i := 24) (oi := ⟨some 54, .binOp .neq 4 (.tmp 51) (.tmp 53) 4, _, _, _, _⟩) (v := .bool false) rfl (by kernel_rfl) (by kernel_rfl) (by kernel_rfl) (fun _ _ _ h => h) (Or.inl ⟨by rfl, fun w _ => by go_simp⟩) hHeld ?_
      simp only [Act.put, List.setIfInBounds_toArray, List.set_cons_zero, List.set_cons_succ]
      refine wpAnyH_take (i := 25) (oi := ⟨some 55, .pick (.tmp 49) (.const (.bool true)) (.tmp 54), _, _, _, none⟩) (v := .bool false) rfl (by kernel_rfl) (by kernel_rfl) (by kernel_rfl) (fun _ _ _ h => h) (Or.inl ⟨by rfl, fun w _ => by go_simp⟩) hHeld ?_
      simp only [Act.put, List.setIfInBounds_toArray, List.set_cons_zero, List.set_cons_succ]
      refine wpAnyH_done (by kernel_rfl) ?_ _
      clear hHeld
      clear b11 b13
      go_upto_region 7 with fail
      go_upto_region 12 with (first
        | ((with_reducible refine wpList_load_blk (o := ⟨some 56, .load 26 (.tmp 5), _, _, _, none⟩) rfl _ _ rfl w.heap.size 26 x.cells _ ?_ ?_ Try.underlying26 rfl (ctl_sz _) ?_); rfl; exact b5)
        | (go_at_call 9; (with_reducible refine (KR.out _).mono ?_); rintro e w7 ⟨rfl, l7⟩; replace b5 := b5.keep l7; replace b9 := b9.keep l7; replace lw := Later.trans_ lw l7; have en := b5.cell (ctl_n x))
        | ((with_reducible refine wpList_load_blk (o := ⟨some 66, .load 26 (.tmp 5), _, _, _, none⟩) rfl _ _ rfl w.heap.size 26 x.cells _ ?_ ?_ Try.underlying26 rfl (ctl_sz _) ?_); rfl; exact b5; clear en)
        | ((with_reducible refine wpList_load_blk (o := ⟨some 68, .load 28 (.tmp 9), _, _, _, none⟩) rfl _ _ rfl (w.heap.size + 1) 28 (ioC inn p v) _ ?_ ?_ Try.underlying28 rfl (io_sz _ _ _) ?_); rfl; exact b9)
        | (go_at_call 12; (with_reducible refine (KP.out _).mono ?_); rintro e w9 ⟨rfl, l9⟩; replace b5 := b5.keep l9; replace b9 := b9.keep l9; replace lw := Later.trans_ lw l9)
        | ((with_reducible refine wpList_store_abs (o := ⟨none, .store 26 (.tmp 15) (.tmp 70), _, _, _, none⟩) rfl _ _ _ rfl w9.heap.size 26 zK.cells y.cells ?_ ?_ ?_ ?_ ?_ ?_ ?_); rfl; rfl; exact (Blk.new _ _ _ _ rfl); exact ctl_sz _; rfl; exact ctl_one _; intro v4 b15 ob15; replace b5 := (b5.alloc (.cells zK.cells.toArray 26)).only ob15 (Nat.ne_of_lt b5.lt); replace b9 := (b9.alloc (.cells zK.cells.toArray 26)).only ob15 (Nat.ne_of_lt b9.lt); replace lw := Below.only (lw.alloc lw.size (.cells zK.cells.toArray 26)) ob15 lw.size; clear ob15)
        | ((with_reducible refine wpList_load_blk (o := ⟨some 73, .load 26 (.tmp 5), _, _, _, none⟩) rfl _ _ rfl w.heap.size 26 x.cells _ ?_ ?_ Try.underlying26 rfl (ctl_sz _) ?_); rfl; exact b5)
        | ((with_reducible refine wpList_load_blk (o := ⟨some 75, .load 28 (.tmp 9), _, _, _, none⟩) rfl _ _ rfl (w.heap.size + 1) 28 (ioC inn p v) _ ?_ ?_ Try.underlying28 rfl (io_sz _ _ _) ?_); rfl; exact b9)
        | (go_at_call 13; (with_reducible refine (KQ.out _).mono ?_); rintro e w10 ⟨rfl, l10⟩; replace b5 := b5.keep l10; replace b9 := b9.keep l10; replace b15 := b15.keep l10; replace lw := Later.trans_ lw l10)
        | ((with_reducible refine wpList_store_abs (o := ⟨none, .store 37 (.tmp 18) (.tmp 76), _, _, _, none⟩) rfl _ _ _ rfl w10.heap.size 37 (didC zK 0 0) (didC y vv qq) ?_ ?_ ?_ ?_ ?_ ?_ ?_); rfl; rfl; exact (Blk.new _ _ _ _ rfl); exact did_sz _ _ _; rfl; exact did_one _ _ _; intro v5 b18 ob18; replace b5 := (b5.alloc (.cells (didC zK 0 0).toArray 37)).only ob18 (Nat.ne_of_lt b5.lt); replace b9 := (b9.alloc (.cells (didC zK 0 0).toArray 37)).only ob18 (Nat.ne_of_lt b9.lt); replace b15 := (b15.alloc (.cells (didC zK 0 0).toArray 37)).only ob18 (Nat.ne_of_lt b15.lt); replace lw := Below.only (lw.alloc lw.size (.cells (didC zK 0 0).toArray 37)) ob18 lw.size; clear ob18))
      replace b5 := b5.drew
      replace b15 := b15.drew
      replace b18 := b18.drew
      replace lw := lw.drew
      refine wp_region_held_drew (S := fun w' => World.rangeAt w' w.heap.size 0 x.cells ∧ World.rangeAt w' w9.heap.size 0 y.cells ∧ World.rangeAt w' w10.heap.size 0 y.cells ∧ w'.cell? ⟨w10.heap.size, 14, none⟩ = some (.int .u32 vv) ∧ w'.cell? ⟨w10.heap.size, 15, none⟩ = some (.int .i64 qq)) (by kernel_rfl) ⟨(show World.rangeAt _ w.heap.size 0 x.cells from b5.range 0 14), (show World.rangeAt _ w9.heap.size 0 y.cells from b15.range 0 14), (show World.rangeAt _ w10.heap.size 0 y.cells from b18.range 0 14), b18.cell (j := 14) rfl, b18.cell (j := 15) rfl⟩ (fun hHeld => ?_)
      refine wpAnyH_ready (rs := [0]) (by kernel_rfl) (by simp) (AllReadyH.cons (o := ⟨some 77, .call { callee := .value (.func 11), args := #[], argTypes := #[] }, _, _, _, none⟩) rfl (fun K' hK => ?_) (AllReadyH.nil))
      go_simp
      (with_reducible refine (KS.out _).mono ?_)
      rintro e y1 ⟨rfl, l1⟩
      replace b5 := b5.keep l1
      replace b15 := b15.keep l1
      replace b18 := b18.keep l1
      replace lw := Later.trans_ lw l1
      refine hK.out _ _ ⟨(show World.rangeAt _ w.heap.size 0 x.cells from b5.range 0 14), (show World.rangeAt _ w9.heap.size 0 y.cells from b15.range 0 14), (show World.rangeAt _ w10.heap.size 0 y.cells from b18.range 0 14), b18.cell (j := 14) rfl, b18.cell (j := 15) rfl⟩ (fun hHeld => ?_)
      clear hK K'
      try simp only [Act.put, List.setIfInBounds_toArray, List.set_cons_zero, List.set_cons_succ]
      refine wpAnyH_take (i := 1) (oi := ⟨some 78, .move (.tmp 77), _, _, _, none⟩) (v := .bool true) rfl (by kernel_rfl) (by kernel_rfl) (by kernel_rfl) (fun _ _ _ h => h) (Or.inl ⟨by rfl, fun _ _ => rfl⟩) hHeld ?_
      simp only [Act.put, List.setIfInBounds_toArray, List.set_cons_zero, List.set_cons_succ]
      refine wpAnyH_take (i := 2) (oi := ⟨some 79, .load 26 (.tmp 5), _, _, _, _⟩) (v := .agg x.cells.toArray) rfl (by kernel_rfl) (by kernel_rfl) (by kernel_rfl) (fun _ _ _ h => h) (yieldsIf_load_mid (by rfl) _ _ rfl _ _ rfl x.cells _ (fun w h => h.1) Try.underlying26 rfl (ctl_sz _)) hHeld ?_
      simp only [Act.put, List.setIfInBounds_toArray, List.set_cons_zero, List.set_cons_succ]
      refine wpAnyH_take (i := 3) (oi := ⟨some 80, .move (.tmp 3), _, _, _, _⟩) (v := .int .i64 ln) rfl (by kernel_rfl) (by kernel_rfl) (by kernel_rfl) (fun _ _ _ h => h) (Or.inl ⟨by rfl, fun _ _ => rfl⟩) hHeld ?_
      simp only [Act.put, List.setIfInBounds_toArray, List.set_cons_zero, List.set_cons_succ]
      refine wpAnyH_take (i := 4) (oi := ⟨some 81, .move (.tmp 14), _, _, _, _⟩) (v := .int .i64 (k : Int)) rfl (by kernel_rfl) (by kernel_rfl) (by kernel_rfl) (fun _ _ _ h => h) (Or.inl ⟨by rfl, fun _ _ => rfl⟩) hHeld ?_
      simp only [Act.put, List.setIfInBounds_toArray, List.set_cons_zero, List.set_cons_succ]
      refine wpAnyH_take (i := 6) (oi := ⟨some 83, .load 26 (.tmp 5), _, _, _, _⟩) (v := .agg x.cells.toArray) rfl (by kernel_rfl) (by kernel_rfl) (by kernel_rfl) (fun _ _ _ h => h) (yieldsIf_load_mid (by rfl) _ _ rfl _ _ rfl x.cells _ (fun w h => h.1) Try.underlying26 rfl (ctl_sz _)) hHeld ?_
      simp only [Act.put, List.setIfInBounds_toArray, List.set_cons_zero, List.set_cons_succ]
      refine wpAnyH_take (i := 7) (oi := ⟨some 84, .move (.tmp 3), _, _, _, _⟩) (v := .int .i64 ln) rfl (by kernel_rfl) (by kernel_rfl) (by kernel_rfl) (fun _ _ _ h => h) (Or.inl ⟨by rfl, fun _ _ => rfl⟩) hHeld ?_
      simp only [Act.put, List.setIfInBounds_toArray, List.set_cons_zero, List.set_cons_succ]
      refine wpAnyH_take (i := 8) (oi := ⟨some 85, .move (.tmp 14), _, _, _, _⟩) (v := .int .i64 (k : Int)) rfl (by kernel_rfl) (by kernel_rfl) (by kernel_rfl) (fun _ _ _ h => h) (Or.inl ⟨by rfl, fun _ _ => rfl⟩) hHeld ?_
      simp only [Act.put, List.setIfInBounds_toArray, List.set_cons_zero, List.set_cons_succ]
      refine wpAnyH_ready (rs := [5]) (by kernel_rfl) (by simp) (AllReadyH.cons (o := ⟨some 82, .call { callee := .value (.func 14), args := #[.tmp 79, .tmp 80, .tmp 81], argTypes := #[26, 3, 3] }, _, _, _, _⟩) rfl (fun K' hK => ?_) (AllReadyH.nil))
      go_simp
      (with_reducible refine (K1.out _).mono ?_)
      rintro e y2 ⟨rfl, l1⟩
      replace b5 := b5.keep l1
      replace b15 := b15.keep l1
      replace b18 := b18.keep l1
      replace lw := Later.trans_ lw l1
      refine hK.out _ _ ⟨(show World.rangeAt _ w.heap.size 0 x.cells from b5.range 0 14), (show World.rangeAt _ w9.heap.size 0 y.cells from b15.range 0 14), (show World.rangeAt _ w10.heap.size 0 y.cells from b18.range 0 14), b18.cell (j := 14) rfl, b18.cell (j := 15) rfl⟩ (fun hHeld => ?_)
      clear hK K'
      try simp only [Act.put, List.setIfInBounds_toArray, List.set_cons_zero, List.set_cons_succ]
      refine wpAnyH_ready (rs := [9]) (by kernel_rfl) (by simp) (AllReadyH.cons (o := ⟨some 86, .call { callee := .value (.func 15), args := #[.tmp 83, .tmp 84, .tmp 85], argTypes := #[26, 3, 3] }, _, _, _, _⟩) rfl (fun K' hK => ?_) (AllReadyH.nil))
      go_simp
      (with_reducible refine (K2.out _).mono ?_)
      rintro e y3 ⟨rfl, l1⟩
      replace b5 := b5.keep l1
      replace b15 := b15.keep l1
      replace b18 := b18.keep l1
      replace lw := Later.trans_ lw l1
      refine hK.out _ _ ⟨(show World.rangeAt _ w.heap.size 0 x.cells from b5.range 0 14), (show World.rangeAt _ w9.heap.size 0 y.cells from b15.range 0 14), (show World.rangeAt _ w10.heap.size 0 y.cells from b18.range 0 14), b18.cell (j := 14) rfl, b18.cell (j := 15) rfl⟩ (fun hHeld => ?_)
      clear hK K'
      try simp only [Act.put, List.setIfInBounds_toArray, List.set_cons_zero, List.set_cons_succ]
      refine wpAnyH_take (i := 10) (oi := ⟨some 87, .binOp .eql 26 (.tmp 82) (.tmp 86) 26, _, _, _, _⟩) (v := .bool true) rfl (by kernel_rfl) (by kernel_rfl) (by kernel_rfl) (fun _ _ _ h => h) (Or.inl ⟨by rfl, fun w _ => by go_simp⟩) hHeld ?_
      simp only [Act.put, List.setIfInBounds_toArray, List.set_cons_zero, List.set_cons_succ]
      refine wpAnyH_take (i := 11) (oi := ⟨some 88, .pick (.tmp 78) (.tmp 87) (.const (.bool false)), _, _, _, none⟩) (v := .bool true) rfl (by kernel_rfl) (by kernel_rfl) (by kernel_rfl) (fun _ _ _ h => h) (Or.inl ⟨by rfl, fun w _ => by go_simp⟩) hHeld ?_
      simp only [Act.put, List.setIfInBounds_toArray, List.set_cons_zero, List.set_cons_succ]
      refine wpAnyH_take (i := 12) (oi := ⟨some 89, .move (.tmp 88), _, _, _, none⟩) (v := .bool true) rfl (by kernel_rfl) (by kernel_rfl) (by kernel_rfl) (fun _ _ _ h => h) (Or.inl ⟨by rfl, fun _ _ => rfl⟩) hHeld ?_
      simp only [Act.put, List.setIfInBounds_toArray, List.set_cons_zero, List.set_cons_succ]
      refine wpAnyH_take (i := 13) (oi := ⟨some 90, .load 26 (.tmp 5), _, _, _, _⟩) (v := .agg x.cells.toArray) rfl (by kernel_rfl) (by kernel_rfl) (by kernel_rfl) (fun _ _ _ h => h) (yieldsIf_load_mid (by rfl) _ _ rfl _ _ rfl x.cells _ (fun w h => h.1) Try.underlying26 rfl (ctl_sz _)) hHeld ?_
      simp only [Act.put, List.setIfInBounds_toArray, List.set_cons_zero, List.set_cons_succ]
      refine wpAnyH_take (i := 14) (oi := ⟨some 91, .move (.tmp 14), _, _, _, _⟩) (v := .int .i64 (k : Int)) rfl (by kernel_rfl) (by kernel_rfl) (by kernel_rfl) (fun _ _ _ h => h) (Or.inl ⟨by rfl, fun _ _ => rfl⟩) hHeld ?_
      simp only [Act.put, List.setIfInBounds_toArray, List.set_cons_zero, List.set_cons_succ]
      refine wpAnyH_take (i := 16) (oi := ⟨some 93, .load 26 (.tmp 5), _, _, _, _⟩) (v := .agg x.cells.toArray) rfl (by kernel_rfl) (by kernel_rfl) (by kernel_rfl) (fun _ _ _ h => h) (yieldsIf_load_mid (by rfl) _ _ rfl _ _ rfl x.cells _ (fun w h => h.1) Try.underlying26 rfl (ctl_sz _)) hHeld ?_
      simp only [Act.put, List.setIfInBounds_toArray, List.set_cons_zero, List.set_cons_succ]
      refine wpAnyH_take (i := 17) (oi := ⟨some 94, .move (.tmp 14), _, _, _, _⟩) (v := .int .i64 (k : Int)) rfl (by kernel_rfl) (by kernel_rfl) (by kernel_rfl) (fun _ _ _ h => h) (Or.inl ⟨by rfl, fun _ _ => rfl⟩) hHeld ?_
      simp only [Act.put, List.setIfInBounds_toArray, List.set_cons_zero, List.set_cons_succ]
      refine wpAnyH_ready (rs := [15]) (by kernel_rfl) (by simp) (AllReadyH.cons (o := ⟨some 92, .call { callee := .value (.func 16), args := #[.tmp 90, .tmp 91], argTypes := #[26, 3] }, _, _, _, _⟩) rfl (fun K' hK => ?_) (AllReadyH.nil))
      go_simp
      (with_reducible refine (K3.out _).mono ?_)
      rintro e y4 ⟨rfl, l1⟩
      replace b5 := b5.keep l1
      replace b15 := b15.keep l1
      replace b18 := b18.keep l1
      replace lw := Later.trans_ lw l1
      refine hK.out _ _ ⟨(show World.rangeAt _ w.heap.size 0 x.cells from b5.range 0 14), (show World.rangeAt _ w9.heap.size 0 y.cells from b15.range 0 14), (show World.rangeAt _ w10.heap.size 0 y.cells from b18.range 0 14), b18.cell (j := 14) rfl, b18.cell (j := 15) rfl⟩ (fun hHeld => ?_)
      clear hK K'
      try simp only [Act.put, List.setIfInBounds_toArray, List.set_cons_zero, List.set_cons_succ]
      refine wpAnyH_ready (rs := [18]) (by kernel_rfl) (by simp) (AllReadyH.cons (o := ⟨some 95, .call { callee := .value (.func 17), args := #[.tmp 93, .tmp 94], argTypes := #[26, 3] }, _, _, _, _⟩) rfl (fun K' hK => ?_) (AllReadyH.nil))
      go_simp
      (with_reducible refine (K4.out _).mono ?_)
      rintro e y5 ⟨rfl, l1⟩
      replace b5 := b5.keep l1
      replace b15 := b15.keep l1
      replace b18 := b18.keep l1
      replace lw := Later.trans_ lw l1
      refine hK.out _ _ ⟨(show World.rangeAt _ w.heap.size 0 x.cells from b5.range 0 14), (show World.rangeAt _ w9.heap.size 0 y.cells from b15.range 0 14), (show World.rangeAt _ w10.heap.size 0 y.cells from b18.range 0 14), b18.cell (j := 14) rfl, b18.cell (j := 15) rfl⟩ (fun hHeld => ?_)
      clear hK K'
      try simp only [Act.put, List.setIfInBounds_toArray, List.set_cons_zero, List.set_cons_succ]
      refine wpAnyH_take (i := 19) (oi := ⟨some 96, .binOp .eql 22 (.tmp 92) (.tmp 95) 22, _, _, _, _⟩) (v := .bool true) rfl (by kernel_rfl) (by kernel_rfl) (by kernel_rfl) (fun _ _ _ h => h) (Or.inl ⟨by rfl, fun w _ => by go_simp⟩) hHeld ?_
      simp only [Act.put, List.setIfInBounds_toArray, List.set_cons_zero, List.set_cons_succ]
      refine wpAnyH_take (i := 20) (oi := ⟨some 97, .pick (.tmp 89) (.tmp 96) (.const (.bool false)), _, _, _, none⟩) (v := .bool true) rfl (by kernel_rfl) (by kernel_rfl) (by kernel_rfl) (fun _ _ _ h => h) (Or.inl ⟨by rfl, fun w _ => by go_simp⟩) hHeld ?_
      simp only [Act.put, List.setIfInBounds_toArray, List.set_cons_zero, List.set_cons_succ]
      refine wpAnyH_take (i := 21) (oi := ⟨some 98, .move (.tmp 97), _, _, _, none⟩) (v := .bool true) rfl (by kernel_rfl) (by kernel_rfl) (by kernel_rfl) (fun _ _ _ h => h) (Or.inl ⟨by rfl, fun _ _ => rfl⟩) hHeld ?_
      simp only [Act.put, List.setIfInBounds_toArray, List.set_cons_zero, List.set_cons_succ]
      refine wpAnyH_take (i := 22) (oi := ⟨some 99, .load 26 (.tmp 15), _, _, _, _⟩) (v := .agg y.cells.toArray) rfl (by kernel_rfl) (by kernel_rfl) (by kernel_rfl) (fun _ _ _ h => h) (yieldsIf_load_mid (by rfl) _ _ rfl _ _ rfl y.cells _ (fun w h => h.2.1) Try.underlying26 rfl (ctl_sz _)) hHeld ?_
      simp only [Act.put, List.setIfInBounds_toArray, List.set_cons_zero, List.set_cons_succ]
      refine wpAnyH_take (i := 23) (oi := ⟨some 100, .fieldAddr 37 (.tmp 18) 0, _, _, _, _⟩) (v := .pointer (some ⟨w10.heap.size, 0, none⟩)) rfl (by kernel_rfl) (by kernel_rfl) (by kernel_rfl) (fun _ _ _ h => h) (Or.inl ⟨by rfl, fun w _ => by go_simp⟩) hHeld ?_
      simp only [Act.put, List.setIfInBounds_toArray, List.set_cons_zero, List.set_cons_succ]
      refine wpAnyH_take (i := 24) (oi := ⟨some 101, .load 26 (.tmp 100), _, _, _, _⟩) (v := .agg y.cells.toArray) rfl (by kernel_rfl) (by kernel_rfl) (by kernel_rfl) (fun _ _ _ h => h) (yieldsIf_load_mid (by rfl) _ _ rfl _ _ rfl y.cells _ (fun w h => h.2.2.1) Try.underlying26 rfl (ctl_sz _)) hHeld ?_
      simp only [Act.put, List.setIfInBounds_toArray, List.set_cons_zero, List.set_cons_succ]
      refine wpAnyH_take (i := 25) (oi := ⟨some 102, .binOp .eql 26 (.tmp 99) (.tmp 101) 26, _, _, _, _⟩) (v := .bool true) rfl (by kernel_rfl) (by kernel_rfl) (by kernel_rfl) (fun _ _ _ h => h) (Or.inl ⟨by rfl, fun w _ => by go_simp⟩) hHeld ?_
      simp only [Act.put, List.setIfInBounds_toArray, List.set_cons_zero, List.set_cons_succ]
      refine wpAnyH_take (i := 26) (oi := ⟨some 103, .pick (.tmp 98) (.tmp 102) (.const (.bool false)), _, _, _, none⟩) (v := .bool true) rfl (by kernel_rfl) (by kernel_rfl) (by kernel_rfl) (fun _ _ _ h => h) (Or.inl ⟨by rfl, fun w _ => by go_simp⟩) hHeld ?_
      simp only [Act.put, List.setIfInBounds_toArray, List.set_cons_zero, List.set_cons_succ]
      refine wpAnyH_take (i := 27) (oi := ⟨some 104, .move (.tmp 103), _, _, _, none⟩) (v := .bool true) rfl (by kernel_rfl) (by kernel_rfl) (by kernel_rfl) (fun _ _ _ h => h) (Or.inl ⟨by rfl, fun _ _ => rfl⟩) hHeld ?_
      simp only [Act.put, List.setIfInBounds_toArray, List.set_cons_zero, List.set_cons_succ]
      refine wpAnyH_take (i := 28) (oi := ⟨some 105, .move (.tmp 16), _, _, _, _⟩) (v := .int .u32 vv) rfl (by kernel_rfl) (by kernel_rfl) (by kernel_rfl) (fun _ _ _ h => h) (Or.inl ⟨by rfl, fun _ _ => rfl⟩) hHeld ?_
      simp only [Act.put, List.setIfInBounds_toArray, List.set_cons_zero, List.set_cons_succ]
      refine wpAnyH_take (i := 29) (oi := ⟨some 106, .fieldAddr 37 (.tmp 18) 1, _, _, _, _⟩) (v := .pointer (some ⟨w10.heap.size, 14, none⟩)) rfl (by kernel_rfl) (by kernel_rfl) (by kernel_rfl) (fun _ _ _ h => h) (Or.inl ⟨by rfl, fun w _ => by go_simp⟩) hHeld ?_
      simp only [Act.put, List.setIfInBounds_toArray, List.set_cons_zero, List.set_cons_succ]
      refine wpAnyH_take (i := 30) (oi := ⟨some 107, .load 22 (.tmp 106), _, _, _, _⟩) (v := .int .u32 vv) rfl (by kernel_rfl) (by kernel_rfl) (by kernel_rfl) (fun _ _ _ h => h) (Or.inl ⟨by rfl, fun w hSw => by have e1 := hSw.2.2.2.1; clear hSw; go_simp⟩) hHeld ?_
      simp only [Act.put, List.setIfInBounds_toArray, List.set_cons_zero, List.set_cons_succ]
      refine wpAnyH_take (i := 31) (oi := ⟨some 108, .binOp .eql 22 (.tmp 105) (.tmp 107) 22, _, _, _, _⟩) (v := .bool true) rfl (by kernel_rfl) (by kernel_rfl) (by kernel_rfl) (fun _ _ _ h => h) (Or.inl ⟨by rfl, fun w _ => by go_simp⟩) hHeld ?_
      simp only [Act.put, List.setIfInBounds_toArray, List.set_cons_zero, List.set_cons_succ]
      refine wpAnyH_take (i := 32) (oi := ⟨some 109, .pick (.tmp 104) (.tmp 108) (.const (.bool false)), _, _, _, none⟩) (v := .bool true) rfl (by kernel_rfl) (by kernel_rfl) (by kernel_rfl) (fun _ _ _ h => h) (Or.inl ⟨by rfl, fun w _ => by go_simp⟩) hHeld ?_
      simp only [Act.put, List.setIfInBounds_toArray, List.set_cons_zero, List.set_cons_succ]
      refine wpAnyH_take (i := 33) (oi := ⟨some 110, .move (.tmp 109), _, _, _, none⟩) (v := .bool true) rfl (by kernel_rfl) (by kernel_rfl) (by kernel_rfl) (fun _ _ _ h => h) (Or.inl ⟨by rfl, fun _ _ => rfl⟩) hHeld ?_
      simp only [Act.put, List.setIfInBounds_toArray, List.set_cons_zero, List.set_cons_succ]
      refine wpAnyH_take (i := 34) (oi := ⟨some 111, .move (.tmp 17), _, _, _, _⟩) (v := .int .i64 qq) rfl (by kernel_rfl) (by kernel_rfl) (by kernel_rfl) (fun _ _ _ h => h) (Or.inl ⟨by rfl, fun _ _ => rfl⟩) hHeld ?_
      simp only [Act.put, List.setIfInBounds_toArray, List.set_cons_zero, List.set_cons_succ]
      refine wpAnyH_take (i := 35) (oi := ⟨some 112, .fieldAddr 37 (.tmp 18) 2, _, _, _, _⟩) (v := .pointer (some ⟨w10.heap.size, 15, none⟩)) rfl (by kernel_rfl) (by kernel_rfl) (by kernel_rfl) (fun _ _ _ h => h) (Or.inl ⟨by rfl, fun w _ => by go_simp⟩) hHeld ?_
      simp only [Act.put, List.setIfInBounds_toArray, List.set_cons_zero, List.set_cons_succ]
      refine wpAnyH_take (i := 36) (oi := ⟨some 113, .load 29 (.tmp 112), _, _, _, _⟩) (v := .int .i64 qq) rfl (by kernel_rfl) (by kernel_rfl) (by kernel_rfl) (fun _ _ _ h => h) (Or.inl ⟨by rfl, fun w hSw => by have e1 := hSw.2.2.2.2; clear hSw; go_simp⟩) hHeld ?_
      simp only [Act.put, List.setIfInBounds_toArray, List.set_cons_zero, List.set_cons_succ]
      refine wpAnyH_take (i := 37) (oi := ⟨some 114, .binOp .eql 29 (.tmp 111) (.tmp 113) 29, _, _, _, _⟩) (v := .bool true) rfl (by kernel_rfl) (by kernel_rfl) (by kernel_rfl) (fun _ _ _ h => h) (Or.inl ⟨by rfl, fun w _ => by go_simp⟩) hHeld ?_
      simp only [Act.put, List.setIfInBounds_toArray, List.set_cons_zero, List.set_cons_succ]
      refine wpAnyH_take (i := 38) (oi := ⟨some 115, .pick (.tmp 110) (.tmp 114) (.const (.bool false)), _, _, _, none⟩) (v := .bool true) rfl (by kernel_rfl) (by kernel_rfl) (by kernel_rfl) (fun _ _ _ h => h) (Or.inl ⟨by rfl, fun w _ => by go_simp⟩) hHeld ?_
      simp only [Act.put, List.setIfInBounds_toArray, List.set_cons_zero, List.set_cons_succ]
      refine wpAnyH_take (i := 39) (oi := ⟨some 116, .move (.tmp 115), _, _, _, none⟩) (v := .bool true) rfl (by kernel_rfl) (by kernel_rfl) (by kernel_rfl) (fun _ _ _ h => h) (Or.inl ⟨by rfl, fun _ _ => rfl⟩) hHeld ?_
      simp only [Act.put, List.setIfInBounds_toArray, List.set_cons_zero, List.set_cons_succ]
      refine wpAnyH_take (i := 40) (oi := ⟨some 117, .load 26 (.tmp 15), _, _, _, _⟩) (v := .agg y.cells.toArray) rfl (by kernel_rfl) (by kernel_rfl) (by kernel_rfl) (fun _ _ _ h => h) (yieldsIf_load_mid (by rfl) _ _ rfl _ _ rfl y.cells _ (fun w h => h.2.1) Try.underlying26 rfl (ctl_sz _)) hHeld ?_
      simp only [Act.put, List.setIfInBounds_toArray, List.set_cons_zero, List.set_cons_succ]
      refine wpAnyH_ready (rs := [41]) (by kernel_rfl) (by simp) (AllReadyH.cons (o := ⟨some 118, .call { callee := .value (.func 10), args := #[.tmp 117], argTypes := #[26] }, _, _, _, _⟩) rfl (fun K' hK => ?_) (AllReadyH.nil))
      go_simp
      (with_reducible refine (KY.out _).mono ?_)
      rintro e y6 ⟨rfl, l1⟩
      replace b5 := b5.keep l1
      replace b15 := b15.keep l1
      replace b18 := b18.keep l1
      replace lw := Later.trans_ lw l1
      refine hK.out _ _ ⟨(show World.rangeAt _ w.heap.size 0 x.cells from b5.range 0 14), (show World.rangeAt _ w9.heap.size 0 y.cells from b15.range 0 14), (show World.rangeAt _ w10.heap.size 0 y.cells from b18.range 0 14), b18.cell (j := 14) rfl, b18.cell (j := 15) rfl⟩ (fun hHeld => ?_)
      clear hK K'
      try simp only [Act.put, List.setIfInBounds_toArray, List.set_cons_zero, List.set_cons_succ]
      refine wpAnyH_take (i := 42) (oi := ⟨some 119, .pick (.tmp 116) (.tmp 118) (.const (.bool false)), _, _, _, none⟩) (v := .bool true) rfl (by kernel_rfl) (by kernel_rfl) (by kernel_rfl) (fun _ _ _ h => h) (Or.inl ⟨by rfl, fun w _ => by go_simp⟩) hHeld ?_
      simp only [Act.put, List.setIfInBounds_toArray, List.set_cons_zero, List.set_cons_succ]
      refine wpAnyH_take (i := 43) (oi := ⟨some 10, .assign (.tmp 119), _, _, _, none⟩) (v := .bool true) rfl (by kernel_rfl) (by kernel_rfl) (by kernel_rfl) (fun _ _ _ h => h) (Or.inl ⟨by rfl, fun _ _ => rfl⟩) hHeld ?_
      simp only [Act.put, List.setIfInBounds_toArray, List.set_cons_zero, List.set_cons_succ]
      refine wpAnyH_done (by kernel_rfl) ?_ _
      clear hHeld
      go_wp2
      go_ret
      exact ⟨rfl, lw⟩
    · have KL := Lib.hid fun w' => valid_any x false w' hx (by simp [hok])
      have KR := Lib.hid fun w' => rvalid_any x false w' hx (by simp [hok])
      clear hok hx hv hcp
      go_enter Try.func3, Try.ntmps3
      go_upto_region 1 with fail
      go_upto_region 5 with (first
        | (go_at_call 8; (with_reducible refine (KN.out _).mono ?_); rintro e w1 ⟨rfl, l1⟩; replace b5 := b5.keep l1; replace b9 := b9.keep l1; replace lw := Later.trans_ lw l1)
        | ((with_reducible refine wpList_store_abs (o := ⟨none, .store 26 (.tmp 11) (.tmp 22), _, _, _, none⟩) rfl _ _ _ rfl w1.heap.size 26 zK.cells zK.cells ?_ ?_ ?_ ?_ ?_ ?_ ?_); rfl; rfl; exact (Blk.new _ _ _ _ rfl); exact ctl_sz _; rfl; exact ctl_one _; intro v1 b11 ob11; replace b5 := (b5.alloc (.cells zK.cells.toArray 26)).only ob11 (Nat.ne_of_lt b5.lt); replace b9 := (b9.alloc (.cells zK.cells.toArray 26)).only ob11 (Nat.ne_of_lt b9.lt); replace lw := Below.only (lw.alloc lw.size (.cells zK.cells.toArray 26)) ob11 lw.size; clear ob11)
        | ((with_reducible refine wpList_bld (o := ⟨some 25, .build 26 #[(0, .tmp 24)], _, _, _, none⟩) rfl _ #[(0, .tmp 24)] #[(0, .int .i64 n)] (kN n).cells.toArray rfl ?_ (run_n n _) ?_); rfl)
        | ((with_reducible refine wpList_store_abs (o := ⟨none, .store 26 (.tmp 13) (.tmp 25), _, _, _, none⟩) rfl _ _ _ rfl v1.heap.size 26 zK.cells (kN n).cells ?_ ?_ ?_ ?_ ?_ ?_ ?_); rfl; rfl; exact (Blk.new _ _ _ _ rfl); exact ctl_sz _; rfl; exact ctl_one _; have n5 := Nat.ne_of_lt b5.lt; have n9 := Nat.ne_of_lt b9.lt; have n11 := Nat.ne_of_lt b11.lt; have nw := lw.size; intro v2 b13 ob13; replace b5 := (b5.alloc (.cells zK.cells.toArray 26)).only ob13 (Nat.ne_of_lt b5.lt); replace b9 := (b9.alloc (.cells zK.cells.toArray 26)).only ob13 (Nat.ne_of_lt b9.lt); replace b11 := (b11.alloc (.cells zK.cells.toArray 26)).only ob13 (Nat.ne_of_lt b11.lt); replace lw := Below.only (lw.alloc lw.size (.cells zK.cells.toArray 26)) ob13 lw.size; clear ob13)
        | ((with_reducible refine wpList_load_blk (o := ⟨some 26, .load 26 (.tmp 13), _, _, _, none⟩) rfl _ _ rfl v1.heap.size 26 (kN n).cells _ ?_ ?_ Try.underlying26 rfl (ctl_sz _) ?_); rfl; exact b13)
        | (go_at_call 9; (with_reducible refine (KF.out _).mono ?_); rintro e w2 ⟨rfl, l2⟩; replace b5 := b5.keep l2; replace b9 := b9.keep l2; replace b11 := b11.keep l2; replace b13 := b13.keep l2; replace lw := Later.trans_ lw l2)
        | ((with_reducible refine wpList_bld (o := ⟨some 29, .build 26 #[], _, _, _, none⟩) rfl _ #[] #[] zK.cells.toArray rfl ?_ (run_0 _) ?_); rfl)
        | ((with_reducible refine wpList_store_abs (o := ⟨none, .store 26 (.tmp 13) (.tmp 29), _, _, _, none⟩) rfl _ _ _ rfl v1.heap.size 26 (kN n).cells zK.cells ?_ ?_ ?_ ?_ ?_ ?_ ?_); rfl; rfl; exact b13; exact ctl_sz _; rfl; exact ctl_one _; intro v3 bq oq; replace b5 := b5.only oq n5; replace b9 := b9.only oq n9; replace b11 := b11.only oq n11; clear b13; have b13 := bq; replace lw := Below.only lw oq nw; clear bq oq))
      clear n5 n9 n11 nw
      replace b5 := b5.drew
      replace b9 := b9.drew
      replace b11 := b11.drew
      replace b13 := b13.drew
      replace lw := lw.drew
      refine wp_region_held_drew (S := fun w' => World.rangeAt w' w1.heap.size 0 zK.cells ∧ World.rangeAt w' v1.heap.size 0 zK.cells ∧ w'.cell? ⟨v1.heap.size, 0, none⟩ = some (.int .i64 0) ∧ World.rangeAt w' w.heap.size 0 x.cells) (by kernel_rfl) ⟨(show World.rangeAt _ w1.heap.size 0 zK.cells from b11.range 0 14), (show World.rangeAt _ v1.heap.size 0 zK.cells from b13.range 0 14), b13.cell (j := 0) rfl, (show World.rangeAt _ w.heap.size 0 x.cells from b5.range 0 14)⟩ (fun hHeld => ?_)
      refine wpAnyH_take (i := 0) (oi := ⟨some 30, .load 26 (.tmp 11), _, _, _, none⟩) (v := .agg zK.cells.toArray) rfl (by kernel_rfl) (by kernel_rfl) (by kernel_rfl) (fun _ _ _ h => h) (yieldsIf_load_mid (by rfl) _ _ rfl _ _ rfl zK.cells _ (fun w h => h.1) Try.underlying26 rfl (ctl_sz _)) hHeld ?_
      simp only [Act.put, List.setIfInBounds_toArray, List.set_cons_zero, List.set_cons_succ]
      refine wpAnyH_take (i := 1) (oi := ⟨some 31, .load 26 (.tmp 13), _, _, _, none⟩) (v := .agg zK.cells.toArray) rfl (by kernel_rfl) (by kernel_rfl) (by kernel_rfl) (fun _ _ _ h => h) (yieldsIf_load_mid (by rfl) _ _ rfl _ _ rfl zK.cells _ (fun w h => h.2.1) Try.underlying26 rfl (ctl_sz _)) hHeld ?_
      simp only [Act.put, List.setIfInBounds_toArray, List.set_cons_zero, List.set_cons_succ]
      refine wpAnyH_take (i := 2) (oi := ⟨some 32, .binOp .neq 26 (.tmp 30) (.tmp 31) 26, _, _, _, none⟩) (v := .bool false) rfl (by kernel_rfl) (by kernel_rfl) (by kernel_rfl) (fun _ _ _ h => h) (Or.inl ⟨by rfl, fun w _ => by go_simp⟩) hHeld ?_
      simp only [Act.put, List.setIfInBounds_toArray, List.set_cons_zero, List.set_cons_succ]
      refine wpAnyH_take (i := 3) (oi := ⟨some 33, .move (.tmp 32), _, _, _, none⟩) (v := .bool false) rfl (by kernel_rfl) (by kernel_rfl) (by kernel_rfl) (fun _ _ _ h => h) (Or.inl ⟨by rfl, fun _ _ => rfl⟩) hHeld ?_
      simp only [Act.put, List.setIfInBounds_toArray, List.set_cons_zero, List.set_cons_succ]
      refine wpAnyH_take (i := 4) (oi := ⟨some 34, .move (.tmp 12), _, _, _, _⟩) (v := .int .i64 1) rfl (by kernel_rfl) (by kernel_rfl) (by kernel_rfl) (fun _ _ _ h => h) (Or.inl ⟨by rfl, fun _ _ => rfl⟩) hHeld ?_
      simp only [Act.put, List.setIfInBounds_toArray, List.set_cons_zero, List.set_cons_succ]
      refine wpAnyH_take (i := 5) (oi := ⟨some 35, .binOp .eql 29 (.tmp 34) (.const (.int .i64 0)) 29, _, _, _, _⟩) (v := .bool false) rfl (by kernel_rfl) (by kernel_rfl) (by kernel_rfl) (fun _ _ _ h => h) (Or.inl ⟨by rfl, fun w _ => by go_simp⟩) hHeld ?_
      simp only [Act.put, List.setIfInBounds_toArray, List.set_cons_zero, List.set_cons_succ]
      refine wpAnyH_take (i := 6) (oi := ⟨some 36, .fieldAddr 26 (.tmp 13) 0, _, _, _, _⟩) (v := .pointer (some ⟨v1.heap.size, 0, none⟩)) rfl (by kernel_rfl) (by kernel_rfl) (by kernel_rfl) (fun _ _ _ h => h) (Or.inl ⟨by rfl, fun w _ => by go_simp⟩) hHeld ?_
      simp only [Act.put, List.setIfInBounds_toArray, List.set_cons_zero, List.set_cons_succ]
      refine wpAnyH_take (i := 7) (oi := ⟨some 37, .load 3 (.tmp 36), _, _, _, _⟩) (v := .int .i64 0) rfl (by kernel_rfl) (by kernel_rfl) (by kernel_rfl) (fun _ _ _ h => h) (Or.inl ⟨by rfl, fun w hSw => by have e1 := hSw.2.2.1; clear hSw; go_simp⟩) hHeld ?_
      simp only [Act.put, List.setIfInBounds_toArray, List.set_cons_zero, List.set_cons_succ]
      refine wpAnyH_take (i := 8) (oi := ⟨some 38, .binOp .gtr 3 (.tmp 37) (.const (.int .i64 0)) 3, _, _, _, _⟩) (v := .bool false) rfl (by kernel_rfl) (by kernel_rfl) (by kernel_rfl) (fun _ _ _ h => h) (Or.inl ⟨by rfl, fun w _ => by go_simp⟩) hHeld ?_
      simp only [Act.put, List.setIfInBounds_toArray, List.set_cons_zero, List.set_cons_succ]
      refine wpAnyH_take (i := 9) (oi := ⟨some 39, .binOp .neq 4 (.tmp 35) (.tmp 38) 4, _, _, _, _⟩) (v := .bool false) rfl (by kernel_rfl) (by kernel_rfl) (by kernel_rfl) (fun _ _ _ h => h) (Or.inl ⟨by rfl, fun w _ => by go_simp⟩) hHeld ?_
      simp only [Act.put, List.setIfInBounds_toArray, List.set_cons_zero, List.set_cons_succ]
      refine wpAnyH_take (i := 10) (oi := ⟨some 40, .pick (.tmp 33) (.const (.bool true)) (.tmp 39), _, _, _, none⟩) (v := .bool false) rfl (by kernel_rfl) (by kernel_rfl) (by kernel_rfl) (fun _ _ _ h => h) (Or.inl ⟨by rfl, fun w _ => by go_simp⟩) hHeld ?_
      simp only [Act.put, List.setIfInBounds_toArray, List.set_cons_zero, List.set_cons_succ]
      refine wpAnyH_take (i := 11) (oi := ⟨some 41, .move (.tmp 40), _, _, _, none⟩) (v := .bool false) rfl (by kernel_rfl) (by kernel_rfl) (by kernel_rfl) (fun _ _ _ h => h) (Or.inl ⟨by rfl, fun _ _ => rfl⟩) hHeld ?_
      simp only [Act.put, List.setIfInBounds_toArray, List.set_cons_zero, List.set_cons_succ]
      refine wpAnyH_take (i := 12) (oi := ⟨some 42, .move (.tmp 12), _, _, _, _⟩) (v := .int .i64 1) rfl (by kernel_rfl) (by kernel_rfl) (by kernel_rfl) (fun _ _ _ h => h) (Or.inl ⟨by rfl, fun _ _ => rfl⟩) hHeld ?_
      simp only [Act.put, List.setIfInBounds_toArray, List.set_cons_zero, List.set_cons_succ]
      refine wpAnyH_take (i := 13) (oi := ⟨some 43, .binOp .neq 29 (.tmp 42) (.const (.int .i64 0)) 29, _, _, _, _⟩) (v := .bool true) rfl (by kernel_rfl) (by kernel_rfl) (by kernel_rfl) (fun _ _ _ h => h) (Or.inl ⟨by rfl, fun w _ => by go_simp⟩) hHeld ?_
      simp only [Act.put, List.setIfInBounds_toArray, List.set_cons_zero, List.set_cons_succ]
      refine wpAnyH_take (i := 14) (oi := ⟨some 44, .move (.tmp 43), _, _, _, _⟩) (v := .bool true) rfl (by kernel_rfl) (by kernel_rfl) (by kernel_rfl) (fun _ _ _ h => h) (Or.inl ⟨by rfl, fun _ _ => rfl⟩) hHeld ?_
      simp only [Act.put, List.setIfInBounds_toArray, List.set_cons_zero, List.set_cons_succ]
      refine wpAnyH_take (i := 15) (oi := ⟨some 45, .move (.tmp 12), _, _, _, _⟩) (v := .int .i64 1) rfl (by kernel_rfl) (by kernel_rfl) (by kernel_rfl) (fun _ _ _ h => h) (Or.inl ⟨by rfl, fun _ _ => rfl⟩) hHeld ?_
      simp only [Act.put, List.setIfInBounds_toArray, List.set_cons_zero, List.set_cons_succ]
      refine wpAnyH_take (i := 16) (oi := ⟨some 46, .binOp .neq 29 (.tmp 45) (.const (.int .i64 1)) 29, _, _, _, _⟩) (v := .bool false) rfl (by kernel_rfl) (by kernel_rfl) (by kernel_rfl) (fun _ _ _ h => h) (Or.inl ⟨by rfl, fun w _ => by go_simp⟩) hHeld ?_
      simp only [Act.put, List.setIfInBounds_toArray, List.set_cons_zero, List.set_cons_succ]
      refine wpAnyH_take (i := 17) (oi := ⟨some 47, .pick (.tmp 44) (.tmp 46) (.const (.bool false)), _, _, _, _⟩) (v := .bool false) rfl (by kernel_rfl) (by kernel_rfl) (by kernel_rfl) (fun _ _ _ h => h) (Or.inl ⟨by rfl, fun w _ => by go_simp⟩) hHeld ?_
      simp only [Act.put, List.setIfInBounds_toArray, List.set_cons_zero, List.set_cons_succ]
      refine wpAnyH_take (i := 18) (oi := ⟨some 48, .pick (.tmp 41) (.const (.bool true)) (.tmp 47), _, _, _, none⟩) (v := .bool false) rfl (by kernel_rfl) (by kernel_rfl) (by kernel_rfl) (fun _ _ _ h => h) (Or.inl ⟨by rfl, fun w _ => by go_simp⟩) hHeld ?_
      simp only [Act.put, List.setIfInBounds_toArray, List.set_cons_zero, List.set_cons_succ]
      refine wpAnyH_take (i := 19) (oi := ⟨some 49, .move (.tmp 48), _, _, _, none⟩) (v := .bool false) rfl (by kernel_rfl) (by kernel_rfl) (by kernel_rfl) (fun _ _ _ h => h) (Or.inl ⟨by rfl, fun _ _ => rfl⟩) hHeld ?_
      simp only [Act.put, List.setIfInBounds_toArray, List.set_cons_zero, List.set_cons_succ]
      refine wpAnyH_take (i := 20) (oi := ⟨some 50, .load 26 (.tmp 5), _, _, _, _⟩) (v := .agg x.cells.toArray) rfl (by kernel_rfl) (by kernel_rfl) (by kernel_rfl) (fun _ _ _ h => h) (yieldsIf_load_mid (by rfl) _ _ rfl _ _ rfl x.cells _ (fun w h => h.2.2.2) Try.underlying26 rfl (ctl_sz _)) hHeld ?_
      simp only [Act.put, List.setIfInBounds_toArray, List.set_cons_zero, List.set_cons_succ]
      refine wpAnyH_take (i := 22) (oi := ⟨some 52, .load 26 (.tmp 5), _, _, _, _⟩) (v := .agg x.cells.toArray) rfl (by kernel_rfl) (by kernel_rfl) (by kernel_rfl) (fun _ _ _ h => h) (yieldsIf_load_mid (by rfl) _ _ rfl _ _ rfl x.cells _ (fun w h => h.2.2.2) Try.underlying26 rfl (ctl_sz _)) hHeld ?_
      simp only [Act.put, List.setIfInBounds_toArray, List.set_cons_zero, List.set_cons_succ]
      refine wpAnyH_ready (rs := [21]) (by kernel_rfl) (by simp) (AllReadyH.cons (o := ⟨some 51, .call { callee := .value (.func 10), args := #[.tmp 50], argTypes := #[26] }, _, _, _, _⟩) rfl (fun K' hK => ?_) (AllReadyH.nil))
      go_simp
      (with_reducible refine (KL.out _).mono ?_)
      rintro e x1 ⟨rfl, l1⟩
      replace b5 := b5.keep l1
      replace b9 := b9.keep l1
      replace b11 := b11.keep l1
      replace b13 := b13.keep l1
      replace lw := Later.trans_ lw l1
      refine hK.out _ _ ⟨(show World.rangeAt _ w1.heap.size 0 zK.cells from b11.range 0 14), (show World.rangeAt _ v1.heap.size 0 zK.cells from b13.range 0 14), b13.cell (j := 0) rfl, (show World.rangeAt _ w.heap.size 0 x.cells from b5.range 0 14)⟩ (fun hHeld => ?_)
      clear hK K'
      try simp only [Act.put, List.setIfInBounds_toArray, List.set_cons_zero, List.set_cons_succ]
      refine wpAnyH_ready (rs := [23]) (by kernel_rfl) (by simp) (AllReadyH.cons (o := ⟨some 53, .call { callee := .value (.func 9), args := #[.tmp 52], argTypes := #[26] }, _, _, _, _⟩) rfl (fun K' hK => ?_) (AllReadyH.nil))
      go_simp
      (with_reducible refine (KR.out _).mono ?_)
      rintro e x2 ⟨rfl, l1⟩
      replace b5 := b5.keep l1
      replace b9 := b9.keep l1
      replace b11 := b11.keep l1
      replace b13 := b13.keep l1
      replace lw := Later.trans_ lw l1
      refine hK.out _ _ ⟨(show World.rangeAt _ w1.heap.size 0 zK.cells from b11.range 0 14), (show World.rangeAt _ v1.heap.size 0 zK.cells from b13.range 0 14), b13.cell (j := 0) rfl, (show World.rangeAt _ w.heap.size 0 x.cells from b5.range 0 14)⟩ (fun hHeld => ?_)
      clear hK K'
      try simp only [Act.put, List.setIfInBounds_toArray, List.set_cons_zero, List.set_cons_succ]
      refine wpAnyH_take (i := 24) (oi := ⟨some 54, .binOp .neq 4 (.tmp 51) (.tmp 53) 4, _, _, _, _⟩) (v := .bool false) rfl (by kernel_rfl) (by kernel_rfl) (by kernel_rfl) (fun _ _ _ h => h) (Or.inl ⟨by rfl, fun w _ => by go_simp⟩) hHeld ?_
      simp only [Act.put, List.setIfInBounds_toArray, List.set_cons_zero, List.set_cons_succ]
      refine wpAnyH_take (i := 25) (oi := ⟨some 55, .pick (.tmp 49) (.const (.bool true)) (.tmp 54), _, _, _, none⟩) (v := .bool false) rfl (by kernel_rfl) (by kernel_rfl) (by kernel_rfl) (fun _ _ _ h => h) (Or.inl ⟨by rfl, fun w _ => by go_simp⟩) hHeld ?_
      simp only [Act.put, List.setIfInBounds_toArray, List.set_cons_zero, List.set_cons_succ]
      refine wpAnyH_done (by kernel_rfl) ?_ _
      clear hHeld
      clear b11 b13
      go_upto_region 7 with fail
      go_wp2_with (first
        | ((with_reducible refine wpList_load_blk (o := ⟨some 56, .load 26 (.tmp 5), _, _, _, none⟩) rfl _ _ rfl w.heap.size 26 x.cells _ ?_ ?_ Try.underlying26 rfl (ctl_sz _) ?_); rfl; exact b5)
        | (go_at_call 9; (with_reducible refine (KR.out _).mono ?_); rintro e w7 ⟨rfl, l7⟩; replace b5 := b5.keep l7; replace lw := Later.trans_ lw l7)
        | (go_at_call 11; (with_reducible refine (KS.out _).mono ?_); rintro e w8 ⟨rfl, l8⟩; replace b5 := b5.keep l8; replace lw := Later.trans_ lw l8))
      go_ret
      exact ⟨rfl, lw⟩

set_option maxRecDepth 100000 in
theorem linesWorkAsSpecified_lifted (os : Os) (started : os.Started) (H : Type) (enc : TypeId × Value → H) :
    ReturnsInHanded {} Try.checked os 3 .any (Rows.linesWorkAsSpecifiedSpec.pre6 enc Try.prog Try.f3 Rows.linesWorkAsSpecifiedRow.domain false) (Rows.linesWorkAsSpecifiedSpec.post enc Try.prog Try.f3 false true false false) := by
  refine returnsInHanded_of_change (C := Try.checked) ownK started (by kernel_rfl) Try.func3
    (ChangeSpec.witness6 (enc := enc) (C := Try.checked) false ⟨#[], #[.agg #[.int .i64 0, .int .u32 0, .int .u32 0, .int .u32 0, .int .u32 0, .int .u32 0, .int .u32 0, .int .u32 0, .int .u32 0, .int .i64 0, .int .i64 0, .int .i64 0, .int .i64 0, .int .i64 0], .int .i64 0, .int .u8 0, .int .i64 0, .agg #[.bool false, .int .i64 0, .int .u32 0]], []⟩ 8 (by kernel_rfl) (by kernel_rfl) (by kernel_rfl) (by kernel_rfl)) ?_
  intro W base args ds gs before hval0 hW hcnd _
  have hval : ∀ (j : Nat) t v, Try.f3.params[j]? = some t → args[j]? = some v → Value.okWide Try.prog W .any base t v := hval0
  have hW' := hW
  obtain ⟨p, q, hA0, hV, rfl, hfz, hnd⟩ := hW
  have hA : DataW.TrodAll enc Try.prog W 0 (fun _ => true) true Try.f3.params.toList args.toList ds p := hA0
  rw [Try.params3] at hA hval
  obtain ⟨v0, vs0, d0, ds0, p0, q0, hargs, rfl, rfl, h0, r0⟩ := trodAll_cons hA
  obtain ⟨v1, vs1, d1, ds1, p1, q1, rfl, rfl, rfl, h1, r1⟩ := trodAll_cons r0
  obtain ⟨v2, vs2, d2, ds2, p2, q2, rfl, rfl, rfl, h2, r2⟩ := trodAll_cons r1
  obtain ⟨v3, vs3, d3, ds3, p3, q3, rfl, rfl, rfl, h3, r3⟩ := trodAll_cons r2
  obtain ⟨v4, vs4, d4, ds4, p4, q4, rfl, rfl, rfl, h4, r4⟩ := trodAll_cons r3
  obtain ⟨rfl, rfl, rfl⟩ := trodAll_nil r4
  obtain rfl : args = #[v0, v1, v2, v3, v4] := by cases args; simp_all
  obtain ⟨rfl, rfl⟩ := trodVars_none hV
  obtain ⟨a0, rfl, z0⟩ := ctl_open (hval 0 26 v0 rfl rfl) h0
  obtain ⟨a1, rfl, z1⟩ := int_arg Try.underlying3 (hval 1 3 v1 rfl rfl) h1
  obtain ⟨a2, rfl, _, _, w2⟩ := open_int Try.underlying5 (hval 2 5 v2 rfl rfl) h2
  have z2 : 0 ≤ a2 ∧ a2 ≤ 255 := by
    have e1 : IntKind.u8.min = 0 := rfl
    have e2 : IntKind.u8.max = 255 := rfl
    simp only [Lit.wf, Bool.and_eq_true, decide_eq_true_eq] at w2
    omega
  obtain ⟨a3, rfl, z3⟩ := int_arg Try.underlying3 (hval 3 3 v3 rfl rfl) h3
  obtain ⟨i4, p4_, u4, rfl, z4⟩ := io_open (hval 4 28 v4 rfl rfl) h4
  clear hA0 hval0
  simp only [List.append_nil] at hW'
  refine (work_all a0 a1 a2 a3 i4 p4_ u4 W z0 z1 z2 z4.2).mono fun e W' ⟨he, hw⟩ => ?_
  subst he
  exact ⟨_, rfl, law_post laidK rfl (by kernel_rfl) (by kernel_rfl) Try.underlying4 (by kernel_rfl) hW' rfl hw⟩
set_option maxRecDepth 100000 in
/-- The statement. -/
theorem linesWorkAsSpecified_said : Rows.LinesWorkAsSpecifiedSaid :=
  OpenClaim.holds_of_wide 3 Try.f3 rfl rfl rfl rfl rfl rfl rfl ⟨rfl, rfl, rfl, rfl, rfl⟩ rfl rfl rfl rfl rfl (by kernel_rfl) Try.func3 (by kernel_rfl)
    (of_decide_eq_true (by kernel_rfl)) (by unfold Func.isWrapper; first | (rw [if_pos (by decide +kernel)]; kernel_rfl) | (rw [if_neg (by decide +kernel)]; exact ⟨rfl, rfl⟩))
    (fun os started H enc _ => linesWorkAsSpecified_lifted os started H enc)
#print axioms linesWorkAsSpecified_said
end Go.Proofs.Ytkpigonlnabmdab
