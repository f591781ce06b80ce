/-
  A CONTROL: has, isCount, is, ofDevice, bit, Pending, Raise.
-/
import Derived.Test.YtkpigonlnabmdabLinB
import Derived.Deep.RegionHeld
namespace Go.Proofs.Ytkpigonlnabmdab
open Go.RowKit Go.ChangeShapes Go.WideShapes Go.ChangeAt

theorem has_any (x : Ctl) (k : Int) (w : World) (hn : x.n ≤ 4) : Calls Try.prog 26 #[.agg x.cells.toArray, .int .i64 k] w fun e w' => e = .returned (.bool (decide (0 ≤ k ∧ k < x.n))) ∧ Later w w' := by
  have k0 := (Blk.new w 26 x.cells.toArray x.cells rfl).cell (j := 0) (v := .int .i64 x.n) rfl
  generalize x.n = n at k0 hn ⊢
  by_cases h0 : 0 ≤ k
  · by_cases h1 : k < n
    · rw [decide_eq_true ⟨h0, h1⟩]
      have e1 : decide (k < min n 4) = true := decide_eq_true (by omega)
      go_enter Try.func26, Try.ntmps26
      go_wp2
      go_ret
      exact ⟨rfl, later1 _ _⟩
    · rw [decide_eq_false (by omega)]
      have e1 : decide (k < min n 4) = false := decide_eq_false (by omega)
      go_enter Try.func26, Try.ntmps26
      go_wp2
      go_ret
      exact ⟨rfl, later1 _ _⟩
  · rw [decide_eq_false (by omega)]
    go_enter Try.func26, Try.ntmps26
    go_wp2
    go_ret
    exact ⟨rfl, later1 _ _⟩
theorem isCount_any (n : Int) (w : World) : Calls Try.prog 24 #[.int .i64 n] w fun e w' => e = .returned (.bool (decide (1 ≤ n ∧ n ≤ 4))) ∧ w = w' := by
  by_cases h0 : 1 ≤ n
  · by_cases h1 : n ≤ 4
    · rw [decide_eq_true ⟨h0, h1⟩]
      go_enter Try.func24, Try.ntmps24
      go_wp2
      go_ret
      exact ⟨rfl, rfl⟩
    · rw [decide_eq_false (by omega)]
      go_enter Try.func24, Try.ntmps24
      go_wp2
      go_ret
      exact ⟨rfl, rfl⟩
  · rw [decide_eq_false (by omega)]
    go_enter Try.func24, Try.ntmps24
    go_wp2
    go_ret
    exact ⟨rfl, rfl⟩
theorem is_any (l : Int) (w : World) : Calls Try.prog 31 #[.int .i64 l] w fun e w' => e = .returned (.bool (decide (0 ≤ l ∧ l < 5))) ∧ w = w' := by
  by_cases h0 : 0 ≤ l
  · by_cases h1 : l < 5
    · rw [decide_eq_true ⟨h0, h1⟩]
      go_enter Try.func31, Try.ntmps31
      go_wp2
      go_ret
      exact ⟨rfl, rfl⟩
    · rw [decide_eq_false (by omega)]
      go_enter Try.func31, Try.ntmps31
      go_wp2
      go_ret
      exact ⟨rfl, rfl⟩
  · rw [decide_eq_false (by omega)]
    go_enter Try.func31, Try.ntmps31
    go_wp2
    go_ret
    exact ⟨rfl, rfl⟩
theorem device_any (l : Int) (w : World) : Calls Try.prog 25 #[.int .i64 l] w fun e w' => e = .returned (.bool (decide (1 ≤ l ∧ l ≤ 3))) ∧ w = w' := by
  by_cases h0 : 1 ≤ l
  · by_cases h1 : l ≤ 3
    · rw [decide_eq_true ⟨h0, h1⟩]
      go_enter Try.func25, Try.ntmps25
      go_wp2
      go_ret
      exact ⟨rfl, rfl⟩
    · rw [decide_eq_false (by omega)]
      go_enter Try.func25, Try.ntmps25
      go_wp2
      go_ret
      exact ⟨rfl, rfl⟩
  · rw [decide_eq_false (by omega)]
    go_enter Try.func25, Try.ntmps25
    go_wp2
    go_ret
    exact ⟨rfl, rfl⟩
theorem ofDevice_any (l : Int) (w : World) : Calls Try.prog 27 #[.int .i64 l] w fun e w' => e = .returned (.bool (dev l)) ∧ w = w' := by
  by_cases h1 : l = 1
  · subst h1
    go_enter Try.func27, Try.ntmps27
    go_wp2
    go_ret
    exact ⟨rfl, rfl⟩
  by_cases h2 : l = 2
  · subst h2
    go_enter Try.func27, Try.ntmps27
    go_wp2
    go_ret
    exact ⟨rfl, rfl⟩
  by_cases h3 : l = 3
  · subst h3
    go_enter Try.func27, Try.ntmps27
    go_wp2
    go_ret
    exact ⟨rfl, rfl⟩
  have e : dev l = false := decide_eq_false (by omega)
  rw [e]
  have h1 : (l == 1) = false := beq_false_of_ne h1
  have h2 : (l == 2) = false := beq_false_of_ne h2
  have h3 : (l == 3) = false := beq_false_of_ne h3
  clear e
  go_enter Try.func27, Try.ntmps27
  go_wp2
  go_ret
  exact ⟨rfl, rfl⟩
theorem bit_any (l : Nat) (w : World) (hl : l < 5) : Calls Try.prog 32 #[.int .i64 (l : Int)] w fun e w' => e = .returned (.int .u32 (bt l)) ∧ w = w' := by
  rcases (show l = 0 ∨ l = 1 ∨ l = 2 ∨ l = 3 ∨ l = 4 by omega) with rfl | rfl | rfl | rfl | rfl
  all_goals
    go_enter Try.func32, Try.ntmps32
    go_wp2
    go_ret
    exact ⟨rfl, rfl⟩
set_option maxRecDepth 100000 in
theorem pending_any (x : Ctl) (k : Nat) (w : World) (hx : x.Ok) (hw : x.wf) (hk : (k : Int) < x.n) : Calls Try.prog 16 #[.agg x.cells.toArray, .int .i64 (k : Int)] w fun e w' => e = .returned (.int .u32 (x.pend k)) ∧ Later w w' := by
  have hn4 := hx.n4
  have h4 : k < 4 := by omega
  have hk4 : (k : Int) < 4 := by omega
  have hk0 : (0 : Int) ≤ k := by omega
  have KH := Lib.hid fun w' => has_any x k w' hn4
  rw [decide_eq_true ⟨hk0, hk⟩] at KH
  have b2 := Blk.new w 26 x.cells.toArray x.cells rfl
  have lw := later1 w (.cells x.cells.toArray 26)
  have hv := pend_is (hx.r5 hw h4) (hx.m5 hw h4)
  have hp : x.pend k = pendTo (x.r k) (x.m k) 5 := rfl
  rw [hp, ← hv]
  clear hp hv hx hw
  go_enter Try.func16, Try.ntmps16
  go_wp2_with (first
    | ((with_reducible refine wpList_load_blk (o := ⟨some 5, .load 26 (.tmp 2), _, _, _, none⟩) rfl _ _ rfl w.heap.size 26 x.cells _ ?_ ?_ Try.underlying26 rfl (ctl_sz _) ?_); rfl; exact b2)
    | (go_at_call 26; (with_reducible refine (KH.out _).mono ?_); rintro e w1 ⟨rfl, l1⟩; replace b2 := b2.keep l1; replace lw := Later.trans_ lw l1; have e1 := b2.cell (ctl_r x h4); have e2 := b2.cell (ctl_m x h4)))
  go_region
  go_wp2
  go_ret
  exact ⟨rfl, lw.drew⟩
theorem ctl_ret {fn : Func} {p : Tmp} (h : fn.results = #[.cell p 26]) (tmps : Array Value) (w : World) (B : Nat) (X : Ctl) (hp : tmps.getD p undef = .pointer (some ⟨B, 0, none⟩)) (hb : Blk w B 26 X.cells) :
    (results fn tmps).run Try.prog w = .ok (.agg X.cells.toArray) w :=
  results_blk h tmps w B 26 _ _ hp hb Try.underlying26 rfl (ctl_sz _)
set_option maxRecDepth 100000 in
set_option maxHeartbeats 1000000 in
theorem raise_any (x : Ctl) (l : Int) (k : Nat) (w : World) (hx : x.Ok) (hw : x.wf) (hk : (k : Int) < x.n) : Calls Try.prog 14 #[.agg x.cells.toArray, .int .i64 l, .int .i64 (k : Int)] w fun e w' => e = .returned (.agg (x.raise l k).cells.toArray) ∧ Later w w' := by
  have hn4 := hx.n4
  have b3 := (Blk.new w 26 x.cells.toArray x.cells rfl).alloc (.cells zK.cells.toArray 26)
  have b6 := Blk.new' (w.alloc (.cells x.cells.toArray 26)) (w.heap.size + 1) 26 zK.cells.toArray zK.cells (by simp) rfl
  have lw := (later1 w (.cells x.cells.toArray 26)).alloc (by simp) (.cells zK.cells.toArray 26)
  by_cases hl : 0 ≤ l ∧ l < 5
  · obtain ⟨j, rfl⟩ := Int.eq_ofNat_of_zero_le hl.1
    have hj : j < 5 := by omega
    have ha := hx.at4 hl hk
    have hor := or_is (hx.r5 hw ha.1) hj
    have hres : x.raise (j : Int) k = { x with r := upd x.r (x.at (j : Int) k) (orB (x.r (x.at (j : Int) k)) j) } := by unfold Ctl.raise; rw [if_pos hl]; rfl
    rw [hres]
    have hcpu : (if dev (j : Int) then x.t j else (k : Int)) = ((x.at (j : Int) k : Nat) : Int) := by
      unfold Ctl.at
      split
      · exact (hx.t4 hj).2.1.symm
      · rfl
    have KO := Lib.hid fun w' => ofDevice_any (j : Int) w'
    have KI := Lib.hid fun w' => is_any (j : Int) w'
    rw [decide_eq_true hl] at KI
    obtain ⟨a, hA⟩ : ∃ a, a = x.at (j : Int) k := ⟨_, rfl⟩
    rw [← hA] at ha hor hcpu ⊢
    obtain ⟨ha4, han⟩ := ha
    have KH := Lib.hid fun w' => has_any x a w' hn4
    rw [decide_eq_true ⟨by omega, han⟩] at KH
    have KB := Lib.hid fun w' => bit_any j w' hj
    have hj0 : (0 : Int) ≤ (j : Int) := by omega
    have hj5 : (j : Int) < 5 := by omega
    have ha0 : (0 : Int) ≤ (a : Int) := by omega
    have ha5 : (a : Int) < 4 := by omega
    have e0 : (w.alloc (.cells x.cells.toArray 26)).alloc (.cells zK.cells.toArray 26) = (w.alloc (.cells x.cells.toArray 26)).alloc (.cells zK.cells.toArray 26) := rfl
    obtain ⟨dv, hdv⟩ : ∃ dv, dv = dev (j : Int) := ⟨_, rfl⟩
    rw [← hdv] at KO hcpu
    clear hA hdv hres hx hw hl e0
    cases dv with
    | true =>
      have hca : x.t j = (a : Int) := by rw [if_pos rfl] at hcpu; exact hcpu
      clear hcpu
      go_enter Try.func14, Try.ntmps14
      go_upto_region 1 with fail
      obtain ⟨u0, hu⟩ : ∃ u0, (w.alloc (.cells x.cells.toArray 26)).alloc (.cells zK.cells.toArray 26) = u0 := ⟨_, rfl⟩
      rw [hu] at b3 b6 lw
      have hu2 : (w.alloc (.cells x.cells.toArray 26)).alloc (.cells #[.int .i64 0, .int .u32 0, .int .u32 0, .int .u32 0, .int .u32 0, .int .u32 0, .int .u32 0, .int .u32 0, .int .u32 0, .int .i64 0, .int .i64 0, .int .i64 0, .int .i64 0, .int .i64 0] 26) = u0 := hu
      rw [hu2]
      clear hu hu2
      have et := b3.cell (ctl_t x hj)
      rw [hca] at et
      clear hca
      go_upto_region 5 with (first
        | (go_at_call 27; (with_reducible refine (KO.out _).mono ?_); rintro e w1 ⟨rfl, rfl⟩)
        | (go_at_call 31; (with_reducible refine (KI.out _).mono ?_); rintro e w1 ⟨rfl, rfl⟩)
        | ((with_reducible refine wpList_load_g (o := ⟨some 18, .load 26 (.tmp 3), _, _, _, _⟩) _ _ rfl w.heap.size 26 x.cells _ ?_ ?_ ?_ Try.underlying26 ?_ (ctl_sz _) ?_); rfl; rfl; exact b3; rfl)
        | (go_at_call 26; (with_reducible refine (KH.out _).mono ?_); rintro e w1 ⟨rfl, l1⟩; clear et; replace b3 := b3.keep l1; replace b6 := b6.keep l1; replace lw := Later.trans_ lw l1))
      replace b3 := b3.drew
      replace b6 := b6.drew
      replace lw := lw.drew
      have e1 := b3.cell (ctl_r x ha4)
      have f1 := b3.frz (1 + a)
      refine wp_region_held_drew (S := fun w' => True) (by kernel_rfl) trivial (fun hHeld => ?_)
      refine wpAnyH_take (i := 0) (oi := ⟨some 22, .move (.tmp 2), _, _, _, none⟩) (v := .int .i64 (a : Int)) rfl (by kernel_rfl) (by kernel_rfl) (by kernel_rfl) (fun _ _ _ h => h) (Or.inl ⟨by rfl, fun _ _ => rfl⟩) hHeld ?_
      simp only [Act.put, List.setIfInBounds_toArray, List.set_cons_zero, List.set_cons_succ]
      refine wpAnyH_take (i := 1) (oi := ⟨some 23, .fieldAddr 26 (.tmp 3) 1, _, _, _, none⟩) (v := .pointer (some ⟨w.heap.size, 1, none⟩)) rfl (by kernel_rfl) (by kernel_rfl) (by kernel_rfl) (fun _ _ _ h => h) (Or.inl ⟨by rfl, fun w _ => by go_simp⟩) hHeld ?_
      simp only [Act.put, List.setIfInBounds_toArray, List.set_cons_zero, List.set_cons_succ]
      refine wpAnyH_take (i := 2) (oi := ⟨some 24, .indexAddr 23 (.tmp 23) (.tmp 22), _, _, _, none⟩) (v := .pointer (some ⟨w.heap.size, 1 + a, none⟩)) rfl (by kernel_rfl) (by kernel_rfl) (by kernel_rfl) (fun _ _ _ h => h) (Or.inl ⟨by rfl, fun w _ => by go_simp⟩) hHeld ?_
      simp only [Act.put, List.setIfInBounds_toArray, List.set_cons_zero, List.set_cons_succ]
      refine wpAnyH_take (i := 4) (oi := ⟨some 26, .move (.tmp 7), _, _, _, none⟩) (v := .int .i64 (j : Int)) rfl (by kernel_rfl) (by kernel_rfl) (by kernel_rfl) (fun _ _ _ h => h) (Or.inl ⟨by rfl, fun _ _ => rfl⟩) hHeld ?_
      simp only [Act.put, List.setIfInBounds_toArray, List.set_cons_zero, List.set_cons_succ]
      refine wpAnyH_take (i := 7) (oi := ⟨some 29, .fieldAddr 26 (.tmp 3) 1, _, _, _, none⟩) (v := .pointer (some ⟨w.heap.size, 1, none⟩)) rfl (by kernel_rfl) (by kernel_rfl) (by kernel_rfl) (fun _ _ _ h => h) (Or.inl ⟨by rfl, fun w _ => by go_simp⟩) hHeld ?_
      simp only [Act.put, List.setIfInBounds_toArray, List.set_cons_zero, List.set_cons_succ]
      refine wpAnyH_ready (rs := [3, 5]) (by kernel_rfl) (by simp) (AllReadyH.cons (o := ⟨some 25, .load 22 (.tmp 24), _, _, _, none⟩) rfl (fun K' hK => ?_) (AllReadyH.cons (o := ⟨some 27, .call { callee := .value (.func 32), args := #[.tmp 26], argTypes := #[58] }, _, _, _, none⟩) rfl (fun K' hK => ?_) AllReadyH.nil))
      · go_simp
        refine hK.out _ _ trivial (fun hHeld => ?_)
        clear hK K'
        try simp only [Act.put, List.setIfInBounds_toArray, List.set_cons_zero, List.set_cons_succ]
        refine wpAnyH_ready (rs := [5]) (by kernel_rfl) (by simp) (AllReadyH.cons (o := ⟨some 27, .call { callee := .value (.func 32), args := #[.tmp 26], argTypes := #[58] }, _, _, _, none⟩) rfl (fun K' hK => ?_) AllReadyH.nil)
        go_simp
        refine (KB.out _).mono ?_
        rintro e v1 ⟨rfl, rfl⟩
        refine hK.out _ _ trivial (fun hHeld => ?_)
        clear hK K'
        try simp only [Act.put, List.setIfInBounds_toArray, List.set_cons_zero, List.set_cons_succ]
        refine wpAnyH_take (i := 6) (oi := ⟨some 28, .binOp .or 22 (.tmp 25) (.tmp 27) 22, _, _, _, none⟩) (v := .int .u32 (orB (x.r a) j)) rfl (by kernel_rfl) (by kernel_rfl) (by kernel_rfl) (fun _ _ _ h => h) (Or.inl ⟨by rfl, fun w _ => by go_simp⟩) hHeld ?_
        simp only [Act.put, List.setIfInBounds_toArray, List.set_cons_zero, List.set_cons_succ]
        refine wpAnyH_take (i := 8) (oi := ⟨some 30, .indexAddr 23 (.tmp 29) (.tmp 22), _, _, _, none⟩) (v := .pointer (some ⟨w.heap.size, 1 + a, none⟩)) rfl (by kernel_rfl) (by kernel_rfl) (by kernel_rfl) (fun _ _ _ h => h) (Or.inl ⟨by rfl, fun w _ => by go_simp⟩) hHeld ?_
        simp only [Act.put, List.setIfInBounds_toArray, List.set_cons_zero, List.set_cons_succ]
        refine wpAnyH_ready (rs := [9]) (by kernel_rfl) (by simp) (AllReadyH.cons (o := ⟨none, .store 22 (.tmp 30) (.tmp 28), _, _, _, none⟩) rfl (fun K' hK => ?_) AllReadyH.nil)
        go_simp
        replace b3 : Blk _ w.heap.size 26 ({ x with r := upd x.r a (orB (x.r a) j) } : Ctl).cells := (by rw [← set_r x ha4]; exact b3.set (1 + a) (.int .u32 (orB (x.r a) j)))
        replace b6 := b6.set_other ⟨w.heap.size, 1 + a, none⟩ (.int .u32 (orB (x.r a) j)) (by first | (simp; done) | (simp; omega))
        replace lw := lw.setCell (p := ⟨w.heap.size, 1 + a, none⟩) (Nat.le_refl _) (.int .u32 (orB (x.r a) j))
        refine hK.out _ _ trivial (fun hHeld => ?_)
        clear hK K'
        try simp only [Act.put, List.setIfInBounds_toArray, List.set_cons_zero, List.set_cons_succ]
        refine wpAnyH_done (by kernel_rfl) ?_ _
        clear hHeld
        clear e1 f1
        go_wp2_with (first
          | ((with_reducible refine wpList_load_blk (o := ⟨some 31, .load 26 (.tmp 3), _, _, _, none⟩) rfl _ _ rfl w.heap.size 26 { x with r := upd x.r a (orB (x.r a) j) }.cells _ ?_ ?_ Try.underlying26 rfl (ctl_sz _) ?_); rfl; exact b3)
          | ((with_reducible refine wpList_store_abs (o := ⟨none, .store 26 (.tmp 6) (.tmp 31), _, _, _, none⟩) rfl _ _ _ rfl (w.heap.size + 1) 26 zK.cells { x with r := upd x.r a (orB (x.r a) j) }.cells ?_ ?_ ?_ ?_ ?_ ?_ ?_); rfl; rfl; exact b6; exact ctl_sz _; rfl; exact ctl_one _; intro w9 b9 o9))
        exact bodyPost_ret (ctl_ret Try.results14 _ _ (w.heap.size + 1) { x with r := upd x.r a (orB (x.r a) j) } rfl b9) rfl ⟨rfl, Below.only lw o9 (by omega)⟩
      · go_simp
        refine (KB.out _).mono ?_
        rintro e v1 ⟨rfl, rfl⟩
        refine hK.out _ _ trivial (fun hHeld => ?_)
        clear hK K'
        try simp only [Act.put, List.setIfInBounds_toArray, List.set_cons_zero, List.set_cons_succ]
        refine wpAnyH_ready (rs := [3]) (by kernel_rfl) (by simp) (AllReadyH.cons (o := ⟨some 25, .load 22 (.tmp 24), _, _, _, none⟩) rfl (fun K' hK => ?_) AllReadyH.nil)
        go_simp
        refine hK.out _ _ trivial (fun hHeld => ?_)
        clear hK K'
        try simp only [Act.put, List.setIfInBounds_toArray, List.set_cons_zero, List.set_cons_succ]
        refine wpAnyH_take (i := 6) (oi := ⟨some 28, .binOp .or 22 (.tmp 25) (.tmp 27) 22, _, _, _, none⟩) (v := .int .u32 (orB (x.r a) j)) rfl (by kernel_rfl) (by kernel_rfl) (by kernel_rfl) (fun _ _ _ h => h) (Or.inl ⟨by rfl, fun w _ => by go_simp⟩) hHeld ?_
        simp only [Act.put, List.setIfInBounds_toArray, List.set_cons_zero, List.set_cons_succ]
        refine wpAnyH_take (i := 8) (oi := ⟨some 30, .indexAddr 23 (.tmp 29) (.tmp 22), _, _, _, none⟩) (v := .pointer (some ⟨w.heap.size, 1 + a, none⟩)) rfl (by kernel_rfl) (by kernel_rfl) (by kernel_rfl) (fun _ _ _ h => h) (Or.inl ⟨by rfl, fun w _ => by go_simp⟩) hHeld ?_
        simp only [Act.put, List.setIfInBounds_toArray, List.set_cons_zero, List.set_cons_succ]
        refine wpAnyH_ready (rs := [9]) (by kernel_rfl) (by simp) (AllReadyH.cons (o := ⟨none, .store 22 (.tmp 30) (.tmp 28), _, _, _, none⟩) rfl (fun K' hK => ?_) AllReadyH.nil)
        go_simp
        replace b3 : Blk _ w.heap.size 26 ({ x with r := upd x.r a (orB (x.r a) j) } : Ctl).cells := (by rw [← set_r x ha4]; exact b3.set (1 + a) (.int .u32 (orB (x.r a) j)))
        replace b6 := b6.set_other ⟨w.heap.size, 1 + a, none⟩ (.int .u32 (orB (x.r a) j)) (by first | (simp; done) | (simp; omega))
        replace lw := lw.setCell (p := ⟨w.heap.size, 1 + a, none⟩) (Nat.le_refl _) (.int .u32 (orB (x.r a) j))
        refine hK.out _ _ trivial (fun hHeld => ?_)
        clear hK K'
        try simp only [Act.put, List.setIfInBounds_toArray, List.set_cons_zero, List.set_cons_succ]
        refine wpAnyH_done (by kernel_rfl) ?_ _
        clear hHeld
        clear e1 f1
        go_wp2_with (first
          | ((with_reducible refine wpList_load_blk (o := ⟨some 31, .load 26 (.tmp 3), _, _, _, none⟩) rfl _ _ rfl w.heap.size 26 { x with r := upd x.r a (orB (x.r a) j) }.cells _ ?_ ?_ Try.underlying26 rfl (ctl_sz _) ?_); rfl; exact b3)
          | ((with_reducible refine wpList_store_abs (o := ⟨none, .store 26 (.tmp 6) (.tmp 31), _, _, _, none⟩) rfl _ _ _ rfl (w.heap.size + 1) 26 zK.cells { x with r := upd x.r a (orB (x.r a) j) }.cells ?_ ?_ ?_ ?_ ?_ ?_ ?_); rfl; rfl; exact b6; exact ctl_sz _; rfl; exact ctl_one _; intro w9 b9 o9))
        exact bodyPost_ret (ctl_ret Try.results14 _ _ (w.heap.size + 1) { x with r := upd x.r a (orB (x.r a) j) } rfl b9) rfl ⟨rfl, Below.only lw o9 (by omega)⟩
    | false =>
      have hca : k = a := by rw [if_neg (by decide)] at hcpu; omega
      subst hca
      clear hcpu
      go_enter Try.func14, Try.ntmps14
      go_upto_region 1 with fail
      obtain ⟨u0, hu⟩ : ∃ u0, (w.alloc (.cells x.cells.toArray 26)).alloc (.cells zK.cells.toArray 26) = u0 := ⟨_, rfl⟩
      rw [hu] at b3 b6 lw
      have hu2 : (w.alloc (.cells x.cells.toArray 26)).alloc (.cells #[.int .i64 0, .int .u32 0, .int .u32 0, .int .u32 0, .int .u32 0, .int .u32 0, .int .u32 0, .int .u32 0, .int .u32 0, .int .i64 0, .int .i64 0, .int .i64 0, .int .i64 0, .int .i64 0] 26) = u0 := hu
      rw [hu2]
      clear hu hu2
      go_upto_region 5 with (first
        | (go_at_call 27; (with_reducible refine (KO.out _).mono ?_); rintro e w1 ⟨rfl, rfl⟩)
        | (go_at_call 31; (with_reducible refine (KI.out _).mono ?_); rintro e w1 ⟨rfl, rfl⟩)
        | ((with_reducible refine wpList_load_g (o := ⟨some 18, .load 26 (.tmp 3), _, _, _, _⟩) _ _ rfl w.heap.size 26 x.cells _ ?_ ?_ ?_ Try.underlying26 ?_ (ctl_sz _) ?_); rfl; rfl; exact b3; rfl)
        | (go_at_call 26; (with_reducible refine (KH.out _).mono ?_); rintro e w1 ⟨rfl, l1⟩; replace b3 := b3.keep l1; replace b6 := b6.keep l1; replace lw := Later.trans_ lw l1))
      replace b3 := b3.drew
      replace b6 := b6.drew
      replace lw := lw.drew
      have e1 := b3.cell (ctl_r x ha4)
      have f1 := b3.frz (1 + k)
      refine wp_region_held_drew (S := fun w' => True) (by kernel_rfl) trivial (fun hHeld => ?_)
      refine wpAnyH_take (i := 0) (oi := ⟨some 22, .move (.tmp 2), _, _, _, none⟩) (v := .int .i64 (k : Int)) rfl (by kernel_rfl) (by kernel_rfl) (by kernel_rfl) (fun _ _ _ h => h) (Or.inl ⟨by rfl, fun _ _ => rfl⟩) hHeld ?_
      simp only [Act.put, List.setIfInBounds_toArray, List.set_cons_zero, List.set_cons_succ]
      refine wpAnyH_take (i := 1) (oi := ⟨some 23, .fieldAddr 26 (.tmp 3) 1, _, _, _, none⟩) (v := .pointer (some ⟨w.heap.size, 1, none⟩)) rfl (by kernel_rfl) (by kernel_rfl) (by kernel_rfl) (fun _ _ _ h => h) (Or.inl ⟨by rfl, fun w _ => by go_simp⟩) hHeld ?_
      simp only [Act.put, List.setIfInBounds_toArray, List.set_cons_zero, List.set_cons_succ]
      refine wpAnyH_take (i := 2) (oi := ⟨some 24, .indexAddr 23 (.tmp 23) (.tmp 22), _, _, _, none⟩) (v := .pointer (some ⟨w.heap.size, 1 + k, none⟩)) rfl (by kernel_rfl) (by kernel_rfl) (by kernel_rfl) (fun _ _ _ h => h) (Or.inl ⟨by rfl, fun w _ => by go_simp⟩) hHeld ?_
      simp only [Act.put, List.setIfInBounds_toArray, List.set_cons_zero, List.set_cons_succ]
      refine wpAnyH_take (i := 4) (oi := ⟨some 26, .move (.tmp 7), _, _, _, none⟩) (v := .int .i64 (j : Int)) rfl (by kernel_rfl) (by kernel_rfl) (by kernel_rfl) (fun _ _ _ h => h) (Or.inl ⟨by rfl, fun _ _ => rfl⟩) hHeld ?_
      simp only [Act.put, List.setIfInBounds_toArray, List.set_cons_zero, List.set_cons_succ]
      refine wpAnyH_take (i := 7) (oi := ⟨some 29, .fieldAddr 26 (.tmp 3) 1, _, _, _, none⟩) (v := .pointer (some ⟨w.heap.size, 1, none⟩)) rfl (by kernel_rfl) (by kernel_rfl) (by kernel_rfl) (fun _ _ _ h => h) (Or.inl ⟨by rfl, fun w _ => by go_simp⟩) hHeld ?_
      simp only [Act.put, List.setIfInBounds_toArray, List.set_cons_zero, List.set_cons_succ]
      refine wpAnyH_ready (rs := [3, 5]) (by kernel_rfl) (by simp) (AllReadyH.cons (o := ⟨some 25, .load 22 (.tmp 24), _, _, _, none⟩) rfl (fun K' hK => ?_) (AllReadyH.cons (o := ⟨some 27, .call { callee := .value (.func 32), args := #[.tmp 26], argTypes := #[58] }, _, _, _, none⟩) rfl (fun K' hK => ?_) AllReadyH.nil))
      · go_simp
        refine hK.out _ _ trivial (fun hHeld => ?_)
        clear hK K'
        try simp only [Act.put, List.setIfInBounds_toArray, List.set_cons_zero, List.set_cons_succ]
        refine wpAnyH_ready (rs := [5]) (by kernel_rfl) (by simp) (AllReadyH.cons (o := ⟨some 27, .call { callee := .value (.func 32), args := #[.tmp 26], argTypes := #[58] }, _, _, _, none⟩) rfl (fun K' hK => ?_) AllReadyH.nil)
        go_simp
        refine (KB.out _).mono ?_
        rintro e v1 ⟨rfl, rfl⟩
        refine hK.out _ _ trivial (fun hHeld => ?_)
        clear hK K'
        try simp only [Act.put, List.setIfInBounds_toArray, List.set_cons_zero, List.set_cons_succ]
        refine wpAnyH_take (i := 6) (oi := ⟨some 28, .binOp .or 22 (.tmp 25) (.tmp 27) 22, _, _, _, none⟩) (v := .int .u32 (orB (x.r k) j)) rfl (by kernel_rfl) (by kernel_rfl) (by kernel_rfl) (fun _ _ _ h => h) (Or.inl ⟨by rfl, fun w _ => by go_simp⟩) hHeld ?_
        simp only [Act.put, List.setIfInBounds_toArray, List.set_cons_zero, List.set_cons_succ]
        refine wpAnyH_take (i := 8) (oi := ⟨some 30, .indexAddr 23 (.tmp 29) (.tmp 22), _, _, _, none⟩) (v := .pointer (some ⟨w.heap.size, 1 + k, none⟩)) rfl (by kernel_rfl) (by kernel_rfl) (by kernel_rfl) (fun _ _ _ h => h) (Or.inl ⟨by rfl, fun w _ => by go_simp⟩) hHeld ?_
        simp only [Act.put, List.setIfInBounds_toArray, List.set_cons_zero, List.set_cons_succ]
        refine wpAnyH_ready (rs := [9]) (by kernel_rfl) (by simp) (AllReadyH.cons (o := ⟨none, .store 22 (.tmp 30) (.tmp 28), _, _, _, none⟩) rfl (fun K' hK => ?_) AllReadyH.nil)
        go_simp
        replace b3 : Blk _ w.heap.size 26 ({ x with r := upd x.r k (orB (x.r k) j) } : Ctl).cells := (by rw [← set_r x ha4]; exact b3.set (1 + k) (.int .u32 (orB (x.r k) j)))
        replace b6 := b6.set_other ⟨w.heap.size, 1 + k, none⟩ (.int .u32 (orB (x.r k) j)) (by first | (simp; done) | (simp; omega))
        replace lw := lw.setCell (p := ⟨w.heap.size, 1 + k, none⟩) (Nat.le_refl _) (.int .u32 (orB (x.r k) j))
        refine hK.out _ _ trivial (fun hHeld => ?_)
        clear hK K'
        try simp only [Act.put, List.setIfInBounds_toArray, List.set_cons_zero, List.set_cons_succ]
        refine wpAnyH_done (by kernel_rfl) ?_ _
        clear hHeld
        clear e1 f1
        go_wp2_with (first
          | ((with_reducible refine wpList_load_blk (o := ⟨some 31, .load 26 (.tmp 3), _, _, _, none⟩) rfl _ _ rfl w.heap.size 26 { x with r := upd x.r k (orB (x.r k) j) }.cells _ ?_ ?_ Try.underlying26 rfl (ctl_sz _) ?_); rfl; exact b3)
          | ((with_reducible refine wpList_store_abs (o := ⟨none, .store 26 (.tmp 6) (.tmp 31), _, _, _, none⟩) rfl _ _ _ rfl (w.heap.size + 1) 26 zK.cells { x with r := upd x.r k (orB (x.r k) j) }.cells ?_ ?_ ?_ ?_ ?_ ?_ ?_); rfl; rfl; exact b6; exact ctl_sz _; rfl; exact ctl_one _; intro w9 b9 o9))
        exact bodyPost_ret (ctl_ret Try.results14 _ _ (w.heap.size + 1) { x with r := upd x.r k (orB (x.r k) j) } rfl b9) rfl ⟨rfl, Below.only lw o9 (by omega)⟩
      · go_simp
        refine (KB.out _).mono ?_
        rintro e v1 ⟨rfl, rfl⟩
        refine hK.out _ _ trivial (fun hHeld => ?_)
        clear hK K'
        try simp only [Act.put, List.setIfInBounds_toArray, List.set_cons_zero, List.set_cons_succ]
        refine wpAnyH_ready (rs := [3]) (by kernel_rfl) (by simp) (AllReadyH.cons (o := ⟨some 25, .load 22 (.tmp 24), _, _, _, none⟩) rfl (fun K' hK => ?_) AllReadyH.nil)
        go_simp
        refine hK.out _ _ trivial (fun hHeld => ?_)
        clear hK K'
        try simp only [Act.put, List.setIfInBounds_toArray, List.set_cons_zero, List.set_cons_succ]
        refine wpAnyH_take (i := 6) (oi := ⟨some 28, .binOp .or 22 (.tmp 25) (.tmp 27) 22, _, _, _, none⟩) (v := .int .u32 (orB (x.r k) j)) rfl (by kernel_rfl) (by kernel_rfl) (by kernel_rfl) (fun _ _ _ h => h) (Or.inl ⟨by rfl, fun w _ => by go_simp⟩) hHeld ?_
        simp only [Act.put, List.setIfInBounds_toArray, List.set_cons_zero, List.set_cons_succ]
        refine wpAnyH_take (i := 8) (oi := ⟨some 30, .indexAddr 23 (.tmp 29) (.tmp 22), _, _, _, none⟩) (v := .pointer (some ⟨w.heap.size, 1 + k, none⟩)) rfl (by kernel_rfl) (by kernel_rfl) (by kernel_rfl) (fun _ _ _ h => h) (Or.inl ⟨by rfl, fun w _ => by go_simp⟩) hHeld ?_
        simp only [Act.put, List.setIfInBounds_toArray, List.set_cons_zero, List.set_cons_succ]
        refine wpAnyH_ready (rs := [9]) (by kernel_rfl) (by simp) (AllReadyH.cons (o := ⟨none, .store 22 (.tmp 30) (.tmp 28), _, _, _, none⟩) rfl (fun K' hK => ?_) AllReadyH.nil)
        go_simp
        replace b3 : Blk _ w.heap.size 26 ({ x with r := upd x.r k (orB (x.r k) j) } : Ctl).cells := (by rw [← set_r x ha4]; exact b3.set (1 + k) (.int .u32 (orB (x.r k) j)))
        replace b6 := b6.set_other ⟨w.heap.size, 1 + k, none⟩ (.int .u32 (orB (x.r k) j)) (by first | (simp; done) | (simp; omega))
        replace lw := lw.setCell (p := ⟨w.heap.size, 1 + k, none⟩) (Nat.le_refl _) (.int .u32 (orB (x.r k) j))
        refine hK.out _ _ trivial (fun hHeld => ?_)
        clear hK K'
        try simp only [Act.put, List.setIfInBounds_toArray, List.set_cons_zero, List.set_cons_succ]
        refine wpAnyH_done (by kernel_rfl) ?_ _
        clear hHeld
        clear e1 f1
        go_wp2_with (first
          | ((with_reducible refine wpList_load_blk (o := ⟨some 31, .load 26 (.tmp 3), _, _, _, none⟩) rfl _ _ rfl w.heap.size 26 { x with r := upd x.r k (orB (x.r k) j) }.cells _ ?_ ?_ Try.underlying26 rfl (ctl_sz _) ?_); rfl; exact b3)
          | ((with_reducible refine wpList_store_abs (o := ⟨none, .store 26 (.tmp 6) (.tmp 31), _, _, _, none⟩) rfl _ _ _ rfl (w.heap.size + 1) 26 zK.cells { x with r := upd x.r k (orB (x.r k) j) }.cells ?_ ?_ ?_ ?_ ?_ ?_ ?_); rfl; rfl; exact b6; exact ctl_sz _; rfl; exact ctl_one _; intro w9 b9 o9))
        exact bodyPost_ret (ctl_ret Try.results14 _ _ (w.heap.size + 1) { x with r := upd x.r k (orB (x.r k) j) } rfl b9) rfl ⟨rfl, Below.only lw o9 (by omega)⟩
  · have hres : x.raise l k = x := if_neg hl
    rw [hres]
    have hd : dev l = false := decide_eq_false (by omega)
    have KO := Lib.hid fun w' => ofDevice_any l w'
    have KI := Lib.hid fun w' => is_any l w'
    rw [decide_eq_false hl] at KI
    rw [hd] at KO
    clear hd hres hx hw
    go_enter Try.func14, Try.ntmps14
    go_upto_region 1 with fail
    obtain ⟨u0, hu⟩ : ∃ u0, (w.alloc (.cells x.cells.toArray 26)).alloc (.cells zK.cells.toArray 26) = u0 := ⟨_, rfl⟩
    rw [hu] at b3 b6 lw
    have hu2 : (w.alloc (.cells x.cells.toArray 26)).alloc (.cells #[.int .i64 0, .int .u32 0, .int .u32 0, .int .u32 0, .int .u32 0, .int .u32 0, .int .u32 0, .int .u32 0, .int .u32 0, .int .i64 0, .int .i64 0, .int .i64 0, .int .i64 0, .int .i64 0] 26) = u0 := hu
    rw [hu2]
    clear hu hu2
    go_upto_region 6 with (first
      | (go_at_call 27; (with_reducible refine (KO.out _).mono ?_); rintro e w1 ⟨rfl, rfl⟩)
      | (go_at_call 31; (with_reducible refine (KI.out _).mono ?_); rintro e w1 ⟨rfl, rfl⟩))
    go_wp2_with (first
      | ((with_reducible refine wpList_load_blk (o := ⟨some 31, .load 26 (.tmp 3), _, _, _, none⟩) rfl _ _ rfl w.heap.size 26 x.cells _ ?_ ?_ Try.underlying26 rfl (ctl_sz _) ?_); rfl; exact b3)
      | ((with_reducible refine wpList_store_abs (o := ⟨none, .store 26 (.tmp 6) (.tmp 31), _, _, _, none⟩) rfl _ _ _ rfl (w.heap.size + 1) 26 zK.cells x.cells ?_ ?_ ?_ ?_ ?_ ?_ ?_); rfl; rfl; exact b6; exact ctl_sz _; rfl; exact ctl_one _; intro w9 b9 o9))
    exact bodyPost_ret (ctl_ret Try.results14 _ _ (w.heap.size + 1) x rfl b9) rfl ⟨rfl, Below.only lw o9 (by omega)⟩
end Go.Proofs.Ytkpigonlnabmdab
