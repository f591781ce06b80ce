/-
  A CONTROL: the reference's bit, has, Raise, Pending, Valid.
-/
import Derived.Test.YtkpigonlnabmdabLinF
import Derived.Deep.RegionHeld
namespace Go.Proofs.Ytkpigonlnabmdab
open Go.RowKit Go.ChangeShapes Go.WideShapes Go.ChangeAt

theorem bt_pos (l : Nat) : 0 < bt l := by unfold bt; have := Nat.two_pow_pos l; omega
theorem bt_le {l : Nat} (h : l ≤ 5) : bt l ≤ 32 := by
  rcases (show l = 0 ∨ l = 1 ∨ l = 2 ∨ l = 3 ∨ l = 4 ∨ l = 5 by omega) with rfl | rfl | rfl | rfl | rfl | rfl <;> decide
theorem bt_succ (l : Nat) : bt (l + 1) = 2 * bt l := by unfold bt; rw [Nat.pow_succ]; omega
theorem rbit_any (l : Nat) (w : World) (hl : l < 5) : Calls Try.prog 34 #[.int .i64 (l : Int)] w fun e w' => e = .returned (.int .u32 (bt l)) ∧ w = w' := by
  go_enter Try.func34, Try.ntmps34
  go_wp2
  go_loopw [4, 3] (fun i v wr => ∃ k : Nat, k ≤ l ∧ i = .int .i64 k ∧ v = .int .u32 (bt k) ∧ wr = w) (fun i _ _ => l - (intOf i).toNat)
  case atStart => exact ⟨0, by omega, rfl, rfl, rfl⟩
  case round =>
    obtain ⟨k, hk, rfl, rfl, rfl⟩ := hrel
    by_cases hlt : k < l
    · have hkn : (k : Int) < (l : Int) := by omega
      have hb := bt_le (show k + 1 ≤ 5 by omega)
      have hb2 := bt_succ k
      have hp := bt_pos k
      have hw : IntKind.u32.wrap (2 * bt k) = bt (k + 1) := by rw [IntKind.wrap_u32]; omega
      clear hb2
      obtain ⟨q, hq⟩ : ∃ q, q = bt k := ⟨_, rfl⟩
      obtain ⟨z, hz⟩ : ∃ z, z = bt (k + 1) := ⟨_, rfl⟩
      have HZ := Lib.hid hz
      rw [← hq, ← hz] at hw
      rw [← hz] at hb
      rw [← hq] at hp ⊢
      clear hq hz
      go_wp2
      go_roundw
      case rel => exact ⟨k + 1, by omega, by go_num, by rw [← HZ.out, ← hw, IntKind.wrap_u32], trivial⟩
      case measure => simp [intOf]; omega
    · obtain rfl : k = l := by omega
      clear hlt hk
      go_wp2
      go_ret
      exact ⟨rfl, rfl⟩
theorem rhas_any (x : Int) (l : Nat) (w : World) (hx : is5 x) (hl : l < 5) : Calls Try.prog 33 #[.int .u32 x, .int .i64 (l : Int)] w fun e w' => e = .returned (.bool (hasB x l)) ∧ w = w' := by
  have KB := Lib.hid fun w' => rbit_any l w' hl
  have hp := bt_pos l
  have hb := bt_le (show l ≤ 5 by omega)
  have hq0 : x.tdiv (bt l) = x / bt l := Int.tdiv_eq_ediv_of_nonneg hx.1
  have hh : hasB x l = decide (x / bt l % 2 = 1) := rfl
  have hd : 0 ≤ x / bt l ∧ x / bt l < 32 := by
    refine ⟨Int.ediv_nonneg hx.1 (by omega), ?_⟩
    have := Int.ediv_le_self (bt l) hx.1
    have := hx.2
    omega
  obtain ⟨q, hq⟩ : ∃ q, x / bt l = q := ⟨_, rfl⟩
  rw [hq] at hq0 hh hd
  rw [hh]
  obtain ⟨d, hdd⟩ : ∃ d, d = bt l := ⟨_, rfl⟩
  rw [← hdd] at KB hp hb hq0
  have hw : IntKind.u32.wrap q = q := by rw [IntKind.wrap_u32]; omega
  have hm : q.tmod 2 = q % 2 := Int.tmod_eq_emod_of_nonneg hd.1
  have hq1 := hd.1
  have hq2 := hd.2
  have hm0 : q % 4294967296 = q := by omega
  have hd0 : ¬ d = 0 := by omega
  have hd1 : (d == 0) = false := beq_false_of_ne hd0
  clear hh hd hq hdd hx
  obtain ⟨b, hb2⟩ : ∃ b, b = decide (q % 2 = 1) := ⟨_, rfl⟩
  have hb3 : (q % 2 == 1) = b := hb2.symm
  rw [← hb2]
  clear hb2
  go_enter Try.func33, Try.ntmps33
  go_wp2_with (go_at_call 34; (with_reducible refine (KB.out _).mono ?_); rintro e w1 ⟨rfl, rfl⟩)
  go_ret
  exact ⟨rfl, rfl⟩
set_option maxRecDepth 100000 in
set_option maxHeartbeats 1000000 in
theorem rraise_any (x : Ctl) (l : Int) (k : Nat) (w : World) (hx : x.Ok) (hw : x.wf) (hk : (k : Int) < x.n) : Calls Try.prog 15 #[.agg x.cells.toArray, .int .i64 l, .int .i64 (k : Int)] w fun e w' => e = .returned (.agg (x.raise l k).cells.toArray) ∧ Later w w' := by
  have b3 := (Blk.new w 26 x.cells.toArray x.cells rfl).alloc (.cells zK.cells.toArray 26)
  have b6 := Blk.new' (w.alloc (.cells x.cells.toArray 26)) (w.heap.size + 1) 26 zK.cells.toArray zK.cells (by simp) rfl
  have lw := (later1 w (.cells x.cells.toArray 26)).alloc (by simp) (.cells zK.cells.toArray 26)
  by_cases hl : 0 ≤ l ∧ l < 5
  · obtain ⟨j, rfl⟩ := Int.eq_ofNat_of_zero_le hl.1
    have hj : j < 5 := by omega
    have ha := hx.at4 hl hk
    have h5 := hx.r5 hw ha.1
    have hres : x.raise (j : Int) k = { x with r := upd x.r (x.at (j : Int) k) (orB (x.r (x.at (j : Int) k)) j) } := by unfold Ctl.raise; rw [if_pos hl]; rfl
    rw [hres]
    have hcpu : (if dev (j : Int) then x.t j else (k : Int)) = ((x.at (j : Int) k : Nat) : Int) := by
      unfold Ctl.at
      split
      · exact (hx.t4 hj).2.1.symm
      · rfl
    have KO := Lib.hid fun w' => device_any (j : Int) w'
    rw [show decide (1 ≤ (j : Int) ∧ (j : Int) ≤ 3) = dev (j : Int) from rfl] at KO
    obtain ⟨a, hA⟩ : ∃ a, a = x.at (j : Int) k := ⟨_, rfl⟩
    rw [← hA] at ha hcpu h5 ⊢
    obtain ⟨ha4, han⟩ := ha
    have KH := Lib.hid fun w' => rhas_any (x.r a) j w' h5 hj
    have KB := Lib.hid fun w' => rbit_any j w' hj
    have hbl := bt_le (show j ≤ 5 by omega)
    have hbp := bt_pos j
    have hsum : IntKind.u32.wrap (x.r a + bt j) = x.r a + bt j := by rw [IntKind.wrap_u32]; have := h5.1; have := h5.2; omega
    have hsum2 : (x.r a + bt j) % 4294967296 = x.r a + bt j := by have := h5.1; have := h5.2; omega
    have hj0 : (0 : Int) ≤ (j : Int) := by omega
    have hj5 : (j : Int) < 5 := by omega
    have ha0 : (0 : Int) ≤ (a : Int) := by omega
    have ha5 : (a : Int) < 4 := by omega
    obtain ⟨dv, hdv⟩ : ∃ dv, dv = dev (j : Int) := ⟨_, rfl⟩
    rw [← hdv] at KO hcpu
    clear hA hdv hres hx hw hl h5 hbl hbp
    cases dv with
    | true =>
      have hca : x.t j = (a : Int) := by rw [if_pos rfl] at hcpu; exact hcpu
      clear hcpu
      go_enter Try.func15, Try.ntmps15
      go_upto_region 1 with fail
      obtain ⟨u0, hu⟩ : ∃ u0, (w.alloc (.cells x.cells.toArray 26)).alloc (.cells zK.cells.toArray 26) = u0 := ⟨_, rfl⟩
      rw [hu] at b3 b6 lw
      have hu2 : (w.alloc (.cells x.cells.toArray 26)).alloc (.cells #[.int .i64 0, .int .u32 0, .int .u32 0, .int .u32 0, .int .u32 0, .int .u32 0, .int .u32 0, .int .u32 0, .int .u32 0, .int .i64 0, .int .i64 0, .int .i64 0, .int .i64 0, .int .i64 0] 26) = u0 := hu
      rw [hu2]
      clear hu hu2
      have et := b3.cell (ctl_t x hj)
      rw [hca] at et
      clear hca
      have e1 := b3.cell (ctl_r x ha4)
      have f1 := b3.frz (1 + a)
      cases hb : hasB (x.r a) j with
      | true =>
        have hX : x.r a = orB (x.r a) j := by unfold orB; rw [if_pos hb]
        have hY : ({ x with r := upd x.r a (orB (x.r a) j) } : Ctl) = x := by rw [← hX, upd_same]
        replace hY := Lib.hid hY
        rw [hb] at KH
        clear hb hX
        go_upto_region 8 with (first
              | (go_at_call 25; (with_reducible refine (KO.out _).mono ?_); rintro e w1 ⟨rfl, rfl⟩)
              | (go_at_call 33; (with_reducible refine (KH.out _).mono ?_); rintro e w1 ⟨rfl, rfl⟩))
        clear e1 f1
        go_wp2_with (first
          | ((with_reducible refine wpList_load_blk (o := ⟨some 39, .load 26 (.tmp 3), _, _, _, none⟩) rfl _ _ rfl w.heap.size 26 x.cells _ ?_ ?_ Try.underlying26 rfl (ctl_sz _) ?_); rfl; exact b3)
          | ((with_reducible refine wpList_store_abs (o := ⟨none, .store 26 (.tmp 6) (.tmp 39), _, _, _, none⟩) rfl _ _ _ rfl (w.heap.size + 1) 26 zK.cells x.cells ?_ ?_ ?_ ?_ ?_ ?_ ?_); rfl; rfl; exact b6; exact ctl_sz _; rfl; exact ctl_one _; intro w9 b9 o9))
        exact bodyPost_ret (ctl_ret Try.results15 _ _ (w.heap.size + 1) x rfl b9) rfl ⟨by rw [hY.out], Below.only lw o9 (by omega)⟩
      | false =>
        have hX : orB (x.r a) j = x.r a + bt j := by unfold orB; rw [hb]; rfl
        replace hX := Lib.hid hX
        rw [hb] at KH
        clear hb
        go_upto_region 7 with (first
              | (go_at_call 25; (with_reducible refine (KO.out _).mono ?_); rintro e w1 ⟨rfl, rfl⟩)
              | (go_at_call 33; (with_reducible refine (KH.out _).mono ?_); rintro e w1 ⟨rfl, rfl⟩))
        replace b3 := b3.drew
        replace b6 := b6.drew
        replace lw := lw.drew
        replace e1 := b3.cell (ctl_r x ha4)
        replace f1 := b3.frz (1 + a)
        refine wp_region_held_drew (S := fun w' => True) (by kernel_rfl) trivial (fun hHeld => ?_)
        refine wpAnyH_take (i := 0) (oi := ⟨some 29, .move (.tmp 7), _, _, _, none⟩) (v := .int .i64 (a : Int)) rfl (by kernel_rfl) (by kernel_rfl) (by kernel_rfl) (fun _ _ _ h => h) (Or.inl ⟨by rfl, fun _ _ => rfl⟩) hHeld ?_
        simp only [Act.put, List.setIfInBounds_toArray, List.set_cons_zero, List.set_cons_succ]
        refine wpAnyH_take (i := 1) (oi := ⟨some 30, .move (.tmp 7), _, _, _, none⟩) (v := .int .i64 (a : Int)) rfl (by kernel_rfl) (by kernel_rfl) (by kernel_rfl) (fun _ _ _ h => h) (Or.inl ⟨by rfl, fun _ _ => rfl⟩) hHeld ?_
        simp only [Act.put, List.setIfInBounds_toArray, List.set_cons_zero, List.set_cons_succ]
        refine wpAnyH_take (i := 2) (oi := ⟨some 31, .fieldAddr 26 (.tmp 3) 1, _, _, _, none⟩) (v := .pointer (some ⟨w.heap.size, 1, none⟩)) rfl (by kernel_rfl) (by kernel_rfl) (by kernel_rfl) (fun _ _ _ h => h) (Or.inl ⟨by rfl, fun w _ => by go_simp⟩) hHeld ?_
        simp only [Act.put, List.setIfInBounds_toArray, List.set_cons_zero, List.set_cons_succ]
        refine wpAnyH_take (i := 3) (oi := ⟨some 32, .indexAddr 23 (.tmp 31) (.tmp 30), _, _, _, none⟩) (v := .pointer (some ⟨w.heap.size, 1 + a, none⟩)) rfl (by kernel_rfl) (by kernel_rfl) (by kernel_rfl) (fun _ _ _ h => h) (Or.inl ⟨by rfl, fun w _ => by go_simp⟩) hHeld ?_
        simp only [Act.put, List.setIfInBounds_toArray, List.set_cons_zero, List.set_cons_succ]
        refine wpAnyH_take (i := 5) (oi := ⟨some 34, .move (.tmp 1), _, _, _, none⟩) (v := .int .i64 (j : Int)) rfl (by kernel_rfl) (by kernel_rfl) (by kernel_rfl) (fun _ _ _ h => h) (Or.inl ⟨by rfl, fun _ _ => rfl⟩) hHeld ?_
        simp only [Act.put, List.setIfInBounds_toArray, List.set_cons_zero, List.set_cons_succ]
        refine wpAnyH_take (i := 8) (oi := ⟨some 37, .fieldAddr 26 (.tmp 3) 1, _, _, _, none⟩) (v := .pointer (some ⟨w.heap.size, 1, none⟩)) rfl (by kernel_rfl) (by kernel_rfl) (by kernel_rfl) (fun _ _ _ h => h) (Or.inl ⟨by rfl, fun w _ => by go_simp⟩) hHeld ?_
        simp only [Act.put, List.setIfInBounds_toArray, List.set_cons_zero, List.set_cons_succ]
        refine wpAnyH_ready (rs := [4, 6]) (by kernel_rfl) (by simp) (AllReadyH.cons (o := ⟨some 33, .load 22 (.tmp 32), _, _, _, none⟩) rfl (fun K' hK => ?_) (AllReadyH.cons (o := ⟨some 35, .call { callee := .value (.func 34), args := #[.tmp 34], argTypes := #[3] }, _, _, _, none⟩) rfl (fun K' hK => ?_) AllReadyH.nil))
        · go_simp
          refine hK.out _ _ trivial (fun hHeld => ?_)
          clear hK K'
          try simp only [Act.put, List.setIfInBounds_toArray, List.set_cons_zero, List.set_cons_succ]
          refine wpAnyH_ready (rs := [6]) (by kernel_rfl) (by simp) (AllReadyH.cons (o := ⟨some 35, .call { callee := .value (.func 34), args := #[.tmp 34], argTypes := #[3] }, _, _, _, none⟩) rfl (fun K' hK => ?_) AllReadyH.nil)
          go_simp
          refine (KB.out _).mono ?_
          rintro e v1 ⟨rfl, rfl⟩
          refine hK.out _ _ trivial (fun hHeld => ?_)
          clear hK K'
          try simp only [Act.put, List.setIfInBounds_toArray, List.set_cons_zero, List.set_cons_succ]
          refine wpAnyH_take (i := 7) (oi := ⟨some 36, .binOp .add 22 (.tmp 33) (.tmp 35) 22, _, _, _, none⟩) (v := .int .u32 (x.r a + bt j)) rfl (by kernel_rfl) (by kernel_rfl) (by kernel_rfl) (fun _ _ _ h => h) (Or.inl ⟨by rfl, fun w _ => by go_simp⟩) hHeld ?_
          simp only [Act.put, List.setIfInBounds_toArray, List.set_cons_zero, List.set_cons_succ]
          refine wpAnyH_take (i := 9) (oi := ⟨some 38, .indexAddr 23 (.tmp 37) (.tmp 29), _, _, _, none⟩) (v := .pointer (some ⟨w.heap.size, 1 + a, none⟩)) rfl (by kernel_rfl) (by kernel_rfl) (by kernel_rfl) (fun _ _ _ h => h) (Or.inl ⟨by rfl, fun w _ => by go_simp⟩) hHeld ?_
          simp only [Act.put, List.setIfInBounds_toArray, List.set_cons_zero, List.set_cons_succ]
          refine wpAnyH_ready (rs := [10]) (by kernel_rfl) (by simp) (AllReadyH.cons (o := ⟨none, .store 22 (.tmp 38) (.tmp 36), _, _, _, none⟩) rfl (fun K' hK => ?_) AllReadyH.nil)
          go_simp
          replace b3 : Blk _ w.heap.size 26 ({ x with r := upd x.r a (x.r a + bt j) } : Ctl).cells := (by rw [← set_r x ha4]; exact b3.set (1 + a) (.int .u32 (x.r a + bt j)))
          replace b6 := b6.set_other ⟨w.heap.size, 1 + a, none⟩ (.int .u32 (x.r a + bt j)) (by first | (simp; done) | (simp; omega))
          replace lw := lw.setCell (p := ⟨w.heap.size, 1 + a, none⟩) (Nat.le_refl _) (.int .u32 (x.r a + bt j))
          refine hK.out _ _ trivial (fun hHeld => ?_)
          clear hK K'
          try simp only [Act.put]
          refine wpAnyH_done (by kernel_rfl) ?_ _
          clear hHeld
          clear e1 f1
          go_wp2_with (first
            | ((with_reducible refine wpList_load_blk (o := ⟨some 39, .load 26 (.tmp 3), _, _, _, none⟩) rfl _ _ rfl w.heap.size 26 { x with r := upd x.r a (x.r a + bt j) }.cells _ ?_ ?_ Try.underlying26 rfl (ctl_sz _) ?_); rfl; exact b3)
            | ((with_reducible refine wpList_store_abs (o := ⟨none, .store 26 (.tmp 6) (.tmp 39), _, _, _, none⟩) rfl _ _ _ rfl (w.heap.size + 1) 26 zK.cells { x with r := upd x.r a (x.r a + bt j) }.cells ?_ ?_ ?_ ?_ ?_ ?_ ?_); rfl; rfl; exact b6; exact ctl_sz _; rfl; exact ctl_one _; intro w9 b9 o9))
          exact bodyPost_ret (ctl_ret Try.results15 _ _ (w.heap.size + 1) { x with r := upd x.r a (x.r a + bt j) } rfl b9) rfl ⟨by rw [hX.out], Below.only lw o9 (by omega)⟩
        · go_simp
          refine (KB.out _).mono ?_
          rintro e v1 ⟨rfl, rfl⟩
          refine hK.out _ _ trivial (fun hHeld => ?_)
          clear hK K'
          try simp only [Act.put, List.setIfInBounds_toArray, List.set_cons_zero, List.set_cons_succ]
          refine wpAnyH_ready (rs := [4]) (by kernel_rfl) (by simp) (AllReadyH.cons (o := ⟨some 33, .load 22 (.tmp 32), _, _, _, none⟩) rfl (fun K' hK => ?_) AllReadyH.nil)
          go_simp
          refine hK.out _ _ trivial (fun hHeld => ?_)
          clear hK K'
          try simp only [Act.put, List.setIfInBounds_toArray, List.set_cons_zero, List.set_cons_succ]
          refine wpAnyH_take (i := 7) (oi := ⟨some 36, .binOp .add 22 (.tmp 33) (.tmp 35) 22, _, _, _, none⟩) (v := .int .u32 (x.r a + bt j)) rfl (by kernel_rfl) (by kernel_rfl) (by kernel_rfl) (fun _ _ _ h => h) (Or.inl ⟨by rfl, fun w _ => by go_simp⟩) hHeld ?_
          simp only [Act.put, List.setIfInBounds_toArray, List.set_cons_zero, List.set_cons_succ]
          refine wpAnyH_take (i := 9) (oi := ⟨some 38, .indexAddr 23 (.tmp 37) (.tmp 29), _, _, _, none⟩) (v := .pointer (some ⟨w.heap.size, 1 + a, none⟩)) rfl (by kernel_rfl) (by kernel_rfl) (by kernel_rfl) (fun _ _ _ h => h) (Or.inl ⟨by rfl, fun w _ => by go_simp⟩) hHeld ?_
          simp only [Act.put, List.setIfInBounds_toArray, List.set_cons_zero, List.set_cons_succ]
          refine wpAnyH_ready (rs := [10]) (by kernel_rfl) (by simp) (AllReadyH.cons (o := ⟨none, .store 22 (.tmp 38) (.tmp 36), _, _, _, none⟩) rfl (fun K' hK => ?_) AllReadyH.nil)
          go_simp
          replace b3 : Blk _ w.heap.size 26 ({ x with r := upd x.r a (x.r a + bt j) } : Ctl).cells := (by rw [← set_r x ha4]; exact b3.set (1 + a) (.int .u32 (x.r a + bt j)))
          replace b6 := b6.set_other ⟨w.heap.size, 1 + a, none⟩ (.int .u32 (x.r a + bt j)) (by first | (simp; done) | (simp; omega))
          replace lw := lw.setCell (p := ⟨w.heap.size, 1 + a, none⟩) (Nat.le_refl _) (.int .u32 (x.r a + bt j))
          refine hK.out _ _ trivial (fun hHeld => ?_)
          clear hK K'
          try simp only [Act.put]
          refine wpAnyH_done (by kernel_rfl) ?_ _
          clear hHeld
          clear e1 f1
          go_wp2_with (first
            | ((with_reducible refine wpList_load_blk (o := ⟨some 39, .load 26 (.tmp 3), _, _, _, none⟩) rfl _ _ rfl w.heap.size 26 { x with r := upd x.r a (x.r a + bt j) }.cells _ ?_ ?_ Try.underlying26 rfl (ctl_sz _) ?_); rfl; exact b3)
            | ((with_reducible refine wpList_store_abs (o := ⟨none, .store 26 (.tmp 6) (.tmp 39), _, _, _, none⟩) rfl _ _ _ rfl (w.heap.size + 1) 26 zK.cells { x with r := upd x.r a (x.r a + bt j) }.cells ?_ ?_ ?_ ?_ ?_ ?_ ?_); rfl; rfl; exact b6; exact ctl_sz _; rfl; exact ctl_one _; intro w9 b9 o9))
          exact bodyPost_ret (ctl_ret Try.results15 _ _ (w.heap.size + 1) { x with r := upd x.r a (x.r a + bt j) } rfl b9) rfl ⟨by rw [hX.out], Below.only lw o9 (by omega)⟩
    | false =>
      have hca : k = a := by rw [if_neg (by decide)] at hcpu; omega
      subst hca
      clear hcpu
      go_enter Try.func15, Try.ntmps15
      go_upto_region 1 with fail
      obtain ⟨u0, hu⟩ : ∃ u0, (w.alloc (.cells x.cells.toArray 26)).alloc (.cells zK.cells.toArray 26) = u0 := ⟨_, rfl⟩
      rw [hu] at b3 b6 lw
      have hu2 : (w.alloc (.cells x.cells.toArray 26)).alloc (.cells #[.int .i64 0, .int .u32 0, .int .u32 0, .int .u32 0, .int .u32 0, .int .u32 0, .int .u32 0, .int .u32 0, .int .u32 0, .int .i64 0, .int .i64 0, .int .i64 0, .int .i64 0, .int .i64 0] 26) = u0 := hu
      rw [hu2]
      clear hu hu2
      have e1 := b3.cell (ctl_r x ha4)
      have f1 := b3.frz (1 + k)
      cases hb : hasB (x.r k) j with
      | true =>
        have hX : x.r k = orB (x.r k) j := by unfold orB; rw [if_pos hb]
        have hY : ({ x with r := upd x.r k (orB (x.r k) j) } : Ctl) = x := by rw [← hX, upd_same]
        replace hY := Lib.hid hY
        rw [hb] at KH
        clear hb hX
        go_upto_region 8 with (first
              | (go_at_call 25; (with_reducible refine (KO.out _).mono ?_); rintro e w1 ⟨rfl, rfl⟩)
              | (go_at_call 33; (with_reducible refine (KH.out _).mono ?_); rintro e w1 ⟨rfl, rfl⟩))
        clear e1 f1
        go_wp2_with (first
          | ((with_reducible refine wpList_load_blk (o := ⟨some 39, .load 26 (.tmp 3), _, _, _, none⟩) rfl _ _ rfl w.heap.size 26 x.cells _ ?_ ?_ Try.underlying26 rfl (ctl_sz _) ?_); rfl; exact b3)
          | ((with_reducible refine wpList_store_abs (o := ⟨none, .store 26 (.tmp 6) (.tmp 39), _, _, _, none⟩) rfl _ _ _ rfl (w.heap.size + 1) 26 zK.cells x.cells ?_ ?_ ?_ ?_ ?_ ?_ ?_); rfl; rfl; exact b6; exact ctl_sz _; rfl; exact ctl_one _; intro w9 b9 o9))
        exact bodyPost_ret (ctl_ret Try.results15 _ _ (w.heap.size + 1) x rfl b9) rfl ⟨by rw [hY.out], Below.only lw o9 (by omega)⟩
      | false =>
        have hX : orB (x.r k) j = x.r k + bt j := by unfold orB; rw [hb]; rfl
        replace hX := Lib.hid hX
        rw [hb] at KH
        clear hb
        go_upto_region 7 with (first
              | (go_at_call 25; (with_reducible refine (KO.out _).mono ?_); rintro e w1 ⟨rfl, rfl⟩)
              | (go_at_call 33; (with_reducible refine (KH.out _).mono ?_); rintro e w1 ⟨rfl, rfl⟩))
        replace b3 := b3.drew
        replace b6 := b6.drew
        replace lw := lw.drew
        replace e1 := b3.cell (ctl_r x ha4)
        replace f1 := b3.frz (1 + k)
        refine wp_region_held_drew (S := fun w' => True) (by kernel_rfl) trivial (fun hHeld => ?_)
        refine wpAnyH_take (i := 0) (oi := ⟨some 29, .move (.tmp 7), _, _, _, none⟩) (v := .int .i64 (k : Int)) rfl (by kernel_rfl) (by kernel_rfl) (by kernel_rfl) (fun _ _ _ h => h) (Or.inl ⟨by rfl, fun _ _ => rfl⟩) hHeld ?_
        simp only [Act.put, List.setIfInBounds_toArray, List.set_cons_zero, List.set_cons_succ]
        refine wpAnyH_take (i := 1) (oi := ⟨some 30, .move (.tmp 7), _, _, _, none⟩) (v := .int .i64 (k : Int)) rfl (by kernel_rfl) (by kernel_rfl) (by kernel_rfl) (fun _ _ _ h => h) (Or.inl ⟨by rfl, fun _ _ => rfl⟩) hHeld ?_
        simp only [Act.put, List.setIfInBounds_toArray, List.set_cons_zero, List.set_cons_succ]
        refine wpAnyH_take (i := 2) (oi := ⟨some 31, .fieldAddr 26 (.tmp 3) 1, _, _, _, none⟩) (v := .pointer (some ⟨w.heap.size, 1, none⟩)) rfl (by kernel_rfl) (by kernel_rfl) (by kernel_rfl) (fun _ _ _ h => h) (Or.inl ⟨by rfl, fun w _ => by go_simp⟩) hHeld ?_
        simp only [Act.put, List.setIfInBounds_toArray, List.set_cons_zero, List.set_cons_succ]
        refine wpAnyH_take (i := 3) (oi := ⟨some 32, .indexAddr 23 (.tmp 31) (.tmp 30), _, _, _, none⟩) (v := .pointer (some ⟨w.heap.size, 1 + k, none⟩)) rfl (by kernel_rfl) (by kernel_rfl) (by kernel_rfl) (fun _ _ _ h => h) (Or.inl ⟨by rfl, fun w _ => by go_simp⟩) hHeld ?_
        simp only [Act.put, List.setIfInBounds_toArray, List.set_cons_zero, List.set_cons_succ]
        refine wpAnyH_take (i := 5) (oi := ⟨some 34, .move (.tmp 1), _, _, _, none⟩) (v := .int .i64 (j : Int)) rfl (by kernel_rfl) (by kernel_rfl) (by kernel_rfl) (fun _ _ _ h => h) (Or.inl ⟨by rfl, fun _ _ => rfl⟩) hHeld ?_
        simp only [Act.put, List.setIfInBounds_toArray, List.set_cons_zero, List.set_cons_succ]
        refine wpAnyH_take (i := 8) (oi := ⟨some 37, .fieldAddr 26 (.tmp 3) 1, _, _, _, none⟩) (v := .pointer (some ⟨w.heap.size, 1, none⟩)) rfl (by kernel_rfl) (by kernel_rfl) (by kernel_rfl) (fun _ _ _ h => h) (Or.inl ⟨by rfl, fun w _ => by go_simp⟩) hHeld ?_
        simp only [Act.put, List.setIfInBounds_toArray, List.set_cons_zero, List.set_cons_succ]
        refine wpAnyH_ready (rs := [4, 6]) (by kernel_rfl) (by simp) (AllReadyH.cons (o := ⟨some 33, .load 22 (.tmp 32), _, _, _, none⟩) rfl (fun K' hK => ?_) (AllReadyH.cons (o := ⟨some 35, .call { callee := .value (.func 34), args := #[.tmp 34], argTypes := #[3] }, _, _, _, none⟩) rfl (fun K' hK => ?_) AllReadyH.nil))
        · go_simp
          refine hK.out _ _ trivial (fun hHeld => ?_)
          clear hK K'
          try simp only [Act.put, List.setIfInBounds_toArray, List.set_cons_zero, List.set_cons_succ]
          refine wpAnyH_ready (rs := [6]) (by kernel_rfl) (by simp) (AllReadyH.cons (o := ⟨some 35, .call { callee := .value (.func 34), args := #[.tmp 34], argTypes := #[3] }, _, _, _, none⟩) rfl (fun K' hK => ?_) AllReadyH.nil)
          go_simp
          refine (KB.out _).mono ?_
          rintro e v1 ⟨rfl, rfl⟩
          refine hK.out _ _ trivial (fun hHeld => ?_)
          clear hK K'
          try simp only [Act.put, List.setIfInBounds_toArray, List.set_cons_zero, List.set_cons_succ]
          refine wpAnyH_take (i := 7) (oi := ⟨some 36, .binOp .add 22 (.tmp 33) (.tmp 35) 22, _, _, _, none⟩) (v := .int .u32 (x.r k + bt j)) rfl (by kernel_rfl) (by kernel_rfl) (by kernel_rfl) (fun _ _ _ h => h) (Or.inl ⟨by rfl, fun w _ => by go_simp⟩) hHeld ?_
          simp only [Act.put, List.setIfInBounds_toArray, List.set_cons_zero, List.set_cons_succ]
          refine wpAnyH_take (i := 9) (oi := ⟨some 38, .indexAddr 23 (.tmp 37) (.tmp 29), _, _, _, none⟩) (v := .pointer (some ⟨w.heap.size, 1 + k, none⟩)) rfl (by kernel_rfl) (by kernel_rfl) (by kernel_rfl) (fun _ _ _ h => h) (Or.inl ⟨by rfl, fun w _ => by go_simp⟩) hHeld ?_
          simp only [Act.put, List.setIfInBounds_toArray, List.set_cons_zero, List.set_cons_succ]
          refine wpAnyH_ready (rs := [10]) (by kernel_rfl) (by simp) (AllReadyH.cons (o := ⟨none, .store 22 (.tmp 38) (.tmp 36), _, _, _, none⟩) rfl (fun K' hK => ?_) AllReadyH.nil)
          go_simp
          replace b3 : Blk _ w.heap.size 26 ({ x with r := upd x.r k (x.r k + bt j) } : Ctl).cells := (by rw [← set_r x ha4]; exact b3.set (1 + k) (.int .u32 (x.r k + bt j)))
          replace b6 := b6.set_other ⟨w.heap.size, 1 + k, none⟩ (.int .u32 (x.r k + bt j)) (by first | (simp; done) | (simp; omega))
          replace lw := lw.setCell (p := ⟨w.heap.size, 1 + k, none⟩) (Nat.le_refl _) (.int .u32 (x.r k + bt j))
          refine hK.out _ _ trivial (fun hHeld => ?_)
          clear hK K'
          try simp only [Act.put]
          refine wpAnyH_done (by kernel_rfl) ?_ _
          clear hHeld
          clear e1 f1
          go_wp2_with (first
            | ((with_reducible refine wpList_load_blk (o := ⟨some 39, .load 26 (.tmp 3), _, _, _, none⟩) rfl _ _ rfl w.heap.size 26 { x with r := upd x.r k (x.r k + bt j) }.cells _ ?_ ?_ Try.underlying26 rfl (ctl_sz _) ?_); rfl; exact b3)
            | ((with_reducible refine wpList_store_abs (o := ⟨none, .store 26 (.tmp 6) (.tmp 39), _, _, _, none⟩) rfl _ _ _ rfl (w.heap.size + 1) 26 zK.cells { x with r := upd x.r k (x.r k + bt j) }.cells ?_ ?_ ?_ ?_ ?_ ?_ ?_); rfl; rfl; exact b6; exact ctl_sz _; rfl; exact ctl_one _; intro w9 b9 o9))
          exact bodyPost_ret (ctl_ret Try.results15 _ _ (w.heap.size + 1) { x with r := upd x.r k (x.r k + bt j) } rfl b9) rfl ⟨by rw [hX.out], Below.only lw o9 (by omega)⟩
        · go_simp
          refine (KB.out _).mono ?_
          rintro e v1 ⟨rfl, rfl⟩
          refine hK.out _ _ trivial (fun hHeld => ?_)
          clear hK K'
          try simp only [Act.put, List.setIfInBounds_toArray, List.set_cons_zero, List.set_cons_succ]
          refine wpAnyH_ready (rs := [4]) (by kernel_rfl) (by simp) (AllReadyH.cons (o := ⟨some 33, .load 22 (.tmp 32), _, _, _, none⟩) rfl (fun K' hK => ?_) AllReadyH.nil)
          go_simp
          refine hK.out _ _ trivial (fun hHeld => ?_)
          clear hK K'
          try simp only [Act.put, List.setIfInBounds_toArray, List.set_cons_zero, List.set_cons_succ]
          refine wpAnyH_take (i := 7) (oi := ⟨some 36, .binOp .add 22 (.tmp 33) (.tmp 35) 22, _, _, _, none⟩) (v := .int .u32 (x.r k + bt j)) rfl (by kernel_rfl) (by kernel_rfl) (by kernel_rfl) (fun _ _ _ h => h) (Or.inl ⟨by rfl, fun w _ => by go_simp⟩) hHeld ?_
          simp only [Act.put, List.setIfInBounds_toArray, List.set_cons_zero, List.set_cons_succ]
          refine wpAnyH_take (i := 9) (oi := ⟨some 38, .indexAddr 23 (.tmp 37) (.tmp 29), _, _, _, none⟩) (v := .pointer (some ⟨w.heap.size, 1 + k, none⟩)) rfl (by kernel_rfl) (by kernel_rfl) (by kernel_rfl) (fun _ _ _ h => h) (Or.inl ⟨by rfl, fun w _ => by go_simp⟩) hHeld ?_
          simp only [Act.put, List.setIfInBounds_toArray, List.set_cons_zero, List.set_cons_succ]
          refine wpAnyH_ready (rs := [10]) (by kernel_rfl) (by simp) (AllReadyH.cons (o := ⟨none, .store 22 (.tmp 38) (.tmp 36), _, _, _, none⟩) rfl (fun K' hK => ?_) AllReadyH.nil)
          go_simp
          replace b3 : Blk _ w.heap.size 26 ({ x with r := upd x.r k (x.r k + bt j) } : Ctl).cells := (by rw [← set_r x ha4]; exact b3.set (1 + k) (.int .u32 (x.r k + bt j)))
          replace b6 := b6.set_other ⟨w.heap.size, 1 + k, none⟩ (.int .u32 (x.r k + bt j)) (by first | (simp; done) | (simp; omega))
          replace lw := lw.setCell (p := ⟨w.heap.size, 1 + k, none⟩) (Nat.le_refl _) (.int .u32 (x.r k + bt j))
          refine hK.out _ _ trivial (fun hHeld => ?_)
          clear hK K'
          try simp only [Act.put]
          refine wpAnyH_done (by kernel_rfl) ?_ _
          clear hHeld
          clear e1 f1
          go_wp2_with (first
            | ((with_reducible refine wpList_load_blk (o := ⟨some 39, .load 26 (.tmp 3), _, _, _, none⟩) rfl _ _ rfl w.heap.size 26 { x with r := upd x.r k (x.r k + bt j) }.cells _ ?_ ?_ Try.underlying26 rfl (ctl_sz _) ?_); rfl; exact b3)
            | ((with_reducible refine wpList_store_abs (o := ⟨none, .store 26 (.tmp 6) (.tmp 39), _, _, _, none⟩) rfl _ _ _ rfl (w.heap.size + 1) 26 zK.cells { x with r := upd x.r k (x.r k + bt j) }.cells ?_ ?_ ?_ ?_ ?_ ?_ ?_); rfl; rfl; exact b6; exact ctl_sz _; rfl; exact ctl_one _; intro w9 b9 o9))
          exact bodyPost_ret (ctl_ret Try.results15 _ _ (w.heap.size + 1) { x with r := upd x.r k (x.r k + bt j) } rfl b9) rfl ⟨by rw [hX.out], Below.only lw o9 (by omega)⟩
  · have hres : x.raise l k = x := if_neg hl
    rw [hres]
    clear hres hx hw
    by_cases h0 : l < 0
    · have d0 : decide (l < 0) = true := decide_eq_true h0
      go_enter Try.func15, Try.ntmps15
      go_upto_region 1 with fail
      obtain ⟨u0, hu⟩ : ∃ u0, (w.alloc (.cells x.cells.toArray 26)).alloc (.cells zK.cells.toArray 26) = u0 := ⟨_, rfl⟩
      rw [hu] at b3 b6 lw
      have hu2 : (w.alloc (.cells x.cells.toArray 26)).alloc (.cells #[.int .i64 0, .int .u32 0, .int .u32 0, .int .u32 0, .int .u32 0, .int .u32 0, .int .u32 0, .int .u32 0, .int .u32 0, .int .i64 0, .int .i64 0, .int .i64 0, .int .i64 0, .int .i64 0] 26) = u0 := hu
      rw [hu2]
      clear hu hu2
      go_wp2_with (first
        | ((with_reducible refine wpList_load_blk (o := ⟨some 14, .load 26 (.tmp 3), _, _, _, none⟩) rfl _ _ rfl w.heap.size 26 x.cells _ ?_ ?_ Try.underlying26 rfl (ctl_sz _) ?_); rfl; exact b3)
        | ((with_reducible refine wpList_store_abs (o := ⟨none, .store 26 (.tmp 6) (.tmp 14), _, _, _, none⟩) rfl _ _ _ rfl (w.heap.size + 1) 26 zK.cells x.cells ?_ ?_ ?_ ?_ ?_ ?_ ?_); rfl; rfl; exact b6; exact ctl_sz _; rfl; exact ctl_one _; intro w9 b9 o9))
      exact bodyPost_ret (ctl_ret Try.results15 _ _ (w.heap.size + 1) x rfl b9) rfl ⟨rfl, Below.only lw o9 (by omega)⟩
    · have d0 : decide (l < 0) = false := decide_eq_false h0
      have d5 : decide (5 ≤ l) = true := decide_eq_true (by omega)
      go_enter Try.func15, Try.ntmps15
      go_upto_region 1 with fail
      obtain ⟨u0, hu⟩ : ∃ u0, (w.alloc (.cells x.cells.toArray 26)).alloc (.cells zK.cells.toArray 26) = u0 := ⟨_, rfl⟩
      rw [hu] at b3 b6 lw
      have hu2 : (w.alloc (.cells x.cells.toArray 26)).alloc (.cells #[.int .i64 0, .int .u32 0, .int .u32 0, .int .u32 0, .int .u32 0, .int .u32 0, .int .u32 0, .int .u32 0, .int .u32 0, .int .i64 0, .int .i64 0, .int .i64 0, .int .i64 0, .int .i64 0] 26) = u0 := hu
      rw [hu2]
      clear hu hu2
      go_wp2_with (first
        | ((with_reducible refine wpList_load_blk (o := ⟨some 14, .load 26 (.tmp 3), _, _, _, none⟩) rfl _ _ rfl w.heap.size 26 x.cells _ ?_ ?_ Try.underlying26 rfl (ctl_sz _) ?_); rfl; exact b3)
        | ((with_reducible refine wpList_store_abs (o := ⟨none, .store 26 (.tmp 6) (.tmp 14), _, _, _, none⟩) rfl _ _ _ rfl (w.heap.size + 1) 26 zK.cells x.cells ?_ ?_ ?_ ?_ ?_ ?_ ?_); rfl; rfl; exact b6; exact ctl_sz _; rfl; exact ctl_one _; intro w9 b9 o9))
      exact bodyPost_ret (ctl_ret Try.results15 _ _ (w.heap.size + 1) x rfl b9) rfl ⟨rfl, Below.only lw o9 (by omega)⟩
set_option maxRecDepth 100000 in
set_option maxHeartbeats 1000000 in
theorem rpending_any (x : Ctl) (k : Nat) (w : World) (hx : x.Ok) (hw : x.wf) (hk : (k : Int) < x.n) : Calls Try.prog 17 #[.agg x.cells.toArray, .int .i64 (k : Int)] w fun e w' => e = .returned (.int .u32 (x.pend k)) ∧ Later w w' := by
  have hn4 := hx.n4
  have h4 : k < 4 := by omega
  have hk4 : (k : Int) < 4 := by omega
  have hk0 : (0 : Int) ≤ k := by omega
  have b2 := Blk.new w 26 x.cells.toArray x.cells rfl
  have lw := later1 w (.cells x.cells.toArray 26)
  obtain ⟨u0, hu⟩ : ∃ u0, w.alloc (.cells x.cells.toArray 26) = u0 := ⟨_, rfl⟩
  rw [hu] at b2 lw
  have KR := Lib.hid fun (j : Nat) (hj : j < 5) w' => rhas_any (x.r k) j w' (hx.r5 hw h4) hj
  have KM := Lib.hid fun (j : Nat) (hj : j < 5) w' => rhas_any (x.m k) j w' (hx.m5 hw h4) hj
  have hp : x.pend k = pendTo (x.r k) (x.m k) 5 := rfl
  rw [hp]
  have e1 := b2.cell (ctl_r x h4)
  have e2 := b2.cell (ctl_m x h4)
  generalize x.r k = r at KR e1 ⊢
  generalize x.m k = m at KM e2 ⊢
  clear hp hx hw b2 hn4
  go_enter Try.func17, Try.ntmps17
  go_upto_region 1 with fail
  clear hu
  go_wp2
  go_loopw [6, 5] (fun i v wr => ∃ j : Nat, j ≤ 5 ∧ i = .int .i64 j ∧ v = .int .u32 (pendTo r m j) ∧ wr = u0) (fun i _ _ => 5 - (intOf i).toNat)
  case atStart => exact ⟨0, by omega, rfl, rfl, rfl⟩
  case round =>
    obtain ⟨j, hj, rfl, rfl, rfl⟩ := hrel
    by_cases hlt : j < 5
    · have hj5 : (j : Int) < 5 := by omega
      have KR1 := Lib.hid fun w' => KR.out j hlt w'
      have KM1 := Lib.hid fun w' => KM.out j hlt w'
      have KB := Lib.hid fun w' => rbit_any j w' hlt
      have hs := pend_small r m (show j ≤ 5 by omega)
      have hb := bt_le (show j ≤ 5 by omega)
      have hbp := bt_pos j
      have hsum : IntKind.u32.wrap (pendTo r m j + bt j) = pendTo r m j + bt j := by rw [IntKind.wrap_u32]; omega
      have hsum2 : (pendTo r m j + bt j) % 4294967296 = pendTo r m j + bt j := by omega
      have hN : pendTo r m (j + 1) = if hasB r j && hasB m j then pendTo r m j + bt j else pendTo r m j := rfl
      clear hs hb hbp
      obtain ⟨q, hq⟩ : ∃ q, q = pendTo r m j := ⟨_, rfl⟩
      obtain ⟨z, hz⟩ : ∃ z, z = pendTo r m (j + 1) := ⟨_, rfl⟩
      rw [← hq, ← hz] at hN
      rw [← hq] at hsum hsum2 ⊢
      have HZ := Lib.hid hz
      clear hq hz
      cases h1 : hasB r j with
      | true =>
        cases h2 : hasB m j with
        | true =>
          rw [h1] at KR1 hN
          rw [h2] at KM1 hN
          replace hN := Lib.hid (show z = q + bt j from hN)
          clear h1 h2
          go_wp2_with (first
            | (go_at_call 33; (with_reducible refine (KR1.out _).mono ?_); rintro e w1 ⟨rfl, rfl⟩)
            | (go_at_call 33; (with_reducible refine (KM1.out _).mono ?_); rintro e w1 ⟨rfl, rfl⟩)
            | (go_at_call 34; (with_reducible refine (KB.out _).mono ?_); rintro e w1 ⟨rfl, rfl⟩))
          go_roundw
          case rel => exact ⟨j + 1, by omega, by go_num, by rw [← HZ.out, hN.out], trivial⟩
          case measure => simp [intOf]; omega
        | false =>
          rw [h1] at KR1 hN
          rw [h2] at KM1 hN
          replace hN := Lib.hid (show z = q from hN)
          clear h1 h2
          go_wp2_with (first
            | (go_at_call 33; (with_reducible refine (KR1.out _).mono ?_); rintro e w1 ⟨rfl, rfl⟩)
            | (go_at_call 33; (with_reducible refine (KM1.out _).mono ?_); rintro e w1 ⟨rfl, rfl⟩))
          go_roundw
          case rel => exact ⟨j + 1, by omega, by go_num, by rw [← HZ.out, hN.out], trivial⟩
          case measure => simp [intOf]; omega
      | false =>
        rw [h1] at KR1 hN
        replace hN := Lib.hid (show z = q from hN)
        clear h1
        go_wp2_with (go_at_call 33; (with_reducible refine (KR1.out _).mono ?_); rintro e w1 ⟨rfl, rfl⟩)
        go_roundw
        case rel => exact ⟨j + 1, by omega, by go_num, by rw [← HZ.out, hN.out], trivial⟩
        case measure => simp [intOf]; omega
    · obtain rfl : j = 5 := by omega
      clear hlt hj
      go_wp2
      go_ret
      exact ⟨rfl, lw⟩
end Go.Proofs.Ytkpigonlnabmdab
