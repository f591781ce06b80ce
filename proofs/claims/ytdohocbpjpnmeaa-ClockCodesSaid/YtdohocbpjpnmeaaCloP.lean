/-
  A CLOCK: the reference's Encode.
-/
import Derived.Test.YtdohocbpjpnmeaaCloO
import Derived.Deep.RegionHeld
namespace Go.Proofs.Ytdohocbpjpnmeaa
open Go.RowKit Go.ChangeShapes Go.WideShapes Go.ChangeAt

theorem wp_app {P : Program} (w : World) {o : Oper} {a : Act} {K : Act → World → Prop} {Q : Exit → Act → World → Prop} (s x : Operand) (t : TypeId)
    (ho : o.op = .call { callee := .builtin .append, args := #[s, x], argTypes := #[t, t] })
    (base : Nat) (e : TypeId) (i : TypeInfo) (z : Value) (size bytes : Nat) (ht : P.underlying t = some (.slice e)) (hi : P.info? e = some i) (hz : i.zero = some z)
    (hsize : i.size = size) (hby : i.bytes = bytes) (hzs : z.cells.size = size) (hsz : 0 < size)
    (v : Value) (n : Nat) (xs : List Value) (hsv : a.eval s = v) (hown : w.ownsRow base e size v n xs)
    (A : Option Addr) (m c : Nat) (news : List Value) (hx : a.eval x = .slice A m c) (hs : Sl w size A m news) (h1 : ∀ u ∈ news, u.oneCell' = true)
    (h63 : n + m ≤ maxLen) (hbytes : (n + m) * bytes ≤ 140737488355328) (hbase : base ≤ w.heap.size)
    (h : ∀ v' w', w'.ownsRow base e size v' (n + m) (xs ++ news) → w.grownBy w' v.ownBlock → K (a.put o.dst v') w') : o.wp P a w K Q := by
  obtain ⟨v', w', hr, h2, h3⟩ := run_app (P := P) w base t o.type e i z size bytes ht hi hz hsize hby hzs hsz v n xs hown A m c news hs h1 h63 hbytes hbase
  unfold Oper.wp execOp
  simp only [ho, resolve, invoke, builtin, Sem.run_bind, Sem.run_pure, Result.andThen_ok, List.map_toArray, List.map_cons, List.map_nil, hsv, hx, hr]
  exact h v' w' h2 h3
theorem take_s (x : Clk) {k : Nat} (hk : k < 4) : x.nums.take (1 + (k + 1) * 3) = x.nums.take (1 + k * 3) ++ [ob (x.o k), x.r k, x.a k] := by
  rcases (show k = 0 ∨ k = 1 ∨ k = 2 ∨ k = 3 by omega) with rfl | rfl | rfl | rfl <;> rfl
theorem int_inf : ∃ ie, Try.prog.info? 3 = some ie ∧ ie.size = 1 ∧ ie.zero = some (.int .i64 0) := by
  obtain ⟨ie, h⟩ := Option.isSome_iff_exists.1 (show (Try.prog.info? 3).isSome = true by kernel_rfl)
  have h2 : (Try.prog.info? 3).map (·.size) = some 1 := by kernel_rfl
  have h3 : (Try.prog.info? 3).bind (·.zero) = some (.int .i64 0) := by kernel_rfl
  rw [h] at h2 h3
  exact ⟨ie, h, by simpa using h2, by simpa using h3⟩
theorem run_b3 (a b c : Int) (w : World) : (Instr.buildSlice 68 3 #[(0, .int .i64 a), (1, .int .i64 b), (2, .int .i64 c)]).run Try.prog w = .ok (.slice (some ⟨w.heap.size, 0, none⟩) 3 3) (w.alloc (.cells (N64 [a, b, c]).toArray 3)) := by
  obtain ⟨ie, h1, h2, h3⟩ := int_inf
  refine run_buildSlice w _ _ 3 _ _ ie _ Try.underlying68 h1 h3 (by rw [h2]; decide) (by rw [h2]; decide) ?_
  rw [h2]
  kernel_rfl
set_option maxRecDepth 100000 in
set_option maxHeartbeats 4000000 in
theorem renc_any (x : Clk) (w : World) (hw : x.wf) : Calls Try.prog 28 #[.agg x.cells.toArray] w (GotBs (Wm.encL Wm.encI x.nums) w) := by
  obtain ⟨i0, hi, hz0, hz1, hz2⟩ := info_parts int_info
  have b4 := Blk.new w 25 x.cells.toArray x.cells rfl
  have lz := later1 w (.cells x.cells.toArray 25)
  obtain ⟨u0, hu⟩ : ∃ u0, w.alloc (.cells x.cells.toArray 25) = u0 := ⟨_, rfl⟩
  rw [hu] at b4 lz
  have e0 := b4.cell (clk_l x)
  have HI := Lib.hid fun A c w' (hs : Sl w' 1 A 13 (N64 x.nums)) => refInts_any A 13 c x.nums w' hs (nums_in hw) (by unfold maxLen; omega) (by have := encL_le x.nums (nums_in hw) rfl; omega)
  clear hw
  go_enter Try.func28, Try.ntmps28
  go_upto_region 1 with fail
  clear hu
  go_wp2
  have o2 : (u0.alloc (.cells #[.int .i64 x.l] 3)).ownsRow u0.heap.size 3 1 (.slice (some ⟨u0.heap.size, 0, none⟩) 1 1) (1 + 0 * 3) (N64 (x.nums.take (1 + 0 * 3))) := own_blk (Blk.new u0 3 #[.int .i64 x.l] [.int .i64 x.l] rfl) (Nat.le_refl _) rfl (by unfold maxLen; omega)
  have lw := later1 u0 (.cells #[.int .i64 x.l] 3)
  clear e0
  go_loopw [3, 4] (fun lv i wr => ∃ k : Nat, k ≤ 4 ∧ i = .int .i64 k ∧ wr.ownsRow u0.heap.size 3 1 lv (1 + k * 3) (N64 (x.nums.take (1 + k * 3))) ∧ Later u0 wr) (fun _ i _ => 4 - (intOf i).toNat)
  case atStart => exact ⟨0, by omega, rfl, o2, lw⟩
  case round =>
    clear o2 lw
    obtain ⟨k, hk, rfl, ho, lw⟩ := hrel
    by_cases hlt : k < 4
    · have hkn : (k : Int) < 4 := by omega
      have hk0 : (0 : Int) ≤ k := by omega
      have e2 := (b4.keep lw).cell (clk_o x hlt)
      have HT := Lib.hid (take_s x hlt)
      have HR := Lib.hid (fun (w' : World) (hl : Later u0 w') => (b4.keep hl).cell (clk_r x hlt))
      have HA := Lib.hid (fun (w' : World) (hl : Later u0 w') => (b4.keep hl).cell (clk_a x hlt))
      generalize x.r k = rv at HT HR
      generalize x.a k = av at HT HA
      cases hov : x.o k with
      | true =>
        rw [hov] at e2 HT
        replace HT := Lib.hid (show List.take (1 + (k + 1) * 3) x.nums = List.take (1 + k * 3) x.nums ++ [1, rv, av] from HT.out)
        clear hov
        go_upto_region 8 with fail
        replace ho := (show World.ownsRow wr.drew _ _ _ _ _ _ from ho)
        replace lw := lw.drew
        refine wp_region_held_drew (S := fun w' => w'.cell? ⟨w.heap.size, 5 + k, none⟩ = some (.int .i64 rv) ∧ w'.cell? ⟨w.heap.size, 9 + k, none⟩ = some (.int .i64 av)) (by kernel_rfl) ⟨(HR.out _ lw), (HA.out _ lw)⟩ (fun hHeld => ?_)
        refine wpAnyH_take (i := 0) (oi := ⟨some 17, .move (.tmp 3), _, _, _, none⟩) (v := u3) rfl (by kernel_rfl) (by kernel_rfl) (by kernel_rfl) (fun _ _ _ h => h) (Or.inl ⟨by rfl, fun _ _ => rfl⟩) hHeld ?_
        simp only [Act.put, List.setIfInBounds_toArray, List.set_cons_zero, List.set_cons_succ]
        refine wpAnyH_take (i := 1) (oi := ⟨some 18, .move (.tmp 5), _, _, _, none⟩) (v := .int .i64 1) rfl (by kernel_rfl) (by kernel_rfl) (by kernel_rfl) (fun _ _ _ h => h) (Or.inl ⟨by rfl, fun _ _ => rfl⟩) hHeld ?_
        simp only [Act.put, List.setIfInBounds_toArray, List.set_cons_zero, List.set_cons_succ]
        refine wpAnyH_take (i := 2) (oi := ⟨some 19, .move (.tmp 4), _, _, _, none⟩) (v := .int .i64 (k : Int)) rfl (by kernel_rfl) (by kernel_rfl) (by kernel_rfl) (fun _ _ _ h => h) (Or.inl ⟨by rfl, fun _ _ => rfl⟩) hHeld ?_
        simp only [Act.put, List.setIfInBounds_toArray, List.set_cons_zero, List.set_cons_succ]
        refine wpAnyH_take (i := 3) (oi := ⟨some 20, .fieldAddr 25 (.tmp 1) 2, _, _, _, none⟩) (v := .pointer (some ⟨w.heap.size, 5, none⟩)) rfl (by kernel_rfl) (by kernel_rfl) (by kernel_rfl) (fun _ _ _ h => h) (Or.inl ⟨by rfl, fun w _ => by go_simp⟩) hHeld ?_
        simp only [Act.put, List.setIfInBounds_toArray, List.set_cons_zero, List.set_cons_succ]
        refine wpAnyH_take (i := 4) (oi := ⟨some 21, .indexAddr 23 (.tmp 20) (.tmp 19), _, _, _, none⟩) (v := .pointer (some ⟨w.heap.size, 5 + k, none⟩)) rfl (by kernel_rfl) (by kernel_rfl) (by kernel_rfl) (fun _ _ _ h => h) (Or.inl ⟨by rfl, fun w _ => by go_simp⟩) hHeld ?_
        simp only [Act.put, List.setIfInBounds_toArray, List.set_cons_zero, List.set_cons_succ]
        refine wpAnyH_take (i := 5) (oi := ⟨some 22, .load 3 (.tmp 21), _, _, _, none⟩) (v := .int .i64 rv) rfl (by kernel_rfl) (by kernel_rfl) (by kernel_rfl) (fun _ _ _ h => h) (Or.inl ⟨by rfl, fun w hSw => by have e1 := hSw.1; clear hSw; go_simp⟩) hHeld ?_
        simp only [Act.put, List.setIfInBounds_toArray, List.set_cons_zero, List.set_cons_succ]
        refine wpAnyH_take (i := 6) (oi := ⟨some 23, .move (.tmp 4), _, _, _, none⟩) (v := .int .i64 (k : Int)) rfl (by kernel_rfl) (by kernel_rfl) (by kernel_rfl) (fun _ _ _ h => h) (Or.inl ⟨by rfl, fun _ _ => rfl⟩) hHeld ?_
        simp only [Act.put, List.setIfInBounds_toArray, List.set_cons_zero, List.set_cons_succ]
        refine wpAnyH_take (i := 7) (oi := ⟨some 24, .fieldAddr 25 (.tmp 1) 3, _, _, _, none⟩) (v := .pointer (some ⟨w.heap.size, 9, none⟩)) rfl (by kernel_rfl) (by kernel_rfl) (by kernel_rfl) (fun _ _ _ h => h) (Or.inl ⟨by rfl, fun w _ => by go_simp⟩) hHeld ?_
        simp only [Act.put, List.setIfInBounds_toArray, List.set_cons_zero, List.set_cons_succ]
        refine wpAnyH_take (i := 8) (oi := ⟨some 25, .indexAddr 23 (.tmp 24) (.tmp 23), _, _, _, none⟩) (v := .pointer (some ⟨w.heap.size, 9 + k, none⟩)) rfl (by kernel_rfl) (by kernel_rfl) (by kernel_rfl) (fun _ _ _ h => h) (Or.inl ⟨by rfl, fun w _ => by go_simp⟩) hHeld ?_
        simp only [Act.put, List.setIfInBounds_toArray, List.set_cons_zero, List.set_cons_succ]
        refine wpAnyH_take (i := 9) (oi := ⟨some 26, .load 3 (.tmp 25), _, _, _, none⟩) (v := .int .i64 av) rfl (by kernel_rfl) (by kernel_rfl) (by kernel_rfl) (fun _ _ _ h => h) (Or.inl ⟨by rfl, fun w hSw => by have e1 := hSw.2; clear hSw; go_simp⟩) hHeld ?_
        simp only [Act.put, List.setIfInBounds_toArray, List.set_cons_zero, List.set_cons_succ]
        refine wpAnyH_ready (rs := [10]) (by kernel_rfl) (by simp) (AllReadyH.cons (o := ⟨some 27, .buildSlice 68 3 #[(0, .tmp 18), (1, .tmp 22), (2, .tmp 26)], _, _, _, none⟩) rfl (fun K' hK => ?_) (AllReadyH.nil))
        refine wp_bs _ _ _ #[(0, .int .i64 1), (1, .int .i64 rv), (2, .int .i64 av)] _ rfl rfl (run_b3 _ _ _ _) ?_
        have bn := Blk.new wr.drew 3 (N64 [1, rv, av]).toArray (N64 [1, rv, av]) rfl
        replace ho := ho.alloc (.cells (N64 [1, rv, av]).toArray 3)
        replace lw := lw.alloc lw.size (.cells (N64 [1, rv, av]).toArray 3)
        refine hK.out _ _ ⟨(HR.out _ lw), (HA.out _ lw)⟩ (fun hHeld => ?_)
        clear hK K'
        try simp only [Act.put, List.setIfInBounds_toArray, List.set_cons_zero, List.set_cons_succ]
        refine wpAnyH_ready (rs := [11]) (by kernel_rfl) (by simp) (AllReadyH.cons (o := ⟨some 28, .call { callee := .builtin .append, args := #[.tmp 17, .tmp 27], argTypes := #[68, 68] }, _, _, _, none⟩) rfl (fun K' hK => ?_) (AllReadyH.nil))
        refine wp_app _ _ _ 68 rfl u0.heap.size 3 i0 (.int .i64 0) 1 8 Try.underlying68 hi hz0 hz1 hz2 rfl (by decide) u3 _ _ rfl ho (some ⟨wr.heap.size, 0, none⟩) 3 3 (N64 [1, rv, av]) rfl (sl_new64 bn) (N64_one _) (by unfold maxLen; omega) (by omega) lw.size ?_
        intro v3 w3 ho3 hg3
        replace lw := lw.grown hg3 lw.size (fun j hj => (ho.lt j hj).1)
        refine hK.out _ _ ⟨(HR.out _ lw), (HA.out _ lw)⟩ (fun hHeld => ?_)
        clear hK K'
        try simp only [Act.put, List.setIfInBounds_toArray, List.set_cons_zero, List.set_cons_succ]
        refine wpAnyH_take (i := 12) (oi := ⟨some 3, .assign (.tmp 28), _, _, _, none⟩) (v := v3) rfl (by kernel_rfl) (by kernel_rfl) (by kernel_rfl) (fun _ _ _ h => h) (Or.inl ⟨by rfl, fun _ _ => rfl⟩) hHeld ?_
        simp only [Act.put, List.setIfInBounds_toArray, List.set_cons_zero, List.set_cons_succ]
        refine wpAnyH_done (by kernel_rfl) ?_ _
        clear hHeld
        have o3 : w3.ownsRow u0.heap.size 3 1 v3 (1 + (k + 1) * 3) (N64 (x.nums.take (1 + (k + 1) * 3))) := by
          rw [HT.out, N64_app]
          have e9 : 1 + (k + 1) * 3 = 1 + k * 3 + 3 := by omega
          rw [e9]
          exact ho3
        clear ho3 ho e2 bn
        go_wp2
        go_roundw
        case rel => exact ⟨k + 1, by omega, by go_num, o3, lw⟩
        case measure => simp [intOf]; omega
      | false =>
        rw [hov] at e2 HT
        replace HT := Lib.hid (show List.take (1 + (k + 1) * 3) x.nums = List.take (1 + k * 3) x.nums ++ [0, rv, av] from HT.out)
        clear hov
        go_upto_region 8 with fail
        replace ho := (show World.ownsRow wr.drew _ _ _ _ _ _ from ho)
        replace lw := lw.drew
        refine wp_region_held_drew (S := fun w' => w'.cell? ⟨w.heap.size, 5 + k, none⟩ = some (.int .i64 rv) ∧ w'.cell? ⟨w.heap.size, 9 + k, none⟩ = some (.int .i64 av)) (by kernel_rfl) ⟨(HR.out _ lw), (HA.out _ lw)⟩ (fun hHeld => ?_)
        refine wpAnyH_take (i := 0) (oi := ⟨some 17, .move (.tmp 3), _, _, _, none⟩) (v := u3) rfl (by kernel_rfl) (by kernel_rfl) (by kernel_rfl) (fun _ _ _ h => h) (Or.inl ⟨by rfl, fun _ _ => rfl⟩) hHeld ?_
        simp only [Act.put, List.setIfInBounds_toArray, List.set_cons_zero, List.set_cons_succ]
        refine wpAnyH_take (i := 1) (oi := ⟨some 18, .move (.tmp 5), _, _, _, none⟩) (v := .int .i64 0) rfl (by kernel_rfl) (by kernel_rfl) (by kernel_rfl) (fun _ _ _ h => h) (Or.inl ⟨by rfl, fun _ _ => rfl⟩) hHeld ?_
        simp only [Act.put, List.setIfInBounds_toArray, List.set_cons_zero, List.set_cons_succ]
        refine wpAnyH_take (i := 2) (oi := ⟨some 19, .move (.tmp 4), _, _, _, none⟩) (v := .int .i64 (k : Int)) rfl (by kernel_rfl) (by kernel_rfl) (by kernel_rfl) (fun _ _ _ h => h) (Or.inl ⟨by rfl, fun _ _ => rfl⟩) hHeld ?_
        simp only [Act.put, List.setIfInBounds_toArray, List.set_cons_zero, List.set_cons_succ]
        refine wpAnyH_take (i := 3) (oi := ⟨some 20, .fieldAddr 25 (.tmp 1) 2, _, _, _, none⟩) (v := .pointer (some ⟨w.heap.size, 5, none⟩)) rfl (by kernel_rfl) (by kernel_rfl) (by kernel_rfl) (fun _ _ _ h => h) (Or.inl ⟨by rfl, fun w _ => by go_simp⟩) hHeld ?_
        simp only [Act.put, List.setIfInBounds_toArray, List.set_cons_zero, List.set_cons_succ]
        refine wpAnyH_take (i := 4) (oi := ⟨some 21, .indexAddr 23 (.tmp 20) (.tmp 19), _, _, _, none⟩) (v := .pointer (some ⟨w.heap.size, 5 + k, none⟩)) rfl (by kernel_rfl) (by kernel_rfl) (by kernel_rfl) (fun _ _ _ h => h) (Or.inl ⟨by rfl, fun w _ => by go_simp⟩) hHeld ?_
        simp only [Act.put, List.setIfInBounds_toArray, List.set_cons_zero, List.set_cons_succ]
        refine wpAnyH_take (i := 5) (oi := ⟨some 22, .load 3 (.tmp 21), _, _, _, none⟩) (v := .int .i64 rv) rfl (by kernel_rfl) (by kernel_rfl) (by kernel_rfl) (fun _ _ _ h => h) (Or.inl ⟨by rfl, fun w hSw => by have e1 := hSw.1; clear hSw; go_simp⟩) hHeld ?_
        simp only [Act.put, List.setIfInBounds_toArray, List.set_cons_zero, List.set_cons_succ]
        refine wpAnyH_take (i := 6) (oi := ⟨some 23, .move (.tmp 4), _, _, _, none⟩) (v := .int .i64 (k : Int)) rfl (by kernel_rfl) (by kernel_rfl) (by kernel_rfl) (fun _ _ _ h => h) (Or.inl ⟨by rfl, fun _ _ => rfl⟩) hHeld ?_
        simp only [Act.put, List.setIfInBounds_toArray, List.set_cons_zero, List.set_cons_succ]
        refine wpAnyH_take (i := 7) (oi := ⟨some 24, .fieldAddr 25 (.tmp 1) 3, _, _, _, none⟩) (v := .pointer (some ⟨w.heap.size, 9, none⟩)) rfl (by kernel_rfl) (by kernel_rfl) (by kernel_rfl) (fun _ _ _ h => h) (Or.inl ⟨by rfl, fun w _ => by go_simp⟩) hHeld ?_
        simp only [Act.put, List.setIfInBounds_toArray, List.set_cons_zero, List.set_cons_succ]
        refine wpAnyH_take (i := 8) (oi := ⟨some 25, .indexAddr 23 (.tmp 24) (.tmp 23), _, _, _, none⟩) (v := .pointer (some ⟨w.heap.size, 9 + k, none⟩)) rfl (by kernel_rfl) (by kernel_rfl) (by kernel_rfl) (fun _ _ _ h => h) (Or.inl ⟨by rfl, fun w _ => by go_simp⟩) hHeld ?_
        simp only [Act.put, List.setIfInBounds_toArray, List.set_cons_zero, List.set_cons_succ]
        refine wpAnyH_take (i := 9) (oi := ⟨some 26, .load 3 (.tmp 25), _, _, _, none⟩) (v := .int .i64 av) rfl (by kernel_rfl) (by kernel_rfl) (by kernel_rfl) (fun _ _ _ h => h) (Or.inl ⟨by rfl, fun w hSw => by have e1 := hSw.2; clear hSw; go_simp⟩) hHeld ?_
        simp only [Act.put, List.setIfInBounds_toArray, List.set_cons_zero, List.set_cons_succ]
        refine wpAnyH_ready (rs := [10]) (by kernel_rfl) (by simp) (AllReadyH.cons (o := ⟨some 27, .buildSlice 68 3 #[(0, .tmp 18), (1, .tmp 22), (2, .tmp 26)], _, _, _, none⟩) rfl (fun K' hK => ?_) (AllReadyH.nil))
        refine wp_bs _ _ _ #[(0, .int .i64 0), (1, .int .i64 rv), (2, .int .i64 av)] _ rfl rfl (run_b3 _ _ _ _) ?_
        have bn := Blk.new wr.drew 3 (N64 [0, rv, av]).toArray (N64 [0, rv, av]) rfl
        replace ho := ho.alloc (.cells (N64 [0, rv, av]).toArray 3)
        replace lw := lw.alloc lw.size (.cells (N64 [0, rv, av]).toArray 3)
        refine hK.out _ _ ⟨(HR.out _ lw), (HA.out _ lw)⟩ (fun hHeld => ?_)
        clear hK K'
        try simp only [Act.put, List.setIfInBounds_toArray, List.set_cons_zero, List.set_cons_succ]
        refine wpAnyH_ready (rs := [11]) (by kernel_rfl) (by simp) (AllReadyH.cons (o := ⟨some 28, .call { callee := .builtin .append, args := #[.tmp 17, .tmp 27], argTypes := #[68, 68] }, _, _, _, none⟩) rfl (fun K' hK => ?_) (AllReadyH.nil))
        refine wp_app _ _ _ 68 rfl u0.heap.size 3 i0 (.int .i64 0) 1 8 Try.underlying68 hi hz0 hz1 hz2 rfl (by decide) u3 _ _ rfl ho (some ⟨wr.heap.size, 0, none⟩) 3 3 (N64 [0, rv, av]) rfl (sl_new64 bn) (N64_one _) (by unfold maxLen; omega) (by omega) lw.size ?_
        intro v3 w3 ho3 hg3
        replace lw := lw.grown hg3 lw.size (fun j hj => (ho.lt j hj).1)
        refine hK.out _ _ ⟨(HR.out _ lw), (HA.out _ lw)⟩ (fun hHeld => ?_)
        clear hK K'
        try simp only [Act.put, List.setIfInBounds_toArray, List.set_cons_zero, List.set_cons_succ]
        refine wpAnyH_take (i := 12) (oi := ⟨some 3, .assign (.tmp 28), _, _, _, none⟩) (v := v3) rfl (by kernel_rfl) (by kernel_rfl) (by kernel_rfl) (fun _ _ _ h => h) (Or.inl ⟨by rfl, fun _ _ => rfl⟩) hHeld ?_
        simp only [Act.put, List.setIfInBounds_toArray, List.set_cons_zero, List.set_cons_succ]
        refine wpAnyH_done (by kernel_rfl) ?_ _
        clear hHeld
        have o3 : w3.ownsRow u0.heap.size 3 1 v3 (1 + (k + 1) * 3) (N64 (x.nums.take (1 + (k + 1) * 3))) := by
          rw [HT.out, N64_app]
          have e9 : 1 + (k + 1) * 3 = 1 + k * 3 + 3 := by omega
          rw [e9]
          exact ho3
        clear ho3 ho e2 bn
        go_wp2
        go_roundw
        case rel => exact ⟨k + 1, by omega, by go_num, o3, lw⟩
        case measure => simp [intOf]; omega
    · obtain rfl : k = 4 := by omega
      have o2 : World.ownsRow _ u0.heap.size 3 1 _ 13 (N64 x.nums) := ho
      clear ho hlt hk
      obtain ⟨A5, c5, hv5, _, _, hs5, _⟩ := own_form o2
      subst hv5
      go_wp2_with (go_at_call 40; refine (made_as (HI.out _ _ _ hs5)).mono ?_; rintro e w6 ⟨A6, c6, rfl, g1, g2, _, s6, l6⟩)
      go_ret
      exact ⟨A6, _, c6, rfl, g1, g2, rfl, s6, Later.trans_ lz (Later.trans_ lw l6)⟩
end Go.Proofs.Ytdohocbpjpnmeaa
