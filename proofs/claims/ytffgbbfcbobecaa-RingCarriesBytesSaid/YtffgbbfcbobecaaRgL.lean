/-
  A RING: the reference's First, status, there, written.
-/
import Derived.Test.YtffgbbfcbobecaaRgK
namespace Go.Proofs.Ytffgbbfcbobecaa
open Go.RowKit Go.ChangeShapes Go.WideShapes Go.ChangeAt

theorem plS {u v : Value} : (Try.prog.info? 39).map (·.size) = some [u, v].length := by
  show _ = some 2
  kernel_rfl
theorem one2 {u v : Value} (h : u.oneCell' = true) (k : v.oneCell' = true) : ∀ x ∈ [u, v], x.oneCell' = true := by
  intro x hx
  simp only [List.mem_cons, List.not_mem_nil, or_false] at hx
  rcases hx with rfl | rfl <;> assumption
theorem run_pl (x : Int) (w : World) : (Instr.build 39 #[(0, .int .i64 x), (1, .bool true)]).run Try.prog w = .ok (.agg [.int .i64 x, .bool true].toArray) w := run_build' w _ _ _ (by kernel_rfl)
theorem run_pl0 (w : World) : (Instr.build 39 #[]).run Try.prog w = .ok (.agg [.int .i64 0, .bool false].toArray) w := run_build' w _ _ _ (by kernel_rfl)
set_option maxRecDepth 100000 in
set_option maxHeartbeats 4000000 in
theorem rfirst_any (A : Option Addr) (n c : Nat) (b : Wm.Bs) (B : Int) (s : Nat) (pos : Int) (w : World) (hs : Sl w 128 A n (U b)) (hb : Wm.isBs b) (hn : n ≤ 64) (hok : Rg.Ok (n * 128) B s) (i0 : 0 ≤ pos) (i1 : pos < s) :
    Calls Try.prog 16 #[.agg #[.slice A n c], .agg #[.int .u32 B, .int .u32 (s : Int)], .int .i64 pos] w fun e w' => e = .returned (.agg #[.int .i64 (fI (Rg.fst b B s pos s)), .bool (Rg.fst b B s pos s).isSome]) ∧ Later w w' := by
  have hS := hok.s
  have hB2 := hok.2.2.2
  have KW0 := Lib.hid fun (i : Int) (hi0 : 0 ≤ i) (hi1 : i < s) w' (k : Later w w') => word3_any A n c b B s i w' (hs.keep k) hb hn hok hi0 hi1
  obtain ⟨RR, hR⟩ : ∃ z, z = Rg.fst b B s pos s := ⟨_, rfl⟩
  rw [← hR]
  have HR := Lib.hid (show Rg.fst b B s pos (s - 0) = RR from hR.symm)
  clear hR hs hb hok
  have b3 : Blk _ w.heap.size 24 ([.slice A n c]) := (((Blk.new' w w.heap.size 24 ([.slice A n c]).toArray ([.slice A n c]) (by simp) rfl).alloc (.cells ([.int .u32 B, .int .u32 (s : Int)]).toArray 27)).alloc (.cells ([.int .i64 0, .bool false]).toArray 39))
  have b4 : Blk _ (w.heap.size + 1) 27 ([.int .u32 B, .int .u32 (s : Int)]) := ((Blk.new' (w.alloc (.cells ([.slice A n c]).toArray 24)) (w.heap.size + 1) 27 ([.int .u32 B, .int .u32 (s : Int)]).toArray ([.int .u32 B, .int .u32 (s : Int)]) (by simp) rfl).alloc (.cells ([.int .i64 0, .bool false]).toArray 39))
  have b6 : Blk _ (w.heap.size + 1 + 1) 39 ([.int .i64 0, .bool false]) := (Blk.new' ((w.alloc (.cells ([.slice A n c]).toArray 24)).alloc (.cells ([.int .u32 B, .int .u32 (s : Int)]).toArray 27)) (w.heap.size + 1 + 1) 39 ([.int .i64 0, .bool false]).toArray ([.int .i64 0, .bool false]) (by simp) rfl)
  have lw := (((later1 w (.cells ([.slice A n c]).toArray 24)).alloc (by simp; try omega) (.cells ([.int .u32 B, .int .u32 (s : Int)]).toArray 27)).alloc (by simp; try omega) (.cells ([.int .i64 0, .bool false]).toArray 39))
  obtain ⟨u0, hu⟩ : ∃ u, (((w.alloc (.cells ([.slice A n c]).toArray 24)).alloc (.cells ([.int .u32 B, .int .u32 (s : Int)]).toArray 27)).alloc (.cells ([.int .i64 0, .bool false]).toArray 39)) = u := ⟨_, rfl⟩
  rw [hu] at b3 b4 b6 lw
  go_enter Try.func16, Try.ntmps16
  go_upto_region 1 with fail
  have hu2 : (((w.alloc (.cells #[.slice A n c] 24)).alloc (.cells #[.int .u32 B, .int .u32 (s : Int)] 27)).alloc (.cells #[.int .i64 0, .bool false] 39)) = u0 := hu
  try rw [hu2]
  clear hu hu2
  have e1 := b4.cell (j := 1) (v := .int .u32 (s : Int)) rfl
  have c0 := wrap64 (s : Int) (by omega) (by omega)
  go_wp2
  clear e1
  go_loopw [8] (fun v8 wr => ∃ k : Nat, k ≤ s ∧ v8 = .int .i64 (k : Int) ∧ Hid (Rg.fst b B s pos (s - k) = RR) ∧ Blk wr w.heap.size 24 [.slice A n c] ∧ Blk wr (w.heap.size + 1) 27 [.int .u32 B, .int .u32 (s : Int)] ∧ Blk wr (w.heap.size + 1 + 1) 39 [.int .i64 0, .bool false] ∧ Later w wr) (fun v8 _ => s - (intOf v8).toNat)
  case atStart => exact ⟨0, Nat.zero_le _, rfl, HR, b3, b4, b6, lw⟩
  case round =>
    clear b3 b4 b6 lw HR
    rename_i wr
    obtain ⟨k, hk, rfl, HF, b3, b4, b6, lr⟩ := hrel
    by_cases hlt : k < s
    · have kn : (k : Int) < (s : Int) := by omega
      have hx0 : 0 ≤ (pos + (k : Int)) % (s : Int) := Int.emod_nonneg _ (by omega)
      have hx1 : (pos + (k : Int)) % (s : Int) < (s : Int) := Int.emod_lt_of_pos _ (by omega)
      have KW := Lib.hid (KW0.out _ hx0 hx1)
      have hp0 : 0 ≤ pos + (k : Int) := by omega
      have hw := wrap64 (pos + (k : Int)) hp0 (by omega)
      obtain ⟨x, hx⟩ : ∃ x, x = (pos + (k : Int)) % (s : Int) := ⟨_, rfl⟩
      rw [← hx] at KW hx0 hx1
      obtain ⟨y, hy⟩ : ∃ y, y = Rg.wd b B x 3 := ⟨_, rfl⟩
      rw [← hy] at KW
      have ht : (pos + (k : Int)).tmod (s : Int) = x := by rw [hx]; exact Int.tmod_eq_emod_of_nonneg hp0
      have hoy : Rg.off b B x = decide (y = 1) := by rw [hy]; rfl
      have hwx := wrap64 x hx0 (by omega)
      have hs0 : ¬ s = 0 := by omega
      cases hof : Rg.off b B x
      · have HF' := Lib.hid ((fst_no hlt (by rw [← hx]; exact hof)).symm.trans HF.out)
        have hx' := hx.symm
        have q1 : (y == 1) = false := by rw [hof] at hoy; exact beq_eq_false_iff_ne.2 (of_decide_eq_false hoy.symm)
        clear hof hx HF hy hoy
        go_upto_region 5 with fail
        replace b3 := b3.drew
        replace b4 := b4.drew
        replace b6 := b6.drew
        replace lr := lr.drew
        refine wp_region_held_drew (S := fun w' => World.rangeAt w' w.heap.size 0 [.slice A n c] ∧ World.rangeAt w' (w.heap.size + 1) 0 [.int .u32 B, .int .u32 (s : Int)]) (by kernel_rfl) ⟨b3.range 0 1, b4.range 0 2⟩ (fun hHeld => ?_)
        refine wpAnyH_take (i := 0) (oi := ⟨some 17, .load 24 (.tmp 3), _, _, _, none⟩) (v := .agg ([.slice A n c]).toArray) rfl (by kernel_rfl) (by kernel_rfl) (by kernel_rfl) (fun _ _ _ h => h) (yieldsIf_load_mid (by rfl) _ _ rfl w.heap.size 0 rfl ([.slice A n c]) _ (fun wz hSw => hSw.1) Try.underlying24 rfl memS) hHeld ?_
        simp only [Act.put, List.setIfInBounds_toArray, List.set_cons_zero, List.set_cons_succ]
        refine wpAnyH_take (i := 1) (oi := ⟨some 18, .load 27 (.tmp 4), _, _, _, none⟩) (v := .agg ([.int .u32 B, .int .u32 (s : Int)]).toArray) rfl (by kernel_rfl) (by kernel_rfl) (by kernel_rfl) (fun _ _ _ h => h) (yieldsIf_load_mid (by rfl) _ _ rfl (w.heap.size + 1) 0 rfl ([.int .u32 B, .int .u32 (s : Int)]) _ (fun wz hSw => hSw.2) Try.underlying27 rfl ring_sz) hHeld ?_
        simp only [Act.put, List.setIfInBounds_toArray, List.set_cons_zero, List.set_cons_succ]
        refine wpAnyH_take (i := 2) (oi := ⟨some 19, .move (.tmp 2), _, _, _, none⟩) (v := .int .i64 pos) rfl (by kernel_rfl) (by kernel_rfl) (by kernel_rfl) (fun _ _ _ h => h) (Or.inl ⟨by rfl, fun _ _ => rfl⟩) hHeld ?_
        simp only [Act.put, List.setIfInBounds_toArray, List.set_cons_zero, List.set_cons_succ]
        refine wpAnyH_take (i := 3) (oi := ⟨some 20, .move (.tmp 8), _, _, _, none⟩) (v := .int .i64 (k : Int)) rfl (by kernel_rfl) (by kernel_rfl) (by kernel_rfl) (fun _ _ _ h => h) (Or.inl ⟨by rfl, fun _ _ => rfl⟩) hHeld ?_
        simp only [Act.put, List.setIfInBounds_toArray, List.set_cons_zero, List.set_cons_succ]
        refine wpAnyH_take (i := 4) (oi := ⟨some 21, .binOp .add 3 (.tmp 19) (.tmp 20) 3, _, _, _, none⟩) (v := .int .i64 (pos + (k : Int))) rfl (by kernel_rfl) (by kernel_rfl) (by kernel_rfl) (fun _ _ _ h => h) (Or.inl ⟨by rfl, fun w _ => by go_simp⟩) hHeld ?_
        simp only [Act.put, List.setIfInBounds_toArray, List.set_cons_zero, List.set_cons_succ]
        refine wpAnyH_take (i := 5) (oi := ⟨some 22, .move (.tmp 7), _, _, _, none⟩) (v := .int .i64 (s : Int)) rfl (by kernel_rfl) (by kernel_rfl) (by kernel_rfl) (fun _ _ _ h => h) (Or.inl ⟨by rfl, fun _ _ => rfl⟩) hHeld ?_
        simp only [Act.put, List.setIfInBounds_toArray, List.set_cons_zero, List.set_cons_succ]
        refine wpAnyH_take (i := 6) (oi := ⟨some 23, .binOp .rem 3 (.tmp 21) (.tmp 22) 3, _, _, _, none⟩) (v := .int .i64 x) rfl (by kernel_rfl) (by kernel_rfl) (by kernel_rfl) (fun _ _ _ h => h) (Or.inl ⟨by rfl, fun w _ => by go_simp⟩) hHeld ?_
        simp only [Act.put, List.setIfInBounds_toArray, List.set_cons_zero, List.set_cons_succ]
        refine wpAnyH_ready (rs := [7]) (by kernel_rfl) (by simp) (AllReadyH.cons (o := ⟨some 24, .call { callee := .value (.func 45), args := #[.tmp 17, .tmp 18, .tmp 23, .const (.int .i64 3)], argTypes := #[24, 27, 3, 3] }, _, _, _, none⟩) rfl (fun K' hK => ?_) (AllReadyH.nil))
        go_simp
        (with_reducible refine (KW.out _ lr).mono ?_)
        rintro e1 w1 ⟨rfl, l1⟩
        replace b3 := b3.keep l1
        replace b4 := b4.keep l1
        replace b6 := b6.keep l1
        replace lr := Later.trans_ lr l1
        refine hK.out _ _ ⟨b3.range 0 1, b4.range 0 2⟩ (fun hHeld => ?_)
        clear hK K'
        try simp only [Act.put, List.setIfInBounds_toArray, List.set_cons_zero, List.set_cons_succ]
        refine wpAnyH_take (i := 8) (oi := ⟨some 25, .binOp .eql 3 (.tmp 24) (.const (.int .i64 1)) 3, _, _, _, none⟩) (v := .bool false) rfl (by kernel_rfl) (by kernel_rfl) (by kernel_rfl) (fun _ _ _ h => h) (Or.inl ⟨by rfl, fun w _ => by go_simp⟩) hHeld ?_
        simp only [Act.put, List.setIfInBounds_toArray, List.set_cons_zero, List.set_cons_succ]
        refine wpAnyH_done (by kernel_rfl) ?_ _
        clear hHeld
        clear hx' ht hw q1 hwx hs0
        go_wp2
        go_roundw
        case rel => exact ⟨k + 1, by omega, by go_num, HF', b3, b4, b6, lr⟩
        case measure => simp [intOf]; omega
      · have HF' := Lib.hid (HF.out.symm.trans (fst_yes hlt (by rw [← hx]; exact hof)))
        rw [← hx] at HF'
        have hx' := hx.symm
        have q1 : (y == 1) = true := by rw [hof] at hoy; exact beq_iff_eq.2 (of_decide_eq_true hoy.symm)
        clear hof hx HF hy hoy
        go_upto_region 5 with fail
        replace b3 := b3.drew
        replace b4 := b4.drew
        replace b6 := b6.drew
        replace lr := lr.drew
        refine wp_region_held_drew (S := fun w' => World.rangeAt w' w.heap.size 0 [.slice A n c] ∧ World.rangeAt w' (w.heap.size + 1) 0 [.int .u32 B, .int .u32 (s : Int)]) (by kernel_rfl) ⟨b3.range 0 1, b4.range 0 2⟩ (fun hHeld => ?_)
        refine wpAnyH_take (i := 0) (oi := ⟨some 17, .load 24 (.tmp 3), _, _, _, none⟩) (v := .agg ([.slice A n c]).toArray) rfl (by kernel_rfl) (by kernel_rfl) (by kernel_rfl) (fun _ _ _ h => h) (yieldsIf_load_mid (by rfl) _ _ rfl w.heap.size 0 rfl ([.slice A n c]) _ (fun wz hSw => hSw.1) Try.underlying24 rfl memS) hHeld ?_
        simp only [Act.put, List.setIfInBounds_toArray, List.set_cons_zero, List.set_cons_succ]
        refine wpAnyH_take (i := 1) (oi := ⟨some 18, .load 27 (.tmp 4), _, _, _, none⟩) (v := .agg ([.int .u32 B, .int .u32 (s : Int)]).toArray) rfl (by kernel_rfl) (by kernel_rfl) (by kernel_rfl) (fun _ _ _ h => h) (yieldsIf_load_mid (by rfl) _ _ rfl (w.heap.size + 1) 0 rfl ([.int .u32 B, .int .u32 (s : Int)]) _ (fun wz hSw => hSw.2) Try.underlying27 rfl ring_sz) hHeld ?_
        simp only [Act.put, List.setIfInBounds_toArray, List.set_cons_zero, List.set_cons_succ]
        refine wpAnyH_take (i := 2) (oi := ⟨some 19, .move (.tmp 2), _, _, _, none⟩) (v := .int .i64 pos) rfl (by kernel_rfl) (by kernel_rfl) (by kernel_rfl) (fun _ _ _ h => h) (Or.inl ⟨by rfl, fun _ _ => rfl⟩) hHeld ?_
        simp only [Act.put, List.setIfInBounds_toArray, List.set_cons_zero, List.set_cons_succ]
        refine wpAnyH_take (i := 3) (oi := ⟨some 20, .move (.tmp 8), _, _, _, none⟩) (v := .int .i64 (k : Int)) rfl (by kernel_rfl) (by kernel_rfl) (by kernel_rfl) (fun _ _ _ h => h) (Or.inl ⟨by rfl, fun _ _ => rfl⟩) hHeld ?_
        simp only [Act.put, List.setIfInBounds_toArray, List.set_cons_zero, List.set_cons_succ]
        refine wpAnyH_take (i := 4) (oi := ⟨some 21, .binOp .add 3 (.tmp 19) (.tmp 20) 3, _, _, _, none⟩) (v := .int .i64 (pos + (k : Int))) rfl (by kernel_rfl) (by kernel_rfl) (by kernel_rfl) (fun _ _ _ h => h) (Or.inl ⟨by rfl, fun w _ => by go_simp⟩) hHeld ?_
        simp only [Act.put, List.setIfInBounds_toArray, List.set_cons_zero, List.set_cons_succ]
        refine wpAnyH_take (i := 5) (oi := ⟨some 22, .move (.tmp 7), _, _, _, none⟩) (v := .int .i64 (s : Int)) rfl (by kernel_rfl) (by kernel_rfl) (by kernel_rfl) (fun _ _ _ h => h) (Or.inl ⟨by rfl, fun _ _ => rfl⟩) hHeld ?_
        simp only [Act.put, List.setIfInBounds_toArray, List.set_cons_zero, List.set_cons_succ]
        refine wpAnyH_take (i := 6) (oi := ⟨some 23, .binOp .rem 3 (.tmp 21) (.tmp 22) 3, _, _, _, none⟩) (v := .int .i64 x) rfl (by kernel_rfl) (by kernel_rfl) (by kernel_rfl) (fun _ _ _ h => h) (Or.inl ⟨by rfl, fun w _ => by go_simp⟩) hHeld ?_
        simp only [Act.put, List.setIfInBounds_toArray, List.set_cons_zero, List.set_cons_succ]
        refine wpAnyH_ready (rs := [7]) (by kernel_rfl) (by simp) (AllReadyH.cons (o := ⟨some 24, .call { callee := .value (.func 45), args := #[.tmp 17, .tmp 18, .tmp 23, .const (.int .i64 3)], argTypes := #[24, 27, 3, 3] }, _, _, _, none⟩) rfl (fun K' hK => ?_) (AllReadyH.nil))
        go_simp
        (with_reducible refine (KW.out _ lr).mono ?_)
        rintro e1 w1 ⟨rfl, l1⟩
        replace b3 := b3.keep l1
        replace b4 := b4.keep l1
        replace b6 := b6.keep l1
        replace lr := Later.trans_ lr l1
        refine hK.out _ _ ⟨b3.range 0 1, b4.range 0 2⟩ (fun hHeld => ?_)
        clear hK K'
        try simp only [Act.put, List.setIfInBounds_toArray, List.set_cons_zero, List.set_cons_succ]
        refine wpAnyH_take (i := 8) (oi := ⟨some 25, .binOp .eql 3 (.tmp 24) (.const (.int .i64 1)) 3, _, _, _, none⟩) (v := .bool true) rfl (by kernel_rfl) (by kernel_rfl) (by kernel_rfl) (fun _ _ _ h => h) (Or.inl ⟨by rfl, fun w _ => by go_simp⟩) hHeld ?_
        simp only [Act.put, List.setIfInBounds_toArray, List.set_cons_zero, List.set_cons_succ]
        refine wpAnyH_done (by kernel_rfl) ?_ _
        clear hHeld
        go_wp2_with (first
    | ((with_reducible refine wpList_bld (o := ⟨some 31, .build 39 #[(0, .tmp 30), (1, .const (.bool true))], _, _, _, none⟩) rfl _ #[(0, .tmp 30), (1, .const (.bool true))] #[(0, .int .i64 x), (1, .bool true)] [.int .i64 x, .bool true].toArray rfl ?_ (run_pl _ _) ?_); rfl)
    | ((with_reducible refine wpList_store_abs (o := ⟨none, .store 39 (.tmp 6) (.tmp 31), _, _, _, none⟩) rfl _ _ _ rfl (w.heap.size + 1 + 1) 39 ([.int .i64 0, .bool false]) ([.int .i64 x, .bool true]) ?_ ?_ ?_ ?_ ?_ ?_ ?_); rfl; rfl; exact b6; exact plS; rfl; exact (one2 rfl rfl); intro w9 b9 o9))
        clear hx' ht hw q1
        rw [HF'.out]
        exact bodyPost_ret (results_blk Try.results16 _ _ (w.heap.size + 1 + 1) 39 _ _ rfl b9 Try.underlying39 rfl plS) rfl ⟨rfl, Below.only lr o9 (by omega)⟩
    · obtain rfl : k = s := by omega
      have nlt : ¬ ((k : Int) < (k : Int)) := by omega
      have HF' := Lib.hid (show RR = none from by rw [← HF.out, Nat.sub_self]; rfl)
      go_wp2_with (first
    | ((with_reducible refine wpList_bld (o := ⟨some 32, .build 39 #[], _, _, _, none⟩) rfl _ #[] #[] [.int .i64 0, .bool false].toArray rfl ?_ (run_pl0 _) ?_); rfl)
    | ((with_reducible refine wpList_store_abs (o := ⟨none, .store 39 (.tmp 6) (.tmp 32), _, _, _, none⟩) rfl _ _ _ rfl (w.heap.size + 1 + 1) 39 ([.int .i64 0, .bool false]) ([.int .i64 0, .bool false]) ?_ ?_ ?_ ?_ ?_ ?_ ?_); rfl; rfl; exact b6; exact plS; rfl; exact (one2 rfl rfl); intro w9 b9 o9))
      rw [HF'.out]
      exact bodyPost_ret (results_blk Try.results16 _ _ (w.heap.size + 1 + 1) 39 _ _ rfl b9 Try.underlying39 rfl plS) rfl ⟨rfl, Below.only lr o9 (by omega)⟩
end Go.Proofs.Ytffgbbfcbobecaa
