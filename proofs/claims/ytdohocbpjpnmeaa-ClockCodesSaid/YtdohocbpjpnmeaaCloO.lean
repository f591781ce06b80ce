/-
  A CLOCK: Encode.
-/
import Derived.Test.YtdohocbpjpnmeaaCloN
import Derived.Deep.RegionHeld
namespace Go.Proofs.Ytdohocbpjpnmeaa
open Go.RowKit Go.ChangeShapes Go.WideShapes Go.ChangeAt

def Clk.upto (x : Clk) (k : Nat) : Clk := ⟨x.l, lt_ false k x.o, lt_ 0 k x.r, lt_ 0 k x.a⟩
def n0 (n : Int) : List Int := [n, 0, 0, 0, 0, 0, 0, 0, 0, 0, 0, 0, 0]
theorem upto_0 (x : Clk) : (x.upto 0).nums = n0 x.l := rfl
theorem built_n0 (n : Int) : Try.prog.built 72 [(0, .int .i64 n)] = some (N64 (n0 n)).toArray := by kernel_rfl
theorem run_n0 (n : Int) (w : World) : (Instr.build 72 #[(0, .int .i64 n)]).run Try.prog w = .ok (.agg (N64 (n0 n)).toArray) w := run_build w _ _ _ (built_n0 n)
theorem n0_sz (n : Int) : (Try.prog.info? 72).map (·.size) = some (N64 (n0 n)).length := by
  show _ = some 13
  kernel_rfl
theorem nums_len (x : Clk) : (N64 x.nums).length = 13 := rfl
theorem nums_sf (x : Clk) {k : Nat} (hk : k < 4) (h : x.o k = false) : (((N64 (x.upto k).nums).set (1 + k * 3 + 1) (.int .i64 (x.r k))).set (1 + k * 3 + 2) (.int .i64 (x.a k))) = N64 (x.upto (k + 1)).nums := by
  have e : ∀ j, j < 4 → lt_ false (k + 1) x.o j = lt_ false k x.o j := by
    intro j _
    unfold lt_
    by_cases h1 : j < k
    · rw [if_pos h1, if_pos (by omega)]
    · rw [if_neg h1]
      by_cases h2 : j = k
      · subst h2; rw [if_pos (by omega), h]
      · rw [if_neg (by omega)]
  have e2 : (x.upto (k + 1)).nums = ({ (x.upto (k + 1)) with o := lt_ false k x.o } : Clk).nums := by
    unfold Clk.nums Clk.upto
    simp only [e 0 (by omega), e 1 (by omega), e 2 (by omega), e 3 (by omega)]
  rw [e2]
  rcases (show k = 0 ∨ k = 1 ∨ k = 2 ∨ k = 3 by omega) with rfl | rfl | rfl | rfl <;> rfl
theorem nums_st (x : Clk) {k : Nat} (hk : k < 4) (h : x.o k = true) : ((((N64 (x.upto k).nums).set (1 + k * 3) (.int .i64 1)).set (1 + k * 3 + 1) (.int .i64 (x.r k))).set (1 + k * 3 + 2) (.int .i64 (x.a k))) = N64 (x.upto (k + 1)).nums := by
  have hx : ∃ f, x = ⟨x.l, f, x.r, x.a⟩ ∧ f = upd x.o k true := ⟨upd x.o k true, by
    have : upd x.o k true = x.o := by rw [← h, upd_same]
    rw [this], rfl⟩
  obtain ⟨f, h1, h2⟩ := hx
  rw [h1, h2]
  rcases (show k = 0 ∨ k = 1 ∨ k = 2 ∨ k = 3 by omega) with rfl | rfl | rfl | rfl <;> rfl
set_option maxRecDepth 100000 in
set_option maxHeartbeats 4000000 in
theorem enc_any (x : Clk) (w : World) (hw : x.wf) : Calls Try.prog 27 #[.agg x.cells.toArray] w (GotBs (Wm.encL Wm.encI x.nums) w) := by
  have b1 := Blk.new w 25 x.cells.toArray x.cells rfl
  have lw := later1 w (.cells x.cells.toArray 25)
  obtain ⟨u0, hu⟩ : ∃ u0, w.alloc (.cells x.cells.toArray 25) = u0 := ⟨_, rfl⟩
  rw [hu] at b1 lw
  have e0 := b1.cell (clk_l x)
  have n13 := Nat.ne_of_lt b1.lt
  have nw := lw.size
  have HI := Lib.hid fun A c w' (hs : Sl w' 1 A 13 (N64 x.nums)) => wireInts_any A 13 c x.nums w' hs (nums_in hw) (by unfold maxLen; omega) (by have := encL_le x.nums (nums_in hw) rfl; omega)
  clear hw
  go_enter Try.func27, Try.ntmps27
  go_upto_region 1 with fail
  clear hu
  go_upto_region 2 with (first
    | ((with_reducible refine wpList_bld (o := ⟨some 8, .build 72 #[(0, .tmp 7)], _, _, _, none⟩) rfl _ #[(0, .tmp 7)] #[(0, .int .i64 x.l)] (N64 (n0 x.l)).toArray rfl ?_ (run_n0 _ _) ?_); rfl)
    | ((with_reducible refine wpList_store_abs (o := ⟨none, .store 72 (.tmp 3) (.tmp 8), _, _, _, none⟩) rfl _ _ _ rfl u0.heap.size 72 (N64 (n0 0)) (N64 (n0 x.l)) ?_ ?_ ?_ ?_ ?_ ?_ ?_); rfl; rfl; exact (Blk.new _ _ _ _ rfl); exact n0_sz _; rfl; exact N64_one _; intro u1 bl ol; clear e0; replace b1 := (b1.alloc (.cells (N64 (n0 0)).toArray 72)).only ol n13; replace lw := Below.only (lw.alloc nw (.cells (N64 (n0 0)).toArray 72)) ol nw; clear ol))
  rw [← upto_0] at bl
  go_wp2
  go_loopw [9] (fun i wr => ∃ k : Nat, k ≤ 4 ∧ i = .int .i64 k ∧ Blk wr u0.heap.size 72 (N64 (x.upto k).nums) ∧ Blk wr w.heap.size 25 x.cells ∧ Later w wr) (fun i _ => 4 - (intOf i).toNat)
  case atStart => exact ⟨0, by omega, rfl, bl, b1, lw⟩
  case round =>
    clear bl b1 lw
    obtain ⟨k, hk, rfl, bl, b1, lw⟩ := hrel
    by_cases hlt : k < 4
    · have hkn : (k : Int) < 4 := by omega
      have hk0 : (0 : Int) ≤ k := by omega
      have e2 := b1.cell (clk_o x hlt)
      obtain ⟨q, hq⟩ : ∃ q : Nat, q = 1 + k * 3 := ⟨_, rfl⟩
      have a1 : IntKind.i64.wrap ((k : Int) * 3) = (k : Int) * 3 := by rw [IntKind.wrap_i64]; omega
      have a2 : IntKind.i64.wrap (1 + (k : Int) * 3) = (q : Int) := by rw [IntKind.wrap_i64]; omega
      have q13 : q + 2 < 13 := by omega
      have q0 : (0 : Int) ≤ (q : Int) := by omega
      have q1 : (q : Int) ≤ 13 := by omega
      have q2 : (2 : Int) < ((13 - q : Nat) : Int) := by omega
      have q3 : (1 : Int) < ((13 - q : Nat) : Int) := by omega
      have q4 : (0 : Int) < ((13 - q : Nat) : Int) := by omega
      have q5 : ¬ 13 = q := by omega
      cases hov : x.o k with
      | true =>
        rw [hov] at e2
        have HN := Lib.hid (nums_st x hlt hov)
        rw [← hq] at HN
        clear hov hq
        have LEN := Lib.hid (show (((N64 (x.upto k).nums).set q (.int .i64 1))).length = 13 from by rw [List.length_set]; rfl)
        go_upto_region 8 with (first
          | ((with_reducible refine wpList_set1 (o := ⟨none, .store 3 (.tmp 21) (.const (.int .i64 1)), _, _, _, none⟩) rfl _ _ _ rfl rfl u0.heap.size q 72 (N64 (x.upto k).nums) (.int .i64 1) ?_ ?_ ?_ ?_ ?_ ?_ ?_); rfl; rfl; exact bl; exact i_sz; exact (show q < 13 by omega); rfl; intro wq bq oq; clear e2 bl; have bl := bq; clear bq; replace b1 := b1.only oq n13; replace lw := Below.only lw oq nw; clear oq))
        replace bl := bl.drew
        replace b1 := b1.drew
        replace lw := lw.drew
        refine wp_region_held_drew (S := fun w' => w'.cell? ⟨w.heap.size, 5 + k, none⟩ = some (.int .i64 (x.r k)) ∧ w'.cell? ⟨w.heap.size, 9 + k, none⟩ = some (.int .i64 (x.a k))) (by kernel_rfl) ⟨b1.cell (clk_r x hlt), b1.cell (clk_a x hlt)⟩ (fun hHeld => ?_)
        refine wpAnyH_take (i := 0) (oi := ⟨some 22, .move (.tmp 5), _, _, _, none⟩) (v := .slice (some ⟨u0.heap.size, q, none⟩) (13 - q) (13 - q)) rfl (by kernel_rfl) (by kernel_rfl) (by kernel_rfl) (fun _ _ _ h => h) (Or.inl ⟨by rfl, fun _ _ => rfl⟩) hHeld ?_
        simp only [Act.put, List.setIfInBounds_toArray, List.set_cons_zero, List.set_cons_succ]
        refine wpAnyH_take (i := 1) (oi := ⟨some 23, .move (.tmp 5), _, _, _, none⟩) (v := .slice (some ⟨u0.heap.size, q, none⟩) (13 - q) (13 - q)) rfl (by kernel_rfl) (by kernel_rfl) (by kernel_rfl) (fun _ _ _ h => h) (Or.inl ⟨by rfl, fun _ _ => rfl⟩) hHeld ?_
        simp only [Act.put, List.setIfInBounds_toArray, List.set_cons_zero, List.set_cons_succ]
        refine wpAnyH_take (i := 2) (oi := ⟨some 24, .move (.tmp 4), _, _, _, none⟩) (v := .int .i64 (k : Int)) rfl (by kernel_rfl) (by kernel_rfl) (by kernel_rfl) (fun _ _ _ h => h) (Or.inl ⟨by rfl, fun _ _ => rfl⟩) hHeld ?_
        simp only [Act.put, List.setIfInBounds_toArray, List.set_cons_zero, List.set_cons_succ]
        refine wpAnyH_take (i := 3) (oi := ⟨some 25, .fieldAddr 25 (.tmp 1) 2, _, _, _, none⟩) (v := .pointer (some ⟨w.heap.size, 5, none⟩)) rfl (by kernel_rfl) (by kernel_rfl) (by kernel_rfl) (fun _ _ _ h => h) (Or.inl ⟨by rfl, fun w _ => by go_simp⟩) hHeld ?_
        simp only [Act.put, List.setIfInBounds_toArray, List.set_cons_zero, List.set_cons_succ]
        refine wpAnyH_take (i := 4) (oi := ⟨some 26, .indexAddr 23 (.tmp 25) (.tmp 24), _, _, _, none⟩) (v := .pointer (some ⟨w.heap.size, 5 + k, none⟩)) rfl (by kernel_rfl) (by kernel_rfl) (by kernel_rfl) (fun _ _ _ h => h) (Or.inl ⟨by rfl, fun w _ => by go_simp⟩) hHeld ?_
        simp only [Act.put, List.setIfInBounds_toArray, List.set_cons_zero, List.set_cons_succ]
        refine wpAnyH_take (i := 5) (oi := ⟨some 27, .load 3 (.tmp 26), _, _, _, none⟩) (v := .int .i64 (x.r k)) rfl (by kernel_rfl) (by kernel_rfl) (by kernel_rfl) (fun _ _ _ h => h) (Or.inl ⟨by rfl, fun w hSw => by have e1 := hSw.1; clear hSw; go_simp⟩) hHeld ?_
        simp only [Act.put, List.setIfInBounds_toArray, List.set_cons_zero, List.set_cons_succ]
        refine wpAnyH_take (i := 6) (oi := ⟨some 28, .move (.tmp 4), _, _, _, none⟩) (v := .int .i64 (k : Int)) rfl (by kernel_rfl) (by kernel_rfl) (by kernel_rfl) (fun _ _ _ h => h) (Or.inl ⟨by rfl, fun _ _ => rfl⟩) hHeld ?_
        simp only [Act.put, List.setIfInBounds_toArray, List.set_cons_zero, List.set_cons_succ]
        refine wpAnyH_take (i := 7) (oi := ⟨some 29, .fieldAddr 25 (.tmp 1) 3, _, _, _, none⟩) (v := .pointer (some ⟨w.heap.size, 9, none⟩)) rfl (by kernel_rfl) (by kernel_rfl) (by kernel_rfl) (fun _ _ _ h => h) (Or.inl ⟨by rfl, fun w _ => by go_simp⟩) hHeld ?_
        simp only [Act.put, List.setIfInBounds_toArray, List.set_cons_zero, List.set_cons_succ]
        refine wpAnyH_take (i := 8) (oi := ⟨some 30, .indexAddr 23 (.tmp 29) (.tmp 28), _, _, _, none⟩) (v := .pointer (some ⟨w.heap.size, 9 + k, none⟩)) rfl (by kernel_rfl) (by kernel_rfl) (by kernel_rfl) (fun _ _ _ h => h) (Or.inl ⟨by rfl, fun w _ => by go_simp⟩) hHeld ?_
        simp only [Act.put, List.setIfInBounds_toArray, List.set_cons_zero, List.set_cons_succ]
        refine wpAnyH_take (i := 9) (oi := ⟨some 31, .load 3 (.tmp 30), _, _, _, none⟩) (v := .int .i64 (x.a k)) rfl (by kernel_rfl) (by kernel_rfl) (by kernel_rfl) (fun _ _ _ h => h) (Or.inl ⟨by rfl, fun w hSw => by have e1 := hSw.2; clear hSw; go_simp⟩) hHeld ?_
        simp only [Act.put, List.setIfInBounds_toArray, List.set_cons_zero, List.set_cons_succ]
        refine wpAnyH_take (i := 10) (oi := ⟨some 32, .indexAddr 68 (.tmp 22) (.const (.int .i64 1)), _, _, _, none⟩) (v := .pointer (some ⟨u0.heap.size, q + 1, none⟩)) rfl (by kernel_rfl) (by kernel_rfl) (by kernel_rfl) (fun _ _ _ h => h) (Or.inl ⟨by rfl, fun w _ => by go_simp⟩) hHeld ?_
        simp only [Act.put, List.setIfInBounds_toArray, List.set_cons_zero, List.set_cons_succ]
        refine wpAnyH_ready (rs := [11]) (by kernel_rfl) (by simp) (AllReadyH.cons (o := ⟨none, .store 3 (.tmp 32) (.tmp 27), _, _, _, none⟩) rfl (fun K' hK => ?_) (AllReadyH.nil))
        refine wp_set1 3 _ _ rfl rfl u0.heap.size (q + 1) 72 (((N64 (x.upto k).nums).set q (.int .i64 1))) (.int .i64 (x.r k)) rfl rfl bl i_sz (by first | (rw [LEN.out]; omega) | (rw [List.length_set, LEN.out]; omega)) rfl ?_
        intro wq bq oq
        clear bl
        have bl := bq
        clear bq
        replace b1 := b1.only oq n13
        replace lw := Below.only lw oq nw
        clear oq
        refine hK.out _ _ ⟨b1.cell (clk_r x hlt), b1.cell (clk_a x hlt)⟩ (fun hHeld => ?_)
        clear hK K'
        try simp only [Act.put]
        refine wpAnyH_take (i := 12) (oi := ⟨some 33, .indexAddr 68 (.tmp 23) (.const (.int .i64 2)), _, _, _, none⟩) (v := .pointer (some ⟨u0.heap.size, q + 2, none⟩)) rfl (by kernel_rfl) (by kernel_rfl) (by kernel_rfl) (fun _ _ _ h => h) (Or.inl ⟨by rfl, fun w _ => by go_simp⟩) hHeld ?_
        simp only [Act.put, List.setIfInBounds_toArray, List.set_cons_zero, List.set_cons_succ]
        refine wpAnyH_ready (rs := [13]) (by kernel_rfl) (by simp) (AllReadyH.cons (o := ⟨none, .store 3 (.tmp 33) (.tmp 31), _, _, _, none⟩) rfl (fun K' hK => ?_) (AllReadyH.nil))
        refine wp_set1 3 _ _ rfl rfl u0.heap.size (q + 2) 72 ((((N64 (x.upto k).nums).set q (.int .i64 1))).set (q + 1) (.int .i64 (x.r k))) (.int .i64 (x.a k)) rfl rfl bl i_sz (by first | (rw [LEN.out]; omega) | (rw [List.length_set, LEN.out]; omega)) rfl ?_
        intro wq bq oq
        clear bl
        have bl := bq
        clear bq
        replace b1 := b1.only oq n13
        replace lw := Below.only lw oq nw
        clear oq
        refine hK.out _ _ ⟨b1.cell (clk_r x hlt), b1.cell (clk_a x hlt)⟩ (fun hHeld => ?_)
        clear hK K'
        try simp only [Act.put]
        refine wpAnyH_done (by kernel_rfl) ?_ _
        clear hHeld
        rw [HN.out] at bl
        clear LEN HN
        go_wp2
        go_roundw
        case rel => exact ⟨k + 1, by omega, by go_num, bl, b1, lw⟩
        case measure => simp [intOf]; omega
      | false =>
        rw [hov] at e2
        have HN := Lib.hid (nums_sf x hlt hov)
        rw [← hq] at HN
        clear hov hq
        have LEN := Lib.hid (show ((N64 (x.upto k).nums)).length = 13 from rfl)
        go_upto_region 8 with fail
        clear e2
        replace bl := bl.drew
        replace b1 := b1.drew
        replace lw := lw.drew
        refine wp_region_held_drew (S := fun w' => w'.cell? ⟨w.heap.size, 5 + k, none⟩ = some (.int .i64 (x.r k)) ∧ w'.cell? ⟨w.heap.size, 9 + k, none⟩ = some (.int .i64 (x.a k))) (by kernel_rfl) ⟨b1.cell (clk_r x hlt), b1.cell (clk_a x hlt)⟩ (fun hHeld => ?_)
        refine wpAnyH_take (i := 0) (oi := ⟨some 22, .move (.tmp 5), _, _, _, none⟩) (v := .slice (some ⟨u0.heap.size, q, none⟩) (13 - q) (13 - q)) rfl (by kernel_rfl) (by kernel_rfl) (by kernel_rfl) (fun _ _ _ h => h) (Or.inl ⟨by rfl, fun _ _ => rfl⟩) hHeld ?_
        simp only [Act.put, List.setIfInBounds_toArray, List.set_cons_zero, List.set_cons_succ]
        refine wpAnyH_take (i := 1) (oi := ⟨some 23, .move (.tmp 5), _, _, _, none⟩) (v := .slice (some ⟨u0.heap.size, q, none⟩) (13 - q) (13 - q)) rfl (by kernel_rfl) (by kernel_rfl) (by kernel_rfl) (fun _ _ _ h => h) (Or.inl ⟨by rfl, fun _ _ => rfl⟩) hHeld ?_
        simp only [Act.put, List.setIfInBounds_toArray, List.set_cons_zero, List.set_cons_succ]
        refine wpAnyH_take (i := 2) (oi := ⟨some 24, .move (.tmp 4), _, _, _, none⟩) (v := .int .i64 (k : Int)) rfl (by kernel_rfl) (by kernel_rfl) (by kernel_rfl) (fun _ _ _ h => h) (Or.inl ⟨by rfl, fun _ _ => rfl⟩) hHeld ?_
        simp only [Act.put, List.setIfInBounds_toArray, List.set_cons_zero, List.set_cons_succ]
        refine wpAnyH_take (i := 3) (oi := ⟨some 25, .fieldAddr 25 (.tmp 1) 2, _, _, _, none⟩) (v := .pointer (some ⟨w.heap.size, 5, none⟩)) rfl (by kernel_rfl) (by kernel_rfl) (by kernel_rfl) (fun _ _ _ h => h) (Or.inl ⟨by rfl, fun w _ => by go_simp⟩) hHeld ?_
        simp only [Act.put, List.setIfInBounds_toArray, List.set_cons_zero, List.set_cons_succ]
        refine wpAnyH_take (i := 4) (oi := ⟨some 26, .indexAddr 23 (.tmp 25) (.tmp 24), _, _, _, none⟩) (v := .pointer (some ⟨w.heap.size, 5 + k, none⟩)) rfl (by kernel_rfl) (by kernel_rfl) (by kernel_rfl) (fun _ _ _ h => h) (Or.inl ⟨by rfl, fun w _ => by go_simp⟩) hHeld ?_
        simp only [Act.put, List.setIfInBounds_toArray, List.set_cons_zero, List.set_cons_succ]
        refine wpAnyH_take (i := 5) (oi := ⟨some 27, .load 3 (.tmp 26), _, _, _, none⟩) (v := .int .i64 (x.r k)) rfl (by kernel_rfl) (by kernel_rfl) (by kernel_rfl) (fun _ _ _ h => h) (Or.inl ⟨by rfl, fun w hSw => by have e1 := hSw.1; clear hSw; go_simp⟩) hHeld ?_
        simp only [Act.put, List.setIfInBounds_toArray, List.set_cons_zero, List.set_cons_succ]
        refine wpAnyH_take (i := 6) (oi := ⟨some 28, .move (.tmp 4), _, _, _, none⟩) (v := .int .i64 (k : Int)) rfl (by kernel_rfl) (by kernel_rfl) (by kernel_rfl) (fun _ _ _ h => h) (Or.inl ⟨by rfl, fun _ _ => rfl⟩) hHeld ?_
        simp only [Act.put, List.setIfInBounds_toArray, List.set_cons_zero, List.set_cons_succ]
        refine wpAnyH_take (i := 7) (oi := ⟨some 29, .fieldAddr 25 (.tmp 1) 3, _, _, _, none⟩) (v := .pointer (some ⟨w.heap.size, 9, none⟩)) rfl (by kernel_rfl) (by kernel_rfl) (by kernel_rfl) (fun _ _ _ h => h) (Or.inl ⟨by rfl, fun w _ => by go_simp⟩) hHeld ?_
        simp only [Act.put, List.setIfInBounds_toArray, List.set_cons_zero, List.set_cons_succ]
        refine wpAnyH_take (i := 8) (oi := ⟨some 30, .indexAddr 23 (.tmp 29) (.tmp 28), _, _, _, none⟩) (v := .pointer (some ⟨w.heap.size, 9 + k, none⟩)) rfl (by kernel_rfl) (by kernel_rfl) (by kernel_rfl) (fun _ _ _ h => h) (Or.inl ⟨by rfl, fun w _ => by go_simp⟩) hHeld ?_
        simp only [Act.put, List.setIfInBounds_toArray, List.set_cons_zero, List.set_cons_succ]
        refine wpAnyH_take (i := 9) (oi := ⟨some 31, .load 3 (.tmp 30), _, _, _, none⟩) (v := .int .i64 (x.a k)) rfl (by kernel_rfl) (by kernel_rfl) (by kernel_rfl) (fun _ _ _ h => h) (Or.inl ⟨by rfl, fun w hSw => by have e1 := hSw.2; clear hSw; go_simp⟩) hHeld ?_
        simp only [Act.put, List.setIfInBounds_toArray, List.set_cons_zero, List.set_cons_succ]
        refine wpAnyH_take (i := 10) (oi := ⟨some 32, .indexAddr 68 (.tmp 22) (.const (.int .i64 1)), _, _, _, none⟩) (v := .pointer (some ⟨u0.heap.size, q + 1, none⟩)) rfl (by kernel_rfl) (by kernel_rfl) (by kernel_rfl) (fun _ _ _ h => h) (Or.inl ⟨by rfl, fun w _ => by go_simp⟩) hHeld ?_
        simp only [Act.put, List.setIfInBounds_toArray, List.set_cons_zero, List.set_cons_succ]
        refine wpAnyH_ready (rs := [11]) (by kernel_rfl) (by simp) (AllReadyH.cons (o := ⟨none, .store 3 (.tmp 32) (.tmp 27), _, _, _, none⟩) rfl (fun K' hK => ?_) (AllReadyH.nil))
        refine wp_set1 3 _ _ rfl rfl u0.heap.size (q + 1) 72 ((N64 (x.upto k).nums)) (.int .i64 (x.r k)) rfl rfl bl i_sz (by first | (rw [LEN.out]; omega) | (rw [List.length_set, LEN.out]; omega)) rfl ?_
        intro wq bq oq
        clear bl
        have bl := bq
        clear bq
        replace b1 := b1.only oq n13
        replace lw := Below.only lw oq nw
        clear oq
        refine hK.out _ _ ⟨b1.cell (clk_r x hlt), b1.cell (clk_a x hlt)⟩ (fun hHeld => ?_)
        clear hK K'
        try simp only [Act.put]
        refine wpAnyH_take (i := 12) (oi := ⟨some 33, .indexAddr 68 (.tmp 23) (.const (.int .i64 2)), _, _, _, none⟩) (v := .pointer (some ⟨u0.heap.size, q + 2, none⟩)) rfl (by kernel_rfl) (by kernel_rfl) (by kernel_rfl) (fun _ _ _ h => h) (Or.inl ⟨by rfl, fun w _ => by go_simp⟩) hHeld ?_
        simp only [Act.put, List.setIfInBounds_toArray, List.set_cons_zero, List.set_cons_succ]
        refine wpAnyH_ready (rs := [13]) (by kernel_rfl) (by simp) (AllReadyH.cons (o := ⟨none, .store 3 (.tmp 33) (.tmp 31), _, _, _, none⟩) rfl (fun K' hK => ?_) (AllReadyH.nil))
        refine wp_set1 3 _ _ rfl rfl u0.heap.size (q + 2) 72 (((N64 (x.upto k).nums)).set (q + 1) (.int .i64 (x.r k))) (.int .i64 (x.a k)) rfl rfl bl i_sz (by first | (rw [LEN.out]; omega) | (rw [List.length_set, LEN.out]; omega)) rfl ?_
        intro wq bq oq
        clear bl
        have bl := bq
        clear bq
        replace b1 := b1.only oq n13
        replace lw := Below.only lw oq nw
        clear oq
        refine hK.out _ _ ⟨b1.cell (clk_r x hlt), b1.cell (clk_a x hlt)⟩ (fun hHeld => ?_)
        clear hK K'
        try simp only [Act.put]
        refine wpAnyH_done (by kernel_rfl) ?_ _
        clear hHeld
        rw [HN.out] at bl
        clear LEN HN
        go_wp2
        go_roundw
        case rel => exact ⟨k + 1, by omega, by go_num, bl, b1, lw⟩
        case measure => simp [intOf]; omega
    · obtain rfl : k = 4 := by omega
      clear hlt hk
      replace bl : Blk _ u0.heap.size 72 (N64 x.nums) := bl
      go_wp2_with (go_at_call 39; refine (made_as (HI.out _ _ _ (sl_new64 bl))).mono ?_; rintro e w6 ⟨A6, c6, rfl, g1, g2, _, s6, l6⟩)
      go_ret
      exact ⟨A6, _, c6, rfl, g1, g2, rfl, s6, Later.trans_ lw l6⟩
end Go.Proofs.Ytdohocbpjpnmeaa
