/-
  THE STATEMENT TrapInterruptsInOrder: what is due is the least line that is pending; in a trap nothing is due; other bits do not matter; for every processor and any lines.
-/
import Derived.Test.YtkknobonpejgbaaTrapZ3
namespace Go.Proofs.Ytkknobonpejgbaa
open Go.RowKit Go.ChangeShapes Go.WideShapes Go.ChangeAt

theorem least_mod {p q : Int} (h : p % 32 = q % 32) : least p = least q := by
  have b : ∀ k, k < 5 → bitK p k = bitK q k := by
    intro k hk
    unfold bitK
    rw [decide_eq_decide]
    rcases (show k = 0 ∨ k = 1 ∨ k = 2 ∨ k = 3 ∨ k = 4 by omega) with rfl | rfl | rfl | rfl | rfl
    · show p / 1 % 2 = 1 ↔ q / 1 % 2 = 1; omega
    · show p / 2 % 2 = 1 ↔ q / 2 % 2 = 1; omega
    · show p / 4 % 2 = 1 ↔ q / 4 % 2 = 1; omega
    · show p / 8 % 2 = 1 ↔ q / 8 % 2 = 1; omega
    · show p / 16 % 2 = 1 ↔ q / 16 % 2 = 1; omega
  unfold least
  rw [b 0 (by omega), b 1 (by omega), b 2 (by omega), b 3 (by omega), b 4 (by omega)]
theorem or_mod {p m : Int} (hp : Tm.isE p) (hm : Tm.isE m) : Tm.isE (bits .or .u32 p (m * 32 % 4294967296)) ∧ bits .or .u32 p (m * 32 % 4294967296) % 32 = p % 32 := by
  obtain ⟨q, rfl⟩ := Int.eq_ofNat_of_zero_le hp.1
  obtain ⟨n, rfl⟩ := Int.eq_ofNat_of_zero_le hm.1
  have h1 := hp.2
  have e : (n : Int) * 32 % 4294967296 = ((n * 32 % 4294967296 : Nat) : Int) := by omega
  rw [e, or32 q _ (by omega) (Nat.mod_lt _ (by omega))]
  have h2 : q ||| n * 32 % 4294967296 < 2 ^ 32 := Nat.or_lt_two_pow (by omega) (Nat.mod_lt _ (by omega))
  have h3 := Nat.or_mod_two_pow (a := q) (b := n * 32 % 4294967296) (n := 5)
  rw [show (2 : Nat) ^ 5 = 32 from rfl, show n * 32 % 4294967296 % 32 = 0 by omega, Nat.or_zero] at h3
  refine ⟨⟨by omega, by omega⟩, by omega⟩
theorem due_is {x : Cpu} {p n : Int} {b : Bool} (hx : Tm.isE x.c5) (hp : Tm.isE p) (hn : dueN (Tm.has x.c5 1) p = n) (hb : dueB (Tm.has x.c5 1) p = b) (w : World) : Calls Try.prog 15 #[.agg x.cells.toArray, .int .u32 p] w fun e w' => e = .returned (.tuple #[.int .i64 n, .bool b]) ∧ Later w w' := by
  have h := due_any x p w hx hp
  rwa [hn, hb] at h
theorem ready_is {x : Cpu} {p : Int} {b : Bool} (hp : Tm.isE p) (hb : rdy x.hl x.wt p = b) (w : World) : Calls Try.prog 21 #[.agg x.cells.toArray, .int .u32 p] w fun e w' => e = .returned (.bool b) ∧ Later w w' := by
  have h := ready_any x p w hp
  rwa [hb] at h
/-- What is due, in six ways. -/
theorem due_ways (on : Bool) (p : Int) : (dueN on p = 0 ∧ dueB on p = false) ∨ (dueB on p = true ∧ p % 32 ≠ 0 ∧ ((dueN on p = 0 ∧ p % 2 = 1) ∨ (dueN on p = 1 ∧ p / 2 % 2 = 1 ∧ p % 2 = 0) ∨ (dueN on p = 2 ∧ p / 4 % 2 = 1 ∧ p % 4 = 0) ∨ (dueN on p = 3 ∧ p / 8 % 2 = 1 ∧ p % 8 = 0) ∨ (dueN on p = 4 ∧ p / 16 % 2 = 1 ∧ p % 16 = 0))) := by
  cases on
  · exact .inl ⟨rfl, rfl⟩
  · obtain ⟨h5, hlt, hat⟩ := least_is p
    by_cases h : least p < 5
    · right
      have hN : dueN true p = least p := by unfold dueN; rw [decide_eq_true h]; rfl
      have hB : dueB true p = true := by unfold dueB; rw [decide_eq_true h]; rfl
      have ha := of_decide_eq_true (hat h)
      have hf : ∀ j, j < least p → ¬ (p / 2 ^ j % 2 = 1) := fun j hj => of_decide_eq_false (hlt j hj)
      rw [hN, hB]
      clear hat hlt hN hB h5
      generalize least p = L at *
      rcases (show L = 0 ∨ L = 1 ∨ L = 2 ∨ L = 3 ∨ L = 4 by omega) with rfl | rfl | rfl | rfl | rfl
      · have ha : p / 1 % 2 = 1 := ha
        refine ⟨rfl, by omega, .inl ⟨rfl, by omega⟩⟩
      · have ha : p / 2 % 2 = 1 := ha
        have f0 : ¬ (p / 1 % 2 = 1) := hf 0 (by omega)
        refine ⟨rfl, by omega, .inr (.inl ⟨rfl, ha, by omega⟩)⟩
      · have ha : p / 4 % 2 = 1 := ha
        have f0 : ¬ (p / 1 % 2 = 1) := hf 0 (by omega)
        have f1 : ¬ (p / 2 % 2 = 1) := hf 1 (by omega)
        refine ⟨rfl, by omega, .inr (.inr (.inl ⟨rfl, ha, by omega⟩))⟩
      · have ha : p / 8 % 2 = 1 := ha
        have f0 : ¬ (p / 1 % 2 = 1) := hf 0 (by omega)
        have f1 : ¬ (p / 2 % 2 = 1) := hf 1 (by omega)
        have f2 : ¬ (p / 4 % 2 = 1) := hf 2 (by omega)
        refine ⟨rfl, by omega, .inr (.inr (.inr (.inl ⟨rfl, ha, by omega⟩)))⟩
      · have ha : p / 16 % 2 = 1 := ha
        have f0 : ¬ (p / 1 % 2 = 1) := hf 0 (by omega)
        have f1 : ¬ (p / 2 % 2 = 1) := hf 1 (by omega)
        have f2 : ¬ (p / 4 % 2 = 1) := hf 2 (by omega)
        have f3 : ¬ (p / 8 % 2 = 1) := hf 3 (by omega)
        refine ⟨rfl, by omega, .inr (.inr (.inr (.inr ⟨rfl, ha, by omega⟩)))⟩
    · left
      unfold dueN dueB
      rw [decide_eq_false h]
      exact ⟨rfl, rfl⟩
theorem and_1 {p : Int} (h : Tm.isE p) : bits .and .u32 p 1 = p % 2 := by
  rw [and1 h]
  unfold b32 Tm.has
  rw [show p / 1 = p by omega]
  by_cases h : p % 2 = 1
  · rw [decide_eq_true h, if_pos rfl]; omega
  · rw [decide_eq_false h, if_neg (by simp)]; omega
theorem and_3 {p : Int} (h : Tm.isE p) : bits .and .u32 p 3 = p % 4 := by
  obtain ⟨q, rfl⟩ := Int.eq_ofNat_of_zero_le h.1
  have h2 := h.2
  rw [show (3 : Int) = ((3 : Nat) : Int) from rfl, and32 q 3 (by omega) (by omega), show (3 : Nat) = 2 ^ 2 - 1 from rfl, Nat.and_two_pow_sub_one_eq_mod]
  omega
theorem and_15 {p : Int} (h : Tm.isE p) : bits .and .u32 p 15 = p % 16 := by
  obtain ⟨q, rfl⟩ := Int.eq_ofNat_of_zero_le h.1
  have h2 := h.2
  rw [show (15 : Int) = ((15 : Nat) : Int) from rfl, and32 q 15 (by omega) (by omega), show (15 : Nat) = 2 ^ 4 - 1 from rfl, Nat.and_two_pow_sub_one_eq_mod]
  omega
theorem and_0 {p : Int} (h : Tm.isE p) : bits .and .u32 p 0 = 0 := by
  obtain ⟨q, rfl⟩ := Int.eq_ofNat_of_zero_le h.1
  have h2 := h.2
  rw [show (0 : Int) = ((0 : Nat) : Int) from rfl, and32 q 0 (by omega) (by omega), Nat.and_zero]
set_option maxRecDepth 100000 in
theorem order_bad (x : Cpu) (p mo : Int) (w : World) (hv : okC x.r0 x.c5 x.c7 x.c8 x.wt x.hl x.cn = false) :
    Calls Try.prog 8 #[.agg x.cells.toArray, .int .u32 p, .int .u32 mo] w fun e w' => e = .returned (.bool true) ∧ Later w w' := by
  have KS := Lib.hid fun w' => sanity_any w'
  have b4 := Blk.new w 26 x.cells.toArray x.cells rfl
  have lw := later1 w (.cells x.cells.toArray 26)
  have KV := Lib.hid fun w' => rvalid_is hv w'
  clear hv
  go_enter Try.func8, Try.ntmps8
  go_wp2_with (first
    | ((with_reducible refine wpList_load_blk (o := ⟨some 17, .load 26 (.tmp 3), _, _, _, none⟩) rfl _ _ rfl w.heap.size 26 x.cells _ ?_ ?_ Try.underlying26 rfl (cpu_sz _) ?_); rfl; exact b4)
    | (go_at_call 11; (with_reducible refine (KV.out _).mono ?_); rintro e w1 ⟨rfl, l1⟩; replace b4 := b4.keep l1; replace lw := Later.trans_ lw l1)
    | (go_at_call 14; (with_reducible refine (KS.out _).mono ?_); rintro e w2 ⟨rfl, l2⟩; replace b4 := b4.keep l2; replace lw := Later.trans_ lw l2))
  go_ret
  exact ⟨rfl, lw⟩
set_option maxRecDepth 100000 in
set_option maxHeartbeats 2000000 in
theorem order_no (x : Cpu) (p mo : Int) (w : World) (hx : x.wf) (hp : Tm.isE p) (hm : Tm.isE mo) (hv : okC x.r0 x.c5 x.c7 x.c8 x.wt x.hl x.cn = true) (hN : dueN (Tm.has x.c5 1) p = 0) (hD : dueB (Tm.has x.c5 1) p = false) :
    Calls Try.prog 8 #[.agg x.cells.toArray, .int .u32 p, .int .u32 mo] w fun e w' => e = .returned (.bool true) ∧ Later w w' := by
  have KS := Lib.hid fun w' => sanity_any w'
  have b4 := Blk.new w 26 x.cells.toArray x.cells rfl
  have lw := later1 w (.cells x.cells.toArray 26)
  have KV := Lib.hid fun w' => rvalid_is hv w'
  have KD := Lib.hid fun w' => due_is hx.c5 hp hN hD w'
  have KE := Lib.hid fun w' => enter_any x 1 0 0 w' hx.c5
  have KD2 := Lib.hid fun w' => due_is (x := x.enter 1 0 0) (p := p) (n := 0) (b := false) (enter_e _ _ _ _) hp (by show dueN (Tm.has (b32 _ 2 + b32 _ 4) 1) p = 0; rw [st_1]; rfl) (by show dueB (Tm.has (b32 _ 2 + b32 _ 4) 1) p = false; rw [st_1]; rfl) w'
  obtain ⟨d, hd⟩ : ∃ d, d = x.enter 1 0 0 := ⟨_, rfl⟩
  rw [← hd] at KE KD2
  obtain ⟨ho1, ho2⟩ := or_mod hp hm
  obtain ⟨o, ho⟩ : ∃ o, bits .or .u32 p (mo * 32 % 4294967296) = o := ⟨_, rfl⟩
  rw [ho] at ho1 ho2
  have hle := least_mod ho2
  have KD3 := Lib.hid fun w' => due_is (n := 0) (b := false) hx.c5 ho1 ((show dueN (Tm.has x.c5 1) o = dueN (Tm.has x.c5 1) p by unfold dueN; rw [hle]).trans hN) ((show dueB (Tm.has x.c5 1) o = dueB (Tm.has x.c5 1) p by unfold dueB; rw [hle]).trans hD) w'
  have hand := and31 hp
  have hr2 : rdy x.hl x.wt o = rdy x.hl x.wt p := by unfold rdy; rw [ho2]
  cases hh : x.hl with
  | true =>
    have hR : rdy x.hl x.wt p = false := by unfold rdy; rw [hh]; rfl
    have KR := Lib.hid fun w' => ready_is (b := false) hp hR w'
    have KR2 := Lib.hid fun w' => ready_is (b := false) ho1 (by rw [hr2]; exact hR) w'
    clear hR hr2 hle ho1 ho2 hd hN hD hv hx hp hm
    go_enter Try.func8, Try.ntmps8
    go_wp2_with (first
      | ((with_reducible refine wpList_load_blk (o := ⟨some 17, .load 26 (.tmp 3), _, _, _, none⟩) rfl _ _ rfl w.heap.size 26 x.cells _ ?_ ?_ Try.underlying26 rfl (cpu_sz _) ?_); rfl; exact b4)
      | (go_at_call 11; (with_reducible refine (KV.out _).mono ?_); rintro e w1 ⟨rfl, l1⟩; replace b4 := b4.keep l1; replace lw := Later.trans_ lw l1)
      | ((with_reducible refine wpList_load_blk (o := ⟨some 23, .load 26 (.tmp 3), _, _, _, none⟩) rfl _ _ rfl w.heap.size 26 x.cells _ ?_ ?_ Try.underlying26 rfl (cpu_sz _) ?_); rfl; exact b4)
      | (go_at_call 15; (with_reducible refine (KD.out _).mono ?_); rintro e w2 ⟨rfl, l2⟩; replace b4 := b4.keep l2; replace lw := Later.trans_ lw l2)
      | ((with_reducible refine wpList_load_blk (o := ⟨some 53, .load 26 (.tmp 3), _, _, _, none⟩) rfl _ _ rfl w.heap.size 26 x.cells _ ?_ ?_ Try.underlying26 rfl (cpu_sz _) ?_); rfl; exact b4)
      | (go_at_call 17; (with_reducible refine (KE.out _).mono ?_); rintro e w3 ⟨rfl, l3⟩; replace b4 := b4.keep l3; replace lw := Later.trans_ lw l3)
      | (go_at_call 15; (with_reducible refine (KD2.out _).mono ?_); rintro e w4 ⟨rfl, l4⟩; replace b4 := b4.keep l4; replace lw := Later.trans_ lw l4)
      | ((with_reducible refine wpList_load_blk (o := ⟨some 59, .load 26 (.tmp 3), _, _, _, none⟩) rfl _ _ rfl w.heap.size 26 x.cells _ ?_ ?_ Try.underlying26 rfl (cpu_sz _) ?_); rfl; exact b4)
      | (go_at_call 21; (with_reducible refine (KR.out _).mono ?_); rintro e w5 ⟨rfl, l5⟩; replace b4 := b4.keep l5; replace lw := Later.trans_ lw l5; have q1 : w5.cell? ⟨w.heap.size, 28, none⟩ = some (.bool true) := (by rw [← hh]; exact b4.cell (j := 28) (v := .bool x.hl) rfl))
      | ((with_reducible refine wpList_load_blk (o := ⟨some 86, .load 26 (.tmp 3), _, _, _, none⟩) rfl _ _ rfl w.heap.size 26 x.cells _ ?_ ?_ Try.underlying26 rfl (cpu_sz _) ?_); rfl; exact b4; clear q1)
      | (go_at_call 15; (with_reducible refine (KD3.out _).mono ?_); rintro e w6 ⟨rfl, l6⟩; replace b4 := b4.keep l6; replace lw := Later.trans_ lw l6)
      | (go_at_call 14; (with_reducible refine (KS.out _).mono ?_); rintro e w7 ⟨rfl, l7⟩; replace b4 := b4.keep l7; replace lw := Later.trans_ lw l7)
      | ((with_reducible refine wpList_load_g (o := ⟨some 103, .load 26 (.tmp 3), _, _, _, _⟩) _ _ rfl w.heap.size 26 x.cells _ ?_ ?_ ?_ Try.underlying26 ?_ (cpu_sz _) ?_); rfl; rfl; exact b4; rfl)
      | (go_at_call 21; (with_reducible refine (KR2.out _).mono ?_); rintro e w8 ⟨rfl, l8⟩; replace b4 := b4.keep l8; replace lw := Later.trans_ lw l8))
    go_ret
    exact ⟨rfl, lw⟩
  | false =>
    cases hR : rdy x.hl x.wt p with
    | true =>
      have KR := Lib.hid fun w' => ready_is (b := true) hp hR w'
      have KR2 := Lib.hid fun w' => ready_is (b := true) ho1 (by rw [hr2]; exact hR) w'
      clear hR hr2 hle ho1 ho2 hd hN hD hv hx hp hm
      go_enter Try.func8, Try.ntmps8
      go_wp2_with (first
        | ((with_reducible refine wpList_load_blk (o := ⟨some 17, .load 26 (.tmp 3), _, _, _, none⟩) rfl _ _ rfl w.heap.size 26 x.cells _ ?_ ?_ Try.underlying26 rfl (cpu_sz _) ?_); rfl; exact b4)
        | (go_at_call 11; (with_reducible refine (KV.out _).mono ?_); rintro e w1 ⟨rfl, l1⟩; replace b4 := b4.keep l1; replace lw := Later.trans_ lw l1)
        | ((with_reducible refine wpList_load_blk (o := ⟨some 23, .load 26 (.tmp 3), _, _, _, none⟩) rfl _ _ rfl w.heap.size 26 x.cells _ ?_ ?_ Try.underlying26 rfl (cpu_sz _) ?_); rfl; exact b4)
        | (go_at_call 15; (with_reducible refine (KD.out _).mono ?_); rintro e w2 ⟨rfl, l2⟩; replace b4 := b4.keep l2; replace lw := Later.trans_ lw l2)
        | ((with_reducible refine wpList_load_blk (o := ⟨some 53, .load 26 (.tmp 3), _, _, _, none⟩) rfl _ _ rfl w.heap.size 26 x.cells _ ?_ ?_ Try.underlying26 rfl (cpu_sz _) ?_); rfl; exact b4)
        | (go_at_call 17; (with_reducible refine (KE.out _).mono ?_); rintro e w3 ⟨rfl, l3⟩; replace b4 := b4.keep l3; replace lw := Later.trans_ lw l3)
        | (go_at_call 15; (with_reducible refine (KD2.out _).mono ?_); rintro e w4 ⟨rfl, l4⟩; replace b4 := b4.keep l4; replace lw := Later.trans_ lw l4)
        | ((with_reducible refine wpList_load_blk (o := ⟨some 59, .load 26 (.tmp 3), _, _, _, none⟩) rfl _ _ rfl w.heap.size 26 x.cells _ ?_ ?_ Try.underlying26 rfl (cpu_sz _) ?_); rfl; exact b4)
        | (go_at_call 21; (with_reducible refine (KR.out _).mono ?_); rintro e w5 ⟨rfl, l5⟩; replace b4 := b4.keep l5; replace lw := Later.trans_ lw l5; have q1 : w5.cell? ⟨w.heap.size, 28, none⟩ = some (.bool false) := (by rw [← hh]; exact b4.cell (j := 28) (v := .bool x.hl) rfl))
        | ((with_reducible refine wpList_load_blk (o := ⟨some 86, .load 26 (.tmp 3), _, _, _, none⟩) rfl _ _ rfl w.heap.size 26 x.cells _ ?_ ?_ Try.underlying26 rfl (cpu_sz _) ?_); rfl; exact b4; clear q1)
        | (go_at_call 15; (with_reducible refine (KD3.out _).mono ?_); rintro e w6 ⟨rfl, l6⟩; replace b4 := b4.keep l6; replace lw := Later.trans_ lw l6)
        | (go_at_call 14; (with_reducible refine (KS.out _).mono ?_); rintro e w7 ⟨rfl, l7⟩; replace b4 := b4.keep l7; replace lw := Later.trans_ lw l7)
        | ((with_reducible refine wpList_load_g (o := ⟨some 103, .load 26 (.tmp 3), _, _, _, _⟩) _ _ rfl w.heap.size 26 x.cells _ ?_ ?_ ?_ Try.underlying26 ?_ (cpu_sz _) ?_); rfl; rfl; exact b4; rfl)
        | (go_at_call 21; (with_reducible refine (KR2.out _).mono ?_); rintro e w8 ⟨rfl, l8⟩; replace b4 := b4.keep l8; replace lw := Later.trans_ lw l8))
      go_ret
      exact ⟨rfl, lw⟩
    | false =>
      have hq : p % 32 = 0 := by
        unfold rdy at hR
        rw [hh] at hR
        simp at hR
        exact hR.2
      rw [hq] at hand
      have KR := Lib.hid fun w' => ready_is (b := false) hp hR w'
      have KR2 := Lib.hid fun w' => ready_is (b := false) ho1 (by rw [hr2]; exact hR) w'
      clear hR hq hr2 hle ho1 ho2 hd hN hD hv hx hp hm
      go_enter Try.func8, Try.ntmps8
      go_wp2_with (first
        | ((with_reducible refine wpList_load_blk (o := ⟨some 17, .load 26 (.tmp 3), _, _, _, none⟩) rfl _ _ rfl w.heap.size 26 x.cells _ ?_ ?_ Try.underlying26 rfl (cpu_sz _) ?_); rfl; exact b4)
        | (go_at_call 11; (with_reducible refine (KV.out _).mono ?_); rintro e w1 ⟨rfl, l1⟩; replace b4 := b4.keep l1; replace lw := Later.trans_ lw l1)
        | ((with_reducible refine wpList_load_blk (o := ⟨some 23, .load 26 (.tmp 3), _, _, _, none⟩) rfl _ _ rfl w.heap.size 26 x.cells _ ?_ ?_ Try.underlying26 rfl (cpu_sz _) ?_); rfl; exact b4)
        | (go_at_call 15; (with_reducible refine (KD.out _).mono ?_); rintro e w2 ⟨rfl, l2⟩; replace b4 := b4.keep l2; replace lw := Later.trans_ lw l2)
        | ((with_reducible refine wpList_load_blk (o := ⟨some 53, .load 26 (.tmp 3), _, _, _, none⟩) rfl _ _ rfl w.heap.size 26 x.cells _ ?_ ?_ Try.underlying26 rfl (cpu_sz _) ?_); rfl; exact b4)
        | (go_at_call 17; (with_reducible refine (KE.out _).mono ?_); rintro e w3 ⟨rfl, l3⟩; replace b4 := b4.keep l3; replace lw := Later.trans_ lw l3)
        | (go_at_call 15; (with_reducible refine (KD2.out _).mono ?_); rintro e w4 ⟨rfl, l4⟩; replace b4 := b4.keep l4; replace lw := Later.trans_ lw l4)
        | ((with_reducible refine wpList_load_blk (o := ⟨some 59, .load 26 (.tmp 3), _, _, _, none⟩) rfl _ _ rfl w.heap.size 26 x.cells _ ?_ ?_ Try.underlying26 rfl (cpu_sz _) ?_); rfl; exact b4)
        | (go_at_call 21; (with_reducible refine (KR.out _).mono ?_); rintro e w5 ⟨rfl, l5⟩; replace b4 := b4.keep l5; replace lw := Later.trans_ lw l5; have q1 : w5.cell? ⟨w.heap.size, 28, none⟩ = some (.bool false) := (by rw [← hh]; exact b4.cell (j := 28) (v := .bool x.hl) rfl))
        | ((with_reducible refine wpList_load_blk (o := ⟨some 86, .load 26 (.tmp 3), _, _, _, none⟩) rfl _ _ rfl w.heap.size 26 x.cells _ ?_ ?_ Try.underlying26 rfl (cpu_sz _) ?_); rfl; exact b4; clear q1)
        | (go_at_call 15; (with_reducible refine (KD3.out _).mono ?_); rintro e w6 ⟨rfl, l6⟩; replace b4 := b4.keep l6; replace lw := Later.trans_ lw l6)
        | (go_at_call 14; (with_reducible refine (KS.out _).mono ?_); rintro e w7 ⟨rfl, l7⟩; replace b4 := b4.keep l7; replace lw := Later.trans_ lw l7)
        | ((with_reducible refine wpList_load_g (o := ⟨some 103, .load 26 (.tmp 3), _, _, _, _⟩) _ _ rfl w.heap.size 26 x.cells _ ?_ ?_ ?_ Try.underlying26 ?_ (cpu_sz _) ?_); rfl; rfl; exact b4; rfl)
        | (go_at_call 21; (with_reducible refine (KR2.out _).mono ?_); rintro e w8 ⟨rfl, l8⟩; replace b4 := b4.keep l8; replace lw := Later.trans_ lw l8))
      go_ret
      exact ⟨rfl, lw⟩
set_option maxRecDepth 100000 in
set_option maxHeartbeats 2000000 in
theorem order_0 (x : Cpu) (p mo : Int) (w : World) (hx : x.wf) (hp : Tm.isE p) (hm : Tm.isE mo) (hv : okC x.r0 x.c5 x.c7 x.c8 x.wt x.hl x.cn = true) (hN : dueN (Tm.has x.c5 1) p = 0) (hD : dueB (Tm.has x.c5 1) p = true) (hq : p % 32 ≠ 0) (ha : p % 2 = 1) :
    Calls Try.prog 8 #[.agg x.cells.toArray, .int .u32 p, .int .u32 mo] w fun e w' => e = .returned (.bool true) ∧ Later w w' := by
  have KS := Lib.hid fun w' => sanity_any w'
  have b4 := Blk.new w 26 x.cells.toArray x.cells rfl
  have lw := later1 w (.cells x.cells.toArray 26)
  have KV := Lib.hid fun w' => rvalid_is hv w'
  have KD := Lib.hid fun w' => due_is hx.c5 hp hN hD w'
  have KE := Lib.hid fun w' => enter_any x 1 0 0 w' hx.c5
  have KD2 := Lib.hid fun w' => due_is (x := x.enter 1 0 0) (p := p) (n := 0) (b := false) (enter_e _ _ _ _) hp (by show dueN (Tm.has (b32 _ 2 + b32 _ 4) 1) p = 0; rw [st_1]; rfl) (by show dueB (Tm.has (b32 _ 2 + b32 _ 4) 1) p = false; rw [st_1]; rfl) w'
  obtain ⟨d, hd⟩ : ∃ d, d = x.enter 1 0 0 := ⟨_, rfl⟩
  rw [← hd] at KE KD2
  obtain ⟨ho1, ho2⟩ := or_mod hp hm
  obtain ⟨o, ho⟩ : ∃ o, bits .or .u32 p (mo * 32 % 4294967296) = o := ⟨_, rfl⟩
  rw [ho] at ho1 ho2
  have hle := least_mod ho2
  have KD3 := Lib.hid fun w' => due_is (n := 0) (b := true) hx.c5 ho1 ((show dueN (Tm.has x.c5 1) o = dueN (Tm.has x.c5 1) p by unfold dueN; rw [hle]).trans hN) ((show dueB (Tm.has x.c5 1) o = dueB (Tm.has x.c5 1) p by unfold dueB; rw [hle]).trans hD) w'
  have hand := and31 hp
  have a0 := and_1 hp
  rw [ha] at a0
  have a1 := and_0 hp
  clear ha
  have hr2 : rdy x.hl x.wt o = rdy x.hl x.wt p := by unfold rdy; rw [ho2]
  cases hh : x.hl with
  | true =>
    have hR : rdy x.hl x.wt p = false := by unfold rdy; rw [hh]; rfl
    have KR := Lib.hid fun w' => ready_is (b := false) hp hR w'
    have KR2 := Lib.hid fun w' => ready_is (b := false) ho1 (by rw [hr2]; exact hR) w'
    clear hR hr2 hle ho1 ho2 hd hN hD hv hx hp hm
    go_enter Try.func8, Try.ntmps8
    go_wp2_with (first
      | ((with_reducible refine wpList_load_blk (o := ⟨some 17, .load 26 (.tmp 3), _, _, _, none⟩) rfl _ _ rfl w.heap.size 26 x.cells _ ?_ ?_ Try.underlying26 rfl (cpu_sz _) ?_); rfl; exact b4)
      | (go_at_call 11; (with_reducible refine (KV.out _).mono ?_); rintro e w1 ⟨rfl, l1⟩; replace b4 := b4.keep l1; replace lw := Later.trans_ lw l1)
      | ((with_reducible refine wpList_load_blk (o := ⟨some 23, .load 26 (.tmp 3), _, _, _, none⟩) rfl _ _ rfl w.heap.size 26 x.cells _ ?_ ?_ Try.underlying26 rfl (cpu_sz _) ?_); rfl; exact b4)
      | (go_at_call 15; (with_reducible refine (KD.out _).mono ?_); rintro e w2 ⟨rfl, l2⟩; replace b4 := b4.keep l2; replace lw := Later.trans_ lw l2)
      | ((with_reducible refine wpList_load_blk (o := ⟨some 53, .load 26 (.tmp 3), _, _, _, none⟩) rfl _ _ rfl w.heap.size 26 x.cells _ ?_ ?_ Try.underlying26 rfl (cpu_sz _) ?_); rfl; exact b4)
      | (go_at_call 17; (with_reducible refine (KE.out _).mono ?_); rintro e w3 ⟨rfl, l3⟩; replace b4 := b4.keep l3; replace lw := Later.trans_ lw l3)
      | (go_at_call 15; (with_reducible refine (KD2.out _).mono ?_); rintro e w4 ⟨rfl, l4⟩; replace b4 := b4.keep l4; replace lw := Later.trans_ lw l4)
      | ((with_reducible refine wpList_load_blk (o := ⟨some 59, .load 26 (.tmp 3), _, _, _, none⟩) rfl _ _ rfl w.heap.size 26 x.cells _ ?_ ?_ Try.underlying26 rfl (cpu_sz _) ?_); rfl; exact b4)
      | (go_at_call 21; (with_reducible refine (KR.out _).mono ?_); rintro e w5 ⟨rfl, l5⟩; replace b4 := b4.keep l5; replace lw := Later.trans_ lw l5; have q1 : w5.cell? ⟨w.heap.size, 28, none⟩ = some (.bool true) := (by rw [← hh]; exact b4.cell (j := 28) (v := .bool x.hl) rfl))
      | ((with_reducible refine wpList_load_blk (o := ⟨some 86, .load 26 (.tmp 3), _, _, _, none⟩) rfl _ _ rfl w.heap.size 26 x.cells _ ?_ ?_ Try.underlying26 rfl (cpu_sz _) ?_); rfl; exact b4; clear q1)
      | (go_at_call 15; (with_reducible refine (KD3.out _).mono ?_); rintro e w6 ⟨rfl, l6⟩; replace b4 := b4.keep l6; replace lw := Later.trans_ lw l6)
      | (go_at_call 14; (with_reducible refine (KS.out _).mono ?_); rintro e w7 ⟨rfl, l7⟩; replace b4 := b4.keep l7; replace lw := Later.trans_ lw l7)
      | ((with_reducible refine wpList_load_g (o := ⟨some 103, .load 26 (.tmp 3), _, _, _, _⟩) _ _ rfl w.heap.size 26 x.cells _ ?_ ?_ ?_ Try.underlying26 ?_ (cpu_sz _) ?_); rfl; rfl; exact b4; rfl)
      | (go_at_call 21; (with_reducible refine (KR2.out _).mono ?_); rintro e w8 ⟨rfl, l8⟩; replace b4 := b4.keep l8; replace lw := Later.trans_ lw l8))
    go_ret
    exact ⟨rfl, lw⟩
  | false =>
    have hR : rdy x.hl x.wt p = true := by unfold rdy; rw [hh, decide_eq_false hq]; simp
    have KR := Lib.hid fun w' => ready_is (b := true) hp hR w'
    have KR2 := Lib.hid fun w' => ready_is (b := true) ho1 (by rw [hr2]; exact hR) w'
    clear hR hr2 hle ho1 ho2 hd hN hD hv hx hp hm
    go_enter Try.func8, Try.ntmps8
    go_wp2_with (first
      | ((with_reducible refine wpList_load_blk (o := ⟨some 17, .load 26 (.tmp 3), _, _, _, none⟩) rfl _ _ rfl w.heap.size 26 x.cells _ ?_ ?_ Try.underlying26 rfl (cpu_sz _) ?_); rfl; exact b4)
      | (go_at_call 11; (with_reducible refine (KV.out _).mono ?_); rintro e w1 ⟨rfl, l1⟩; replace b4 := b4.keep l1; replace lw := Later.trans_ lw l1)
      | ((with_reducible refine wpList_load_blk (o := ⟨some 23, .load 26 (.tmp 3), _, _, _, none⟩) rfl _ _ rfl w.heap.size 26 x.cells _ ?_ ?_ Try.underlying26 rfl (cpu_sz _) ?_); rfl; exact b4)
      | (go_at_call 15; (with_reducible refine (KD.out _).mono ?_); rintro e w2 ⟨rfl, l2⟩; replace b4 := b4.keep l2; replace lw := Later.trans_ lw l2)
      | ((with_reducible refine wpList_load_blk (o := ⟨some 53, .load 26 (.tmp 3), _, _, _, none⟩) rfl _ _ rfl w.heap.size 26 x.cells _ ?_ ?_ Try.underlying26 rfl (cpu_sz _) ?_); rfl; exact b4)
      | (go_at_call 17; (with_reducible refine (KE.out _).mono ?_); rintro e w3 ⟨rfl, l3⟩; replace b4 := b4.keep l3; replace lw := Later.trans_ lw l3)
      | (go_at_call 15; (with_reducible refine (KD2.out _).mono ?_); rintro e w4 ⟨rfl, l4⟩; replace b4 := b4.keep l4; replace lw := Later.trans_ lw l4)
      | ((with_reducible refine wpList_load_blk (o := ⟨some 59, .load 26 (.tmp 3), _, _, _, none⟩) rfl _ _ rfl w.heap.size 26 x.cells _ ?_ ?_ Try.underlying26 rfl (cpu_sz _) ?_); rfl; exact b4)
      | (go_at_call 21; (with_reducible refine (KR.out _).mono ?_); rintro e w5 ⟨rfl, l5⟩; replace b4 := b4.keep l5; replace lw := Later.trans_ lw l5; have q1 : w5.cell? ⟨w.heap.size, 28, none⟩ = some (.bool false) := (by rw [← hh]; exact b4.cell (j := 28) (v := .bool x.hl) rfl))
      | ((with_reducible refine wpList_load_blk (o := ⟨some 86, .load 26 (.tmp 3), _, _, _, none⟩) rfl _ _ rfl w.heap.size 26 x.cells _ ?_ ?_ Try.underlying26 rfl (cpu_sz _) ?_); rfl; exact b4; clear q1)
      | (go_at_call 15; (with_reducible refine (KD3.out _).mono ?_); rintro e w6 ⟨rfl, l6⟩; replace b4 := b4.keep l6; replace lw := Later.trans_ lw l6)
      | (go_at_call 14; (with_reducible refine (KS.out _).mono ?_); rintro e w7 ⟨rfl, l7⟩; replace b4 := b4.keep l7; replace lw := Later.trans_ lw l7)
      | ((with_reducible refine wpList_load_g (o := ⟨some 103, .load 26 (.tmp 3), _, _, _, _⟩) _ _ rfl w.heap.size 26 x.cells _ ?_ ?_ ?_ Try.underlying26 ?_ (cpu_sz _) ?_); rfl; rfl; exact b4; rfl)
      | (go_at_call 21; (with_reducible refine (KR2.out _).mono ?_); rintro e w8 ⟨rfl, l8⟩; replace b4 := b4.keep l8; replace lw := Later.trans_ lw l8))
    go_ret
    exact ⟨rfl, lw⟩
set_option maxRecDepth 100000 in
set_option maxHeartbeats 2000000 in
theorem order_1 (x : Cpu) (p mo : Int) (w : World) (hx : x.wf) (hp : Tm.isE p) (hm : Tm.isE mo) (hv : okC x.r0 x.c5 x.c7 x.c8 x.wt x.hl x.cn = true) (hN : dueN (Tm.has x.c5 1) p = 1) (hD : dueB (Tm.has x.c5 1) p = true) (hq : p % 32 ≠ 0) (ha : p / 2 % 2 = 1) (hb : p % 2 = 0) :
    Calls Try.prog 8 #[.agg x.cells.toArray, .int .u32 p, .int .u32 mo] w fun e w' => e = .returned (.bool true) ∧ Later w w' := by
  have KS := Lib.hid fun w' => sanity_any w'
  have b4 := Blk.new w 26 x.cells.toArray x.cells rfl
  have lw := later1 w (.cells x.cells.toArray 26)
  have KV := Lib.hid fun w' => rvalid_is hv w'
  have KD := Lib.hid fun w' => due_is hx.c5 hp hN hD w'
  have KE := Lib.hid fun w' => enter_any x 1 0 0 w' hx.c5
  have KD2 := Lib.hid fun w' => due_is (x := x.enter 1 0 0) (p := p) (n := 0) (b := false) (enter_e _ _ _ _) hp (by show dueN (Tm.has (b32 _ 2 + b32 _ 4) 1) p = 0; rw [st_1]; rfl) (by show dueB (Tm.has (b32 _ 2 + b32 _ 4) 1) p = false; rw [st_1]; rfl) w'
  obtain ⟨d, hd⟩ : ∃ d, d = x.enter 1 0 0 := ⟨_, rfl⟩
  rw [← hd] at KE KD2
  obtain ⟨ho1, ho2⟩ := or_mod hp hm
  obtain ⟨o, ho⟩ : ∃ o, bits .or .u32 p (mo * 32 % 4294967296) = o := ⟨_, rfl⟩
  rw [ho] at ho1 ho2
  have hle := least_mod ho2
  have KD3 := Lib.hid fun w' => due_is (n := 1) (b := true) hx.c5 ho1 ((show dueN (Tm.has x.c5 1) o = dueN (Tm.has x.c5 1) p by unfold dueN; rw [hle]).trans hN) ((show dueB (Tm.has x.c5 1) o = dueB (Tm.has x.c5 1) p by unfold dueB; rw [hle]).trans hD) w'
  have hand := and31 hp
  have a0 := and_1 (shr_e (x := p) 1 hp)
  rw [show p / 2 ^ 1 = p / 2 from rfl, ha] at a0
  have a1 := and_1 hp
  rw [hb] at a1
  clear ha hb
  have hr2 : rdy x.hl x.wt o = rdy x.hl x.wt p := by unfold rdy; rw [ho2]
  cases hh : x.hl with
  | true =>
    have hR : rdy x.hl x.wt p = false := by unfold rdy; rw [hh]; rfl
    have KR := Lib.hid fun w' => ready_is (b := false) hp hR w'
    have KR2 := Lib.hid fun w' => ready_is (b := false) ho1 (by rw [hr2]; exact hR) w'
    clear hR hr2 hle ho1 ho2 hd hN hD hv hx hp hm
    go_enter Try.func8, Try.ntmps8
    go_wp2_with (first
      | ((with_reducible refine wpList_load_blk (o := ⟨some 17, .load 26 (.tmp 3), _, _, _, none⟩) rfl _ _ rfl w.heap.size 26 x.cells _ ?_ ?_ Try.underlying26 rfl (cpu_sz _) ?_); rfl; exact b4)
      | (go_at_call 11; (with_reducible refine (KV.out _).mono ?_); rintro e w1 ⟨rfl, l1⟩; replace b4 := b4.keep l1; replace lw := Later.trans_ lw l1)
      | ((with_reducible refine wpList_load_blk (o := ⟨some 23, .load 26 (.tmp 3), _, _, _, none⟩) rfl _ _ rfl w.heap.size 26 x.cells _ ?_ ?_ Try.underlying26 rfl (cpu_sz _) ?_); rfl; exact b4)
      | (go_at_call 15; (with_reducible refine (KD.out _).mono ?_); rintro e w2 ⟨rfl, l2⟩; replace b4 := b4.keep l2; replace lw := Later.trans_ lw l2)
      | ((with_reducible refine wpList_load_blk (o := ⟨some 53, .load 26 (.tmp 3), _, _, _, none⟩) rfl _ _ rfl w.heap.size 26 x.cells _ ?_ ?_ Try.underlying26 rfl (cpu_sz _) ?_); rfl; exact b4)
      | (go_at_call 17; (with_reducible refine (KE.out _).mono ?_); rintro e w3 ⟨rfl, l3⟩; replace b4 := b4.keep l3; replace lw := Later.trans_ lw l3)
      | (go_at_call 15; (with_reducible refine (KD2.out _).mono ?_); rintro e w4 ⟨rfl, l4⟩; replace b4 := b4.keep l4; replace lw := Later.trans_ lw l4)
      | ((with_reducible refine wpList_load_blk (o := ⟨some 59, .load 26 (.tmp 3), _, _, _, none⟩) rfl _ _ rfl w.heap.size 26 x.cells _ ?_ ?_ Try.underlying26 rfl (cpu_sz _) ?_); rfl; exact b4)
      | (go_at_call 21; (with_reducible refine (KR.out _).mono ?_); rintro e w5 ⟨rfl, l5⟩; replace b4 := b4.keep l5; replace lw := Later.trans_ lw l5; have q1 : w5.cell? ⟨w.heap.size, 28, none⟩ = some (.bool true) := (by rw [← hh]; exact b4.cell (j := 28) (v := .bool x.hl) rfl))
      | ((with_reducible refine wpList_load_blk (o := ⟨some 86, .load 26 (.tmp 3), _, _, _, none⟩) rfl _ _ rfl w.heap.size 26 x.cells _ ?_ ?_ Try.underlying26 rfl (cpu_sz _) ?_); rfl; exact b4; clear q1)
      | (go_at_call 15; (with_reducible refine (KD3.out _).mono ?_); rintro e w6 ⟨rfl, l6⟩; replace b4 := b4.keep l6; replace lw := Later.trans_ lw l6)
      | (go_at_call 14; (with_reducible refine (KS.out _).mono ?_); rintro e w7 ⟨rfl, l7⟩; replace b4 := b4.keep l7; replace lw := Later.trans_ lw l7)
      | ((with_reducible refine wpList_load_g (o := ⟨some 103, .load 26 (.tmp 3), _, _, _, _⟩) _ _ rfl w.heap.size 26 x.cells _ ?_ ?_ ?_ Try.underlying26 ?_ (cpu_sz _) ?_); rfl; rfl; exact b4; rfl)
      | (go_at_call 21; (with_reducible refine (KR2.out _).mono ?_); rintro e w8 ⟨rfl, l8⟩; replace b4 := b4.keep l8; replace lw := Later.trans_ lw l8))
    go_ret
    exact ⟨rfl, lw⟩
  | false =>
    have hR : rdy x.hl x.wt p = true := by unfold rdy; rw [hh, decide_eq_false hq]; simp
    have KR := Lib.hid fun w' => ready_is (b := true) hp hR w'
    have KR2 := Lib.hid fun w' => ready_is (b := true) ho1 (by rw [hr2]; exact hR) w'
    clear hR hr2 hle ho1 ho2 hd hN hD hv hx hp hm
    go_enter Try.func8, Try.ntmps8
    go_wp2_with (first
      | ((with_reducible refine wpList_load_blk (o := ⟨some 17, .load 26 (.tmp 3), _, _, _, none⟩) rfl _ _ rfl w.heap.size 26 x.cells _ ?_ ?_ Try.underlying26 rfl (cpu_sz _) ?_); rfl; exact b4)
      | (go_at_call 11; (with_reducible refine (KV.out _).mono ?_); rintro e w1 ⟨rfl, l1⟩; replace b4 := b4.keep l1; replace lw := Later.trans_ lw l1)
      | ((with_reducible refine wpList_load_blk (o := ⟨some 23, .load 26 (.tmp 3), _, _, _, none⟩) rfl _ _ rfl w.heap.size 26 x.cells _ ?_ ?_ Try.underlying26 rfl (cpu_sz _) ?_); rfl; exact b4)
      | (go_at_call 15; (with_reducible refine (KD.out _).mono ?_); rintro e w2 ⟨rfl, l2⟩; replace b4 := b4.keep l2; replace lw := Later.trans_ lw l2)
      | ((with_reducible refine wpList_load_blk (o := ⟨some 53, .load 26 (.tmp 3), _, _, _, none⟩) rfl _ _ rfl w.heap.size 26 x.cells _ ?_ ?_ Try.underlying26 rfl (cpu_sz _) ?_); rfl; exact b4)
      | (go_at_call 17; (with_reducible refine (KE.out _).mono ?_); rintro e w3 ⟨rfl, l3⟩; replace b4 := b4.keep l3; replace lw := Later.trans_ lw l3)
      | (go_at_call 15; (with_reducible refine (KD2.out _).mono ?_); rintro e w4 ⟨rfl, l4⟩; replace b4 := b4.keep l4; replace lw := Later.trans_ lw l4)
      | ((with_reducible refine wpList_load_blk (o := ⟨some 59, .load 26 (.tmp 3), _, _, _, none⟩) rfl _ _ rfl w.heap.size 26 x.cells _ ?_ ?_ Try.underlying26 rfl (cpu_sz _) ?_); rfl; exact b4)
      | (go_at_call 21; (with_reducible refine (KR.out _).mono ?_); rintro e w5 ⟨rfl, l5⟩; replace b4 := b4.keep l5; replace lw := Later.trans_ lw l5; have q1 : w5.cell? ⟨w.heap.size, 28, none⟩ = some (.bool false) := (by rw [← hh]; exact b4.cell (j := 28) (v := .bool x.hl) rfl))
      | ((with_reducible refine wpList_load_blk (o := ⟨some 86, .load 26 (.tmp 3), _, _, _, none⟩) rfl _ _ rfl w.heap.size 26 x.cells _ ?_ ?_ Try.underlying26 rfl (cpu_sz _) ?_); rfl; exact b4; clear q1)
      | (go_at_call 15; (with_reducible refine (KD3.out _).mono ?_); rintro e w6 ⟨rfl, l6⟩; replace b4 := b4.keep l6; replace lw := Later.trans_ lw l6)
      | (go_at_call 14; (with_reducible refine (KS.out _).mono ?_); rintro e w7 ⟨rfl, l7⟩; replace b4 := b4.keep l7; replace lw := Later.trans_ lw l7)
      | ((with_reducible refine wpList_load_g (o := ⟨some 103, .load 26 (.tmp 3), _, _, _, _⟩) _ _ rfl w.heap.size 26 x.cells _ ?_ ?_ ?_ Try.underlying26 ?_ (cpu_sz _) ?_); rfl; rfl; exact b4; rfl)
      | (go_at_call 21; (with_reducible refine (KR2.out _).mono ?_); rintro e w8 ⟨rfl, l8⟩; replace b4 := b4.keep l8; replace lw := Later.trans_ lw l8))
    go_ret
    exact ⟨rfl, lw⟩
set_option maxRecDepth 100000 in
set_option maxHeartbeats 2000000 in
theorem order_2 (x : Cpu) (p mo : Int) (w : World) (hx : x.wf) (hp : Tm.isE p) (hm : Tm.isE mo) (hv : okC x.r0 x.c5 x.c7 x.c8 x.wt x.hl x.cn = true) (hN : dueN (Tm.has x.c5 1) p = 2) (hD : dueB (Tm.has x.c5 1) p = true) (hq : p % 32 ≠ 0) (ha : p / 4 % 2 = 1) (hb : p % 4 = 0) :
    Calls Try.prog 8 #[.agg x.cells.toArray, .int .u32 p, .int .u32 mo] w fun e w' => e = .returned (.bool true) ∧ Later w w' := by
  have KS := Lib.hid fun w' => sanity_any w'
  have b4 := Blk.new w 26 x.cells.toArray x.cells rfl
  have lw := later1 w (.cells x.cells.toArray 26)
  have KV := Lib.hid fun w' => rvalid_is hv w'
  have KD := Lib.hid fun w' => due_is hx.c5 hp hN hD w'
  have KE := Lib.hid fun w' => enter_any x 1 0 0 w' hx.c5
  have KD2 := Lib.hid fun w' => due_is (x := x.enter 1 0 0) (p := p) (n := 0) (b := false) (enter_e _ _ _ _) hp (by show dueN (Tm.has (b32 _ 2 + b32 _ 4) 1) p = 0; rw [st_1]; rfl) (by show dueB (Tm.has (b32 _ 2 + b32 _ 4) 1) p = false; rw [st_1]; rfl) w'
  obtain ⟨d, hd⟩ : ∃ d, d = x.enter 1 0 0 := ⟨_, rfl⟩
  rw [← hd] at KE KD2
  obtain ⟨ho1, ho2⟩ := or_mod hp hm
  obtain ⟨o, ho⟩ : ∃ o, bits .or .u32 p (mo * 32 % 4294967296) = o := ⟨_, rfl⟩
  rw [ho] at ho1 ho2
  have hle := least_mod ho2
  have KD3 := Lib.hid fun w' => due_is (n := 2) (b := true) hx.c5 ho1 ((show dueN (Tm.has x.c5 1) o = dueN (Tm.has x.c5 1) p by unfold dueN; rw [hle]).trans hN) ((show dueB (Tm.has x.c5 1) o = dueB (Tm.has x.c5 1) p by unfold dueB; rw [hle]).trans hD) w'
  have hand := and31 hp
  have a0 := and_1 (shr_e (x := p) 2 hp)
  rw [show p / 2 ^ 2 = p / 4 from rfl, ha] at a0
  have a1 := and_3 hp
  rw [hb] at a1
  clear ha hb
  have hr2 : rdy x.hl x.wt o = rdy x.hl x.wt p := by unfold rdy; rw [ho2]
  cases hh : x.hl with
  | true =>
    have hR : rdy x.hl x.wt p = false := by unfold rdy; rw [hh]; rfl
    have KR := Lib.hid fun w' => ready_is (b := false) hp hR w'
    have KR2 := Lib.hid fun w' => ready_is (b := false) ho1 (by rw [hr2]; exact hR) w'
    clear hR hr2 hle ho1 ho2 hd hN hD hv hx hp hm
    go_enter Try.func8, Try.ntmps8
    go_wp2_with (first
      | ((with_reducible refine wpList_load_blk (o := ⟨some 17, .load 26 (.tmp 3), _, _, _, none⟩) rfl _ _ rfl w.heap.size 26 x.cells _ ?_ ?_ Try.underlying26 rfl (cpu_sz _) ?_); rfl; exact b4)
      | (go_at_call 11; (with_reducible refine (KV.out _).mono ?_); rintro e w1 ⟨rfl, l1⟩; replace b4 := b4.keep l1; replace lw := Later.trans_ lw l1)
      | ((with_reducible refine wpList_load_blk (o := ⟨some 23, .load 26 (.tmp 3), _, _, _, none⟩) rfl _ _ rfl w.heap.size 26 x.cells _ ?_ ?_ Try.underlying26 rfl (cpu_sz _) ?_); rfl; exact b4)
      | (go_at_call 15; (with_reducible refine (KD.out _).mono ?_); rintro e w2 ⟨rfl, l2⟩; replace b4 := b4.keep l2; replace lw := Later.trans_ lw l2)
      | ((with_reducible refine wpList_load_blk (o := ⟨some 53, .load 26 (.tmp 3), _, _, _, none⟩) rfl _ _ rfl w.heap.size 26 x.cells _ ?_ ?_ Try.underlying26 rfl (cpu_sz _) ?_); rfl; exact b4)
      | (go_at_call 17; (with_reducible refine (KE.out _).mono ?_); rintro e w3 ⟨rfl, l3⟩; replace b4 := b4.keep l3; replace lw := Later.trans_ lw l3)
      | (go_at_call 15; (with_reducible refine (KD2.out _).mono ?_); rintro e w4 ⟨rfl, l4⟩; replace b4 := b4.keep l4; replace lw := Later.trans_ lw l4)
      | ((with_reducible refine wpList_load_blk (o := ⟨some 59, .load 26 (.tmp 3), _, _, _, none⟩) rfl _ _ rfl w.heap.size 26 x.cells _ ?_ ?_ Try.underlying26 rfl (cpu_sz _) ?_); rfl; exact b4)
      | (go_at_call 21; (with_reducible refine (KR.out _).mono ?_); rintro e w5 ⟨rfl, l5⟩; replace b4 := b4.keep l5; replace lw := Later.trans_ lw l5; have q1 : w5.cell? ⟨w.heap.size, 28, none⟩ = some (.bool true) := (by rw [← hh]; exact b4.cell (j := 28) (v := .bool x.hl) rfl))
      | ((with_reducible refine wpList_load_blk (o := ⟨some 86, .load 26 (.tmp 3), _, _, _, none⟩) rfl _ _ rfl w.heap.size 26 x.cells _ ?_ ?_ Try.underlying26 rfl (cpu_sz _) ?_); rfl; exact b4; clear q1)
      | (go_at_call 15; (with_reducible refine (KD3.out _).mono ?_); rintro e w6 ⟨rfl, l6⟩; replace b4 := b4.keep l6; replace lw := Later.trans_ lw l6)
      | (go_at_call 14; (with_reducible refine (KS.out _).mono ?_); rintro e w7 ⟨rfl, l7⟩; replace b4 := b4.keep l7; replace lw := Later.trans_ lw l7)
      | ((with_reducible refine wpList_load_g (o := ⟨some 103, .load 26 (.tmp 3), _, _, _, _⟩) _ _ rfl w.heap.size 26 x.cells _ ?_ ?_ ?_ Try.underlying26 ?_ (cpu_sz _) ?_); rfl; rfl; exact b4; rfl)
      | (go_at_call 21; (with_reducible refine (KR2.out _).mono ?_); rintro e w8 ⟨rfl, l8⟩; replace b4 := b4.keep l8; replace lw := Later.trans_ lw l8))
    go_ret
    exact ⟨rfl, lw⟩
  | false =>
    have hR : rdy x.hl x.wt p = true := by unfold rdy; rw [hh, decide_eq_false hq]; simp
    have KR := Lib.hid fun w' => ready_is (b := true) hp hR w'
    have KR2 := Lib.hid fun w' => ready_is (b := true) ho1 (by rw [hr2]; exact hR) w'
    clear hR hr2 hle ho1 ho2 hd hN hD hv hx hp hm
    go_enter Try.func8, Try.ntmps8
    go_wp2_with (first
      | ((with_reducible refine wpList_load_blk (o := ⟨some 17, .load 26 (.tmp 3), _, _, _, none⟩) rfl _ _ rfl w.heap.size 26 x.cells _ ?_ ?_ Try.underlying26 rfl (cpu_sz _) ?_); rfl; exact b4)
      | (go_at_call 11; (with_reducible refine (KV.out _).mono ?_); rintro e w1 ⟨rfl, l1⟩; replace b4 := b4.keep l1; replace lw := Later.trans_ lw l1)
      | ((with_reducible refine wpList_load_blk (o := ⟨some 23, .load 26 (.tmp 3), _, _, _, none⟩) rfl _ _ rfl w.heap.size 26 x.cells _ ?_ ?_ Try.underlying26 rfl (cpu_sz _) ?_); rfl; exact b4)
      | (go_at_call 15; (with_reducible refine (KD.out _).mono ?_); rintro e w2 ⟨rfl, l2⟩; replace b4 := b4.keep l2; replace lw := Later.trans_ lw l2)
      | ((with_reducible refine wpList_load_blk (o := ⟨some 53, .load 26 (.tmp 3), _, _, _, none⟩) rfl _ _ rfl w.heap.size 26 x.cells _ ?_ ?_ Try.underlying26 rfl (cpu_sz _) ?_); rfl; exact b4)
      | (go_at_call 17; (with_reducible refine (KE.out _).mono ?_); rintro e w3 ⟨rfl, l3⟩; replace b4 := b4.keep l3; replace lw := Later.trans_ lw l3)
      | (go_at_call 15; (with_reducible refine (KD2.out _).mono ?_); rintro e w4 ⟨rfl, l4⟩; replace b4 := b4.keep l4; replace lw := Later.trans_ lw l4)
      | ((with_reducible refine wpList_load_blk (o := ⟨some 59, .load 26 (.tmp 3), _, _, _, none⟩) rfl _ _ rfl w.heap.size 26 x.cells _ ?_ ?_ Try.underlying26 rfl (cpu_sz _) ?_); rfl; exact b4)
      | (go_at_call 21; (with_reducible refine (KR.out _).mono ?_); rintro e w5 ⟨rfl, l5⟩; replace b4 := b4.keep l5; replace lw := Later.trans_ lw l5; have q1 : w5.cell? ⟨w.heap.size, 28, none⟩ = some (.bool false) := (by rw [← hh]; exact b4.cell (j := 28) (v := .bool x.hl) rfl))
      | ((with_reducible refine wpList_load_blk (o := ⟨some 86, .load 26 (.tmp 3), _, _, _, none⟩) rfl _ _ rfl w.heap.size 26 x.cells _ ?_ ?_ Try.underlying26 rfl (cpu_sz _) ?_); rfl; exact b4; clear q1)
      | (go_at_call 15; (with_reducible refine (KD3.out _).mono ?_); rintro e w6 ⟨rfl, l6⟩; replace b4 := b4.keep l6; replace lw := Later.trans_ lw l6)
      | (go_at_call 14; (with_reducible refine (KS.out _).mono ?_); rintro e w7 ⟨rfl, l7⟩; replace b4 := b4.keep l7; replace lw := Later.trans_ lw l7)
      | ((with_reducible refine wpList_load_g (o := ⟨some 103, .load 26 (.tmp 3), _, _, _, _⟩) _ _ rfl w.heap.size 26 x.cells _ ?_ ?_ ?_ Try.underlying26 ?_ (cpu_sz _) ?_); rfl; rfl; exact b4; rfl)
      | (go_at_call 21; (with_reducible refine (KR2.out _).mono ?_); rintro e w8 ⟨rfl, l8⟩; replace b4 := b4.keep l8; replace lw := Later.trans_ lw l8))
    go_ret
    exact ⟨rfl, lw⟩
set_option maxRecDepth 100000 in
set_option maxHeartbeats 2000000 in
theorem order_3 (x : Cpu) (p mo : Int) (w : World) (hx : x.wf) (hp : Tm.isE p) (hm : Tm.isE mo) (hv : okC x.r0 x.c5 x.c7 x.c8 x.wt x.hl x.cn = true) (hN : dueN (Tm.has x.c5 1) p = 3) (hD : dueB (Tm.has x.c5 1) p = true) (hq : p % 32 ≠ 0) (ha : p / 8 % 2 = 1) (hb : p % 8 = 0) :
    Calls Try.prog 8 #[.agg x.cells.toArray, .int .u32 p, .int .u32 mo] w fun e w' => e = .returned (.bool true) ∧ Later w w' := by
  have KS := Lib.hid fun w' => sanity_any w'
  have b4 := Blk.new w 26 x.cells.toArray x.cells rfl
  have lw := later1 w (.cells x.cells.toArray 26)
  have KV := Lib.hid fun w' => rvalid_is hv w'
  have KD := Lib.hid fun w' => due_is hx.c5 hp hN hD w'
  have KE := Lib.hid fun w' => enter_any x 1 0 0 w' hx.c5
  have KD2 := Lib.hid fun w' => due_is (x := x.enter 1 0 0) (p := p) (n := 0) (b := false) (enter_e _ _ _ _) hp (by show dueN (Tm.has (b32 _ 2 + b32 _ 4) 1) p = 0; rw [st_1]; rfl) (by show dueB (Tm.has (b32 _ 2 + b32 _ 4) 1) p = false; rw [st_1]; rfl) w'
  obtain ⟨d, hd⟩ : ∃ d, d = x.enter 1 0 0 := ⟨_, rfl⟩
  rw [← hd] at KE KD2
  obtain ⟨ho1, ho2⟩ := or_mod hp hm
  obtain ⟨o, ho⟩ : ∃ o, bits .or .u32 p (mo * 32 % 4294967296) = o := ⟨_, rfl⟩
  rw [ho] at ho1 ho2
  have hle := least_mod ho2
  have KD3 := Lib.hid fun w' => due_is (n := 3) (b := true) hx.c5 ho1 ((show dueN (Tm.has x.c5 1) o = dueN (Tm.has x.c5 1) p by unfold dueN; rw [hle]).trans hN) ((show dueB (Tm.has x.c5 1) o = dueB (Tm.has x.c5 1) p by unfold dueB; rw [hle]).trans hD) w'
  have hand := and31 hp
  have a0 := and_1 (shr_e (x := p) 3 hp)
  rw [show p / 2 ^ 3 = p / 8 from rfl, ha] at a0
  have a1 := and7 hp
  rw [hb] at a1
  clear ha hb
  have hr2 : rdy x.hl x.wt o = rdy x.hl x.wt p := by unfold rdy; rw [ho2]
  cases hh : x.hl with
  | true =>
    have hR : rdy x.hl x.wt p = false := by unfold rdy; rw [hh]; rfl
    have KR := Lib.hid fun w' => ready_is (b := false) hp hR w'
    have KR2 := Lib.hid fun w' => ready_is (b := false) ho1 (by rw [hr2]; exact hR) w'
    clear hR hr2 hle ho1 ho2 hd hN hD hv hx hp hm
    go_enter Try.func8, Try.ntmps8
    go_wp2_with (first
      | ((with_reducible refine wpList_load_blk (o := ⟨some 17, .load 26 (.tmp 3), _, _, _, none⟩) rfl _ _ rfl w.heap.size 26 x.cells _ ?_ ?_ Try.underlying26 rfl (cpu_sz _) ?_); rfl; exact b4)
      | (go_at_call 11; (with_reducible refine (KV.out _).mono ?_); rintro e w1 ⟨rfl, l1⟩; replace b4 := b4.keep l1; replace lw := Later.trans_ lw l1)
      | ((with_reducible refine wpList_load_blk (o := ⟨some 23, .load 26 (.tmp 3), _, _, _, none⟩) rfl _ _ rfl w.heap.size 26 x.cells _ ?_ ?_ Try.underlying26 rfl (cpu_sz _) ?_); rfl; exact b4)
      | (go_at_call 15; (with_reducible refine (KD.out _).mono ?_); rintro e w2 ⟨rfl, l2⟩; replace b4 := b4.keep l2; replace lw := Later.trans_ lw l2)
      | ((with_reducible refine wpList_load_blk (o := ⟨some 53, .load 26 (.tmp 3), _, _, _, none⟩) rfl _ _ rfl w.heap.size 26 x.cells _ ?_ ?_ Try.underlying26 rfl (cpu_sz _) ?_); rfl; exact b4)
      | (go_at_call 17; (with_reducible refine (KE.out _).mono ?_); rintro e w3 ⟨rfl, l3⟩; replace b4 := b4.keep l3; replace lw := Later.trans_ lw l3)
      | (go_at_call 15; (with_reducible refine (KD2.out _).mono ?_); rintro e w4 ⟨rfl, l4⟩; replace b4 := b4.keep l4; replace lw := Later.trans_ lw l4)
      | ((with_reducible refine wpList_load_blk (o := ⟨some 59, .load 26 (.tmp 3), _, _, _, none⟩) rfl _ _ rfl w.heap.size 26 x.cells _ ?_ ?_ Try.underlying26 rfl (cpu_sz _) ?_); rfl; exact b4)
      | (go_at_call 21; (with_reducible refine (KR.out _).mono ?_); rintro e w5 ⟨rfl, l5⟩; replace b4 := b4.keep l5; replace lw := Later.trans_ lw l5; have q1 : w5.cell? ⟨w.heap.size, 28, none⟩ = some (.bool true) := (by rw [← hh]; exact b4.cell (j := 28) (v := .bool x.hl) rfl))
      | ((with_reducible refine wpList_load_blk (o := ⟨some 86, .load 26 (.tmp 3), _, _, _, none⟩) rfl _ _ rfl w.heap.size 26 x.cells _ ?_ ?_ Try.underlying26 rfl (cpu_sz _) ?_); rfl; exact b4; clear q1)
      | (go_at_call 15; (with_reducible refine (KD3.out _).mono ?_); rintro e w6 ⟨rfl, l6⟩; replace b4 := b4.keep l6; replace lw := Later.trans_ lw l6)
      | (go_at_call 14; (with_reducible refine (KS.out _).mono ?_); rintro e w7 ⟨rfl, l7⟩; replace b4 := b4.keep l7; replace lw := Later.trans_ lw l7)
      | ((with_reducible refine wpList_load_g (o := ⟨some 103, .load 26 (.tmp 3), _, _, _, _⟩) _ _ rfl w.heap.size 26 x.cells _ ?_ ?_ ?_ Try.underlying26 ?_ (cpu_sz _) ?_); rfl; rfl; exact b4; rfl)
      | (go_at_call 21; (with_reducible refine (KR2.out _).mono ?_); rintro e w8 ⟨rfl, l8⟩; replace b4 := b4.keep l8; replace lw := Later.trans_ lw l8))
    go_ret
    exact ⟨rfl, lw⟩
  | false =>
    have hR : rdy x.hl x.wt p = true := by unfold rdy; rw [hh, decide_eq_false hq]; simp
    have KR := Lib.hid fun w' => ready_is (b := true) hp hR w'
    have KR2 := Lib.hid fun w' => ready_is (b := true) ho1 (by rw [hr2]; exact hR) w'
    clear hR hr2 hle ho1 ho2 hd hN hD hv hx hp hm
    go_enter Try.func8, Try.ntmps8
    go_wp2_with (first
      | ((with_reducible refine wpList_load_blk (o := ⟨some 17, .load 26 (.tmp 3), _, _, _, none⟩) rfl _ _ rfl w.heap.size 26 x.cells _ ?_ ?_ Try.underlying26 rfl (cpu_sz _) ?_); rfl; exact b4)
      | (go_at_call 11; (with_reducible refine (KV.out _).mono ?_); rintro e w1 ⟨rfl, l1⟩; replace b4 := b4.keep l1; replace lw := Later.trans_ lw l1)
      | ((with_reducible refine wpList_load_blk (o := ⟨some 23, .load 26 (.tmp 3), _, _, _, none⟩) rfl _ _ rfl w.heap.size 26 x.cells _ ?_ ?_ Try.underlying26 rfl (cpu_sz _) ?_); rfl; exact b4)
      | (go_at_call 15; (with_reducible refine (KD.out _).mono ?_); rintro e w2 ⟨rfl, l2⟩; replace b4 := b4.keep l2; replace lw := Later.trans_ lw l2)
      | ((with_reducible refine wpList_load_blk (o := ⟨some 53, .load 26 (.tmp 3), _, _, _, none⟩) rfl _ _ rfl w.heap.size 26 x.cells _ ?_ ?_ Try.underlying26 rfl (cpu_sz _) ?_); rfl; exact b4)
      | (go_at_call 17; (with_reducible refine (KE.out _).mono ?_); rintro e w3 ⟨rfl, l3⟩; replace b4 := b4.keep l3; replace lw := Later.trans_ lw l3)
      | (go_at_call 15; (with_reducible refine (KD2.out _).mono ?_); rintro e w4 ⟨rfl, l4⟩; replace b4 := b4.keep l4; replace lw := Later.trans_ lw l4)
      | ((with_reducible refine wpList_load_blk (o := ⟨some 59, .load 26 (.tmp 3), _, _, _, none⟩) rfl _ _ rfl w.heap.size 26 x.cells _ ?_ ?_ Try.underlying26 rfl (cpu_sz _) ?_); rfl; exact b4)
      | (go_at_call 21; (with_reducible refine (KR.out _).mono ?_); rintro e w5 ⟨rfl, l5⟩; replace b4 := b4.keep l5; replace lw := Later.trans_ lw l5; have q1 : w5.cell? ⟨w.heap.size, 28, none⟩ = some (.bool false) := (by rw [← hh]; exact b4.cell (j := 28) (v := .bool x.hl) rfl))
      | ((with_reducible refine wpList_load_blk (o := ⟨some 86, .load 26 (.tmp 3), _, _, _, none⟩) rfl _ _ rfl w.heap.size 26 x.cells _ ?_ ?_ Try.underlying26 rfl (cpu_sz _) ?_); rfl; exact b4; clear q1)
      | (go_at_call 15; (with_reducible refine (KD3.out _).mono ?_); rintro e w6 ⟨rfl, l6⟩; replace b4 := b4.keep l6; replace lw := Later.trans_ lw l6)
      | (go_at_call 14; (with_reducible refine (KS.out _).mono ?_); rintro e w7 ⟨rfl, l7⟩; replace b4 := b4.keep l7; replace lw := Later.trans_ lw l7)
      | ((with_reducible refine wpList_load_g (o := ⟨some 103, .load 26 (.tmp 3), _, _, _, _⟩) _ _ rfl w.heap.size 26 x.cells _ ?_ ?_ ?_ Try.underlying26 ?_ (cpu_sz _) ?_); rfl; rfl; exact b4; rfl)
      | (go_at_call 21; (with_reducible refine (KR2.out _).mono ?_); rintro e w8 ⟨rfl, l8⟩; replace b4 := b4.keep l8; replace lw := Later.trans_ lw l8))
    go_ret
    exact ⟨rfl, lw⟩
set_option maxRecDepth 100000 in
set_option maxHeartbeats 2000000 in
theorem order_4 (x : Cpu) (p mo : Int) (w : World) (hx : x.wf) (hp : Tm.isE p) (hm : Tm.isE mo) (hv : okC x.r0 x.c5 x.c7 x.c8 x.wt x.hl x.cn = true) (hN : dueN (Tm.has x.c5 1) p = 4) (hD : dueB (Tm.has x.c5 1) p = true) (hq : p % 32 ≠ 0) (ha : p / 16 % 2 = 1) (hb : p % 16 = 0) :
    Calls Try.prog 8 #[.agg x.cells.toArray, .int .u32 p, .int .u32 mo] w fun e w' => e = .returned (.bool true) ∧ Later w w' := by
  have KS := Lib.hid fun w' => sanity_any w'
  have b4 := Blk.new w 26 x.cells.toArray x.cells rfl
  have lw := later1 w (.cells x.cells.toArray 26)
  have KV := Lib.hid fun w' => rvalid_is hv w'
  have KD := Lib.hid fun w' => due_is hx.c5 hp hN hD w'
  have KE := Lib.hid fun w' => enter_any x 1 0 0 w' hx.c5
  have KD2 := Lib.hid fun w' => due_is (x := x.enter 1 0 0) (p := p) (n := 0) (b := false) (enter_e _ _ _ _) hp (by show dueN (Tm.has (b32 _ 2 + b32 _ 4) 1) p = 0; rw [st_1]; rfl) (by show dueB (Tm.has (b32 _ 2 + b32 _ 4) 1) p = false; rw [st_1]; rfl) w'
  obtain ⟨d, hd⟩ : ∃ d, d = x.enter 1 0 0 := ⟨_, rfl⟩
  rw [← hd] at KE KD2
  obtain ⟨ho1, ho2⟩ := or_mod hp hm
  obtain ⟨o, ho⟩ : ∃ o, bits .or .u32 p (mo * 32 % 4294967296) = o := ⟨_, rfl⟩
  rw [ho] at ho1 ho2
  have hle := least_mod ho2
  have KD3 := Lib.hid fun w' => due_is (n := 4) (b := true) hx.c5 ho1 ((show dueN (Tm.has x.c5 1) o = dueN (Tm.has x.c5 1) p by unfold dueN; rw [hle]).trans hN) ((show dueB (Tm.has x.c5 1) o = dueB (Tm.has x.c5 1) p by unfold dueB; rw [hle]).trans hD) w'
  have hand := and31 hp
  have a0 := and_1 (shr_e (x := p) 4 hp)
  rw [show p / 2 ^ 4 = p / 16 from rfl, ha] at a0
  have a1 := and_15 hp
  rw [hb] at a1
  clear ha hb
  have hr2 : rdy x.hl x.wt o = rdy x.hl x.wt p := by unfold rdy; rw [ho2]
  cases hh : x.hl with
  | true =>
    have hR : rdy x.hl x.wt p = false := by unfold rdy; rw [hh]; rfl
    have KR := Lib.hid fun w' => ready_is (b := false) hp hR w'
    have KR2 := Lib.hid fun w' => ready_is (b := false) ho1 (by rw [hr2]; exact hR) w'
    clear hR hr2 hle ho1 ho2 hd hN hD hv hx hp hm
    go_enter Try.func8, Try.ntmps8
    go_wp2_with (first
      | ((with_reducible refine wpList_load_blk (o := ⟨some 17, .load 26 (.tmp 3), _, _, _, none⟩) rfl _ _ rfl w.heap.size 26 x.cells _ ?_ ?_ Try.underlying26 rfl (cpu_sz _) ?_); rfl; exact b4)
      | (go_at_call 11; (with_reducible refine (KV.out _).mono ?_); rintro e w1 ⟨rfl, l1⟩; replace b4 := b4.keep l1; replace lw := Later.trans_ lw l1)
      | ((with_reducible refine wpList_load_blk (o := ⟨some 23, .load 26 (.tmp 3), _, _, _, none⟩) rfl _ _ rfl w.heap.size 26 x.cells _ ?_ ?_ Try.underlying26 rfl (cpu_sz _) ?_); rfl; exact b4)
      | (go_at_call 15; (with_reducible refine (KD.out _).mono ?_); rintro e w2 ⟨rfl, l2⟩; replace b4 := b4.keep l2; replace lw := Later.trans_ lw l2)
      | ((with_reducible refine wpList_load_blk (o := ⟨some 53, .load 26 (.tmp 3), _, _, _, none⟩) rfl _ _ rfl w.heap.size 26 x.cells _ ?_ ?_ Try.underlying26 rfl (cpu_sz _) ?_); rfl; exact b4)
      | (go_at_call 17; (with_reducible refine (KE.out _).mono ?_); rintro e w3 ⟨rfl, l3⟩; replace b4 := b4.keep l3; replace lw := Later.trans_ lw l3)
      | (go_at_call 15; (with_reducible refine (KD2.out _).mono ?_); rintro e w4 ⟨rfl, l4⟩; replace b4 := b4.keep l4; replace lw := Later.trans_ lw l4)
      | ((with_reducible refine wpList_load_blk (o := ⟨some 59, .load 26 (.tmp 3), _, _, _, none⟩) rfl _ _ rfl w.heap.size 26 x.cells _ ?_ ?_ Try.underlying26 rfl (cpu_sz _) ?_); rfl; exact b4)
      | (go_at_call 21; (with_reducible refine (KR.out _).mono ?_); rintro e w5 ⟨rfl, l5⟩; replace b4 := b4.keep l5; replace lw := Later.trans_ lw l5; have q1 : w5.cell? ⟨w.heap.size, 28, none⟩ = some (.bool true) := (by rw [← hh]; exact b4.cell (j := 28) (v := .bool x.hl) rfl))
      | ((with_reducible refine wpList_load_blk (o := ⟨some 86, .load 26 (.tmp 3), _, _, _, none⟩) rfl _ _ rfl w.heap.size 26 x.cells _ ?_ ?_ Try.underlying26 rfl (cpu_sz _) ?_); rfl; exact b4; clear q1)
      | (go_at_call 15; (with_reducible refine (KD3.out _).mono ?_); rintro e w6 ⟨rfl, l6⟩; replace b4 := b4.keep l6; replace lw := Later.trans_ lw l6)
      | (go_at_call 14; (with_reducible refine (KS.out _).mono ?_); rintro e w7 ⟨rfl, l7⟩; replace b4 := b4.keep l7; replace lw := Later.trans_ lw l7)
      | ((with_reducible refine wpList_load_g (o := ⟨some 103, .load 26 (.tmp 3), _, _, _, _⟩) _ _ rfl w.heap.size 26 x.cells _ ?_ ?_ ?_ Try.underlying26 ?_ (cpu_sz _) ?_); rfl; rfl; exact b4; rfl)
      | (go_at_call 21; (with_reducible refine (KR2.out _).mono ?_); rintro e w8 ⟨rfl, l8⟩; replace b4 := b4.keep l8; replace lw := Later.trans_ lw l8))
    go_ret
    exact ⟨rfl, lw⟩
  | false =>
    have hR : rdy x.hl x.wt p = true := by unfold rdy; rw [hh, decide_eq_false hq]; simp
    have KR := Lib.hid fun w' => ready_is (b := true) hp hR w'
    have KR2 := Lib.hid fun w' => ready_is (b := true) ho1 (by rw [hr2]; exact hR) w'
    clear hR hr2 hle ho1 ho2 hd hN hD hv hx hp hm
    go_enter Try.func8, Try.ntmps8
    go_wp2_with (first
      | ((with_reducible refine wpList_load_blk (o := ⟨some 17, .load 26 (.tmp 3), _, _, _, none⟩) rfl _ _ rfl w.heap.size 26 x.cells _ ?_ ?_ Try.underlying26 rfl (cpu_sz _) ?_); rfl; exact b4)
      | (go_at_call 11; (with_reducible refine (KV.out _).mono ?_); rintro e w1 ⟨rfl, l1⟩; replace b4 := b4.keep l1; replace lw := Later.trans_ lw l1)
      | ((with_reducible refine wpList_load_blk (o := ⟨some 23, .load 26 (.tmp 3), _, _, _, none⟩) rfl _ _ rfl w.heap.size 26 x.cells _ ?_ ?_ Try.underlying26 rfl (cpu_sz _) ?_); rfl; exact b4)
      | (go_at_call 15; (with_reducible refine (KD.out _).mono ?_); rintro e w2 ⟨rfl, l2⟩; replace b4 := b4.keep l2; replace lw := Later.trans_ lw l2)
      | ((with_reducible refine wpList_load_blk (o := ⟨some 53, .load 26 (.tmp 3), _, _, _, none⟩) rfl _ _ rfl w.heap.size 26 x.cells _ ?_ ?_ Try.underlying26 rfl (cpu_sz _) ?_); rfl; exact b4)
      | (go_at_call 17; (with_reducible refine (KE.out _).mono ?_); rintro e w3 ⟨rfl, l3⟩; replace b4 := b4.keep l3; replace lw := Later.trans_ lw l3)
      | (go_at_call 15; (with_reducible refine (KD2.out _).mono ?_); rintro e w4 ⟨rfl, l4⟩; replace b4 := b4.keep l4; replace lw := Later.trans_ lw l4)
      | ((with_reducible refine wpList_load_blk (o := ⟨some 59, .load 26 (.tmp 3), _, _, _, none⟩) rfl _ _ rfl w.heap.size 26 x.cells _ ?_ ?_ Try.underlying26 rfl (cpu_sz _) ?_); rfl; exact b4)
      | (go_at_call 21; (with_reducible refine (KR.out _).mono ?_); rintro e w5 ⟨rfl, l5⟩; replace b4 := b4.keep l5; replace lw := Later.trans_ lw l5; have q1 : w5.cell? ⟨w.heap.size, 28, none⟩ = some (.bool false) := (by rw [← hh]; exact b4.cell (j := 28) (v := .bool x.hl) rfl))
      | ((with_reducible refine wpList_load_blk (o := ⟨some 86, .load 26 (.tmp 3), _, _, _, none⟩) rfl _ _ rfl w.heap.size 26 x.cells _ ?_ ?_ Try.underlying26 rfl (cpu_sz _) ?_); rfl; exact b4; clear q1)
      | (go_at_call 15; (with_reducible refine (KD3.out _).mono ?_); rintro e w6 ⟨rfl, l6⟩; replace b4 := b4.keep l6; replace lw := Later.trans_ lw l6)
      | (go_at_call 14; (with_reducible refine (KS.out _).mono ?_); rintro e w7 ⟨rfl, l7⟩; replace b4 := b4.keep l7; replace lw := Later.trans_ lw l7)
      | ((with_reducible refine wpList_load_g (o := ⟨some 103, .load 26 (.tmp 3), _, _, _, _⟩) _ _ rfl w.heap.size 26 x.cells _ ?_ ?_ ?_ Try.underlying26 ?_ (cpu_sz _) ?_); rfl; rfl; exact b4; rfl)
      | (go_at_call 21; (with_reducible refine (KR2.out _).mono ?_); rintro e w8 ⟨rfl, l8⟩; replace b4 := b4.keep l8; replace lw := Later.trans_ lw l8))
    go_ret
    exact ⟨rfl, lw⟩
theorem order_all (x : Cpu) (p mo : Int) (w : World) (hx : x.wf) (hp : Tm.isE p) (hm : Tm.isE mo) :
    Calls Try.prog 8 #[.agg x.cells.toArray, .int .u32 p, .int .u32 mo] w fun e w' => e = .returned (.bool true) ∧ Later w w' := by
  cases hv : okC x.r0 x.c5 x.c7 x.c8 x.wt x.hl x.cn with
  | false => exact order_bad x p mo w hv
  | true =>
    rcases due_ways (Tm.has x.c5 1) p with ⟨hN, hD⟩ | ⟨hD, hq, ⟨hN, ha⟩ | ⟨hN, ha, hb⟩ | ⟨hN, ha, hb⟩ | ⟨hN, ha, hb⟩ | ⟨hN, ha, hb⟩⟩
    · exact order_no x p mo w hx hp hm hv hN hD
    · exact order_0 x p mo w hx hp hm hv hN hD hq ha
    · exact order_1 x p mo w hx hp hm hv hN hD hq ha hb
    · exact order_2 x p mo w hx hp hm hv hN hD hq ha hb
    · exact order_3 x p mo w hx hp hm hv hN hD hq ha hb
    · exact order_4 x p mo w hx hp hm hv hN hD hq ha hb

set_option maxRecDepth 100000 in
theorem trapInterruptsInOrder_lifted (os : Os) (started : os.Started) (H : Type) (enc : TypeId × Value → H) :
    ReturnsInHanded {} Try.checked os 8 .any (Rows.trapInterruptsInOrderSpec.pre6 enc Try.prog Try.f8 Rows.trapInterruptsInOrderRow.domain false) (Rows.trapInterruptsInOrderSpec.post enc Try.prog Try.f8 false true false false) := by
  refine returnsInHanded_of_change (C := Try.checked) ownK started (by kernel_rfl) Try.func8
    (ChangeSpec.witness6 (enc := enc) (C := Try.checked) false ⟨#[], #[.agg #[.int .u32 0, .int .u32 0, .int .u32 0, .int .u32 0, .int .u32 0, .int .u32 0, .int .u32 0, .int .u32 0, .int .u32 0, .int .u32 0, .int .u32 0, .int .u32 0, .int .u32 0, .int .u32 0, .int .u32 0, .int .u32 0, .int .u32 0, .int .u32 0, .int .u32 0, .int .u32 0, .int .u32 0, .int .u32 0, .int .u32 0, .int .u32 0, .int .u32 0, .int .u32 0, .bool false, .bool false, .bool false, .int .i64 0], .int .u32 0, .int .u32 0], []⟩ 8 (by kernel_rfl) (by kernel_rfl) (by kernel_rfl) (by kernel_rfl)) ?_
  intro W base args ds gs before hval0 hW hcnd _
  have hval : ∀ (j : Nat) t v, Try.f8.params[j]? = some t → args[j]? = some v → Value.okWide Try.prog W .any base t v := hval0
  have hW' := hW
  obtain ⟨p, q, hA0, hV, rfl, hfz, hnd⟩ := hW
  have hA : DataW.TrodAll enc Try.prog W 0 (fun _ => true) true Try.f8.params.toList args.toList ds p := hA0
  rw [Try.params8] at hA hval
  obtain ⟨v0, vs0, d0, ds0, p0, q0, hargs, rfl, rfl, h0, r0⟩ := trodAll_cons hA
  obtain ⟨v1, vs1, d1, ds1, p1, q1, rfl, rfl, rfl, h1, r1⟩ := trodAll_cons r0
  obtain ⟨v2, vs2, d2, ds2, p2, q2, rfl, rfl, rfl, h2, r2⟩ := trodAll_cons r1
  obtain ⟨rfl, rfl, rfl⟩ := trodAll_nil r2
  obtain rfl : args = #[v0, v1, v2] := by cases args; simp_all
  obtain ⟨rfl, rfl⟩ := trodVars_none hV
  obtain ⟨a0, rfl, z0⟩ := cpu_open (hval 0 26 v0 rfl rfl) h0
  obtain ⟨a1, rfl, y1⟩ := u32_arg Try.underlying22 (hval 1 22 v1 rfl rfl) h1
  have z1 : Tm.isE a1 := ⟨y1.1, by have := y1.2; omega⟩
  obtain ⟨a2, rfl, y2⟩ := u32_arg Try.underlying22 (hval 2 22 v2 rfl rfl) h2
  have z2 : Tm.isE a2 := ⟨y2.1, by have := y2.2; omega⟩
  clear hA0 hval0
  simp only [List.append_nil] at hW'
  refine (order_all a0 a1 a2 W z0 z1 z2).mono fun e W' ⟨he, hw⟩ => ?_
  subst he
  exact ⟨_, rfl, law_post laidK rfl (by kernel_rfl) (by kernel_rfl) Try.underlying4 (by kernel_rfl) hW' rfl hw⟩
set_option maxRecDepth 100000 in
/-- The statement. -/
theorem trapInterruptsInOrder_said : Rows.TrapInterruptsInOrderSaid :=
  OpenClaim.holds_of_wide 8 Try.f8 rfl rfl rfl rfl rfl rfl rfl ⟨rfl, rfl, rfl, rfl, rfl⟩ rfl rfl rfl rfl rfl (by kernel_rfl) Try.func8 (by kernel_rfl)
    (of_decide_eq_true (by kernel_rfl)) (by unfold Func.isWrapper; first | (rw [if_pos (by decide +kernel)]; kernel_rfl) | (rw [if_neg (by decide +kernel)]; exact ⟨rfl, rfl⟩))
    (fun os started H enc _ => trapInterruptsInOrder_lifted os started H enc)
#print axioms trapInterruptsInOrder_said
end Go.Proofs.Ytkknobonpejgbaa
