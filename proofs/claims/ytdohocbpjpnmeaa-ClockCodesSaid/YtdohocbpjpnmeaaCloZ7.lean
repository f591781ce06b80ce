/-
  THE STATEMENT ClockCodes: Encode and Decode do what the specification says, Decode of Encode is the clock, and Encode of what is decoded is the bytes; for every clock, and at most 300 bytes.
-/
import Derived.Test.YtdohocbpjpnmeaaCloR
import Derived.Deep.RegionHeld
namespace Go.Proofs.Ytdohocbpjpnmeaa
open Go.RowKit Go.ChangeShapes Go.WideShapes Go.ChangeAt

theorem wpAnyH_more0 {P : Program} {md : Region.Mode} {ops : Array Oper} {Q : Exit → Act → World → Prop} {S S' : World → Prop} (h : ∀ w, S' w → S w) : ∀ (fuel : Nat) (listed : Array Bool) (a : Act) (w : World), wpAnyH P md ops Q S' fuel listed a w → wpAnyH P md ops Q S fuel listed a w
  | 0, _, _, _, k => k
  | fuel + 1, _, _, _, k => ⟨k.1, fun i hi => wpOp_mono (fun a' w' h' => ⟨h _ h'.1, wpAnyH_more0 h fuel _ a' w' h'.2⟩) (k.2 i hi)⟩
theorem wpAnyH_more {P : Program} {md : Region.Mode} {ops : Array Oper} {Q : Exit → Act → World → Prop} {S S' : World → Prop} {fuel : Nat} {listed : Array Bool} {a : Act} {w : World} (h : ∀ w, S' w → S w) (k : wpAnyH P md ops Q S' fuel listed a w) : wpAnyH P md ops Q S fuel listed a w := wpAnyH_more0 h fuel listed a w k
theorem dec_both (S : Option Addr) (n c : Nat) (b : Wm.Bs) (hb : Wm.isBs b) (hnc : n ≤ c) (hn : c ≤ maxLen) (hsm : n ≤ 1000000) : ∃ (X : Clk) (E : Int),
    (∀ w, Sl w 1 S n (U b) → Calls Try.prog 25 #[.slice S n c] w fun r w' => r = .returned (.tuple #[.agg X.cells.toArray, .int .i64 E]) ∧ Later w w') ∧
    (∀ w, Sl w 1 S n (U b) → Calls Try.prog 26 #[.slice S n c] w fun r w' => r = .returned (.agg (gotC X 0 false E).toArray) ∧ Later w w') ∧
    (E = 0 → ∀ w, Calls Try.prog 27 #[.agg X.cells.toArray] w (GotBs b w)) := by
  obtain ⟨l, u, e, hd⟩ : ∃ l u e, Wm.decL Wm.decI 1 b = (l, u, e) := ⟨_, _, _, rfl⟩
  have hin : inR l := by have := decL_in hb; rw [hd] at this; exact this
  have hsame := ok_same hb hd
  by_cases h : okD b l e
  · exact ⟨ofL l, 0, fun w hs => (dec_any S n c b w hs hb hnc hn hsm l u e hd).1 h, fun w hs => (rdec_any S n c b w hs hb hnc hn hsm l u e hd).1 (hsame.2 h), fun _ w => by
      have h9 := enc_any (ofL l) w (ofL_wf hin)
      rw [h.2.2.2] at h9
      exact h9⟩
  · exact ⟨zK, 11, fun w hs => (dec_any S n c b w hs hb hnc hn hsm l u e hd).2 h, fun w hs => (rdec_any S n c b w hs hb hnc hn hsm l u e hd).2 (fun g => h (hsame.1 g)), fun h => by cases h⟩
set_option maxRecDepth 100000 in
set_option maxHeartbeats 8000000 in
theorem code_all (x : Clk) (S : Option Addr) (n c : Nat) (b : Wm.Bs) (w : World) (hx : x.wf) (hs : Sl w 1 S n (U b)) (hb : Wm.isBs b) (hnc : n ≤ c) (hn : c ≤ maxLen) :
    Calls Try.prog 6 #[.agg x.cells.toArray, .slice S n c] w fun e w' => e = .returned (.bool true) ∧ Later w w' := by
  have KS := Lib.hid fun w' => sanity_any w'
  have b2 := Blk.new w 25 x.cells.toArray x.cells rfl
  have lw := later1 w (.cells x.cells.toArray 25)
  by_cases h300 : 300 < n
  · have d3 : decide (300 < (n : Int)) = true := decide_eq_true (by omega)
    clear hx hs hb hnc hn
    go_enter Try.func6, Try.ntmps6
    go_wp2_with (first
      | (go_at_call 12; (with_reducible refine (KS.out _).mono ?_); rintro e w3 ⟨rfl, l3⟩; replace b2 := b2.keep l3; replace lw := Later.trans_ lw l3))
    go_ret
    exact ⟨rfl, lw⟩
  have d3 : decide (300 < (n : Int)) = false := decide_eq_false (by omega)
  obtain ⟨X, E, hD, hR, hEX⟩ := dec_both S n c b hb hnc hn (by omega)
  have KD := Lib.hid hD
  have KRD := Lib.hid hR
  have lk := Lib.hid (fun (w' : World) (hl : Later w w') => hs.keep hl)
  have hqX := clk_same X
  by_cases hok : x.Ok
  · have KV := Lib.hid fun w' => rvalid_any x true w' (by simp [hok])
    have KE0 := fun w' => enc_any x w' hx
    have KR0 := fun w' => renc_any x w' hx
    have hlen := encL_le x.nums (nums_in hx) rfl
    have hbe : Wm.isBs (Wm.encL Wm.encI x.nums) := encLI_bytes _
    have hback := Wm.ints_back x.nums [] (nums_in hx) (by show (13 : Nat) ≤ _; omega)
    rw [List.append_nil] at hback
    have KDE0 := fun (A4 : Option Addr) (c4 : Nat) (w' : World) (g3 : (Wm.encL Wm.encI x.nums).length ≤ c4) (g4 : c4 ≤ maxLen) (s4 : Sl w' 1 A4 (Wm.encL Wm.encI x.nums).length (U (Wm.encL Wm.encI x.nums))) => (dec_any A4 _ c4 _ w' s4 hbe g3 g4 (by omega) _ _ _ hback).1 (okD_back hok)
    obtain ⟨EB, hEB⟩ : ∃ EB, EB = Wm.encL Wm.encI x.nums := ⟨_, rfl⟩
    obtain ⟨Y, hY⟩ : ∃ Y, Y = ofL x.nums := ⟨_, rfl⟩
    have HYX := Lib.hid (show Y.cells = x.cells by rw [hY]; exact ofL_cells x)
    rw [← hEB] at KE0 KR0 KDE0
    rw [← hY] at KDE0
    have KE := Lib.hid KE0
    have KRE := Lib.hid KR0
    have KDE := Lib.hid KDE0
    have hqx := clk_same x
    clear KE0 KR0 KDE0 hEB hY hback hbe hlen hD hR hok hx hs hb hnc hn h300
    by_cases hE : E = 0
    · subst hE
      have KEX := Lib.hid (hEX rfl)
      clear hEX
      go_enter Try.func6, Try.ntmps6
      go_upto_region 5 with (first
        | (go_at_call 25; refine (KD.out _ (lk.out _ lw)).mono ?_; rintro e w1 ⟨rfl, l1⟩; replace b2 := b2.keep l1; replace lw := Later.trans_ lw l1)
        | ((with_reducible refine wpList_store_abs (o := ⟨none, .store 25 (.tmp 5) (.tmp 18), _, _, _, none⟩) rfl _ _ _ rfl w1.heap.size 25 zK.cells X.cells ?_ ?_ ?_ ?_ ?_ ?_ ?_); rfl; rfl; exact (Blk.new _ _ _ _ rfl); exact clk_sz _; rfl; exact clk_one _; intro v1 b5 ob5; replace b2 := (b2.alloc (.cells zK.cells.toArray 25)).only ob5 (Nat.ne_of_lt b2.lt); replace lw := Below.only (lw.alloc lw.size (.cells zK.cells.toArray 25)) ob5 lw.size; clear ob5)
        | (go_at_call 26; refine (KRD.out _ (lk.out _ lw)).mono ?_; rintro e w2 ⟨rfl, l2⟩; replace b2 := b2.keep l2; replace b5 := b5.keep l2; replace lw := Later.trans_ lw l2)
        | ((with_reducible refine wpList_store_abs (o := ⟨none, .store 35 (.tmp 7) (.tmp 21), _, _, _, none⟩) rfl _ _ _ rfl w2.heap.size 35 (gotC zK 0 false 0) (gotC X 0 false 0) ?_ ?_ ?_ ?_ ?_ ?_ ?_); rfl; rfl; exact (Blk.new _ _ _ _ rfl); exact got_sz _ _ _ _; rfl; exact got_one _ _ _ _; intro v2 b7 ob7; replace b2 := (b2.alloc (.cells (gotC zK 0 false 0).toArray 35)).only ob7 (Nat.ne_of_lt b2.lt); replace b5 := (b5.alloc (.cells (gotC zK 0 false 0).toArray 35)).only ob7 (Nat.ne_of_lt b5.lt); replace lw := Below.only (lw.alloc lw.size (.cells (gotC zK 0 false 0).toArray 35)) ob7 lw.size; clear ob7))
      replace b2 := b2.drew
      replace b5 := b5.drew
      replace b7 := b7.drew
      replace lw := lw.drew
      refine wp_region_held_drew (S := fun w' => ((World.rangeAt w' w1.heap.size 0 X.cells ∧ World.rangeAt w' w2.heap.size 0 X.cells ∧ w'.cell? ⟨w2.heap.size, 15, none⟩ = some (.int .i64 0)) ∧ Sl w' 1 S n (U b))) (by kernel_rfl) (And.intro (And.intro (show World.rangeAt _ w1.heap.size 0 X.cells from b5.range 0 13) (And.intro (show World.rangeAt _ w2.heap.size 0 X.cells from b7.range 0 13) (b7.cell (j := 15) (v := .int .i64 0) rfl))) (lk.out _ lw)) (fun hHeld => ?_)
      refine wpAnyH_take (i := 0) (oi := ⟨some 22, .load 25 (.tmp 5), _, _, _, none⟩) (v := .agg X.cells.toArray) rfl (by kernel_rfl) (by kernel_rfl) (by kernel_rfl) (fun _ _ _ h => h) (yieldsIf_load_mid (by rfl) _ _ rfl _ _ rfl X.cells _ (fun w h => h.1.1) Try.underlying25 rfl (clk_sz _)) hHeld ?_
      simp only [Act.put, List.setIfInBounds_toArray, List.set_cons_zero, List.set_cons_succ]
      refine wpAnyH_take (i := 1) (oi := ⟨some 23, .fieldAddr 35 (.tmp 7) 0, _, _, _, none⟩) (v := .pointer (some ⟨w2.heap.size, 0, none⟩)) rfl (by kernel_rfl) (by kernel_rfl) (by kernel_rfl) (fun _ _ _ h => h) (Or.inl ⟨by rfl, fun w _ => by go_simp⟩) hHeld ?_
      simp only [Act.put, List.setIfInBounds_toArray, List.set_cons_zero, List.set_cons_succ]
      refine wpAnyH_take (i := 2) (oi := ⟨some 24, .load 25 (.tmp 23), _, _, _, none⟩) (v := .agg X.cells.toArray) rfl (by kernel_rfl) (by kernel_rfl) (by kernel_rfl) (fun _ _ _ h => h) (yieldsIf_load_mid (by rfl) _ _ rfl _ _ rfl X.cells _ (fun w h => h.1.2.1) Try.underlying25 rfl (clk_sz _)) hHeld ?_
      simp only [Act.put, List.setIfInBounds_toArray, List.set_cons_zero, List.set_cons_succ]
      refine wpAnyH_take (i := 3) (oi := ⟨some 25, .binOp .neq 25 (.tmp 22) (.tmp 24) 25, _, _, _, none⟩) (v := .bool false) rfl (by kernel_rfl) (by kernel_rfl) (by kernel_rfl) (fun _ _ _ h => h) (Or.inl ⟨by rfl, fun w _ => by go_simp⟩) hHeld ?_
      simp only [Act.put, List.setIfInBounds_toArray, List.set_cons_zero, List.set_cons_succ]
      refine wpAnyH_take (i := 4) (oi := ⟨some 26, .move (.tmp 25), _, _, _, none⟩) (v := .bool false) rfl (by kernel_rfl) (by kernel_rfl) (by kernel_rfl) (fun _ _ _ h => h) (Or.inl ⟨by rfl, fun _ _ => rfl⟩) hHeld ?_
      simp only [Act.put, List.setIfInBounds_toArray, List.set_cons_zero, List.set_cons_succ]
      refine wpAnyH_take (i := 5) (oi := ⟨some 27, .move (.tmp 6), _, _, _, _⟩) (v := .int .i64 0) rfl (by kernel_rfl) (by kernel_rfl) (by kernel_rfl) (fun _ _ _ h => h) (Or.inl ⟨by rfl, fun _ _ => rfl⟩) hHeld ?_
      simp only [Act.put, List.setIfInBounds_toArray, List.set_cons_zero, List.set_cons_succ]
      refine wpAnyH_take (i := 6) (oi := ⟨some 28, .fieldAddr 35 (.tmp 7) 3, _, _, _, _⟩) (v := .pointer (some ⟨w2.heap.size, 15, none⟩)) rfl (by kernel_rfl) (by kernel_rfl) (by kernel_rfl) (fun _ _ _ h => h) (Or.inl ⟨by rfl, fun w _ => by go_simp⟩) hHeld ?_
      simp only [Act.put, List.setIfInBounds_toArray, List.set_cons_zero, List.set_cons_succ]
      refine wpAnyH_take (i := 7) (oi := ⟨some 29, .load 28 (.tmp 28), _, _, _, _⟩) (v := .int .i64 0) rfl (by kernel_rfl) (by kernel_rfl) (by kernel_rfl) (fun _ _ _ h => h) (Or.inl ⟨by rfl, fun w hSw => by have e1 := hSw.1.2.2; clear hSw; go_simp⟩) hHeld ?_
      simp only [Act.put, List.setIfInBounds_toArray, List.set_cons_zero, List.set_cons_succ]
      refine wpAnyH_take (i := 8) (oi := ⟨some 30, .binOp .neq 28 (.tmp 27) (.tmp 29) 28, _, _, _, _⟩) (v := .bool false) rfl (by kernel_rfl) (by kernel_rfl) (by kernel_rfl) (fun _ _ _ h => h) (Or.inl ⟨by rfl, fun w _ => by go_simp⟩) hHeld ?_
      simp only [Act.put, List.setIfInBounds_toArray, List.set_cons_zero, List.set_cons_succ]
      refine wpAnyH_take (i := 9) (oi := ⟨some 31, .pick (.tmp 26) (.const (.bool true)) (.tmp 30), _, _, _, none⟩) (v := .bool false) rfl (by kernel_rfl) (by kernel_rfl) (by kernel_rfl) (fun _ _ _ h => h) (Or.inl ⟨by rfl, fun w _ => by go_simp⟩) hHeld ?_
      simp only [Act.put, List.setIfInBounds_toArray, List.set_cons_zero, List.set_cons_succ]
      refine wpAnyH_take (i := 10) (oi := ⟨some 32, .move (.tmp 31), _, _, _, none⟩) (v := .bool false) rfl (by kernel_rfl) (by kernel_rfl) (by kernel_rfl) (fun _ _ _ h => h) (Or.inl ⟨by rfl, fun _ _ => rfl⟩) hHeld ?_
      simp only [Act.put, List.setIfInBounds_toArray, List.set_cons_zero, List.set_cons_succ]
      refine wpAnyH_take (i := 11) (oi := ⟨some 33, .move (.tmp 6), _, _, _, _⟩) (v := .int .i64 0) rfl (by kernel_rfl) (by kernel_rfl) (by kernel_rfl) (fun _ _ _ h => h) (Or.inl ⟨by rfl, fun _ _ => rfl⟩) hHeld ?_
      simp only [Act.put, List.setIfInBounds_toArray, List.set_cons_zero, List.set_cons_succ]
      refine wpAnyH_take (i := 12) (oi := ⟨some 34, .binOp .eql 28 (.tmp 33) (.const (.int .i64 0)) 28, _, _, _, _⟩) (v := .bool true) rfl (by kernel_rfl) (by kernel_rfl) (by kernel_rfl) (fun _ _ _ h => h) (Or.inl ⟨by rfl, fun w _ => by go_simp⟩) hHeld ?_
      simp only [Act.put, List.setIfInBounds_toArray, List.set_cons_zero, List.set_cons_succ]
      refine wpAnyH_take (i := 13) (oi := ⟨some 35, .move (.tmp 34), _, _, _, _⟩) (v := .bool true) rfl (by kernel_rfl) (by kernel_rfl) (by kernel_rfl) (fun _ _ _ h => h) (Or.inl ⟨by rfl, fun _ _ => rfl⟩) hHeld ?_
      simp only [Act.put, List.setIfInBounds_toArray, List.set_cons_zero, List.set_cons_succ]
      refine wpAnyH_take (i := 14) (oi := ⟨some 36, .load 25 (.tmp 5), _, _, _, _⟩) (v := .agg X.cells.toArray) rfl (by kernel_rfl) (by kernel_rfl) (by kernel_rfl) (fun _ _ _ h => h) (yieldsIf_load_mid (by rfl) _ _ rfl _ _ rfl X.cells _ (fun w h => h.1.1) Try.underlying25 rfl (clk_sz _)) hHeld ?_
      simp only [Act.put, List.setIfInBounds_toArray, List.set_cons_zero, List.set_cons_succ]
      refine wpAnyH_take (i := 17) (oi := ⟨some 39, .move (.tmp 1), _, _, _, _⟩) (v := .slice S n c) rfl (by kernel_rfl) (by kernel_rfl) (by kernel_rfl) (fun _ _ _ h => h) (Or.inl ⟨by rfl, fun _ _ => rfl⟩) hHeld ?_
      simp only [Act.put, List.setIfInBounds_toArray, List.set_cons_zero, List.set_cons_succ]
      refine wpAnyH_take (i := 18) (oi := ⟨some 40, .convert 50 9 (.tmp 39), _, _, _, _⟩) (v := (.string (strOfNums b))) rfl (by kernel_rfl) (by kernel_rfl) (by kernel_rfl) (fun _ _ _ h => h) (Or.inl ⟨by rfl, fun w hSw => by have e1 := to_str (hSw.2) c; clear hSw; go_simp⟩) hHeld ?_
      simp only [Act.put, List.setIfInBounds_toArray, List.set_cons_zero, List.set_cons_succ]
      refine wpAnyH_ready (rs := [15]) (by kernel_rfl) (by simp) (AllReadyH.cons (o := ⟨some 37, .call { callee := .value (.func 27), args := #[.tmp 36], argTypes := #[25] }, _, _, _, _⟩) rfl (fun K' hK => ?_) (AllReadyH.nil))
      go_simp
      refine (KEX.out _).mono ?_
      rintro e x2 ⟨A6, n6, c6, rfl, _, _, rfl, s6, l1⟩
      replace b2 := b2.keep l1
      replace b5 := b5.keep l1
      replace b7 := b7.keep l1
      replace lw := Later.trans_ lw l1
      refine hK.out _ _ (And.intro (And.intro (show World.rangeAt _ w1.heap.size 0 X.cells from b5.range 0 13) (And.intro (show World.rangeAt _ w2.heap.size 0 X.cells from b7.range 0 13) (b7.cell (j := 15) (v := .int .i64 0) rfl))) (lk.out _ lw)) (fun hHeld => ?_)
      clear hK K'
      try simp only [Act.put, List.setIfInBounds_toArray, List.set_cons_zero, List.set_cons_succ]
      refine wpAnyH_more (S' := fun w' => (((World.rangeAt w' w1.heap.size 0 X.cells ∧ World.rangeAt w' w2.heap.size 0 X.cells ∧ w'.cell? ⟨w2.heap.size, 15, none⟩ = some (.int .i64 0)) ∧ Sl w' 1 S n (U b)) ∧ Sl w' 1 A6 b.length (U b))) (fun _ h => h.1) ?_
      replace hHeld := And.intro (And.intro (And.intro (show World.rangeAt _ w1.heap.size 0 X.cells from b5.range 0 13) (And.intro (show World.rangeAt _ w2.heap.size 0 X.cells from b7.range 0 13) (b7.cell (j := 15) (v := .int .i64 0) rfl))) (lk.out _ lw)) s6
      refine wpAnyH_take (i := 16) (oi := ⟨some 38, .convert 50 9 (.tmp 37), _, _, _, _⟩) (v := (.string (strOfNums b))) rfl (by kernel_rfl) (by kernel_rfl) (by kernel_rfl) (fun _ _ _ h => h) (Or.inl ⟨by rfl, fun w hSw => by have e1 := to_str (hSw.2) c6; clear hSw; go_simp⟩) hHeld ?_
      simp only [Act.put, List.setIfInBounds_toArray, List.set_cons_zero, List.set_cons_succ]
      refine wpAnyH_take (i := 19) (oi := ⟨some 41, .binOp .neq 9 (.tmp 38) (.tmp 40) 9, _, _, _, _⟩) (v := .bool false) rfl (by kernel_rfl) (by kernel_rfl) (by kernel_rfl) (fun _ _ _ h => h) (Or.inl ⟨by rfl, fun w _ => by go_simp⟩) hHeld ?_
      simp only [Act.put, List.setIfInBounds_toArray, List.set_cons_zero, List.set_cons_succ]
      refine wpAnyH_take (i := 20) (oi := ⟨some 42, .pick (.tmp 35) (.tmp 41) (.const (.bool false)), _, _, _, _⟩) (v := .bool false) rfl (by kernel_rfl) (by kernel_rfl) (by kernel_rfl) (fun _ _ _ h => h) (Or.inl ⟨by rfl, fun w _ => by go_simp⟩) hHeld ?_
      simp only [Act.put, List.setIfInBounds_toArray, List.set_cons_zero, List.set_cons_succ]
      refine wpAnyH_take (i := 21) (oi := ⟨some 43, .pick (.tmp 32) (.const (.bool true)) (.tmp 42), _, _, _, none⟩) (v := .bool false) rfl (by kernel_rfl) (by kernel_rfl) (by kernel_rfl) (fun _ _ _ h => h) (Or.inl ⟨by rfl, fun w _ => by go_simp⟩) hHeld ?_
      simp only [Act.put, List.setIfInBounds_toArray, List.set_cons_zero, List.set_cons_succ]
      refine wpAnyH_done (by kernel_rfl) ?_ _
      clear hHeld
      clear b5 b7
      go_upto_region 11 with (first
        | ((with_reducible refine wpList_load_blk (o := ⟨some 44, .load 25 (.tmp 2), _, _, _, none⟩) rfl _ _ rfl w.heap.size 25 x.cells _ ?_ ?_ Try.underlying25 rfl (clk_sz _) ?_); rfl; exact b2)
        | (go_at_call 10; (with_reducible refine (KV.out _).mono ?_); rintro e w7 ⟨rfl, l7⟩; replace b2 := b2.keep l7; replace lw := Later.trans_ lw l7)
        | ((with_reducible refine wpList_load_blk (o := ⟨some 50, .load 25 (.tmp 2), _, _, _, none⟩) rfl _ _ rfl w.heap.size 25 x.cells _ ?_ ?_ Try.underlying25 rfl (clk_sz _) ?_); rfl; exact b2)
        | (go_at_call 27; refine (KE.out _).mono ?_; rintro e w4 ⟨A4, n4, c4, rfl, g3, g4, rfl, s4, l4⟩; replace b2 := b2.keep l4; replace lw := Later.trans_ lw l4)
        | (go_at_call 25; refine (KDE.out A4 c4 _ g3 g4 s4).mono ?_; rintro e w5 ⟨rfl, l5⟩; replace b2 := b2.keep l5; replace lw := Later.trans_ lw l5)
        | ((with_reducible refine wpList_store_abs (o := ⟨none, .store 25 (.tmp 9) (.tmp 53), _, _, _, none⟩) rfl _ _ _ rfl w5.heap.size 25 zK.cells Y.cells ?_ ?_ ?_ ?_ ?_ ?_ ?_); rfl; rfl; exact (Blk.new _ _ _ _ rfl); exact clk_sz _; rfl; exact clk_one _; intro v5 b8 ob8; replace b2 := (b2.alloc (.cells zK.cells.toArray 25)).only ob8 (Nat.ne_of_lt b2.lt); replace lw := Below.only (lw.alloc lw.size (.cells zK.cells.toArray 25)) ob8 lw.size; clear ob8))
      rw [HYX.out] at b8
      replace b2 := b2.drew
      replace b8 := b8.drew
      replace lw := lw.drew
      refine wp_region_held_drew (S := fun w' => World.rangeAt w' w.heap.size 0 x.cells ∧ World.rangeAt w' w5.heap.size 0 x.cells) (by kernel_rfl) ⟨(show World.rangeAt _ w.heap.size 0 x.cells from b2.range 0 13), (show World.rangeAt _ w5.heap.size 0 x.cells from b8.range 0 13)⟩ (fun hHeld => ?_)
      refine wpAnyH_ready (rs := [0]) (by kernel_rfl) (by simp) (AllReadyH.cons (o := ⟨some 55, .call { callee := .value (.func 12), args := #[], argTypes := #[] }, _, _, _, none⟩) rfl (fun K' hK => ?_) (AllReadyH.nil))
      go_simp
      (with_reducible refine (KS.out _).mono ?_)
      rintro e x1 ⟨rfl, l1⟩
      replace b2 := b2.keep l1
      replace b8 := b8.keep l1
      replace lw := Later.trans_ lw l1
      refine hK.out _ _ ⟨(show World.rangeAt _ w.heap.size 0 x.cells from b2.range 0 13), (show World.rangeAt _ w5.heap.size 0 x.cells from b8.range 0 13)⟩ (fun hHeld => ?_)
      clear hK K'
      try simp only [Act.put, List.setIfInBounds_toArray, List.set_cons_zero, List.set_cons_succ]
      refine wpAnyH_take (i := 1) (oi := ⟨some 56, .move (.tmp 55), _, _, _, none⟩) (v := .bool true) rfl (by kernel_rfl) (by kernel_rfl) (by kernel_rfl) (fun _ _ _ h => h) (Or.inl ⟨by rfl, fun _ _ => rfl⟩) hHeld ?_
      simp only [Act.put, List.setIfInBounds_toArray, List.set_cons_zero, List.set_cons_succ]
      refine wpAnyH_take (i := 2) (oi := ⟨some 57, .move (.tmp 10), _, _, _, _⟩) (v := .int .i64 0) rfl (by kernel_rfl) (by kernel_rfl) (by kernel_rfl) (fun _ _ _ h => h) (Or.inl ⟨by rfl, fun _ _ => rfl⟩) hHeld ?_
      simp only [Act.put, List.setIfInBounds_toArray, List.set_cons_zero, List.set_cons_succ]
      refine wpAnyH_take (i := 3) (oi := ⟨some 58, .binOp .eql 28 (.tmp 57) (.const (.int .i64 0)) 28, _, _, _, _⟩) (v := .bool true) rfl (by kernel_rfl) (by kernel_rfl) (by kernel_rfl) (fun _ _ _ h => h) (Or.inl ⟨by rfl, fun w _ => by go_simp⟩) hHeld ?_
      simp only [Act.put, List.setIfInBounds_toArray, List.set_cons_zero, List.set_cons_succ]
      refine wpAnyH_take (i := 4) (oi := ⟨some 59, .pick (.tmp 56) (.tmp 58) (.const (.bool false)), _, _, _, none⟩) (v := .bool true) rfl (by kernel_rfl) (by kernel_rfl) (by kernel_rfl) (fun _ _ _ h => h) (Or.inl ⟨by rfl, fun w _ => by go_simp⟩) hHeld ?_
      simp only [Act.put, List.setIfInBounds_toArray, List.set_cons_zero, List.set_cons_succ]
      refine wpAnyH_take (i := 5) (oi := ⟨some 60, .move (.tmp 59), _, _, _, none⟩) (v := .bool true) rfl (by kernel_rfl) (by kernel_rfl) (by kernel_rfl) (fun _ _ _ h => h) (Or.inl ⟨by rfl, fun _ _ => rfl⟩) hHeld ?_
      simp only [Act.put, List.setIfInBounds_toArray, List.set_cons_zero, List.set_cons_succ]
      refine wpAnyH_take (i := 6) (oi := ⟨some 61, .load 25 (.tmp 9), _, _, _, _⟩) (v := .agg x.cells.toArray) rfl (by kernel_rfl) (by kernel_rfl) (by kernel_rfl) (fun _ _ _ h => h) (yieldsIf_load_mid (by rfl) _ _ rfl _ _ rfl x.cells _ (fun w h => h.2) Try.underlying25 rfl (clk_sz _)) hHeld ?_
      simp only [Act.put, List.setIfInBounds_toArray, List.set_cons_zero, List.set_cons_succ]
      refine wpAnyH_take (i := 7) (oi := ⟨some 62, .load 25 (.tmp 2), _, _, _, _⟩) (v := .agg x.cells.toArray) rfl (by kernel_rfl) (by kernel_rfl) (by kernel_rfl) (fun _ _ _ h => h) (yieldsIf_load_mid (by rfl) _ _ rfl _ _ rfl x.cells _ (fun w h => h.1) Try.underlying25 rfl (clk_sz _)) hHeld ?_
      simp only [Act.put, List.setIfInBounds_toArray, List.set_cons_zero, List.set_cons_succ]
      refine wpAnyH_take (i := 8) (oi := ⟨some 63, .binOp .eql 25 (.tmp 61) (.tmp 62) 25, _, _, _, _⟩) (v := .bool true) rfl (by kernel_rfl) (by kernel_rfl) (by kernel_rfl) (fun _ _ _ h => h) (Or.inl ⟨by rfl, fun w _ => by go_simp⟩) hHeld ?_
      simp only [Act.put, List.setIfInBounds_toArray, List.set_cons_zero, List.set_cons_succ]
      refine wpAnyH_take (i := 9) (oi := ⟨some 64, .pick (.tmp 60) (.tmp 63) (.const (.bool false)), _, _, _, none⟩) (v := .bool true) rfl (by kernel_rfl) (by kernel_rfl) (by kernel_rfl) (fun _ _ _ h => h) (Or.inl ⟨by rfl, fun w _ => by go_simp⟩) hHeld ?_
      simp only [Act.put, List.setIfInBounds_toArray, List.set_cons_zero, List.set_cons_succ]
      refine wpAnyH_take (i := 10) (oi := ⟨some 65, .move (.tmp 64), _, _, _, none⟩) (v := .bool true) rfl (by kernel_rfl) (by kernel_rfl) (by kernel_rfl) (fun _ _ _ h => h) (Or.inl ⟨by rfl, fun _ _ => rfl⟩) hHeld ?_
      simp only [Act.put, List.setIfInBounds_toArray, List.set_cons_zero, List.set_cons_succ]
      refine wpAnyH_take (i := 11) (oi := ⟨some 66, .load 25 (.tmp 2), _, _, _, _⟩) (v := .agg x.cells.toArray) rfl (by kernel_rfl) (by kernel_rfl) (by kernel_rfl) (fun _ _ _ h => h) (yieldsIf_load_mid (by rfl) _ _ rfl _ _ rfl x.cells _ (fun w h => h.1) Try.underlying25 rfl (clk_sz _)) hHeld ?_
      simp only [Act.put, List.setIfInBounds_toArray, List.set_cons_zero, List.set_cons_succ]
      refine wpAnyH_take (i := 14) (oi := ⟨some 69, .load 25 (.tmp 2), _, _, _, _⟩) (v := .agg x.cells.toArray) rfl (by kernel_rfl) (by kernel_rfl) (by kernel_rfl) (fun _ _ _ h => h) (yieldsIf_load_mid (by rfl) _ _ rfl _ _ rfl x.cells _ (fun w h => h.1) Try.underlying25 rfl (clk_sz _)) hHeld ?_
      simp only [Act.put, List.setIfInBounds_toArray, List.set_cons_zero, List.set_cons_succ]
      refine wpAnyH_ready (rs := [12]) (by kernel_rfl) (by simp) (AllReadyH.cons (o := ⟨some 67, .call { callee := .value (.func 27), args := #[.tmp 66], argTypes := #[25] }, _, _, _, _⟩) rfl (fun K' hK => ?_) (AllReadyH.nil))
      go_simp
      refine (KE.out _).mono ?_
      rintro e x2 ⟨A6, n6, c6, rfl, _, _, rfl, s6, l1⟩
      replace b2 := b2.keep l1
      replace b8 := b8.keep l1
      replace lw := Later.trans_ lw l1
      refine hK.out _ _ ⟨(show World.rangeAt _ w.heap.size 0 x.cells from b2.range 0 13), (show World.rangeAt _ w5.heap.size 0 x.cells from b8.range 0 13)⟩ (fun hHeld => ?_)
      clear hK K'
      try simp only [Act.put, List.setIfInBounds_toArray, List.set_cons_zero, List.set_cons_succ]
      refine wpAnyH_more (S' := fun w' => (World.rangeAt w' w.heap.size 0 x.cells ∧ World.rangeAt w' w5.heap.size 0 x.cells) ∧ Sl w' 1 A6 EB.length (U EB)) (fun _ h => h.1) ?_
      replace hHeld := And.intro (And.intro (show World.rangeAt _ w.heap.size 0 x.cells from b2.range 0 13) (show World.rangeAt _ w5.heap.size 0 x.cells from b8.range 0 13)) s6
      refine wpAnyH_take (i := 13) (oi := ⟨some 68, .convert 50 9 (.tmp 67), _, _, _, _⟩) (v := (.string (strOfNums EB))) rfl (by kernel_rfl) (by kernel_rfl) (by kernel_rfl) (fun _ _ _ h => h) (Or.inl ⟨by rfl, fun w hSw => by have e1 := to_str (hSw.2) c6; clear hSw; go_simp⟩) hHeld ?_
      simp only [Act.put, List.setIfInBounds_toArray, List.set_cons_zero, List.set_cons_succ]
      refine wpAnyH_ready (rs := [15]) (by kernel_rfl) (by simp) (AllReadyH.cons (o := ⟨some 70, .call { callee := .value (.func 28), args := #[.tmp 69], argTypes := #[25] }, _, _, _, _⟩) rfl (fun K' hK => ?_) (AllReadyH.nil))
      go_simp
      refine (KRE.out _).mono ?_
      rintro e x3 ⟨A7, n7, c7, rfl, _, _, rfl, s7, l1⟩
      replace b2 := b2.keep l1
      replace b8 := b8.keep l1
      replace lw := Later.trans_ lw l1
      replace s6 := s6.keep l1
      refine hK.out _ _ ⟨⟨(show World.rangeAt _ w.heap.size 0 x.cells from b2.range 0 13), (show World.rangeAt _ w5.heap.size 0 x.cells from b8.range 0 13)⟩, s6⟩ (fun hHeld => ?_)
      clear hK K'
      try simp only [Act.put, List.setIfInBounds_toArray, List.set_cons_zero, List.set_cons_succ]
      refine wpAnyH_more (S' := fun w' => ((World.rangeAt w' w.heap.size 0 x.cells ∧ World.rangeAt w' w5.heap.size 0 x.cells) ∧ Sl w' 1 A6 EB.length (U EB)) ∧ Sl w' 1 A7 EB.length (U EB)) (fun _ h => h.1) ?_
      replace hHeld := And.intro (And.intro (And.intro (show World.rangeAt _ w.heap.size 0 x.cells from b2.range 0 13) (show World.rangeAt _ w5.heap.size 0 x.cells from b8.range 0 13)) s6) s7
      refine wpAnyH_take (i := 16) (oi := ⟨some 71, .convert 50 9 (.tmp 70), _, _, _, _⟩) (v := (.string (strOfNums EB))) rfl (by kernel_rfl) (by kernel_rfl) (by kernel_rfl) (fun _ _ _ h => h) (Or.inl ⟨by rfl, fun w hSw => by have e1 := to_str (hSw.2) c7; clear hSw; go_simp⟩) hHeld ?_
      simp only [Act.put, List.setIfInBounds_toArray, List.set_cons_zero, List.set_cons_succ]
      refine wpAnyH_take (i := 17) (oi := ⟨some 72, .binOp .eql 9 (.tmp 68) (.tmp 71) 9, _, _, _, _⟩) (v := .bool true) rfl (by kernel_rfl) (by kernel_rfl) (by kernel_rfl) (fun _ _ _ h => h) (Or.inl ⟨by rfl, fun w _ => by go_simp⟩) hHeld ?_
      simp only [Act.put, List.setIfInBounds_toArray, List.set_cons_zero, List.set_cons_succ]
      refine wpAnyH_take (i := 18) (oi := ⟨some 73, .pick (.tmp 65) (.tmp 72) (.const (.bool false)), _, _, _, none⟩) (v := .bool true) rfl (by kernel_rfl) (by kernel_rfl) (by kernel_rfl) (fun _ _ _ h => h) (Or.inl ⟨by rfl, fun w _ => by go_simp⟩) hHeld ?_
      simp only [Act.put, List.setIfInBounds_toArray, List.set_cons_zero, List.set_cons_succ]
      refine wpAnyH_take (i := 19) (oi := ⟨some 4, .assign (.tmp 73), _, _, _, none⟩) (v := .bool true) rfl (by kernel_rfl) (by kernel_rfl) (by kernel_rfl) (fun _ _ _ h => h) (Or.inl ⟨by rfl, fun _ _ => rfl⟩) hHeld ?_
      simp only [Act.put, List.setIfInBounds_toArray, List.set_cons_zero, List.set_cons_succ]
      refine wpAnyH_done (by kernel_rfl) ?_ _
      clear hHeld
      go_wp2
      go_ret
      exact ⟨rfl, lw⟩
    · have dE : (E == 0) = false := beq_false_of_ne hE
      clear hEX hE
      go_enter Try.func6, Try.ntmps6
      go_upto_region 5 with (first
        | (go_at_call 25; refine (KD.out _ (lk.out _ lw)).mono ?_; rintro e w1 ⟨rfl, l1⟩; replace b2 := b2.keep l1; replace lw := Later.trans_ lw l1)
        | ((with_reducible refine wpList_store_abs (o := ⟨none, .store 25 (.tmp 5) (.tmp 18), _, _, _, none⟩) rfl _ _ _ rfl w1.heap.size 25 zK.cells X.cells ?_ ?_ ?_ ?_ ?_ ?_ ?_); rfl; rfl; exact (Blk.new _ _ _ _ rfl); exact clk_sz _; rfl; exact clk_one _; intro v1 b5 ob5; replace b2 := (b2.alloc (.cells zK.cells.toArray 25)).only ob5 (Nat.ne_of_lt b2.lt); replace lw := Below.only (lw.alloc lw.size (.cells zK.cells.toArray 25)) ob5 lw.size; clear ob5)
        | (go_at_call 26; refine (KRD.out _ (lk.out _ lw)).mono ?_; rintro e w2 ⟨rfl, l2⟩; replace b2 := b2.keep l2; replace b5 := b5.keep l2; replace lw := Later.trans_ lw l2)
        | ((with_reducible refine wpList_store_abs (o := ⟨none, .store 35 (.tmp 7) (.tmp 21), _, _, _, none⟩) rfl _ _ _ rfl w2.heap.size 35 (gotC zK 0 false 0) (gotC X 0 false E) ?_ ?_ ?_ ?_ ?_ ?_ ?_); rfl; rfl; exact (Blk.new _ _ _ _ rfl); exact got_sz _ _ _ _; rfl; exact got_one _ _ _ _; intro v2 b7 ob7; replace b2 := (b2.alloc (.cells (gotC zK 0 false 0).toArray 35)).only ob7 (Nat.ne_of_lt b2.lt); replace b5 := (b5.alloc (.cells (gotC zK 0 false 0).toArray 35)).only ob7 (Nat.ne_of_lt b5.lt); replace lw := Below.only (lw.alloc lw.size (.cells (gotC zK 0 false 0).toArray 35)) ob7 lw.size; clear ob7))
      replace b2 := b2.drew
      replace b5 := b5.drew
      replace b7 := b7.drew
      replace lw := lw.drew
      refine wp_region_held_drew (S := fun w' => (World.rangeAt w' w1.heap.size 0 X.cells ∧ World.rangeAt w' w2.heap.size 0 X.cells ∧ w'.cell? ⟨w2.heap.size, 15, none⟩ = some (.int .i64 E))) (by kernel_rfl) (And.intro (show World.rangeAt _ w1.heap.size 0 X.cells from b5.range 0 13) (And.intro (show World.rangeAt _ w2.heap.size 0 X.cells from b7.range 0 13) (b7.cell (j := 15) (v := .int .i64 E) rfl))) (fun hHeld => ?_)
      refine wpAnyH_take (i := 0) (oi := ⟨some 22, .load 25 (.tmp 5), _, _, _, none⟩) (v := .agg X.cells.toArray) rfl (by kernel_rfl) (by kernel_rfl) (by kernel_rfl) (fun _ _ _ h => h) (yieldsIf_load_mid (by rfl) _ _ rfl _ _ rfl X.cells _ (fun w h => h.1) Try.underlying25 rfl (clk_sz _)) hHeld ?_
      simp only [Act.put, List.setIfInBounds_toArray, List.set_cons_zero, List.set_cons_succ]
      refine wpAnyH_take (i := 1) (oi := ⟨some 23, .fieldAddr 35 (.tmp 7) 0, _, _, _, none⟩) (v := .pointer (some ⟨w2.heap.size, 0, none⟩)) rfl (by kernel_rfl) (by kernel_rfl) (by kernel_rfl) (fun _ _ _ h => h) (Or.inl ⟨by rfl, fun w _ => by go_simp⟩) hHeld ?_
      simp only [Act.put, List.setIfInBounds_toArray, List.set_cons_zero, List.set_cons_succ]
      refine wpAnyH_take (i := 2) (oi := ⟨some 24, .load 25 (.tmp 23), _, _, _, none⟩) (v := .agg X.cells.toArray) rfl (by kernel_rfl) (by kernel_rfl) (by kernel_rfl) (fun _ _ _ h => h) (yieldsIf_load_mid (by rfl) _ _ rfl _ _ rfl X.cells _ (fun w h => h.2.1) Try.underlying25 rfl (clk_sz _)) hHeld ?_
      simp only [Act.put, List.setIfInBounds_toArray, List.set_cons_zero, List.set_cons_succ]
      refine wpAnyH_take (i := 3) (oi := ⟨some 25, .binOp .neq 25 (.tmp 22) (.tmp 24) 25, _, _, _, none⟩) (v := .bool false) rfl (by kernel_rfl) (by kernel_rfl) (by kernel_rfl) (fun _ _ _ h => h) (Or.inl ⟨by rfl, fun w _ => by go_simp⟩) hHeld ?_
      simp only [Act.put, List.setIfInBounds_toArray, List.set_cons_zero, List.set_cons_succ]
      refine wpAnyH_take (i := 4) (oi := ⟨some 26, .move (.tmp 25), _, _, _, none⟩) (v := .bool false) rfl (by kernel_rfl) (by kernel_rfl) (by kernel_rfl) (fun _ _ _ h => h) (Or.inl ⟨by rfl, fun _ _ => rfl⟩) hHeld ?_
      simp only [Act.put, List.setIfInBounds_toArray, List.set_cons_zero, List.set_cons_succ]
      refine wpAnyH_take (i := 5) (oi := ⟨some 27, .move (.tmp 6), _, _, _, _⟩) (v := .int .i64 E) rfl (by kernel_rfl) (by kernel_rfl) (by kernel_rfl) (fun _ _ _ h => h) (Or.inl ⟨by rfl, fun _ _ => rfl⟩) hHeld ?_
      simp only [Act.put, List.setIfInBounds_toArray, List.set_cons_zero, List.set_cons_succ]
      refine wpAnyH_take (i := 6) (oi := ⟨some 28, .fieldAddr 35 (.tmp 7) 3, _, _, _, _⟩) (v := .pointer (some ⟨w2.heap.size, 15, none⟩)) rfl (by kernel_rfl) (by kernel_rfl) (by kernel_rfl) (fun _ _ _ h => h) (Or.inl ⟨by rfl, fun w _ => by go_simp⟩) hHeld ?_
      simp only [Act.put, List.setIfInBounds_toArray, List.set_cons_zero, List.set_cons_succ]
      refine wpAnyH_take (i := 7) (oi := ⟨some 29, .load 28 (.tmp 28), _, _, _, _⟩) (v := .int .i64 E) rfl (by kernel_rfl) (by kernel_rfl) (by kernel_rfl) (fun _ _ _ h => h) (Or.inl ⟨by rfl, fun w hSw => by have e1 := hSw.2.2; clear hSw; go_simp⟩) hHeld ?_
      simp only [Act.put, List.setIfInBounds_toArray, List.set_cons_zero, List.set_cons_succ]
      refine wpAnyH_take (i := 8) (oi := ⟨some 30, .binOp .neq 28 (.tmp 27) (.tmp 29) 28, _, _, _, _⟩) (v := .bool false) rfl (by kernel_rfl) (by kernel_rfl) (by kernel_rfl) (fun _ _ _ h => h) (Or.inl ⟨by rfl, fun w _ => by go_simp⟩) hHeld ?_
      simp only [Act.put, List.setIfInBounds_toArray, List.set_cons_zero, List.set_cons_succ]
      refine wpAnyH_take (i := 9) (oi := ⟨some 31, .pick (.tmp 26) (.const (.bool true)) (.tmp 30), _, _, _, none⟩) (v := .bool false) rfl (by kernel_rfl) (by kernel_rfl) (by kernel_rfl) (fun _ _ _ h => h) (Or.inl ⟨by rfl, fun w _ => by go_simp⟩) hHeld ?_
      simp only [Act.put, List.setIfInBounds_toArray, List.set_cons_zero, List.set_cons_succ]
      refine wpAnyH_take (i := 10) (oi := ⟨some 32, .move (.tmp 31), _, _, _, none⟩) (v := .bool false) rfl (by kernel_rfl) (by kernel_rfl) (by kernel_rfl) (fun _ _ _ h => h) (Or.inl ⟨by rfl, fun _ _ => rfl⟩) hHeld ?_
      simp only [Act.put, List.setIfInBounds_toArray, List.set_cons_zero, List.set_cons_succ]
      refine wpAnyH_take (i := 11) (oi := ⟨some 33, .move (.tmp 6), _, _, _, _⟩) (v := .int .i64 E) rfl (by kernel_rfl) (by kernel_rfl) (by kernel_rfl) (fun _ _ _ h => h) (Or.inl ⟨by rfl, fun _ _ => rfl⟩) hHeld ?_
      simp only [Act.put, List.setIfInBounds_toArray, List.set_cons_zero, List.set_cons_succ]
      refine wpAnyH_take (i := 12) (oi := ⟨some 34, .binOp .eql 28 (.tmp 33) (.const (.int .i64 0)) 28, _, _, _, _⟩) (v := .bool false) rfl (by kernel_rfl) (by kernel_rfl) (by kernel_rfl) (fun _ _ _ h => h) (Or.inl ⟨by rfl, fun w _ => by go_simp⟩) hHeld ?_
      simp only [Act.put, List.setIfInBounds_toArray, List.set_cons_zero, List.set_cons_succ]
      refine wpAnyH_take (i := 13) (oi := ⟨some 35, .move (.tmp 34), _, _, _, _⟩) (v := .bool false) rfl (by kernel_rfl) (by kernel_rfl) (by kernel_rfl) (fun _ _ _ h => h) (Or.inl ⟨by rfl, fun _ _ => rfl⟩) hHeld ?_
      simp only [Act.put, List.setIfInBounds_toArray, List.set_cons_zero, List.set_cons_succ]
      refine wpAnyH_take (i := 14) (oi := ⟨some 36, .load 25 (.tmp 5), _, _, _, _⟩) (v := undef) rfl (by kernel_rfl) (by kernel_rfl) (by kernel_rfl) (fun _ _ _ h => h) (Or.inr ⟨by rfl, rfl⟩) hHeld ?_
      simp only [Act.put, List.setIfInBounds_toArray, List.set_cons_zero, List.set_cons_succ]
      refine wpAnyH_take (i := 15) (oi := ⟨some 37, .call { callee := .value (.func 27), args := #[.tmp 36], argTypes := #[25] }, _, _, _, _⟩) (v := undef) rfl (by kernel_rfl) (by kernel_rfl) (by kernel_rfl) (fun _ _ _ h => h) (Or.inr ⟨by rfl, rfl⟩) hHeld ?_
      simp only [Act.put, List.setIfInBounds_toArray, List.set_cons_zero, List.set_cons_succ]
      refine wpAnyH_take (i := 16) (oi := ⟨some 38, .convert 50 9 (.tmp 37), _, _, _, _⟩) (v := undef) rfl (by kernel_rfl) (by kernel_rfl) (by kernel_rfl) (fun _ _ _ h => h) (Or.inr ⟨by rfl, rfl⟩) hHeld ?_
      simp only [Act.put, List.setIfInBounds_toArray, List.set_cons_zero, List.set_cons_succ]
      refine wpAnyH_take (i := 17) (oi := ⟨some 39, .move (.tmp 1), _, _, _, _⟩) (v := undef) rfl (by kernel_rfl) (by kernel_rfl) (by kernel_rfl) (fun _ _ _ h => h) (Or.inr ⟨by rfl, rfl⟩) hHeld ?_
      simp only [Act.put, List.setIfInBounds_toArray, List.set_cons_zero, List.set_cons_succ]
      refine wpAnyH_take (i := 18) (oi := ⟨some 40, .convert 50 9 (.tmp 39), _, _, _, _⟩) (v := undef) rfl (by kernel_rfl) (by kernel_rfl) (by kernel_rfl) (fun _ _ _ h => h) (Or.inr ⟨by rfl, rfl⟩) hHeld ?_
      simp only [Act.put, List.setIfInBounds_toArray, List.set_cons_zero, List.set_cons_succ]
      refine wpAnyH_take (i := 19) (oi := ⟨some 41, .binOp .neq 9 (.tmp 38) (.tmp 40) 9, _, _, _, _⟩) (v := undef) rfl (by kernel_rfl) (by kernel_rfl) (by kernel_rfl) (fun _ _ _ h => h) (Or.inr ⟨by rfl, rfl⟩) hHeld ?_
      simp only [Act.put, List.setIfInBounds_toArray, List.set_cons_zero, List.set_cons_succ]
      refine wpAnyH_take (i := 20) (oi := ⟨some 42, .pick (.tmp 35) (.tmp 41) (.const (.bool false)), _, _, _, _⟩) (v := .bool false) rfl (by kernel_rfl) (by kernel_rfl) (by kernel_rfl) (fun _ _ _ h => h) (Or.inl ⟨by rfl, fun w _ => by go_simp⟩) hHeld ?_
      simp only [Act.put, List.setIfInBounds_toArray, List.set_cons_zero, List.set_cons_succ]
      refine wpAnyH_take (i := 21) (oi := ⟨some 43, .pick (.tmp 32) (.const (.bool true)) (.tmp 42), _, _, _, none⟩) (v := .bool false) rfl (by kernel_rfl) (by kernel_rfl) (by kernel_rfl) (fun _ _ _ h => h) (Or.inl ⟨by rfl, fun w _ => by go_simp⟩) hHeld ?_
      simp only [Act.put, List.setIfInBounds_toArray, List.set_cons_zero, List.set_cons_succ]
      refine wpAnyH_done (by kernel_rfl) ?_ _
      clear hHeld
      clear b5 b7
      go_upto_region 11 with (first
        | ((with_reducible refine wpList_load_blk (o := ⟨some 44, .load 25 (.tmp 2), _, _, _, none⟩) rfl _ _ rfl w.heap.size 25 x.cells _ ?_ ?_ Try.underlying25 rfl (clk_sz _) ?_); rfl; exact b2)
        | (go_at_call 10; (with_reducible refine (KV.out _).mono ?_); rintro e w7 ⟨rfl, l7⟩; replace b2 := b2.keep l7; replace lw := Later.trans_ lw l7)
        | ((with_reducible refine wpList_load_blk (o := ⟨some 50, .load 25 (.tmp 2), _, _, _, none⟩) rfl _ _ rfl w.heap.size 25 x.cells _ ?_ ?_ Try.underlying25 rfl (clk_sz _) ?_); rfl; exact b2)
        | (go_at_call 27; refine (KE.out _).mono ?_; rintro e w4 ⟨A4, n4, c4, rfl, g3, g4, rfl, s4, l4⟩; replace b2 := b2.keep l4; replace lw := Later.trans_ lw l4)
        | (go_at_call 25; refine (KDE.out A4 c4 _ g3 g4 s4).mono ?_; rintro e w5 ⟨rfl, l5⟩; replace b2 := b2.keep l5; replace lw := Later.trans_ lw l5)
        | ((with_reducible refine wpList_store_abs (o := ⟨none, .store 25 (.tmp 9) (.tmp 53), _, _, _, none⟩) rfl _ _ _ rfl w5.heap.size 25 zK.cells Y.cells ?_ ?_ ?_ ?_ ?_ ?_ ?_); rfl; rfl; exact (Blk.new _ _ _ _ rfl); exact clk_sz _; rfl; exact clk_one _; intro v5 b8 ob8; replace b2 := (b2.alloc (.cells zK.cells.toArray 25)).only ob8 (Nat.ne_of_lt b2.lt); replace lw := Below.only (lw.alloc lw.size (.cells zK.cells.toArray 25)) ob8 lw.size; clear ob8))
      rw [HYX.out] at b8
      replace b2 := b2.drew
      replace b8 := b8.drew
      replace lw := lw.drew
      refine wp_region_held_drew (S := fun w' => World.rangeAt w' w.heap.size 0 x.cells ∧ World.rangeAt w' w5.heap.size 0 x.cells) (by kernel_rfl) ⟨(show World.rangeAt _ w.heap.size 0 x.cells from b2.range 0 13), (show World.rangeAt _ w5.heap.size 0 x.cells from b8.range 0 13)⟩ (fun hHeld => ?_)
      refine wpAnyH_ready (rs := [0]) (by kernel_rfl) (by simp) (AllReadyH.cons (o := ⟨some 55, .call { callee := .value (.func 12), args := #[], argTypes := #[] }, _, _, _, none⟩) rfl (fun K' hK => ?_) (AllReadyH.nil))
      go_simp
      (with_reducible refine (KS.out _).mono ?_)
      rintro e x1 ⟨rfl, l1⟩
      replace b2 := b2.keep l1
      replace b8 := b8.keep l1
      replace lw := Later.trans_ lw l1
      refine hK.out _ _ ⟨(show World.rangeAt _ w.heap.size 0 x.cells from b2.range 0 13), (show World.rangeAt _ w5.heap.size 0 x.cells from b8.range 0 13)⟩ (fun hHeld => ?_)
      clear hK K'
      try simp only [Act.put, List.setIfInBounds_toArray, List.set_cons_zero, List.set_cons_succ]
      refine wpAnyH_take (i := 1) (oi := ⟨some 56, .move (.tmp 55), _, _, _, none⟩) (v := .bool true) rfl (by kernel_rfl) (by kernel_rfl) (by kernel_rfl) (fun _ _ _ h => h) (Or.inl ⟨by rfl, fun _ _ => rfl⟩) hHeld ?_
      simp only [Act.put, List.setIfInBounds_toArray, List.set_cons_zero, List.set_cons_succ]
      refine wpAnyH_take (i := 2) (oi := ⟨some 57, .move (.tmp 10), _, _, _, _⟩) (v := .int .i64 0) rfl (by kernel_rfl) (by kernel_rfl) (by kernel_rfl) (fun _ _ _ h => h) (Or.inl ⟨by rfl, fun _ _ => rfl⟩) hHeld ?_
      simp only [Act.put, List.setIfInBounds_toArray, List.set_cons_zero, List.set_cons_succ]
      refine wpAnyH_take (i := 3) (oi := ⟨some 58, .binOp .eql 28 (.tmp 57) (.const (.int .i64 0)) 28, _, _, _, _⟩) (v := .bool true) rfl (by kernel_rfl) (by kernel_rfl) (by kernel_rfl) (fun _ _ _ h => h) (Or.inl ⟨by rfl, fun w _ => by go_simp⟩) hHeld ?_
      simp only [Act.put, List.setIfInBounds_toArray, List.set_cons_zero, List.set_cons_succ]
      refine wpAnyH_take (i := 4) (oi := ⟨some 59, .pick (.tmp 56) (.tmp 58) (.const (.bool false)), _, _, _, none⟩) (v := .bool true) rfl (by kernel_rfl) (by kernel_rfl) (by kernel_rfl) (fun _ _ _ h => h) (Or.inl ⟨by rfl, fun w _ => by go_simp⟩) hHeld ?_
      simp only [Act.put, List.setIfInBounds_toArray, List.set_cons_zero, List.set_cons_succ]
      refine wpAnyH_take (i := 5) (oi := ⟨some 60, .move (.tmp 59), _, _, _, none⟩) (v := .bool true) rfl (by kernel_rfl) (by kernel_rfl) (by kernel_rfl) (fun _ _ _ h => h) (Or.inl ⟨by rfl, fun _ _ => rfl⟩) hHeld ?_
      simp only [Act.put, List.setIfInBounds_toArray, List.set_cons_zero, List.set_cons_succ]
      refine wpAnyH_take (i := 6) (oi := ⟨some 61, .load 25 (.tmp 9), _, _, _, _⟩) (v := .agg x.cells.toArray) rfl (by kernel_rfl) (by kernel_rfl) (by kernel_rfl) (fun _ _ _ h => h) (yieldsIf_load_mid (by rfl) _ _ rfl _ _ rfl x.cells _ (fun w h => h.2) Try.underlying25 rfl (clk_sz _)) hHeld ?_
      simp only [Act.put, List.setIfInBounds_toArray, List.set_cons_zero, List.set_cons_succ]
      refine wpAnyH_take (i := 7) (oi := ⟨some 62, .load 25 (.tmp 2), _, _, _, _⟩) (v := .agg x.cells.toArray) rfl (by kernel_rfl) (by kernel_rfl) (by kernel_rfl) (fun _ _ _ h => h) (yieldsIf_load_mid (by rfl) _ _ rfl _ _ rfl x.cells _ (fun w h => h.1) Try.underlying25 rfl (clk_sz _)) hHeld ?_
      simp only [Act.put, List.setIfInBounds_toArray, List.set_cons_zero, List.set_cons_succ]
      refine wpAnyH_take (i := 8) (oi := ⟨some 63, .binOp .eql 25 (.tmp 61) (.tmp 62) 25, _, _, _, _⟩) (v := .bool true) rfl (by kernel_rfl) (by kernel_rfl) (by kernel_rfl) (fun _ _ _ h => h) (Or.inl ⟨by rfl, fun w _ => by go_simp⟩) hHeld ?_
      simp only [Act.put, List.setIfInBounds_toArray, List.set_cons_zero, List.set_cons_succ]
      refine wpAnyH_take (i := 9) (oi := ⟨some 64, .pick (.tmp 60) (.tmp 63) (.const (.bool false)), _, _, _, none⟩) (v := .bool true) rfl (by kernel_rfl) (by kernel_rfl) (by kernel_rfl) (fun _ _ _ h => h) (Or.inl ⟨by rfl, fun w _ => by go_simp⟩) hHeld ?_
      simp only [Act.put, List.setIfInBounds_toArray, List.set_cons_zero, List.set_cons_succ]
      refine wpAnyH_take (i := 10) (oi := ⟨some 65, .move (.tmp 64), _, _, _, none⟩) (v := .bool true) rfl (by kernel_rfl) (by kernel_rfl) (by kernel_rfl) (fun _ _ _ h => h) (Or.inl ⟨by rfl, fun _ _ => rfl⟩) hHeld ?_
      simp only [Act.put, List.setIfInBounds_toArray, List.set_cons_zero, List.set_cons_succ]
      refine wpAnyH_take (i := 11) (oi := ⟨some 66, .load 25 (.tmp 2), _, _, _, _⟩) (v := .agg x.cells.toArray) rfl (by kernel_rfl) (by kernel_rfl) (by kernel_rfl) (fun _ _ _ h => h) (yieldsIf_load_mid (by rfl) _ _ rfl _ _ rfl x.cells _ (fun w h => h.1) Try.underlying25 rfl (clk_sz _)) hHeld ?_
      simp only [Act.put, List.setIfInBounds_toArray, List.set_cons_zero, List.set_cons_succ]
      refine wpAnyH_take (i := 14) (oi := ⟨some 69, .load 25 (.tmp 2), _, _, _, _⟩) (v := .agg x.cells.toArray) rfl (by kernel_rfl) (by kernel_rfl) (by kernel_rfl) (fun _ _ _ h => h) (yieldsIf_load_mid (by rfl) _ _ rfl _ _ rfl x.cells _ (fun w h => h.1) Try.underlying25 rfl (clk_sz _)) hHeld ?_
      simp only [Act.put, List.setIfInBounds_toArray, List.set_cons_zero, List.set_cons_succ]
      refine wpAnyH_ready (rs := [12]) (by kernel_rfl) (by simp) (AllReadyH.cons (o := ⟨some 67, .call { callee := .value (.func 27), args := #[.tmp 66], argTypes := #[25] }, _, _, _, _⟩) rfl (fun K' hK => ?_) (AllReadyH.nil))
      go_simp
      refine (KE.out _).mono ?_
      rintro e x2 ⟨A6, n6, c6, rfl, _, _, rfl, s6, l1⟩
      replace b2 := b2.keep l1
      replace b8 := b8.keep l1
      replace lw := Later.trans_ lw l1
      refine hK.out _ _ ⟨(show World.rangeAt _ w.heap.size 0 x.cells from b2.range 0 13), (show World.rangeAt _ w5.heap.size 0 x.cells from b8.range 0 13)⟩ (fun hHeld => ?_)
      clear hK K'
      try simp only [Act.put, List.setIfInBounds_toArray, List.set_cons_zero, List.set_cons_succ]
      refine wpAnyH_more (S' := fun w' => (World.rangeAt w' w.heap.size 0 x.cells ∧ World.rangeAt w' w5.heap.size 0 x.cells) ∧ Sl w' 1 A6 EB.length (U EB)) (fun _ h => h.1) ?_
      replace hHeld := And.intro (And.intro (show World.rangeAt _ w.heap.size 0 x.cells from b2.range 0 13) (show World.rangeAt _ w5.heap.size 0 x.cells from b8.range 0 13)) s6
      refine wpAnyH_take (i := 13) (oi := ⟨some 68, .convert 50 9 (.tmp 67), _, _, _, _⟩) (v := (.string (strOfNums EB))) rfl (by kernel_rfl) (by kernel_rfl) (by kernel_rfl) (fun _ _ _ h => h) (Or.inl ⟨by rfl, fun w hSw => by have e1 := to_str (hSw.2) c6; clear hSw; go_simp⟩) hHeld ?_
      simp only [Act.put, List.setIfInBounds_toArray, List.set_cons_zero, List.set_cons_succ]
      refine wpAnyH_ready (rs := [15]) (by kernel_rfl) (by simp) (AllReadyH.cons (o := ⟨some 70, .call { callee := .value (.func 28), args := #[.tmp 69], argTypes := #[25] }, _, _, _, _⟩) rfl (fun K' hK => ?_) (AllReadyH.nil))
      go_simp
      refine (KRE.out _).mono ?_
      rintro e x3 ⟨A7, n7, c7, rfl, _, _, rfl, s7, l1⟩
      replace b2 := b2.keep l1
      replace b8 := b8.keep l1
      replace lw := Later.trans_ lw l1
      replace s6 := s6.keep l1
      refine hK.out _ _ ⟨⟨(show World.rangeAt _ w.heap.size 0 x.cells from b2.range 0 13), (show World.rangeAt _ w5.heap.size 0 x.cells from b8.range 0 13)⟩, s6⟩ (fun hHeld => ?_)
      clear hK K'
      try simp only [Act.put, List.setIfInBounds_toArray, List.set_cons_zero, List.set_cons_succ]
      refine wpAnyH_more (S' := fun w' => ((World.rangeAt w' w.heap.size 0 x.cells ∧ World.rangeAt w' w5.heap.size 0 x.cells) ∧ Sl w' 1 A6 EB.length (U EB)) ∧ Sl w' 1 A7 EB.length (U EB)) (fun _ h => h.1) ?_
      replace hHeld := And.intro (And.intro (And.intro (show World.rangeAt _ w.heap.size 0 x.cells from b2.range 0 13) (show World.rangeAt _ w5.heap.size 0 x.cells from b8.range 0 13)) s6) s7
      refine wpAnyH_take (i := 16) (oi := ⟨some 71, .convert 50 9 (.tmp 70), _, _, _, _⟩) (v := (.string (strOfNums EB))) rfl (by kernel_rfl) (by kernel_rfl) (by kernel_rfl) (fun _ _ _ h => h) (Or.inl ⟨by rfl, fun w hSw => by have e1 := to_str (hSw.2) c7; clear hSw; go_simp⟩) hHeld ?_
      simp only [Act.put, List.setIfInBounds_toArray, List.set_cons_zero, List.set_cons_succ]
      refine wpAnyH_take (i := 17) (oi := ⟨some 72, .binOp .eql 9 (.tmp 68) (.tmp 71) 9, _, _, _, _⟩) (v := .bool true) rfl (by kernel_rfl) (by kernel_rfl) (by kernel_rfl) (fun _ _ _ h => h) (Or.inl ⟨by rfl, fun w _ => by go_simp⟩) hHeld ?_
      simp only [Act.put, List.setIfInBounds_toArray, List.set_cons_zero, List.set_cons_succ]
      refine wpAnyH_take (i := 18) (oi := ⟨some 73, .pick (.tmp 65) (.tmp 72) (.const (.bool false)), _, _, _, none⟩) (v := .bool true) rfl (by kernel_rfl) (by kernel_rfl) (by kernel_rfl) (fun _ _ _ h => h) (Or.inl ⟨by rfl, fun w _ => by go_simp⟩) hHeld ?_
      simp only [Act.put, List.setIfInBounds_toArray, List.set_cons_zero, List.set_cons_succ]
      refine wpAnyH_take (i := 19) (oi := ⟨some 4, .assign (.tmp 73), _, _, _, none⟩) (v := .bool true) rfl (by kernel_rfl) (by kernel_rfl) (by kernel_rfl) (fun _ _ _ h => h) (Or.inl ⟨by rfl, fun _ _ => rfl⟩) hHeld ?_
      simp only [Act.put, List.setIfInBounds_toArray, List.set_cons_zero, List.set_cons_succ]
      refine wpAnyH_done (by kernel_rfl) ?_ _
      clear hHeld
      go_wp2
      go_ret
      exact ⟨rfl, lw⟩
  · have KV := Lib.hid fun w' => rvalid_any x false w' (by simp [hok])
    clear hD hR hok hx hs hb hnc hn h300
    by_cases hE : E = 0
    · subst hE
      have KEX := Lib.hid (hEX rfl)
      clear hEX
      go_enter Try.func6, Try.ntmps6
      go_upto_region 5 with (first
        | (go_at_call 25; refine (KD.out _ (lk.out _ lw)).mono ?_; rintro e w1 ⟨rfl, l1⟩; replace b2 := b2.keep l1; replace lw := Later.trans_ lw l1)
        | ((with_reducible refine wpList_store_abs (o := ⟨none, .store 25 (.tmp 5) (.tmp 18), _, _, _, none⟩) rfl _ _ _ rfl w1.heap.size 25 zK.cells X.cells ?_ ?_ ?_ ?_ ?_ ?_ ?_); rfl; rfl; exact (Blk.new _ _ _ _ rfl); exact clk_sz _; rfl; exact clk_one _; intro v1 b5 ob5; replace b2 := (b2.alloc (.cells zK.cells.toArray 25)).only ob5 (Nat.ne_of_lt b2.lt); replace lw := Below.only (lw.alloc lw.size (.cells zK.cells.toArray 25)) ob5 lw.size; clear ob5)
        | (go_at_call 26; refine (KRD.out _ (lk.out _ lw)).mono ?_; rintro e w2 ⟨rfl, l2⟩; replace b2 := b2.keep l2; replace b5 := b5.keep l2; replace lw := Later.trans_ lw l2)
        | ((with_reducible refine wpList_store_abs (o := ⟨none, .store 35 (.tmp 7) (.tmp 21), _, _, _, none⟩) rfl _ _ _ rfl w2.heap.size 35 (gotC zK 0 false 0) (gotC X 0 false 0) ?_ ?_ ?_ ?_ ?_ ?_ ?_); rfl; rfl; exact (Blk.new _ _ _ _ rfl); exact got_sz _ _ _ _; rfl; exact got_one _ _ _ _; intro v2 b7 ob7; replace b2 := (b2.alloc (.cells (gotC zK 0 false 0).toArray 35)).only ob7 (Nat.ne_of_lt b2.lt); replace b5 := (b5.alloc (.cells (gotC zK 0 false 0).toArray 35)).only ob7 (Nat.ne_of_lt b5.lt); replace lw := Below.only (lw.alloc lw.size (.cells (gotC zK 0 false 0).toArray 35)) ob7 lw.size; clear ob7))
      replace b2 := b2.drew
      replace b5 := b5.drew
      replace b7 := b7.drew
      replace lw := lw.drew
      refine wp_region_held_drew (S := fun w' => ((World.rangeAt w' w1.heap.size 0 X.cells ∧ World.rangeAt w' w2.heap.size 0 X.cells ∧ w'.cell? ⟨w2.heap.size, 15, none⟩ = some (.int .i64 0)) ∧ Sl w' 1 S n (U b))) (by kernel_rfl) (And.intro (And.intro (show World.rangeAt _ w1.heap.size 0 X.cells from b5.range 0 13) (And.intro (show World.rangeAt _ w2.heap.size 0 X.cells from b7.range 0 13) (b7.cell (j := 15) (v := .int .i64 0) rfl))) (lk.out _ lw)) (fun hHeld => ?_)
      refine wpAnyH_take (i := 0) (oi := ⟨some 22, .load 25 (.tmp 5), _, _, _, none⟩) (v := .agg X.cells.toArray) rfl (by kernel_rfl) (by kernel_rfl) (by kernel_rfl) (fun _ _ _ h => h) (yieldsIf_load_mid (by rfl) _ _ rfl _ _ rfl X.cells _ (fun w h => h.1.1) Try.underlying25 rfl (clk_sz _)) hHeld ?_
      simp only [Act.put, List.setIfInBounds_toArray, List.set_cons_zero, List.set_cons_succ]
      refine wpAnyH_take (i := 1) (oi := ⟨some 23, .fieldAddr 35 (.tmp 7) 0, _, _, _, none⟩) (v := .pointer (some ⟨w2.heap.size, 0, none⟩)) rfl (by kernel_rfl) (by kernel_rfl) (by kernel_rfl) (fun _ _ _ h => h) (Or.inl ⟨by rfl, fun w _ => by go_simp⟩) hHeld ?_
      simp only [Act.put, List.setIfInBounds_toArray, List.set_cons_zero, List.set_cons_succ]
      refine wpAnyH_take (i := 2) (oi := ⟨some 24, .load 25 (.tmp 23), _, _, _, none⟩) (v := .agg X.cells.toArray) rfl (by kernel_rfl) (by kernel_rfl) (by kernel_rfl) (fun _ _ _ h => h) (yieldsIf_load_mid (by rfl) _ _ rfl _ _ rfl X.cells _ (fun w h => h.1.2.1) Try.underlying25 rfl (clk_sz _)) hHeld ?_
      simp only [Act.put, List.setIfInBounds_toArray, List.set_cons_zero, List.set_cons_succ]
      refine wpAnyH_take (i := 3) (oi := ⟨some 25, .binOp .neq 25 (.tmp 22) (.tmp 24) 25, _, _, _, none⟩) (v := .bool false) rfl (by kernel_rfl) (by kernel_rfl) (by kernel_rfl) (fun _ _ _ h => h) (Or.inl ⟨by rfl, fun w _ => by go_simp⟩) hHeld ?_
      simp only [Act.put, List.setIfInBounds_toArray, List.set_cons_zero, List.set_cons_succ]
      refine wpAnyH_take (i := 4) (oi := ⟨some 26, .move (.tmp 25), _, _, _, none⟩) (v := .bool false) rfl (by kernel_rfl) (by kernel_rfl) (by kernel_rfl) (fun _ _ _ h => h) (Or.inl ⟨by rfl, fun _ _ => rfl⟩) hHeld ?_
      simp only [Act.put, List.setIfInBounds_toArray, List.set_cons_zero, List.set_cons_succ]
      refine wpAnyH_take (i := 5) (oi := ⟨some 27, .move (.tmp 6), _, _, _, _⟩) (v := .int .i64 0) rfl (by kernel_rfl) (by kernel_rfl) (by kernel_rfl) (fun _ _ _ h => h) (Or.inl ⟨by rfl, fun _ _ => rfl⟩) hHeld ?_
      simp only [Act.put, List.setIfInBounds_toArray, List.set_cons_zero, List.set_cons_succ]
      refine wpAnyH_take (i := 6) (oi := ⟨some 28, .fieldAddr 35 (.tmp 7) 3, _, _, _, _⟩) (v := .pointer (some ⟨w2.heap.size, 15, none⟩)) rfl (by kernel_rfl) (by kernel_rfl) (by kernel_rfl) (fun _ _ _ h => h) (Or.inl ⟨by rfl, fun w _ => by go_simp⟩) hHeld ?_
      simp only [Act.put, List.setIfInBounds_toArray, List.set_cons_zero, List.set_cons_succ]
      refine wpAnyH_take (i := 7) (oi := ⟨some 29, .load 28 (.tmp 28), _, _, _, _⟩) (v := .int .i64 0) rfl (by kernel_rfl) (by kernel_rfl) (by kernel_rfl) (fun _ _ _ h => h) (Or.inl ⟨by rfl, fun w hSw => by have e1 := hSw.1.2.2; clear hSw; go_simp⟩) hHeld ?_
      simp only [Act.put, List.setIfInBounds_toArray, List.set_cons_zero, List.set_cons_succ]
      refine wpAnyH_take (i := 8) (oi := ⟨some 30, .binOp .neq 28 (.tmp 27) (.tmp 29) 28, _, _, _, _⟩) (v := .bool false) rfl (by kernel_rfl) (by kernel_rfl) (by kernel_rfl) (fun _ _ _ h => h) (Or.inl ⟨by rfl, fun w _ => by go_simp⟩) hHeld ?_
      simp only [Act.put, List.setIfInBounds_toArray, List.set_cons_zero, List.set_cons_succ]
      refine wpAnyH_take (i := 9) (oi := ⟨some 31, .pick (.tmp 26) (.const (.bool true)) (.tmp 30), _, _, _, none⟩) (v := .bool false) rfl (by kernel_rfl) (by kernel_rfl) (by kernel_rfl) (fun _ _ _ h => h) (Or.inl ⟨by rfl, fun w _ => by go_simp⟩) hHeld ?_
      simp only [Act.put, List.setIfInBounds_toArray, List.set_cons_zero, List.set_cons_succ]
      refine wpAnyH_take (i := 10) (oi := ⟨some 32, .move (.tmp 31), _, _, _, none⟩) (v := .bool false) rfl (by kernel_rfl) (by kernel_rfl) (by kernel_rfl) (fun _ _ _ h => h) (Or.inl ⟨by rfl, fun _ _ => rfl⟩) hHeld ?_
      simp only [Act.put, List.setIfInBounds_toArray, List.set_cons_zero, List.set_cons_succ]
      refine wpAnyH_take (i := 11) (oi := ⟨some 33, .move (.tmp 6), _, _, _, _⟩) (v := .int .i64 0) rfl (by kernel_rfl) (by kernel_rfl) (by kernel_rfl) (fun _ _ _ h => h) (Or.inl ⟨by rfl, fun _ _ => rfl⟩) hHeld ?_
      simp only [Act.put, List.setIfInBounds_toArray, List.set_cons_zero, List.set_cons_succ]
      refine wpAnyH_take (i := 12) (oi := ⟨some 34, .binOp .eql 28 (.tmp 33) (.const (.int .i64 0)) 28, _, _, _, _⟩) (v := .bool true) rfl (by kernel_rfl) (by kernel_rfl) (by kernel_rfl) (fun _ _ _ h => h) (Or.inl ⟨by rfl, fun w _ => by go_simp⟩) hHeld ?_
      simp only [Act.put, List.setIfInBounds_toArray, List.set_cons_zero, List.set_cons_succ]
      refine wpAnyH_take (i := 13) (oi := ⟨some 35, .move (.tmp 34), _, _, _, _⟩) (v := .bool true) rfl (by kernel_rfl) (by kernel_rfl) (by kernel_rfl) (fun _ _ _ h => h) (Or.inl ⟨by rfl, fun _ _ => rfl⟩) hHeld ?_
      simp only [Act.put, List.setIfInBounds_toArray, List.set_cons_zero, List.set_cons_succ]
      refine wpAnyH_take (i := 14) (oi := ⟨some 36, .load 25 (.tmp 5), _, _, _, _⟩) (v := .agg X.cells.toArray) rfl (by kernel_rfl) (by kernel_rfl) (by kernel_rfl) (fun _ _ _ h => h) (yieldsIf_load_mid (by rfl) _ _ rfl _ _ rfl X.cells _ (fun w h => h.1.1) Try.underlying25 rfl (clk_sz _)) hHeld ?_
      simp only [Act.put, List.setIfInBounds_toArray, List.set_cons_zero, List.set_cons_succ]
      refine wpAnyH_take (i := 17) (oi := ⟨some 39, .move (.tmp 1), _, _, _, _⟩) (v := .slice S n c) rfl (by kernel_rfl) (by kernel_rfl) (by kernel_rfl) (fun _ _ _ h => h) (Or.inl ⟨by rfl, fun _ _ => rfl⟩) hHeld ?_
      simp only [Act.put, List.setIfInBounds_toArray, List.set_cons_zero, List.set_cons_succ]
      refine wpAnyH_take (i := 18) (oi := ⟨some 40, .convert 50 9 (.tmp 39), _, _, _, _⟩) (v := (.string (strOfNums b))) rfl (by kernel_rfl) (by kernel_rfl) (by kernel_rfl) (fun _ _ _ h => h) (Or.inl ⟨by rfl, fun w hSw => by have e1 := to_str (hSw.2) c; clear hSw; go_simp⟩) hHeld ?_
      simp only [Act.put, List.setIfInBounds_toArray, List.set_cons_zero, List.set_cons_succ]
      refine wpAnyH_ready (rs := [15]) (by kernel_rfl) (by simp) (AllReadyH.cons (o := ⟨some 37, .call { callee := .value (.func 27), args := #[.tmp 36], argTypes := #[25] }, _, _, _, _⟩) rfl (fun K' hK => ?_) (AllReadyH.nil))
      go_simp
      refine (KEX.out _).mono ?_
      rintro e x2 ⟨A6, n6, c6, rfl, _, _, rfl, s6, l1⟩
      replace b2 := b2.keep l1
      replace b5 := b5.keep l1
      replace b7 := b7.keep l1
      replace lw := Later.trans_ lw l1
      refine hK.out _ _ (And.intro (And.intro (show World.rangeAt _ w1.heap.size 0 X.cells from b5.range 0 13) (And.intro (show World.rangeAt _ w2.heap.size 0 X.cells from b7.range 0 13) (b7.cell (j := 15) (v := .int .i64 0) rfl))) (lk.out _ lw)) (fun hHeld => ?_)
      clear hK K'
      try simp only [Act.put, List.setIfInBounds_toArray, List.set_cons_zero, List.set_cons_succ]
      refine wpAnyH_more (S' := fun w' => (((World.rangeAt w' w1.heap.size 0 X.cells ∧ World.rangeAt w' w2.heap.size 0 X.cells ∧ w'.cell? ⟨w2.heap.size, 15, none⟩ = some (.int .i64 0)) ∧ Sl w' 1 S n (U b)) ∧ Sl w' 1 A6 b.length (U b))) (fun _ h => h.1) ?_
      replace hHeld := And.intro (And.intro (And.intro (show World.rangeAt _ w1.heap.size 0 X.cells from b5.range 0 13) (And.intro (show World.rangeAt _ w2.heap.size 0 X.cells from b7.range 0 13) (b7.cell (j := 15) (v := .int .i64 0) rfl))) (lk.out _ lw)) s6
      refine wpAnyH_take (i := 16) (oi := ⟨some 38, .convert 50 9 (.tmp 37), _, _, _, _⟩) (v := (.string (strOfNums b))) rfl (by kernel_rfl) (by kernel_rfl) (by kernel_rfl) (fun _ _ _ h => h) (Or.inl ⟨by rfl, fun w hSw => by have e1 := to_str (hSw.2) c6; clear hSw; go_simp⟩) hHeld ?_
      simp only [Act.put, List.setIfInBounds_toArray, List.set_cons_zero, List.set_cons_succ]
      refine wpAnyH_take (i := 19) (oi := ⟨some 41, .binOp .neq 9 (.tmp 38) (.tmp 40) 9, _, _, _, _⟩) (v := .bool false) rfl (by kernel_rfl) (by kernel_rfl) (by kernel_rfl) (fun _ _ _ h => h) (Or.inl ⟨by rfl, fun w _ => by go_simp⟩) hHeld ?_
      simp only [Act.put, List.setIfInBounds_toArray, List.set_cons_zero, List.set_cons_succ]
      refine wpAnyH_take (i := 20) (oi := ⟨some 42, .pick (.tmp 35) (.tmp 41) (.const (.bool false)), _, _, _, _⟩) (v := .bool false) rfl (by kernel_rfl) (by kernel_rfl) (by kernel_rfl) (fun _ _ _ h => h) (Or.inl ⟨by rfl, fun w _ => by go_simp⟩) hHeld ?_
      simp only [Act.put, List.setIfInBounds_toArray, List.set_cons_zero, List.set_cons_succ]
      refine wpAnyH_take (i := 21) (oi := ⟨some 43, .pick (.tmp 32) (.const (.bool true)) (.tmp 42), _, _, _, none⟩) (v := .bool false) rfl (by kernel_rfl) (by kernel_rfl) (by kernel_rfl) (fun _ _ _ h => h) (Or.inl ⟨by rfl, fun w _ => by go_simp⟩) hHeld ?_
      simp only [Act.put, List.setIfInBounds_toArray, List.set_cons_zero, List.set_cons_succ]
      refine wpAnyH_done (by kernel_rfl) ?_ _
      clear hHeld
      clear b5 b7
      go_wp2_with (first
        | ((with_reducible refine wpList_load_blk (o := ⟨some 44, .load 25 (.tmp 2), _, _, _, none⟩) rfl _ _ rfl w.heap.size 25 x.cells _ ?_ ?_ Try.underlying25 rfl (clk_sz _) ?_); rfl; exact b2)
        | (go_at_call 10; (with_reducible refine (KV.out _).mono ?_); rintro e w7 ⟨rfl, l7⟩; replace b2 := b2.keep l7; replace lw := Later.trans_ lw l7)
        | (go_at_call 12; (with_reducible refine (KS.out _).mono ?_); rintro e w8 ⟨rfl, l8⟩; replace b2 := b2.keep l8; replace lw := Later.trans_ lw l8))
      go_ret
      exact ⟨rfl, lw⟩
    · have dE : (E == 0) = false := beq_false_of_ne hE
      clear hEX hE
      go_enter Try.func6, Try.ntmps6
      go_upto_region 5 with (first
        | (go_at_call 25; refine (KD.out _ (lk.out _ lw)).mono ?_; rintro e w1 ⟨rfl, l1⟩; replace b2 := b2.keep l1; replace lw := Later.trans_ lw l1)
        | ((with_reducible refine wpList_store_abs (o := ⟨none, .store 25 (.tmp 5) (.tmp 18), _, _, _, none⟩) rfl _ _ _ rfl w1.heap.size 25 zK.cells X.cells ?_ ?_ ?_ ?_ ?_ ?_ ?_); rfl; rfl; exact (Blk.new _ _ _ _ rfl); exact clk_sz _; rfl; exact clk_one _; intro v1 b5 ob5; replace b2 := (b2.alloc (.cells zK.cells.toArray 25)).only ob5 (Nat.ne_of_lt b2.lt); replace lw := Below.only (lw.alloc lw.size (.cells zK.cells.toArray 25)) ob5 lw.size; clear ob5)
        | (go_at_call 26; refine (KRD.out _ (lk.out _ lw)).mono ?_; rintro e w2 ⟨rfl, l2⟩; replace b2 := b2.keep l2; replace b5 := b5.keep l2; replace lw := Later.trans_ lw l2)
        | ((with_reducible refine wpList_store_abs (o := ⟨none, .store 35 (.tmp 7) (.tmp 21), _, _, _, none⟩) rfl _ _ _ rfl w2.heap.size 35 (gotC zK 0 false 0) (gotC X 0 false E) ?_ ?_ ?_ ?_ ?_ ?_ ?_); rfl; rfl; exact (Blk.new _ _ _ _ rfl); exact got_sz _ _ _ _; rfl; exact got_one _ _ _ _; intro v2 b7 ob7; replace b2 := (b2.alloc (.cells (gotC zK 0 false 0).toArray 35)).only ob7 (Nat.ne_of_lt b2.lt); replace b5 := (b5.alloc (.cells (gotC zK 0 false 0).toArray 35)).only ob7 (Nat.ne_of_lt b5.lt); replace lw := Below.only (lw.alloc lw.size (.cells (gotC zK 0 false 0).toArray 35)) ob7 lw.size; clear ob7))
      replace b2 := b2.drew
      replace b5 := b5.drew
      replace b7 := b7.drew
      replace lw := lw.drew
      refine wp_region_held_drew (S := fun w' => (World.rangeAt w' w1.heap.size 0 X.cells ∧ World.rangeAt w' w2.heap.size 0 X.cells ∧ w'.cell? ⟨w2.heap.size, 15, none⟩ = some (.int .i64 E))) (by kernel_rfl) (And.intro (show World.rangeAt _ w1.heap.size 0 X.cells from b5.range 0 13) (And.intro (show World.rangeAt _ w2.heap.size 0 X.cells from b7.range 0 13) (b7.cell (j := 15) (v := .int .i64 E) rfl))) (fun hHeld => ?_)
      refine wpAnyH_take (i := 0) (oi := ⟨some 22, .load 25 (.tmp 5), _, _, _, none⟩) (v := .agg X.cells.toArray) rfl (by kernel_rfl) (by kernel_rfl) (by kernel_rfl) (fun _ _ _ h => h) (yieldsIf_load_mid (by rfl) _ _ rfl _ _ rfl X.cells _ (fun w h => h.1) Try.underlying25 rfl (clk_sz _)) hHeld ?_
      simp only [Act.put, List.setIfInBounds_toArray, List.set_cons_zero, List.set_cons_succ]
      refine wpAnyH_take (i := 1) (oi := ⟨some 23, .fieldAddr 35 (.tmp 7) 0, _, _, _, none⟩) (v := .pointer (some ⟨w2.heap.size, 0, none⟩)) rfl (by kernel_rfl) (by kernel_rfl) (by kernel_rfl) (fun _ _ _ h => h) (Or.inl ⟨by rfl, fun w _ => by go_simp⟩) hHeld ?_
      simp only [Act.put, List.setIfInBounds_toArray, List.set_cons_zero, List.set_cons_succ]
      refine wpAnyH_take (i := 2) (oi := ⟨some 24, .load 25 (.tmp 23), _, _, _, none⟩) (v := .agg X.cells.toArray) rfl (by kernel_rfl) (by kernel_rfl) (by kernel_rfl) (fun _ _ _ h => h) (yieldsIf_load_mid (by rfl) _ _ rfl _ _ rfl X.cells _ (fun w h => h.2.1) Try.underlying25 rfl (clk_sz _)) hHeld ?_
      simp only [Act.put, List.setIfInBounds_toArray, List.set_cons_zero, List.set_cons_succ]
      refine wpAnyH_take (i := 3) (oi := ⟨some 25, .binOp .neq 25 (.tmp 22) (.tmp 24) 25, _, _, _, none⟩) (v := .bool false) rfl (by kernel_rfl) (by kernel_rfl) (by kernel_rfl) (fun _ _ _ h => h) (Or.inl ⟨by rfl, fun w _ => by go_simp⟩) hHeld ?_
      simp only [Act.put, List.setIfInBounds_toArray, List.set_cons_zero, List.set_cons_succ]
      refine wpAnyH_take (i := 4) (oi := ⟨some 26, .move (.tmp 25), _, _, _, none⟩) (v := .bool false) rfl (by kernel_rfl) (by kernel_rfl) (by kernel_rfl) (fun _ _ _ h => h) (Or.inl ⟨by rfl, fun _ _ => rfl⟩) hHeld ?_
      simp only [Act.put, List.setIfInBounds_toArray, List.set_cons_zero, List.set_cons_succ]
      refine wpAnyH_take (i := 5) (oi := ⟨some 27, .move (.tmp 6), _, _, _, _⟩) (v := .int .i64 E) rfl (by kernel_rfl) (by kernel_rfl) (by kernel_rfl) (fun _ _ _ h => h) (Or.inl ⟨by rfl, fun _ _ => rfl⟩) hHeld ?_
      simp only [Act.put, List.setIfInBounds_toArray, List.set_cons_zero, List.set_cons_succ]
      refine wpAnyH_take (i := 6) (oi := ⟨some 28, .fieldAddr 35 (.tmp 7) 3, _, _, _, _⟩) (v := .pointer (some ⟨w2.heap.size, 15, none⟩)) rfl (by kernel_rfl) (by kernel_rfl) (by kernel_rfl) (fun _ _ _ h => h) (Or.inl ⟨by rfl, fun w _ => by go_simp⟩) hHeld ?_
      simp only [Act.put, List.setIfInBounds_toArray, List.set_cons_zero, List.set_cons_succ]
      refine wpAnyH_take (i := 7) (oi := ⟨some 29, .load 28 (.tmp 28), _, _, _, _⟩) (v := .int .i64 E) rfl (by kernel_rfl) (by kernel_rfl) (by kernel_rfl) (fun _ _ _ h => h) (Or.inl ⟨by rfl, fun w hSw => by have e1 := hSw.2.2; clear hSw; go_simp⟩) hHeld ?_
      simp only [Act.put, List.setIfInBounds_toArray, List.set_cons_zero, List.set_cons_succ]
      refine wpAnyH_take (i := 8) (oi := ⟨some 30, .binOp .neq 28 (.tmp 27) (.tmp 29) 28, _, _, _, _⟩) (v := .bool false) rfl (by kernel_rfl) (by kernel_rfl) (by kernel_rfl) (fun _ _ _ h => h) (Or.inl ⟨by rfl, fun w _ => by go_simp⟩) hHeld ?_
      simp only [Act.put, List.setIfInBounds_toArray, List.set_cons_zero, List.set_cons_succ]
      refine wpAnyH_take (i := 9) (oi := ⟨some 31, .pick (.tmp 26) (.const (.bool true)) (.tmp 30), _, _, _, none⟩) (v := .bool false) rfl (by kernel_rfl) (by kernel_rfl) (by kernel_rfl) (fun _ _ _ h => h) (Or.inl ⟨by rfl, fun w _ => by go_simp⟩) hHeld ?_
      simp only [Act.put, List.setIfInBounds_toArray, List.set_cons_zero, List.set_cons_succ]
      refine wpAnyH_take (i := 10) (oi := ⟨some 32, .move (.tmp 31), _, _, _, none⟩) (v := .bool false) rfl (by kernel_rfl) (by kernel_rfl) (by kernel_rfl) (fun _ _ _ h => h) (Or.inl ⟨by rfl, fun _ _ => rfl⟩) hHeld ?_
      simp only [Act.put, List.setIfInBounds_toArray, List.set_cons_zero, List.set_cons_succ]
      refine wpAnyH_take (i := 11) (oi := ⟨some 33, .move (.tmp 6), _, _, _, _⟩) (v := .int .i64 E) rfl (by kernel_rfl) (by kernel_rfl) (by kernel_rfl) (fun _ _ _ h => h) (Or.inl ⟨by rfl, fun _ _ => rfl⟩) hHeld ?_
      simp only [Act.put, List.setIfInBounds_toArray, List.set_cons_zero, List.set_cons_succ]
      refine wpAnyH_take (i := 12) (oi := ⟨some 34, .binOp .eql 28 (.tmp 33) (.const (.int .i64 0)) 28, _, _, _, _⟩) (v := .bool false) rfl (by kernel_rfl) (by kernel_rfl) (by kernel_rfl) (fun _ _ _ h => h) (Or.inl ⟨by rfl, fun w _ => by go_simp⟩) hHeld ?_
      simp only [Act.put, List.setIfInBounds_toArray, List.set_cons_zero, List.set_cons_succ]
      refine wpAnyH_take (i := 13) (oi := ⟨some 35, .move (.tmp 34), _, _, _, _⟩) (v := .bool false) rfl (by kernel_rfl) (by kernel_rfl) (by kernel_rfl) (fun _ _ _ h => h) (Or.inl ⟨by rfl, fun _ _ => rfl⟩) hHeld ?_
      simp only [Act.put, List.setIfInBounds_toArray, List.set_cons_zero, List.set_cons_succ]
      refine wpAnyH_take (i := 14) (oi := ⟨some 36, .load 25 (.tmp 5), _, _, _, _⟩) (v := undef) rfl (by kernel_rfl) (by kernel_rfl) (by kernel_rfl) (fun _ _ _ h => h) (Or.inr ⟨by rfl, rfl⟩) hHeld ?_
      simp only [Act.put, List.setIfInBounds_toArray, List.set_cons_zero, List.set_cons_succ]
      refine wpAnyH_take (i := 15) (oi := ⟨some 37, .call { callee := .value (.func 27), args := #[.tmp 36], argTypes := #[25] }, _, _, _, _⟩) (v := undef) rfl (by kernel_rfl) (by kernel_rfl) (by kernel_rfl) (fun _ _ _ h => h) (Or.inr ⟨by rfl, rfl⟩) hHeld ?_
      simp only [Act.put, List.setIfInBounds_toArray, List.set_cons_zero, List.set_cons_succ]
      refine wpAnyH_take (i := 16) (oi := ⟨some 38, .convert 50 9 (.tmp 37), _, _, _, _⟩) (v := undef) rfl (by kernel_rfl) (by kernel_rfl) (by kernel_rfl) (fun _ _ _ h => h) (Or.inr ⟨by rfl, rfl⟩) hHeld ?_
      simp only [Act.put, List.setIfInBounds_toArray, List.set_cons_zero, List.set_cons_succ]
      refine wpAnyH_take (i := 17) (oi := ⟨some 39, .move (.tmp 1), _, _, _, _⟩) (v := undef) rfl (by kernel_rfl) (by kernel_rfl) (by kernel_rfl) (fun _ _ _ h => h) (Or.inr ⟨by rfl, rfl⟩) hHeld ?_
      simp only [Act.put, List.setIfInBounds_toArray, List.set_cons_zero, List.set_cons_succ]
      refine wpAnyH_take (i := 18) (oi := ⟨some 40, .convert 50 9 (.tmp 39), _, _, _, _⟩) (v := undef) rfl (by kernel_rfl) (by kernel_rfl) (by kernel_rfl) (fun _ _ _ h => h) (Or.inr ⟨by rfl, rfl⟩) hHeld ?_
      simp only [Act.put, List.setIfInBounds_toArray, List.set_cons_zero, List.set_cons_succ]
      refine wpAnyH_take (i := 19) (oi := ⟨some 41, .binOp .neq 9 (.tmp 38) (.tmp 40) 9, _, _, _, _⟩) (v := undef) rfl (by kernel_rfl) (by kernel_rfl) (by kernel_rfl) (fun _ _ _ h => h) (Or.inr ⟨by rfl, rfl⟩) hHeld ?_
      simp only [Act.put, List.setIfInBounds_toArray, List.set_cons_zero, List.set_cons_succ]
      refine wpAnyH_take (i := 20) (oi := ⟨some 42, .pick (.tmp 35) (.tmp 41) (.const (.bool false)), _, _, _, _⟩) (v := .bool false) rfl (by kernel_rfl) (by kernel_rfl) (by kernel_rfl) (fun _ _ _ h => h) (Or.inl ⟨by rfl, fun w _ => by go_simp⟩) hHeld ?_
      simp only [Act.put, List.setIfInBounds_toArray, List.set_cons_zero, List.set_cons_succ]
      refine wpAnyH_take (i := 21) (oi := ⟨some 43, .pick (.tmp 32) (.const (.bool true)) (.tmp 42), _, _, _, none⟩) (v := .bool false) rfl (by kernel_rfl) (by kernel_rfl) (by kernel_rfl) (fun _ _ _ h => h) (Or.inl ⟨by rfl, fun w _ => by go_simp⟩) hHeld ?_
      simp only [Act.put, List.setIfInBounds_toArray, List.set_cons_zero, List.set_cons_succ]
      refine wpAnyH_done (by kernel_rfl) ?_ _
      clear hHeld
      clear b5 b7
      go_wp2_with (first
        | ((with_reducible refine wpList_load_blk (o := ⟨some 44, .load 25 (.tmp 2), _, _, _, none⟩) rfl _ _ rfl w.heap.size 25 x.cells _ ?_ ?_ Try.underlying25 rfl (clk_sz _) ?_); rfl; exact b2)
        | (go_at_call 10; (with_reducible refine (KV.out _).mono ?_); rintro e w7 ⟨rfl, l7⟩; replace b2 := b2.keep l7; replace lw := Later.trans_ lw l7)
        | (go_at_call 12; (with_reducible refine (KS.out _).mono ?_); rintro e w8 ⟨rfl, l8⟩; replace b2 := b2.keep l8; replace lw := Later.trans_ lw l8))
      go_ret
      exact ⟨rfl, lw⟩

set_option maxRecDepth 100000 in
theorem clockCodes_lifted (os : Os) (started : os.Started) (H : Type) (enc : TypeId × Value → H) :
    ReturnsInHanded {} Try.checked os 6 .any (Rows.clockCodesSpec.pre6 enc Try.prog Try.f6 Rows.clockCodesRow.domain false) (Rows.clockCodesSpec.post enc Try.prog Try.f6 false true false false) := by
  refine returnsInHanded_of_change (C := Try.checked) ownK started (by kernel_rfl) Try.func6
    (ChangeSpec.witness6 (enc := enc) (C := Try.checked) false ⟨#[], #[.agg #[.int .i64 0, .bool false, .bool false, .bool false, .bool false, .int .i64 0, .int .i64 0, .int .i64 0, .int .i64 0, .int .i64 0, .int .i64 0, .int .i64 0, .int .i64 0], .slice none 0 0], []⟩ 8 (by kernel_rfl) (by kernel_rfl) (by kernel_rfl) (by kernel_rfl)) ?_
  intro W base args ds gs before hval0 hW hcnd _
  have hval : ∀ (j : Nat) t v, Try.f6.params[j]? = some t → args[j]? = some v → Value.okWide Try.prog W .any base t v := hval0
  have hW' := hW
  obtain ⟨p, q, hA0, hV, rfl, hfz, hnd⟩ := hW
  have hA : DataW.TrodAll enc Try.prog W 0 (fun _ => true) true Try.f6.params.toList args.toList ds p := hA0
  rw [Try.params6] at hA hval
  obtain ⟨v0, vs0, d0, ds0, p0, q0, hargs, rfl, rfl, h0, r0⟩ := trodAll_cons hA
  obtain ⟨v1, vs1, d1, ds1, p1, q1, rfl, rfl, rfl, h1, r1⟩ := trodAll_cons r0
  obtain ⟨rfl, rfl, rfl⟩ := trodAll_nil r1
  obtain rfl : args = #[v0, v1] := by cases args; simp_all
  obtain ⟨rfl, rfl⟩ := trodVars_none hV
  obtain ⟨a0, rfl, z0⟩ := clk_open (hval 0 25 v0 rfl rfl) h0
  obtain ⟨A1, n1, c1, b1, rfl, x1, y1, s1, z1⟩ := bytes_arg Try.underlying50 Try.underlying5 (by kernel_rfl) (hval 1 50 v1 rfl rfl) h1
  clear hA0 hval0
  simp only [List.append_nil] at hW'
  refine (code_all a0 A1 n1 c1 b1 W z0 s1 z1 x1 y1).mono fun e W' ⟨he, hw⟩ => ?_
  subst he
  exact ⟨_, rfl, law_post laidK rfl (by kernel_rfl) (by kernel_rfl) Try.underlying4 (by kernel_rfl) hW' rfl hw⟩
set_option maxRecDepth 100000 in
/-- The statement. -/
theorem clockCodes_said : Rows.ClockCodesSaid :=
  OpenClaim.holds_of_wide 6 Try.f6 rfl rfl rfl rfl rfl rfl rfl ⟨rfl, rfl, rfl, rfl, rfl⟩ rfl rfl rfl rfl rfl (by kernel_rfl) Try.func6 (by kernel_rfl)
    (of_decide_eq_true (by kernel_rfl)) (by unfold Func.isWrapper; first | (rw [if_pos (by decide +kernel)]; kernel_rfl) | (rw [if_neg (by decide +kernel)]; exact ⟨rfl, rfl⟩))
    (fun os started H enc _ => clockCodes_lifted os started H enc)
#print axioms clockCodes_said
end Go.Proofs.Ytdohocbpjpnmeaa
