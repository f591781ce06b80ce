/-
  THE STATEMENT ConsoleReadsBack: Decode does what the specification says; Decode of Encode is the console, if it is valid, and ErrForm otherwise; Encode of what is decoded is the bytes; for every console of at most 100 bytes, and at most 200 bytes.
-/
import Derived.Test.YtkhgaikfomcjeaaConI
import Derived.Deep.RegionHeld
namespace Go.Proofs.Ytkhgaikfomcjeaa
open Go.RowKit Go.ChangeShapes Go.WideShapes Go.ChangeAt

theorem decB_bytes {b z : Wm.Bs} {u : Nat} (hb : Wm.isBs b) (h : Wm.decB b = (z, u, 0)) : Wm.isBs z := by
  have h1 := (Wm.decB_can b z u hb h).2
  intro y hy
  have h2 : y ∈ Wm.encB z := by unfold Wm.encB; exact List.mem_append.2 (Or.inr hy)
  rw [← h1] at h2
  exact hb y (List.mem_of_mem_take h2)
theorem dec_both (S : Option Addr) (n c : Nat) (b : Wm.Bs) (hl : b.length = n) (hb : Wm.isBs b) (hnc : n ≤ c) (hn : c ≤ maxLen) : ∃ (X : Cn) (E : Int),
    (∀ w, Sl w 1 S n (U b) → Calls Try.prog 16 #[.slice S n c] w fun r w' => r = .returned (.tuple #[.agg X.cells.toArray, .int .i64 E]) ∧ Later w w') ∧
    (∀ w, Sl w 1 S n (U b) → Calls Try.prog 17 #[.slice S n c] w fun r w' => r = .returned (.agg (rdC X E).toArray) ∧ Later w w') ∧
    (E = 0 → ∀ w, Calls Try.prog 10 #[.agg X.cells.toArray] w (GotBs b w)) := by
  obtain ⟨z, u, e, hd1⟩ : ∃ z u e, Wm.decB b = (z, u, e) := ⟨_, _, _, rfl⟩
  obtain ⟨m, v, f, hd2⟩ : ∃ m v f, Wm.decI (b.drop u) = (m, v, f) := ⟨_, _, _, rfl⟩
  refine ⟨(decR n z u e m v f).1, (decR n z u e m v f).2, fun w hs => dec_any S n c b w hs hb hnc hn z u e m v f hd1 (fun _ => hd2), fun w hs => rdec_any S n c b w hs hb hnc hn z u e m v f hd1 (fun _ => hd2), fun hE w => ?_⟩
  unfold decR at hE ⊢
  by_cases he : e = 0
  · subst he
    by_cases hf : f = 0
    · subst hf
      have hu := Wm.decB_can b z u hb hd1
      have hv := Wm.decI_can (b.drop u) m v (isBs_drop hb u) hd2
      rw [List.length_drop] at hv
      rw [if_neg (by simp), if_neg (by simp)] at hE ⊢
      by_cases hlt : u + v < n
      · rw [if_pos hlt] at hE; simp at hE
      · rw [if_neg hlt] at hE ⊢
        cases hk : (⟨strOfNums z, m⟩ : Cn).ok with
        | false => rw [hk] at hE; simp at hE
        | true =>
          obtain ⟨h1, h2, h3⟩ := ok_open hk
          rw [if_pos rfl]
          have h4 := enc_any ⟨strOfNums z, m⟩ w (Nat.le_trans h1 (by decide)) ⟨Int.le_trans (by decide) h2, Int.le_trans h3 (by decide)⟩
          have h5 : encC ⟨strOfNums z, m⟩ = b := by
            unfold encC
            rw [Wm.ofS_str (decB_bytes hb hd1), ← hu.2, ← hv.2, List.take_of_length_le (l := b.drop u) (by rw [List.length_drop]; omega), List.take_append_drop]
          rw [h5] at h4
          exact h4
    · rw [if_neg (by simp), if_pos hf] at hE; exact absurd hE hf
  · rw [if_pos he] at hE; exact absurd hE he
set_option maxRecDepth 100000 in
set_option maxHeartbeats 8000000 in
theorem back_all (x : Cn) (S : Option Addr) (n c : Nat) (b : Wm.Bs) (w : World) (hx : i64 x.n) (hs : Sl w 1 S n (U b)) (hb : Wm.isBs b) (hnc : n ≤ c) (hn : c ≤ maxLen) :
    Calls Try.prog 4 #[.agg x.cells.toArray, .slice S n c] w fun e w' => e = .returned (.bool true) ∧ Later w w' := by
  have KS := Lib.hid fun w' => sanity_any w'
  have b2 := (Blk.new' w w.heap.size 23 (x.cells).toArray (x.cells) (by simp) rfl)
  have lw := (later1 w (.cells (x.cells).toArray 23))
  obtain ⟨u0, hu⟩ : ∃ u, (w.alloc (.cells (x.cells).toArray 23)) = u := ⟨_, rfl⟩
  rw [hu] at b2 lw
  by_cases h100 : 100 < x.s.size
  · have d1 : decide ((100 : Int) < (x.s.size : Int)) = true := decide_eq_true (by omega)
    clear hx hs hb hnc hn
    go_enter Try.func4, Try.ntmps4
    go_upto_region 1 with fail
    have hu2 : (w.alloc (.cells (x.cells).toArray 23)) = u0 := hu
    try rw [hu2]
    clear hu hu2
    have e0 := b2.cell (cn_s x)
    go_wp2_with (first
      | (go_at_call 7; clear e0; (with_reducible refine (KS.out _).mono ?_); rintro e w3 ⟨rfl, l3⟩; replace b2 := b2.keep l3; replace lw := Later.trans_ lw l3))
    go_ret
    exact ⟨rfl, lw⟩
  have d1 : decide ((100 : Int) < (x.s.size : Int)) = false := decide_eq_false (by omega)
  by_cases h200 : 200 < n
  · have d3 : decide ((200 : Int) < (n : Int)) = true := decide_eq_true (by omega)
    clear hx hs hb hnc hn
    go_enter Try.func4, Try.ntmps4
    go_upto_region 1 with fail
    have hu2 : (w.alloc (.cells (x.cells).toArray 23)) = u0 := hu
    try rw [hu2]
    clear hu hu2
    have e0 := b2.cell (cn_s x)
    go_wp2_with (first
      | (go_at_call 7; clear e0; (with_reducible refine (KS.out _).mono ?_); rintro e w3 ⟨rfl, l3⟩; replace b2 := b2.keep l3; replace lw := Later.trans_ lw l3))
    go_ret
    exact ⟨rfl, lw⟩
  have d3 : decide ((200 : Int) < (n : Int)) = false := decide_eq_false (by omega)
  have hz : x.s.size ≤ 100 := by omega
  obtain ⟨X, E, hD, hR, hEX⟩ := dec_both S n c b hs.blen hb hnc hn
  have KD := Lib.hid hD
  have KRD := Lib.hid hR
  have lk := Lib.hid (fun (w' : World) (hl : Later w w') => hs.keep hl)
  have hqX := cn_same X
  have KE0 := fun w' => enc_any x w' hz hx
  have KDE0 := fun (A4 : Option Addr) (c4 : Nat) (w' : World) (g3 : (encC x).length ≤ c4) (g4 : c4 ≤ maxLen) (s4 : Sl w' 1 A4 (encC x).length (U (encC x))) => dec_back x A4 c4 w' hz hx s4 g3 g4
  obtain ⟨EB, hEB⟩ : ∃ EB, EB = encC x := ⟨_, rfl⟩
  rw [← hEB] at KE0 KDE0
  have KE := Lib.hid KE0
  have KV := Lib.hid fun w' => rvalid_any x w'
  clear KE0 hEB hD hR hx hs hb hnc hn h100 h200 hz
  cases hok : x.ok with
  | true =>
    rw [hok] at KV KDE0
    have KDE := Lib.hid (fun (A4 : Option Addr) (c4 : Nat) (w' : World) (g3 : EB.length ≤ c4) (g4 : c4 ≤ maxLen) (s4 : Sl w' 1 A4 EB.length (U EB)) => (show Calls Try.prog 16 #[.slice A4 EB.length c4] w' fun r w'' => r = .returned (.tuple #[.agg x.cells.toArray, .int .i64 0]) ∧ Later w' w'' from KDE0 A4 c4 w' g3 g4 s4))
    have hqx := cn_same x
    clear KDE0 hok
    by_cases hE : E = 0
    · subst hE
      have KEX := Lib.hid (hEX rfl)
      clear hEX
      go_enter Try.func4, Try.ntmps4
      go_upto_region 1 with fail
      have hu2 : (w.alloc (.cells (x.cells).toArray 23)) = u0 := hu
      try rw [hu2]
      clear hu hu2
      have e0 := b2.cell (cn_s x)
      go_upto_region 5 with (first
        | (go_at_call 16; clear e0; refine (KD.out _ (lk.out _ lw)).mono ?_; rintro e w1 ⟨rfl, l1⟩; replace b2 := b2.keep l1; replace lw := Later.trans_ lw l1)
        | ((with_reducible refine wpList_store_abs (o := ⟨none, .store 23 (.tmp 5) (.tmp 23), _, _, _, none⟩) rfl _ _ _ rfl w1.heap.size 23 zC.cells X.cells ?_ ?_ ?_ ?_ ?_ ?_ ?_); rfl; rfl; exact (Blk.new _ _ _ _ rfl); exact cn_sz _; rfl; exact cn_one _; intro v1 b5 ob5; replace b2 := (b2.alloc (.cells zC.cells.toArray 23)).only ob5 (Nat.ne_of_lt b2.lt); replace lw := Below.only (lw.alloc lw.size (.cells zC.cells.toArray 23)) ob5 lw.size; clear ob5)
        | (go_at_call 17; refine (KRD.out _ (lk.out _ lw)).mono ?_; rintro e w2 ⟨rfl, l2⟩; replace b2 := b2.keep l2; replace b5 := b5.keep l2; replace lw := Later.trans_ lw l2)
        | ((with_reducible refine wpList_store_abs (o := ⟨none, .store 46 (.tmp 7) (.tmp 26), _, _, _, none⟩) rfl _ _ _ rfl w2.heap.size 46 (rdC zC 0) (rdC X 0) ?_ ?_ ?_ ?_ ?_ ?_ ?_); rfl; rfl; exact (Blk.new _ _ _ _ rfl); exact (rd_sz _ _); rfl; exact rd_one _ _; intro v2 b7 ob7; replace b2 := (b2.alloc (.cells (rdC zC 0).toArray 46)).only ob7 (Nat.ne_of_lt b2.lt); replace b5 := (b5.alloc (.cells (rdC zC 0).toArray 46)).only ob7 (Nat.ne_of_lt b5.lt); replace lw := Below.only (lw.alloc lw.size (.cells (rdC zC 0).toArray 46)) ob7 lw.size; clear ob7))
      go_upto_region 6 with (first
        | ((with_reducible refine wpList_store_abs (o := ⟨none, .store 23 (.tmp 8) (.tmp 31), _, _, _, none⟩) rfl _ _ _ rfl w5.heap.size 23 zC.cells x.cells ?_ ?_ ?_ ?_ ?_ ?_ ?_); rfl; rfl; exact (Blk.new _ _ _ _ rfl); exact cn_sz _; rfl; exact cn_one _; intro v5 b8 ob8; replace b2 := (b2.alloc (.cells zC.cells.toArray 23)).only ob8 (Nat.ne_of_lt b2.lt); replace b5 := (b5.alloc (.cells zC.cells.toArray 23)).only ob8 (Nat.ne_of_lt b5.lt); replace b7 := (b7.alloc (.cells zC.cells.toArray 23)).only ob8 (Nat.ne_of_lt b7.lt); replace lw := Below.only (lw.alloc lw.size (.cells zC.cells.toArray 23)) ob8 lw.size; clear ob8)
        | (go_at_call 16; refine (KDE.out A4 c4 _ g3 g4 s4).mono ?_; rintro e w5 ⟨rfl, l5⟩; replace b2 := b2.keep l5; replace b5 := b5.keep l5; replace b7 := b7.keep l5; replace lw := Later.trans_ lw l5)
        | (go_at_call 10; refine (KE.out _).mono ?_; rintro e w4 ⟨A4, n4, c4, rfl, g3, g4, rfl, s4, l4⟩; replace b2 := b2.keep l4; replace b5 := b5.keep l4; replace b7 := b7.keep l4; replace lw := Later.trans_ lw l4)
        | ((with_reducible refine wpList_load_blk (o := ⟨some 28, .load 23 (.tmp 2), _, _, _, none⟩) rfl _ _ rfl w.heap.size 23 x.cells _ ?_ ?_ Try.underlying23 rfl (cn_sz _) ?_); rfl; exact b2))
      clear s4
      replace b2 := b2.drew
      replace b5 := b5.drew
      replace b7 := b7.drew
      replace b8 := b8.drew
      replace lw := lw.drew
      refine wp_region_held_drew (S := fun w' => ((World.rangeAt w' w1.heap.size 0 X.cells ∧ World.rangeAt w' w2.heap.size 0 X.cells ∧ w'.cell? ⟨w2.heap.size, 2, none⟩ = some (.int .i64 0)) ∧ Sl w' 1 S n (U b))) (by kernel_rfl) (And.intro (And.intro (show World.rangeAt _ w1.heap.size 0 X.cells from b5.range 0 2) (And.intro (show World.rangeAt _ w2.heap.size 0 X.cells from b7.range 0 2) (b7.cell (j := 2) (v := .int .i64 0) rfl))) (lk.out _ lw)) (fun hHeld => ?_)
      refine wpAnyH_take (i := 0) (oi := ⟨some 33, .load 23 (.tmp 5), _, _, _, none⟩) (v := .agg X.cells.toArray) rfl (by kernel_rfl) (by kernel_rfl) (by kernel_rfl) (fun _ _ _ h => h) (yieldsIf_load_mid (by rfl) _ _ rfl _ _ rfl X.cells _ (fun w h => h.1.1) Try.underlying23 rfl (cn_sz _)) hHeld ?_
      simp only [Act.put, List.setIfInBounds_toArray, List.set_cons_zero, List.set_cons_succ]
      refine wpAnyH_take (i := 1) (oi := ⟨some 34, .fieldAddr 46 (.tmp 7) 0, _, _, _, none⟩) (v := .pointer (some ⟨w2.heap.size, 0, none⟩)) rfl (by kernel_rfl) (by kernel_rfl) (by kernel_rfl) (fun _ _ _ h => h) (Or.inl ⟨by rfl, fun w _ => by go_simp⟩) hHeld ?_
      simp only [Act.put, List.setIfInBounds_toArray, List.set_cons_zero, List.set_cons_succ]
      refine wpAnyH_take (i := 2) (oi := ⟨some 35, .load 23 (.tmp 34), _, _, _, none⟩) (v := .agg X.cells.toArray) rfl (by kernel_rfl) (by kernel_rfl) (by kernel_rfl) (fun _ _ _ h => h) (yieldsIf_load_mid (by rfl) _ _ rfl _ _ rfl X.cells _ (fun w h => h.1.2.1) Try.underlying23 rfl (cn_sz _)) hHeld ?_
      simp only [Act.put, List.setIfInBounds_toArray, List.set_cons_zero, List.set_cons_succ]
      refine wpAnyH_take (i := 3) (oi := ⟨some 36, .binOp .neq 23 (.tmp 33) (.tmp 35) 23, _, _, _, none⟩) (v := .bool false) rfl (by kernel_rfl) (by kernel_rfl) (by kernel_rfl) (fun _ _ _ h => h) (Or.inl ⟨by rfl, fun w _ => by go_simp⟩) hHeld ?_
      simp only [Act.put, List.setIfInBounds_toArray, List.set_cons_zero, List.set_cons_succ]
      refine wpAnyH_take (i := 4) (oi := ⟨some 37, .move (.tmp 36), _, _, _, none⟩) (v := .bool false) rfl (by kernel_rfl) (by kernel_rfl) (by kernel_rfl) (fun _ _ _ h => h) (Or.inl ⟨by rfl, fun _ _ => rfl⟩) hHeld ?_
      simp only [Act.put, List.setIfInBounds_toArray, List.set_cons_zero, List.set_cons_succ]
      refine wpAnyH_take (i := 5) (oi := ⟨some 38, .move (.tmp 6), _, _, _, _⟩) (v := .int .i64 0) rfl (by kernel_rfl) (by kernel_rfl) (by kernel_rfl) (fun _ _ _ h => h) (Or.inl ⟨by rfl, fun _ _ => rfl⟩) hHeld ?_
      simp only [Act.put, List.setIfInBounds_toArray, List.set_cons_zero, List.set_cons_succ]
      refine wpAnyH_take (i := 6) (oi := ⟨some 39, .fieldAddr 46 (.tmp 7) 1, _, _, _, _⟩) (v := .pointer (some ⟨w2.heap.size, 2, none⟩)) rfl (by kernel_rfl) (by kernel_rfl) (by kernel_rfl) (fun _ _ _ h => h) (Or.inl ⟨by rfl, fun w _ => by go_simp⟩) hHeld ?_
      simp only [Act.put, List.setIfInBounds_toArray, List.set_cons_zero, List.set_cons_succ]
      refine wpAnyH_take (i := 7) (oi := ⟨some 40, .load 42 (.tmp 39), _, _, _, _⟩) (v := .int .i64 0) rfl (by kernel_rfl) (by kernel_rfl) (by kernel_rfl) (fun _ _ _ h => h) (Or.inl ⟨by rfl, fun w hSw => by have e1 := hSw.1.2.2; clear hSw; go_simp⟩) hHeld ?_
      simp only [Act.put, List.setIfInBounds_toArray, List.set_cons_zero, List.set_cons_succ]
      refine wpAnyH_take (i := 8) (oi := ⟨some 41, .binOp .neq 42 (.tmp 38) (.tmp 40) 42, _, _, _, _⟩) (v := .bool false) rfl (by kernel_rfl) (by kernel_rfl) (by kernel_rfl) (fun _ _ _ h => h) (Or.inl ⟨by rfl, fun w _ => by go_simp⟩) hHeld ?_
      simp only [Act.put, List.setIfInBounds_toArray, List.set_cons_zero, List.set_cons_succ]
      refine wpAnyH_take (i := 9) (oi := ⟨some 42, .pick (.tmp 37) (.const (.bool true)) (.tmp 41), _, _, _, none⟩) (v := .bool false) rfl (by kernel_rfl) (by kernel_rfl) (by kernel_rfl) (fun _ _ _ h => h) (Or.inl ⟨by rfl, fun w _ => by go_simp⟩) hHeld ?_
      simp only [Act.put, List.setIfInBounds_toArray, List.set_cons_zero, List.set_cons_succ]
      refine wpAnyH_take (i := 10) (oi := ⟨some 43, .move (.tmp 42), _, _, _, none⟩) (v := .bool false) rfl (by kernel_rfl) (by kernel_rfl) (by kernel_rfl) (fun _ _ _ h => h) (Or.inl ⟨by rfl, fun _ _ => rfl⟩) hHeld ?_
      simp only [Act.put, List.setIfInBounds_toArray, List.set_cons_zero, List.set_cons_succ]
      refine wpAnyH_take (i := 11) (oi := ⟨some 44, .move (.tmp 6), _, _, _, _⟩) (v := .int .i64 0) rfl (by kernel_rfl) (by kernel_rfl) (by kernel_rfl) (fun _ _ _ h => h) (Or.inl ⟨by rfl, fun _ _ => rfl⟩) hHeld ?_
      simp only [Act.put, List.setIfInBounds_toArray, List.set_cons_zero, List.set_cons_succ]
      refine wpAnyH_take (i := 12) (oi := ⟨some 45, .binOp .eql 42 (.tmp 44) (.const (.int .i64 0)) 42, _, _, _, _⟩) (v := .bool true) rfl (by kernel_rfl) (by kernel_rfl) (by kernel_rfl) (fun _ _ _ h => h) (Or.inl ⟨by rfl, fun w _ => by go_simp⟩) hHeld ?_
      simp only [Act.put, List.setIfInBounds_toArray, List.set_cons_zero, List.set_cons_succ]
      refine wpAnyH_take (i := 13) (oi := ⟨some 46, .move (.tmp 45), _, _, _, _⟩) (v := .bool true) rfl (by kernel_rfl) (by kernel_rfl) (by kernel_rfl) (fun _ _ _ h => h) (Or.inl ⟨by rfl, fun _ _ => rfl⟩) hHeld ?_
      simp only [Act.put, List.setIfInBounds_toArray, List.set_cons_zero, List.set_cons_succ]
      refine wpAnyH_take (i := 14) (oi := ⟨some 47, .load 23 (.tmp 5), _, _, _, _⟩) (v := .agg X.cells.toArray) rfl (by kernel_rfl) (by kernel_rfl) (by kernel_rfl) (fun _ _ _ h => h) (yieldsIf_load_mid (by rfl) _ _ rfl _ _ rfl X.cells _ (fun w h => h.1.1) Try.underlying23 rfl (cn_sz _)) hHeld ?_
      simp only [Act.put, List.setIfInBounds_toArray, List.set_cons_zero, List.set_cons_succ]
      refine wpAnyH_take (i := 17) (oi := ⟨some 50, .move (.tmp 1), _, _, _, _⟩) (v := .slice S n c) rfl (by kernel_rfl) (by kernel_rfl) (by kernel_rfl) (fun _ _ _ h => h) (Or.inl ⟨by rfl, fun _ _ => rfl⟩) hHeld ?_
      simp only [Act.put, List.setIfInBounds_toArray, List.set_cons_zero, List.set_cons_succ]
      refine wpAnyH_take (i := 18) (oi := ⟨some 51, .convert 29 9 (.tmp 50), _, _, _, _⟩) (v := (.string (strOfNums b))) rfl (by kernel_rfl) (by kernel_rfl) (by kernel_rfl) (fun _ _ _ h => h) (Or.inl ⟨by rfl, fun w hSw => by have e1 := to_str (hSw.2) c; clear hSw; go_simp⟩) hHeld ?_
      simp only [Act.put, List.setIfInBounds_toArray, List.set_cons_zero, List.set_cons_succ]
      refine wpAnyH_ready (rs := [15]) (by kernel_rfl) (by simp) (AllReadyH.cons (o := ⟨some 48, .call { callee := .value (.func 10), args := #[.tmp 47], argTypes := #[23] }, _, _, _, _⟩) rfl (fun K' hK => ?_) (AllReadyH.nil))
      go_simp
      refine (KEX.out _).mono ?_
      rintro e x2 ⟨A6, n6, c6, rfl, _, _, rfl, s6, l1⟩
      replace b2 := b2.keep l1
      replace b5 := b5.keep l1
      replace b7 := b7.keep l1
      replace b8 := b8.keep l1
      replace lw := Later.trans_ lw l1
      refine hK.out _ _ (And.intro (And.intro (show World.rangeAt _ w1.heap.size 0 X.cells from b5.range 0 2) (And.intro (show World.rangeAt _ w2.heap.size 0 X.cells from b7.range 0 2) (b7.cell (j := 2) (v := .int .i64 0) rfl))) (lk.out _ lw)) (fun hHeld => ?_)
      clear hK K'
      try simp only [Act.put, List.setIfInBounds_toArray, List.set_cons_zero, List.set_cons_succ]
      refine wpAnyH_more (S' := fun w' => (((World.rangeAt w' w1.heap.size 0 X.cells ∧ World.rangeAt w' w2.heap.size 0 X.cells ∧ w'.cell? ⟨w2.heap.size, 2, none⟩ = some (.int .i64 0)) ∧ Sl w' 1 S n (U b)) ∧ Sl w' 1 A6 b.length (U b))) (fun _ h => h.1) ?_
      replace hHeld := And.intro (And.intro (And.intro (show World.rangeAt _ w1.heap.size 0 X.cells from b5.range 0 2) (And.intro (show World.rangeAt _ w2.heap.size 0 X.cells from b7.range 0 2) (b7.cell (j := 2) (v := .int .i64 0) rfl))) (lk.out _ lw)) s6
      refine wpAnyH_take (i := 16) (oi := ⟨some 49, .convert 29 9 (.tmp 48), _, _, _, _⟩) (v := (.string (strOfNums b))) rfl (by kernel_rfl) (by kernel_rfl) (by kernel_rfl) (fun _ _ _ h => h) (Or.inl ⟨by rfl, fun w hSw => by have e1 := to_str (hSw.2) c6; clear hSw; go_simp⟩) hHeld ?_
      simp only [Act.put, List.setIfInBounds_toArray, List.set_cons_zero, List.set_cons_succ]
      refine wpAnyH_take (i := 19) (oi := ⟨some 52, .binOp .neq 9 (.tmp 49) (.tmp 51) 9, _, _, _, _⟩) (v := .bool false) rfl (by kernel_rfl) (by kernel_rfl) (by kernel_rfl) (fun _ _ _ h => h) (Or.inl ⟨by rfl, fun w _ => by go_simp⟩) hHeld ?_
      simp only [Act.put, List.setIfInBounds_toArray, List.set_cons_zero, List.set_cons_succ]
      refine wpAnyH_take (i := 20) (oi := ⟨some 53, .pick (.tmp 46) (.tmp 52) (.const (.bool false)), _, _, _, _⟩) (v := .bool false) rfl (by kernel_rfl) (by kernel_rfl) (by kernel_rfl) (fun _ _ _ h => h) (Or.inl ⟨by rfl, fun w _ => by go_simp⟩) hHeld ?_
      simp only [Act.put, List.setIfInBounds_toArray, List.set_cons_zero, List.set_cons_succ]
      refine wpAnyH_take (i := 21) (oi := ⟨some 54, .pick (.tmp 43) (.const (.bool true)) (.tmp 53), _, _, _, none⟩) (v := .bool false) rfl (by kernel_rfl) (by kernel_rfl) (by kernel_rfl) (fun _ _ _ h => h) (Or.inl ⟨by rfl, fun w _ => by go_simp⟩) hHeld ?_
      simp only [Act.put, List.setIfInBounds_toArray, List.set_cons_zero, List.set_cons_succ]
      refine wpAnyH_done (by kernel_rfl) ?_ _
      clear hHeld
      clear b5 b7
      go_wp2_with (first
        | ((with_reducible refine wpList_load_blk (o := ⟨some 55, .load 23 (.tmp 2), _, _, _, none⟩) rfl _ _ rfl w.heap.size 23 x.cells _ ?_ ?_ Try.underlying23 rfl (cn_sz _) ?_); rfl; exact b2)
        | (go_at_call 9; (with_reducible refine (KV.out _).mono ?_); rintro e w7 ⟨rfl, l7⟩; replace b2 := b2.keep l7; replace b8 := b8.keep l7; replace lw := Later.trans_ lw l7)
        | (go_at_call 7; (with_reducible refine (KS.out _).mono ?_); rintro e w8 ⟨rfl, l8⟩; replace b2 := b2.keep l8; replace b8 := b8.keep l8; replace lw := Later.trans_ lw l8)
        | ((with_reducible refine wpList_load_g (o := ⟨some 74, .load 23 (.tmp 8), _, _, _, _⟩) _ _ rfl w5.heap.size 23 x.cells _ ?_ ?_ ?_ Try.underlying23 ?_ (cn_sz _) ?_); rfl; rfl; exact b8; rfl)
        | ((with_reducible refine wpList_load_g (o := ⟨some 75, .load 23 (.tmp 2), _, _, _, _⟩) _ _ rfl w.heap.size 23 x.cells _ ?_ ?_ ?_ Try.underlying23 ?_ (cn_sz _) ?_); rfl; rfl; exact b2; rfl))
      go_ret
      exact ⟨rfl, lw⟩
    · have dE : (E == 0) = false := beq_false_of_ne hE
      clear hEX hE
      go_enter Try.func4, Try.ntmps4
      go_upto_region 1 with fail
      have hu2 : (w.alloc (.cells (x.cells).toArray 23)) = u0 := hu
      try rw [hu2]
      clear hu hu2
      have e0 := b2.cell (cn_s x)
      go_upto_region 5 with (first
        | (go_at_call 16; clear e0; refine (KD.out _ (lk.out _ lw)).mono ?_; rintro e w1 ⟨rfl, l1⟩; replace b2 := b2.keep l1; replace lw := Later.trans_ lw l1)
        | ((with_reducible refine wpList_store_abs (o := ⟨none, .store 23 (.tmp 5) (.tmp 23), _, _, _, none⟩) rfl _ _ _ rfl w1.heap.size 23 zC.cells X.cells ?_ ?_ ?_ ?_ ?_ ?_ ?_); rfl; rfl; exact (Blk.new _ _ _ _ rfl); exact cn_sz _; rfl; exact cn_one _; intro v1 b5 ob5; replace b2 := (b2.alloc (.cells zC.cells.toArray 23)).only ob5 (Nat.ne_of_lt b2.lt); replace lw := Below.only (lw.alloc lw.size (.cells zC.cells.toArray 23)) ob5 lw.size; clear ob5)
        | (go_at_call 17; refine (KRD.out _ (lk.out _ lw)).mono ?_; rintro e w2 ⟨rfl, l2⟩; replace b2 := b2.keep l2; replace b5 := b5.keep l2; replace lw := Later.trans_ lw l2)
        | ((with_reducible refine wpList_store_abs (o := ⟨none, .store 46 (.tmp 7) (.tmp 26), _, _, _, none⟩) rfl _ _ _ rfl w2.heap.size 46 (rdC zC 0) (rdC X E) ?_ ?_ ?_ ?_ ?_ ?_ ?_); rfl; rfl; exact (Blk.new _ _ _ _ rfl); exact (rd_sz _ _); rfl; exact rd_one _ _; intro v2 b7 ob7; replace b2 := (b2.alloc (.cells (rdC zC 0).toArray 46)).only ob7 (Nat.ne_of_lt b2.lt); replace b5 := (b5.alloc (.cells (rdC zC 0).toArray 46)).only ob7 (Nat.ne_of_lt b5.lt); replace lw := Below.only (lw.alloc lw.size (.cells (rdC zC 0).toArray 46)) ob7 lw.size; clear ob7))
      go_upto_region 6 with (first
        | ((with_reducible refine wpList_store_abs (o := ⟨none, .store 23 (.tmp 8) (.tmp 31), _, _, _, none⟩) rfl _ _ _ rfl w5.heap.size 23 zC.cells x.cells ?_ ?_ ?_ ?_ ?_ ?_ ?_); rfl; rfl; exact (Blk.new _ _ _ _ rfl); exact cn_sz _; rfl; exact cn_one _; intro v5 b8 ob8; replace b2 := (b2.alloc (.cells zC.cells.toArray 23)).only ob8 (Nat.ne_of_lt b2.lt); replace b5 := (b5.alloc (.cells zC.cells.toArray 23)).only ob8 (Nat.ne_of_lt b5.lt); replace b7 := (b7.alloc (.cells zC.cells.toArray 23)).only ob8 (Nat.ne_of_lt b7.lt); replace lw := Below.only (lw.alloc lw.size (.cells zC.cells.toArray 23)) ob8 lw.size; clear ob8)
        | (go_at_call 16; refine (KDE.out A4 c4 _ g3 g4 s4).mono ?_; rintro e w5 ⟨rfl, l5⟩; replace b2 := b2.keep l5; replace b5 := b5.keep l5; replace b7 := b7.keep l5; replace lw := Later.trans_ lw l5)
        | (go_at_call 10; refine (KE.out _).mono ?_; rintro e w4 ⟨A4, n4, c4, rfl, g3, g4, rfl, s4, l4⟩; replace b2 := b2.keep l4; replace b5 := b5.keep l4; replace b7 := b7.keep l4; replace lw := Later.trans_ lw l4)
        | ((with_reducible refine wpList_load_blk (o := ⟨some 28, .load 23 (.tmp 2), _, _, _, none⟩) rfl _ _ rfl w.heap.size 23 x.cells _ ?_ ?_ Try.underlying23 rfl (cn_sz _) ?_); rfl; exact b2))
      clear s4
      replace b2 := b2.drew
      replace b5 := b5.drew
      replace b7 := b7.drew
      replace b8 := b8.drew
      replace lw := lw.drew
      refine wp_region_held_drew (S := fun w' => (World.rangeAt w' w1.heap.size 0 X.cells ∧ World.rangeAt w' w2.heap.size 0 X.cells ∧ w'.cell? ⟨w2.heap.size, 2, none⟩ = some (.int .i64 E))) (by kernel_rfl) (And.intro (show World.rangeAt _ w1.heap.size 0 X.cells from b5.range 0 2) (And.intro (show World.rangeAt _ w2.heap.size 0 X.cells from b7.range 0 2) (b7.cell (j := 2) (v := .int .i64 E) rfl))) (fun hHeld => ?_)
      refine wpAnyH_take (i := 0) (oi := ⟨some 33, .load 23 (.tmp 5), _, _, _, none⟩) (v := .agg X.cells.toArray) rfl (by kernel_rfl) (by kernel_rfl) (by kernel_rfl) (fun _ _ _ h => h) (yieldsIf_load_mid (by rfl) _ _ rfl _ _ rfl X.cells _ (fun w h => h.1) Try.underlying23 rfl (cn_sz _)) hHeld ?_
      simp only [Act.put, List.setIfInBounds_toArray, List.set_cons_zero, List.set_cons_succ]
      refine wpAnyH_take (i := 1) (oi := ⟨some 34, .fieldAddr 46 (.tmp 7) 0, _, _, _, none⟩) (v := .pointer (some ⟨w2.heap.size, 0, none⟩)) rfl (by kernel_rfl) (by kernel_rfl) (by kernel_rfl) (fun _ _ _ h => h) (Or.inl ⟨by rfl, fun w _ => by go_simp⟩) hHeld ?_
      simp only [Act.put, List.setIfInBounds_toArray, List.set_cons_zero, List.set_cons_succ]
      refine wpAnyH_take (i := 2) (oi := ⟨some 35, .load 23 (.tmp 34), _, _, _, none⟩) (v := .agg X.cells.toArray) rfl (by kernel_rfl) (by kernel_rfl) (by kernel_rfl) (fun _ _ _ h => h) (yieldsIf_load_mid (by rfl) _ _ rfl _ _ rfl X.cells _ (fun w h => h.2.1) Try.underlying23 rfl (cn_sz _)) hHeld ?_
      simp only [Act.put, List.setIfInBounds_toArray, List.set_cons_zero, List.set_cons_succ]
      refine wpAnyH_take (i := 3) (oi := ⟨some 36, .binOp .neq 23 (.tmp 33) (.tmp 35) 23, _, _, _, none⟩) (v := .bool false) rfl (by kernel_rfl) (by kernel_rfl) (by kernel_rfl) (fun _ _ _ h => h) (Or.inl ⟨by rfl, fun w _ => by go_simp⟩) hHeld ?_
      simp only [Act.put, List.setIfInBounds_toArray, List.set_cons_zero, List.set_cons_succ]
      refine wpAnyH_take (i := 4) (oi := ⟨some 37, .move (.tmp 36), _, _, _, none⟩) (v := .bool false) rfl (by kernel_rfl) (by kernel_rfl) (by kernel_rfl) (fun _ _ _ h => h) (Or.inl ⟨by rfl, fun _ _ => rfl⟩) hHeld ?_
      simp only [Act.put, List.setIfInBounds_toArray, List.set_cons_zero, List.set_cons_succ]
      refine wpAnyH_take (i := 5) (oi := ⟨some 38, .move (.tmp 6), _, _, _, _⟩) (v := .int .i64 E) rfl (by kernel_rfl) (by kernel_rfl) (by kernel_rfl) (fun _ _ _ h => h) (Or.inl ⟨by rfl, fun _ _ => rfl⟩) hHeld ?_
      simp only [Act.put, List.setIfInBounds_toArray, List.set_cons_zero, List.set_cons_succ]
      refine wpAnyH_take (i := 6) (oi := ⟨some 39, .fieldAddr 46 (.tmp 7) 1, _, _, _, _⟩) (v := .pointer (some ⟨w2.heap.size, 2, none⟩)) rfl (by kernel_rfl) (by kernel_rfl) (by kernel_rfl) (fun _ _ _ h => h) (Or.inl ⟨by rfl, fun w _ => by go_simp⟩) hHeld ?_
      simp only [Act.put, List.setIfInBounds_toArray, List.set_cons_zero, List.set_cons_succ]
      refine wpAnyH_take (i := 7) (oi := ⟨some 40, .load 42 (.tmp 39), _, _, _, _⟩) (v := .int .i64 E) rfl (by kernel_rfl) (by kernel_rfl) (by kernel_rfl) (fun _ _ _ h => h) (Or.inl ⟨by rfl, fun w hSw => by have e1 := hSw.2.2; clear hSw; go_simp⟩) hHeld ?_
      simp only [Act.put, List.setIfInBounds_toArray, List.set_cons_zero, List.set_cons_succ]
      refine wpAnyH_take (i := 8) (oi := ⟨some 41, .binOp .neq 42 (.tmp 38) (.tmp 40) 42, _, _, _, _⟩) (v := .bool false) rfl (by kernel_rfl) (by kernel_rfl) (by kernel_rfl) (fun _ _ _ h => h) (Or.inl ⟨by rfl, fun w _ => by go_simp⟩) hHeld ?_
      simp only [Act.put, List.setIfInBounds_toArray, List.set_cons_zero, List.set_cons_succ]
      refine wpAnyH_take (i := 9) (oi := ⟨some 42, .pick (.tmp 37) (.const (.bool true)) (.tmp 41), _, _, _, none⟩) (v := .bool false) rfl (by kernel_rfl) (by kernel_rfl) (by kernel_rfl) (fun _ _ _ h => h) (Or.inl ⟨by rfl, fun w _ => by go_simp⟩) hHeld ?_
      simp only [Act.put, List.setIfInBounds_toArray, List.set_cons_zero, List.set_cons_succ]
      refine wpAnyH_take (i := 10) (oi := ⟨some 43, .move (.tmp 42), _, _, _, none⟩) (v := .bool false) rfl (by kernel_rfl) (by kernel_rfl) (by kernel_rfl) (fun _ _ _ h => h) (Or.inl ⟨by rfl, fun _ _ => rfl⟩) hHeld ?_
      simp only [Act.put, List.setIfInBounds_toArray, List.set_cons_zero, List.set_cons_succ]
      refine wpAnyH_take (i := 11) (oi := ⟨some 44, .move (.tmp 6), _, _, _, _⟩) (v := .int .i64 E) rfl (by kernel_rfl) (by kernel_rfl) (by kernel_rfl) (fun _ _ _ h => h) (Or.inl ⟨by rfl, fun _ _ => rfl⟩) hHeld ?_
      simp only [Act.put, List.setIfInBounds_toArray, List.set_cons_zero, List.set_cons_succ]
      refine wpAnyH_take (i := 12) (oi := ⟨some 45, .binOp .eql 42 (.tmp 44) (.const (.int .i64 0)) 42, _, _, _, _⟩) (v := .bool false) rfl (by kernel_rfl) (by kernel_rfl) (by kernel_rfl) (fun _ _ _ h => h) (Or.inl ⟨by rfl, fun w _ => by go_simp⟩) hHeld ?_
      simp only [Act.put, List.setIfInBounds_toArray, List.set_cons_zero, List.set_cons_succ]
      refine wpAnyH_take (i := 13) (oi := ⟨some 46, .move (.tmp 45), _, _, _, _⟩) (v := .bool false) rfl (by kernel_rfl) (by kernel_rfl) (by kernel_rfl) (fun _ _ _ h => h) (Or.inl ⟨by rfl, fun _ _ => rfl⟩) hHeld ?_
      simp only [Act.put, List.setIfInBounds_toArray, List.set_cons_zero, List.set_cons_succ]
      refine wpAnyH_take (i := 14) (oi := ⟨some 47, .load 23 (.tmp 5), _, _, _, _⟩) (v := undef) rfl (by kernel_rfl) (by kernel_rfl) (by kernel_rfl) (fun _ _ _ h => h) (Or.inr ⟨by rfl, rfl⟩) hHeld ?_
      simp only [Act.put, List.setIfInBounds_toArray, List.set_cons_zero, List.set_cons_succ]
      refine wpAnyH_take (i := 15) (oi := ⟨some 48, .call { callee := .value (.func 10), args := #[.tmp 47], argTypes := #[23] }, _, _, _, _⟩) (v := undef) rfl (by kernel_rfl) (by kernel_rfl) (by kernel_rfl) (fun _ _ _ h => h) (Or.inr ⟨by rfl, rfl⟩) hHeld ?_
      simp only [Act.put, List.setIfInBounds_toArray, List.set_cons_zero, List.set_cons_succ]
      refine wpAnyH_take (i := 16) (oi := ⟨some 49, .convert 29 9 (.tmp 48), _, _, _, _⟩) (v := undef) rfl (by kernel_rfl) (by kernel_rfl) (by kernel_rfl) (fun _ _ _ h => h) (Or.inr ⟨by rfl, rfl⟩) hHeld ?_
      simp only [Act.put, List.setIfInBounds_toArray, List.set_cons_zero, List.set_cons_succ]
      refine wpAnyH_take (i := 17) (oi := ⟨some 50, .move (.tmp 1), _, _, _, _⟩) (v := undef) rfl (by kernel_rfl) (by kernel_rfl) (by kernel_rfl) (fun _ _ _ h => h) (Or.inr ⟨by rfl, rfl⟩) hHeld ?_
      simp only [Act.put, List.setIfInBounds_toArray, List.set_cons_zero, List.set_cons_succ]
      refine wpAnyH_take (i := 18) (oi := ⟨some 51, .convert 29 9 (.tmp 50), _, _, _, _⟩) (v := undef) rfl (by kernel_rfl) (by kernel_rfl) (by kernel_rfl) (fun _ _ _ h => h) (Or.inr ⟨by rfl, rfl⟩) hHeld ?_
      simp only [Act.put, List.setIfInBounds_toArray, List.set_cons_zero, List.set_cons_succ]
      refine wpAnyH_take (i := 19) (oi := ⟨some 52, .binOp .neq 9 (.tmp 49) (.tmp 51) 9, _, _, _, _⟩) (v := undef) rfl (by kernel_rfl) (by kernel_rfl) (by kernel_rfl) (fun _ _ _ h => h) (Or.inr ⟨by rfl, rfl⟩) hHeld ?_
      simp only [Act.put, List.setIfInBounds_toArray, List.set_cons_zero, List.set_cons_succ]
      refine wpAnyH_take (i := 20) (oi := ⟨some 53, .pick (.tmp 46) (.tmp 52) (.const (.bool false)), _, _, _, _⟩) (v := .bool false) rfl (by kernel_rfl) (by kernel_rfl) (by kernel_rfl) (fun _ _ _ h => h) (Or.inl ⟨by rfl, fun w _ => by go_simp⟩) hHeld ?_
      simp only [Act.put, List.setIfInBounds_toArray, List.set_cons_zero, List.set_cons_succ]
      refine wpAnyH_take (i := 21) (oi := ⟨some 54, .pick (.tmp 43) (.const (.bool true)) (.tmp 53), _, _, _, none⟩) (v := .bool false) rfl (by kernel_rfl) (by kernel_rfl) (by kernel_rfl) (fun _ _ _ h => h) (Or.inl ⟨by rfl, fun w _ => by go_simp⟩) hHeld ?_
      simp only [Act.put, List.setIfInBounds_toArray, List.set_cons_zero, List.set_cons_succ]
      refine wpAnyH_done (by kernel_rfl) ?_ _
      clear hHeld
      clear b5 b7
      go_wp2_with (first
        | ((with_reducible refine wpList_load_blk (o := ⟨some 55, .load 23 (.tmp 2), _, _, _, none⟩) rfl _ _ rfl w.heap.size 23 x.cells _ ?_ ?_ Try.underlying23 rfl (cn_sz _) ?_); rfl; exact b2)
        | (go_at_call 9; (with_reducible refine (KV.out _).mono ?_); rintro e w7 ⟨rfl, l7⟩; replace b2 := b2.keep l7; replace b8 := b8.keep l7; replace lw := Later.trans_ lw l7)
        | (go_at_call 7; (with_reducible refine (KS.out _).mono ?_); rintro e w8 ⟨rfl, l8⟩; replace b2 := b2.keep l8; replace b8 := b8.keep l8; replace lw := Later.trans_ lw l8)
        | ((with_reducible refine wpList_load_g (o := ⟨some 74, .load 23 (.tmp 8), _, _, _, _⟩) _ _ rfl w5.heap.size 23 x.cells _ ?_ ?_ ?_ Try.underlying23 ?_ (cn_sz _) ?_); rfl; rfl; exact b8; rfl)
        | ((with_reducible refine wpList_load_g (o := ⟨some 75, .load 23 (.tmp 2), _, _, _, _⟩) _ _ rfl w.heap.size 23 x.cells _ ?_ ?_ ?_ Try.underlying23 ?_ (cn_sz _) ?_); rfl; rfl; exact b2; rfl))
      go_ret
      exact ⟨rfl, lw⟩
  | false =>
    rw [hok] at KV KDE0
    have KDE := Lib.hid (fun (A4 : Option Addr) (c4 : Nat) (w' : World) (g3 : EB.length ≤ c4) (g4 : c4 ≤ maxLen) (s4 : Sl w' 1 A4 EB.length (U EB)) => (show Calls Try.prog 16 #[.slice A4 EB.length c4] w' fun r w'' => r = .returned (.tuple #[.agg zC.cells.toArray, .int .i64 3]) ∧ Later w' w'' from KDE0 A4 c4 w' g3 g4 s4))
    have hqz : ∀ w', (Op.equalIn 10000 23 (.agg zC.cells.toArray) (.agg #[.string ⟨#[]⟩, .int .i64 0])).run Try.prog w' = .ok true w' := fun w' => cn_same zC w'
    clear KDE0 hok
    by_cases hE : E = 0
    · subst hE
      have KEX := Lib.hid (hEX rfl)
      clear hEX
      go_enter Try.func4, Try.ntmps4
      go_upto_region 1 with fail
      have hu2 : (w.alloc (.cells (x.cells).toArray 23)) = u0 := hu
      try rw [hu2]
      clear hu hu2
      have e0 := b2.cell (cn_s x)
      go_upto_region 5 with (first
        | (go_at_call 16; clear e0; refine (KD.out _ (lk.out _ lw)).mono ?_; rintro e w1 ⟨rfl, l1⟩; replace b2 := b2.keep l1; replace lw := Later.trans_ lw l1)
        | ((with_reducible refine wpList_store_abs (o := ⟨none, .store 23 (.tmp 5) (.tmp 23), _, _, _, none⟩) rfl _ _ _ rfl w1.heap.size 23 zC.cells X.cells ?_ ?_ ?_ ?_ ?_ ?_ ?_); rfl; rfl; exact (Blk.new _ _ _ _ rfl); exact cn_sz _; rfl; exact cn_one _; intro v1 b5 ob5; replace b2 := (b2.alloc (.cells zC.cells.toArray 23)).only ob5 (Nat.ne_of_lt b2.lt); replace lw := Below.only (lw.alloc lw.size (.cells zC.cells.toArray 23)) ob5 lw.size; clear ob5)
        | (go_at_call 17; refine (KRD.out _ (lk.out _ lw)).mono ?_; rintro e w2 ⟨rfl, l2⟩; replace b2 := b2.keep l2; replace b5 := b5.keep l2; replace lw := Later.trans_ lw l2)
        | ((with_reducible refine wpList_store_abs (o := ⟨none, .store 46 (.tmp 7) (.tmp 26), _, _, _, none⟩) rfl _ _ _ rfl w2.heap.size 46 (rdC zC 0) (rdC X 0) ?_ ?_ ?_ ?_ ?_ ?_ ?_); rfl; rfl; exact (Blk.new _ _ _ _ rfl); exact (rd_sz _ _); rfl; exact rd_one _ _; intro v2 b7 ob7; replace b2 := (b2.alloc (.cells (rdC zC 0).toArray 46)).only ob7 (Nat.ne_of_lt b2.lt); replace b5 := (b5.alloc (.cells (rdC zC 0).toArray 46)).only ob7 (Nat.ne_of_lt b5.lt); replace lw := Below.only (lw.alloc lw.size (.cells (rdC zC 0).toArray 46)) ob7 lw.size; clear ob7))
      go_upto_region 6 with (first
        | ((with_reducible refine wpList_store_abs (o := ⟨none, .store 23 (.tmp 8) (.tmp 31), _, _, _, none⟩) rfl _ _ _ rfl w5.heap.size 23 zC.cells zC.cells ?_ ?_ ?_ ?_ ?_ ?_ ?_); rfl; rfl; exact (Blk.new _ _ _ _ rfl); exact cn_sz _; rfl; exact cn_one _; intro v5 b8 ob8; replace b2 := (b2.alloc (.cells zC.cells.toArray 23)).only ob8 (Nat.ne_of_lt b2.lt); replace b5 := (b5.alloc (.cells zC.cells.toArray 23)).only ob8 (Nat.ne_of_lt b5.lt); replace b7 := (b7.alloc (.cells zC.cells.toArray 23)).only ob8 (Nat.ne_of_lt b7.lt); replace lw := Below.only (lw.alloc lw.size (.cells zC.cells.toArray 23)) ob8 lw.size; clear ob8)
        | (go_at_call 16; refine (KDE.out A4 c4 _ g3 g4 s4).mono ?_; rintro e w5 ⟨rfl, l5⟩; replace b2 := b2.keep l5; replace b5 := b5.keep l5; replace b7 := b7.keep l5; replace lw := Later.trans_ lw l5)
        | (go_at_call 10; refine (KE.out _).mono ?_; rintro e w4 ⟨A4, n4, c4, rfl, g3, g4, rfl, s4, l4⟩; replace b2 := b2.keep l4; replace b5 := b5.keep l4; replace b7 := b7.keep l4; replace lw := Later.trans_ lw l4)
        | ((with_reducible refine wpList_load_blk (o := ⟨some 28, .load 23 (.tmp 2), _, _, _, none⟩) rfl _ _ rfl w.heap.size 23 x.cells _ ?_ ?_ Try.underlying23 rfl (cn_sz _) ?_); rfl; exact b2))
      clear s4
      replace b2 := b2.drew
      replace b5 := b5.drew
      replace b7 := b7.drew
      replace b8 := b8.drew
      replace lw := lw.drew
      refine wp_region_held_drew (S := fun w' => ((World.rangeAt w' w1.heap.size 0 X.cells ∧ World.rangeAt w' w2.heap.size 0 X.cells ∧ w'.cell? ⟨w2.heap.size, 2, none⟩ = some (.int .i64 0)) ∧ Sl w' 1 S n (U b))) (by kernel_rfl) (And.intro (And.intro (show World.rangeAt _ w1.heap.size 0 X.cells from b5.range 0 2) (And.intro (show World.rangeAt _ w2.heap.size 0 X.cells from b7.range 0 2) (b7.cell (j := 2) (v := .int .i64 0) rfl))) (lk.out _ lw)) (fun hHeld => ?_)
      refine wpAnyH_take (i := 0) (oi := ⟨some 33, .load 23 (.tmp 5), _, _, _, none⟩) (v := .agg X.cells.toArray) rfl (by kernel_rfl) (by kernel_rfl) (by kernel_rfl) (fun _ _ _ h => h) (yieldsIf_load_mid (by rfl) _ _ rfl _ _ rfl X.cells _ (fun w h => h.1.1) Try.underlying23 rfl (cn_sz _)) hHeld ?_
      simp only [Act.put, List.setIfInBounds_toArray, List.set_cons_zero, List.set_cons_succ]
      refine wpAnyH_take (i := 1) (oi := ⟨some 34, .fieldAddr 46 (.tmp 7) 0, _, _, _, none⟩) (v := .pointer (some ⟨w2.heap.size, 0, none⟩)) rfl (by kernel_rfl) (by kernel_rfl) (by kernel_rfl) (fun _ _ _ h => h) (Or.inl ⟨by rfl, fun w _ => by go_simp⟩) hHeld ?_
      simp only [Act.put, List.setIfInBounds_toArray, List.set_cons_zero, List.set_cons_succ]
      refine wpAnyH_take (i := 2) (oi := ⟨some 35, .load 23 (.tmp 34), _, _, _, none⟩) (v := .agg X.cells.toArray) rfl (by kernel_rfl) (by kernel_rfl) (by kernel_rfl) (fun _ _ _ h => h) (yieldsIf_load_mid (by rfl) _ _ rfl _ _ rfl X.cells _ (fun w h => h.1.2.1) Try.underlying23 rfl (cn_sz _)) hHeld ?_
      simp only [Act.put, List.setIfInBounds_toArray, List.set_cons_zero, List.set_cons_succ]
      refine wpAnyH_take (i := 3) (oi := ⟨some 36, .binOp .neq 23 (.tmp 33) (.tmp 35) 23, _, _, _, none⟩) (v := .bool false) rfl (by kernel_rfl) (by kernel_rfl) (by kernel_rfl) (fun _ _ _ h => h) (Or.inl ⟨by rfl, fun w _ => by go_simp⟩) hHeld ?_
      simp only [Act.put, List.setIfInBounds_toArray, List.set_cons_zero, List.set_cons_succ]
      refine wpAnyH_take (i := 4) (oi := ⟨some 37, .move (.tmp 36), _, _, _, none⟩) (v := .bool false) rfl (by kernel_rfl) (by kernel_rfl) (by kernel_rfl) (fun _ _ _ h => h) (Or.inl ⟨by rfl, fun _ _ => rfl⟩) hHeld ?_
      simp only [Act.put, List.setIfInBounds_toArray, List.set_cons_zero, List.set_cons_succ]
      refine wpAnyH_take (i := 5) (oi := ⟨some 38, .move (.tmp 6), _, _, _, _⟩) (v := .int .i64 0) rfl (by kernel_rfl) (by kernel_rfl) (by kernel_rfl) (fun _ _ _ h => h) (Or.inl ⟨by rfl, fun _ _ => rfl⟩) hHeld ?_
      simp only [Act.put, List.setIfInBounds_toArray, List.set_cons_zero, List.set_cons_succ]
      refine wpAnyH_take (i := 6) (oi := ⟨some 39, .fieldAddr 46 (.tmp 7) 1, _, _, _, _⟩) (v := .pointer (some ⟨w2.heap.size, 2, none⟩)) rfl (by kernel_rfl) (by kernel_rfl) (by kernel_rfl) (fun _ _ _ h => h) (Or.inl ⟨by rfl, fun w _ => by go_simp⟩) hHeld ?_
      simp only [Act.put, List.setIfInBounds_toArray, List.set_cons_zero, List.set_cons_succ]
      refine wpAnyH_take (i := 7) (oi := ⟨some 40, .load 42 (.tmp 39), _, _, _, _⟩) (v := .int .i64 0) rfl (by kernel_rfl) (by kernel_rfl) (by kernel_rfl) (fun _ _ _ h => h) (Or.inl ⟨by rfl, fun w hSw => by have e1 := hSw.1.2.2; clear hSw; go_simp⟩) hHeld ?_
      simp only [Act.put, List.setIfInBounds_toArray, List.set_cons_zero, List.set_cons_succ]
      refine wpAnyH_take (i := 8) (oi := ⟨some 41, .binOp .neq 42 (.tmp 38) (.tmp 40) 42, _, _, _, _⟩) (v := .bool false) rfl (by kernel_rfl) (by kernel_rfl) (by kernel_rfl) (fun _ _ _ h => h) (Or.inl ⟨by rfl, fun w _ => by go_simp⟩) hHeld ?_
      simp only [Act.put, List.setIfInBounds_toArray, List.set_cons_zero, List.set_cons_succ]
      refine wpAnyH_take (i := 9) (oi := ⟨some 42, .pick (.tmp 37) (.const (.bool true)) (.tmp 41), _, _, _, none⟩) (v := .bool false) rfl (by kernel_rfl) (by kernel_rfl) (by kernel_rfl) (fun _ _ _ h => h) (Or.inl ⟨by rfl, fun w _ => by go_simp⟩) hHeld ?_
      simp only [Act.put, List.setIfInBounds_toArray, List.set_cons_zero, List.set_cons_succ]
      refine wpAnyH_take (i := 10) (oi := ⟨some 43, .move (.tmp 42), _, _, _, none⟩) (v := .bool false) rfl (by kernel_rfl) (by kernel_rfl) (by kernel_rfl) (fun _ _ _ h => h) (Or.inl ⟨by rfl, fun _ _ => rfl⟩) hHeld ?_
      simp only [Act.put, List.setIfInBounds_toArray, List.set_cons_zero, List.set_cons_succ]
      refine wpAnyH_take (i := 11) (oi := ⟨some 44, .move (.tmp 6), _, _, _, _⟩) (v := .int .i64 0) rfl (by kernel_rfl) (by kernel_rfl) (by kernel_rfl) (fun _ _ _ h => h) (Or.inl ⟨by rfl, fun _ _ => rfl⟩) hHeld ?_
      simp only [Act.put, List.setIfInBounds_toArray, List.set_cons_zero, List.set_cons_succ]
      refine wpAnyH_take (i := 12) (oi := ⟨some 45, .binOp .eql 42 (.tmp 44) (.const (.int .i64 0)) 42, _, _, _, _⟩) (v := .bool true) rfl (by kernel_rfl) (by kernel_rfl) (by kernel_rfl) (fun _ _ _ h => h) (Or.inl ⟨by rfl, fun w _ => by go_simp⟩) hHeld ?_
      simp only [Act.put, List.setIfInBounds_toArray, List.set_cons_zero, List.set_cons_succ]
      refine wpAnyH_take (i := 13) (oi := ⟨some 46, .move (.tmp 45), _, _, _, _⟩) (v := .bool true) rfl (by kernel_rfl) (by kernel_rfl) (by kernel_rfl) (fun _ _ _ h => h) (Or.inl ⟨by rfl, fun _ _ => rfl⟩) hHeld ?_
      simp only [Act.put, List.setIfInBounds_toArray, List.set_cons_zero, List.set_cons_succ]
      refine wpAnyH_take (i := 14) (oi := ⟨some 47, .load 23 (.tmp 5), _, _, _, _⟩) (v := .agg X.cells.toArray) rfl (by kernel_rfl) (by kernel_rfl) (by kernel_rfl) (fun _ _ _ h => h) (yieldsIf_load_mid (by rfl) _ _ rfl _ _ rfl X.cells _ (fun w h => h.1.1) Try.underlying23 rfl (cn_sz _)) hHeld ?_
      simp only [Act.put, List.setIfInBounds_toArray, List.set_cons_zero, List.set_cons_succ]
      refine wpAnyH_take (i := 17) (oi := ⟨some 50, .move (.tmp 1), _, _, _, _⟩) (v := .slice S n c) rfl (by kernel_rfl) (by kernel_rfl) (by kernel_rfl) (fun _ _ _ h => h) (Or.inl ⟨by rfl, fun _ _ => rfl⟩) hHeld ?_
      simp only [Act.put, List.setIfInBounds_toArray, List.set_cons_zero, List.set_cons_succ]
      refine wpAnyH_take (i := 18) (oi := ⟨some 51, .convert 29 9 (.tmp 50), _, _, _, _⟩) (v := (.string (strOfNums b))) rfl (by kernel_rfl) (by kernel_rfl) (by kernel_rfl) (fun _ _ _ h => h) (Or.inl ⟨by rfl, fun w hSw => by have e1 := to_str (hSw.2) c; clear hSw; go_simp⟩) hHeld ?_
      simp only [Act.put, List.setIfInBounds_toArray, List.set_cons_zero, List.set_cons_succ]
      refine wpAnyH_ready (rs := [15]) (by kernel_rfl) (by simp) (AllReadyH.cons (o := ⟨some 48, .call { callee := .value (.func 10), args := #[.tmp 47], argTypes := #[23] }, _, _, _, _⟩) rfl (fun K' hK => ?_) (AllReadyH.nil))
      go_simp
      refine (KEX.out _).mono ?_
      rintro e x2 ⟨A6, n6, c6, rfl, _, _, rfl, s6, l1⟩
      replace b2 := b2.keep l1
      replace b5 := b5.keep l1
      replace b7 := b7.keep l1
      replace b8 := b8.keep l1
      replace lw := Later.trans_ lw l1
      refine hK.out _ _ (And.intro (And.intro (show World.rangeAt _ w1.heap.size 0 X.cells from b5.range 0 2) (And.intro (show World.rangeAt _ w2.heap.size 0 X.cells from b7.range 0 2) (b7.cell (j := 2) (v := .int .i64 0) rfl))) (lk.out _ lw)) (fun hHeld => ?_)
      clear hK K'
      try simp only [Act.put, List.setIfInBounds_toArray, List.set_cons_zero, List.set_cons_succ]
      refine wpAnyH_more (S' := fun w' => (((World.rangeAt w' w1.heap.size 0 X.cells ∧ World.rangeAt w' w2.heap.size 0 X.cells ∧ w'.cell? ⟨w2.heap.size, 2, none⟩ = some (.int .i64 0)) ∧ Sl w' 1 S n (U b)) ∧ Sl w' 1 A6 b.length (U b))) (fun _ h => h.1) ?_
      replace hHeld := And.intro (And.intro (And.intro (show World.rangeAt _ w1.heap.size 0 X.cells from b5.range 0 2) (And.intro (show World.rangeAt _ w2.heap.size 0 X.cells from b7.range 0 2) (b7.cell (j := 2) (v := .int .i64 0) rfl))) (lk.out _ lw)) s6
      refine wpAnyH_take (i := 16) (oi := ⟨some 49, .convert 29 9 (.tmp 48), _, _, _, _⟩) (v := (.string (strOfNums b))) rfl (by kernel_rfl) (by kernel_rfl) (by kernel_rfl) (fun _ _ _ h => h) (Or.inl ⟨by rfl, fun w hSw => by have e1 := to_str (hSw.2) c6; clear hSw; go_simp⟩) hHeld ?_
      simp only [Act.put, List.setIfInBounds_toArray, List.set_cons_zero, List.set_cons_succ]
      refine wpAnyH_take (i := 19) (oi := ⟨some 52, .binOp .neq 9 (.tmp 49) (.tmp 51) 9, _, _, _, _⟩) (v := .bool false) rfl (by kernel_rfl) (by kernel_rfl) (by kernel_rfl) (fun _ _ _ h => h) (Or.inl ⟨by rfl, fun w _ => by go_simp⟩) hHeld ?_
      simp only [Act.put, List.setIfInBounds_toArray, List.set_cons_zero, List.set_cons_succ]
      refine wpAnyH_take (i := 20) (oi := ⟨some 53, .pick (.tmp 46) (.tmp 52) (.const (.bool false)), _, _, _, _⟩) (v := .bool false) rfl (by kernel_rfl) (by kernel_rfl) (by kernel_rfl) (fun _ _ _ h => h) (Or.inl ⟨by rfl, fun w _ => by go_simp⟩) hHeld ?_
      simp only [Act.put, List.setIfInBounds_toArray, List.set_cons_zero, List.set_cons_succ]
      refine wpAnyH_take (i := 21) (oi := ⟨some 54, .pick (.tmp 43) (.const (.bool true)) (.tmp 53), _, _, _, none⟩) (v := .bool false) rfl (by kernel_rfl) (by kernel_rfl) (by kernel_rfl) (fun _ _ _ h => h) (Or.inl ⟨by rfl, fun w _ => by go_simp⟩) hHeld ?_
      simp only [Act.put, List.setIfInBounds_toArray, List.set_cons_zero, List.set_cons_succ]
      refine wpAnyH_done (by kernel_rfl) ?_ _
      clear hHeld
      clear b5 b7
      go_wp2_with (first
        | ((with_reducible refine wpList_load_blk (o := ⟨some 55, .load 23 (.tmp 2), _, _, _, none⟩) rfl _ _ rfl w.heap.size 23 x.cells _ ?_ ?_ Try.underlying23 rfl (cn_sz _) ?_); rfl; exact b2)
        | (go_at_call 9; (with_reducible refine (KV.out _).mono ?_); rintro e w7 ⟨rfl, l7⟩; replace b2 := b2.keep l7; replace b8 := b8.keep l7; replace lw := Later.trans_ lw l7)
        | (go_at_call 7; (with_reducible refine (KS.out _).mono ?_); rintro e w8 ⟨rfl, l8⟩; replace b2 := b2.keep l8; replace b8 := b8.keep l8; replace lw := Later.trans_ lw l8)
        | ((with_reducible refine wpList_load_g (o := ⟨some 64, .load 23 (.tmp 8), _, _, _, _⟩) _ _ rfl w5.heap.size 23 zC.cells _ ?_ ?_ ?_ Try.underlying23 ?_ (cn_sz _) ?_); rfl; rfl; exact b8; rfl))
      go_ret
      exact ⟨rfl, lw⟩
    · have dE : (E == 0) = false := beq_false_of_ne hE
      clear hEX hE
      go_enter Try.func4, Try.ntmps4
      go_upto_region 1 with fail
      have hu2 : (w.alloc (.cells (x.cells).toArray 23)) = u0 := hu
      try rw [hu2]
      clear hu hu2
      have e0 := b2.cell (cn_s x)
      go_upto_region 5 with (first
        | (go_at_call 16; clear e0; refine (KD.out _ (lk.out _ lw)).mono ?_; rintro e w1 ⟨rfl, l1⟩; replace b2 := b2.keep l1; replace lw := Later.trans_ lw l1)
        | ((with_reducible refine wpList_store_abs (o := ⟨none, .store 23 (.tmp 5) (.tmp 23), _, _, _, none⟩) rfl _ _ _ rfl w1.heap.size 23 zC.cells X.cells ?_ ?_ ?_ ?_ ?_ ?_ ?_); rfl; rfl; exact (Blk.new _ _ _ _ rfl); exact cn_sz _; rfl; exact cn_one _; intro v1 b5 ob5; replace b2 := (b2.alloc (.cells zC.cells.toArray 23)).only ob5 (Nat.ne_of_lt b2.lt); replace lw := Below.only (lw.alloc lw.size (.cells zC.cells.toArray 23)) ob5 lw.size; clear ob5)
        | (go_at_call 17; refine (KRD.out _ (lk.out _ lw)).mono ?_; rintro e w2 ⟨rfl, l2⟩; replace b2 := b2.keep l2; replace b5 := b5.keep l2; replace lw := Later.trans_ lw l2)
        | ((with_reducible refine wpList_store_abs (o := ⟨none, .store 46 (.tmp 7) (.tmp 26), _, _, _, none⟩) rfl _ _ _ rfl w2.heap.size 46 (rdC zC 0) (rdC X E) ?_ ?_ ?_ ?_ ?_ ?_ ?_); rfl; rfl; exact (Blk.new _ _ _ _ rfl); exact (rd_sz _ _); rfl; exact rd_one _ _; intro v2 b7 ob7; replace b2 := (b2.alloc (.cells (rdC zC 0).toArray 46)).only ob7 (Nat.ne_of_lt b2.lt); replace b5 := (b5.alloc (.cells (rdC zC 0).toArray 46)).only ob7 (Nat.ne_of_lt b5.lt); replace lw := Below.only (lw.alloc lw.size (.cells (rdC zC 0).toArray 46)) ob7 lw.size; clear ob7))
      go_upto_region 6 with (first
        | ((with_reducible refine wpList_store_abs (o := ⟨none, .store 23 (.tmp 8) (.tmp 31), _, _, _, none⟩) rfl _ _ _ rfl w5.heap.size 23 zC.cells zC.cells ?_ ?_ ?_ ?_ ?_ ?_ ?_); rfl; rfl; exact (Blk.new _ _ _ _ rfl); exact cn_sz _; rfl; exact cn_one _; intro v5 b8 ob8; replace b2 := (b2.alloc (.cells zC.cells.toArray 23)).only ob8 (Nat.ne_of_lt b2.lt); replace b5 := (b5.alloc (.cells zC.cells.toArray 23)).only ob8 (Nat.ne_of_lt b5.lt); replace b7 := (b7.alloc (.cells zC.cells.toArray 23)).only ob8 (Nat.ne_of_lt b7.lt); replace lw := Below.only (lw.alloc lw.size (.cells zC.cells.toArray 23)) ob8 lw.size; clear ob8)
        | (go_at_call 16; refine (KDE.out A4 c4 _ g3 g4 s4).mono ?_; rintro e w5 ⟨rfl, l5⟩; replace b2 := b2.keep l5; replace b5 := b5.keep l5; replace b7 := b7.keep l5; replace lw := Later.trans_ lw l5)
        | (go_at_call 10; refine (KE.out _).mono ?_; rintro e w4 ⟨A4, n4, c4, rfl, g3, g4, rfl, s4, l4⟩; replace b2 := b2.keep l4; replace b5 := b5.keep l4; replace b7 := b7.keep l4; replace lw := Later.trans_ lw l4)
        | ((with_reducible refine wpList_load_blk (o := ⟨some 28, .load 23 (.tmp 2), _, _, _, none⟩) rfl _ _ rfl w.heap.size 23 x.cells _ ?_ ?_ Try.underlying23 rfl (cn_sz _) ?_); rfl; exact b2))
      clear s4
      replace b2 := b2.drew
      replace b5 := b5.drew
      replace b7 := b7.drew
      replace b8 := b8.drew
      replace lw := lw.drew
      refine wp_region_held_drew (S := fun w' => (World.rangeAt w' w1.heap.size 0 X.cells ∧ World.rangeAt w' w2.heap.size 0 X.cells ∧ w'.cell? ⟨w2.heap.size, 2, none⟩ = some (.int .i64 E))) (by kernel_rfl) (And.intro (show World.rangeAt _ w1.heap.size 0 X.cells from b5.range 0 2) (And.intro (show World.rangeAt _ w2.heap.size 0 X.cells from b7.range 0 2) (b7.cell (j := 2) (v := .int .i64 E) rfl))) (fun hHeld => ?_)
      refine wpAnyH_take (i := 0) (oi := ⟨some 33, .load 23 (.tmp 5), _, _, _, none⟩) (v := .agg X.cells.toArray) rfl (by kernel_rfl) (by kernel_rfl) (by kernel_rfl) (fun _ _ _ h => h) (yieldsIf_load_mid (by rfl) _ _ rfl _ _ rfl X.cells _ (fun w h => h.1) Try.underlying23 rfl (cn_sz _)) hHeld ?_
      simp only [Act.put, List.setIfInBounds_toArray, List.set_cons_zero, List.set_cons_succ]
      refine wpAnyH_take (i := 1) (oi := ⟨some 34, .fieldAddr 46 (.tmp 7) 0, _, _, _, none⟩) (v := .pointer (some ⟨w2.heap.size, 0, none⟩)) rfl (by kernel_rfl) (by kernel_rfl) (by kernel_rfl) (fun _ _ _ h => h) (Or.inl ⟨by rfl, fun w _ => by go_simp⟩) hHeld ?_
      simp only [Act.put, List.setIfInBounds_toArray, List.set_cons_zero, List.set_cons_succ]
      refine wpAnyH_take (i := 2) (oi := ⟨some 35, .load 23 (.tmp 34), _, _, _, none⟩) (v := .agg X.cells.toArray) rfl (by kernel_rfl) (by kernel_rfl) (by kernel_rfl) (fun _ _ _ h => h) (yieldsIf_load_mid (by rfl) _ _ rfl _ _ rfl X.cells _ (fun w h => h.2.1) Try.underlying23 rfl (cn_sz _)) hHeld ?_
      simp only [Act.put, List.setIfInBounds_toArray, List.set_cons_zero, List.set_cons_succ]
      refine wpAnyH_take (i := 3) (oi := ⟨some 36, .binOp .neq 23 (.tmp 33) (.tmp 35) 23, _, _, _, none⟩) (v := .bool false) rfl (by kernel_rfl) (by kernel_rfl) (by kernel_rfl) (fun _ _ _ h => h) (Or.inl ⟨by rfl, fun w _ => by go_simp⟩) hHeld ?_
      simp only [Act.put, List.setIfInBounds_toArray, List.set_cons_zero, List.set_cons_succ]
      refine wpAnyH_take (i := 4) (oi := ⟨some 37, .move (.tmp 36), _, _, _, none⟩) (v := .bool false) rfl (by kernel_rfl) (by kernel_rfl) (by kernel_rfl) (fun _ _ _ h => h) (Or.inl ⟨by rfl, fun _ _ => rfl⟩) hHeld ?_
      simp only [Act.put, List.setIfInBounds_toArray, List.set_cons_zero, List.set_cons_succ]
      refine wpAnyH_take (i := 5) (oi := ⟨some 38, .move (.tmp 6), _, _, _, _⟩) (v := .int .i64 E) rfl (by kernel_rfl) (by kernel_rfl) (by kernel_rfl) (fun _ _ _ h => h) (Or.inl ⟨by rfl, fun _ _ => rfl⟩) hHeld ?_
      simp only [Act.put, List.setIfInBounds_toArray, List.set_cons_zero, List.set_cons_succ]
      refine wpAnyH_take (i := 6) (oi := ⟨some 39, .fieldAddr 46 (.tmp 7) 1, _, _, _, _⟩) (v := .pointer (some ⟨w2.heap.size, 2, none⟩)) rfl (by kernel_rfl) (by kernel_rfl) (by kernel_rfl) (fun _ _ _ h => h) (Or.inl ⟨by rfl, fun w _ => by go_simp⟩) hHeld ?_
      simp only [Act.put, List.setIfInBounds_toArray, List.set_cons_zero, List.set_cons_succ]
      refine wpAnyH_take (i := 7) (oi := ⟨some 40, .load 42 (.tmp 39), _, _, _, _⟩) (v := .int .i64 E) rfl (by kernel_rfl) (by kernel_rfl) (by kernel_rfl) (fun _ _ _ h => h) (Or.inl ⟨by rfl, fun w hSw => by have e1 := hSw.2.2; clear hSw; go_simp⟩) hHeld ?_
      simp only [Act.put, List.setIfInBounds_toArray, List.set_cons_zero, List.set_cons_succ]
      refine wpAnyH_take (i := 8) (oi := ⟨some 41, .binOp .neq 42 (.tmp 38) (.tmp 40) 42, _, _, _, _⟩) (v := .bool false) rfl (by kernel_rfl) (by kernel_rfl) (by kernel_rfl) (fun _ _ _ h => h) (Or.inl ⟨by rfl, fun w _ => by go_simp⟩) hHeld ?_
      simp only [Act.put, List.setIfInBounds_toArray, List.set_cons_zero, List.set_cons_succ]
      refine wpAnyH_take (i := 9) (oi := ⟨some 42, .pick (.tmp 37) (.const (.bool true)) (.tmp 41), _, _, _, none⟩) (v := .bool false) rfl (by kernel_rfl) (by kernel_rfl) (by kernel_rfl) (fun _ _ _ h => h) (Or.inl ⟨by rfl, fun w _ => by go_simp⟩) hHeld ?_
      simp only [Act.put, List.setIfInBounds_toArray, List.set_cons_zero, List.set_cons_succ]
      refine wpAnyH_take (i := 10) (oi := ⟨some 43, .move (.tmp 42), _, _, _, none⟩) (v := .bool false) rfl (by kernel_rfl) (by kernel_rfl) (by kernel_rfl) (fun _ _ _ h => h) (Or.inl ⟨by rfl, fun _ _ => rfl⟩) hHeld ?_
      simp only [Act.put, List.setIfInBounds_toArray, List.set_cons_zero, List.set_cons_succ]
      refine wpAnyH_take (i := 11) (oi := ⟨some 44, .move (.tmp 6), _, _, _, _⟩) (v := .int .i64 E) rfl (by kernel_rfl) (by kernel_rfl) (by kernel_rfl) (fun _ _ _ h => h) (Or.inl ⟨by rfl, fun _ _ => rfl⟩) hHeld ?_
      simp only [Act.put, List.setIfInBounds_toArray, List.set_cons_zero, List.set_cons_succ]
      refine wpAnyH_take (i := 12) (oi := ⟨some 45, .binOp .eql 42 (.tmp 44) (.const (.int .i64 0)) 42, _, _, _, _⟩) (v := .bool false) rfl (by kernel_rfl) (by kernel_rfl) (by kernel_rfl) (fun _ _ _ h => h) (Or.inl ⟨by rfl, fun w _ => by go_simp⟩) hHeld ?_
      simp only [Act.put, List.setIfInBounds_toArray, List.set_cons_zero, List.set_cons_succ]
      refine wpAnyH_take (i := 13) (oi := ⟨some 46, .move (.tmp 45), _, _, _, _⟩) (v := .bool false) rfl (by kernel_rfl) (by kernel_rfl) (by kernel_rfl) (fun _ _ _ h => h) (Or.inl ⟨by rfl, fun _ _ => rfl⟩) hHeld ?_
      simp only [Act.put, List.setIfInBounds_toArray, List.set_cons_zero, List.set_cons_succ]
      refine wpAnyH_take (i := 14) (oi := ⟨some 47, .load 23 (.tmp 5), _, _, _, _⟩) (v := undef) rfl (by kernel_rfl) (by kernel_rfl) (by kernel_rfl) (fun _ _ _ h => h) (Or.inr ⟨by rfl, rfl⟩) hHeld ?_
      simp only [Act.put, List.setIfInBounds_toArray, List.set_cons_zero, List.set_cons_succ]
      refine wpAnyH_take (i := 15) (oi := ⟨some 48, .call { callee := .value (.func 10), args := #[.tmp 47], argTypes := #[23] }, _, _, _, _⟩) (v := undef) rfl (by kernel_rfl) (by kernel_rfl) (by kernel_rfl) (fun _ _ _ h => h) (Or.inr ⟨by rfl, rfl⟩) hHeld ?_
      simp only [Act.put, List.setIfInBounds_toArray, List.set_cons_zero, List.set_cons_succ]
      refine wpAnyH_take (i := 16) (oi := ⟨some 49, .convert 29 9 (.tmp 48), _, _, _, _⟩) (v := undef) rfl (by kernel_rfl) (by kernel_rfl) (by kernel_rfl) (fun _ _ _ h => h) (Or.inr ⟨by rfl, rfl⟩) hHeld ?_
      simp only [Act.put, List.setIfInBounds_toArray, List.set_cons_zero, List.set_cons_succ]
      refine wpAnyH_take (i := 17) (oi := ⟨some 50, .move (.tmp 1), _, _, _, _⟩) (v := undef) rfl (by kernel_rfl) (by kernel_rfl) (by kernel_rfl) (fun _ _ _ h => h) (Or.inr ⟨by rfl, rfl⟩) hHeld ?_
      simp only [Act.put, List.setIfInBounds_toArray, List.set_cons_zero, List.set_cons_succ]
      refine wpAnyH_take (i := 18) (oi := ⟨some 51, .convert 29 9 (.tmp 50), _, _, _, _⟩) (v := undef) rfl (by kernel_rfl) (by kernel_rfl) (by kernel_rfl) (fun _ _ _ h => h) (Or.inr ⟨by rfl, rfl⟩) hHeld ?_
      simp only [Act.put, List.setIfInBounds_toArray, List.set_cons_zero, List.set_cons_succ]
      refine wpAnyH_take (i := 19) (oi := ⟨some 52, .binOp .neq 9 (.tmp 49) (.tmp 51) 9, _, _, _, _⟩) (v := undef) rfl (by kernel_rfl) (by kernel_rfl) (by kernel_rfl) (fun _ _ _ h => h) (Or.inr ⟨by rfl, rfl⟩) hHeld ?_
      simp only [Act.put, List.setIfInBounds_toArray, List.set_cons_zero, List.set_cons_succ]
      refine wpAnyH_take (i := 20) (oi := ⟨some 53, .pick (.tmp 46) (.tmp 52) (.const (.bool false)), _, _, _, _⟩) (v := .bool false) rfl (by kernel_rfl) (by kernel_rfl) (by kernel_rfl) (fun _ _ _ h => h) (Or.inl ⟨by rfl, fun w _ => by go_simp⟩) hHeld ?_
      simp only [Act.put, List.setIfInBounds_toArray, List.set_cons_zero, List.set_cons_succ]
      refine wpAnyH_take (i := 21) (oi := ⟨some 54, .pick (.tmp 43) (.const (.bool true)) (.tmp 53), _, _, _, none⟩) (v := .bool false) rfl (by kernel_rfl) (by kernel_rfl) (by kernel_rfl) (fun _ _ _ h => h) (Or.inl ⟨by rfl, fun w _ => by go_simp⟩) hHeld ?_
      simp only [Act.put, List.setIfInBounds_toArray, List.set_cons_zero, List.set_cons_succ]
      refine wpAnyH_done (by kernel_rfl) ?_ _
      clear hHeld
      clear b5 b7
      go_wp2_with (first
        | ((with_reducible refine wpList_load_blk (o := ⟨some 55, .load 23 (.tmp 2), _, _, _, none⟩) rfl _ _ rfl w.heap.size 23 x.cells _ ?_ ?_ Try.underlying23 rfl (cn_sz _) ?_); rfl; exact b2)
        | (go_at_call 9; (with_reducible refine (KV.out _).mono ?_); rintro e w7 ⟨rfl, l7⟩; replace b2 := b2.keep l7; replace b8 := b8.keep l7; replace lw := Later.trans_ lw l7)
        | (go_at_call 7; (with_reducible refine (KS.out _).mono ?_); rintro e w8 ⟨rfl, l8⟩; replace b2 := b2.keep l8; replace b8 := b8.keep l8; replace lw := Later.trans_ lw l8)
        | ((with_reducible refine wpList_load_g (o := ⟨some 64, .load 23 (.tmp 8), _, _, _, _⟩) _ _ rfl w5.heap.size 23 zC.cells _ ?_ ?_ ?_ Try.underlying23 ?_ (cn_sz _) ?_); rfl; rfl; exact b8; rfl))
      go_ret
      exact ⟨rfl, lw⟩

set_option maxRecDepth 100000 in
theorem consoleReadsBack_lifted (os : Os) (started : os.Started) (H : Type) (enc : TypeId × Value → H) :
    ReturnsInHanded {} Try.checked os 4 .any (Rows.consoleReadsBackSpec.pre6 enc Try.prog Try.f4 Rows.consoleReadsBackRow.domain false) (Rows.consoleReadsBackSpec.post enc Try.prog Try.f4 false true false false) := by
  refine returnsInHanded_of_change (C := Try.checked) ownK started (by kernel_rfl) Try.func4
    (ChangeSpec.witness6 (enc := enc) (C := Try.checked) false ⟨#[], #[.agg #[.string ⟨#[]⟩, .int .i64 0], .slice none 0 0], []⟩ 8 (by kernel_rfl) (by kernel_rfl) (by kernel_rfl) (by kernel_rfl)) ?_
  intro W base args ds gs before hval0 hW hcnd _
  have hval : ∀ (j : Nat) t v, Try.f4.params[j]? = some t → args[j]? = some v → Value.okWide Try.prog W .any base t v := hval0
  have hW' := hW
  obtain ⟨p, q, hA0, hV, rfl, hfz, hnd⟩ := hW
  have hA : DataW.TrodAll enc Try.prog W 0 (fun _ => true) true Try.f4.params.toList args.toList ds p := hA0
  rw [Try.params4] at hA hval
  obtain ⟨v0, vs0, d0, ds0, p0, q0, hargs, rfl, rfl, h0, r0⟩ := trodAll_cons hA
  obtain ⟨v1, vs1, d1, ds1, p1, q1, rfl, rfl, rfl, h1, r1⟩ := trodAll_cons r0
  obtain ⟨rfl, rfl, rfl⟩ := trodAll_nil r1
  obtain rfl : args = #[v0, v1] := by cases args; simp_all
  obtain ⟨rfl, rfl⟩ := trodVars_none hV
  obtain ⟨a0, rfl, z0⟩ := cn_open (hval 0 23 v0 rfl rfl) h0
  obtain ⟨A1, n1, c1, b1, rfl, x1, y1, s1, z1⟩ := bytes_arg Try.underlying29 Try.underlying5 (by kernel_rfl) (hval 1 29 v1 rfl rfl) h1
  clear hA0 hval0
  simp only [List.append_nil] at hW'
  refine (back_all a0 A1 n1 c1 b1 W z0.n s1 z1 x1 y1).mono fun e W' ⟨he, hw⟩ => ?_
  subst he
  exact ⟨_, rfl, law_post laidK rfl (by kernel_rfl) (by kernel_rfl) Try.underlying4 (by kernel_rfl) hW' rfl hw⟩
set_option maxRecDepth 100000 in
/-- The statement. -/
theorem consoleReadsBack_said : Rows.ConsoleReadsBackSaid :=
  OpenClaim.holds_of_wide 4 Try.f4 rfl rfl rfl rfl rfl rfl rfl ⟨rfl, rfl, rfl, rfl, rfl⟩ rfl rfl rfl rfl rfl (by kernel_rfl) Try.func4 (by kernel_rfl)
    (of_decide_eq_true (by kernel_rfl)) (by unfold Func.isWrapper; first | (rw [if_pos (by decide +kernel)]; kernel_rfl) | (rw [if_neg (by decide +kernel)]; exact ⟨rfl, rfl⟩))
    (fun os started H enc _ => consoleReadsBack_lifted os started H enc)
#print axioms consoleReadsBack_said
end Go.Proofs.Ytkhgaikfomcjeaa
