/-
  THE STATEMENT ClockNeverGoesBack: readings that are offered do not decrease, and what is taken was offered; for every clock and at most 60 turns.
-/
import Derived.Test.YtdohocbpjpnmeaaCloI
import Derived.Deep.RegionHeld
import Derived.Deep.DeepCutAuto
namespace Go.Proofs.Ytdohocbpjpnmeaa
open Go.RowKit Go.ChangeShapes Go.WideShapes Go.ChangeAt

theorem add_pos (q : Addr) {n : Nat} (h : n ≠ 0) : q.add n = ⟨q.block, q.off + n, none⟩ := by unfold Addr.add; rw [if_neg h]
theorem four_at (f : Nat → Int) {k : Nat} (h : k < 4) : (four f)[k]? = some (.int .i64 (f k)) := by
  rcases (show k = 0 ∨ k = 1 ∨ k = 2 ∨ k = 3 by omega) with rfl | rfl | rfl | rfl <;> rfl
theorem fourB_at (f : Nat → Bool) {k : Nat} (h : k < 4) : (fourB f)[k]? = some (.bool (f k)) := by
  rcases (show k = 0 ∨ k = 1 ∨ k = 2 ∨ k = 3 by omega) with rfl | rfl | rfl | rfl <;> rfl
theorem four_set (f : Nat → Int) {k : Nat} (h : k < 4) (v : Int) : (four f).set k (.int .i64 v) = four (upd f k v) := by
  rcases (show k = 0 ∨ k = 1 ∨ k = 2 ∨ k = 3 by omega) with rfl | rfl | rfl | rfl <;> rfl
theorem fourB_set (f : Nat → Bool) {k : Nat} (h : k < 4) (v : Bool) : (fourB f).set k (.bool v) = fourB (upd f k v) := by
  rcases (show k = 0 ∨ k = 1 ∨ k = 2 ∨ k = 3 by omega) with rfl | rfl | rfl | rfl <;> rfl
set_option maxRecDepth 100000 in
set_option maxHeartbeats 8000000 in
theorem never_all (x : Clk) (S : Option Addr) (m c : Nat) (L : List Tn) (w : World) (hs : Sl w 3 S m (Tx L)) (hL : L.length = m) (hwf : ∀ a ∈ L, a.wf) : Calls Try.prog 7 #[.agg x.cells.toArray, .slice S m c] w fun e w' => e = .returned (.bool true) ∧ Later w w' := by
  have KS := Lib.hid fun w' => sanity_any w'
  have b3 := Blk.new w 25 x.cells.toArray x.cells rfl
  have lw := later1 w (.cells x.cells.toArray 25)
  obtain ⟨u0, hu⟩ : ∃ u0, w.alloc (.cells x.cells.toArray 25) = u0 := ⟨_, rfl⟩
  rw [hu] at b3 lw
  obtain ⟨b, hb⟩ := ok_dec x
  have KR := Lib.hid fun w' => rvalid_any x b w' hb
  have HB := Lib.hid hb
  clear hb
  cases b with
  | false =>
    clear hs hL hwf HB
    go_enter Try.func7, Try.ntmps7
    go_upto_region 1 with fail
    clear hu
    go_wp2_with (first
      | ((with_reducible refine wpList_load_blk (o := ⟨some 16, .load 25 (.tmp 2), _, _, _, none⟩) rfl _ _ rfl w.heap.size 25 x.cells _ ?_ ?_ Try.underlying25 rfl (clk_sz _) ?_); rfl; exact b3)
      | (go_at_call 10; (with_reducible refine (KR.out _).mono ?_); rintro e w1 ⟨rfl, l1⟩; replace b3 := b3.keep l1; replace lw := Later.trans_ lw l1)
      | (go_at_call 12; (with_reducible refine (KS.out _).mono ?_); rintro e w3 ⟨rfl, l1⟩; replace b3 := b3.keep l1; replace lw := Later.trans_ lw l1))
    go_ret
    exact ⟨rfl, lw⟩
  | true =>
    by_cases h60 : 60 < (m : Int)
    · have d60 : decide (60 < (m : Int)) = true := decide_eq_true h60
      clear hs hL hwf HB h60
      go_enter Try.func7, Try.ntmps7
      go_upto_region 1 with fail
      clear hu
      go_wp2_with (first
        | ((with_reducible refine wpList_load_blk (o := ⟨some 16, .load 25 (.tmp 2), _, _, _, none⟩) rfl _ _ rfl w.heap.size 25 x.cells _ ?_ ?_ Try.underlying25 rfl (clk_sz _) ?_); rfl; exact b3)
        | (go_at_call 10; (with_reducible refine (KR.out _).mono ?_); rintro e w1 ⟨rfl, l1⟩; replace b3 := b3.keep l1; replace lw := Later.trans_ lw l1)
        | (go_at_call 12; (with_reducible refine (KS.out _).mono ?_); rintro e w3 ⟨rfl, l1⟩; replace b3 := b3.keep l1; replace lw := Later.trans_ lw l1))
      go_ret
      exact ⟨rfl, lw⟩
    have d60 : decide (60 < (m : Int)) = false := decide_eq_false h60
    have HS := Lib.hid fun (w' : World) (hl : Later w w') => hs.keep hl
    have HLN := Lib.hid hL
    have HWF := Lib.hid hwf
    have HOK := Lib.hid (HB.out.1 rfl)
    clear hs hL hwf HB
    go_enter Try.func7, Try.ntmps7
    go_upto_region 1 with fail
    clear hu
    go_upto_region 7 with (first
      | ((with_reducible refine wpList_load_blk (o := ⟨some 16, .load 25 (.tmp 2), _, _, _, none⟩) rfl _ _ rfl w.heap.size 25 x.cells _ ?_ ?_ Try.underlying25 rfl (clk_sz _) ?_); rfl; exact b3)
      | (go_at_call 10; (with_reducible refine (KR.out _).mono ?_); rintro e w1 ⟨rfl, l1⟩; replace b3 := b3.keep l1; replace lw := Later.trans_ lw l1; have e0 := b3.cell (clk_l x); have n3 := Nat.ne_of_lt b3.lt; have nw := lw.size; have HN3 := Lib.hid b3.lt)
      | ((with_reducible refine wpList_load_at (o := ⟨some 29, .load 23 (.tmp 28), _, _, _, none⟩) rfl _ _ rfl w.heap.size 5 4 25 x.cells (four x.r) _ ?_ ?_ (drop_r x) Try.underlying23 rfl (four_sz _) ?_); rfl; exact b3)
      | ((with_reducible refine wpList_store_abs (o := ⟨none, .store 23 (.tmp 7) (.tmp 29), _, _, _, none⟩) rfl _ _ _ rfl w1.heap.size 23 (four fun _ => 0) (four x.r) ?_ ?_ ?_ ?_ ?_ ?_ ?_); rfl; rfl; exact (Blk.new _ _ _ _ rfl); exact four_sz _; rfl; exact four_one _; intro u7 b7 o7; clear e0; replace b3 := (b3.alloc (.cells (four fun _ => 0).toArray 23)).only o7 n3; replace lw := Below.only (lw.alloc nw (.cells (four fun _ => 0).toArray 23)) o7 nw; have n38 := Nat.ne_of_lt b3.lt; have n78 := Nat.ne_of_lt b7.lt; have nw8 := lw.size; have HN7 := Lib.hid b7.lt; clear o7 nw n3)
      | ((with_reducible refine wpList_load_at (o := ⟨some 31, .load 22 (.tmp 30), _, _, _, none⟩) rfl _ _ rfl w.heap.size 1 4 25 x.cells (fourB x.o) _ ?_ ?_ (drop_o x) Try.underlying22 rfl (fourB_sz _) ?_); rfl; exact b3)
      | ((with_reducible refine wpList_store_abs (o := ⟨none, .store 22 (.tmp 8) (.tmp 31), _, _, _, none⟩) rfl _ _ _ rfl u7.heap.size 22 (fourB fun _ => false) (fourB x.o) ?_ ?_ ?_ ?_ ?_ ?_ ?_); rfl; rfl; exact (Blk.new _ _ _ _ rfl); exact fourB_sz _; rfl; exact fourB_one _; intro u8 b8 o8; replace b3 := (b3.alloc (.cells (fourB fun _ => false).toArray 22)).only o8 n38; replace b7 := (b7.alloc (.cells (fourB fun _ => false).toArray 22)).only o8 n78; replace lw := Below.only (lw.alloc nw8 (.cells (fourB fun _ => false).toArray 22)) o8 nw8; clear o8 n38 n78 nw8))
    clear d60
    go_wp2
    go_loopw [6, 9] (fun q i wr => ∃ (j : Nat) (y : Clk) (h : Nat → Int), j ≤ m ∧ i = .int .i64 j ∧ q = .int .i64 y.l ∧ Hid (y.Ok ∧ ∀ p, p < 4 → y.o p = true → h p = y.r p) ∧ Blk wr w.heap.size 25 y.cells ∧ Blk wr w1.heap.size 23 (four h) ∧ Blk wr u7.heap.size 22 (fourB y.o) ∧ Later w wr) (fun _ i _ => m - (intOf i).toNat)
    case atStart => exact ⟨0, x, x.r, by omega, rfl, rfl, ⟨HOK.out, fun p _ _ => rfl⟩, b3, b7, b8, lw⟩
    case round =>
      clear b3 b7 b8 lw HOK
      have m60 : (m : Int) ≤ 60 := by omega
      clear h60
      obtain ⟨j, y, h, hj, rfl, rfl, HY, b3, b7, b8, lw⟩ := hrel
      by_cases hjm : j < m
      · have hjmi : (j : Int) < (m : Int) := by omega
        have hj0 : (0 : Int) ≤ j := by omega
        have hLj : j < L.length := by rw [HLN.out]; exact hjm
        obtain ⟨a, haL⟩ : ∃ a, a = L[j] := ⟨_, rfl⟩
        have HAW := Lib.hid (show a.wf by rw [haL]; exact HWF.out _ (List.getElem_mem _))
        obtain ⟨ad, hAd, hadb, _⟩ := (HS.out wr lw).2 (by omega)
        have HC := Lib.hid (show ∀ (w' : World), Later w w' → ∀ (i : Nat) (v : Value), a.cells[i]? = some v → w'.cell? ((ad.add (j * 3)).add i) = some v from by
          intro w' hl i v hi
          have hi3 : i < 3 := by
            rcases Nat.lt_or_ge i 3 with h | h
            · exact h
            · rw [List.getElem?_eq_none (show a.cells.length ≤ i from h)] at hi; cases hi
          obtain ⟨ad2, hA2, _, hc2⟩ := (HS.out w' hl).2 (by omega)
          have e2 : ad = ad2 := by rw [hAd] at hA2; exact Option.some.inj hA2
          subst e2
          rw [addr_add_add]
          refine hc2 _ v ?_
          rw [Tx_at L j hLj i hi3, ← haL]
          exact hi)
        subst hAd
        obtain ⟨k, hk⟩ : ∃ k : Nat, k = (a.cp % 4).toNat := ⟨_, rfl⟩
        have hk4 : k < 4 := by omega
        have hk0 : (0 : Int) ≤ k := by omega
        have hk4i : (k : Int) < 4 := by omega
        have m1 : a.cp.tmod 4 = (k : Int) := by rw [Int.tmod_eq_emod_of_nonneg HAW.out.cp.1]; have := HAW.out.cp; omega
        have m2 : IntKind.u8.wrap (k : Int) = (k : Int) := by rw [IntKind.wrap_u8]; omega
        have m3 : (k : Int) % 256 = (k : Int) := by omega
        have m4 : IntKind.i64.wrap (k : Int) = (k : Int) := by rw [IntKind.wrap_i64]; omega
        have HC2 := Lib.hid (fun (w' : World) (hl : Later w w') => (show w'.cell? ⟨(ad.add (j * 3)).block, (ad.add (j * 3)).off + 2, none⟩ = some (.int .i64 a.rd) from by have := HC.out w' hl 2 _ rfl; rwa [add_pos _ (by decide)] at this))
        have c0 : wr.cell? (ad.add (j * 3)) = some (.int .u8 a.kd) := HC.out wr lw 0 _ rfl
        have c1 : wr.cell? ⟨(ad.add (j * 3)).block, (ad.add (j * 3)).off + 1, none⟩ = some (.int .u8 a.cp) := by have := HC.out wr lw 1 _ rfl; rwa [add_pos _ (by decide)] at this
        have c2 := HC2.out wr lw
        clear hk haL hLj
        have H3 := Lib.hid b3.lt
        have H7 := Lib.hid b7.lt
        have H8 := Lib.hid b8.lt
        go_upto_region 11 with fail
        by_cases r0 : a.kd % 2 = 0
        · have q0 : a.kd.tmod 2 = 0 := by rw [Int.tmod_eq_emod_of_nonneg HAW.out.kd.1]; exact r0
          clear r0
          have KO := Lib.hid fun w' => offer_any y (k : Int) a.rd w'
          by_cases h0 : y.offerE (k : Int) a.rd = 0
          · obtain ⟨_, _, i3, i4⟩ := offer_0 h0
            rw [off_nat y hk4] at i4
            have HYO := Lib.hid i4
            have hX : y.offerC (k : Int) a.rd = { y with l := a.rd, o := upd y.o k true, r := upd y.r k a.rd } := by unfold Clk.offerC; rw [if_pos h0, Int.toNat_natCast]
            have dl : decide (a.rd < y.l) = false := decide_eq_false i3
            have HFK := Lib.hid (HY.out.1.offered (k : Int) a.rd)
            obtain ⟨f, hf⟩ : ∃ f, f = y.offerC (k : Int) a.rd := ⟨_, rfl⟩
            rw [h0, ← hf] at KO
            rw [← hf] at HFK hX
            have HFO := Lib.hid (show f.o = upd y.o k true by rw [hX])
            have HFL := Lib.hid (show f.l = a.rd by rw [hX])
            have HFR := Lib.hid (show f.r = upd y.r k a.rd by rw [hX])
            clear i3 i4 hX hf h0
            go_upto_region 12 with fail
            go_cut [11, 12] (fun q11 q12 wx => ∃ g : Nat, q11 = .pointer (some ⟨g, 0, none⟩) ∧ q12 = .int .i64 0 ∧ Blk wx g 25 f.cells ∧ wr.heap.size ≤ g ∧ Blk wx w.heap.size 25 y.cells ∧ Blk wx w1.heap.size 23 (four h) ∧ Blk wx u7.heap.size 22 (fourB y.o) ∧ Later w wx)
            case first => as_aux_lemma =>
              replace b3 := b3.drew
              replace b7 := b7.drew
              replace b8 := b8.drew
              replace lw := lw.drew
              refine wp_region_held_drew (S := fun w' => World.rangeAt w' w.heap.size 0 y.cells ∧ w'.cell? ⟨(ad.add (j * 3)).block, (ad.add (j * 3)).off + 2, none⟩ = some (.int .i64 a.rd)) (by kernel_rfl) ⟨(show World.rangeAt _ w.heap.size 0 y.cells from b3.range 0 13), HC2.out _ lw⟩ (fun hHeld => ?_)
              refine wpAnyH_take (i := 0) (oi := ⟨some 53, .load 25 (.tmp 2), _, _, _, none⟩) (v := .agg y.cells.toArray) rfl (by kernel_rfl) (by kernel_rfl) (by kernel_rfl) (fun _ _ _ h => h) (yieldsIf_load_mid (by rfl) _ _ rfl _ _ rfl y.cells _ (fun w h => h.1) Try.underlying25 rfl (clk_sz _)) hHeld ?_
              simp only [Act.put, List.setIfInBounds_toArray, List.set_cons_zero, List.set_cons_succ]
              refine wpAnyH_take (i := 1) (oi := ⟨some 54, .move (.tmp 10), _, _, _, none⟩) (v := .int .i64 (k : Int)) rfl (by kernel_rfl) (by kernel_rfl) (by kernel_rfl) (fun _ _ _ h => h) (Or.inl ⟨by rfl, fun _ _ => rfl⟩) hHeld ?_
              simp only [Act.put, List.setIfInBounds_toArray, List.set_cons_zero, List.set_cons_succ]
              refine wpAnyH_take (i := 2) (oi := ⟨some 55, .move (.tmp 1), _, _, _, none⟩) (v := .slice (some ad) m c) rfl (by kernel_rfl) (by kernel_rfl) (by kernel_rfl) (fun _ _ _ h => h) (Or.inl ⟨by rfl, fun _ _ => rfl⟩) hHeld ?_
              simp only [Act.put, List.setIfInBounds_toArray, List.set_cons_zero, List.set_cons_succ]
              refine wpAnyH_take (i := 3) (oi := ⟨some 56, .move (.tmp 9), _, _, _, none⟩) (v := .int .i64 (j : Int)) rfl (by kernel_rfl) (by kernel_rfl) (by kernel_rfl) (fun _ _ _ h => h) (Or.inl ⟨by rfl, fun _ _ => rfl⟩) hHeld ?_
              simp only [Act.put, List.setIfInBounds_toArray, List.set_cons_zero, List.set_cons_succ]
              refine wpAnyH_take (i := 4) (oi := ⟨some 57, .indexAddr 55 (.tmp 55) (.tmp 56), _, _, _, none⟩) (v := .pointer (some (ad.add (j * 3)))) rfl (by kernel_rfl) (by kernel_rfl) (by kernel_rfl) (fun _ _ _ h => h) (Or.inl ⟨by rfl, fun w _ => by go_simp⟩) hHeld ?_
              simp only [Act.put, List.setIfInBounds_toArray, List.set_cons_zero, List.set_cons_succ]
              refine wpAnyH_take (i := 5) (oi := ⟨some 58, .fieldAddr 57 (.tmp 57) 2, _, _, _, none⟩) (v := .pointer (some ⟨(ad.add (j * 3)).block, (ad.add (j * 3)).off + 2, none⟩)) rfl (by kernel_rfl) (by kernel_rfl) (by kernel_rfl) (fun _ _ _ h => h) (Or.inl ⟨by rfl, fun w _ => by go_simp⟩) hHeld ?_
              simp only [Act.put, List.setIfInBounds_toArray, List.set_cons_zero, List.set_cons_succ]
              refine wpAnyH_take (i := 6) (oi := ⟨some 59, .load 3 (.tmp 58), _, _, _, none⟩) (v := .int .i64 a.rd) rfl (by kernel_rfl) (by kernel_rfl) (by kernel_rfl) (fun _ _ _ h => h) (Or.inl ⟨by rfl, fun w hSw => by have e1 := hSw.2; clear hSw; go_simp⟩) hHeld ?_
              simp only [Act.put, List.setIfInBounds_toArray, List.set_cons_zero, List.set_cons_succ]
              refine wpAnyH_ready (rs := [7, 11]) (by kernel_rfl) (by simp) (AllReadyH.cons (o := ⟨some 60, .call { callee := .value (.func 13), args := #[.tmp 53, .tmp 54, .tmp 59], argTypes := #[25, 3, 3] }, _, _, _, none⟩) rfl (fun K' hK => ?_) (AllReadyH.cons (o := ⟨some 11, .alloc 25, _, _, _, none⟩) rfl (fun K' hK => ?_) AllReadyH.nil))
              · go_simp
                (with_reducible refine (KO.out _).mono ?_)
                rintro e v7 ⟨rfl, l1⟩
                replace b3 := b3.keep l1
                replace b7 := b7.keep l1
                replace b8 := b8.keep l1
                replace lw := Later.trans_ lw l1
                try replace bf := bf.keep l1
                refine hK.out _ _ ⟨(show World.rangeAt _ w.heap.size 0 y.cells from b3.range 0 13), HC2.out _ lw⟩ (fun hHeld => ?_)
                clear hK K'
                try simp only [Act.put, List.setIfInBounds_toArray, List.set_cons_zero, List.set_cons_succ]
                refine wpAnyH_take (i := 8) (oi := ⟨some 52, .move (.tmp 60), _, _, _, none⟩) (v := (.tuple #[.agg f.cells.toArray, .int .i64 0])) rfl (by kernel_rfl) (by kernel_rfl) (by kernel_rfl) (fun _ _ _ h => h) (Or.inl ⟨by rfl, fun _ _ => rfl⟩) hHeld ?_
                simp only [Act.put, List.setIfInBounds_toArray, List.set_cons_zero, List.set_cons_succ]
                refine wpAnyH_take (i := 9) (oi := ⟨some 61, .extract (.tmp 52) 0, _, _, _, none⟩) (v := .agg f.cells.toArray) rfl (by kernel_rfl) (by kernel_rfl) (by kernel_rfl) (fun _ _ _ h => h) (Or.inl ⟨by rfl, fun w _ => by go_simp⟩) hHeld ?_
                simp only [Act.put, List.setIfInBounds_toArray, List.set_cons_zero, List.set_cons_succ]
                refine wpAnyH_take (i := 10) (oi := ⟨some 62, .extract (.tmp 52) 1, _, _, _, none⟩) (v := .int .i64 0) rfl (by kernel_rfl) (by kernel_rfl) (by kernel_rfl) (fun _ _ _ h => h) (Or.inl ⟨by rfl, fun w _ => by go_simp⟩) hHeld ?_
                simp only [Act.put, List.setIfInBounds_toArray, List.set_cons_zero, List.set_cons_succ]
                refine wpAnyH_ready (rs := [11]) (by kernel_rfl) (by simp) (AllReadyH.cons (o := ⟨some 11, .alloc 25, _, _, _, none⟩) rfl (fun K' hK => ?_) AllReadyH.nil)
                go_simp
                have hgs : wr.heap.size ≤ v7.heap.size := (by first | exact Nat.le_refl _ | exact l1.size)
                have n3 := Nat.ne_of_lt b3.lt
                have n7 := Nat.ne_of_lt b7.lt
                have n8 := Nat.ne_of_lt b8.lt
                have m2 := lw.size
                have bf := Blk.new v7 25 zK.cells.toArray zK.cells rfl
                replace b3 := b3.alloc (.cells zK.cells.toArray 25)
                replace b7 := b7.alloc (.cells zK.cells.toArray 25)
                replace b8 := b8.alloc (.cells zK.cells.toArray 25)
                replace lw := lw.alloc m2 (.cells zK.cells.toArray 25)
                refine hK.out _ _ ⟨(show World.rangeAt _ w.heap.size 0 y.cells from b3.range 0 13), HC2.out _ lw⟩ (fun hHeld => ?_)
                clear hK K'
                try simp only [Act.put, List.setIfInBounds_toArray, List.set_cons_zero, List.set_cons_succ]
                refine wpAnyH_ready (rs := [12]) (by kernel_rfl) (by simp) (AllReadyH.cons (o := ⟨none, .store 25 (.tmp 11) (.tmp 61), _, _, _, none⟩) rfl (fun K' hK => ?_) AllReadyH.nil)
                refine wp_store_blk 25 _ _ rfl (v7.heap.size) 25 zK.cells f.cells rfl rfl bf (clk_sz _) rfl (clk_one _) ?_
                intro wq bq oq
                clear bf
                have bf := bq
                clear bq
                replace b3 := b3.only oq n3
                replace b7 := b7.only oq n7
                replace b8 := b8.only oq n8
                replace lw := Below.only lw oq m2
                clear oq
                refine hK.out _ _ ⟨(show World.rangeAt _ w.heap.size 0 y.cells from b3.range 0 13), HC2.out _ lw⟩ (fun hHeld => ?_)
                clear hK K'
                try simp only [Act.put]
                refine wpAnyH_take (i := 13) (oi := ⟨some 12, .assign (.tmp 62), _, _, _, none⟩) (v := .int .i64 0) rfl (by kernel_rfl) (by kernel_rfl) (by kernel_rfl) (fun _ _ _ h => h) (Or.inl ⟨by rfl, fun _ _ => rfl⟩) hHeld ?_
                simp only [Act.put, List.setIfInBounds_toArray, List.set_cons_zero, List.set_cons_succ]
                refine wpAnyH_done (by kernel_rfl) ?_ _
                clear hHeld
                go_wp2
                go_meet
                exact ⟨_, rfl, rfl, bf, hgs, b3, b7, b8, lw⟩
              · go_simp
                have hgs : wr.heap.size ≤ wr.heap.size := (by first | exact Nat.le_refl _ | exact l1.size)
                have n3 := Nat.ne_of_lt b3.lt
                have n7 := Nat.ne_of_lt b7.lt
                have n8 := Nat.ne_of_lt b8.lt
                have m2 := lw.size
                have bf := Blk.new wr.drew 25 zK.cells.toArray zK.cells rfl
                replace b3 := b3.alloc (.cells zK.cells.toArray 25)
                replace b7 := b7.alloc (.cells zK.cells.toArray 25)
                replace b8 := b8.alloc (.cells zK.cells.toArray 25)
                replace lw := lw.alloc m2 (.cells zK.cells.toArray 25)
                refine hK.out _ _ ⟨(show World.rangeAt _ w.heap.size 0 y.cells from b3.range 0 13), HC2.out _ lw⟩ (fun hHeld => ?_)
                clear hK K'
                try simp only [Act.put, List.setIfInBounds_toArray, List.set_cons_zero, List.set_cons_succ]
                refine wpAnyH_ready (rs := [7]) (by kernel_rfl) (by simp) (AllReadyH.cons (o := ⟨some 60, .call { callee := .value (.func 13), args := #[.tmp 53, .tmp 54, .tmp 59], argTypes := #[25, 3, 3] }, _, _, _, none⟩) rfl (fun K' hK => ?_) AllReadyH.nil)
                go_simp
                (with_reducible refine (KO.out _).mono ?_)
                rintro e v7 ⟨rfl, l1⟩
                replace b3 := b3.keep l1
                replace b7 := b7.keep l1
                replace b8 := b8.keep l1
                replace lw := Later.trans_ lw l1
                try replace bf := bf.keep l1
                refine hK.out _ _ ⟨(show World.rangeAt _ w.heap.size 0 y.cells from b3.range 0 13), HC2.out _ lw⟩ (fun hHeld => ?_)
                clear hK K'
                try simp only [Act.put, List.setIfInBounds_toArray, List.set_cons_zero, List.set_cons_succ]
                refine wpAnyH_take (i := 8) (oi := ⟨some 52, .move (.tmp 60), _, _, _, none⟩) (v := (.tuple #[.agg f.cells.toArray, .int .i64 0])) rfl (by kernel_rfl) (by kernel_rfl) (by kernel_rfl) (fun _ _ _ h => h) (Or.inl ⟨by rfl, fun _ _ => rfl⟩) hHeld ?_
                simp only [Act.put, List.setIfInBounds_toArray, List.set_cons_zero, List.set_cons_succ]
                refine wpAnyH_take (i := 9) (oi := ⟨some 61, .extract (.tmp 52) 0, _, _, _, none⟩) (v := .agg f.cells.toArray) rfl (by kernel_rfl) (by kernel_rfl) (by kernel_rfl) (fun _ _ _ h => h) (Or.inl ⟨by rfl, fun w _ => by go_simp⟩) hHeld ?_
                simp only [Act.put, List.setIfInBounds_toArray, List.set_cons_zero, List.set_cons_succ]
                refine wpAnyH_take (i := 10) (oi := ⟨some 62, .extract (.tmp 52) 1, _, _, _, none⟩) (v := .int .i64 0) rfl (by kernel_rfl) (by kernel_rfl) (by kernel_rfl) (fun _ _ _ h => h) (Or.inl ⟨by rfl, fun w _ => by go_simp⟩) hHeld ?_
                simp only [Act.put, List.setIfInBounds_toArray, List.set_cons_zero, List.set_cons_succ]
                refine wpAnyH_ready (rs := [12]) (by kernel_rfl) (by simp) (AllReadyH.cons (o := ⟨none, .store 25 (.tmp 11) (.tmp 61), _, _, _, none⟩) rfl (fun K' hK => ?_) AllReadyH.nil)
                refine wp_store_blk 25 _ _ rfl (wr.heap.size) 25 zK.cells f.cells rfl rfl bf (clk_sz _) rfl (clk_one _) ?_
                intro wq bq oq
                clear bf
                have bf := bq
                clear bq
                replace b3 := b3.only oq n3
                replace b7 := b7.only oq n7
                replace b8 := b8.only oq n8
                replace lw := Below.only lw oq m2
                clear oq
                refine hK.out _ _ ⟨(show World.rangeAt _ w.heap.size 0 y.cells from b3.range 0 13), HC2.out _ lw⟩ (fun hHeld => ?_)
                clear hK K'
                try simp only [Act.put]
                refine wpAnyH_take (i := 13) (oi := ⟨some 12, .assign (.tmp 62), _, _, _, none⟩) (v := .int .i64 0) rfl (by kernel_rfl) (by kernel_rfl) (by kernel_rfl) (fun _ _ _ h => h) (Or.inl ⟨by rfl, fun _ _ => rfl⟩) hHeld ?_
                simp only [Act.put, List.setIfInBounds_toArray, List.set_cons_zero, List.set_cons_succ]
                refine wpAnyH_done (by kernel_rfl) ?_ _
                clear hHeld
                go_wp2
                go_meet
                exact ⟨_, rfl, rfl, bf, hgs, b3, b7, b8, lw⟩
            case rest =>
              clear b3 b7 b8 lw c0 c1 c2
              obtain ⟨g, rfl, rfl, bf, hgs, b3, b7, b8, lw⟩ := hcut
              have g3 : g ≠ w.heap.size := by have := H3.out; omega
              have g7 : g ≠ w1.heap.size := by have := H7.out; omega
              have g8 : g ≠ u7.heap.size := by have := H8.out; omega
              clear hgs
              have e8 := b8.cell (fourB_at y.o hk4)
              rw [HYO.out] at e8
              have c2 := HC2.out _ lw
              go_upto_region 19 with fail
              clear e8 c2
              go_wp2_with (first
                | ((with_reducible refine wpList_set1 (o := ⟨none, .store 3 (.tmp 87) (.tmp 86), _, _, _, none⟩) rfl _ _ _ rfl rfl w1.heap.size k 23 (four h) (.int .i64 a.rd) ?_ ?_ ?_ ?_ ?_ ?_ ?_); rfl; rfl; exact b7; exact i_sz; exact (show k < 4 from hk4); rfl; intro u20 bq oq; clear b7; have b7 := bq; rw [four_set _ hk4] at b7; clear bq; replace b3 := b3.only oq (Nat.ne_of_lt HN3.out); replace b8 := b8.only oq (Nat.ne_of_gt HN7.out); replace bf := bf.only oq g7; replace lw := Below.only lw oq (Nat.le_of_lt HN3.out); clear oq)
                | ((with_reducible refine wpList_set1 (o := ⟨none, .store 4 (.tmp 89) (.const (.bool true)), _, _, _, none⟩) rfl _ _ _ rfl rfl u7.heap.size k 22 (fourB y.o) (.bool true) ?_ ?_ ?_ ?_ ?_ ?_ ?_); rfl; rfl; exact b8; exact b_sz; exact (show k < 4 from hk4); rfl; intro u21 bq oq; clear b8; have b8 := bq; rw [fourB_set _ hk4] at b8; clear bq; replace b3 := b3.only oq (Nat.ne_of_lt (Nat.lt_trans HN3.out HN7.out)); replace b7 := b7.only oq (Nat.ne_of_lt HN7.out); replace bf := bf.only oq g8; replace lw := Below.only lw oq (Nat.le_of_lt (Nat.lt_trans HN3.out HN7.out)); clear oq)
                | ((with_reducible refine wpList_load_blk (o := ⟨some 90, .load 25 (.tmp 11), _, _, _, none⟩) rfl _ _ rfl g 25 f.cells _ ?_ ?_ Try.underlying25 rfl (clk_sz _) ?_); rfl; exact bf)
                | ((with_reducible refine wpList_store_abs (o := ⟨none, .store 25 (.tmp 2) (.tmp 90), _, _, _, none⟩) rfl _ _ _ rfl w.heap.size 25 y.cells f.cells ?_ ?_ ?_ ?_ ?_ ?_ ?_); rfl; rfl; exact b3; exact clk_sz _; rfl; exact clk_one _; intro u22 bq oq; clear b3; have b3 := bq; clear bq; replace b7 := b7.only oq (Nat.ne_of_gt HN3.out); replace b8 := b8.only oq (Nat.ne_of_gt (Nat.lt_trans HN3.out HN7.out)); replace lw := Below.only lw oq (Nat.le_refl _); clear oq bf))
              rw [← HFO.out] at b8
              have HYY : f.Ok ∧ ∀ p, p < 4 → f.o p = true → upd h k a.rd p = f.r p := ⟨HFK.out, fun p hp hop => by
                rw [HFR.out]
                rw [HFO.out] at hop
                by_cases e : p = k
                · rw [e, upd_at, upd_at]
                · rw [upd_ne _ _ e] at hop ⊢
                  rw [upd_ne _ _ e]
                  exact HY.out.2 p hp hop⟩
              replace HYY := Lib.hid HYY
              go_roundw
              case rel => exact ⟨j + 1, f, upd h k a.rd, by omega, by go_num, by rw [HFL.out], HYY.out, b3, b7, b8, lw⟩
              case measure => simp [intOf]; omega
          · rw [show y.offerC (k : Int) a.rd = y from if_neg h0] at KO
            obtain ⟨E, hE⟩ : ∃ E, E = y.offerE (k : Int) a.rd := ⟨_, rfl⟩
            rw [← hE] at KO h0
            have hne : (E != 0) = true := by simpa using h0
            have hqy := clk_same y
            clear hE h0
            go_upto_region 12 with fail
            go_cut [11, 12] (fun q11 q12 wx => ∃ g : Nat, q11 = .pointer (some ⟨g, 0, none⟩) ∧ q12 = .int .i64 E ∧ Blk wx g 25 y.cells ∧ wr.heap.size ≤ g ∧ Blk wx w.heap.size 25 y.cells ∧ Blk wx w1.heap.size 23 (four h) ∧ Blk wx u7.heap.size 22 (fourB y.o) ∧ Later w wx)
            case first => as_aux_lemma =>
              replace b3 := b3.drew
              replace b7 := b7.drew
              replace b8 := b8.drew
              replace lw := lw.drew
              refine wp_region_held_drew (S := fun w' => World.rangeAt w' w.heap.size 0 y.cells ∧ w'.cell? ⟨(ad.add (j * 3)).block, (ad.add (j * 3)).off + 2, none⟩ = some (.int .i64 a.rd)) (by kernel_rfl) ⟨(show World.rangeAt _ w.heap.size 0 y.cells from b3.range 0 13), HC2.out _ lw⟩ (fun hHeld => ?_)
              refine wpAnyH_take (i := 0) (oi := ⟨some 53, .load 25 (.tmp 2), _, _, _, none⟩) (v := .agg y.cells.toArray) rfl (by kernel_rfl) (by kernel_rfl) (by kernel_rfl) (fun _ _ _ h => h) (yieldsIf_load_mid (by rfl) _ _ rfl _ _ rfl y.cells _ (fun w h => h.1) Try.underlying25 rfl (clk_sz _)) hHeld ?_
              simp only [Act.put, List.setIfInBounds_toArray, List.set_cons_zero, List.set_cons_succ]
              refine wpAnyH_take (i := 1) (oi := ⟨some 54, .move (.tmp 10), _, _, _, none⟩) (v := .int .i64 (k : Int)) rfl (by kernel_rfl) (by kernel_rfl) (by kernel_rfl) (fun _ _ _ h => h) (Or.inl ⟨by rfl, fun _ _ => rfl⟩) hHeld ?_
              simp only [Act.put, List.setIfInBounds_toArray, List.set_cons_zero, List.set_cons_succ]
              refine wpAnyH_take (i := 2) (oi := ⟨some 55, .move (.tmp 1), _, _, _, none⟩) (v := .slice (some ad) m c) rfl (by kernel_rfl) (by kernel_rfl) (by kernel_rfl) (fun _ _ _ h => h) (Or.inl ⟨by rfl, fun _ _ => rfl⟩) hHeld ?_
              simp only [Act.put, List.setIfInBounds_toArray, List.set_cons_zero, List.set_cons_succ]
              refine wpAnyH_take (i := 3) (oi := ⟨some 56, .move (.tmp 9), _, _, _, none⟩) (v := .int .i64 (j : Int)) rfl (by kernel_rfl) (by kernel_rfl) (by kernel_rfl) (fun _ _ _ h => h) (Or.inl ⟨by rfl, fun _ _ => rfl⟩) hHeld ?_
              simp only [Act.put, List.setIfInBounds_toArray, List.set_cons_zero, List.set_cons_succ]
              refine wpAnyH_take (i := 4) (oi := ⟨some 57, .indexAddr 55 (.tmp 55) (.tmp 56), _, _, _, none⟩) (v := .pointer (some (ad.add (j * 3)))) rfl (by kernel_rfl) (by kernel_rfl) (by kernel_rfl) (fun _ _ _ h => h) (Or.inl ⟨by rfl, fun w _ => by go_simp⟩) hHeld ?_
              simp only [Act.put, List.setIfInBounds_toArray, List.set_cons_zero, List.set_cons_succ]
              refine wpAnyH_take (i := 5) (oi := ⟨some 58, .fieldAddr 57 (.tmp 57) 2, _, _, _, none⟩) (v := .pointer (some ⟨(ad.add (j * 3)).block, (ad.add (j * 3)).off + 2, none⟩)) rfl (by kernel_rfl) (by kernel_rfl) (by kernel_rfl) (fun _ _ _ h => h) (Or.inl ⟨by rfl, fun w _ => by go_simp⟩) hHeld ?_
              simp only [Act.put, List.setIfInBounds_toArray, List.set_cons_zero, List.set_cons_succ]
              refine wpAnyH_take (i := 6) (oi := ⟨some 59, .load 3 (.tmp 58), _, _, _, none⟩) (v := .int .i64 a.rd) rfl (by kernel_rfl) (by kernel_rfl) (by kernel_rfl) (fun _ _ _ h => h) (Or.inl ⟨by rfl, fun w hSw => by have e1 := hSw.2; clear hSw; go_simp⟩) hHeld ?_
              simp only [Act.put, List.setIfInBounds_toArray, List.set_cons_zero, List.set_cons_succ]
              refine wpAnyH_ready (rs := [7, 11]) (by kernel_rfl) (by simp) (AllReadyH.cons (o := ⟨some 60, .call { callee := .value (.func 13), args := #[.tmp 53, .tmp 54, .tmp 59], argTypes := #[25, 3, 3] }, _, _, _, none⟩) rfl (fun K' hK => ?_) (AllReadyH.cons (o := ⟨some 11, .alloc 25, _, _, _, none⟩) rfl (fun K' hK => ?_) AllReadyH.nil))
              · go_simp
                (with_reducible refine (KO.out _).mono ?_)
                rintro e v7 ⟨rfl, l1⟩
                replace b3 := b3.keep l1
                replace b7 := b7.keep l1
                replace b8 := b8.keep l1
                replace lw := Later.trans_ lw l1
                try replace bf := bf.keep l1
                refine hK.out _ _ ⟨(show World.rangeAt _ w.heap.size 0 y.cells from b3.range 0 13), HC2.out _ lw⟩ (fun hHeld => ?_)
                clear hK K'
                try simp only [Act.put, List.setIfInBounds_toArray, List.set_cons_zero, List.set_cons_succ]
                refine wpAnyH_take (i := 8) (oi := ⟨some 52, .move (.tmp 60), _, _, _, none⟩) (v := (.tuple #[.agg y.cells.toArray, .int .i64 E])) rfl (by kernel_rfl) (by kernel_rfl) (by kernel_rfl) (fun _ _ _ h => h) (Or.inl ⟨by rfl, fun _ _ => rfl⟩) hHeld ?_
                simp only [Act.put, List.setIfInBounds_toArray, List.set_cons_zero, List.set_cons_succ]
                refine wpAnyH_take (i := 9) (oi := ⟨some 61, .extract (.tmp 52) 0, _, _, _, none⟩) (v := .agg y.cells.toArray) rfl (by kernel_rfl) (by kernel_rfl) (by kernel_rfl) (fun _ _ _ h => h) (Or.inl ⟨by rfl, fun w _ => by go_simp⟩) hHeld ?_
                simp only [Act.put, List.setIfInBounds_toArray, List.set_cons_zero, List.set_cons_succ]
                refine wpAnyH_take (i := 10) (oi := ⟨some 62, .extract (.tmp 52) 1, _, _, _, none⟩) (v := .int .i64 E) rfl (by kernel_rfl) (by kernel_rfl) (by kernel_rfl) (fun _ _ _ h => h) (Or.inl ⟨by rfl, fun w _ => by go_simp⟩) hHeld ?_
                simp only [Act.put, List.setIfInBounds_toArray, List.set_cons_zero, List.set_cons_succ]
                refine wpAnyH_ready (rs := [11]) (by kernel_rfl) (by simp) (AllReadyH.cons (o := ⟨some 11, .alloc 25, _, _, _, none⟩) rfl (fun K' hK => ?_) AllReadyH.nil)
                go_simp
                have hgs : wr.heap.size ≤ v7.heap.size := (by first | exact Nat.le_refl _ | exact l1.size)
                have n3 := Nat.ne_of_lt b3.lt
                have n7 := Nat.ne_of_lt b7.lt
                have n8 := Nat.ne_of_lt b8.lt
                have m2 := lw.size
                have bf := Blk.new v7 25 zK.cells.toArray zK.cells rfl
                replace b3 := b3.alloc (.cells zK.cells.toArray 25)
                replace b7 := b7.alloc (.cells zK.cells.toArray 25)
                replace b8 := b8.alloc (.cells zK.cells.toArray 25)
                replace lw := lw.alloc m2 (.cells zK.cells.toArray 25)
                refine hK.out _ _ ⟨(show World.rangeAt _ w.heap.size 0 y.cells from b3.range 0 13), HC2.out _ lw⟩ (fun hHeld => ?_)
                clear hK K'
                try simp only [Act.put, List.setIfInBounds_toArray, List.set_cons_zero, List.set_cons_succ]
                refine wpAnyH_ready (rs := [12]) (by kernel_rfl) (by simp) (AllReadyH.cons (o := ⟨none, .store 25 (.tmp 11) (.tmp 61), _, _, _, none⟩) rfl (fun K' hK => ?_) AllReadyH.nil)
                refine wp_store_blk 25 _ _ rfl (v7.heap.size) 25 zK.cells y.cells rfl rfl bf (clk_sz _) rfl (clk_one _) ?_
                intro wq bq oq
                clear bf
                have bf := bq
                clear bq
                replace b3 := b3.only oq n3
                replace b7 := b7.only oq n7
                replace b8 := b8.only oq n8
                replace lw := Below.only lw oq m2
                clear oq
                refine hK.out _ _ ⟨(show World.rangeAt _ w.heap.size 0 y.cells from b3.range 0 13), HC2.out _ lw⟩ (fun hHeld => ?_)
                clear hK K'
                try simp only [Act.put]
                refine wpAnyH_take (i := 13) (oi := ⟨some 12, .assign (.tmp 62), _, _, _, none⟩) (v := .int .i64 E) rfl (by kernel_rfl) (by kernel_rfl) (by kernel_rfl) (fun _ _ _ h => h) (Or.inl ⟨by rfl, fun _ _ => rfl⟩) hHeld ?_
                simp only [Act.put, List.setIfInBounds_toArray, List.set_cons_zero, List.set_cons_succ]
                refine wpAnyH_done (by kernel_rfl) ?_ _
                clear hHeld
                go_wp2
                go_meet
                exact ⟨_, rfl, rfl, bf, hgs, b3, b7, b8, lw⟩
              · go_simp
                have hgs : wr.heap.size ≤ wr.heap.size := (by first | exact Nat.le_refl _ | exact l1.size)
                have n3 := Nat.ne_of_lt b3.lt
                have n7 := Nat.ne_of_lt b7.lt
                have n8 := Nat.ne_of_lt b8.lt
                have m2 := lw.size
                have bf := Blk.new wr.drew 25 zK.cells.toArray zK.cells rfl
                replace b3 := b3.alloc (.cells zK.cells.toArray 25)
                replace b7 := b7.alloc (.cells zK.cells.toArray 25)
                replace b8 := b8.alloc (.cells zK.cells.toArray 25)
                replace lw := lw.alloc m2 (.cells zK.cells.toArray 25)
                refine hK.out _ _ ⟨(show World.rangeAt _ w.heap.size 0 y.cells from b3.range 0 13), HC2.out _ lw⟩ (fun hHeld => ?_)
                clear hK K'
                try simp only [Act.put, List.setIfInBounds_toArray, List.set_cons_zero, List.set_cons_succ]
                refine wpAnyH_ready (rs := [7]) (by kernel_rfl) (by simp) (AllReadyH.cons (o := ⟨some 60, .call { callee := .value (.func 13), args := #[.tmp 53, .tmp 54, .tmp 59], argTypes := #[25, 3, 3] }, _, _, _, none⟩) rfl (fun K' hK => ?_) AllReadyH.nil)
                go_simp
                (with_reducible refine (KO.out _).mono ?_)
                rintro e v7 ⟨rfl, l1⟩
                replace b3 := b3.keep l1
                replace b7 := b7.keep l1
                replace b8 := b8.keep l1
                replace lw := Later.trans_ lw l1
                try replace bf := bf.keep l1
                refine hK.out _ _ ⟨(show World.rangeAt _ w.heap.size 0 y.cells from b3.range 0 13), HC2.out _ lw⟩ (fun hHeld => ?_)
                clear hK K'
                try simp only [Act.put, List.setIfInBounds_toArray, List.set_cons_zero, List.set_cons_succ]
                refine wpAnyH_take (i := 8) (oi := ⟨some 52, .move (.tmp 60), _, _, _, none⟩) (v := (.tuple #[.agg y.cells.toArray, .int .i64 E])) rfl (by kernel_rfl) (by kernel_rfl) (by kernel_rfl) (fun _ _ _ h => h) (Or.inl ⟨by rfl, fun _ _ => rfl⟩) hHeld ?_
                simp only [Act.put, List.setIfInBounds_toArray, List.set_cons_zero, List.set_cons_succ]
                refine wpAnyH_take (i := 9) (oi := ⟨some 61, .extract (.tmp 52) 0, _, _, _, none⟩) (v := .agg y.cells.toArray) rfl (by kernel_rfl) (by kernel_rfl) (by kernel_rfl) (fun _ _ _ h => h) (Or.inl ⟨by rfl, fun w _ => by go_simp⟩) hHeld ?_
                simp only [Act.put, List.setIfInBounds_toArray, List.set_cons_zero, List.set_cons_succ]
                refine wpAnyH_take (i := 10) (oi := ⟨some 62, .extract (.tmp 52) 1, _, _, _, none⟩) (v := .int .i64 E) rfl (by kernel_rfl) (by kernel_rfl) (by kernel_rfl) (fun _ _ _ h => h) (Or.inl ⟨by rfl, fun w _ => by go_simp⟩) hHeld ?_
                simp only [Act.put, List.setIfInBounds_toArray, List.set_cons_zero, List.set_cons_succ]
                refine wpAnyH_ready (rs := [12]) (by kernel_rfl) (by simp) (AllReadyH.cons (o := ⟨none, .store 25 (.tmp 11) (.tmp 61), _, _, _, none⟩) rfl (fun K' hK => ?_) AllReadyH.nil)
                refine wp_store_blk 25 _ _ rfl (wr.heap.size) 25 zK.cells y.cells rfl rfl bf (clk_sz _) rfl (clk_one _) ?_
                intro wq bq oq
                clear bf
                have bf := bq
                clear bq
                replace b3 := b3.only oq n3
                replace b7 := b7.only oq n7
                replace b8 := b8.only oq n8
                replace lw := Below.only lw oq m2
                clear oq
                refine hK.out _ _ ⟨(show World.rangeAt _ w.heap.size 0 y.cells from b3.range 0 13), HC2.out _ lw⟩ (fun hHeld => ?_)
                clear hK K'
                try simp only [Act.put]
                refine wpAnyH_take (i := 13) (oi := ⟨some 12, .assign (.tmp 62), _, _, _, none⟩) (v := .int .i64 E) rfl (by kernel_rfl) (by kernel_rfl) (by kernel_rfl) (fun _ _ _ h => h) (Or.inl ⟨by rfl, fun _ _ => rfl⟩) hHeld ?_
                simp only [Act.put, List.setIfInBounds_toArray, List.set_cons_zero, List.set_cons_succ]
                refine wpAnyH_done (by kernel_rfl) ?_ _
                clear hHeld
                go_wp2
                go_meet
                exact ⟨_, rfl, rfl, bf, hgs, b3, b7, b8, lw⟩
            case rest =>
              clear b3 b7 b8 lw c0 c1 c2
              obtain ⟨g, rfl, rfl, bf, hgs, b3, b7, b8, lw⟩ := hcut
              have g3 : g ≠ w.heap.size := by have := H3.out; omega
              have g7 : g ≠ w1.heap.size := by have := H7.out; omega
              have g8 : g ≠ u7.heap.size := by have := H8.out; omega
              clear hgs
              go_wp2_with (first
                | ((with_reducible refine wpList_load_blk (o := ⟨some 65, .load 25 (.tmp 11), _, _, _, none⟩) rfl _ _ rfl g 25 y.cells _ ?_ ?_ Try.underlying25 rfl (clk_sz _) ?_); rfl; exact bf)
                | ((with_reducible refine wpList_load_blk (o := ⟨some 66, .load 25 (.tmp 2), _, _, _, none⟩) rfl _ _ rfl w.heap.size 25 y.cells _ ?_ ?_ Try.underlying25 rfl (clk_sz _) ?_); rfl; exact b3))
              clear bf
              go_roundw
              case rel => exact ⟨j + 1, y, h, by omega, by go_num, rfl, HY.out, b3, b7, b8, lw⟩
              case measure => simp [intOf]; omega
        · have q0 : a.kd.tmod 2 = 1 := by rw [Int.tmod_eq_emod_of_nonneg HAW.out.kd.1]; omega
          clear r0
          have KE := Lib.hid fun w' => read_any y (k : Int) w'
          cases hyo : y.o k with
          | true =>
            have hE : y.readE (k : Int) = 0 := by unfold Clk.readE; rw [isC_nat hk4, off_nat y hk4, hyo]; rfl
            have hX : y.readC (k : Int) = { y with o := upd y.o k false, r := upd y.r k 0 } := by unfold Clk.readC; rw [if_pos hE, Int.toNat_natCast]
            have hV : y.readV (k : Int) = h k := by
              unfold Clk.readV
              rw [if_pos hE, Int.toNat_natCast, HY.out.2 k hk4 hyo]
              have h9 := HY.out.1.p k hk4
              have h8 := HY.out.1.l1
              unfold okP at h9
              rw [hyo, if_pos rfl] at h9
              unfold wr32
              rw [IntKind.wrap_u32]
              omega
            have hb : IntKind.i64.wrap (h k) = h k := by
              rw [HY.out.2 k hk4 hyo]
              have h9 := HY.out.1.p k hk4
              have h8 := HY.out.1.l1
              unfold okP at h9
              rw [hyo, if_pos rfl] at h9
              rw [IntKind.wrap_i64]
              omega
            have HFK := Lib.hid (HY.out.1.read (k : Int))
            have HYO := Lib.hid hyo
            obtain ⟨f, hf⟩ : ∃ f, f = y.readC (k : Int) := ⟨_, rfl⟩
            rw [hE, hV, ← hf] at KE
            rw [← hf] at HFK hX
            have HFO := Lib.hid (show f.o = upd y.o k false by rw [hX])
            have HFL := Lib.hid (show f.l = y.l by rw [hX])
            have HFR := Lib.hid (show f.r = upd y.r k 0 by rw [hX])
            clear hE hX hV hf hyo
            go_upto_region 23 with (first
              | ((with_reducible refine wpList_load_blk (o := ⟨some 92, .load 25 (.tmp 2), _, _, _, none⟩) rfl _ _ rfl w.heap.size 25 y.cells _ ?_ ?_ Try.underlying25 rfl (clk_sz _) ?_); rfl; exact b3)
              | (go_at_call 14; clear c0 c1 c2; (with_reducible refine (KE.out _).mono ?_); rintro e v7 ⟨rfl, l1⟩; replace b3 := b3.keep l1; replace b7 := b7.keep l1; replace b8 := b8.keep l1; replace lw := Later.trans_ lw l1)
              | ((with_reducible refine wpList_store_abs (o := ⟨none, .store 25 (.tmp 13) (.tmp 95), _, _, _, none⟩) rfl _ _ _ rfl v7.heap.size 25 zK.cells f.cells ?_ ?_ ?_ ?_ ?_ ?_ ?_); rfl; rfl; exact (Blk.new _ _ _ _ rfl); exact clk_sz _; rfl; exact clk_one _; have n3 := Nat.ne_of_lt b3.lt; have n7 := Nat.ne_of_lt b7.lt; have n8 := Nat.ne_of_lt b8.lt; have m2 := lw.size; intro uu bf ob; replace b3 := (b3.alloc (.cells zK.cells.toArray 25)).only ob n3; replace b7 := (b7.alloc (.cells zK.cells.toArray 25)).only ob n7; replace b8 := (b8.alloc (.cells zK.cells.toArray 25)).only ob n8; replace lw := Below.only (lw.alloc m2 (.cells zK.cells.toArray 25)) ob m2; clear ob m2))
            have g3 := Ne.symm n3
            have g7 := Ne.symm n7
            have g8 := Ne.symm n8
            clear n3 n7 n8
            have e8 := b8.cell (fourB_at y.o hk4)
            have e7 := b7.cell (four_at h hk4)
            rw [HYO.out] at e8
            obtain ⟨hk', hh⟩ : ∃ q, q = h k := ⟨_, rfl⟩
            go_upto_region 25 with fail
            clear e8 e7 hb hh
            go_wp2_with (first
              | ((with_reducible refine wpList_set1 (o := ⟨none, .store 4 (.tmp 117) (.const (.bool false)), _, _, _, none⟩) rfl _ _ _ rfl rfl u7.heap.size k 22 (fourB y.o) (.bool false) ?_ ?_ ?_ ?_ ?_ ?_ ?_); rfl; rfl; exact b8; exact b_sz; exact (show k < 4 from hk4); rfl; intro u21 bq oq; clear b8; have b8 := bq; rw [fourB_set _ hk4] at b8; clear bq; replace b3 := b3.only oq (Nat.ne_of_lt (Nat.lt_trans HN3.out HN7.out)); replace b7 := b7.only oq (Nat.ne_of_lt HN7.out); replace bf := bf.only oq g8; replace lw := Below.only lw oq (Nat.le_of_lt (Nat.lt_trans HN3.out HN7.out)); clear oq)
              | ((with_reducible refine wpList_load_blk (o := ⟨some 118, .load 25 (.tmp 13), _, _, _, none⟩) rfl _ _ rfl v7.heap.size 25 f.cells _ ?_ ?_ Try.underlying25 rfl (clk_sz _) ?_); rfl; exact bf)
              | ((with_reducible refine wpList_store_abs (o := ⟨none, .store 25 (.tmp 2) (.tmp 118), _, _, _, none⟩) rfl _ _ _ rfl w.heap.size 25 y.cells f.cells ?_ ?_ ?_ ?_ ?_ ?_ ?_); rfl; rfl; exact b3; exact clk_sz _; rfl; exact clk_one _; intro u22 bq oq; clear b3; have b3 := bq; clear bq; replace b7 := b7.only oq (Nat.ne_of_gt HN3.out); replace b8 := b8.only oq (Nat.ne_of_gt (Nat.lt_trans HN3.out HN7.out)); replace lw := Below.only lw oq (Nat.le_refl _); clear oq bf))
            rw [← HFO.out] at b8
            have HYY : f.Ok ∧ ∀ p, p < 4 → f.o p = true → h p = f.r p := ⟨HFK.out, fun p hp hop => by
              rw [HFR.out]
              rw [HFO.out] at hop
              by_cases e : p = k
              · rw [e, upd_at] at hop; cases hop
              · rw [upd_ne _ _ e] at hop ⊢
                exact HY.out.2 p hp hop⟩
            replace HYY := Lib.hid HYY
            go_roundw
            case rel => exact ⟨j + 1, f, h, by omega, by go_num, by rw [HFL.out], HYY.out, b3, b7, b8, lw⟩
            case measure => simp [intOf]; omega
          | false =>
            have hE : y.readE (k : Int) = 4 := by unfold Clk.readE; rw [isC_nat hk4, off_nat y hk4, hyo]; rfl
            have hX : y.readC (k : Int) = y := if_neg (by rw [hE]; decide)
            have hV : y.readV (k : Int) = 0 := if_neg (by rw [hE]; decide)
            rw [hE, hX, hV] at KE
            have HYO := Lib.hid hyo
            have HS1 := Lib.hid (show upd y.o k false = y.o by rw [← hyo, upd_same])
            clear hE hX hV hyo
            go_upto_region 23 with (first
              | ((with_reducible refine wpList_load_blk (o := ⟨some 92, .load 25 (.tmp 2), _, _, _, none⟩) rfl _ _ rfl w.heap.size 25 y.cells _ ?_ ?_ Try.underlying25 rfl (clk_sz _) ?_); rfl; exact b3)
              | (go_at_call 14; clear c0 c1 c2; (with_reducible refine (KE.out _).mono ?_); rintro e v7 ⟨rfl, l1⟩; replace b3 := b3.keep l1; replace b7 := b7.keep l1; replace b8 := b8.keep l1; replace lw := Later.trans_ lw l1)
              | ((with_reducible refine wpList_store_abs (o := ⟨none, .store 25 (.tmp 13) (.tmp 95), _, _, _, none⟩) rfl _ _ _ rfl v7.heap.size 25 zK.cells y.cells ?_ ?_ ?_ ?_ ?_ ?_ ?_); rfl; rfl; exact (Blk.new _ _ _ _ rfl); exact clk_sz _; rfl; exact clk_one _; have n3 := Nat.ne_of_lt b3.lt; have n7 := Nat.ne_of_lt b7.lt; have n8 := Nat.ne_of_lt b8.lt; have m2 := lw.size; intro uu bf ob; replace b3 := (b3.alloc (.cells zK.cells.toArray 25)).only ob n3; replace b7 := (b7.alloc (.cells zK.cells.toArray 25)).only ob n7; replace b8 := (b8.alloc (.cells zK.cells.toArray 25)).only ob n8; replace lw := Below.only (lw.alloc m2 (.cells zK.cells.toArray 25)) ob m2; clear ob m2))
            have g3 := Ne.symm n3
            have g7 := Ne.symm n7
            have g8 := Ne.symm n8
            clear n3 n7 n8
            have e8 := b8.cell (fourB_at y.o hk4)
            have e7 := b7.cell (four_at h hk4)
            rw [HYO.out] at e8
            go_upto_region 25 with fail
            clear e8 e7
            go_wp2_with (first
              | ((with_reducible refine wpList_set1 (o := ⟨none, .store 4 (.tmp 117) (.const (.bool false)), _, _, _, none⟩) rfl _ _ _ rfl rfl u7.heap.size k 22 (fourB y.o) (.bool false) ?_ ?_ ?_ ?_ ?_ ?_ ?_); rfl; rfl; exact b8; exact b_sz; exact (show k < 4 from hk4); rfl; intro u21 bq oq; clear b8; have b8 := bq; rw [fourB_set _ hk4] at b8; clear bq; replace b3 := b3.only oq (Nat.ne_of_lt (Nat.lt_trans HN3.out HN7.out)); replace b7 := b7.only oq (Nat.ne_of_lt HN7.out); replace bf := bf.only oq g8; replace lw := Below.only lw oq (Nat.le_of_lt (Nat.lt_trans HN3.out HN7.out)); clear oq)
              | ((with_reducible refine wpList_load_blk (o := ⟨some 118, .load 25 (.tmp 13), _, _, _, none⟩) rfl _ _ rfl v7.heap.size 25 y.cells _ ?_ ?_ Try.underlying25 rfl (clk_sz _) ?_); rfl; exact bf)
              | ((with_reducible refine wpList_store_abs (o := ⟨none, .store 25 (.tmp 2) (.tmp 118), _, _, _, none⟩) rfl _ _ _ rfl w.heap.size 25 y.cells y.cells ?_ ?_ ?_ ?_ ?_ ?_ ?_); rfl; rfl; exact b3; exact clk_sz _; rfl; exact clk_one _; intro u22 bq oq; clear b3; have b3 := bq; clear bq; replace b7 := b7.only oq (Nat.ne_of_gt HN3.out); replace b8 := b8.only oq (Nat.ne_of_gt (Nat.lt_trans HN3.out HN7.out)); replace lw := Below.only lw oq (Nat.le_refl _); clear oq bf))
            rw [HS1.out] at b8
            go_roundw
            case rel => exact ⟨j + 1, y, h, by omega, by go_num, rfl, HY.out, b3, b7, b8, lw⟩
            case measure => simp [intOf]; omega
      · obtain rfl : j = m := by omega
        have KV := Lib.hid fun w' => valid_any y true w' (by simp [HY.out.1])
        clear hjm hj b7 b8
        go_wp2_with (first
        | (go_at_call 12; (with_reducible refine (KS.out _).mono ?_); rintro e w8 ⟨rfl, l1⟩; replace b3 := b3.keep l1; replace lw := Later.trans_ lw l1)
        | ((with_reducible refine wpList_load_g (o := ⟨some 121, .load 25 (.tmp 2), _, _, _, _⟩) _ _ rfl w.heap.size 25 y.cells _ ?_ ?_ ?_ Try.underlying25 ?_ (clk_sz _) ?_); rfl; rfl; exact b3; rfl)
        | (go_at_call 11; (with_reducible refine (KV.out _).mono ?_); rintro e w9 ⟨rfl, l1⟩; replace b3 := b3.keep l1; replace lw := Later.trans_ lw l1; have e0 := b3.cell (clk_l y)))
        go_ret
        exact ⟨rfl, lw⟩

set_option maxRecDepth 100000 in
theorem clockNeverGoesBack_lifted (os : Os) (started : os.Started) (H : Type) (enc : TypeId × Value → H) :
    ReturnsInHanded {} Try.checked os 7 .any (Rows.clockNeverGoesBackSpec.pre6 enc Try.prog Try.f7 Rows.clockNeverGoesBackRow.domain false) (Rows.clockNeverGoesBackSpec.post enc Try.prog Try.f7 false true false false) := by
  refine returnsInHanded_of_change (C := Try.checked) ownK started (by kernel_rfl) Try.func7
    (ChangeSpec.witness6 (enc := enc) (C := Try.checked) false ⟨#[], #[.agg #[.int .i64 0, .bool false, .bool false, .bool false, .bool false, .int .i64 0, .int .i64 0, .int .i64 0, .int .i64 0, .int .i64 0, .int .i64 0, .int .i64 0, .int .i64 0], .slice none 0 0], []⟩ 8 (by kernel_rfl) (by kernel_rfl) (by kernel_rfl) (by kernel_rfl)) ?_
  intro W base args ds gs before hval0 hW hcnd _
  have hval : ∀ (j : Nat) t v, Try.f7.params[j]? = some t → args[j]? = some v → Value.okWide Try.prog W .any base t v := hval0
  have hW' := hW
  obtain ⟨p, q, hA0, hV, rfl, hfz, hnd⟩ := hW
  have hA : DataW.TrodAll enc Try.prog W 0 (fun _ => true) true Try.f7.params.toList args.toList ds p := hA0
  rw [Try.params7] at hA hval
  obtain ⟨v0, vs0, d0, ds0, p0, q0, hargs, rfl, rfl, h0, r0⟩ := trodAll_cons hA
  obtain ⟨v1, vs1, d1, ds1, p1, q1, rfl, rfl, rfl, h1, r1⟩ := trodAll_cons r0
  obtain ⟨rfl, rfl, rfl⟩ := trodAll_nil r1
  obtain rfl : args = #[v0, v1] := by cases args; simp_all
  obtain ⟨rfl, rfl⟩ := trodVars_none hV
  obtain ⟨a0, rfl, z0⟩ := clk_open (hval 0 25 v0 rfl rfl) h0
  obtain ⟨A1, n1, c1, l1, rfl, x1, y1, s1, hl1, z1⟩ := turns_open (hval 1 55 v1 rfl rfl) h1
  clear hA0 hval0
  simp only [List.append_nil] at hW'
  refine (never_all a0 A1 n1 c1 l1 W s1 hl1 z1).mono fun e W' ⟨he, hw⟩ => ?_
  subst he
  exact ⟨_, rfl, law_post laidK rfl (by kernel_rfl) (by kernel_rfl) Try.underlying4 (by kernel_rfl) hW' rfl hw⟩
set_option maxRecDepth 100000 in
/-- The statement. -/
theorem clockNeverGoesBack_said : Rows.ClockNeverGoesBackSaid :=
  OpenClaim.holds_of_wide 7 Try.f7 rfl rfl rfl rfl rfl rfl rfl ⟨rfl, rfl, rfl, rfl, rfl⟩ rfl rfl rfl rfl rfl (by kernel_rfl) Try.func7 (by kernel_rfl)
    (of_decide_eq_true (by kernel_rfl)) (by unfold Func.isWrapper; first | (rw [if_pos (by decide +kernel)]; kernel_rfl) | (rw [if_neg (by decide +kernel)]; exact ⟨rfl, rfl⟩))
    (fun os started H enc _ => clockNeverGoesBack_lifted os started H enc)
#print axioms clockNeverGoesBack_said
end Go.Proofs.Ytdohocbpjpnmeaa
