/-
  A CLOCK: Decode.
-/
import Derived.Test.YtdohocbpjpnmeaaCloP
import Derived.Deep.RegionHeld
namespace Go.Proofs.Ytdohocbpjpnmeaa
open Go.RowKit Go.ChangeShapes Go.WideShapes Go.ChangeAt

theorem add_posQ (q : Addr) {n : Nat} (h : n ≠ 0) : q.add n = ⟨q.block, q.off + n, none⟩ := by unfold Addr.add; rw [if_neg h]
theorem built_n (n : Int) : Try.prog.built 25 [(0, .int .i64 n)] = some (kN n).cells.toArray := by kernel_rfl
theorem run_n (n : Int) (w : World) : (Instr.build 25 #[(0, .int .i64 n)]).run Try.prog w = .ok (.agg (kN n).cells.toArray) w := run_build w _ _ _ (built_n n)
set_option maxRecDepth 100000 in
set_option maxHeartbeats 2000000 in
/-- Bytes that are no list, or of another length. -/
theorem dec_short (A : Option Addr) (n c : Nat) (b : Wm.Bs) (w : World) (hs : Sl w 1 A n (U b)) (hb : Wm.isBs b) (hnc : n ≤ c) (hn : c ≤ maxLen) (hsm : n ≤ 1000000) (l : List Int) (u : Nat) (e : Int) (hd : Wm.decL Wm.decI 1 b = (l, u, e)) (hbad : e ≠ 0 ∨ l.length ≠ 13) :
    Calls Try.prog 25 #[.slice A n c] w fun r w' => r = .returned (.tuple #[.agg zK.cells.toArray, .int .i64 11]) ∧ Later w w' := by
  have b2 := Blk.new w 25 zK.cells.toArray zK.cells rfl
  have lw := later1 w (.cells zK.cells.toArray 25)
  obtain ⟨u0, hu⟩ : ∃ u0, w.alloc (.cells zK.cells.toArray 25) = u0 := ⟨_, rfl⟩
  have hs0 := hs.alloc (.cells zK.cells.toArray 25)
  rw [hu] at b2 lw hs0
  have HG := Lib.hid (wireGetInts_any A n c b u0 hs0 hb hnc hn hsm)
  rw [hd] at HG
  clear hs0 hd hs hb hn hsm hnc
  by_cases he : e = 0
  · subst he
    have HL := Lib.hid (show l.length ≠ 13 from by rcases hbad with h | h; exact absurd rfl h; exact h)
    clear hbad
    go_enter Try.func25, Try.ntmps25
    go_upto_region 1 with fail
    have hu2 : w.alloc (.cells #[.int .i64 0, .bool false, .bool false, .bool false, .bool false, .int .i64 0, .int .i64 0, .int .i64 0, .int .i64 0, .int .i64 0, .int .i64 0, .int .i64 0, .int .i64 0] 25) = u0 := hu
    rw [hu2]
    clear hu hu2
    go_wp2_with (first
      | (go_at_call 36; refine (HG.out).mono ?_; rintro e w1 ⟨A2, n2, c2, rfl, g1, g2, s2, l1⟩; replace s2 : Sl w1 1 A2 n2 (N64 l) := s2; replace b2 := b2.keep l1; replace lw := Later.trans_ lw l1; have hnl : n2 ≠ 13 := (by have := s2.1; rw [N64_len] at this; have := HL.out; omega); have hnz : ((n2 : Int) != 13) = true := (by simp; omega); clear hnl s2)
      | ((with_reducible refine wpList_bld (o := ⟨some 23, .build 25 #[], _, _, _, none⟩) rfl _ #[] #[] zK.cells.toArray rfl ?_ (run_0 _) ?_); rfl)
      | ((with_reducible refine wpList_store_abs (o := ⟨none, .store 25 (.tmp 2) (.tmp 23), _, _, _, none⟩) rfl _ _ _ rfl w.heap.size 25 zK.cells zK.cells ?_ ?_ ?_ ?_ ?_ ?_ ?_); rfl; rfl; exact b2; exact clk_sz _; rfl; exact clk_one _; intro w9 b9 o9))
    exact bodyPost_ret (clk_ret2 Try.results25 _ _ w.heap.size zK (.int .i64 11) rfl rfl b9) rfl ⟨rfl, Below.only lw o9 (Nat.le_refl _)⟩
  · have hne : (e != 0) = true := by simpa using he
    clear hbad he
    go_enter Try.func25, Try.ntmps25
    go_upto_region 1 with fail
    have hu2 : w.alloc (.cells #[.int .i64 0, .bool false, .bool false, .bool false, .bool false, .int .i64 0, .int .i64 0, .int .i64 0, .int .i64 0, .int .i64 0, .int .i64 0, .int .i64 0, .int .i64 0] 25) = u0 := hu
    rw [hu2]
    clear hu hu2
    go_wp2_with (first
      | (go_at_call 36; refine (HG.out).mono ?_; rintro e w1 ⟨A2, n2, c2, rfl, g1, g2, s2, l1⟩; replace s2 : Sl w1 1 A2 n2 (N64 l) := s2; replace b2 := b2.keep l1; replace lw := Later.trans_ lw l1; clear s2)
      | ((with_reducible refine wpList_bld (o := ⟨some 23, .build 25 #[], _, _, _, none⟩) rfl _ #[] #[] zK.cells.toArray rfl ?_ (run_0 _) ?_); rfl)
      | ((with_reducible refine wpList_store_abs (o := ⟨none, .store 25 (.tmp 2) (.tmp 23), _, _, _, none⟩) rfl _ _ _ rfl w.heap.size 25 zK.cells zK.cells ?_ ?_ ?_ ?_ ?_ ?_ ?_); rfl; rfl; exact b2; exact clk_sz _; rfl; exact clk_one _; intro w9 b9 o9))
    exact bodyPost_ret (clk_ret2 Try.results25 _ _ w.heap.size zK (.int .i64 11) rfl rfl b9) rfl ⟨rfl, Below.only lw o9 (Nat.le_refl _)⟩
set_option maxRecDepth 100000 in
set_option maxHeartbeats 8000000 in
/-- Bytes that are a list of thirteen numbers. -/
theorem dec_long (A : Option Addr) (n c : Nat) (b : Wm.Bs) (w : World) (hs : Sl w 1 A n (U b)) (hb : Wm.isBs b) (hnc : n ≤ c) (hn : c ≤ maxLen) (hsm : n ≤ 1000000) (l : List Int) (u : Nat) (hd : Wm.decL Wm.decI 1 b = (l, u, 0)) (hl : l.length = 13) (V : Bool) (hV : V = true ↔ (ofL l).Ok) :
    Calls Try.prog 25 #[.slice A n c] w fun r w' => r = .returned (.tuple #[.agg (if V && decide (Wm.encL Wm.encI (ofL l).nums = b) then ofL l else zK).cells.toArray, .int .i64 (if V && decide (Wm.encL Wm.encI (ofL l).nums = b) then 0 else 11)]) ∧ Later w w' := by
  have b2 := Blk.new w 25 zK.cells.toArray zK.cells rfl
  have lw := later1 w (.cells zK.cells.toArray 25)
  obtain ⟨u0, hu⟩ : ∃ u0, w.alloc (.cells zK.cells.toArray 25) = u0 := ⟨_, rfl⟩
  have hs0 := hs.alloc (.cells zK.cells.toArray 25)
  rw [hu] at b2 lw hs0
  have HG := Lib.hid (wireGetInts_any A n c b u0 hs0 hb hnc hn hsm)
  rw [hd] at HG
  have hin : inR l := by have := decL_in hb; rw [hd] at this; exact this
  have hwf := ofL_wf hin
  have KV := Lib.hid fun w' => valid_any (ofL l) V w' hV
  have KE := Lib.hid fun w' => enc_any (ofL l) w' hwf
  have hbe : Wm.isBs (Wm.encL Wm.encI (ofL l).nums) := encLI_bytes _
  obtain ⟨D, hD⟩ : ∃ D, D = decide (Wm.encL Wm.encI (ofL l).nums = b) := ⟨_, rfl⟩
  have KQ := Lib.hid (fun A6 n6 c6 (w' : World) (h1 : Sl w' 1 A6 n6 (U (Wm.encL Wm.encI (ofL l).nums))) (h2 : Sl w' 1 A n (U b)) => (show Calls Try.prog 37 #[.slice A6 n6 c6, .slice A n c] w' fun e w'' => e = .returned (.bool D) ∧ w' = w'' from by rw [hD]; exact equal_any A6 A n6 c6 n c _ b w' h1 h2 hbe hb))
  rw [← hD]
  have lk := Lib.hid (fun (w' : World) (hl : Later w w') => hs.keep hl)
  have HHS := Lib.hid fun k => half_s l k
  have HH0 := Lib.hid (half_0 l)
  have HL13 := Lib.hid hl
  have HX4 : half l 4 = ofL l := rfl
  obtain ⟨X, hX⟩ : ∃ X, X = ofL l := ⟨_, rfl⟩
  rw [← hX] at KV KE KQ HX4 ⊢
  replace HX4 := Lib.hid HX4
  obtain ⟨EB, hEB⟩ : ∃ EB, EB = Wm.encL Wm.encI X.nums := ⟨_, rfl⟩
  rw [← hEB] at KE KQ
  clear hX hEB hD hbe hs0 hd hs hb hn hsm hnc hin hwf hV hl
  go_enter Try.func25, Try.ntmps25
  go_upto_region 1 with fail
  have hu2 : w.alloc (.cells #[.int .i64 0, .bool false, .bool false, .bool false, .bool false, .int .i64 0, .int .i64 0, .int .i64 0, .int .i64 0, .int .i64 0, .int .i64 0, .int .i64 0, .int .i64 0] 25) = u0 := hu
  rw [hu2]
  clear hu hu2
  go_upto_region 4 with (go_at_call 36; refine (HG.out).mono ?_; rintro e w1 ⟨A2, n2, c2, rfl, g1, g2, s2, l1⟩; replace s2 : Sl w1 1 A2 n2 (N64 l) := s2; replace b2 := b2.keep l1; replace lw := Later.trans_ lw l1; obtain rfl : n2 = 13 := (by have := s2.1; rw [N64_len, HL13.out] at this; omega))
  obtain ⟨ad, hA2, hadb, hcell⟩ := s2.2 (by omega)
  subst hA2
  have HC := Lib.hid (fun (w' : World) (hl : Later w1 w') => (show True ∧ ∀ (j : Nat) (v : Value), (N64 l)[j]? = some v → w'.cell? (ad.add j) = some v from by
    have h9 := s2.keep hl
    obtain ⟨ad2, e2, _, hc2⟩ := h9.2 (by omega)
    cases e2
    exact ⟨trivial, hc2⟩))
  have HGD := Lib.hid (fun (j : Nat) (hj : j < 13) => (show (N64 l)[j]? = some (.int .i64 (l.getD j 0)) from by
    rw [N64, List.getElem?_map, List.getD_eq_getElem?_getD, List.getElem?_eq_getElem (by rw [HL13.out]; exact hj)]; rfl))
  have lw0 := lw
  replace lw := later0 w1
  have B2K := Lib.hid (fun (w' : World) (hl : Later w1 w') => b2.keep hl)
  have LWK := Lib.hid (fun (w' : World) (hl : Later w1 w') => Later.trans_ lw0 hl)
  clear hcell s2 b2 lw0 l1 hadb HG
  obtain ⟨y0, hy0⟩ : ∃ y, y = l.getD 0 0 := ⟨_, rfl⟩
  have ec : w1.cell? ad = some (.int .i64 y0) := by
    have := (HC.out _ lw).2 0 _ (HGD.out 0 (by omega))
    rw [hy0]
    rwa [show ad.add 0 = ad from by unfold Addr.add; rw [if_pos rfl]] at this
  have HY0 := Lib.hid hy0
  clear hy0
  go_wp2_with (first
    | ((with_reducible refine wpList_bld (o := ⟨some 27, .build 25 #[(0, .tmp 26)], _, _, _, none⟩) rfl _ #[(0, .tmp 26)] #[(0, .int .i64 y0)] (kN y0).cells.toArray rfl ?_ (run_n y0 _) ?_); rfl)
    | ((with_reducible refine wpList_store_abs (o := ⟨none, .store 25 (.tmp 7) (.tmp 27), _, _, _, none⟩) rfl _ _ _ rfl w1.heap.size 25 zK.cells (kN y0).cells ?_ ?_ ?_ ?_ ?_ ?_ ?_); rfl; rfl; exact (Blk.new _ _ _ _ rfl); exact clk_sz _; rfl; exact clk_one _; intro w2 b7 o7; clear ec; replace lw := Below.only (lw.alloc lw.size (.cells zK.cells.toArray 25)) o7 lw.size; clear o7))
  replace b7 : Blk w2 w1.heap.size 25 (half l 0).cells := by rw [HH0.out, ← HY0.out]; exact b7
  go_loopw [28] (fun i wr => ∃ k : Nat, k ≤ 4 ∧ i = .int .i64 k ∧ Blk wr w1.heap.size 25 (half l k).cells ∧ Later w1 wr) (fun i _ => 4 - (intOf i).toNat)
  case atStart => exact ⟨0, by omega, rfl, b7, lw⟩
  case round =>
    clear b7 lw
    obtain ⟨k, hk, rfl, b7, lw⟩ := hrel
    by_cases hlt : k < 4
    · have hkn : (k : Int) < 4 := by omega
      have hk0 : (0 : Int) ≤ k := by omega
      obtain ⟨q, hq⟩ : ∃ q : Nat, q = 1 + k * 3 := ⟨_, rfl⟩
      have a1 : IntKind.i64.wrap ((k : Int) * 3) = (k : Int) * 3 := by rw [IntKind.wrap_i64]; omega
      have a2 : IntKind.i64.wrap (1 + (k : Int) * 3) = (q : Int) := by rw [IntKind.wrap_i64]; omega
      have q13 : q + 2 < 13 := by omega
      have q0 : (0 : Int) ≤ (q : Int) := by omega
      have q1 : (q : Int) ≤ 13 := by omega
      have q2 : (2 : Int) < ((13 - q : Nat) : Int) := by omega
      have q3 : (1 : Int) < ((13 - q : Nat) : Int) := by omega
      have q4 : (0 : Int) < ((13 - q : Nat) : Int) := by omega
      have q5 : ¬ c2 = q := by omega
      have q7 : ¬ 13 - q = 0 := by omega
      have q6 : (q : Int) ≤ (c2 : Int) := by omega
      obtain ⟨y1, hy1⟩ : ∃ y, y = l.getD q 0 := ⟨_, rfl⟩
      obtain ⟨y2, hy2⟩ : ∃ y, y = l.getD (q + 1) 0 := ⟨_, rfl⟩
      obtain ⟨y3, hy3⟩ : ∃ y, y = l.getD (q + 2) 0 := ⟨_, rfl⟩
      obtain ⟨z, hz⟩ : ∃ z, (y1 == 1) = z := ⟨_, rfl⟩
      have HQ := Lib.hid (fun (w' : World) (hl : Later w1 w') => (show w'.cell? (ad.add q) = some (.int .i64 y1) ∧ w'.cell? ⟨(ad.add q).block, (ad.add q).off + 1, none⟩ = some (.int .i64 y2) ∧ w'.cell? ⟨(ad.add q).block, (ad.add q).off + 2, none⟩ = some (.int .i64 y3) from by
        rw [← add_posQ (ad.add q) (n := 1) (by decide), ← add_posQ (ad.add q) (n := 2) (by decide), addr_add_add, addr_add_add, hy1, hy2, hy3]
        exact ⟨(HC.out _ hl).2 q _ (HGD.out q (by omega)), (HC.out _ hl).2 (q + 1) _ (HGD.out (q + 1) (by omega)), (HC.out _ hl).2 (q + 2) _ (HGD.out (q + 2) (by omega))⟩))
      have HN : ({ ({ ({ half l k with o := upd (half l k).o k z } : Clk) with r := upd (half l k).r k y2 } : Clk) with a := upd (half l k).a k y3 } : Clk) = half l (k + 1) := by
        have hz2 : z = decide (l.getD (1 + k * 3) 0 = 1) := by rw [← hz, hy1, hq]; rfl
        rw [hz2, hy2, hy3, hq]
        exact HHS.out k
      replace HN := Lib.hid HN
      clear hy1 hy2 hy3 hq
      go_upto_region 9 with fail
      replace b7 := b7.drew
      replace lw := lw.drew
      refine wp_region_held_drew (S := fun w' => w'.cell? (ad.add q) = some (.int .i64 y1) ∧ w'.cell? ⟨(ad.add q).block, (ad.add q).off + 1, none⟩ = some (.int .i64 y2) ∧ w'.cell? ⟨(ad.add q).block, (ad.add q).off + 2, none⟩ = some (.int .i64 y3)) (by kernel_rfl) (HQ.out _ lw) (fun hHeld => ?_)
      refine wpAnyH_take (i := 0) (oi := ⟨some 36, .move (.tmp 8), _, _, _, none⟩) (v := .int .i64 (k : Int)) rfl (by kernel_rfl) (by kernel_rfl) (by kernel_rfl) (fun _ _ _ h => h) (Or.inl ⟨by rfl, fun _ _ => rfl⟩) hHeld ?_
      simp only [Act.put, List.setIfInBounds_toArray, List.set_cons_zero, List.set_cons_succ]
      refine wpAnyH_take (i := 1) (oi := ⟨some 37, .move (.tmp 8), _, _, _, none⟩) (v := .int .i64 (k : Int)) rfl (by kernel_rfl) (by kernel_rfl) (by kernel_rfl) (fun _ _ _ h => h) (Or.inl ⟨by rfl, fun _ _ => rfl⟩) hHeld ?_
      simp only [Act.put, List.setIfInBounds_toArray, List.set_cons_zero, List.set_cons_succ]
      refine wpAnyH_take (i := 2) (oi := ⟨some 38, .move (.tmp 8), _, _, _, none⟩) (v := .int .i64 (k : Int)) rfl (by kernel_rfl) (by kernel_rfl) (by kernel_rfl) (fun _ _ _ h => h) (Or.inl ⟨by rfl, fun _ _ => rfl⟩) hHeld ?_
      simp only [Act.put, List.setIfInBounds_toArray, List.set_cons_zero, List.set_cons_succ]
      refine wpAnyH_take (i := 3) (oi := ⟨some 39, .move (.tmp 9), _, _, _, none⟩) (v := .slice (some (ad.add q)) (13 - q) (c2 - q)) rfl (by kernel_rfl) (by kernel_rfl) (by kernel_rfl) (fun _ _ _ h => h) (Or.inl ⟨by rfl, fun _ _ => rfl⟩) hHeld ?_
      simp only [Act.put, List.setIfInBounds_toArray, List.set_cons_zero, List.set_cons_succ]
      refine wpAnyH_take (i := 4) (oi := ⟨some 40, .indexAddr 68 (.tmp 39) (.const (.int .i64 0)), _, _, _, none⟩) (v := .pointer (some (ad.add q))) rfl (by kernel_rfl) (by kernel_rfl) (by kernel_rfl) (fun _ _ _ h => h) (Or.inl ⟨by rfl, fun w _ => by go_simp⟩) hHeld ?_
      simp only [Act.put, List.setIfInBounds_toArray, List.set_cons_zero, List.set_cons_succ]
      refine wpAnyH_take (i := 5) (oi := ⟨some 41, .load 3 (.tmp 40), _, _, _, none⟩) (v := .int .i64 y1) rfl (by kernel_rfl) (by kernel_rfl) (by kernel_rfl) (fun _ _ _ h => h) (Or.inl ⟨by rfl, fun w hSw => by have e1 := hSw.1; clear hSw; go_simp⟩) hHeld ?_
      simp only [Act.put, List.setIfInBounds_toArray, List.set_cons_zero, List.set_cons_succ]
      refine wpAnyH_take (i := 6) (oi := ⟨some 42, .binOp .eql 3 (.tmp 41) (.const (.int .i64 1)) 3, _, _, _, none⟩) (v := .bool z) rfl (by kernel_rfl) (by kernel_rfl) (by kernel_rfl) (fun _ _ _ h => h) (Or.inl ⟨by rfl, fun w _ => by go_simp⟩) hHeld ?_
      simp only [Act.put, List.setIfInBounds_toArray, List.set_cons_zero, List.set_cons_succ]
      refine wpAnyH_take (i := 7) (oi := ⟨some 43, .move (.tmp 9), _, _, _, none⟩) (v := .slice (some (ad.add q)) (13 - q) (c2 - q)) rfl (by kernel_rfl) (by kernel_rfl) (by kernel_rfl) (fun _ _ _ h => h) (Or.inl ⟨by rfl, fun _ _ => rfl⟩) hHeld ?_
      simp only [Act.put, List.setIfInBounds_toArray, List.set_cons_zero, List.set_cons_succ]
      refine wpAnyH_take (i := 8) (oi := ⟨some 44, .indexAddr 68 (.tmp 43) (.const (.int .i64 1)), _, _, _, none⟩) (v := .pointer (some ((ad.add q).add 1))) rfl (by kernel_rfl) (by kernel_rfl) (by kernel_rfl) (fun _ _ _ h => h) (Or.inl ⟨by rfl, fun w _ => by go_simp⟩) hHeld ?_
      simp only [Act.put, List.setIfInBounds_toArray, List.set_cons_zero, List.set_cons_succ]
      refine wpAnyH_take (i := 9) (oi := ⟨some 45, .load 3 (.tmp 44), _, _, _, none⟩) (v := .int .i64 y2) rfl (by kernel_rfl) (by kernel_rfl) (by kernel_rfl) (fun _ _ _ h => h) (Or.inl ⟨by rfl, fun w hSw => by have e1 := hSw.2.1; clear hSw; go_simp⟩) hHeld ?_
      simp only [Act.put, List.setIfInBounds_toArray, List.set_cons_zero, List.set_cons_succ]
      refine wpAnyH_take (i := 10) (oi := ⟨some 46, .move (.tmp 9), _, _, _, none⟩) (v := .slice (some (ad.add q)) (13 - q) (c2 - q)) rfl (by kernel_rfl) (by kernel_rfl) (by kernel_rfl) (fun _ _ _ h => h) (Or.inl ⟨by rfl, fun _ _ => rfl⟩) hHeld ?_
      simp only [Act.put, List.setIfInBounds_toArray, List.set_cons_zero, List.set_cons_succ]
      refine wpAnyH_take (i := 11) (oi := ⟨some 47, .indexAddr 68 (.tmp 46) (.const (.int .i64 2)), _, _, _, none⟩) (v := .pointer (some ((ad.add q).add 2))) rfl (by kernel_rfl) (by kernel_rfl) (by kernel_rfl) (fun _ _ _ h => h) (Or.inl ⟨by rfl, fun w _ => by go_simp⟩) hHeld ?_
      simp only [Act.put, List.setIfInBounds_toArray, List.set_cons_zero, List.set_cons_succ]
      refine wpAnyH_take (i := 12) (oi := ⟨some 48, .load 3 (.tmp 47), _, _, _, none⟩) (v := .int .i64 y3) rfl (by kernel_rfl) (by kernel_rfl) (by kernel_rfl) (fun _ _ _ h => h) (Or.inl ⟨by rfl, fun w hSw => by have e1 := hSw.2.2; clear hSw; go_simp⟩) hHeld ?_
      simp only [Act.put, List.setIfInBounds_toArray, List.set_cons_zero, List.set_cons_succ]
      refine wpAnyH_take (i := 13) (oi := ⟨some 49, .fieldAddr 25 (.tmp 7) 1, _, _, _, none⟩) (v := .pointer (some ⟨w1.heap.size, 1, none⟩)) rfl (by kernel_rfl) (by kernel_rfl) (by kernel_rfl) (fun _ _ _ h => h) (Or.inl ⟨by rfl, fun w _ => by go_simp⟩) hHeld ?_
      simp only [Act.put, List.setIfInBounds_toArray, List.set_cons_zero, List.set_cons_succ]
      refine wpAnyH_take (i := 14) (oi := ⟨some 50, .indexAddr 22 (.tmp 49) (.tmp 36), _, _, _, none⟩) (v := .pointer (some ⟨w1.heap.size, 1 + k, none⟩)) rfl (by kernel_rfl) (by kernel_rfl) (by kernel_rfl) (fun _ _ _ h => h) (Or.inl ⟨by rfl, fun w _ => by go_simp⟩) hHeld ?_
      simp only [Act.put, List.setIfInBounds_toArray, List.set_cons_zero, List.set_cons_succ]
      refine wpAnyH_take (i := 16) (oi := ⟨some 51, .fieldAddr 25 (.tmp 7) 2, _, _, _, none⟩) (v := .pointer (some ⟨w1.heap.size, 5, none⟩)) rfl (by kernel_rfl) (by kernel_rfl) (by kernel_rfl) (fun _ _ _ h => h) (Or.inl ⟨by rfl, fun w _ => by go_simp⟩) hHeld ?_
      simp only [Act.put, List.setIfInBounds_toArray, List.set_cons_zero, List.set_cons_succ]
      refine wpAnyH_take (i := 19) (oi := ⟨some 53, .fieldAddr 25 (.tmp 7) 3, _, _, _, none⟩) (v := .pointer (some ⟨w1.heap.size, 9, none⟩)) rfl (by kernel_rfl) (by kernel_rfl) (by kernel_rfl) (fun _ _ _ h => h) (Or.inl ⟨by rfl, fun w _ => by go_simp⟩) hHeld ?_
      simp only [Act.put, List.setIfInBounds_toArray, List.set_cons_zero, List.set_cons_succ]
      refine wpAnyH_ready (rs := [15]) (by kernel_rfl) (by simp) (AllReadyH.cons (o := ⟨none, .store 4 (.tmp 50) (.tmp 42), _, _, _, none⟩) rfl (fun K' hK => ?_) (AllReadyH.nil))
      refine wp_set1 4 _ _ rfl rfl w1.heap.size (1 + k) 25 (half l k : Clk).cells (.bool z) rfl rfl b7 b_sz (show 1 + k < 13 by omega) rfl ?_
      intro wq bq oq
      clear b7
      have b7 := bq
      rw [set_o _ hlt] at b7
      clear bq
      replace lw := Below.only lw oq (Nat.le_refl _)
      clear oq
      refine hK.out _ _ (HQ.out _ lw) (fun hHeld => ?_)
      clear hK K'
      try simp only [Act.put]
      refine wpAnyH_take (i := 17) (oi := ⟨some 52, .indexAddr 23 (.tmp 51) (.tmp 37), _, _, _, none⟩) (v := .pointer (some ⟨w1.heap.size, 5 + k, none⟩)) rfl (by kernel_rfl) (by kernel_rfl) (by kernel_rfl) (fun _ _ _ h => h) (Or.inl ⟨by rfl, fun w _ => by go_simp⟩) hHeld ?_
      simp only [Act.put, List.setIfInBounds_toArray, List.set_cons_zero, List.set_cons_succ]
      refine wpAnyH_ready (rs := [18]) (by kernel_rfl) (by simp) (AllReadyH.cons (o := ⟨none, .store 3 (.tmp 52) (.tmp 45), _, _, _, none⟩) rfl (fun K' hK => ?_) (AllReadyH.nil))
      refine wp_set1 3 _ _ rfl rfl w1.heap.size (5 + k) 25 ({ half l k with o := upd (half l k).o k z } : Clk).cells (.int .i64 y2) rfl rfl b7 i_sz (show 5 + k < 13 by omega) rfl ?_
      intro wq bq oq
      clear b7
      have b7 := bq
      rw [set_r _ hlt] at b7
      clear bq
      replace lw := Below.only lw oq (Nat.le_refl _)
      clear oq
      refine hK.out _ _ (HQ.out _ lw) (fun hHeld => ?_)
      clear hK K'
      try simp only [Act.put]
      refine wpAnyH_take (i := 20) (oi := ⟨some 54, .indexAddr 23 (.tmp 53) (.tmp 38), _, _, _, none⟩) (v := .pointer (some ⟨w1.heap.size, 9 + k, none⟩)) rfl (by kernel_rfl) (by kernel_rfl) (by kernel_rfl) (fun _ _ _ h => h) (Or.inl ⟨by rfl, fun w _ => by go_simp⟩) hHeld ?_
      simp only [Act.put, List.setIfInBounds_toArray, List.set_cons_zero, List.set_cons_succ]
      refine wpAnyH_ready (rs := [21]) (by kernel_rfl) (by simp) (AllReadyH.cons (o := ⟨none, .store 3 (.tmp 54) (.tmp 48), _, _, _, none⟩) rfl (fun K' hK => ?_) (AllReadyH.nil))
      refine wp_set1 3 _ _ rfl rfl w1.heap.size (9 + k) 25 ({ ({ half l k with o := upd (half l k).o k z } : Clk) with r := upd (half l k).r k y2 } : Clk).cells (.int .i64 y3) rfl rfl b7 i_sz (show 9 + k < 13 by omega) rfl ?_
      intro wq bq oq
      clear b7
      have b7 := bq
      rw [set_a _ hlt] at b7
      clear bq
      replace lw := Below.only lw oq (Nat.le_refl _)
      clear oq
      refine hK.out _ _ (HQ.out _ lw) (fun hHeld => ?_)
      clear hK K'
      try simp only [Act.put]
      refine wpAnyH_done (by kernel_rfl) ?_ _
      clear hHeld
      replace b7 : Blk wq w1.heap.size 25 (half l (k + 1)).cells := by rw [← HN.out]; exact b7
      clear HN HQ hz
      go_wp2
      go_roundw
      case rel => exact ⟨k + 1, by omega, by go_num, b7, lw⟩
      case measure => simp [intOf]; omega
    · obtain rfl : k = 4 := by omega
      clear hlt hk
      rw [HX4.out] at b7
      cases V with
      | false =>
        go_wp2_with (first
          | ((with_reducible refine wpList_load_blk (o := ⟨some 56, .load 25 (.tmp 7), _, _, _, none⟩) rfl _ _ rfl w1.heap.size 25 X.cells _ ?_ ?_ Try.underlying25 rfl (clk_sz _) ?_); rfl; exact b7)
          | (go_at_call 11; (with_reducible refine (KV.out _).mono ?_); rintro e w5 ⟨rfl, l5⟩; replace lw := Later.trans_ lw l5; have b2 := B2K.out _ lw; have lw2 := LWK.out _ lw)
          | ((with_reducible refine wpList_bld (o := ⟨some 66, .build 25 #[], _, _, _, none⟩) rfl _ #[] #[] zK.cells.toArray rfl ?_ (run_0 _) ?_); rfl)
          | ((with_reducible refine wpList_store_abs (o := ⟨none, .store 25 (.tmp 2) (.tmp 66), _, _, _, none⟩) rfl _ _ _ rfl w.heap.size 25 zK.cells zK.cells ?_ ?_ ?_ ?_ ?_ ?_ ?_); rfl; rfl; exact b2; exact clk_sz _; rfl; exact clk_one _; intro w9 b9 o9))
        exact bodyPost_ret (clk_ret2 Try.results25 _ _ w.heap.size zK (.int .i64 11) rfl rfl b9) rfl ⟨rfl, Below.only lw2 o9 (Nat.le_refl _)⟩
      | true =>
        cases D with
        | false =>
          go_wp2_with (first
            | ((with_reducible refine wpList_load_blk (o := ⟨some 56, .load 25 (.tmp 7), _, _, _, none⟩) rfl _ _ rfl w1.heap.size 25 X.cells _ ?_ ?_ Try.underlying25 rfl (clk_sz _) ?_); rfl; exact b7)
            | (go_at_call 11; (with_reducible refine (KV.out _).mono ?_); rintro e w5 ⟨rfl, l5⟩; replace b7 := b7.keep l5; replace lw := Later.trans_ lw l5)
            | ((with_reducible refine wpList_load_g (o := ⟨some 60, .load 25 (.tmp 7), _, _, _, _⟩) _ _ rfl w1.heap.size 25 X.cells _ ?_ ?_ ?_ Try.underlying25 ?_ (clk_sz _) ?_); rfl; rfl; exact b7; rfl)
            | (go_at_call 27; refine (KE.out _).mono ?_; rintro e w6 ⟨A6, n6, c6, rfl, _, _, rfl, s6, l6⟩; replace lw := Later.trans_ lw l6; have b2 := B2K.out _ lw; have lw2 := LWK.out _ lw)
            | (go_at_call 37; refine (KQ.out A6 _ c6 _ s6 (lk.out _ lw2)).mono ?_; rintro e w7 ⟨rfl, rfl⟩)
            | ((with_reducible refine wpList_bld (o := ⟨some 66, .build 25 #[], _, _, _, none⟩) rfl _ #[] #[] zK.cells.toArray rfl ?_ (run_0 _) ?_); rfl)
            | ((with_reducible refine wpList_store_abs (o := ⟨none, .store 25 (.tmp 2) (.tmp 66), _, _, _, none⟩) rfl _ _ _ rfl w.heap.size 25 zK.cells zK.cells ?_ ?_ ?_ ?_ ?_ ?_ ?_); rfl; rfl; exact b2; exact clk_sz _; rfl; exact clk_one _; intro w9 b9 o9))
          exact bodyPost_ret (clk_ret2 Try.results25 _ _ w.heap.size zK (.int .i64 11) rfl rfl b9) rfl ⟨rfl, Below.only lw2 o9 (Nat.le_refl _)⟩
        | true =>
          go_wp2_with (first
            | ((with_reducible refine wpList_load_blk (o := ⟨some 56, .load 25 (.tmp 7), _, _, _, none⟩) rfl _ _ rfl w1.heap.size 25 X.cells _ ?_ ?_ Try.underlying25 rfl (clk_sz _) ?_); rfl; exact b7)
            | (go_at_call 11; (with_reducible refine (KV.out _).mono ?_); rintro e w5 ⟨rfl, l5⟩; replace b7 := b7.keep l5; replace lw := Later.trans_ lw l5)
            | ((with_reducible refine wpList_load_g (o := ⟨some 60, .load 25 (.tmp 7), _, _, _, _⟩) _ _ rfl w1.heap.size 25 X.cells _ ?_ ?_ ?_ Try.underlying25 ?_ (clk_sz _) ?_); rfl; rfl; exact b7; rfl)
            | (go_at_call 27; refine (KE.out _).mono ?_; rintro e w6 ⟨A6, n6, c6, rfl, _, _, rfl, s6, l6⟩; replace b7 := b7.keep l6; replace lw := Later.trans_ lw l6; have b2 := B2K.out _ lw; have lw2 := LWK.out _ lw)
            | (go_at_call 37; refine (KQ.out A6 _ c6 _ s6 (lk.out _ lw2)).mono ?_; rintro e w7 ⟨rfl, rfl⟩)
            | ((with_reducible refine wpList_load_blk (o := ⟨some 67, .load 25 (.tmp 7), _, _, _, none⟩) rfl _ _ rfl w1.heap.size 25 X.cells _ ?_ ?_ Try.underlying25 rfl (clk_sz _) ?_); rfl; exact b7)
            | ((with_reducible refine wpList_store_abs (o := ⟨none, .store 25 (.tmp 2) (.tmp 67), _, _, _, none⟩) rfl _ _ _ rfl w.heap.size 25 zK.cells X.cells ?_ ?_ ?_ ?_ ?_ ?_ ?_); rfl; rfl; exact b2; exact clk_sz _; rfl; exact clk_one _; intro w9 b9 o9))
          exact bodyPost_ret (clk_ret2 Try.results25 _ _ w.heap.size X (.int .i64 0) rfl rfl b9) rfl ⟨rfl, Below.only lw2 o9 (Nat.le_refl _)⟩
theorem dec_any (A : Option Addr) (n c : Nat) (b : Wm.Bs) (w : World) (hs : Sl w 1 A n (U b)) (hb : Wm.isBs b) (hnc : n ≤ c) (hn : c ≤ maxLen) (hsm : n ≤ 1000000) (l : List Int) (u : Nat) (e : Int) (hd : Wm.decL Wm.decI 1 b = (l, u, e)) :
    (okD b l e → Calls Try.prog 25 #[.slice A n c] w fun r w' => r = .returned (.tuple #[.agg (ofL l).cells.toArray, .int .i64 0]) ∧ Later w w') ∧ (¬ okD b l e → Calls Try.prog 25 #[.slice A n c] w fun r w' => r = .returned (.tuple #[.agg zK.cells.toArray, .int .i64 11]) ∧ Later w w') := by
  by_cases hbad : e ≠ 0 ∨ l.length ≠ 13
  · refine ⟨fun h => ?_, fun _ => dec_short A n c b w hs hb hnc hn hsm l u e hd hbad⟩
    rcases hbad with g | g
    · exact absurd h.1 g
    · exact absurd h.2.1 g
  · obtain rfl : e = 0 := by
      rcases Decidable.em (e = 0) with h | h
      · exact h
      · exact absurd (Or.inl h) hbad
    have hl : l.length = 13 := by
      rcases Decidable.em (l.length = 13) with h | h
      · exact h
      · exact absurd (Or.inr h) hbad
    refine ⟨fun h => ?_, fun h => ?_⟩
    · have h9 := dec_long A n c b w hs hb hnc hn hsm l u hd hl true (by simp [h.2.2.1])
      rw [decide_eq_true h.2.2.2] at h9
      exact h9
    · by_cases hok : (ofL l).Ok
      · have h9 := dec_long A n c b w hs hb hnc hn hsm l u hd hl true (by simp [hok])
        rw [decide_eq_false (fun h2 => h ⟨rfl, hl, hok, h2⟩)] at h9
        exact h9
      · have h9 := dec_long A n c b w hs hb hnc hn hsm l u hd hl false (by simp [hok])
        exact h9
end Go.Proofs.Ytdohocbpjpnmeaa
