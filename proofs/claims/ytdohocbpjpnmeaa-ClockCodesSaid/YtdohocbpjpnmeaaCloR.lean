/-
  A CLOCK: the reference's Decode.
-/
import Derived.Test.YtdohocbpjpnmeaaCloQ
import Derived.Deep.RegionHeld
namespace Go.Proofs.Ytdohocbpjpnmeaa
open Go.RowKit Go.ChangeShapes Go.WideShapes Go.ChangeAt

set_option maxRecDepth 100000 in
set_option maxHeartbeats 2000000 in
/-- Bytes that are no list, or of another length, or with bytes behind. -/
theorem rdec_short (A : Option Addr) (n c : Nat) (b : Wm.Bs) (w : World) (hs : Sl w 1 A n (U b)) (hb : Wm.isBs b) (hnc : n ≤ c) (hn : c ≤ maxLen) (hsm : n ≤ 1000000) (l : List Int) (u : Nat) (e : Int) (hd : Wm.decL Wm.decI 1 b = (l, u, e)) (hbad : e ≠ 0 ∨ u ≠ n ∨ l.length ≠ 13) :
    Calls Try.prog 26 #[.slice A n c] w fun r w' => r = .returned (.agg (gotC zK 0 false 11).toArray) ∧ Later w w' := by
  have b2 := Blk.new w 35 (gotC zK 0 false 0).toArray (gotC zK 0 false 0) rfl
  have lw := later1 w (.cells (gotC zK 0 false 0).toArray 35)
  obtain ⟨u0, hu⟩ : ∃ u0, w.alloc (.cells (gotC zK 0 false 0).toArray 35) = u0 := ⟨_, rfl⟩
  have hs0 := hs.alloc (.cells (gotC zK 0 false 0).toArray 35)
  rw [hu] at b2 lw hs0
  have HG := Lib.hid (refGetInts_any A n c b u0 hs0 hb hnc hn hsm)
  rw [hd] at HG
  clear hs0 hd hs hb hn hsm hnc
  by_cases he : e = 0
  · subst he
    by_cases hun : u = n
    · subst hun
      have HL := Lib.hid (show l.length ≠ 13 from by rcases hbad with h | h | h; exact absurd rfl h; exact absurd rfl h; exact h)
      clear hbad
      go_enter Try.func26, Try.ntmps26
      go_upto_region 1 with fail
      have hu2 : w.alloc (.cells #[.int .i64 0, .bool false, .bool false, .bool false, .bool false, .int .i64 0, .int .i64 0, .int .i64 0, .int .i64 0, .int .i64 0, .int .i64 0, .int .i64 0, .int .i64 0, .int .u32 0, .bool false, .int .i64 0] 35) = u0 := hu
      rw [hu2]
      clear hu hu2
      go_wp2_with (first
        | (go_at_call 38; refine (HG.out).mono ?_; rintro e w1 ⟨A2, n2, c2, rfl, g1, g2, s2, l1⟩; replace s2 : Sl w1 1 A2 n2 (N64 l) := s2; replace b2 := b2.keep l1; replace lw := Later.trans_ lw l1; have hnl : n2 ≠ 13 := (by have := s2.1; rw [N64_len] at this; have := HL.out; omega); have hnz : ((n2 : Int) != 13) = true := (by simp; omega); clear hnl s2)
        | ((with_reducible refine wpList_bld (o := ⟨some 28, .build 35 #[(3, .const (.int .i64 11))], _, _, _, none⟩) rfl _ #[(3, .const (.int .i64 11))] #[(3, .int .i64 11)] (gotC zK 0 false 11).toArray rfl ?_ (run_gE 11 _) ?_); rfl)
        | ((with_reducible refine wpList_store_abs (o := ⟨none, .store 35 (.tmp 2) (.tmp 28), _, _, _, none⟩) rfl _ _ _ rfl w.heap.size 35 (gotC zK 0 false 0) (gotC zK 0 false 11) ?_ ?_ ?_ ?_ ?_ ?_ ?_); rfl; rfl; exact b2; exact got_sz _ _ _ _; rfl; exact got_one _ _ _ _; intro w9 b9 o9))
      exact bodyPost_ret (got_ret Try.results26 _ _ w.heap.size zK 0 false 11 rfl b9) rfl ⟨rfl, Below.only lw o9 (Nat.le_refl _)⟩
    · have hne : ((u : Int) != (n : Int)) = true := by simp; omega
      clear hbad hun
      go_enter Try.func26, Try.ntmps26
      go_upto_region 1 with fail
      have hu2 : w.alloc (.cells #[.int .i64 0, .bool false, .bool false, .bool false, .bool false, .int .i64 0, .int .i64 0, .int .i64 0, .int .i64 0, .int .i64 0, .int .i64 0, .int .i64 0, .int .i64 0, .int .u32 0, .bool false, .int .i64 0] 35) = u0 := hu
      rw [hu2]
      clear hu hu2
      go_wp2_with (first
        | (go_at_call 38; refine (HG.out).mono ?_; rintro e w1 ⟨A2, n2, c2, rfl, g1, g2, s2, l1⟩; replace s2 : Sl w1 1 A2 n2 (N64 l) := s2; replace b2 := b2.keep l1; replace lw := Later.trans_ lw l1; clear s2)
        | ((with_reducible refine wpList_bld (o := ⟨some 28, .build 35 #[(3, .const (.int .i64 11))], _, _, _, none⟩) rfl _ #[(3, .const (.int .i64 11))] #[(3, .int .i64 11)] (gotC zK 0 false 11).toArray rfl ?_ (run_gE 11 _) ?_); rfl)
        | ((with_reducible refine wpList_store_abs (o := ⟨none, .store 35 (.tmp 2) (.tmp 28), _, _, _, none⟩) rfl _ _ _ rfl w.heap.size 35 (gotC zK 0 false 0) (gotC zK 0 false 11) ?_ ?_ ?_ ?_ ?_ ?_ ?_); rfl; rfl; exact b2; exact got_sz _ _ _ _; rfl; exact got_one _ _ _ _; intro w9 b9 o9))
      exact bodyPost_ret (got_ret Try.results26 _ _ w.heap.size zK 0 false 11 rfl b9) rfl ⟨rfl, Below.only lw o9 (Nat.le_refl _)⟩
  · have hne : (e != 0) = true := by simpa using he
    clear hbad he
    go_enter Try.func26, Try.ntmps26
    go_upto_region 1 with fail
    have hu2 : w.alloc (.cells #[.int .i64 0, .bool false, .bool false, .bool false, .bool false, .int .i64 0, .int .i64 0, .int .i64 0, .int .i64 0, .int .i64 0, .int .i64 0, .int .i64 0, .int .i64 0, .int .u32 0, .bool false, .int .i64 0] 35) = u0 := hu
    rw [hu2]
    clear hu hu2
    go_wp2_with (first
      | (go_at_call 38; refine (HG.out).mono ?_; rintro e w1 ⟨A2, n2, c2, rfl, g1, g2, s2, l1⟩; replace s2 : Sl w1 1 A2 n2 (N64 l) := s2; replace b2 := b2.keep l1; replace lw := Later.trans_ lw l1; clear s2)
      | ((with_reducible refine wpList_bld (o := ⟨some 28, .build 35 #[(3, .const (.int .i64 11))], _, _, _, none⟩) rfl _ #[(3, .const (.int .i64 11))] #[(3, .int .i64 11)] (gotC zK 0 false 11).toArray rfl ?_ (run_gE 11 _) ?_); rfl)
      | ((with_reducible refine wpList_store_abs (o := ⟨none, .store 35 (.tmp 2) (.tmp 28), _, _, _, none⟩) rfl _ _ _ rfl w.heap.size 35 (gotC zK 0 false 0) (gotC zK 0 false 11) ?_ ?_ ?_ ?_ ?_ ?_ ?_); rfl; rfl; exact b2; exact got_sz _ _ _ _; rfl; exact got_one _ _ _ _; intro w9 b9 o9))
    exact bodyPost_ret (got_ret Try.results26 _ _ w.heap.size zK 0 false 11 rfl b9) rfl ⟨rfl, Below.only lw o9 (Nat.le_refl _)⟩
set_option maxRecDepth 100000 in
set_option maxHeartbeats 8000000 in
theorem rdec_long (A : Option Addr) (n c : Nat) (b : Wm.Bs) (w : World) (hs : Sl w 1 A n (U b)) (hb : Wm.isBs b) (hnc : n ≤ c) (hn : c ≤ maxLen) (hsm : n ≤ 1000000) (l : List Int) (u : Nat) (hd : Wm.decL Wm.decI 1 b = (l, u, 0)) (hun : u = n) (hl : l.length = 13) (P : Bool) (hP : P = true ↔ ((∀ k, k < 4 → l.getD (1 + k * 3) 0 = 0 ∨ l.getD (1 + k * 3) 0 = 1) ∧ (ofL l).Ok)) :
    Calls Try.prog 26 #[.slice A n c] w fun r w' => r = .returned (.agg (gotC (if P then ofL l else zK) 0 false (if P then 0 else 11)).toArray) ∧ Later w w' := by
  have b2 := Blk.new w 35 (gotC zK 0 false 0).toArray (gotC zK 0 false 0) rfl
  have lw := later1 w (.cells (gotC zK 0 false 0).toArray 35)
  obtain ⟨u0, hu⟩ : ∃ u0, w.alloc (.cells (gotC zK 0 false 0).toArray 35) = u0 := ⟨_, rfl⟩
  have hs0 := hs.alloc (.cells (gotC zK 0 false 0).toArray 35)
  rw [hu] at b2 lw hs0
  have HG := Lib.hid (refGetInts_any A n c b u0 hs0 hb hnc hn hsm)
  rw [hd] at HG
  obtain ⟨V, hV⟩ := ok_dec (ofL l)
  have KV := Lib.hid fun w' => rvalid_any (ofL l) V w' hV
  have HP := Lib.hid hP
  have HV := Lib.hid hV
  have HHS := Lib.hid fun k => half_s l k
  have HH0 := Lib.hid (half_0 l)
  have HL13 := Lib.hid hl
  have HX : half l 4 = ofL l := rfl
  obtain ⟨X, hX⟩ : ∃ X, X = ofL l := ⟨_, rfl⟩
  rw [← hX] at KV HX ⊢
  replace HX := Lib.hid HX
  obtain ⟨rX, hrX⟩ : ∃ r, r = (if P then X else zK) := ⟨_, rfl⟩
  obtain ⟨rE, hrE⟩ : ∃ r : Int, r = (if P then 0 else 11) := ⟨_, rfl⟩
  rw [← hrX, ← hrE]
  have HRX := Lib.hid hrX
  have HRE := Lib.hid hrE
  replace HV := Lib.hid (show V = true ↔ (ofL l).Ok from HV.out)
  subst hun
  clear hrX hrE hX hs0 hd hs hb hn hsm hnc hV hP hl
  go_enter Try.func26, Try.ntmps26
  go_upto_region 1 with fail
  have hu2 : w.alloc (.cells #[.int .i64 0, .bool false, .bool false, .bool false, .bool false, .int .i64 0, .int .i64 0, .int .i64 0, .int .i64 0, .int .i64 0, .int .i64 0, .int .i64 0, .int .i64 0, .int .u32 0, .bool false, .int .i64 0] 35) = u0 := hu
  rw [hu2]
  clear hu hu2
  go_upto_region 4 with (go_at_call 38; refine (HG.out).mono ?_; rintro e w1 ⟨A2, n2, c2, rfl, g1, g2, s2, l1⟩; replace s2 : Sl w1 1 A2 n2 (N64 l) := s2; replace b2 := b2.keep l1; replace lw := Later.trans_ lw l1; obtain rfl : n2 = 13 := (by have := s2.1; rw [N64_len, HL13.out] at this; omega))
  obtain ⟨ad, hA2, hadb, hcell⟩ := s2.2 (by omega)
  subst hA2
  have HC := Lib.hid (fun (w' : World) (hl : Later w1 w') => (show True ∧ ∀ (j : Nat) (v : Value), (N64 l)[j]? = some v → w'.cell? (ad.add j) = some v from by
    have h9 := s2.keep hl
    obtain ⟨ad2, e2, _, hc2⟩ := h9.2 (by omega)
    cases e2
    exact ⟨trivial, hc2⟩))
  have HGD := Lib.hid (fun (j : Nat) (hj : j < 13) => (show (N64 l)[j]? = some (.int .i64 (l.getD j 0)) from by
    rw [N64, List.getElem?_map, List.getD_eq_getElem?_getD, List.getElem?_eq_getElem (by rw [HL13.out]; exact hj)]; rfl))
  have lw0 := lw
  replace lw := later0 w1
  have B2K := Lib.hid (fun (w' : World) (hl : Later w1 w') => b2.keep hl)
  have LWK := Lib.hid (fun (w' : World) (hl : Later w1 w') => Later.trans_ lw0 hl)
  clear hcell s2 b2 lw0 l1 hadb HG
  obtain ⟨y0, hy0⟩ : ∃ y, y = l.getD 0 0 := ⟨_, rfl⟩
  have ec : w1.cell? ad = some (.int .i64 y0) := by
    have := (HC.out _ lw).2 0 _ (HGD.out 0 (by omega))
    rw [hy0]
    rwa [show ad.add 0 = ad from by unfold Addr.add; rw [if_pos rfl]] at this
  have HY0 := Lib.hid hy0
  clear hy0
  go_wp2_with (first
    | ((with_reducible refine wpList_bld (o := ⟨some 32, .build 25 #[(0, .tmp 31)], _, _, _, none⟩) rfl _ #[(0, .tmp 31)] #[(0, .int .i64 y0)] (kN y0).cells.toArray rfl ?_ (run_n y0 _) ?_); rfl)
    | ((with_reducible refine wpList_store_abs (o := ⟨none, .store 25 (.tmp 6) (.tmp 32), _, _, _, none⟩) rfl _ _ _ rfl w1.heap.size 25 zK.cells (kN y0).cells ?_ ?_ ?_ ?_ ?_ ?_ ?_); rfl; rfl; exact (Blk.new _ _ _ _ rfl); exact clk_sz _; rfl; exact clk_one _; intro w2 b7 o7; clear ec; replace lw := Below.only (lw.alloc lw.size (.cells zK.cells.toArray 25)) o7 lw.size; clear o7))
  replace b7 : Blk w2 w1.heap.size 25 (half l 0).cells := by rw [HH0.out, ← HY0.out]; exact b7
  go_loopw [7] (fun i wr => ∃ k : Nat, k ≤ 4 ∧ i = .int .i64 k ∧ Hid (∀ j, j < k → l.getD (1 + j * 3) 0 = 0 ∨ l.getD (1 + j * 3) 0 = 1) ∧ Blk wr w1.heap.size 25 (half l k).cells ∧ Later w1 wr) (fun i _ => 4 - (intOf i).toNat)
  case atStart => exact ⟨0, by omega, rfl, fun j hj => by omega, b7, lw⟩
  case round =>
    clear b7 lw
    obtain ⟨k, hk, rfl, HR, b7, lw⟩ := hrel
    by_cases hlt : k < 4
    · have hkn : (k : Int) < 4 := by omega
      have hk0 : (0 : Int) ≤ k := by omega
      obtain ⟨q, hq⟩ : ∃ q : Nat, q = 1 + k * 3 := ⟨_, rfl⟩
      obtain ⟨r2, hr2⟩ : ∃ r : Nat, r = q + 1 := ⟨_, rfl⟩
      obtain ⟨r3, hr3⟩ : ∃ r : Nat, r = q + 2 := ⟨_, rfl⟩
      have a1 : IntKind.i64.wrap (3 * (k : Int)) = 3 * (k : Int) := by rw [IntKind.wrap_i64]; omega
      have a2 : IntKind.i64.wrap (3 * (k : Int) + 1) = (q : Int) := by rw [IntKind.wrap_i64]; omega
      have a3 : IntKind.i64.wrap (3 * (k : Int) + 2) = (r2 : Int) := by rw [IntKind.wrap_i64]; omega
      have a4 : IntKind.i64.wrap (3 * (k : Int) + 3) = (r3 : Int) := by rw [IntKind.wrap_i64]; omega
      have q13 : q + 2 < 13 := by omega
      have q0 : (0 : Int) ≤ (q : Int) := by omega
      have q1 : (q : Int) < 13 := by omega
      have q2 : (r2 : Int) < 13 := by omega
      have q3 : (r3 : Int) < 13 := by omega
      have q5 : (0 : Int) ≤ (r2 : Int) := by omega
      have q6 : (0 : Int) ≤ (r3 : Int) := by omega
      obtain ⟨y1, hy1⟩ : ∃ y, y = l.getD q 0 := ⟨_, rfl⟩
      obtain ⟨y2, hy2⟩ : ∃ y, y = l.getD r2 0 := ⟨_, rfl⟩
      obtain ⟨y3, hy3⟩ : ∃ y, y = l.getD r3 0 := ⟨_, rfl⟩
      have HQ := Lib.hid (fun (w' : World) (hl : Later w1 w') => (show w'.cell? (ad.add q) = some (.int .i64 y1) ∧ w'.cell? (ad.add r2) = some (.int .i64 y2) ∧ w'.cell? (ad.add r3) = some (.int .i64 y3) from by
        rw [hy1, hy2, hy3]
        exact ⟨(HC.out _ hl).2 q _ (HGD.out q (by omega)), (HC.out _ hl).2 r2 _ (HGD.out r2 (by omega)), (HC.out _ hl).2 r3 _ (HGD.out r3 (by omega))⟩))
      have c1 := (HQ.out _ lw).1
      have HY := Lib.hid hy1
      clear hy1
      by_cases h0 : y1 = 0
      · subst h0
        have hT := Lib.hid (show ∀ j, j < k + 1 → l.getD (1 + j * 3) 0 = 0 ∨ l.getD (1 + j * 3) 0 = 1 from by
          intro j hj
          by_cases e : j = k
          · subst e; left; rw [← hq, ← HY.out]
          · exact HR.out j (by omega))
        have HN := Lib.hid (show ({ ({ ({ half l k with o := upd (half l k).o k false } : Clk) with r := upd (half l k).r k y2 } : Clk) with a := upd (half l k).a k y3 } : Clk) = half l (k + 1) from by
          have hz2 : false = decide (l.getD (1 + k * 3) 0 = 1) := by rw [← hq, ← HY.out]; rfl
          rw [hz2, hy2, hy3, hr2, hr3, hq]
          exact HHS.out k)
        clear hq hr2 hr3 hy2 hy3
        go_wp2_with (first
          | ((with_reducible refine wpList_set1 (o := ⟨none, .store 4 (.tmp 63) (.tmp 61), _, _, _, none⟩) rfl _ _ _ rfl rfl w1.heap.size (1 + k) 25 (half l k : Clk).cells (.bool false) ?_ ?_ ?_ ?_ ?_ ?_ ?_); rfl; rfl; exact b7; exact b_sz; exact (show 1 + k < 13 by omega); rfl; intro wq bq oq; clear b7; have b7 := bq; rw [set_o _ hlt] at b7; clear bq; replace lw := Below.only lw oq (Nat.le_refl _); clear oq; clear c1; have c1 := (HQ.out _ lw).2.1)
          | ((with_reducible refine wpList_set1 (o := ⟨none, .store 3 (.tmp 72) (.tmp 70), _, _, _, none⟩) rfl _ _ _ rfl rfl w1.heap.size (5 + k) 25 ({ half l k with o := upd (half l k).o k false } : Clk).cells (.int .i64 y2) ?_ ?_ ?_ ?_ ?_ ?_ ?_); rfl; rfl; exact b7; exact i_sz; exact (show 5 + k < 13 by omega); rfl; intro wq bq oq; clear b7; have b7 := bq; rw [set_r _ hlt] at b7; clear bq; replace lw := Below.only lw oq (Nat.le_refl _); clear oq; clear c1; have c1 := (HQ.out _ lw).2.2)
          | ((with_reducible refine wpList_set1 (o := ⟨none, .store 3 (.tmp 81) (.tmp 79), _, _, _, none⟩) rfl _ _ _ rfl rfl w1.heap.size (9 + k) 25 ({ ({ half l k with o := upd (half l k).o k false } : Clk) with r := upd (half l k).r k y2 } : Clk).cells (.int .i64 y3) ?_ ?_ ?_ ?_ ?_ ?_ ?_); rfl; rfl; exact b7; exact i_sz; exact (show 9 + k < 13 by omega); rfl; intro wq bq oq; clear b7; have b7 := bq; rw [set_a _ hlt] at b7; clear bq; replace lw := Below.only lw oq (Nat.le_refl _); clear oq; clear c1))
        replace b7 : Blk wq w1.heap.size 25 (half l (k + 1)).cells := by rw [← HN.out]; exact b7
        clear HN HQ
        go_roundw
        case rel => exact ⟨k + 1, by omega, by go_num, hT.out, b7, lw⟩
        case measure => simp [intOf]; omega
      by_cases h1 : y1 = 1
      · subst h1
        have hT := Lib.hid (show ∀ j, j < k + 1 → l.getD (1 + j * 3) 0 = 0 ∨ l.getD (1 + j * 3) 0 = 1 from by
          intro j hj
          by_cases e : j = k
          · subst e; right; rw [← hq, ← HY.out]
          · exact HR.out j (by omega))
        have HN := Lib.hid (show ({ ({ ({ half l k with o := upd (half l k).o k true } : Clk) with r := upd (half l k).r k y2 } : Clk) with a := upd (half l k).a k y3 } : Clk) = half l (k + 1) from by
          have hz2 : true = decide (l.getD (1 + k * 3) 0 = 1) := by rw [← hq, ← HY.out]; rfl
          rw [hz2, hy2, hy3, hr2, hr3, hq]
          exact HHS.out k)
        clear hq hr2 hr3 hy2 hy3 h0
        go_wp2_with (first
          | ((with_reducible refine wpList_set1 (o := ⟨none, .store 4 (.tmp 63) (.tmp 61), _, _, _, none⟩) rfl _ _ _ rfl rfl w1.heap.size (1 + k) 25 (half l k : Clk).cells (.bool true) ?_ ?_ ?_ ?_ ?_ ?_ ?_); rfl; rfl; exact b7; exact b_sz; exact (show 1 + k < 13 by omega); rfl; intro wq bq oq; clear b7; have b7 := bq; rw [set_o _ hlt] at b7; clear bq; replace lw := Below.only lw oq (Nat.le_refl _); clear oq; clear c1; have c1 := (HQ.out _ lw).2.1)
          | ((with_reducible refine wpList_set1 (o := ⟨none, .store 3 (.tmp 72) (.tmp 70), _, _, _, none⟩) rfl _ _ _ rfl rfl w1.heap.size (5 + k) 25 ({ half l k with o := upd (half l k).o k true } : Clk).cells (.int .i64 y2) ?_ ?_ ?_ ?_ ?_ ?_ ?_); rfl; rfl; exact b7; exact i_sz; exact (show 5 + k < 13 by omega); rfl; intro wq bq oq; clear b7; have b7 := bq; rw [set_r _ hlt] at b7; clear bq; replace lw := Below.only lw oq (Nat.le_refl _); clear oq; clear c1; have c1 := (HQ.out _ lw).2.2)
          | ((with_reducible refine wpList_set1 (o := ⟨none, .store 3 (.tmp 81) (.tmp 79), _, _, _, none⟩) rfl _ _ _ rfl rfl w1.heap.size (9 + k) 25 ({ ({ half l k with o := upd (half l k).o k true } : Clk) with r := upd (half l k).r k y2 } : Clk).cells (.int .i64 y3) ?_ ?_ ?_ ?_ ?_ ?_ ?_); rfl; rfl; exact b7; exact i_sz; exact (show 9 + k < 13 by omega); rfl; intro wq bq oq; clear b7; have b7 := bq; rw [set_a _ hlt] at b7; clear bq; replace lw := Below.only lw oq (Nat.le_refl _); clear oq; clear c1))
        replace b7 : Blk wq w1.heap.size 25 (half l (k + 1)).cells := by rw [← HN.out]; exact b7
        clear HN HQ
        go_roundw
        case rel => exact ⟨k + 1, by omega, by go_num, hT.out, b7, lw⟩
        case measure => simp [intOf]; omega
      have d0 : (y1 != 0) = true := by simpa using h0
      have d1 : (y1 != 1) = true := by simpa using h1
      have hPf := Lib.hid (show P = false from by
        cases P
        · rfl
        · have := (HP.out.1 rfl).1 k hlt; rw [← hq, ← HY.out] at this; omega)
      clear hq hr2 hr3 hy2 hy3 h0 h1
      go_wp2_with (first
        | ((with_reducible refine wpList_bld (o := ⟨some 53, .build 35 #[(3, .const (.int .i64 11))], _, _, _, none⟩) rfl _ #[(3, .const (.int .i64 11))] #[(3, .int .i64 11)] (gotC zK 0 false 11).toArray rfl ?_ (run_gE 11 _) ?_); rfl)
        | ((with_reducible refine wpList_store_abs (o := ⟨none, .store 35 (.tmp 2) (.tmp 53), _, _, _, none⟩) rfl _ _ _ rfl w.heap.size 35 (gotC zK 0 false 0) (gotC zK 0 false 11) ?_ ?_ ?_ ?_ ?_ ?_ ?_); rfl; rfl; exact (B2K.out _ lw); exact got_sz _ _ _ _; rfl; exact got_one _ _ _ _; intro w9 b9 o9))
      exact bodyPost_ret (got_ret Try.results26 _ _ w.heap.size zK 0 false 11 rfl b9) rfl ⟨by rw [HRX.out, HRE.out, hPf.out]; rfl, Below.only (LWK.out _ lw) o9 (Nat.le_refl _)⟩
    · obtain rfl : k = 4 := by omega
      clear hlt hk
      rw [HX.out] at b7
      cases V with
      | false =>
        have hPf := Lib.hid (show P = false from by
          cases P
          · rfl
          · cases (HV.out.2 (HP.out.1 rfl).2))
        go_wp2_with (first
          | ((with_reducible refine wpList_load_blk (o := ⟨some 82, .load 25 (.tmp 6), _, _, _, none⟩) rfl _ _ rfl w1.heap.size 25 X.cells _ ?_ ?_ Try.underlying25 rfl (clk_sz _) ?_); rfl; exact b7)
          | (go_at_call 10; (with_reducible refine (KV.out _).mono ?_); rintro e w5 ⟨rfl, l5⟩; replace lw := Later.trans_ lw l5)
          | ((with_reducible refine wpList_bld (o := ⟨some 86, .build 35 #[(3, .const (.int .i64 11))], _, _, _, none⟩) rfl _ #[(3, .const (.int .i64 11))] #[(3, .int .i64 11)] (gotC zK 0 false 11).toArray rfl ?_ (run_gE 11 _) ?_); rfl)
          | ((with_reducible refine wpList_store_abs (o := ⟨none, .store 35 (.tmp 2) (.tmp 86), _, _, _, none⟩) rfl _ _ _ rfl w.heap.size 35 (gotC zK 0 false 0) (gotC zK 0 false 11) ?_ ?_ ?_ ?_ ?_ ?_ ?_); rfl; rfl; exact (B2K.out _ lw); exact got_sz _ _ _ _; rfl; exact got_one _ _ _ _; intro w9 b9 o9))
        exact bodyPost_ret (got_ret Try.results26 _ _ w.heap.size zK 0 false 11 rfl b9) rfl ⟨by rw [HRX.out, HRE.out, hPf.out]; rfl, Below.only (LWK.out _ lw) o9 (Nat.le_refl _)⟩
      | true =>
        have hPf := Lib.hid (show P = true from HP.out.2 ⟨HR.out, HV.out.1 rfl⟩)
        go_wp2_with (first
          | ((with_reducible refine wpList_load_blk (o := ⟨some 82, .load 25 (.tmp 6), _, _, _, none⟩) rfl _ _ rfl w1.heap.size 25 X.cells _ ?_ ?_ Try.underlying25 rfl (clk_sz _) ?_); rfl; exact b7)
          | (go_at_call 10; (with_reducible refine (KV.out _).mono ?_); rintro e w5 ⟨rfl, l5⟩; replace b7 := b7.keep l5; replace lw := Later.trans_ lw l5)
          | ((with_reducible refine wpList_load_blk (o := ⟨some 87, .load 25 (.tmp 6), _, _, _, none⟩) rfl _ _ rfl w1.heap.size 25 X.cells _ ?_ ?_ Try.underlying25 rfl (clk_sz _) ?_); rfl; exact b7)
          | ((with_reducible refine wpList_bld (o := ⟨some 88, .build 35 #[(0, .tmp 87)], _, _, _, none⟩) rfl _ #[(0, .tmp 87)] #[(0, .agg X.cells.toArray)] (gotC X 0 false 0).toArray rfl ?_ (run_g0 X _) ?_); rfl)
          | ((with_reducible refine wpList_store_abs (o := ⟨none, .store 35 (.tmp 2) (.tmp 88), _, _, _, none⟩) rfl _ _ _ rfl w.heap.size 35 (gotC zK 0 false 0) (gotC X 0 false 0) ?_ ?_ ?_ ?_ ?_ ?_ ?_); rfl; rfl; exact (B2K.out _ lw); exact got_sz _ _ _ _; rfl; exact got_one _ _ _ _; intro w9 b9 o9))
        exact bodyPost_ret (got_ret Try.results26 _ _ w.heap.size X 0 false 0 rfl b9) rfl ⟨by rw [HRX.out, HRE.out, hPf.out]; rfl, Below.only (LWK.out _ lw) o9 (Nat.le_refl _)⟩
theorem rdec_any (A : Option Addr) (n c : Nat) (b : Wm.Bs) (w : World) (hs : Sl w 1 A n (U b)) (hb : Wm.isBs b) (hnc : n ≤ c) (hn : c ≤ maxLen) (hsm : n ≤ 1000000) (l : List Int) (u : Nat) (e : Int) (hd : Wm.decL Wm.decI 1 b = (l, u, e)) :
    (okX b l u e → Calls Try.prog 26 #[.slice A n c] w fun r w' => r = .returned (.agg (gotC (ofL l) 0 false 0).toArray) ∧ Later w w') ∧ (¬ okX b l u e → Calls Try.prog 26 #[.slice A n c] w fun r w' => r = .returned (.agg (gotC zK 0 false 11).toArray) ∧ Later w w') := by
  have hbl : b.length = n := hs.blen
  by_cases hbad : e ≠ 0 ∨ u ≠ n ∨ l.length ≠ 13
  · refine ⟨fun h => ?_, fun _ => rdec_short A n c b w hs hb hnc hn hsm l u e hd hbad⟩
    obtain ⟨h1, h2, h3, _⟩ := h
    rcases hbad with g | g | g
    · exact absurd h1 g
    · exact absurd (h2.trans hbl) g
    · exact absurd h3 g
  · obtain rfl : e = 0 := by
      rcases Decidable.em (e = 0) with h | h
      · exact h
      · exact absurd (Or.inl h) hbad
    have hun : u = n := by
      rcases Decidable.em (u = n) with h | h
      · exact h
      · exact absurd (Or.inr (Or.inl h)) hbad
    have hl : l.length = 13 := by
      rcases Decidable.em (l.length = 13) with h | h
      · exact h
      · exact absurd (Or.inr (Or.inr h)) hbad
    refine ⟨fun h => ?_, fun h => ?_⟩
    · exact rdec_long A n c b w hs hb hnc hn hsm l u hd hun hl true (by simp only [true_iff]; exact ⟨h.2.2.2.1, h.2.2.2.2⟩)
    · refine rdec_long A n c b w hs hb hnc hn hsm l u hd hun hl false ?_
      constructor
      · intro h9; cases h9
      · rintro ⟨h1, h2⟩; exact absurd ⟨rfl, hun.trans hbl.symm, hl, h1, h2⟩ h
end Go.Proofs.Ytdohocbpjpnmeaa
