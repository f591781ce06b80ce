/-
  A CONTROL: the reference's Decode.
-/
import Derived.Test.YtkpigonlnabmdabLinQ
import Derived.Deep.RegionHeld
namespace Go.Proofs.Ytkpigonlnabmdab
open Go.RowKit Go.ChangeShapes Go.WideShapes Go.ChangeAt

set_option maxRecDepth 100000 in
set_option maxHeartbeats 2000000 in
/-- Bytes that are no list, or of another length, or with bytes behind. -/
theorem rdec_short (A : Option Addr) (n c : Nat) (b : Wm.Bs) (w : World) (hs : Sl w 1 A n (U b)) (hb : Wm.isBs b) (hnc : n ≤ c) (hn : c ≤ maxLen) (hsm : n ≤ 1000000) (l : List Int) (u : Nat) (e : Int) (hd : Wm.decL Wm.decI 1 b = (l, u, e)) (hbad : e ≠ 0 ∨ u ≠ n ∨ l.length ≠ 14) :
    Calls Try.prog 19 #[.slice A n c] w fun r w' => r = .returned (.agg (didC zK 0 11).toArray) ∧ Later w w' := by
  have b2 := Blk.new w 37 (didC zK 0 0).toArray (didC zK 0 0) rfl
  have lw := later1 w (.cells (didC zK 0 0).toArray 37)
  obtain ⟨u0, hu⟩ : ∃ u0, w.alloc (.cells (didC zK 0 0).toArray 37) = u0 := ⟨_, rfl⟩
  have hs0 := hs.alloc (.cells (didC zK 0 0).toArray 37)
  rw [hu] at b2 lw hs0
  have HG := Lib.hid (refGetInts_any A n c b u0 hs0 hb hnc hn hsm)
  rw [hd] at HG
  clear hs0 hd hs hb hn hsm hnc
  by_cases he : e = 0
  · subst he
    by_cases hun : u = n
    · subst hun
      have HL := Lib.hid (show l.length ≠ 14 from by rcases hbad with h | h | h; exact absurd rfl h; exact absurd rfl h; exact h)
      clear hbad
      go_enter Try.func19, Try.ntmps19
      go_upto_region 1 with fail
      have hu2 : w.alloc (.cells #[.int .i64 0, .int .u32 0, .int .u32 0, .int .u32 0, .int .u32 0, .int .u32 0, .int .u32 0, .int .u32 0, .int .u32 0, .int .i64 0, .int .i64 0, .int .i64 0, .int .i64 0, .int .i64 0, .int .u32 0, .int .i64 0] 37) = u0 := hu
      rw [hu2]
      clear hu hu2
      go_wp2_with (first
        | (go_at_call 37; refine (HG.out).mono ?_; rintro e w1 ⟨A2, n2, c2, rfl, g1, g2, s2, l1⟩; replace s2 : Sl w1 1 A2 n2 (N64 l) := s2; replace b2 := b2.keep l1; replace lw := Later.trans_ lw l1; have hnl : n2 ≠ 14 := (by have := s2.1; rw [N64_len] at this; have := HL.out; omega); have hnz : ((n2 : Int) != 14) = true := (by simp; omega); clear hnl s2)
        | ((with_reducible refine wpList_bld (o := ⟨some 29, .build 37 #[(2, .const (.int .i64 11))], _, _, _, none⟩) rfl _ #[(2, .const (.int .i64 11))] #[(2, .int .i64 11)] (didC zK 0 11).toArray rfl ?_ (run_e 11 _) ?_); rfl)
        | ((with_reducible refine wpList_store_abs (o := ⟨none, .store 37 (.tmp 2) (.tmp 29), _, _, _, none⟩) rfl _ _ _ rfl w.heap.size 37 (didC zK 0 0) (didC zK 0 11) ?_ ?_ ?_ ?_ ?_ ?_ ?_); rfl; rfl; exact b2; exact did_sz _ _ _; rfl; exact did_one _ _ _; intro w9 b9 o9))
      exact bodyPost_ret (did_ret Try.results19 _ _ w.heap.size zK 0 11 rfl b9) rfl ⟨rfl, Below.only lw o9 (Nat.le_refl _)⟩
    · have hne : ((u : Int) != (n : Int)) = true := by simp; omega
      clear hbad hun
      go_enter Try.func19, Try.ntmps19
      go_upto_region 1 with fail
      have hu2 : w.alloc (.cells #[.int .i64 0, .int .u32 0, .int .u32 0, .int .u32 0, .int .u32 0, .int .u32 0, .int .u32 0, .int .u32 0, .int .u32 0, .int .i64 0, .int .i64 0, .int .i64 0, .int .i64 0, .int .i64 0, .int .u32 0, .int .i64 0] 37) = u0 := hu
      rw [hu2]
      clear hu hu2
      go_wp2_with (first
        | (go_at_call 37; refine (HG.out).mono ?_; rintro e w1 ⟨A2, n2, c2, rfl, g1, g2, s2, l1⟩; replace s2 : Sl w1 1 A2 n2 (N64 l) := s2; replace b2 := b2.keep l1; replace lw := Later.trans_ lw l1; clear s2)
        | ((with_reducible refine wpList_bld (o := ⟨some 29, .build 37 #[(2, .const (.int .i64 11))], _, _, _, none⟩) rfl _ #[(2, .const (.int .i64 11))] #[(2, .int .i64 11)] (didC zK 0 11).toArray rfl ?_ (run_e 11 _) ?_); rfl)
        | ((with_reducible refine wpList_store_abs (o := ⟨none, .store 37 (.tmp 2) (.tmp 29), _, _, _, none⟩) rfl _ _ _ rfl w.heap.size 37 (didC zK 0 0) (didC zK 0 11) ?_ ?_ ?_ ?_ ?_ ?_ ?_); rfl; rfl; exact b2; exact did_sz _ _ _; rfl; exact did_one _ _ _; intro w9 b9 o9))
      exact bodyPost_ret (did_ret Try.results19 _ _ w.heap.size zK 0 11 rfl b9) rfl ⟨rfl, Below.only lw o9 (Nat.le_refl _)⟩
  · have hne : (e != 0) = true := by simpa using he
    clear hbad he
    go_enter Try.func19, Try.ntmps19
    go_upto_region 1 with fail
    have hu2 : w.alloc (.cells #[.int .i64 0, .int .u32 0, .int .u32 0, .int .u32 0, .int .u32 0, .int .u32 0, .int .u32 0, .int .u32 0, .int .u32 0, .int .i64 0, .int .i64 0, .int .i64 0, .int .i64 0, .int .i64 0, .int .u32 0, .int .i64 0] 37) = u0 := hu
    rw [hu2]
    clear hu hu2
    go_wp2_with (first
      | (go_at_call 37; refine (HG.out).mono ?_; rintro e w1 ⟨A2, n2, c2, rfl, g1, g2, s2, l1⟩; replace s2 : Sl w1 1 A2 n2 (N64 l) := s2; replace b2 := b2.keep l1; replace lw := Later.trans_ lw l1; clear s2)
      | ((with_reducible refine wpList_bld (o := ⟨some 29, .build 37 #[(2, .const (.int .i64 11))], _, _, _, none⟩) rfl _ #[(2, .const (.int .i64 11))] #[(2, .int .i64 11)] (didC zK 0 11).toArray rfl ?_ (run_e 11 _) ?_); rfl)
      | ((with_reducible refine wpList_store_abs (o := ⟨none, .store 37 (.tmp 2) (.tmp 29), _, _, _, none⟩) rfl _ _ _ rfl w.heap.size 37 (didC zK 0 0) (didC zK 0 11) ?_ ?_ ?_ ?_ ?_ ?_ ?_); rfl; rfl; exact b2; exact did_sz _ _ _; rfl; exact did_one _ _ _; intro w9 b9 o9))
    exact bodyPost_ret (did_ret Try.results19 _ _ w.heap.size zK 0 11 rfl b9) rfl ⟨rfl, Below.only lw o9 (Nat.le_refl _)⟩
theorem half_t (l : List Int) (k : Nat) : ({ half l 4 k with t := upd (half l 4 k).t k (l.getD (9 + k) 0) } : Ctl) = half l 4 (k + 1) := by
  unfold half
  show (⟨_, _, _, upd (lt_ k fun i => l.getD (9 + i) 0) k ((fun i => l.getD (9 + i) 0) k)⟩ : Ctl) = _
  rw [upd_lt]
set_option maxRecDepth 100000 in
set_option maxHeartbeats 8000000 in
theorem rdec_long (A : Option Addr) (n c : Nat) (b : Wm.Bs) (w : World) (hs : Sl w 1 A n (U b)) (hb : Wm.isBs b) (hnc : n ≤ c) (hn : c ≤ maxLen) (hsm : n ≤ 1000000) (l : List Int) (u : Nat) (hd : Wm.decL Wm.decI 1 b = (l, u, 0)) (hun : u = n) (hl : l.length = 14) (P : Bool) (hP : P = true ↔ ((∀ k, k < 8 → 0 ≤ l.getD (1 + k) 0 ∧ l.getD (1 + k) 0 < 32) ∧ (ofL l).Ok)) :
    Calls Try.prog 19 #[.slice A n c] w fun r w' => r = .returned (.agg (didC (if P then ofL l else zK) 0 (if P then 0 else 11)).toArray) ∧ Later w w' := by
  have b2 := Blk.new w 37 (didC zK 0 0).toArray (didC zK 0 0) rfl
  have lw := later1 w (.cells (didC zK 0 0).toArray 37)
  obtain ⟨u0, hu⟩ : ∃ u0, w.alloc (.cells (didC zK 0 0).toArray 37) = u0 := ⟨_, rfl⟩
  have hs0 := hs.alloc (.cells (didC zK 0 0).toArray 37)
  rw [hu] at b2 lw hs0
  have HG := Lib.hid (refGetInts_any A n c b u0 hs0 hb hnc hn hsm)
  rw [hd] at HG
  have hin : inR l := by have := decL_in hb; rw [hd] at this; exact this
  have hwf := ofL_wf hin
  obtain ⟨V, hV⟩ := ok_dec (ofL l)
  have KV := Lib.hid fun w' => rvalid_any (ofL l) V w' hwf hV
  have HP := Lib.hid hP
  have HV := Lib.hid hV
  have HHR := Lib.hid fun k => half_rm l k
  have HHT := Lib.hid fun k => half_t l k
  have HH0 := Lib.hid (half_n l)
  have HL14 := Lib.hid hl
  have HX : half l 4 5 = ofL l := rfl
  obtain ⟨X, hX⟩ : ∃ X, X = ofL l := ⟨_, rfl⟩
  rw [← hX] at KV HX ⊢
  replace HX := Lib.hid HX
  obtain ⟨rX, hrX⟩ : ∃ r, r = (if P then X else zK) := ⟨_, rfl⟩
  obtain ⟨rE, hrE⟩ : ∃ r : Int, r = (if P then 0 else 11) := ⟨_, rfl⟩
  rw [← hrX, ← hrE]
  have HRX := Lib.hid hrX
  have HRE := Lib.hid hrE
  replace HV := Lib.hid (show V = true ↔ (ofL l).Ok from HV.out)
  subst hun
  clear hrX hrE hX hs0 hd hs hb hn hsm hnc hin hwf hV hP hl
  go_enter Try.func19, Try.ntmps19
  go_upto_region 1 with fail
  have hu2 : w.alloc (.cells #[.int .i64 0, .int .u32 0, .int .u32 0, .int .u32 0, .int .u32 0, .int .u32 0, .int .u32 0, .int .u32 0, .int .u32 0, .int .i64 0, .int .i64 0, .int .i64 0, .int .i64 0, .int .i64 0, .int .u32 0, .int .i64 0] 37) = u0 := hu
  rw [hu2]
  clear hu hu2
  go_upto_region 4 with (go_at_call 37; refine (HG.out).mono ?_; rintro e w1 ⟨A2, n2, c2, rfl, g1, g2, s2, l1⟩; replace s2 : Sl w1 1 A2 n2 (N64 l) := s2; replace b2 := b2.keep l1; replace lw := Later.trans_ lw l1; obtain rfl : n2 = 14 := (by have := s2.1; rw [N64_len, HL14.out] at this; omega))
  obtain ⟨ad, hA2, hadb, hcell⟩ := s2.2 (by omega)
  subst hA2
  have HC := Lib.hid (fun (w' : World) (hl : Later w1 w') => (show True ∧ ∀ (j : Nat) (v : Value), (N64 l)[j]? = some v → w'.cell? (ad.add j) = some v from by
    have h9 := s2.keep hl
    obtain ⟨ad2, e2, _, hc2⟩ := h9.2 (by omega)
    cases e2
    exact ⟨trivial, hc2⟩))
  have HGD := Lib.hid (fun (j : Nat) (hj : j < 14) => (show (N64 l)[j]? = some (.int .i64 (l.getD j 0)) from by
    rw [N64, List.getElem?_map, List.getD_eq_getElem?_getD, List.getElem?_eq_getElem (by rw [HL14.out]; exact hj)]; rfl))
  have lw0 := lw
  replace lw := later0 w1
  have B2K := Lib.hid (fun (w' : World) (hl : Later w1 w') => b2.keep hl)
  have LWK := Lib.hid (fun (w' : World) (hl : Later w1 w') => Later.trans_ lw0 hl)
  clear hcell s2 b2 lw0 l1 hadb HG
  obtain ⟨y0, hy0⟩ : ∃ y, y = l.getD 0 0 := ⟨_, rfl⟩
  have ec : w1.cell? ad = some (.int .i64 y0) := by
    have := (HC.out _ lw).2 0 _ (HGD.out 0 (by omega))
    rw [hy0]
    rwa [show ad.add 0 = ad from by unfold Addr.add; rw [if_pos rfl]] at this
  have HY0 := Lib.hid hy0
  clear hy0
  go_wp2_with (first
    | ((with_reducible refine wpList_bld (o := ⟨some 33, .build 26 #[(0, .tmp 32)], _, _, _, none⟩) rfl _ #[(0, .tmp 32)] #[(0, .int .i64 y0)] (kN y0).cells.toArray rfl ?_ (run_n y0 _) ?_); rfl)
    | ((with_reducible refine wpList_store_abs (o := ⟨none, .store 26 (.tmp 6) (.tmp 33), _, _, _, none⟩) rfl _ _ _ rfl w1.heap.size 26 zK.cells (kN y0).cells ?_ ?_ ?_ ?_ ?_ ?_ ?_); rfl; rfl; exact (Blk.new _ _ _ _ rfl); exact ctl_sz _; rfl; exact ctl_one _; intro w2 b7 o7; clear ec; replace lw := Below.only (lw.alloc lw.size (.cells zK.cells.toArray 26)) o7 lw.size; clear o7))
  replace b7 : Blk w2 w1.heap.size 26 (half l 0 0).cells := by rw [HH0.out, ← HY0.out]; exact b7
  go_loopw [7] (fun i wr => ∃ k : Nat, k ≤ 8 ∧ i = .int .i64 k ∧ Hid (∀ j, j < k → 0 ≤ l.getD (1 + j) 0 ∧ l.getD (1 + j) 0 < 32) ∧ Blk wr w1.heap.size 26 (half l 0 0).cells ∧ Later w1 wr) (fun i _ => 8 - (intOf i).toNat)
  case atStart => exact ⟨0, by omega, rfl, fun j hj => by omega, b7, lw⟩
  case round =>
    clear b7 lw
    obtain ⟨k, hk, rfl, HR, b7, lw⟩ := hrel
    by_cases hlt : k < 8
    · have hkn : (k : Int) < 8 := by omega
      have hk0 : (0 : Int) ≤ k := by omega
      have a1 : IntKind.i64.wrap (1 + (k : Int)) = 1 + (k : Int) := by rw [IntKind.wrap_i64]; omega
      have q1 : (1 : Int) + (k : Int) < 14 := by omega
      have c1 := (HC.out _ lw).2 (1 + k) _ (HGD.out (1 + k) (by omega))
      obtain ⟨y, hy⟩ : ∃ y, y = l.getD (1 + k) 0 := ⟨_, rfl⟩
      rw [← hy] at c1
      have HY := Lib.hid hy
      clear hy
      by_cases h0 : y < 0
      · have d0 : decide (y < 0) = true := decide_eq_true h0
        have hPf := Lib.hid (show P = false from by
          cases P
          · rfl
          · have := (HP.out.1 rfl).1 k hlt; rw [← HY.out] at this; omega)
        go_wp2_with (first
          | ((with_reducible refine wpList_bld (o := ⟨some 52, .build 37 #[(2, .const (.int .i64 11))], _, _, _, none⟩) rfl _ #[(2, .const (.int .i64 11))] #[(2, .int .i64 11)] (didC zK 0 11).toArray rfl ?_ (run_e 11 _) ?_); rfl)
          | ((with_reducible refine wpList_store_abs (o := ⟨none, .store 37 (.tmp 2) (.tmp 52), _, _, _, none⟩) rfl _ _ _ rfl w.heap.size 37 (didC zK 0 0) (didC zK 0 11) ?_ ?_ ?_ ?_ ?_ ?_ ?_); rfl; rfl; exact (B2K.out _ lw); exact did_sz _ _ _; rfl; exact did_one _ _ _; intro w9 b9 o9))
        exact bodyPost_ret (did_ret Try.results19 _ _ w.heap.size zK 0 11 rfl b9) rfl ⟨by rw [HRX.out, HRE.out, hPf.out]; rfl, Below.only (LWK.out _ lw) o9 (Nat.le_refl _)⟩
      have d0 : decide (y < 0) = false := decide_eq_false h0
      by_cases h32 : 32 ≤ y
      · have d1 : decide (32 ≤ y) = true := decide_eq_true h32
        have hPf := Lib.hid (show P = false from by
          cases P
          · rfl
          · have := (HP.out.1 rfl).1 k hlt; rw [← HY.out] at this; omega)
        go_wp2_with (first
          | ((with_reducible refine wpList_bld (o := ⟨some 52, .build 37 #[(2, .const (.int .i64 11))], _, _, _, none⟩) rfl _ #[(2, .const (.int .i64 11))] #[(2, .int .i64 11)] (didC zK 0 11).toArray rfl ?_ (run_e 11 _) ?_); rfl)
          | ((with_reducible refine wpList_store_abs (o := ⟨none, .store 37 (.tmp 2) (.tmp 52), _, _, _, none⟩) rfl _ _ _ rfl w.heap.size 37 (didC zK 0 0) (didC zK 0 11) ?_ ?_ ?_ ?_ ?_ ?_ ?_); rfl; rfl; exact (B2K.out _ lw); exact did_sz _ _ _; rfl; exact did_one _ _ _; intro w9 b9 o9))
        exact bodyPost_ret (did_ret Try.results19 _ _ w.heap.size zK 0 11 rfl b9) rfl ⟨by rw [HRX.out, HRE.out, hPf.out]; rfl, Below.only (LWK.out _ lw) o9 (Nat.le_refl _)⟩
      have d1 : decide (32 ≤ y) = false := decide_eq_false h32
      have hT : ∀ j, j < k + 1 → 0 ≤ l.getD (1 + j) 0 ∧ l.getD (1 + j) 0 < 32 := by
        intro j hj
        by_cases e : j = k
        · subst e; rw [← HY.out]; omega
        · exact HR.out j (by omega)
      replace hT := Lib.hid hT
      go_wp2
      clear c1
      first
        | exact ⟨⟨k + 1, by omega, by first | go_num | (congr 1; omega), hT.out, b7, lw⟩, by simp [intOf]; omega⟩
        | (go_roundw
           case rel => first | exact ⟨k + 1, by omega, by go_num, hT.out, b7, lw⟩ | exact ⟨_, _, _, _, _, _, ⟨k + 1, by omega, by go_num, hT.out, b7, lw⟩, rfl⟩ | exact ⟨_, _, _, _, _, _, _, ⟨k + 1, by omega, by go_num, hT.out, b7, lw⟩, rfl⟩ | exact ⟨_, _, _, _, _, _, _, _, ⟨k + 1, by omega, by go_num, hT.out, b7, lw⟩, rfl⟩ | exact ⟨_, _, _, _, _, _, _, _, _, ⟨k + 1, by omega, by go_num, hT.out, b7, lw⟩, rfl⟩ | exact ⟨_, _, _, _, _, _, _, _, _, _, ⟨k + 1, by omega, by go_num, hT.out, b7, lw⟩, rfl⟩ | exact ⟨_, _, _, _, _, _, _, _, _, _, _, ⟨k + 1, by omega, by go_num, hT.out, b7, lw⟩, rfl⟩ | exact ⟨_, _, _, _, _, _, _, _, _, _, _, _, ⟨k + 1, by omega, by go_num, hT.out, b7, lw⟩, rfl⟩ | exact ⟨_, _, _, _, _, _, _, _, _, _, _, _, _, ⟨k + 1, by omega, by go_num, hT.out, b7, lw⟩, rfl⟩ | exact ⟨_, _, _, _, _, _, _, _, _, _, _, _, _, _, ⟨k + 1, by omega, by go_num, hT.out, b7, lw⟩, rfl⟩ | exact ⟨_, _, _, _, _, _, _, _, _, _, _, _, _, _, _, ⟨k + 1, by omega, by go_num, hT.out, b7, lw⟩, rfl⟩ | exact ⟨_, _, _, _, _, _, _, _, _, _, _, _, _, _, _, _, ⟨k + 1, by omega, by go_num, hT.out, b7, lw⟩, rfl⟩ | exact ⟨_, _, _, _, _, _, _, _, _, _, _, _, _, _, _, _, _, ⟨k + 1, by omega, by go_num, hT.out, b7, lw⟩, rfl⟩ | exact ⟨_, _, _, _, _, _, _, _, _, _, _, _, _, _, _, _, _, _, ⟨k + 1, by omega, by go_num, hT.out, b7, lw⟩, rfl⟩ | exact ⟨_, _, _, _, _, _, _, _, _, _, _, _, _, _, _, _, _, _, _, ⟨k + 1, by omega, by go_num, hT.out, b7, lw⟩, rfl⟩ | exact ⟨_, _, _, _, _, _, _, _, _, _, _, _, _, _, _, _, _, _, _, _, ⟨k + 1, by omega, by go_num, hT.out, b7, lw⟩, rfl⟩ | exact ⟨_, _, _, _, _, _, _, _, _, _, _, _, _, _, _, _, _, _, _, _, _, ⟨k + 1, by omega, by go_num, hT.out, b7, lw⟩, rfl⟩ | exact ⟨_, _, _, _, _, _, _, _, _, _, _, _, _, _, _, _, _, _, _, _, _, _, ⟨k + 1, by omega, by go_num, hT.out, b7, lw⟩, rfl⟩ | exact ⟨_, _, _, _, _, _, _, _, _, _, _, _, _, _, _, _, _, _, _, _, _, _, _, ⟨k + 1, by omega, by go_num, hT.out, b7, lw⟩, rfl⟩ | exact ⟨_, _, _, _, _, _, _, _, _, _, _, _, _, _, _, _, _, _, _, _, _, _, _, _, ⟨k + 1, by omega, by go_num, hT.out, b7, lw⟩, rfl⟩ | exact ⟨_, _, _, _, _, _, _, _, _, _, _, _, _, _, _, _, _, _, _, _, _, _, _, _, _, ⟨k + 1, by omega, by go_num, hT.out, b7, lw⟩, rfl⟩ | exact ⟨_, _, _, _, _, _, _, _, _, _, _, _, _, _, _, _, _, _, _, _, _, _, _, _, _, _, ⟨k + 1, by omega, by go_num, hT.out, b7, lw⟩, rfl⟩ | exact ⟨_, _, _, _, _, _, _, _, _, _, _, _, _, _, _, _, _, _, _, _, _, _, _, _, _, _, _, ⟨k + 1, by omega, by go_num, hT.out, b7, lw⟩, rfl⟩ | exact ⟨_, _, _, _, _, _, _, _, _, _, _, _, _, _, _, _, _, _, _, _, _, _, _, _, _, _, _, _, ⟨k + 1, by omega, by go_num, hT.out, b7, lw⟩, rfl⟩ | exact ⟨_, _, _, _, _, _, _, _, _, _, _, _, _, _, _, _, _, _, _, _, _, _, _, _, _, _, _, _, _, ⟨k + 1, by omega, by go_num, hT.out, b7, lw⟩, rfl⟩
           case measure => simp [intOf]; omega)
    · obtain rfl : k = 8 := by omega
      clear hlt hk
      go_wp2
      go_loopw [8] (fun i wr => ∃ k : Nat, k ≤ 4 ∧ i = .int .i64 k ∧ Blk wr w1.heap.size 26 (half l k 0).cells ∧ Later w1 wr) (fun i _ => 4 - (intOf i).toNat)
      case atStart => exact ⟨0, by omega, rfl, b7, lw⟩
      case round =>
        clear b7 lw
        obtain ⟨k, hk, rfl, b7, lw⟩ := hrel
        by_cases hlt : k < 4
        · have hkn : (k : Int) < 4 := by omega
          have hk0 : (0 : Int) ≤ k := by omega
          have a1 : IntKind.i64.wrap (1 + (k : Int)) = 1 + (k : Int) := by rw [IntKind.wrap_i64]; omega
          have a2 : IntKind.i64.wrap (5 + (k : Int)) = 5 + (k : Int) := by rw [IntKind.wrap_i64]; omega
          have q1 : (1 : Int) + (k : Int) < 14 := by omega
          have q2 : (5 : Int) + (k : Int) < 14 := by omega
          have c1 := (HC.out _ lw).2 (1 + k) _ (HGD.out (1 + k) (by omega))
          obtain ⟨z1, hz1⟩ : ∃ z, IntKind.u32.wrap (l.getD (1 + k) 0) = z := ⟨_, rfl⟩
          obtain ⟨z2, hz2⟩ : ∃ z, IntKind.u32.wrap (l.getD (5 + k) 0) = z := ⟨_, rfl⟩
          have HZ := Lib.hid (show z1 = wr32 (l.getD (1 + k) 0) ∧ z2 = wr32 (l.getD (5 + k) 0) from ⟨hz1.symm, hz2.symm⟩)
          obtain ⟨y1, hy1⟩ : ∃ y, y = l.getD (1 + k) 0 := ⟨_, rfl⟩
          obtain ⟨y2, hy2⟩ : ∃ y, y = l.getD (5 + k) 0 := ⟨_, rfl⟩
          rw [← hy1] at c1 hz1
          rw [← hy2] at hz2
          have HY2 := Lib.hid hy2
          clear hy1 hy2
          have e1 := b7.cell (ctl_r (half l k 0) hlt)
          have f1 := b7.frz (1 + k)
          go_upto_region 14 with fail
          obtain ⟨u3, hu3⟩ : ∃ u3, u3 = wr.setCell ⟨w1.heap.size, 1 + k, none⟩ (.int .u32 z1) := ⟨_, rfl⟩
          rw [← hu3]
          replace b7 := b7.set (1 + k) (.int .u32 z1)
          rw [set_r _ hlt] at b7
          replace lw := lw.setCell (p := ⟨w1.heap.size, 1 + k, none⟩) (Nat.le_refl _) (.int .u32 z1)
          rw [← hu3] at b7 lw
          clear hu3 c1 e1 f1 hz1
          have c2' := (HC.out _ lw).2 (5 + k) _ (HGD.out (5 + k) (by omega))
          rw [← HY2.out] at c2'
          have e2 := b7.cell (ctl_m _ hlt)
          have f2 := b7.frz (5 + k)
          go_wp2
          replace b7 := b7.set (5 + k) (.int .u32 z2)
          rw [set_m _ hlt, HZ.out.1, HZ.out.2, HHR.out k, ← HZ.out.2] at b7
          replace lw := lw.setCell (p := ⟨w1.heap.size, 5 + k, none⟩) (Nat.le_refl _) (.int .u32 z2)
          clear c2' e2 f2 hz2
          first
            | exact ⟨⟨k + 1, by omega, by first | go_num | (congr 1; omega), b7, lw⟩, by simp [intOf]; omega⟩
            | (go_roundw
               case rel => first | exact ⟨k + 1, by omega, by go_num, b7, lw⟩ | exact ⟨_, _, _, _, _, _, ⟨k + 1, by omega, by go_num, b7, lw⟩, rfl⟩ | exact ⟨_, _, _, _, _, _, _, ⟨k + 1, by omega, by go_num, b7, lw⟩, rfl⟩ | exact ⟨_, _, _, _, _, _, _, _, ⟨k + 1, by omega, by go_num, b7, lw⟩, rfl⟩ | exact ⟨_, _, _, _, _, _, _, _, _, ⟨k + 1, by omega, by go_num, b7, lw⟩, rfl⟩ | exact ⟨_, _, _, _, _, _, _, _, _, _, ⟨k + 1, by omega, by go_num, b7, lw⟩, rfl⟩ | exact ⟨_, _, _, _, _, _, _, _, _, _, _, ⟨k + 1, by omega, by go_num, b7, lw⟩, rfl⟩ | exact ⟨_, _, _, _, _, _, _, _, _, _, _, _, ⟨k + 1, by omega, by go_num, b7, lw⟩, rfl⟩ | exact ⟨_, _, _, _, _, _, _, _, _, _, _, _, _, ⟨k + 1, by omega, by go_num, b7, lw⟩, rfl⟩ | exact ⟨_, _, _, _, _, _, _, _, _, _, _, _, _, _, ⟨k + 1, by omega, by go_num, b7, lw⟩, rfl⟩ | exact ⟨_, _, _, _, _, _, _, _, _, _, _, _, _, _, _, ⟨k + 1, by omega, by go_num, b7, lw⟩, rfl⟩ | exact ⟨_, _, _, _, _, _, _, _, _, _, _, _, _, _, _, _, ⟨k + 1, by omega, by go_num, b7, lw⟩, rfl⟩ | exact ⟨_, _, _, _, _, _, _, _, _, _, _, _, _, _, _, _, _, ⟨k + 1, by omega, by go_num, b7, lw⟩, rfl⟩ | exact ⟨_, _, _, _, _, _, _, _, _, _, _, _, _, _, _, _, _, _, ⟨k + 1, by omega, by go_num, b7, lw⟩, rfl⟩ | exact ⟨_, _, _, _, _, _, _, _, _, _, _, _, _, _, _, _, _, _, _, ⟨k + 1, by omega, by go_num, b7, lw⟩, rfl⟩ | exact ⟨_, _, _, _, _, _, _, _, _, _, _, _, _, _, _, _, _, _, _, _, ⟨k + 1, by omega, by go_num, b7, lw⟩, rfl⟩ | exact ⟨_, _, _, _, _, _, _, _, _, _, _, _, _, _, _, _, _, _, _, _, _, ⟨k + 1, by omega, by go_num, b7, lw⟩, rfl⟩ | exact ⟨_, _, _, _, _, _, _, _, _, _, _, _, _, _, _, _, _, _, _, _, _, _, ⟨k + 1, by omega, by go_num, b7, lw⟩, rfl⟩ | exact ⟨_, _, _, _, _, _, _, _, _, _, _, _, _, _, _, _, _, _, _, _, _, _, _, ⟨k + 1, by omega, by go_num, b7, lw⟩, rfl⟩ | exact ⟨_, _, _, _, _, _, _, _, _, _, _, _, _, _, _, _, _, _, _, _, _, _, _, _, ⟨k + 1, by omega, by go_num, b7, lw⟩, rfl⟩ | exact ⟨_, _, _, _, _, _, _, _, _, _, _, _, _, _, _, _, _, _, _, _, _, _, _, _, _, ⟨k + 1, by omega, by go_num, b7, lw⟩, rfl⟩ | exact ⟨_, _, _, _, _, _, _, _, _, _, _, _, _, _, _, _, _, _, _, _, _, _, _, _, _, _, ⟨k + 1, by omega, by go_num, b7, lw⟩, rfl⟩ | exact ⟨_, _, _, _, _, _, _, _, _, _, _, _, _, _, _, _, _, _, _, _, _, _, _, _, _, _, _, ⟨k + 1, by omega, by go_num, b7, lw⟩, rfl⟩ | exact ⟨_, _, _, _, _, _, _, _, _, _, _, _, _, _, _, _, _, _, _, _, _, _, _, _, _, _, _, _, ⟨k + 1, by omega, by go_num, b7, lw⟩, rfl⟩ | exact ⟨_, _, _, _, _, _, _, _, _, _, _, _, _, _, _, _, _, _, _, _, _, _, _, _, _, _, _, _, _, ⟨k + 1, by omega, by go_num, b7, lw⟩, rfl⟩
               case measure => simp [intOf]; omega)
        · obtain rfl : k = 4 := by omega
          clear hlt hk
          go_wp2
          go_loopw [9] (fun i wr => ∃ k : Nat, k ≤ 5 ∧ i = .int .i64 k ∧ Blk wr w1.heap.size 26 (half l 4 k).cells ∧ Later w1 wr) (fun i _ => 5 - (intOf i).toNat)
          case atStart => exact ⟨0, by omega, rfl, b7, lw⟩
          case round =>
            clear b7 lw
            obtain ⟨k, hk, rfl, b7, lw⟩ := hrel
            by_cases hlt : k < 5
            · have hkn : (k : Int) < 5 := by omega
              have hk0 : (0 : Int) ≤ k := by omega
              have a1 : IntKind.i64.wrap (9 + (k : Int)) = 9 + (k : Int) := by rw [IntKind.wrap_i64]; omega
              have q1 : (9 : Int) + (k : Int) < 14 := by omega
              have c1 := (HC.out _ lw).2 (9 + k) _ (HGD.out (9 + k) (by omega))
              obtain ⟨y1, hy1⟩ : ∃ y, y = l.getD (9 + k) 0 := ⟨_, rfl⟩
              rw [← hy1] at c1
              have HY1 := Lib.hid hy1
              clear hy1
              have e1 := b7.cell (ctl_t (half l 4 k) hlt)
              have f1 := b7.frz (9 + k)
              go_wp2
              replace b7 := b7.set (9 + k) (.int .i64 y1)
              rw [set_t _ hlt, HY1.out, HHT.out k, ← HY1.out] at b7
              replace lw := lw.setCell (p := ⟨w1.heap.size, 9 + k, none⟩) (Nat.le_refl _) (.int .i64 y1)
              clear c1 e1 f1
              first
                | exact ⟨⟨k + 1, by omega, by first | go_num | (congr 1; omega), b7, lw⟩, by simp [intOf]; omega⟩
                | (go_roundw
                   case rel => first | exact ⟨k + 1, by omega, by go_num, b7, lw⟩ | exact ⟨_, _, _, _, _, _, ⟨k + 1, by omega, by go_num, b7, lw⟩, rfl⟩ | exact ⟨_, _, _, _, _, _, _, ⟨k + 1, by omega, by go_num, b7, lw⟩, rfl⟩ | exact ⟨_, _, _, _, _, _, _, _, ⟨k + 1, by omega, by go_num, b7, lw⟩, rfl⟩ | exact ⟨_, _, _, _, _, _, _, _, _, ⟨k + 1, by omega, by go_num, b7, lw⟩, rfl⟩ | exact ⟨_, _, _, _, _, _, _, _, _, _, ⟨k + 1, by omega, by go_num, b7, lw⟩, rfl⟩ | exact ⟨_, _, _, _, _, _, _, _, _, _, _, ⟨k + 1, by omega, by go_num, b7, lw⟩, rfl⟩ | exact ⟨_, _, _, _, _, _, _, _, _, _, _, _, ⟨k + 1, by omega, by go_num, b7, lw⟩, rfl⟩ | exact ⟨_, _, _, _, _, _, _, _, _, _, _, _, _, ⟨k + 1, by omega, by go_num, b7, lw⟩, rfl⟩ | exact ⟨_, _, _, _, _, _, _, _, _, _, _, _, _, _, ⟨k + 1, by omega, by go_num, b7, lw⟩, rfl⟩ | exact ⟨_, _, _, _, _, _, _, _, _, _, _, _, _, _, _, ⟨k + 1, by omega, by go_num, b7, lw⟩, rfl⟩ | exact ⟨_, _, _, _, _, _, _, _, _, _, _, _, _, _, _, _, ⟨k + 1, by omega, by go_num, b7, lw⟩, rfl⟩ | exact ⟨_, _, _, _, _, _, _, _, _, _, _, _, _, _, _, _, _, ⟨k + 1, by omega, by go_num, b7, lw⟩, rfl⟩ | exact ⟨_, _, _, _, _, _, _, _, _, _, _, _, _, _, _, _, _, _, ⟨k + 1, by omega, by go_num, b7, lw⟩, rfl⟩ | exact ⟨_, _, _, _, _, _, _, _, _, _, _, _, _, _, _, _, _, _, _, ⟨k + 1, by omega, by go_num, b7, lw⟩, rfl⟩ | exact ⟨_, _, _, _, _, _, _, _, _, _, _, _, _, _, _, _, _, _, _, _, ⟨k + 1, by omega, by go_num, b7, lw⟩, rfl⟩ | exact ⟨_, _, _, _, _, _, _, _, _, _, _, _, _, _, _, _, _, _, _, _, _, ⟨k + 1, by omega, by go_num, b7, lw⟩, rfl⟩ | exact ⟨_, _, _, _, _, _, _, _, _, _, _, _, _, _, _, _, _, _, _, _, _, _, ⟨k + 1, by omega, by go_num, b7, lw⟩, rfl⟩ | exact ⟨_, _, _, _, _, _, _, _, _, _, _, _, _, _, _, _, _, _, _, _, _, _, _, ⟨k + 1, by omega, by go_num, b7, lw⟩, rfl⟩ | exact ⟨_, _, _, _, _, _, _, _, _, _, _, _, _, _, _, _, _, _, _, _, _, _, _, _, ⟨k + 1, by omega, by go_num, b7, lw⟩, rfl⟩ | exact ⟨_, _, _, _, _, _, _, _, _, _, _, _, _, _, _, _, _, _, _, _, _, _, _, _, _, ⟨k + 1, by omega, by go_num, b7, lw⟩, rfl⟩ | exact ⟨_, _, _, _, _, _, _, _, _, _, _, _, _, _, _, _, _, _, _, _, _, _, _, _, _, _, ⟨k + 1, by omega, by go_num, b7, lw⟩, rfl⟩ | exact ⟨_, _, _, _, _, _, _, _, _, _, _, _, _, _, _, _, _, _, _, _, _, _, _, _, _, _, _, ⟨k + 1, by omega, by go_num, b7, lw⟩, rfl⟩ | exact ⟨_, _, _, _, _, _, _, _, _, _, _, _, _, _, _, _, _, _, _, _, _, _, _, _, _, _, _, _, ⟨k + 1, by omega, by go_num, b7, lw⟩, rfl⟩ | exact ⟨_, _, _, _, _, _, _, _, _, _, _, _, _, _, _, _, _, _, _, _, _, _, _, _, _, _, _, _, _, ⟨k + 1, by omega, by go_num, b7, lw⟩, rfl⟩
                   case measure => simp [intOf]; omega)
            · obtain rfl : k = 5 := by omega
              clear hlt hk
              rw [HX.out] at b7
              cases V with
              | false =>
                have hPf := Lib.hid (show P = false from by
                  cases P
                  · rfl
                  · cases (HV.out.2 (HP.out.1 rfl).2))
                go_wp2_with (first
                  | ((with_reducible refine wpList_load_blk (o := ⟨some 87, .load 26 (.tmp 6), _, _, _, none⟩) rfl _ _ rfl w1.heap.size 26 X.cells _ ?_ ?_ Try.underlying26 rfl (ctl_sz _) ?_); rfl; exact b7)
                  | (go_at_call 9; (with_reducible refine (KV.out _).mono ?_); rintro e w5 ⟨rfl, l5⟩; replace lw := Later.trans_ lw l5)
                  | ((with_reducible refine wpList_bld (o := ⟨some 90, .build 37 #[(2, .const (.int .i64 11))], _, _, _, none⟩) rfl _ #[(2, .const (.int .i64 11))] #[(2, .int .i64 11)] (didC zK 0 11).toArray rfl ?_ (run_e 11 _) ?_); rfl)
                  | ((with_reducible refine wpList_store_abs (o := ⟨none, .store 37 (.tmp 2) (.tmp 90), _, _, _, none⟩) rfl _ _ _ rfl w.heap.size 37 (didC zK 0 0) (didC zK 0 11) ?_ ?_ ?_ ?_ ?_ ?_ ?_); rfl; rfl; exact (B2K.out _ lw); exact did_sz _ _ _; rfl; exact did_one _ _ _; intro w9 b9 o9))
                exact bodyPost_ret (did_ret Try.results19 _ _ w.heap.size zK 0 11 rfl b9) rfl ⟨by rw [HRX.out, HRE.out, hPf.out]; rfl, Below.only (LWK.out _ lw) o9 (Nat.le_refl _)⟩
              | true =>
                have hPf := Lib.hid (show P = true from HP.out.2 ⟨HR.out, HV.out.1 rfl⟩)
                go_wp2_with (first
                  | ((with_reducible refine wpList_load_blk (o := ⟨some 87, .load 26 (.tmp 6), _, _, _, none⟩) rfl _ _ rfl w1.heap.size 26 X.cells _ ?_ ?_ Try.underlying26 rfl (ctl_sz _) ?_); rfl; exact b7)
                  | (go_at_call 9; (with_reducible refine (KV.out _).mono ?_); rintro e w5 ⟨rfl, l5⟩; replace b7 := b7.keep l5; replace lw := Later.trans_ lw l5)
                  | ((with_reducible refine wpList_load_blk (o := ⟨some 91, .load 26 (.tmp 6), _, _, _, none⟩) rfl _ _ rfl w1.heap.size 26 X.cells _ ?_ ?_ Try.underlying26 rfl (ctl_sz _) ?_); rfl; exact b7)
                  | ((with_reducible refine wpList_bld (o := ⟨some 92, .build 37 #[(0, .tmp 91)], _, _, _, none⟩) rfl _ #[(0, .tmp 91)] #[(0, .agg X.cells.toArray)] (didC X 0 0).toArray rfl ?_ (run_d X _) ?_); rfl)
                  | ((with_reducible refine wpList_store_abs (o := ⟨none, .store 37 (.tmp 2) (.tmp 92), _, _, _, none⟩) rfl _ _ _ rfl w.heap.size 37 (didC zK 0 0) (didC X 0 0) ?_ ?_ ?_ ?_ ?_ ?_ ?_); rfl; rfl; exact (B2K.out _ lw); exact did_sz _ _ _; rfl; exact did_one _ _ _; intro w9 b9 o9))
                exact bodyPost_ret (did_ret Try.results19 _ _ w.heap.size X 0 0 rfl b9) rfl ⟨by rw [HRX.out, HRE.out, hPf.out]; rfl, Below.only (LWK.out _ lw) o9 (Nat.le_refl _)⟩
theorem rdec_any (A : Option Addr) (n c : Nat) (b : Wm.Bs) (w : World) (hs : Sl w 1 A n (U b)) (hb : Wm.isBs b) (hnc : n ≤ c) (hn : c ≤ maxLen) (hsm : n ≤ 1000000) (l : List Int) (u : Nat) (e : Int) (hd : Wm.decL Wm.decI 1 b = (l, u, e)) :
    (okR b l u e → Calls Try.prog 19 #[.slice A n c] w fun r w' => r = .returned (.agg (didC (ofL l) 0 0).toArray) ∧ Later w w') ∧ (¬ okR b l u e → Calls Try.prog 19 #[.slice A n c] w fun r w' => r = .returned (.agg (didC zK 0 11).toArray) ∧ Later w w') := by
  have hbl : b.length = n := hs.blen
  by_cases hbad : e ≠ 0 ∨ u ≠ n ∨ l.length ≠ 14
  · refine ⟨fun h => ?_, fun _ => rdec_short A n c b w hs hb hnc hn hsm l u e hd hbad⟩
    obtain ⟨h1, h2, h3, _⟩ := h
    rcases hbad with g | g | g
    · exact absurd h1 g
    · exact absurd (h2.trans hbl) g
    · exact absurd h3 g
  · obtain rfl : e = 0 := by
      rcases Decidable.em (e = 0) with h | h
      · exact h
      · exact absurd (Or.inl h) hbad
    have hun : u = n := by
      rcases Decidable.em (u = n) with h | h
      · exact h
      · exact absurd (Or.inr (Or.inl h)) hbad
    have hl : l.length = 14 := by
      rcases Decidable.em (l.length = 14) with h | h
      · exact h
      · exact absurd (Or.inr (Or.inr h)) hbad
    refine ⟨fun h => ?_, fun h => ?_⟩
    · exact rdec_long A n c b w hs hb hnc hn hsm l u hd hun hl true (by simp only [true_iff]; exact ⟨h.2.2.2.1, h.2.2.2.2⟩)
    · refine rdec_long A n c b w hs hb hnc hn hsm l u hd hun hl false ?_
      constructor
      · intro h9; cases h9
      · rintro ⟨h1, h2⟩; exact absurd ⟨rfl, hun.trans hbl.symm, hl, h1, h2⟩ h
end Go.Proofs.Ytkpigonlnabmdab
