/-
  A CONTROL: Decode.
-/
import Derived.Test.YtkpigonlnabmdabLinP
import Derived.Deep.RegionHeld
namespace Go.Proofs.Ytkpigonlnabmdab
open Go.RowKit Go.ChangeShapes Go.WideShapes Go.ChangeAt

set_option maxRecDepth 100000 in
set_option maxHeartbeats 2000000 in
/-- Bytes that are no list, or of another length. -/
theorem dec_short (A : Option Addr) (n c : Nat) (b : Wm.Bs) (w : World) (hs : Sl w 1 A n (U b)) (hb : Wm.isBs b) (hnc : n ≤ c) (hn : c ≤ maxLen) (hsm : n ≤ 1000000) (l : List Int) (u : Nat) (e : Int) (hd : Wm.decL Wm.decI 1 b = (l, u, e)) (hbad : e ≠ 0 ∨ l.length ≠ 14) :
    Calls Try.prog 18 #[.slice A n c] w fun r w' => r = .returned (.tuple #[.agg zK.cells.toArray, .int .i64 11]) ∧ Later w w' := by
  have b2 := Blk.new w 26 zK.cells.toArray zK.cells rfl
  have lw := later1 w (.cells zK.cells.toArray 26)
  obtain ⟨u0, hu⟩ : ∃ u0, w.alloc (.cells zK.cells.toArray 26) = u0 := ⟨_, rfl⟩
  have hs0 := hs.alloc (.cells zK.cells.toArray 26)
  rw [hu] at b2 lw hs0
  have HG := Lib.hid (wireGetInts_any A n c b u0 hs0 hb hnc hn hsm)
  rw [hd] at HG
  clear hs0 hd hs hb hn hsm hnc
  by_cases he : e = 0
  · subst he
    have HL := Lib.hid (show l.length ≠ 14 from by rcases hbad with h | h; exact absurd rfl h; exact h)
    clear hbad
    go_enter Try.func18, Try.ntmps18
    go_upto_region 1 with fail
    have hu2 : w.alloc (.cells #[.int .i64 0, .int .u32 0, .int .u32 0, .int .u32 0, .int .u32 0, .int .u32 0, .int .u32 0, .int .u32 0, .int .u32 0, .int .i64 0, .int .i64 0, .int .i64 0, .int .i64 0, .int .i64 0] 26) = u0 := hu
    rw [hu2]
    clear hu hu2
    go_wp2_with (first
      | (go_at_call 35; refine (HG.out).mono ?_; rintro e w1 ⟨A2, n2, c2, rfl, g1, g2, s2, l1⟩; replace s2 : Sl w1 1 A2 n2 (N64 l) := s2; replace b2 := b2.keep l1; replace lw := Later.trans_ lw l1; have hnl : n2 ≠ 14 := (by have := s2.1; rw [N64_len] at this; have := HL.out; omega); have hnz : ((n2 : Int) != 14) = true := (by simp; omega); clear hnl s2)
      | ((with_reducible refine wpList_bld (o := ⟨some 22, .build 26 #[], _, _, _, none⟩) rfl _ #[] #[] zK.cells.toArray rfl ?_ (run_0 _) ?_); rfl)
      | ((with_reducible refine wpList_store_abs (o := ⟨none, .store 26 (.tmp 2) (.tmp 22), _, _, _, none⟩) rfl _ _ _ rfl w.heap.size 26 zK.cells zK.cells ?_ ?_ ?_ ?_ ?_ ?_ ?_); rfl; rfl; exact b2; exact ctl_sz _; rfl; exact ctl_one _; intro w9 b9 o9))
    exact bodyPost_ret (ctl_ret2 Try.results18 _ _ w.heap.size zK (.int .i64 11) rfl rfl b9) rfl ⟨rfl, Below.only lw o9 (Nat.le_refl _)⟩
  · have hne : (e != 0) = true := by simpa using he
    clear hbad he
    go_enter Try.func18, Try.ntmps18
    go_upto_region 1 with fail
    have hu2 : w.alloc (.cells #[.int .i64 0, .int .u32 0, .int .u32 0, .int .u32 0, .int .u32 0, .int .u32 0, .int .u32 0, .int .u32 0, .int .u32 0, .int .i64 0, .int .i64 0, .int .i64 0, .int .i64 0, .int .i64 0] 26) = u0 := hu
    rw [hu2]
    clear hu hu2
    go_wp2_with (first
      | (go_at_call 35; refine (HG.out).mono ?_; rintro e w1 ⟨A2, n2, c2, rfl, g1, g2, s2, l1⟩; replace s2 : Sl w1 1 A2 n2 (N64 l) := s2; replace b2 := b2.keep l1; replace lw := Later.trans_ lw l1; clear s2)
      | ((with_reducible refine wpList_bld (o := ⟨some 22, .build 26 #[], _, _, _, none⟩) rfl _ #[] #[] zK.cells.toArray rfl ?_ (run_0 _) ?_); rfl)
      | ((with_reducible refine wpList_store_abs (o := ⟨none, .store 26 (.tmp 2) (.tmp 22), _, _, _, none⟩) rfl _ _ _ rfl w.heap.size 26 zK.cells zK.cells ?_ ?_ ?_ ?_ ?_ ?_ ?_); rfl; rfl; exact b2; exact ctl_sz _; rfl; exact ctl_one _; intro w9 b9 o9))
    exact bodyPost_ret (ctl_ret2 Try.results18 _ _ w.heap.size zK (.int .i64 11) rfl rfl b9) rfl ⟨rfl, Below.only lw o9 (Nat.le_refl _)⟩
theorem copied {l : List Int} (hl : l.length = 14) : (half l 4 0).cells.take 9 ++ N64 (l.drop 9) ++ (half l 4 0).cells.drop (9 + (N64 (l.drop 9)).length) = (ofL l).cells := by
  match l, hl with
  | [a0, a1, a2, a3, a4, a5, a6, a7, a8, a9, a10, a11, a12, a13], _ => rfl
theorem half_rm (l : List Int) (k : Nat) : ({ ({ half l k 0 with r := upd (half l k 0).r k (wr32 (l.getD (1 + k) 0)) } : Ctl) with m := upd ({ half l k 0 with r := upd (half l k 0).r k (wr32 (l.getD (1 + k) 0)) } : Ctl).m k (wr32 (l.getD (5 + k) 0)) } : Ctl) = half l (k + 1) 0 := by
  unfold half
  show (⟨_, upd (lt_ k fun i => wr32 (l.getD (1 + i) 0)) k ((fun i => wr32 (l.getD (1 + i) 0)) k), upd (lt_ k fun i => wr32 (l.getD (5 + i) 0)) k ((fun i => wr32 (l.getD (5 + i) 0)) k), _⟩ : Ctl) = _
  rw [upd_lt, upd_lt]
set_option maxRecDepth 100000 in
set_option maxHeartbeats 8000000 in
/-- Bytes that are a list of fourteen numbers. -/
theorem dec_long (A : Option Addr) (n c : Nat) (b : Wm.Bs) (w : World) (hs : Sl w 1 A n (U b)) (hb : Wm.isBs b) (hnc : n ≤ c) (hn : c ≤ maxLen) (hsm : n ≤ 1000000) (l : List Int) (u : Nat) (hd : Wm.decL Wm.decI 1 b = (l, u, 0)) (hl : l.length = 14) (V : Bool) (hV : V = true ↔ (ofL l).Ok) :
    Calls Try.prog 18 #[.slice A n c] w fun r w' => r = .returned (.tuple #[.agg (if V && decide (Wm.encL Wm.encI (ofL l).nums = b) then ofL l else zK).cells.toArray, .int .i64 (if V && decide (Wm.encL Wm.encI (ofL l).nums = b) then 0 else 11)]) ∧ Later w w' := by
  have b2 := Blk.new w 26 zK.cells.toArray zK.cells rfl
  have lw := later1 w (.cells zK.cells.toArray 26)
  obtain ⟨u0, hu⟩ : ∃ u0, w.alloc (.cells zK.cells.toArray 26) = u0 := ⟨_, rfl⟩
  have hs0 := hs.alloc (.cells zK.cells.toArray 26)
  rw [hu] at b2 lw hs0
  have HG := Lib.hid (wireGetInts_any A n c b u0 hs0 hb hnc hn hsm)
  rw [hd] at HG
  have hin : inR l := by have := decL_in hb; rw [hd] at this; exact this
  have hwf := ofL_wf hin
  have KV := Lib.hid fun w' => valid_any (ofL l) V w' hwf hV
  have KE := Lib.hid fun w' => enc_any (ofL l) w' hwf
  have hbe : Wm.isBs (Wm.encL Wm.encI (ofL l).nums) := encLI_bytes _
  obtain ⟨D, hD⟩ : ∃ D, D = decide (Wm.encL Wm.encI (ofL l).nums = b) := ⟨_, rfl⟩
  have KQ := Lib.hid (fun A6 n6 c6 (w' : World) (h1 : Sl w' 1 A6 n6 (U (Wm.encL Wm.encI (ofL l).nums))) (h2 : Sl w' 1 A n (U b)) => (show Calls Try.prog 36 #[.slice A6 n6 c6, .slice A n c] w' fun e w'' => e = .returned (.bool D) ∧ w' = w'' from by rw [hD]; exact equal_any A6 A n6 c6 n c _ b w' h1 h2 hbe hb))
  rw [← hD]
  have lk := Lib.hid (fun (w' : World) (hl : Later w w') => hs.keep hl)
  have HCP := Lib.hid (copied hl)
  have HHR := Lib.hid fun k => half_rm l k
  have HH0 := Lib.hid (half_n l)
  have HL14 := Lib.hid hl
  obtain ⟨X, hX⟩ : ∃ X, X = ofL l := ⟨_, rfl⟩
  rw [← hX] at KV KE KQ HCP ⊢
  obtain ⟨EB, hEB⟩ : ∃ EB, EB = Wm.encL Wm.encI X.nums := ⟨_, rfl⟩
  rw [← hEB] at KE KQ
  clear hX hEB hD hbe hs0 hd hs hb hn hsm hnc hin hwf hV hl
  go_enter Try.func18, Try.ntmps18
  go_upto_region 1 with fail
  have hu2 : w.alloc (.cells #[.int .i64 0, .int .u32 0, .int .u32 0, .int .u32 0, .int .u32 0, .int .u32 0, .int .u32 0, .int .u32 0, .int .u32 0, .int .i64 0, .int .i64 0, .int .i64 0, .int .i64 0, .int .i64 0] 26) = u0 := hu
  rw [hu2]
  clear hu hu2
  go_upto_region 4 with (go_at_call 35; refine (HG.out).mono ?_; rintro e w1 ⟨A2, n2, c2, rfl, g1, g2, s2, l1⟩; replace s2 : Sl w1 1 A2 n2 (N64 l) := s2; replace b2 := b2.keep l1; replace lw := Later.trans_ lw l1; obtain rfl : n2 = 14 := (by have := s2.1; rw [N64_len, HL14.out] at this; omega))
  obtain ⟨ad, hA2, hadb, hcell⟩ := s2.2 (by omega)
  subst hA2
  have HC := Lib.hid (fun (w' : World) (hl : Later w1 w') => (show True ∧ ∀ (j : Nat) (v : Value), (N64 l)[j]? = some v → w'.cell? (ad.add j) = some v from by
    have h9 := s2.keep hl
    obtain ⟨ad2, e2, _, hc2⟩ := h9.2 (by omega)
    cases e2
    exact ⟨trivial, hc2⟩))
  have HGD := Lib.hid (fun (j : Nat) (hj : j < 14) => (show (N64 l)[j]? = some (.int .i64 (l.getD j 0)) from by
    rw [N64, List.getElem?_map, List.getD_eq_getElem?_getD, List.getElem?_eq_getElem (by rw [HL14.out]; exact hj)]; rfl))
  have lw0 := lw
  replace lw := later0 w1
  have B2K := Lib.hid (fun (w' : World) (hl : Later w1 w') => b2.keep hl)
  have LWK := Lib.hid (fun (w' : World) (hl : Later w1 w') => Later.trans_ lw0 hl)
  clear hcell s2 b2 lw0 l1 hadb HG
  obtain ⟨y0, hy0⟩ : ∃ y, y = l.getD 0 0 := ⟨_, rfl⟩
  have ec : w1.cell? ad = some (.int .i64 y0) := by
    have := (HC.out _ lw).2 0 _ (HGD.out 0 (by omega))
    rw [hy0]
    rwa [show ad.add 0 = ad from by unfold Addr.add; rw [if_pos rfl]] at this
  have HY0 := Lib.hid hy0
  clear hy0
  go_wp2_with (first
    | ((with_reducible refine wpList_bld (o := ⟨some 26, .build 26 #[(0, .tmp 25)], _, _, _, none⟩) rfl _ #[(0, .tmp 25)] #[(0, .int .i64 y0)] (kN y0).cells.toArray rfl ?_ (run_n y0 _) ?_); rfl)
    | ((with_reducible refine wpList_store_abs (o := ⟨none, .store 26 (.tmp 7) (.tmp 26), _, _, _, none⟩) rfl _ _ _ rfl w1.heap.size 26 zK.cells (kN y0).cells ?_ ?_ ?_ ?_ ?_ ?_ ?_); rfl; rfl; exact (Blk.new _ _ _ _ rfl); exact ctl_sz _; rfl; exact ctl_one _; intro w2 b7 o7; clear ec; replace lw := Below.only (lw.alloc lw.size (.cells zK.cells.toArray 26)) o7 lw.size; clear o7))
  replace b7 : Blk w2 w1.heap.size 26 (half l 0 0).cells := by rw [HH0.out, ← HY0.out]; exact b7
  go_loopw [27] (fun i wr => ∃ k : Nat, k ≤ 4 ∧ i = .int .i64 k ∧ Blk wr w1.heap.size 26 (half l k 0).cells ∧ Later w1 wr) (fun i _ => 4 - (intOf i).toNat)
  case atStart => exact ⟨0, by omega, rfl, b7, lw⟩
  case round =>
    clear b7 lw
    obtain ⟨k, hk, rfl, b7, lw⟩ := hrel
    by_cases hlt : k < 4
    · have hkn : (k : Int) < 4 := by omega
      have hk0 : (0 : Int) ≤ k := by omega
      have a1 : IntKind.i64.wrap (1 + (k : Int)) = 1 + (k : Int) := by rw [IntKind.wrap_i64]; omega
      have a2 : IntKind.i64.wrap (5 + (k : Int)) = 5 + (k : Int) := by rw [IntKind.wrap_i64]; omega
      have q1 : (1 : Int) + (k : Int) < 14 := by omega
      have q2 : (5 : Int) + (k : Int) < 14 := by omega
      have c1 := (HC.out _ lw).2 (1 + k) _ (HGD.out (1 + k) (by omega))
      obtain ⟨z1, hz1⟩ : ∃ z, IntKind.u32.wrap (l.getD (1 + k) 0) = z := ⟨_, rfl⟩
      obtain ⟨z2, hz2⟩ : ∃ z, IntKind.u32.wrap (l.getD (5 + k) 0) = z := ⟨_, rfl⟩
      have HZ := Lib.hid (show z1 = wr32 (l.getD (1 + k) 0) ∧ z2 = wr32 (l.getD (5 + k) 0) from ⟨hz1.symm, hz2.symm⟩)
      obtain ⟨y1, hy1⟩ : ∃ y, y = l.getD (1 + k) 0 := ⟨_, rfl⟩
      obtain ⟨y2, hy2⟩ : ∃ y, y = l.getD (5 + k) 0 := ⟨_, rfl⟩
      rw [← hy1] at c1 hz1
      rw [← hy2] at hz2
      have HY2 := Lib.hid hy2
      clear hy1 hy2
      have e1 := b7.cell (ctl_r (half l k 0) hlt)
      have f1 := b7.frz (1 + k)
      go_upto_region 9 with fail
      obtain ⟨u3, hu3⟩ : ∃ u3, u3 = wr.setCell ⟨w1.heap.size, 1 + k, none⟩ (.int .u32 z1) := ⟨_, rfl⟩
      rw [← hu3]
      replace b7 := b7.set (1 + k) (.int .u32 z1)
      rw [set_r _ hlt] at b7
      replace lw := lw.setCell (p := ⟨w1.heap.size, 1 + k, none⟩) (Nat.le_refl _) (.int .u32 z1)
      rw [← hu3] at b7 lw
      clear hu3 c1 e1 f1 hz1
      have c2' := (HC.out _ lw).2 (5 + k) _ (HGD.out (5 + k) (by omega))
      rw [← HY2.out] at c2'
      have e2 := b7.cell (ctl_m _ hlt)
      have f2 := b7.frz (5 + k)
      go_wp2
      replace b7 := b7.set (5 + k) (.int .u32 z2)
      rw [set_m _ hlt, HZ.out.1, HZ.out.2, HHR.out k, ← HZ.out.2] at b7
      replace lw := lw.setCell (p := ⟨w1.heap.size, 5 + k, none⟩) (Nat.le_refl _) (.int .u32 z2)
      clear c2' e2 f2 hz2
      first
        | exact ⟨⟨k + 1, by omega, by first | go_num | (congr 1; omega), b7, lw⟩, by simp [intOf]; omega⟩
        | (go_roundw
           case rel => first | exact ⟨k + 1, by omega, by go_num, b7, lw⟩ | exact ⟨k + 1, by omega, by omega, b7⟩
           case measure => simp [intOf]; omega)
    · obtain rfl : k = 4 := by omega
      clear hlt hk
      go_upto_region 11 with fail
      replace b7 := b7.drew
      replace lw := lw.drew
      have hc9 : ¬ c2 = 9 := by omega
      have hc9i : (9 : Int) ≤ (c2 : Int) := by omega
      refine wp_region_held_drew (S := fun w' => True) (by kernel_rfl) trivial (fun hHeld => ?_)
      refine wpAnyH_take (i := 0) (oi := ⟨some 49, .fieldAddr 26 (.tmp 7) 3, _, _, _, none⟩) (v := .pointer (some ⟨w1.heap.size, 9, none⟩)) rfl (by kernel_rfl) (by kernel_rfl) (by kernel_rfl) (fun _ _ _ h => h) (Or.inl ⟨by rfl, fun w _ => by go_simp⟩) hHeld ?_
      simp only [Act.put, List.setIfInBounds_toArray, List.set_cons_zero, List.set_cons_succ]
      refine wpAnyH_take (i := 1) (oi := ⟨some 50, .slice 24 (.tmp 49) none none none, _, _, _, none⟩) (v := .slice (some ⟨w1.heap.size, 9, none⟩) 5 5) rfl (by kernel_rfl) (by kernel_rfl) (by kernel_rfl) (fun _ _ _ h => h) (Or.inl ⟨by rfl, fun w _ => by go_simp⟩) hHeld ?_
      simp only [Act.put, List.setIfInBounds_toArray, List.set_cons_zero, List.set_cons_succ]
      refine wpAnyH_take (i := 2) (oi := ⟨some 51, .move (.tmp 4), _, _, _, none⟩) (v := .slice (some ad) 14 c2) rfl (by kernel_rfl) (by kernel_rfl) (by kernel_rfl) (fun _ _ _ h => h) (Or.inl ⟨by rfl, fun _ _ => rfl⟩) hHeld ?_
      simp only [Act.put, List.setIfInBounds_toArray, List.set_cons_zero, List.set_cons_succ]
      refine wpAnyH_take (i := 3) (oi := ⟨some 52, .slice 72 (.tmp 51) (some (.const (.int .i64 9))) none none, _, _, _, none⟩) (v := .slice (some (ad.add 9)) 5 (c2 - 9)) rfl (by kernel_rfl) (by kernel_rfl) (by kernel_rfl) (fun _ _ _ h => h) (Or.inl ⟨by rfl, fun w _ => by go_simp⟩) hHeld ?_
      simp only [Act.put, List.setIfInBounds_toArray, List.set_cons_zero, List.set_cons_succ]
      refine wpAnyH_ready (rs := [4]) (by kernel_rfl) (by simp) (AllReadyH.cons (o := ⟨some 53, .call { callee := .builtin .copy, args := #[.tmp 50, .tmp 52], argTypes := #[72, 72] }, _, _, _, none⟩) rfl (fun K' hK => ?_) (AllReadyH.nil))
      refine wp_copy_row _ _ rfl Try.underlying72 i_sz w1.heap.size 9 _ _ rfl (ad.add 9) 5 (c2 - 9) rfl (N64 (l.drop 9)) (by rw [N64_len, List.length_drop, HL14.out]; rfl) (fun j v hj => by rw [addr_add_add]; exact (HC.out _ lw).2 (9 + j) v (by rw [← hj, N64, N64, List.map_drop, List.getElem?_drop])) 26 (half l 4 0).cells b7 (by rw [N64_len, List.length_drop, HL14.out]; exact (show 9 + 5 ≤ 14 from by decide)) (N64_one _) ?_
      intro w8 b8 o8
      rw [HCP.out] at b8
      replace lw := Below.only lw o8 (Nat.le_refl _)
      refine hK.out _ _ trivial (fun hHeld => ?_)
      clear hK K'
      try simp only [Act.put, List.setIfInBounds_toArray, List.set_cons_zero, List.set_cons_succ]
      refine wpAnyH_done (by kernel_rfl) ?_ _
      clear hHeld
      cases V with
      | false =>
        go_wp2_with (first
          | ((with_reducible refine wpList_load_blk (o := ⟨some 54, .load 26 (.tmp 7), _, _, _, none⟩) rfl _ _ rfl w1.heap.size 26 X.cells _ ?_ ?_ Try.underlying26 rfl (ctl_sz _) ?_); rfl; exact b8)
          | (go_at_call 10; (with_reducible refine (KV.out _).mono ?_); rintro e w5 ⟨rfl, l5⟩; replace lw := Later.trans_ lw l5; have b2 := B2K.out _ lw; have lw2 := LWK.out _ lw)
          | ((with_reducible refine wpList_bld (o := ⟨some 64, .build 26 #[], _, _, _, none⟩) rfl _ #[] #[] zK.cells.toArray rfl ?_ (run_0 _) ?_); rfl)
          | ((with_reducible refine wpList_store_abs (o := ⟨none, .store 26 (.tmp 2) (.tmp 64), _, _, _, none⟩) rfl _ _ _ rfl w.heap.size 26 zK.cells zK.cells ?_ ?_ ?_ ?_ ?_ ?_ ?_); rfl; rfl; exact b2; exact ctl_sz _; rfl; exact ctl_one _; intro w9 b9 o9))
        exact bodyPost_ret (ctl_ret2 Try.results18 _ _ w.heap.size zK (.int .i64 11) rfl rfl b9) rfl ⟨rfl, Below.only lw2 o9 (Nat.le_refl _)⟩
      | true =>
        cases D with
        | false =>
          go_wp2_with (first
            | ((with_reducible refine wpList_load_blk (o := ⟨some 54, .load 26 (.tmp 7), _, _, _, none⟩) rfl _ _ rfl w1.heap.size 26 X.cells _ ?_ ?_ Try.underlying26 rfl (ctl_sz _) ?_); rfl; exact b8)
            | (go_at_call 10; (with_reducible refine (KV.out _).mono ?_); rintro e w5 ⟨rfl, l5⟩; replace b8 := b8.keep l5; replace lw := Later.trans_ lw l5)
            | ((with_reducible refine wpList_load_g (o := ⟨some 58, .load 26 (.tmp 7), _, _, _, _⟩) _ _ rfl w1.heap.size 26 X.cells _ ?_ ?_ ?_ Try.underlying26 ?_ (ctl_sz _) ?_); rfl; rfl; exact b8; rfl)
            | (go_at_call 20; refine (KE.out _).mono ?_; rintro e w6 ⟨A6, n6, c6, rfl, _, _, rfl, s6, l6⟩; replace lw := Later.trans_ lw l6; have b2 := B2K.out _ lw; have lw2 := LWK.out _ lw)
            | (go_at_call 36; refine (KQ.out A6 _ c6 _ s6 (lk.out _ lw2)).mono ?_; rintro e w7 ⟨rfl, rfl⟩)
            | ((with_reducible refine wpList_bld (o := ⟨some 64, .build 26 #[], _, _, _, none⟩) rfl _ #[] #[] zK.cells.toArray rfl ?_ (run_0 _) ?_); rfl)
            | ((with_reducible refine wpList_store_abs (o := ⟨none, .store 26 (.tmp 2) (.tmp 64), _, _, _, none⟩) rfl _ _ _ rfl w.heap.size 26 zK.cells zK.cells ?_ ?_ ?_ ?_ ?_ ?_ ?_); rfl; rfl; exact b2; exact ctl_sz _; rfl; exact ctl_one _; intro w9 b9 o9))
          exact bodyPost_ret (ctl_ret2 Try.results18 _ _ w.heap.size zK (.int .i64 11) rfl rfl b9) rfl ⟨rfl, Below.only lw2 o9 (Nat.le_refl _)⟩
        | true =>
          go_wp2_with (first
            | ((with_reducible refine wpList_load_blk (o := ⟨some 54, .load 26 (.tmp 7), _, _, _, none⟩) rfl _ _ rfl w1.heap.size 26 X.cells _ ?_ ?_ Try.underlying26 rfl (ctl_sz _) ?_); rfl; exact b8)
            | (go_at_call 10; (with_reducible refine (KV.out _).mono ?_); rintro e w5 ⟨rfl, l5⟩; replace b8 := b8.keep l5; replace lw := Later.trans_ lw l5)
            | ((with_reducible refine wpList_load_g (o := ⟨some 58, .load 26 (.tmp 7), _, _, _, _⟩) _ _ rfl w1.heap.size 26 X.cells _ ?_ ?_ ?_ Try.underlying26 ?_ (ctl_sz _) ?_); rfl; rfl; exact b8; rfl)
            | (go_at_call 20; refine (KE.out _).mono ?_; rintro e w6 ⟨A6, n6, c6, rfl, _, _, rfl, s6, l6⟩; replace b8 := b8.keep l6; replace lw := Later.trans_ lw l6; have b2 := B2K.out _ lw; have lw2 := LWK.out _ lw)
            | (go_at_call 36; refine (KQ.out A6 _ c6 _ s6 (lk.out _ lw2)).mono ?_; rintro e w7 ⟨rfl, rfl⟩)
            | ((with_reducible refine wpList_load_blk (o := ⟨some 65, .load 26 (.tmp 7), _, _, _, none⟩) rfl _ _ rfl w1.heap.size 26 X.cells _ ?_ ?_ Try.underlying26 rfl (ctl_sz _) ?_); rfl; exact b8)
            | ((with_reducible refine wpList_store_abs (o := ⟨none, .store 26 (.tmp 2) (.tmp 65), _, _, _, none⟩) rfl _ _ _ rfl w.heap.size 26 zK.cells X.cells ?_ ?_ ?_ ?_ ?_ ?_ ?_); rfl; rfl; exact b2; exact ctl_sz _; rfl; exact ctl_one _; intro w9 b9 o9))
          exact bodyPost_ret (ctl_ret2 Try.results18 _ _ w.heap.size X (.int .i64 0) rfl rfl b9) rfl ⟨rfl, Below.only lw2 o9 (Nat.le_refl _)⟩
theorem dec_any (A : Option Addr) (n c : Nat) (b : Wm.Bs) (w : World) (hs : Sl w 1 A n (U b)) (hb : Wm.isBs b) (hnc : n ≤ c) (hn : c ≤ maxLen) (hsm : n ≤ 1000000) (l : List Int) (u : Nat) (e : Int) (hd : Wm.decL Wm.decI 1 b = (l, u, e)) :
    (okD b l e → Calls Try.prog 18 #[.slice A n c] w fun r w' => r = .returned (.tuple #[.agg (ofL l).cells.toArray, .int .i64 0]) ∧ Later w w') ∧ (¬ okD b l e → Calls Try.prog 18 #[.slice A n c] w fun r w' => r = .returned (.tuple #[.agg zK.cells.toArray, .int .i64 11]) ∧ Later w w') := by
  by_cases hbad : e ≠ 0 ∨ l.length ≠ 14
  · refine ⟨fun h => ?_, fun _ => dec_short A n c b w hs hb hnc hn hsm l u e hd hbad⟩
    rcases hbad with g | g
    · exact absurd h.1 g
    · exact absurd h.2.1 g
  · obtain rfl : e = 0 := by
      rcases Decidable.em (e = 0) with h | h
      · exact h
      · exact absurd (Or.inl h) hbad
    have hl : l.length = 14 := by
      rcases Decidable.em (l.length = 14) with h | h
      · exact h
      · exact absurd (Or.inr h) hbad
    refine ⟨fun h => ?_, fun h => ?_⟩
    · have h9 := dec_long A n c b w hs hb hnc hn hsm l u hd hl true (by simp [h.2.2.1])
      rw [decide_eq_true h.2.2.2] at h9
      exact h9
    · by_cases hok : (ofL l).Ok
      · have h9 := dec_long A n c b w hs hb hnc hn hsm l u hd hl true (by simp [hok])
        rw [decide_eq_false (fun h2 => h ⟨rfl, hl, hok, h2⟩)] at h9
        exact h9
      · have h9 := dec_long A n c b w hs hb hnc hn hsm l u hd hl false (by simp [hok])
        exact h9
end Go.Proofs.Ytkpigonlnabmdab
