/-
  A RING: the reference's Scatter.
-/
import Derived.Test.YtffgbbfcbobecaaRgT
namespace Go.Proofs.Ytffgbbfcbobecaa
open Go.RowKit Go.ChangeShapes Go.WideShapes Go.ChangeAt

theorem scS {u v : Value} : (Try.prog.info? 52).map (·.size) = some [u, v].length := by
  show _ = some 2
  kernel_rfl
theorem run_sc (A1 : Option Addr) (n1 c1 : Nat) (x : Int) (w : World) : (Instr.build 52 #[(0, .agg #[.slice A1 n1 c1]), (1, .int .i64 x)]).run Try.prog w = .ok (.agg [.slice A1 n1 c1, .int .i64 x].toArray) w := run_build' w _ _ _ (by kernel_rfl)
/-- What the reference's Scatter answers. -/
def GotSr (n : Nat) (X : Wm.Bs) (N : Nat) (w : World) (e : Ending) (w' : World) : Prop := ∃ A1 c1, e = .returned (.agg #[.slice A1 n c1, .int .i64 (N : Int)]) ∧ n ≤ c1 ∧ c1 ≤ maxLen ∧ Sl w' 128 A1 n (U X) ∧ Later w w'
set_option maxRecDepth 100000 in
set_option maxHeartbeats 8000000 in
theorem rscatter_any (A : Option Addr) (n c : Nat) (b : Wm.Bs) (A' : Option Addr) (m c' : Nat) (l : List Rg.Pt) (data : ByteArray) (w : World) (hs : Sl w 128 A n (U b)) (hn1 : 1 ≤ n) (hn : n ≤ 64) (hnc : n ≤ c) (hc : c ≤ maxLen) (hsl : Sl w 4 A' m (Ps l)) (hl : l.length = m) (hsm : Sml l) (hd : data.size ≤ 1000000) :
    Calls Try.prog 25 #[.agg #[.slice A n c], .slice A' m c', .string data] w (GotSr n (scF b (Wm.ofS data) l).1 (scF b (Wm.ofS data) l).2 w) := by
  have hm : m ≤ 4 := by have := hsm.1; omega
  have HL := Lib.hid hl
  have HE := Lib.hid hsm.2
  have HAL := Lib.hid (show 0 < m → ∀ ad, A' = some ad → ad.block < w.heap.size from fun hm ad e => by obtain ⟨_, e', h, _⟩ := hsl.2 hm; rw [e'] at e; cases e; exact h)
  obtain ⟨D, hD⟩ : ∃ D, D = Wm.ofS data := ⟨_, rfl⟩
  rw [← hD]
  have HD := Lib.hid hD
  have HDL := Lib.hid (show D.length = data.size from by rw [hD]; exact Wm.ofS_length _)
  clear hl hsm hD
  have b3 : Blk _ w.heap.size 24 ([.slice A n c]) := ((Blk.new' w w.heap.size 24 ([.slice A n c]).toArray ([.slice A n c]) (by simp) rfl).alloc (.cells ([.slice none 0 0, .int .i64 0]).toArray 52))
  have b6 : Blk _ (w.heap.size + 1) 52 ([.slice none 0 0, .int .i64 0]) := (Blk.new' (w.alloc (.cells ([.slice A n c]).toArray 24)) (w.heap.size + 1) 52 ([.slice none 0 0, .int .i64 0]).toArray ([.slice none 0 0, .int .i64 0]) (by simp) rfl)
  have lw := ((later1 w (.cells ([.slice A n c]).toArray 24)).alloc (by simp; try omega) (.cells ([.slice none 0 0, .int .i64 0]).toArray 52))
  obtain ⟨u0, hu⟩ : ∃ u, ((w.alloc (.cells ([.slice A n c]).toArray 24)).alloc (.cells ([.slice none 0 0, .int .i64 0]).toArray 52)) = u := ⟨_, rfl⟩
  rw [hu] at b3 b6 lw
  replace hsl := hsl.keep lw
  replace hs := hs.keep lw
  go_enter Try.func25, Try.ntmps25
  go_upto_region 1 with fail
  have hu2 : ((w.alloc (.cells #[.slice A n c] 24)).alloc (.cells #[.slice none 0 0, .int .i64 0] 52)) = u0 := hu
  try rw [hu2]
  clear hu hu2
  go_wp2
  go_loopw [7, 8] (fun v9 v wr => ∃ (k : Nat) (x : Wm.Bs) (N : Nat) (A1 : Option Addr) (c1 : Nat), k ≤ m ∧ v = .int .i64 (k : Int) ∧ v9 = .int .i64 (N : Int) ∧ Hid (scF b D (l.take k) = (x, N)) ∧ N ≤ data.size ∧ Sl wr 128 A1 n (U x) ∧ Hid (n ≤ c1 ∧ c1 ≤ maxLen) ∧ Blk wr w.heap.size 24 [.slice A1 n c1] ∧ Blk wr (w.heap.size + 1) 52 [.slice none 0 0, .int .i64 0] ∧ Sl wr 4 A' m (Ps l) ∧ Later w wr) (fun _ v _ => m - (intOf v).toNat)
  case atStart => exact ⟨0, b, 0, A, c, Nat.zero_le _, rfl, rfl, Lib.hid rfl, Nat.zero_le _, hs, Lib.hid ⟨hnc, hc⟩, b3, b6, hsl, lw⟩
  case round =>
    clear hsl b3 b6 lw hs
    rename_i wr
    obtain ⟨k, x, N, A1, c1, hk, rfl, rfl, HA, hN, sl1, HN, b3, b6, hs, lr⟩ := hrel
    by_cases hlt : k < m
    · have hkl : k < l.length := by rw [HL.out]; exact hlt
      obtain ⟨ad, hA⟩ := hs.addr (by omega)
      subst hA
      have hadb := HAL.out (by omega) ad rfl
      have HF := Lib.hid fun w' (h : Sl w' 4 (some ad) m (Ps l)) => h.ptF hkl HL.out
      have HX := Lib.hid (scF_succ b D l hkl)
      obtain ⟨s1, s2, s3, s4⟩ := HE.out _ (List.getElem_mem hkl)
      have kn : (k : Int) < (m : Int) := by omega
      obtain ⟨q, hq⟩ : ∃ q, q = l[k] := ⟨_, rfl⟩
      rw [← hq] at HF HX s1 s2 s3 s4
      rw [HA.out] at HX
      clear hq
      have f3 := (HF.out _ hs).2.2.2
      have f2 := (HF.out _ hs).2.2.1
      cases hw : q.2.2.2
      · have HY := Lib.hid (show scF b D (l.take (k + 1)) = (x, N) from by rw [HX.out]; unfold scStep; rw [hw]; rfl)
        rw [hw] at f3
        clear hw f2
        go_wp2
        go_roundw
        case rel => exact ⟨k + 1, x, N, A1, c1, by omega, by go_num, rfl, HY, hN, sl1, HN, b3, b6, hs, lr⟩
        case measure => simp [intOf]; omega
      · obtain ⟨z, hz⟩ : ∃ z : Nat, z = min q.2.2.1.toNat (data.size - N) := ⟨_, rfl⟩
        have hz1 : min q.2.2.1 ((data.size : Int) - (N : Int)) = (z : Int) := by omega
        have hz2 : z ≤ 512 := by omega
        have hz3 : N + z ≤ data.size := by omega
        have hz4 : (N : Int) + (z : Int) ≤ (data.size : Int) := by omega
        have hz5 : (N : Int) ≤ (N : Int) + (z : Int) := by omega
        obtain ⟨t1, ht1⟩ : ∃ t1, t1 = data.extract N (N + z) := ⟨_, rfl⟩
        have ht1' := ht1.symm
        have ht2 : Wm.ofS t1 = (D.drop N).take q.2.2.1.toNat := by
          rw [ht1, ofS_cut, HD.out, show N + z - N = min q.2.2.1.toNat (((Wm.ofS data).drop N).length) from by rw [List.length_drop, Wm.ofS_length]; omega, ← List.take_take, List.take_of_length_le (l := (Wm.ofS data).drop N) (Nat.le_refl _)]
        have KW0 := fun w' (h : Sl w' 128 A1 n (U x)) => rwrite_any A1 n c1 q.2.1 t1 x w' h hn1 hn HN.out.1 HN.out.2 ⟨by omega, by omega⟩
        rw [ht2] at KW0
        obtain ⟨x2, hx2⟩ : ∃ x2, x2 = Mm.wr x q.2.1 ((D.drop N).take q.2.2.1.toNat) := ⟨_, rfl⟩
        have HY := Lib.hid (show scF b D (l.take (k + 1)) = (x2, N + z) from by rw [HX.out]; unfold scStep; rw [if_pos hw, hz, hx2, HDL.out])
        obtain ⟨qb, hqb⟩ : ∃ qb, qb = decide (Mm.Inside (n * 128) q.2.1 t1.size) := ⟨_, rfl⟩
        rw [← hx2, ← hqb] at KW0
        have KW := Lib.hid KW0
        have hy0 := wrap64 ((N : Int) + (z : Int)) (by omega) (by omega)
        have hN2 : (N : Int) ≤ (data.size : Int) := by omega
        have hfl := fld_s
        have hnz : ((N : Int) + (z : Int)).toNat = N + z := by omega
        rw [hw] at f3
        clear KW0 ht1 ht2 hx2 hqb hz hw
        go_upto_region 7 with fail
        clear f3 f2
        replace b3 := b3.drew
        replace b6 := b6.drew
        replace hs : Sl wr.drew 4 (some ad) m (Ps l) := hs
        replace sl1 : Sl wr.drew 128 A1 n (U x) := sl1
        replace lr := lr.drew
        have e4 := b3.cell (j := 0) (v := .slice A1 n c1) rfl
        refine wp_region_held_drew (S := fun w' => w'.cell? ⟨(ad.add (k * 4)).block, (ad.add (k * 4)).off + 1, none⟩ = some (.int .i64 q.2.1)) (by kernel_rfl) (HF.out _ hs).2.1 (fun hHeld => ?_)
        refine wpAnyH_take (i := 1) (oi := ⟨some 32, .move (.tmp 1), _, _, _, none⟩) (v := (.slice (some ad) m c')) rfl (by kernel_rfl) (by kernel_rfl) (by kernel_rfl) (fun _ _ _ h => h) (Or.inl ⟨by rfl, fun _ _ => rfl⟩) hHeld ?_
        simp only [Act.put, List.setIfInBounds_toArray, List.set_cons_zero, List.set_cons_succ]
        refine wpAnyH_take (i := 2) (oi := ⟨some 33, .move (.tmp 8), _, _, _, none⟩) (v := .int .i64 (k : Int)) rfl (by kernel_rfl) (by kernel_rfl) (by kernel_rfl) (fun _ _ _ h => h) (Or.inl ⟨by rfl, fun _ _ => rfl⟩) hHeld ?_
        simp only [Act.put, List.setIfInBounds_toArray, List.set_cons_zero, List.set_cons_succ]
        refine wpAnyH_take (i := 3) (oi := ⟨some 34, .indexAddr 35 (.tmp 32) (.tmp 33), _, _, _, none⟩) (v := .pointer (some (ad.add (k * 4)))) rfl (by kernel_rfl) (by kernel_rfl) (by kernel_rfl) (fun _ _ _ h => h) (Or.inl ⟨by rfl, fun w _ => by go_simp⟩) hHeld ?_
        simp only [Act.put, List.setIfInBounds_toArray, List.set_cons_zero, List.set_cons_succ]
        refine wpAnyH_take (i := 4) (oi := ⟨some 35, .fieldAddr 59 (.tmp 34) 1, _, _, _, none⟩) (v := .pointer (some ⟨(ad.add (k * 4)).block, (ad.add (k * 4)).off + 1, none⟩)) rfl (by kernel_rfl) (by kernel_rfl) (by kernel_rfl) (fun _ _ _ h => h) (Or.inl ⟨by rfl, fun w _ => by go_simp⟩) hHeld ?_
        simp only [Act.put, List.setIfInBounds_toArray, List.set_cons_zero, List.set_cons_succ]
        refine wpAnyH_take (i := 5) (oi := ⟨some 36, .load 3 (.tmp 35), _, _, _, none⟩) (v := .int .i64 q.2.1) rfl (by kernel_rfl) (by kernel_rfl) (by kernel_rfl) (fun _ _ _ h => h) (Or.inl ⟨by rfl, fun wz hSw => by have e1 := hSw; clear hSw; go_simp⟩) hHeld ?_
        simp only [Act.put, List.setIfInBounds_toArray, List.set_cons_zero, List.set_cons_succ]
        refine wpAnyH_take (i := 6) (oi := ⟨some 37, .move (.tmp 2), _, _, _, none⟩) (v := .string data) rfl (by kernel_rfl) (by kernel_rfl) (by kernel_rfl) (fun _ _ _ h => h) (Or.inl ⟨by rfl, fun _ _ => rfl⟩) hHeld ?_
        simp only [Act.put, List.setIfInBounds_toArray, List.set_cons_zero, List.set_cons_succ]
        refine wpAnyH_take (i := 7) (oi := ⟨some 38, .move (.tmp 7), _, _, _, none⟩) (v := .int .i64 (N : Int)) rfl (by kernel_rfl) (by kernel_rfl) (by kernel_rfl) (fun _ _ _ h => h) (Or.inl ⟨by rfl, fun _ _ => rfl⟩) hHeld ?_
        simp only [Act.put, List.setIfInBounds_toArray, List.set_cons_zero, List.set_cons_succ]
        refine wpAnyH_take (i := 8) (oi := ⟨some 39, .move (.tmp 7), _, _, _, none⟩) (v := .int .i64 (N : Int)) rfl (by kernel_rfl) (by kernel_rfl) (by kernel_rfl) (fun _ _ _ h => h) (Or.inl ⟨by rfl, fun _ _ => rfl⟩) hHeld ?_
        simp only [Act.put, List.setIfInBounds_toArray, List.set_cons_zero, List.set_cons_succ]
        refine wpAnyH_take (i := 9) (oi := ⟨some 40, .move (.tmp 9), _, _, _, none⟩) (v := .int .i64 (z : Int)) rfl (by kernel_rfl) (by kernel_rfl) (by kernel_rfl) (fun _ _ _ h => h) (Or.inl ⟨by rfl, fun _ _ => rfl⟩) hHeld ?_
        simp only [Act.put, List.setIfInBounds_toArray, List.set_cons_zero, List.set_cons_succ]
        refine wpAnyH_take (i := 10) (oi := ⟨some 41, .binOp .add 3 (.tmp 39) (.tmp 40) 3, _, _, _, none⟩) (v := .int .i64 ((N : Int) + (z : Int))) rfl (by kernel_rfl) (by kernel_rfl) (by kernel_rfl) (fun _ _ _ h => h) (Or.inl ⟨by rfl, fun w _ => by go_simp⟩) hHeld ?_
        simp only [Act.put, List.setIfInBounds_toArray, List.set_cons_zero, List.set_cons_succ]
        refine wpAnyH_take (i := 11) (oi := ⟨some 42, .slice 9 (.tmp 37) (some (.tmp 38)) (some (.tmp 41)) none, _, _, _, none⟩) (v := .string t1) rfl (by kernel_rfl) (by kernel_rfl) (by kernel_rfl) (fun _ _ _ h => h) (Or.inl ⟨by rfl, fun w _ => by go_simp⟩) hHeld ?_
        simp only [Act.put, List.setIfInBounds_toArray, List.set_cons_zero, List.set_cons_succ]
        refine wpAnyH_ready (rs := [0]) (by kernel_rfl) (by simp) (AllReadyH.cons (o := ⟨some 31, .load 24 (.tmp 3), _, _, _, none⟩) rfl (fun K' hK => ?_) AllReadyH.nil)
        go_simp
        refine hK.out _ _ (HF.out _ hs).2.1 (fun hHeld => ?_)
        clear hK K'
        try simp only [Act.put, List.setIfInBounds_toArray, List.set_cons_zero, List.set_cons_succ]
        refine wpAnyH_ready (rs := [12]) (by kernel_rfl) (by simp) (AllReadyH.cons (o := ⟨some 43, .call { callee := .value (.func 53), args := #[.tmp 31, .tmp 36, .tmp 42], argTypes := #[24, 3, 9] }, _, _, _, none⟩) rfl (fun K' hK => ?_) AllReadyH.nil)
        go_simp
        (with_reducible refine (KW.out _ sl1).mono ?_)
        rintro e1 w5 ⟨A2, c2, rfl, h2, h3, sl2, l5⟩
        clear sl1 e4
        replace b3 := b3.keep l5
        replace b6 := b6.keep l5
        replace hs := hs.keep l5
        replace lr := Later.trans_ lr l5
        refine hK.out _ _ (HF.out _ hs).2.1 (fun hHeld => ?_)
        clear hK K'
        try simp only [Act.put, List.setIfInBounds_toArray, List.set_cons_zero, List.set_cons_succ]
        refine wpAnyH_take (i := 13) (oi := ⟨some 44, .field 91 (.tmp 43) 0, _, _, _, none⟩) (v := .agg #[.slice A2 n c2]) rfl (by kernel_rfl) (by kernel_rfl) (by kernel_rfl) (fun _ _ _ h => h) (Or.inl ⟨by rfl, fun w _ => by go_simp⟩) hHeld ?_
        simp only [Act.put, List.setIfInBounds_toArray, List.set_cons_zero, List.set_cons_succ]
        refine wpAnyH_ready (rs := [14]) (by kernel_rfl) (by simp) (AllReadyH.cons (o := ⟨none, .store 24 (.tmp 3) (.tmp 44), _, _, _, none⟩) rfl (fun K' hK => ?_) AllReadyH.nil)
        refine wp_store_blk 24 _ _ rfl w.heap.size 24 [.slice A1 n c1] [.slice A2 n c2] rfl rfl b3 memS rfl (one1 rfl) ?_
        intro w9 b9 o9
        replace sl2 := sl2.only_ne o9 (fun ad' e => (by subst e; exact sl_box sl2 hn1 b3))
        replace b6 := b6.only o9 (by omega)
        replace hs := hs.only_ne o9 (fun ad' e => (by cases e; exact Nat.ne_of_lt hadb))
        replace lr := Below.only lr o9 (by omega)
        refine hK.out _ _ (HF.out _ hs).2.1 (fun hHeld => ?_)
        clear hK K'
        try simp only [Act.put]
        refine wpAnyH_done (by kernel_rfl) ?_ _
        clear hHeld
        clear hz1 ht1' hnz
        go_wp2
        go_roundw
        case rel => exact ⟨k + 1, x2, N + z, A2, c2, by omega, by go_num, by go_num, HY, hz3, sl2, Lib.hid ⟨h2, h3⟩, b9, b6, hs, lr⟩
        case measure => simp [intOf]; omega
    · obtain rfl : k = m := by omega
      have nlt : ¬ ((k : Int) < (k : Int)) := by omega
      have HE2 := Lib.hid (show scF b D l = (x, N) from by rw [← HA.out, List.take_of_length_le (by rw [HL.out]; exact Nat.le_refl _)])
      go_wp2_with (first
    | ((with_reducible refine wpList_load_blk (o := ⟨some 48, .load 24 (.tmp 3), _, _, _, none⟩) rfl _ _ rfl w.heap.size 24 ([.slice A1 n c1]) _ ?_ ?_ Try.underlying24 rfl memS ?_); rfl; exact b3)
    | ((with_reducible refine wpList_bld (o := ⟨some 50, .build 52 #[(0, .tmp 48), (1, .tmp 49)], _, _, _, none⟩) rfl _ #[(0, .tmp 48), (1, .tmp 49)] #[(0, .agg #[.slice A1 n c1]), (1, .int .i64 (N : Int))] [.slice A1 n c1, .int .i64 (N : Int)].toArray rfl ?_ (run_sc _ _ _ _ _) ?_); rfl)
    | ((with_reducible refine wpList_store_abs (o := ⟨none, .store 52 (.tmp 6) (.tmp 50), _, _, _, none⟩) rfl _ _ _ rfl (w.heap.size + 1) 52 ([.slice none 0 0, .int .i64 0]) ([.slice A1 n c1, .int .i64 (N : Int)]) ?_ ?_ ?_ ?_ ?_ ?_ ?_); rfl; rfl; exact b6; exact scS; rfl; exact (one2 rfl rfl); intro w9 b9 o9))
      rw [HE2.out]
      have hne : ∀ ad, A1 = some ad → ad.block ≠ (w.heap.size + 1) := fun ad e h => by
        subst e
        obtain ⟨_, e1, _, hcc⟩ := sl1.2 (by omega)
        cases e1
        have hxl : x.length = n * 128 := by have := sl1.1; rwa [U_length] at this
        have h1 := hcc 2 _ (U_get x 2 (by omega))
        have h2 : ad.add 2 = ⟨(w.heap.size + 1), ad.off + 2, none⟩ := by rw [← h]; rfl
        rw [h2] at h1
        have h3 : wr.heap[(w.heap.size + 1)]? = _ := b6
        unfold World.cell? at h1
        rw [h3] at h1
        simp at h1
      exact bodyPost_ret (results_blk Try.results25 _ _ (w.heap.size + 1) 52 _ _ rfl b9 Try.underlying52 rfl scS) rfl ⟨A1, c1, rfl, HN.out.1, HN.out.2, sl1.only_ne o9 hne, Below.only lr o9 (by omega)⟩
end Go.Proofs.Ytffgbbfcbobecaa
