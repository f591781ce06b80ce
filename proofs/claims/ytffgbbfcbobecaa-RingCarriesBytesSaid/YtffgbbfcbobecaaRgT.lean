/-
  A RING: Scatter, both.
-/
import Derived.Test.YtffgbbfcbobecaaRgQ
import Derived.Test.YtffgbbfcbobecaaRgR
namespace Go.Proofs.Ytffgbbfcbobecaa
open Go.RowKit Go.ChangeShapes Go.WideShapes Go.ChangeAt

/-- Bytes scattered over parts, one after the other: the memory, and how many bytes are done. -/
def scStep (D : Wm.Bs) (s : Wm.Bs × Nat) (p : Rg.Pt) : Wm.Bs × Nat := if p.2.2.2 = true then (Mm.wr s.1 p.2.1 ((D.drop s.2).take p.2.2.1.toNat), s.2 + min p.2.2.1.toNat (D.length - s.2)) else s
def scF (b D : Wm.Bs) (l : List Rg.Pt) : Wm.Bs × Nat := l.foldl (scStep D) (b, 0)
theorem scF_succ (b D : Wm.Bs) (l : List Rg.Pt) {k : Nat} (hk : k < l.length) : scF b D (l.take (k + 1)) = scStep D (scF b D (l.take k)) l[k] := by
  unfold scF
  rw [List.take_succ_eq_append_getElem hk, List.foldl_append]
  rfl
theorem ofS_cut (t : ByteArray) (i j : Nat) : Wm.ofS (t.extract i j) = ((Wm.ofS t).drop i).take (j - i) := by
  unfold Wm.ofS
  rw [ByteArray.data_extract, Array.toList_extract, List.extract_eq_take_drop, List.map_take, List.map_drop]
/-- Pages do not lie in a small block. -/
theorem sl_box {w : World} {ad : Addr} {n B : Nat} {x : Wm.Bs} {t : TypeId} {v : Value} (h : Sl w 128 (some ad) n (U x)) (hn : 1 ≤ n) (hb : Blk w B t [v]) : ad.block ≠ B := by
  intro e
  obtain ⟨_, e1, _, hc⟩ := h.2 (by omega)
  cases e1
  have hl : x.length = n * 128 := by have := h.1; rwa [U_length] at this
  have h1 := hc 1 _ (U_get x 1 (by omega))
  have h2 : ad.add 1 = ⟨B, ad.off + 1, none⟩ := by rw [← e]; rfl
  rw [h2] at h1
  have h3 : w.heap[B]? = _ := hb
  unfold World.cell? at h1
  rw [h3] at h1
  simp at h1
/-- What Scatter answers. -/
def GotSc (n : Nat) (X : Wm.Bs) (N : Nat) (w : World) (e : Ending) (w' : World) : Prop := ∃ g c1, e = .returned (.tuple #[.agg #[.slice (some ⟨g, 0, none⟩) n c1], .int .i64 (N : Int)]) ∧ w.heap.size ≤ g ∧ n ≤ c1 ∧ c1 ≤ maxLen ∧ Draft w' g n X ∧ Later w w'
set_option maxRecDepth 100000 in
set_option maxHeartbeats 8000000 in
theorem scatter_any (A : Option Addr) (n c : Nat) (b : Wm.Bs) (A' : Option Addr) (m c' : Nat) (l : List Rg.Pt) (data : ByteArray) (w : World) (hs : Sl w 128 A n (U b)) (hb : Wm.isBs b) (hn1 : 1 ≤ n) (hn : n ≤ 64) (hsl : Sl w 4 A' m (Ps l)) (hl : l.length = m) (hsm : Sml l) (hd : data.size ≤ 1000000) :
    Calls Try.prog 24 #[.agg #[.slice A n c], .slice A' m c', .string data] w (GotSc n (scF b (Wm.ofS data) l).1 (scF b (Wm.ofS data) l).2 w) := by
  have hm : m ≤ 4 := by have := hsm.1; omega
  have HL := Lib.hid hl
  have HE := Lib.hid hsm.2
  have K0 := Lib.hid fun w' (k : Later w w') => pw_any A n c b none 0 0 [] w' (hs.keep k) hb hn1 hn (Sl.nil _ _ _) rfl (fun x hx => by cases hx) (by omega)
  rw [ap_nil'] at K0
  have HAL := Lib.hid (show 0 < m → ∀ ad, A' = some ad → ad.block < w.heap.size from fun hm ad e => by obtain ⟨_, e', h, _⟩ := hsl.2 hm; rw [e'] at e; cases e; exact h)
  obtain ⟨D, hD⟩ : ∃ D, D = Wm.ofS data := ⟨_, rfl⟩
  rw [← hD]
  have HD := Lib.hid hD
  have HDL := Lib.hid (show D.length = data.size from by rw [hD]; exact Wm.ofS_length _)
  clear hl hsm hs hb hD
  have b3 : Blk _ w.heap.size 24 ([.slice A n c]) := ((Blk.new' w w.heap.size 24 ([.slice A n c]).toArray ([.slice A n c]) (by simp) rfl).alloc (.cells ([.slice none 0 0]).toArray 24))
  have b6 : Blk _ (w.heap.size + 1) 24 ([.slice none 0 0]) := (Blk.new' (w.alloc (.cells ([.slice A n c]).toArray 24)) (w.heap.size + 1) 24 ([.slice none 0 0]).toArray ([.slice none 0 0]) (by simp) rfl)
  have lw := ((later1 w (.cells ([.slice A n c]).toArray 24)).alloc (by simp; try omega) (.cells ([.slice none 0 0]).toArray 24))
  obtain ⟨u0, hu⟩ : ∃ u, ((w.alloc (.cells ([.slice A n c]).toArray 24)).alloc (.cells ([.slice none 0 0]).toArray 24)) = u := ⟨_, rfl⟩
  rw [hu] at b3 b6 lw
  replace hsl := hsl.keep lw
  go_enter Try.func24, Try.ntmps24
  go_upto_region 1 with fail
  have hu2 : ((w.alloc (.cells #[.slice A n c] 24)).alloc (.cells #[.slice none 0 0] 24)) = u0 := hu
  try rw [hu2]
  clear hu hu2
  go_wp2_with (first
    | ((with_reducible refine wpList_load_blk (o := ⟨some 13, .load 24 (.tmp 3), _, _, _, none⟩) rfl _ _ rfl w.heap.size 24 ([.slice A n c]) _ ?_ ?_ Try.underlying24 rfl memS ?_); rfl; exact b3)
    | (go_at_call 43; (with_reducible refine (K0.out _ lw).mono ?_); rintro e w1 ⟨g, c1, rfl, g1, g2, g3, dx, l1⟩; have hg := Nat.lt_of_lt_of_le b6.lt g1; replace b6 := b6.keep l1; replace hsl := hsl.keep l1; replace lw := Later.trans_ lw l1)
    | ((with_reducible refine wpList_store_abs (o := ⟨none, .store 24 (.tmp 8) (.tmp 14), _, _, _, none⟩) rfl _ _ _ rfl w1.heap.size 24 ([.slice none 0 0]) ([.slice (some ⟨g, 0, none⟩) n c1]) ?_ ?_ ?_ ?_ ?_ ?_ ?_); rfl; rfl; exact (Blk.new _ _ _ _ rfl); exact memS; rfl; exact (one1 rfl); intro w2 b8 o8; have h81 := b6.lt; have hgl := dx.lt; replace b6 := (b6.alloc (.cells #[.slice none 0 0] 24)).only o8 (Nat.ne_of_lt b6.lt); have l2 := Below.only (later1 w1 (.cells #[.slice none 0 0] 24)) o8 (Nat.le_refl _); replace hsl := hsl.keep l2; replace dx := dx.keep l2; have lw1 := lw.size; replace lw := Later.trans_ lw l2))
  obtain ⟨B8, hB8⟩ : ∃ B8, B8 = w1.heap.size := ⟨_, rfl⟩
  rw [← hB8] at b8 h81 hgl lw1 ⊢
  have HB8 := Lib.hid (show w.heap.size ≤ B8 ∧ B8 ≠ w.heap.size + 1 from ⟨by omega, by omega⟩)
  have hg8 : g ≠ B8 := by omega
  clear hB8 o8 lw1 hgl h81
  go_loopw [9, 17] (fun v9 v wr => ∃ (k : Nat) (x : Wm.Bs) (N g c1 : Nat), k ≤ m ∧ v = .int .i64 (k : Int) ∧ v9 = .int .i64 (N : Int) ∧ Hid (scF b D (l.take k) = (x, N)) ∧ N ≤ data.size ∧ Draft wr g n x ∧ Hid (n ≤ c1 ∧ c1 ≤ maxLen ∧ w.heap.size + 1 < g ∧ g ≠ B8) ∧ Blk wr B8 24 [.slice (some ⟨g, 0, none⟩) n c1] ∧ Blk wr (w.heap.size + 1) 24 [.slice none 0 0] ∧ Sl wr 4 A' m (Ps l) ∧ Later w wr) (fun _ v _ => m - (intOf v).toNat)
  case atStart => exact ⟨0, b, 0, g, c1, Nat.zero_le _, rfl, rfl, Lib.hid rfl, Nat.zero_le _, dx, Lib.hid ⟨g2, g3, hg, hg8⟩, b8, b6, hsl, lw⟩
  case round =>
    clear hsl b6 b8 lw dx hg8 g2 g3 hg b3 l1 g1
    rename_i wr
    obtain ⟨k, x, N, g, c1, hk, rfl, rfl, HA, hN, dx, HN, b8, b6, hs, lr⟩ := hrel
    by_cases hlt : k < m
    · have hkl : k < l.length := by rw [HL.out]; exact hlt
      obtain ⟨ad, hA⟩ := hs.addr (by omega)
      subst hA
      have hadb := HAL.out (by omega) ad rfl
      have hadB : ad.block < B8 := Nat.lt_of_lt_of_le hadb HB8.out.1
      have HC := Lib.hid (hs.ptAt hkl HL.out)
      have HX := Lib.hid (scF_succ b D l hkl)
      obtain ⟨s1, s2, s3, s4⟩ := HE.out _ (List.getElem_mem hkl)
      have kn : (k : Int) < (m : Int) := by omega
      obtain ⟨q, hq⟩ : ∃ q, q = l[k] := ⟨_, rfl⟩
      rw [← hq] at HC HX s1 s2 s3 s4
      rw [HA.out] at HX
      clear hq
      cases hw : q.2.2.2
      · have HY := Lib.hid (show scF b D (l.take (k + 1)) = (x, N) from by rw [HX.out]; unfold scStep; rw [hw]; rfl)
        go_wp2_with (first
    | ((with_reducible refine wpList_load_addr (o := ⟨some 20, .load 59 (.tmp 19), _, _, _, none⟩) rfl _ _ rfl (ad.add (k * 4)) (Pc q) _ ?_ HC.out Try.underlying59 rfl (pt_sz _) ?_); rfl)
    | ((with_reducible refine wpList_store_abs (o := ⟨none, .store 59 (.tmp 11) (.tmp 20), _, _, _, none⟩) rfl _ _ _ rfl wr.heap.size 59 ([.int .i64 0, .int .i64 0, .int .i64 0, .bool false]) (Pc q) ?_ ?_ ?_ ?_ ?_ ?_ ?_); rfl; rfl; exact (Blk.new _ _ _ _ rfl); exact (pt_sz _); rfl; exact (pt_one _); intro w2 b9 o9; have l2 := Below.only (later1 wr (.cells #[.int .i64 0, .int .i64 0, .int .i64 0, .bool false] 59)) o9 (Nat.le_refl _); replace b6 := b6.keep l2; replace b8 := b8.keep l2; replace hs := hs.keep l2; replace dx := dx.keep l2; replace lr := Later.trans_ lr l2; have e3 := b9.cell (j := 3) (v := .bool q.2.2.2) rfl; rw [hw] at e3))
        go_roundw
        case rel => exact ⟨k + 1, x, N, g, c1, by omega, by go_num, rfl, HY, hN, dx, HN, b8, b6, hs, lr⟩
        case measure => simp [intOf]; omega
      · have KU0 := fun w' => upTo_any (data.extract N data.size) q.2.2.1 w' (by omega) (by omega) (by rw [ByteArray.size_extract]; omega)
        obtain ⟨t1, ht1⟩ : ∃ t1, t1 = (data.extract N data.size).extract 0 q.2.2.1.toNat := ⟨_, rfl⟩
        rw [← ht1] at KU0
        have KU := Lib.hid KU0
        have z1 : t1.size = min q.2.2.1.toNat (D.length - N) := by rw [ht1, ByteArray.size_extract, ByteArray.size_extract, HDL.out]; omega
        have z2 : t1.size ≤ 512 := by omega
        have z3 : N + t1.size ≤ data.size := by rw [z1, HDL.out]; omega
        have ht2 : Wm.ofS t1 = (D.drop N).take q.2.2.1.toNat := by
          rw [ht1, ofS_cut, ofS_cut, HD.out, List.drop_zero, List.take_take]
          rw [show min (q.2.2.1.toNat - 0) (data.size - N) = min q.2.2.1.toNat (((Wm.ofS data).drop N).length) from by rw [List.length_drop, Wm.ofS_length]; omega, ← List.take_take, List.take_of_length_le (l := (Wm.ofS data).drop N) (Nat.le_refl _)]
        have KW0 := fun w' (h : Draft w' g n x) => write_any (some ⟨g, 0, none⟩) n c1 q.2.1 t1 x w' h.sl hn1 hn ⟨by omega, by omega⟩
        rw [ht2] at KW0
        obtain ⟨x2, hx2⟩ : ∃ x2, x2 = Mm.wr x q.2.1 ((D.drop N).take q.2.2.1.toNat) := ⟨_, rfl⟩
        have HY := Lib.hid (show scF b D (l.take (k + 1)) = (x2, N + t1.size) from by rw [HX.out]; unfold scStep; rw [if_pos hw, z1, hx2])
        obtain ⟨qb, hqb⟩ : ∃ qb, qb = decide (Mm.Inside (n * 128) q.2.1 t1.size) := ⟨_, rfl⟩
        rw [← hx2, ← hqb] at KW0
        have KW := Lib.hid KW0
        have hN2 : (N : Int) ≤ (data.size : Int) := by omega
        have hz0 := wrap64 ((N : Int) + (t1.size : Int)) (by omega) (by omega)
        clear KU0 KW0 ht1 ht2 hx2 hqb z1
        go_upto_region 6 with (first
    | ((with_reducible refine wpList_load_addr (o := ⟨some 20, .load 59 (.tmp 19), _, _, _, none⟩) rfl _ _ rfl (ad.add (k * 4)) (Pc q) _ ?_ HC.out Try.underlying59 rfl (pt_sz _) ?_); rfl)
    | ((with_reducible refine wpList_store_abs (o := ⟨none, .store 59 (.tmp 11) (.tmp 20), _, _, _, none⟩) rfl _ _ _ rfl wr.heap.size 59 ([.int .i64 0, .int .i64 0, .int .i64 0, .bool false]) (Pc q) ?_ ?_ ?_ ?_ ?_ ?_ ?_); rfl; rfl; exact (Blk.new _ _ _ _ rfl); exact (pt_sz _); rfl; exact (pt_one _); intro w2 b9 o9; have l2 := Below.only (later1 wr (.cells #[.int .i64 0, .int .i64 0, .int .i64 0, .bool false] 59)) o9 (Nat.le_refl _); replace b6 := b6.keep l2; replace b8 := b8.keep l2; replace hs := hs.keep l2; replace dx := dx.keep l2; replace lr := Later.trans_ lr l2; have e3 := b9.cell (j := 3) (v := .bool q.2.2.2) rfl; rw [hw] at e3))
        clear e3
        replace b6 := b6.drew
        replace b8 := b8.drew
        replace b9 := b9.drew
        replace hs : Sl w2.drew 4 (some ad) m (Ps l) := hs
        replace dx : Draft w2.drew g n x := dx
        replace lr := lr.drew
        refine wp_region_held_drew (S := fun w' => World.rangeAt w' wr.heap.size 0 (Pc q)) (by kernel_rfl) (b9.range 0 4) (fun hHeld => ?_)
        refine wpAnyH_take (i := 0) (oi := ⟨some 23, .move (.tmp 2), _, _, _, none⟩) (v := .string data) rfl (by kernel_rfl) (by kernel_rfl) (by kernel_rfl) (fun _ _ _ h => h) (Or.inl ⟨by rfl, fun _ _ => rfl⟩) hHeld ?_
        simp only [Act.put, List.setIfInBounds_toArray, List.set_cons_zero, List.set_cons_succ]
        refine wpAnyH_take (i := 1) (oi := ⟨some 24, .move (.tmp 9), _, _, _, none⟩) (v := .int .i64 (N : Int)) rfl (by kernel_rfl) (by kernel_rfl) (by kernel_rfl) (fun _ _ _ h => h) (Or.inl ⟨by rfl, fun _ _ => rfl⟩) hHeld ?_
        simp only [Act.put, List.setIfInBounds_toArray, List.set_cons_zero, List.set_cons_succ]
        refine wpAnyH_take (i := 2) (oi := ⟨some 25, .slice 9 (.tmp 23) (some (.tmp 24)) none none, _, _, _, none⟩) (v := .string (data.extract N data.size)) rfl (by kernel_rfl) (by kernel_rfl) (by kernel_rfl) (fun _ _ _ h => h) (Or.inl ⟨by rfl, fun w _ => by go_simp⟩) hHeld ?_
        simp only [Act.put, List.setIfInBounds_toArray, List.set_cons_zero, List.set_cons_succ]
        refine wpAnyH_take (i := 3) (oi := ⟨some 26, .fieldAddr 59 (.tmp 11) 2, _, _, _, none⟩) (v := .pointer (some ⟨wr.heap.size, 2, none⟩)) rfl (by kernel_rfl) (by kernel_rfl) (by kernel_rfl) (fun _ _ _ h => h) (Or.inl ⟨by rfl, fun w _ => by go_simp⟩) hHeld ?_
        simp only [Act.put, List.setIfInBounds_toArray, List.set_cons_zero, List.set_cons_succ]
        refine wpAnyH_take (i := 4) (oi := ⟨some 27, .load 3 (.tmp 26), _, _, _, none⟩) (v := .int .i64 q.2.2.1) rfl (by kernel_rfl) (by kernel_rfl) (by kernel_rfl) (fun _ _ _ h => h) (Or.inl ⟨by rfl, fun wz hSw => by have e1 : wz.cell? ⟨wr.heap.size, 2, none⟩ = some (.int .i64 q.2.2.1) := hSw 2 _ rfl; clear hSw; go_simp⟩) hHeld ?_
        simp only [Act.put, List.setIfInBounds_toArray, List.set_cons_zero, List.set_cons_succ]
        refine wpAnyH_ready (rs := [5]) (by kernel_rfl) (by simp) (AllReadyH.cons (o := ⟨some 28, .call { callee := .value (.func 51), args := #[.tmp 25, .tmp 27], argTypes := #[9, 3] }, _, _, _, none⟩) rfl (fun K' hK => ?_) (AllReadyH.nil))
        go_simp
        (with_reducible refine (KU.out _).mono ?_)
        rintro e1 w3 ⟨rfl, rfl⟩
        refine hK.out _ _ (b9.range 0 4) (fun hHeld => ?_)
        clear hK K'
        try simp only [Act.put, List.setIfInBounds_toArray, List.set_cons_zero, List.set_cons_succ]
        refine wpAnyH_take (i := 6) (oi := ⟨some 12, .assign (.tmp 28), _, _, _, none⟩) (v := .string t1) rfl (by kernel_rfl) (by kernel_rfl) (by kernel_rfl) (fun _ _ _ h => h) (Or.inl ⟨by rfl, fun _ _ => rfl⟩) hHeld ?_
        simp only [Act.put, List.setIfInBounds_toArray, List.set_cons_zero, List.set_cons_succ]
        refine wpAnyH_done (by kernel_rfl) ?_ _
        clear hHeld
        have e1 := b9.cell (j := 1) (v := .int .i64 q.2.1) rfl
        go_wp2_with (first
    | ((with_reducible refine wpList_load_blk (o := ⟨some 30, .load 24 (.tmp 8), _, _, _, none⟩) rfl _ _ rfl B8 24 ([.slice (some ⟨g, 0, none⟩) n c1]) _ ?_ ?_ Try.underlying24 rfl memS ?_); rfl; exact b8)
    | (go_at_call 52; (with_reducible refine (KW.out _ dx).mono ?_); rintro e w5 ⟨g2, c2, rfl, h1, h2, h3, dy, l5⟩; clear dx; have h6 := Nat.lt_of_lt_of_le b6.lt h1; have h8 := Nat.lt_of_lt_of_le b8.lt h1; clear e1; replace b6 := b6.keep l5; replace b8 := b8.keep l5; replace hs := hs.keep l5; replace lr := Later.trans_ lr l5)
    | ((with_reducible refine wpList_store_abs (o := ⟨none, .store 24 (.tmp 8) (.tmp 35), _, _, _, none⟩) rfl _ _ _ rfl B8 24 ([.slice (some ⟨g, 0, none⟩) n c1]) ([.slice (some ⟨g2, 0, none⟩) n c2]) ?_ ?_ ?_ ?_ ?_ ?_ ?_); rfl; rfl; exact b8; exact memS; rfl; exact (one1 rfl); intro w6 b8n o6; replace b6 := b6.only o6 (Ne.symm HB8.out.2); replace dy := dy.only o6 (Nat.ne_of_gt h8); replace hs := hs.only_ne o6 (fun ad' e => (by cases e; exact Nat.ne_of_lt hadB)); replace lr := Below.only lr o6 HB8.out.1))
        go_roundw
        case rel => exact ⟨k + 1, x2, N + t1.size, g2, c2, by omega, by go_num, by go_num, HY, z3, dy, Lib.hid ⟨h2, h3, h6, Nat.ne_of_gt h8⟩, b8n, b6, hs, lr⟩
        case measure => simp [intOf]; omega
    · obtain rfl : k = m := by omega
      have nlt : ¬ ((k : Int) < (k : Int)) := by omega
      have HE2 := Lib.hid (show scF b D l = (x, N) from by rw [← HA.out, List.take_of_length_le (by rw [HL.out]; exact Nat.le_refl _)])
      go_wp2_with (first
    | ((with_reducible refine wpList_load_blk (o := ⟨some 42, .load 24 (.tmp 8), _, _, _, none⟩) rfl _ _ rfl B8 24 ([.slice (some ⟨g, 0, none⟩) n c1]) _ ?_ ?_ Try.underlying24 rfl memS ?_); rfl; exact b8)
    | ((with_reducible refine wpList_store_abs (o := ⟨none, .store 24 (.tmp 6) (.tmp 42), _, _, _, none⟩) rfl _ _ _ rfl (w.heap.size + 1) 24 ([.slice none 0 0]) ([.slice (some ⟨g, 0, none⟩) n c1]) ?_ ?_ ?_ ?_ ?_ ?_ ?_); rfl; rfl; exact b6; exact memS; rfl; exact (one1 rfl); intro w9 b9 o9))
      rw [HE2.out]
      exact bodyPost_ret (results_cell_tmp Try.results24 _ _ (w.heap.size + 1) 24 _ _ _ rfl rfl b9 Try.underlying24 rfl memS) rfl ⟨g, c1, rfl, by have := HN.out.2.2.1; omega, HN.out.1, HN.out.2.1, dx.only o9 (Nat.ne_of_gt HN.out.2.2.1), Below.only lr o9 (by omega)⟩
end Go.Proofs.Ytffgbbfcbobecaa
