/-
  THE STATEMENT RingTouchesNothingElse: Take, Finish and Scatter change nothing but what they are to change.
-/
import Derived.Test.YtffgbbfcbobecaaRgY2
namespace Go.Proofs.Ytffgbbfcbobecaa
open Go.RowKit Go.ChangeShapes Go.WideShapes Go.ChangeAt

def sts (B : Int) (l : List Rg.Pt) : List Rg.Pt := l.map fun p => stP B p.1
def tos (l : List Rg.Pt) : List Rg.Pt := l.filter fun p => p.2.2.2
theorem sts_succ (B : Int) (l : List Rg.Pt) {k : Nat} (hk : k < l.length) : sts B (l.take (k + 1)) = sts B (l.take k) ++ [stP B l[k].1] := by
  unfold sts
  rw [List.take_succ_eq_append_getElem hk, List.map_append]
  rfl
theorem tos_succ (l : List Rg.Pt) {k : Nat} (hk : k < l.length) : tos (l.take (k + 1)) = if l[k].2.2.2 then tos (l.take k) ++ [l[k]] else tos (l.take k) := by
  unfold tos
  rw [List.take_succ_eq_append_getElem hk, List.filter_append]
  cases h : l[k].2.2.2
  · simp [h]
  · simp [h]
theorem sts_len (B : Int) (l : List Rg.Pt) : (sts B l).length = l.length := List.length_map _
theorem own_apart {w w' : World} {base : Nat} {e : TypeId} {size n : Nat} {s t : Value} {xs : List Value} (h : w.ownsRow base e size t n xs) (g : w.grownBy w' s.ownBlock) (hd : ∀ g, s.ownBlock = some g → t.ownBlock ≠ some g) : w'.ownsRow base e size t n xs :=
  h.kept g (by
    cases e : t.ownBlock with
    | none => exact .inl rfl
    | some g => exact .inr (fun h => hd g h.symm e))
set_option maxRecDepth 100000 in
set_option maxHeartbeats 4000000 in
theorem touch_no (A : Option Addr) (n c : Nat) (B S i : Int) (data : ByteArray) (w : World) (hB : Tm.isE B) (hS : Tm.isE S) (h : (decide (1 ≤ n ∧ n ≤ 64) && decide (Rg.Ok (n * 128) B S)) = false ∨ 3000 < data.size) : Calls Try.prog 5 #[.agg #[.slice A n c], .agg #[.int .u32 B, .int .u32 S], .int .u8 i, .string data] w fun e w' => e = .returned (.bool true) ∧ Later w w' := by
  have KT := Lib.hid fun w' => lthere_any A n c B S w' hB hS
  have KN := Lib.hid fun w' => sanity_any w'
  obtain ⟨t, ht⟩ : ∃ t, t = (decide (1 ≤ n ∧ n ≤ 64) && decide (Rg.Ok (n * 128) B S)) := ⟨_, rfl⟩
  rw [← ht] at KT h
  clear ht hB hS
  have b4 : Blk _ w.heap.size 24 ([.slice A n c]) := ((Blk.new' w w.heap.size 24 ([.slice A n c]).toArray ([.slice A n c]) (by simp) rfl).alloc (.cells ([.int .u32 B, .int .u32 S]).toArray 27))
  have b5 : Blk _ (w.heap.size + 1) 27 ([.int .u32 B, .int .u32 S]) := (Blk.new' (w.alloc (.cells ([.slice A n c]).toArray 24)) (w.heap.size + 1) 27 ([.int .u32 B, .int .u32 S]).toArray ([.int .u32 B, .int .u32 S]) (by simp) rfl)
  have lw := ((later1 w (.cells ([.slice A n c]).toArray 24)).alloc (by simp; try omega) (.cells ([.int .u32 B, .int .u32 S]).toArray 27))
  obtain ⟨u0, hu⟩ : ∃ u, ((w.alloc (.cells ([.slice A n c]).toArray 24)).alloc (.cells ([.int .u32 B, .int .u32 S]).toArray 27)) = u := ⟨_, rfl⟩
  rw [hu] at b4 b5 lw
  cases t
  · clear h
    go_enter Try.func5, Try.ntmps5
    go_upto_region 1 with fail
    have hu2 : ((w.alloc (.cells #[.slice A n c] 24)).alloc (.cells #[.int .u32 B, .int .u32 S] 27)) = u0 := hu
    try rw [hu2]
    clear hu hu2
    go_wp2_with (first
      | ((with_reducible refine wpList_load_blk (o := ⟨some 19, .load 24 (.tmp 4), _, _, _, none⟩) rfl _ _ rfl w.heap.size 24 ([.slice A n c]) _ ?_ ?_ Try.underlying24 rfl memS ?_); rfl; exact b4)
      | ((with_reducible refine wpList_load_blk (o := ⟨some 20, .load 27 (.tmp 5), _, _, _, none⟩) rfl _ _ rfl (w.heap.size + 1) 27 ([.int .u32 B, .int .u32 S]) _ ?_ ?_ Try.underlying27 rfl ring_sz ?_); rfl; exact b5)
      | (go_at_call 13; (with_reducible refine (KT.out _).mono ?_); rintro e w1 ⟨rfl, l1⟩; replace b4 := b4.keep l1; replace b5 := b5.keep l1; replace lw := Later.trans_ lw l1)
      | (go_at_call 10; (with_reducible refine (KN.out _).mono ?_); rintro e w9 ⟨rfl, l9⟩; replace lw := Later.trans_ lw l9))
    go_ret
    exact ⟨rfl, lw⟩
  · have d1 : decide ((3000 : Int) < (data.size : Int)) = true := decide_eq_true (by rcases h with h | h; cases h; omega)
    clear h
    go_enter Try.func5, Try.ntmps5
    go_upto_region 1 with fail
    have hu2 : ((w.alloc (.cells #[.slice A n c] 24)).alloc (.cells #[.int .u32 B, .int .u32 S] 27)) = u0 := hu
    try rw [hu2]
    clear hu hu2
    go_wp2_with (first
      | ((with_reducible refine wpList_load_blk (o := ⟨some 19, .load 24 (.tmp 4), _, _, _, none⟩) rfl _ _ rfl w.heap.size 24 ([.slice A n c]) _ ?_ ?_ Try.underlying24 rfl memS ?_); rfl; exact b4)
      | ((with_reducible refine wpList_load_blk (o := ⟨some 20, .load 27 (.tmp 5), _, _, _, none⟩) rfl _ _ rfl (w.heap.size + 1) 27 ([.int .u32 B, .int .u32 S]) _ ?_ ?_ Try.underlying27 rfl ring_sz ?_); rfl; exact b5)
      | (go_at_call 13; (with_reducible refine (KT.out _).mono ?_); rintro e w1 ⟨rfl, l1⟩; replace b4 := b4.keep l1; replace b5 := b5.keep l1; replace lw := Later.trans_ lw l1)
      | (go_at_call 10; (with_reducible refine (KN.out _).mono ?_); rintro e w9 ⟨rfl, l9⟩; replace lw := Later.trans_ lw l9))
    go_ret
    exact ⟨rfl, lw⟩
theorem dis_after {s t : Value} {g5 n5 c5 H : Nat} (hd : ∀ g, s.ownBlock = some g → t.ownBlock ≠ some g) (hat : s.ownBlock = some g5 ∨ g5 = H) (hl : ∀ g, t.ownBlock = some g → g < H) : ∀ g, (Value.slice (some ⟨g5, 0, none⟩) n5 c5).ownBlock = some g → t.ownBlock ≠ some g := by
  intro g hg ht
  have e : g5 = g := by simpa [Value.ownBlock] using hg
  subst e
  rcases hat with h | h
  · exact hd _ h ht
  · exact Nat.lt_irrefl _ (h ▸ hl _ ht)
theorem dis_after' {s t : Value} {g6 n6 c6 H : Nat} (hd : ∀ g, s.ownBlock = some g → t.ownBlock ≠ some g) (hat : t.ownBlock = some g6 ∨ g6 = H) (hl : ∀ g, s.ownBlock = some g → g < H) : ∀ g, s.ownBlock = some g → (Value.slice (some ⟨g6, 0, none⟩) n6 c6).ownBlock ≠ some g := by
  intro g hg ht
  have e : g6 = g := by simpa [Value.ownBlock] using ht
  subst e
  rcases hat with h | h
  · exact hd _ hg h
  · exact Nat.lt_irrefl _ (h ▸ hl _ hg)
set_option maxRecDepth 100000 in
set_option maxHeartbeats 32000000 in
theorem touch_yes (A : Option Addr) (n c : Nat) (b : Wm.Bs) (B S i : Int) (data : ByteArray) (w : World) (hs : Sl w 128 A n (U b)) (hb : Wm.isBs b) (hB : Tm.isE B) (hS : Tm.isE S) (hi0 : 0 ≤ i) (hi1 : i ≤ 255) (h1 : 1 ≤ n ∧ n ≤ 64) (hok : Rg.Ok (n * 128) B S) (hd : data.size ≤ 3000) : Calls Try.prog 5 #[.agg #[.slice A n c], .agg #[.int .u32 B, .int .u32 S], .int .u8 i, .string data] w fun e w' => e = .returned (.bool true) ∧ Later w w' := by
  have KT := Lib.hid fun w' => lthere_any A n c B S w' hB hS
  rw [decide_eq_true h1, decide_eq_true hok] at KT
  have KN := Lib.hid fun w' => sanity_any w'
  obtain ⟨i0', hi0', hz0, hz1, hz2⟩ := info_parts part_info
  have HI := Lib.hid (show _ ∧ _ ∧ _ ∧ _ from ⟨hi0', hz0, hz1, hz2⟩)
  clear hi0' hz0 hz1 hz2
  obtain ⟨ht, hq0, hq1, hq2⟩ := idx_rng hok hi0
  have hSS := hok.s
  obtain ⟨hB0, hB2⟩ := hok.2.2
  obtain ⟨q, hq⟩ : ∃ q, q = i % S := ⟨_, rfl⟩
  rw [← hq] at ht hq0 hq1
  have hL := hs.1
  rw [U_length] at hL
  have hg := Rg.take_good (L := n * 128) (B := B) hb hq0 hq1
  have hsm := good_sml hg hb (by omega)
  have KTK := Lib.hid fun w' (k : Later w w') => take_any A n c b B S q w' (hs.keep k) hb h1.1 h1.2 hok hq0 hq1
  have hER := Lib.hid fun h => (Rg.take_errs (L := n * 128) (b := b) (B := B) (S := S) (i := q) h).1
  have hAE := Lib.hid fun h => apart_err (L := n * 128) (b := b) (B := B) (S := S) (i := q) h
  have hXb := Rg.takM_bs (n * 128) B S q hb
  have hTM := Lib.hid fun h => takM_ok (L := n * 128) (b := b) (B := B) (S := S) (i := q) h
  obtain ⟨l, hl⟩ : ∃ l, l = Rg.takL (n * 128) b B S q := ⟨_, rfl⟩
  obtain ⟨E1, hE1⟩ : ∃ l, l = Rg.takE (n * 128) b B S q := ⟨_, rfl⟩
  obtain ⟨X, hX⟩ : ∃ l, l = Rg.takM (n * 128) b B S q := ⟨_, rfl⟩
  rw [← hl, ← hE1, ← hX] at KTK
  rw [← hE1, ← hl] at hER
  rw [← hE1, ← hX] at hAE
  rw [← hE1, ← hX, ← hl] at hTM
  rw [← hX] at hXb
  rw [← hl] at hg hsm
  have hll := hg.len
  have hst : ∀ p ∈ sts B l, 0 ≤ p.2.1 ∧ p.2.1 ≤ 1000000 ∧ 0 ≤ p.2.2.1 ∧ p.2.2.1 ≤ 1000000 := by
    intro p hp
    obtain ⟨x, hx, rfl⟩ := List.mem_map.1 hp
    have := hg.inr x hx
    refine ⟨?_, ?_, ?_, ?_⟩
    · show 0 ≤ B + 16 * x.1 + 12; omega
    · show B + 16 * x.1 + 12 ≤ 1000000; omega
    · show (0 : Int) ≤ 4; omega
    · show (4 : Int) ≤ 1000000; omega
  have hto : ∀ p ∈ tos l, 0 ≤ p.2.1 ∧ p.2.1 ≤ 1000000 ∧ 0 ≤ p.2.2.1 ∧ p.2.2.1 ≤ 1000000 := by
    intro p hp
    have := hsm.2 p (List.mem_filter.1 hp).1
    omega
  have KFI := Lib.hid fun g c1 AP mp cp w' (h : Draft w' g n X) (k : Sl w' 4 AP mp (Ps l)) (hm : l.length = mp) => finish_any (some ⟨g, 0, none⟩) n c1 X B S AP mp cp l w' h.sl hXb h1.1 h1.2 hok k hm (by omega) hg.inr
  have KSC := Lib.hid fun g c1 AP mp cp w' (h : Draft w' g n X) (k : Sl w' 4 AP mp (Ps l)) (hm : l.length = mp) => scatter_any (some ⟨g, 0, none⟩) n c1 X AP mp cp l data w' h.sl hXb h1.1 h1.2 k hm hsm (by omega)
  have hAO : Apart X (scF X (Wm.ofS data) l).1 (tos l) := apart_scat _ (fun p hp => ⟨(hsm.2 p hp).2.2.1, (hsm.2 p hp).1⟩)
  have hAF : Apart X (Rg.mark X B l 3) (sts B l) := apart_mark _ _ _ _
  obtain ⟨O1, hO1⟩ : ∃ X', X' = (scF X (Wm.ofS data) l).1 := ⟨_, rfl⟩
  obtain ⟨O2, hO2⟩ : ∃ X', X' = (scF X (Wm.ofS data) l).2 := ⟨_, rfl⟩
  obtain ⟨Z, hZ⟩ : ∃ X', X' = Rg.mark X B l 3 := ⟨_, rfl⟩
  rw [← hO1] at KSC hAO
  rw [← hO2] at KSC
  rw [← hZ] at KFI hAF
  have KA2 := Lib.hid fun g c1 g2 c2 AS ms cs w' (h : Draft w' g n X) (h2 : Draft w' g2 n O1) (k : Sl w' 4 AS ms (Ps (tos l))) (hm : ms = (tos l).length) => apart_any (some ⟨g, 0, none⟩) n c1 X (some ⟨g2, 0, none⟩) c2 O1 AS ms cs (tos l) w' h.sl h2.sl h1.2 k hm.symm (by have := List.length_filter_le (fun p : Rg.Pt => p.2.2.2) l; unfold tos at hm; omega) hto hAO
  have KA3 := Lib.hid fun g c1 g2 c2 AS ms cs w' (h : Draft w' g n X) (h2 : Draft w' g2 n Z) (k : Sl w' 4 AS ms (Ps (sts B l))) (hm : l.length = ms) => apart_any (some ⟨g, 0, none⟩) n c1 X (some ⟨g2, 0, none⟩) c2 Z AS ms cs (sts B l) w' h.sl h2.sl h1.2 k ((sts_len B l).trans hm) (by omega) hst hAF
  have KA10 := Lib.hid fun (hE : E1 = 0) g c1 AS ms cs w' (kk : Later w w') (h : Draft w' g n X) (k : Sl w' 4 AS ms (Ps (sts B l))) (hm : l.length = ms) => apart_any A n c b (some ⟨g, 0, none⟩) c1 X AS ms cs (sts B l) w' (hs.keep kk) h.sl h1.2 k ((sts_len B l).trans hm) (by omega) hst (by rw [hTM.out hE]; exact apart_mark _ _ _ _)
  have hp4 : (Pc (stP B q)).length = 1 * 4 := rfl
  have KE0 := Lib.hid fun (hE : E1 ≠ 0) g c1 GS w' (kk : Later w w') (h : Draft w' g n X) (k : Sl w' 4 (some ⟨GS, 0, none⟩) 1 (Pc (stP B q))) => apart_any A n c b (some ⟨g, 0, none⟩) c1 X (some ⟨GS, 0, none⟩) 1 1 [stP B q] w' (hs.keep kk) h.sl h1.2 (show Sl w' 4 _ 1 (Ps [stP B q]) from by rw [show Ps [stP B q] = Pc (stP B q) from by unfold Ps; simp]; exact k) rfl (by omega) (by
    intro p hp
    obtain rfl := List.mem_singleton.1 hp
    refine ⟨?_, ?_, ?_, ?_⟩
    · show 0 ≤ B + 16 * q + 12; omega
    · show B + 16 * q + 12 ≤ 1000000; omega
    · show (0 : Int) ≤ 4; omega
    · show (4 : Int) ≤ 1000000; omega) (hAE.out hE)
  have KS1 := Lib.hid fun w' => state_any B S q w' hB0 (by omega) hq0 (by omega)
  obtain ⟨p, hp⟩ : ∃ p, p = stP B q := ⟨_, rfl⟩
  rw [← hp] at hp4 KE0 KS1
  have KS0 := Lib.hid fun (x : Rg.Pt) (hx : x ∈ l) w' => state_any B S x.1 w' hB0 (by omega) (hg.inr x hx).1 (by have := (hg.inr x hx).2; omega)
  have d1 : decide ((3000 : Int) < (data.size : Int)) = false := decide_eq_false (by omega)
  have hqs : (i % S) = q := hq.symm
  have cS := wrap64 S (by omega) (by omega)
  have ci := wrap64 i hi0 (by omega)
  clear hq hl hE1 hX hXb hZ hO1 hO2 hAO hAF hAE hTM hst hto hs hb hB hS hok hL hSS hg h1 hsm hp hB0 hB2 hd
  have b4 : Blk _ w.heap.size 24 ([.slice A n c]) := ((Blk.new' w w.heap.size 24 ([.slice A n c]).toArray ([.slice A n c]) (by simp) rfl).alloc (.cells ([.int .u32 B, .int .u32 S]).toArray 27))
  have b5 : Blk _ (w.heap.size + 1) 27 ([.int .u32 B, .int .u32 S]) := (Blk.new' (w.alloc (.cells ([.slice A n c]).toArray 24)) (w.heap.size + 1) 27 ([.int .u32 B, .int .u32 S]).toArray ([.int .u32 B, .int .u32 S]) (by simp) rfl)
  have lw := ((later1 w (.cells ([.slice A n c]).toArray 24)).alloc (by simp; try omega) (.cells ([.int .u32 B, .int .u32 S]).toArray 27))
  obtain ⟨u0, hu⟩ : ∃ u, ((w.alloc (.cells ([.slice A n c]).toArray 24)).alloc (.cells ([.int .u32 B, .int .u32 S]).toArray 27)) = u := ⟨_, rfl⟩
  rw [hu] at b4 b5 lw
  go_enter Try.func5, Try.ntmps5
  go_upto_region 1 with fail
  have hu2 : ((w.alloc (.cells #[.slice A n c] 24)).alloc (.cells #[.int .u32 B, .int .u32 S] 27)) = u0 := hu
  try rw [hu2]
  clear hu hu2
  go_upto_region 3 with (first
    | ((with_reducible refine wpList_load_blk (o := ⟨some 19, .load 24 (.tmp 4), _, _, _, none⟩) rfl _ _ rfl w.heap.size 24 ([.slice A n c]) _ ?_ ?_ Try.underlying24 rfl memS ?_); rfl; exact b4)
    | ((with_reducible refine wpList_load_blk (o := ⟨some 20, .load 27 (.tmp 5), _, _, _, none⟩) rfl _ _ rfl (w.heap.size + 1) 27 ([.int .u32 B, .int .u32 S]) _ ?_ ?_ Try.underlying27 rfl ring_sz ?_); rfl; exact b5)
    | (go_at_call 13; (with_reducible refine (KT.out _).mono ?_); rintro e w1 ⟨rfl, l1⟩; replace b4 := b4.keep l1; replace b5 := b5.keep l1; replace lw := Later.trans_ lw l1))
  clear d1
  have e5 := b5.cell (j := 1) (v := .int .u32 S) rfl
  go_upto_region 5 with (first
    | ((with_reducible refine wpList_load_blk (o := ⟨some 36, .load 24 (.tmp 4), _, _, _, none⟩) rfl _ _ rfl w.heap.size 24 ([.slice A n c]) _ ?_ ?_ Try.underlying24 rfl memS ?_); rfl; exact b4)
    | ((with_reducible refine wpList_load_blk (o := ⟨some 37, .load 27 (.tmp 5), _, _, _, none⟩) rfl _ _ rfl (w.heap.size + 1) 27 ([.int .u32 B, .int .u32 S]) _ ?_ ?_ Try.underlying27 rfl ring_sz ?_); rfl; exact b5)
    | (go_at_call 15; (with_reducible refine (KTK.out _ lw).mono ?_); rintro e w7 ⟨g, c1, AP, mp, cp, rfl, _, _, _, dX, _, _, sP, hpl, l7⟩; replace b4 := b4.keep l7; replace b5 := b5.keep l7; replace lw := Later.trans_ lw l7)
    | ((with_reducible refine wpList_store_abs (o := ⟨none, .store 24 (.tmp 10) (.tmp 40), _, _, _, none⟩) rfl _ _ _ rfl w7.heap.size 24 ([.slice none 0 0]) ([.slice (some ⟨g, 0, none⟩) n c1]) ?_ ?_ ?_ ?_ ?_ ?_ ?_); rfl; rfl; exact (Blk.new _ _ _ _ rfl); exact memS; rfl; exact (one1 rfl); intro w8 b10 o10; have l8 := Below.only (later1 w7 (.cells #[.slice none 0 0] 24)) o10 (Nat.le_refl _); replace b4 := b4.keep l8; replace b5 := b5.keep l8; replace dX := dX.keep l8; replace sP := sP.keep l8; replace lw := Later.trans_ lw l8; clear l8 o10))
  clear e5
  obtain ⟨G10, hG10⟩ : ∃ g, g = w7.heap.size := ⟨_, rfl⟩
  rw [← hG10] at b10 ⊢
  clear hG10
  clear ht hqs cS ci hq2 KT KTK
  by_cases hE : E1 ≠ 0
  · clear KA10 KA2 KA3 KFI KSC KS0
    have e0 : (E1 != 0) = true := bne_iff_ne.2 hE
    have KE := Lib.hid (KE0.out hE)
    have hmp : mp = 0 := by rw [← hpl, hER.out hE]; rfl
    subst hmp
    clear sP hpl
    go_upto_region 6 with fail
    clear e0
    replace b4 := b4.drew
    replace b5 := b5.drew
    replace b10 := b10.drew
    replace lw := lw.drew
    replace dX : Draft w8.drew g n X := dX
    refine wp_region_held_drew (S := fun w' => World.rangeAt w' w.heap.size 0 [.slice A n c] ∧ World.rangeAt w' (w.heap.size + 1) 0 [.int .u32 B, .int .u32 S] ∧ World.rangeAt w' G10 0 [.slice (some ⟨g, 0, none⟩) n c1]) (by kernel_rfl) ⟨b4.range 0 1, b5.range 0 2, b10.range 0 1⟩ (fun hHeld => ?_)
    refine wpAnyH_ready (rs := [0]) (by kernel_rfl) (by simp) (AllReadyH.cons (o := ⟨some 45, .call { callee := .value (.func 10), args := #[], argTypes := #[] }, _, _, _, none⟩) rfl (fun K' hK => ?_) (AllReadyH.nil))
    go_simp
    (with_reducible refine (KN.out _).mono ?_)
    rintro e x1 ⟨rfl, n1⟩
    replace b4 := b4.keep n1
    replace b5 := b5.keep n1
    replace b10 := b10.keep n1
    replace dX := dX.keep n1
    replace lw := Later.trans_ lw n1
    refine hK.out _ _ ⟨b4.range 0 1, b5.range 0 2, b10.range 0 1⟩ (fun hHeld => ?_)
    clear hK K'
    try simp only [Act.put, List.setIfInBounds_toArray, List.set_cons_zero, List.set_cons_succ]
    refine wpAnyH_take (i := 1) (oi := ⟨some 46, .move (.tmp 45), _, _, _, none⟩) (v := .bool true) rfl (by kernel_rfl) (by kernel_rfl) (by kernel_rfl) (fun _ _ _ h => h) (Or.inl ⟨by rfl, fun _ _ => rfl⟩) hHeld ?_
    simp only [Act.put, List.setIfInBounds_toArray, List.set_cons_zero, List.set_cons_succ]
    refine wpAnyH_take (i := 2) (oi := ⟨some 47, .move (.tmp 11), _, _, _, _⟩) (v := .slice AP 0 cp) rfl (by kernel_rfl) (by kernel_rfl) (by kernel_rfl) (fun _ _ _ h => h) (Or.inl ⟨by rfl, fun _ _ => rfl⟩) hHeld ?_
    simp only [Act.put, List.setIfInBounds_toArray, List.set_cons_zero, List.set_cons_succ]
    refine wpAnyH_take (i := 3) (oi := ⟨some 48, .call { callee := .builtin .len, args := #[.tmp 47], argTypes := #[35] }, _, _, _, _⟩) (v := .int .i64 0) rfl (by kernel_rfl) (by kernel_rfl) (by kernel_rfl) (fun _ _ _ h => h) (Or.inl ⟨by rfl, fun w _ => by go_simp⟩) hHeld ?_
    simp only [Act.put, List.setIfInBounds_toArray, List.set_cons_zero, List.set_cons_succ]
    refine wpAnyH_take (i := 4) (oi := ⟨some 49, .binOp .eql 3 (.tmp 48) (.const (.int .i64 0)) 3, _, _, _, _⟩) (v := .bool true) rfl (by kernel_rfl) (by kernel_rfl) (by kernel_rfl) (fun _ _ _ h => h) (Or.inl ⟨by rfl, fun w _ => by go_simp⟩) hHeld ?_
    simp only [Act.put, List.setIfInBounds_toArray, List.set_cons_zero, List.set_cons_succ]
    refine wpAnyH_take (i := 5) (oi := ⟨some 50, .pick (.tmp 46) (.tmp 49) (.const (.bool false)), _, _, _, none⟩) (v := .bool true) rfl (by kernel_rfl) (by kernel_rfl) (by kernel_rfl) (fun _ _ _ h => h) (Or.inl ⟨by rfl, fun w _ => by go_simp⟩) hHeld ?_
    simp only [Act.put, List.setIfInBounds_toArray, List.set_cons_zero, List.set_cons_succ]
    refine wpAnyH_take (i := 6) (oi := ⟨some 51, .move (.tmp 50), _, _, _, none⟩) (v := .bool true) rfl (by kernel_rfl) (by kernel_rfl) (by kernel_rfl) (fun _ _ _ h => h) (Or.inl ⟨by rfl, fun _ _ => rfl⟩) hHeld ?_
    simp only [Act.put, List.setIfInBounds_toArray, List.set_cons_zero, List.set_cons_succ]
    refine wpAnyH_take (i := 7) (oi := ⟨some 52, .load 24 (.tmp 4), _, _, _, _⟩) (v := .agg ([.slice A n c]).toArray) rfl (by kernel_rfl) (by kernel_rfl) (by kernel_rfl) (fun _ _ _ h => h) (yieldsIf_load_mid (by rfl) _ _ rfl w.heap.size 0 rfl ([.slice A n c]) _ (fun wz hSw => hSw.1) Try.underlying24 rfl memS) hHeld ?_
    simp only [Act.put, List.setIfInBounds_toArray, List.set_cons_zero, List.set_cons_succ]
    refine wpAnyH_take (i := 8) (oi := ⟨some 53, .load 24 (.tmp 10), _, _, _, _⟩) (v := .agg ([.slice (some ⟨g, 0, none⟩) n c1]).toArray) rfl (by kernel_rfl) (by kernel_rfl) (by kernel_rfl) (fun _ _ _ h => h) (yieldsIf_load_mid (by rfl) _ _ rfl G10 0 rfl ([.slice (some ⟨g, 0, none⟩) n c1]) _ (fun wz hSw => hSw.2.2) Try.underlying24 rfl memS) hHeld ?_
    simp only [Act.put, List.setIfInBounds_toArray, List.set_cons_zero, List.set_cons_succ]
    refine wpAnyH_take (i := 9) (oi := ⟨some 54, .load 27 (.tmp 5), _, _, _, _⟩) (v := .agg ([.int .u32 B, .int .u32 S]).toArray) rfl (by kernel_rfl) (by kernel_rfl) (by kernel_rfl) (fun _ _ _ h => h) (yieldsIf_load_mid (by rfl) _ _ rfl (w.heap.size + 1) 0 rfl ([.int .u32 B, .int .u32 S]) _ (fun wz hSw => hSw.2.1) Try.underlying27 rfl ring_sz) hHeld ?_
    simp only [Act.put, List.setIfInBounds_toArray, List.set_cons_zero, List.set_cons_succ]
    refine wpAnyH_take (i := 10) (oi := ⟨some 55, .move (.tmp 9), _, _, _, _⟩) (v := .int .i64 q) rfl (by kernel_rfl) (by kernel_rfl) (by kernel_rfl) (fun _ _ _ h => h) (Or.inl ⟨by rfl, fun _ _ => rfl⟩) hHeld ?_
    simp only [Act.put, List.setIfInBounds_toArray, List.set_cons_zero, List.set_cons_succ]
    refine wpAnyH_ready (rs := [11]) (by kernel_rfl) (by simp) (AllReadyH.cons (o := ⟨some 56, .call { callee := .value (.func 31), args := #[.tmp 54, .tmp 55], argTypes := #[27, 3] }, _, _, _, _⟩) rfl (fun K' hK => ?_) (AllReadyH.nil))
    go_simp
    (with_reducible refine (KS1.out _).mono ?_)
    rintro e x2 ⟨rfl, n2⟩
    replace b4 := b4.keep n2
    replace b5 := b5.keep n2
    replace b10 := b10.keep n2
    replace dX := dX.keep n2
    replace lw := Later.trans_ lw n2
    refine hK.out _ _ ⟨b4.range 0 1, b5.range 0 2, b10.range 0 1⟩ (fun hHeld => ?_)
    clear hK K'
    try simp only [Act.put, List.setIfInBounds_toArray, List.set_cons_zero, List.set_cons_succ]
    refine wpAnyH_ready (rs := [12]) (by kernel_rfl) (by simp) (AllReadyH.cons (o := ⟨some 57, .buildSlice 35 1 #[(0, .tmp 56)], _, _, _, _⟩) rfl (fun K' hK => ?_) (AllReadyH.nil))
    refine wp_build1 _ 59 _ rfl (Pc p).toArray i0' _ Try.underlying35 HI.out.1 HI.out.2.1 HI.out.2.2.1 (show 0 < 4 from by decide) (show 4 ≤ 16777216 from by decide) rfl ?_
    have bn := Blk.new x2 59 (Pc p).toArray (Pc p) rfl
    replace b4 := b4.alloc (.cells (Pc p).toArray 59)
    replace b5 := b5.alloc (.cells (Pc p).toArray 59)
    replace b10 := b10.alloc (.cells (Pc p).toArray 59)
    replace dX := dX.keep (later1 x2 (.cells (Pc p).toArray 59))
    replace lw := lw.alloc lw.size (.cells (Pc p).toArray 59)
    refine hK.out _ _ ⟨b4.range 0 1, b5.range 0 2, b10.range 0 1⟩ (fun hHeld => ?_)
    clear hK K'
    try simp only [Act.put, List.setIfInBounds_toArray, List.set_cons_zero, List.set_cons_succ]
    refine wpAnyH_ready (rs := [13]) (by kernel_rfl) (by simp) (AllReadyH.cons (o := ⟨some 58, .call { callee := .value (.func 30), args := #[.tmp 52, .tmp 53, .tmp 57], argTypes := #[24, 24, 35] }, _, _, _, _⟩) rfl (fun K' hK => ?_) (AllReadyH.nil))
    go_simp
    (with_reducible refine (KE.out g c1 x2.heap.size _ lw dX (blk_slK (size := 4) bn hp4)).mono ?_)
    rintro e x3 ⟨rfl, n3⟩
    clear bn
    replace b4 := b4.keep n3
    replace b5 := b5.keep n3
    replace b10 := b10.keep n3
    replace dX := dX.keep n3
    replace lw := Later.trans_ lw n3
    refine hK.out _ _ ⟨b4.range 0 1, b5.range 0 2, b10.range 0 1⟩ (fun hHeld => ?_)
    clear hK K'
    try simp only [Act.put, List.setIfInBounds_toArray, List.set_cons_zero, List.set_cons_succ]
    refine wpAnyH_take (i := 14) (oi := ⟨some 59, .pick (.tmp 51) (.tmp 58) (.const (.bool false)), _, _, _, none⟩) (v := .bool true) rfl (by kernel_rfl) (by kernel_rfl) (by kernel_rfl) (fun _ _ _ h => h) (Or.inl ⟨by rfl, fun w _ => by go_simp⟩) hHeld ?_
    simp only [Act.put, List.setIfInBounds_toArray, List.set_cons_zero, List.set_cons_succ]
    refine wpAnyH_take (i := 15) (oi := ⟨some 8, .assign (.tmp 59), _, _, _, none⟩) (v := .bool true) rfl (by kernel_rfl) (by kernel_rfl) (by kernel_rfl) (fun _ _ _ h => h) (Or.inl ⟨by rfl, fun _ _ => rfl⟩) hHeld ?_
    simp only [Act.put, List.setIfInBounds_toArray, List.set_cons_zero, List.set_cons_succ]
    refine wpAnyH_done (by kernel_rfl) ?_ _
    clear hHeld
    go_wp2
    go_ret
    exact ⟨rfl, lw⟩
  · replace hE : E1 = 0 := Classical.byContradiction hE
    have KA1 := Lib.hid (KA10.out hE)
    clear KA10 hp4
    subst hE
    clear hER KE0 KS1
    go_upto_region 8 with fail
    go_wp2
    go_loopw [13, 14, 62] (fun s t v wr => ∃ k m2 : Nat, k ≤ mp ∧ v = .int .i64 (k : Int) ∧ wr.ownsRow w8.heap.size 59 4 s k (Ps (sts B (l.take k))) ∧ wr.ownsRow w8.heap.size 59 4 t m2 (Ps (tos (l.take k))) ∧ Hid (m2 = (tos (l.take k)).length) ∧ Hid (∀ g, s.ownBlock = some g → t.ownBlock ≠ some g) ∧ Later w8 wr) (fun _ _ v _ => mp - (intOf v).toNat)
    case atStart => exact ⟨0, 0, Nat.zero_le _, rfl, World.ownsRow_nil _ _ _ _, World.ownsRow_nil _ _ _ _, Lib.hid rfl, Lib.hid (fun g h => by cases h), later0 _⟩
    case round =>
      rename_i wr
      obtain ⟨k, m2, hk, rfl, ho1, ho2, hm2, HDJ, lr⟩ := hrel

      by_cases hlt : k < mp
      · have hkl : k < l.length := by rw [hpl]; exact hlt
        obtain ⟨ad, hA⟩ := sP.addr (by omega)
        subst hA
        have HC := Lib.hid fun w' (h : Sl w' 4 (some ad) mp (Ps l)) => h.ptAt hkl hpl
        have HS1 := Lib.hid (sts_succ B l hkl)
        have HS20 := tos_succ l hkl
        have KST := Lib.hid fun w' => KS0.out l[k] (List.getElem_mem hkl) w'
        have kn : (k : Int) < (mp : Int) := by omega
        have hml : (tos (l.take k)).length ≤ k := Nat.le_trans (List.length_filter_le _ _) (by rw [List.length_take]; omega)
        obtain ⟨q1, hq1⟩ : ∃ q, q = l[k] := ⟨_, rfl⟩
        rw [← hq1] at HC HS1 HS20 KST
        clear hq1
        obtain ⟨p, hp⟩ : ∃ p, p = stP B q1.1 := ⟨_, rfl⟩
        rw [← hp] at HS1 KST
        clear hp
        have hs1 := Lib.hid fun g hg => (ho1.lt g hg).2
        have hkm : k ≤ 4 ∧ m2 ≤ 4 := by have := hm2.out; omega
        cases hw : q1.2.2.2
        · have HS2 := Lib.hid (show tos (l.take (k + 1)) = tos (l.take k) from by rw [HS20, hw]; rfl)
          clear HS20 hml
          go_wp2_with (first
      | ((with_reducible refine wpList_load_addr (o := ⟨some 65, .load 59 (.tmp 64), _, _, _, none⟩) rfl _ _ rfl (ad.add (k * 4)) (Pc q1) _ ?_ (HC.out _ (sP.keep lr)) Try.underlying59 rfl (pt_sz _) ?_); rfl)
      | ((with_reducible refine wpList_store_abs (o := ⟨none, .store 59 (.tmp 16) (.tmp 65), _, _, _, none⟩) rfl _ _ _ rfl wr.heap.size 59 ([.int .i64 0, .int .i64 0, .int .i64 0, .bool false]) (Pc q1) ?_ ?_ ?_ ?_ ?_ ?_ ?_); rfl; rfl; exact (Blk.new _ _ _ _ rfl); exact (pt_sz _); rfl; exact (pt_one _); intro w2 b16 o16; have l2 := Below.only (later1 wr (.cells #[.int .i64 0, .int .i64 0, .int .i64 0, .bool false] 59)) o16 (Nat.le_refl _); replace ho1 := own_below ho1 l2; replace ho2 := own_below ho2 l2; replace lr := Later.trans_ lr l2; clear l2 o16; have e16 := b16.cell (j := 0) (v := .int .i64 q1.1) rfl; have f16 := b16.cell (j := 3) (v := .bool q1.2.2.2) rfl; rw [hw] at f16)
      | ((with_reducible refine wpList_load_blk (o := ⟨some 67, .load 27 (.tmp 5), _, _, _, none⟩) rfl _ _ rfl (w.heap.size + 1) 27 ([.int .u32 B, .int .u32 S]) _ ?_ ?_ Try.underlying27 rfl ring_sz ?_); rfl; exact (b5.keep lr))
      | (go_at_call 31; (with_reducible refine (KST.out _).mono ?_); rintro e w3 ⟨rfl, l3⟩; replace ho1 := own_below ho1 l3; replace ho2 := own_below ho2 l3; replace b16 := b16.keep l3; replace lr := Later.trans_ lr l3; clear e16 f16; have e16 := b16.cell (j := 0) (v := .int .i64 q1.1) rfl; have f16 := b16.cell (j := 3) (v := .bool q1.2.2.2) rfl; rw [hw] at f16)
      | ((with_reducible refine wpList_build1 (o := ⟨some 71, .buildSlice 35 1 #[(0, .tmp 70)], _, _, _, none⟩) rfl _ 59 _ rfl (Pc p).toArray i0' _ Try.underlying35 HI.out.1 HI.out.2.1 ?_ ?_ ?_ ?_ ?_); exact HI.out.2.2.1; exact (show 0 < 4 from by decide); exact (show 4 ≤ 16777216 from by decide); rfl; have bn := Blk.new w3 59 (Pc p).toArray (Pc p) rfl; replace b16 := b16.alloc (.cells (Pc p).toArray 59); replace ho1 := ho1.alloc (.cells (Pc p).toArray 59); replace ho2 := ho2.alloc (.cells (Pc p).toArray 59); replace lr := lr.alloc lr.size (.cells (Pc p).toArray 59))
      | (at_builtin; refine wpList_append_lies _ rfl _ _ 35 rfl w8.heap.size 59 i0' (.agg #[.int .i64 0, .int .i64 0, .int .i64 0, .bool false]) 4 32 Try.underlying35 HI.out.1 HI.out.2.1 HI.out.2.2.1 HI.out.2.2.2 rfl (by decide) _ _ _ rfl ho1 ⟨w3.heap.size, 0, none⟩ 1 1 (Pc p) rfl rfl (news_blk bn) (pt_one _) (by decide) (by unfold maxLen; omega) (by omega) lr.size _ rfl ?_; intro g5 cap5 w5 own5 grow5 hat5 hlt5; have hl2 := fun g hg => (ho2.lt g hg).2; replace ho2 := own_apart ho2 grow5 HDJ.out; replace b16 := b16.grown grow5 (fun h => Nat.lt_irrefl _ (hs1.out _ h.symm)); replace lr := lr.grown grow5 lr.size (fun b hb => (ho1.lt b hb).1); have HDK : Hid (∀ g, (Value.slice (some ⟨g5, 0, none⟩) (k + 1) cap5).ownBlock = some g → u14.ownBlock ≠ some g) := Lib.hid (dis_after HDJ.out hat5 hl2); clear ho1 bn hat5 hl2 grow5 e16 f16; have e16 := b16.cell (j := 0) (v := .int .i64 q1.1) rfl; have f16 := b16.cell (j := 3) (v := .bool q1.2.2.2) rfl; rw [hw] at f16))
          go_roundw
          case rel => exact ⟨k + 1, m2, by omega, by go_num, (by rw [HS1.out, Ps_snoc]; exact own5), (by rw [HS2.out]; exact ho2), Lib.hid (by rw [HS2.out, ← hm2.out]), HDK, lr⟩
          case measure => simp [intOf]; omega
        · have HS2 := Lib.hid (show tos (l.take (k + 1)) = tos (l.take k) ++ [q1] from by rw [HS20, hw]; rfl)
          clear HS20 hml
          go_wp2_with (first
      | ((with_reducible refine wpList_load_addr (o := ⟨some 65, .load 59 (.tmp 64), _, _, _, none⟩) rfl _ _ rfl (ad.add (k * 4)) (Pc q1) _ ?_ (HC.out _ (sP.keep lr)) Try.underlying59 rfl (pt_sz _) ?_); rfl)
      | ((with_reducible refine wpList_store_abs (o := ⟨none, .store 59 (.tmp 16) (.tmp 65), _, _, _, none⟩) rfl _ _ _ rfl wr.heap.size 59 ([.int .i64 0, .int .i64 0, .int .i64 0, .bool false]) (Pc q1) ?_ ?_ ?_ ?_ ?_ ?_ ?_); rfl; rfl; exact (Blk.new _ _ _ _ rfl); exact (pt_sz _); rfl; exact (pt_one _); intro w2 b16 o16; have l2 := Below.only (later1 wr (.cells #[.int .i64 0, .int .i64 0, .int .i64 0, .bool false] 59)) o16 (Nat.le_refl _); replace ho1 := own_below ho1 l2; replace ho2 := own_below ho2 l2; replace lr := Later.trans_ lr l2; clear l2 o16; have e16 := b16.cell (j := 0) (v := .int .i64 q1.1) rfl; have f16 := b16.cell (j := 3) (v := .bool q1.2.2.2) rfl; rw [hw] at f16)
      | ((with_reducible refine wpList_load_blk (o := ⟨some 67, .load 27 (.tmp 5), _, _, _, none⟩) rfl _ _ rfl (w.heap.size + 1) 27 ([.int .u32 B, .int .u32 S]) _ ?_ ?_ Try.underlying27 rfl ring_sz ?_); rfl; exact (b5.keep lr))
      | (go_at_call 31; (with_reducible refine (KST.out _).mono ?_); rintro e w3 ⟨rfl, l3⟩; replace ho1 := own_below ho1 l3; replace ho2 := own_below ho2 l3; replace b16 := b16.keep l3; replace lr := Later.trans_ lr l3; clear e16 f16; have e16 := b16.cell (j := 0) (v := .int .i64 q1.1) rfl; have f16 := b16.cell (j := 3) (v := .bool q1.2.2.2) rfl; rw [hw] at f16)
      | ((with_reducible refine wpList_build1 (o := ⟨some 71, .buildSlice 35 1 #[(0, .tmp 70)], _, _, _, none⟩) rfl _ 59 _ rfl (Pc p).toArray i0' _ Try.underlying35 HI.out.1 HI.out.2.1 ?_ ?_ ?_ ?_ ?_); exact HI.out.2.2.1; exact (show 0 < 4 from by decide); exact (show 4 ≤ 16777216 from by decide); rfl; have bn := Blk.new w3 59 (Pc p).toArray (Pc p) rfl; replace b16 := b16.alloc (.cells (Pc p).toArray 59); replace ho1 := ho1.alloc (.cells (Pc p).toArray 59); replace ho2 := ho2.alloc (.cells (Pc p).toArray 59); replace lr := lr.alloc lr.size (.cells (Pc p).toArray 59))
      | (at_builtin; refine wpList_append_lies _ rfl _ _ 35 rfl w8.heap.size 59 i0' (.agg #[.int .i64 0, .int .i64 0, .int .i64 0, .bool false]) 4 32 Try.underlying35 HI.out.1 HI.out.2.1 HI.out.2.2.1 HI.out.2.2.2 rfl (by decide) _ _ _ rfl ho1 ⟨w3.heap.size, 0, none⟩ 1 1 (Pc p) rfl rfl (news_blk bn) (pt_one _) (by decide) (by unfold maxLen; omega) (by omega) lr.size _ rfl ?_; intro g5 cap5 w5 own5 grow5 hat5 hlt5; have hl2 := fun g hg => (ho2.lt g hg).2; replace ho2 := own_apart ho2 grow5 HDJ.out; replace b16 := b16.grown grow5 (fun h => Nat.lt_irrefl _ (hs1.out _ h.symm)); replace lr := lr.grown grow5 lr.size (fun b hb => (ho1.lt b hb).1); have HDK : Hid (∀ g, (Value.slice (some ⟨g5, 0, none⟩) (k + 1) cap5).ownBlock = some g → u14.ownBlock ≠ some g) := Lib.hid (dis_after HDJ.out hat5 hl2); clear ho1 bn hat5 hl2 grow5 e16 f16; have e16 := b16.cell (j := 0) (v := .int .i64 q1.1) rfl; have f16 := b16.cell (j := 3) (v := .bool q1.2.2.2) rfl; rw [hw] at f16)
      | ((with_reducible refine wpList_load_blk (o := ⟨some 76, .load 59 (.tmp 16), _, _, _, none⟩) rfl _ _ rfl wr.heap.size 59 (Pc q1) _ ?_ ?_ Try.underlying59 rfl (pt_sz _) ?_); rfl; exact b16)
      | ((with_reducible refine wpList_build1 (o := ⟨some 77, .buildSlice 35 1 #[(0, .tmp 76)], _, _, _, none⟩) rfl _ 59 _ rfl (Pc q1).toArray i0' _ Try.underlying35 HI.out.1 HI.out.2.1 ?_ ?_ ?_ ?_ ?_); exact HI.out.2.2.1; exact (show 0 < 4 from by decide); exact (show 4 ≤ 16777216 from by decide); rfl; have bn := Blk.new w5 59 (Pc q1).toArray (Pc q1) rfl; replace b16 := b16.alloc (.cells (Pc q1).toArray 59); replace own5 := own5.alloc (.cells (Pc q1).toArray 59); replace ho2 := ho2.alloc (.cells (Pc q1).toArray 59); replace lr := lr.alloc lr.size (.cells (Pc q1).toArray 59))
      | (at_builtin; refine wpList_append_lies _ rfl _ _ 35 rfl w8.heap.size 59 i0' (.agg #[.int .i64 0, .int .i64 0, .int .i64 0, .bool false]) 4 32 Try.underlying35 HI.out.1 HI.out.2.1 HI.out.2.2.1 HI.out.2.2.2 rfl (by decide) _ _ _ rfl ho2 ⟨w5.heap.size, 0, none⟩ 1 1 (Pc q1) rfl rfl (news_blk bn) (pt_one _) (by decide) (by unfold maxLen; omega) (by omega) lr.size _ rfl ?_; intro g6 cap6 w6 own6 grow6 hat6 hlt6; have hl1 := fun g hg => (own5.lt g hg).2; replace own5 := own_apart own5 grow6 (fun g h1 h2 => HDK.out g h2 h1); replace lr := lr.grown grow6 lr.size (fun b hb => (ho2.lt b hb).1); have HDL : Hid (∀ g, (Value.slice (some ⟨g5, 0, none⟩) (k + 1) cap5).ownBlock = some g → (Value.slice (some ⟨g6, 0, none⟩) (m2 + 1) cap6).ownBlock ≠ some g) := Lib.hid (dis_after' HDK.out hat6 hl1); clear ho2 bn hat6 hl1 grow6))
          go_roundw
          case rel => exact ⟨k + 1, m2 + 1, by omega, by go_num, (by rw [HS1.out, Ps_snoc]; exact own5), (by rw [HS2.out, Ps_snoc]; exact own6), Lib.hid (by rw [HS2.out, List.length_append, List.length_singleton, ← hm2.out]), HDL, lr⟩
          case measure => simp [intOf]; omega
      · obtain rfl : k = mp := by omega
        have nlt : ¬ ((k : Int) < (k : Int)) := by omega
        have hm3 := hm2.out
        rw [List.take_of_length_le (by rw [hpl]; exact Nat.le_refl _)] at ho1 ho2 hm3
        have hm4 := Lib.hid hm3
        clear hm2 hm3
        obtain ⟨A13, c13, rfl, _, _, s13, _⟩ := own_form ho1
        obtain ⟨A14, c14, rfl, _, _, s14, _⟩ := own_form ho2
        clear ho1 ho2 HDJ
        go_upto_region 16 with (first
          | ((with_reducible refine wpList_load_blk (o := ⟨some 81, .load 24 (.tmp 10), _, _, _, none⟩) rfl _ _ rfl G10 24 ([.slice (some ⟨g, 0, none⟩) n c1]) _ ?_ ?_ Try.underlying24 rfl memS ?_); rfl; exact (b10.keep lr))
          | (go_at_call 24; (with_reducible refine (KSC.out g c1 AP k cp _ (dX.keep lr) (sP.keep lr) hpl).mono ?_); rintro e w5 ⟨gO, cO, rfl, _, _, _, dO, l5⟩; replace s13 := s13.keep l5; replace s14 := s14.keep l5; replace lr := Later.trans_ lr l5)
          | ((with_reducible refine wpList_store_abs (o := ⟨none, .store 24 (.tmp 17) (.tmp 85), _, _, _, none⟩) rfl _ _ _ rfl w5.heap.size 24 ([.slice none 0 0]) ([.slice (some ⟨gO, 0, none⟩) n cO]) ?_ ?_ ?_ ?_ ?_ ?_ ?_); rfl; rfl; exact (Blk.new _ _ _ _ rfl); exact memS; rfl; exact (one1 rfl); intro w6 b17 o17; have l6 := Below.only (later1 w5 (.cells #[.slice none 0 0] 24)) o17 (Nat.le_refl _); replace s13 := s13.keep l6; replace s14 := s14.keep l6; replace dO := dO.keep l6; replace lr := Later.trans_ lr l6; clear l6 o17))
        replace b4 := (b4.keep lr).drew
        replace b5 := (b5.keep lr).drew
        replace b10 := (b10.keep lr).drew
        replace b17 := b17.drew
        replace dX : Draft w6.drew g n X := show Draft w6 g n X from dX.keep lr
        replace dO : Draft w6.drew gO n O1 := dO
        replace sP : Sl w6.drew 4 AP k (Ps l) := show Sl w6 4 AP k (Ps l) from sP.keep lr
        replace s13 : Sl w6.drew 4 A13 k (Ps (sts B l)) := s13
        replace s14 : Sl w6.drew 4 A14 m2 (Ps (tos l)) := s14
        replace lw := (Later.trans_ lw lr).drew
        clear lr
        refine wp_region_held_drew (S := fun w' => World.rangeAt w' w.heap.size 0 [.slice A n c] ∧ World.rangeAt w' (w.heap.size + 1) 0 [.int .u32 B, .int .u32 S] ∧ World.rangeAt w' G10 0 [.slice (some ⟨g, 0, none⟩) n c1] ∧ World.rangeAt w' w5.heap.size 0 [.slice (some ⟨gO, 0, none⟩) n cO]) (by kernel_rfl) ⟨b4.range 0 1, b5.range 0 2, b10.range 0 1, b17.range 0 1⟩ (fun hHeld => ?_)
        refine wpAnyH_ready (rs := [0]) (by kernel_rfl) (by simp) (AllReadyH.cons (o := ⟨some 87, .call { callee := .value (.func 10), args := #[], argTypes := #[] }, _, _, _, none⟩) rfl (fun K' hK => ?_) (AllReadyH.nil))
        go_simp
        (with_reducible refine (KN.out _).mono ?_)
        rintro e x1 ⟨rfl, n1⟩
        replace b4 := b4.keep n1
        replace b5 := b5.keep n1
        replace b10 := b10.keep n1
        replace b17 := b17.keep n1
        replace dX := dX.keep n1
        replace dO := dO.keep n1
        replace sP := sP.keep n1
        replace s13 := s13.keep n1
        replace s14 := s14.keep n1
        replace lw := Later.trans_ lw n1
        refine hK.out _ _ ⟨b4.range 0 1, b5.range 0 2, b10.range 0 1, b17.range 0 1⟩ (fun hHeld => ?_)
        clear hK K'
        try simp only [Act.put, List.setIfInBounds_toArray, List.set_cons_zero, List.set_cons_succ]
        refine wpAnyH_take (i := 1) (oi := ⟨some 88, .move (.tmp 87), _, _, _, none⟩) (v := .bool true) rfl (by kernel_rfl) (by kernel_rfl) (by kernel_rfl) (fun _ _ _ h => h) (Or.inl ⟨by rfl, fun _ _ => rfl⟩) hHeld ?_
        simp only [Act.put, List.setIfInBounds_toArray, List.set_cons_zero, List.set_cons_succ]
        refine wpAnyH_take (i := 2) (oi := ⟨some 89, .load 24 (.tmp 4), _, _, _, _⟩) (v := .agg ([.slice A n c]).toArray) rfl (by kernel_rfl) (by kernel_rfl) (by kernel_rfl) (fun _ _ _ h => h) (yieldsIf_load_mid (by rfl) _ _ rfl w.heap.size 0 rfl ([.slice A n c]) _ (fun wz hSw => hSw.1) Try.underlying24 rfl memS) hHeld ?_
        simp only [Act.put, List.setIfInBounds_toArray, List.set_cons_zero, List.set_cons_succ]
        refine wpAnyH_take (i := 3) (oi := ⟨some 90, .load 24 (.tmp 10), _, _, _, _⟩) (v := .agg ([.slice (some ⟨g, 0, none⟩) n c1]).toArray) rfl (by kernel_rfl) (by kernel_rfl) (by kernel_rfl) (fun _ _ _ h => h) (yieldsIf_load_mid (by rfl) _ _ rfl G10 0 rfl ([.slice (some ⟨g, 0, none⟩) n c1]) _ (fun wz hSw => hSw.2.2.1) Try.underlying24 rfl memS) hHeld ?_
        simp only [Act.put, List.setIfInBounds_toArray, List.set_cons_zero, List.set_cons_succ]
        refine wpAnyH_take (i := 4) (oi := ⟨some 91, .move (.tmp 13), _, _, _, _⟩) (v := .slice A13 k c13) rfl (by kernel_rfl) (by kernel_rfl) (by kernel_rfl) (fun _ _ _ h => h) (Or.inl ⟨by rfl, fun _ _ => rfl⟩) hHeld ?_
        simp only [Act.put, List.setIfInBounds_toArray, List.set_cons_zero, List.set_cons_succ]
        refine wpAnyH_ready (rs := [5]) (by kernel_rfl) (by simp) (AllReadyH.cons (o := ⟨some 92, .call { callee := .value (.func 30), args := #[.tmp 89, .tmp 90, .tmp 91], argTypes := #[24, 24, 35] }, _, _, _, _⟩) rfl (fun K' hK => ?_) (AllReadyH.nil))
        go_simp
        (with_reducible refine (KA1.out g c1 A13 k c13 _ lw dX s13 hpl).mono ?_)
        rintro e x2 ⟨rfl, n2⟩
        replace b4 := b4.keep n2
        replace b5 := b5.keep n2
        replace b10 := b10.keep n2
        replace b17 := b17.keep n2
        replace dX := dX.keep n2
        replace dO := dO.keep n2
        replace sP := sP.keep n2
        replace s13 := s13.keep n2
        replace s14 := s14.keep n2
        replace lw := Later.trans_ lw n2
        refine hK.out _ _ ⟨b4.range 0 1, b5.range 0 2, b10.range 0 1, b17.range 0 1⟩ (fun hHeld => ?_)
        clear hK K'
        try simp only [Act.put, List.setIfInBounds_toArray, List.set_cons_zero, List.set_cons_succ]
        refine wpAnyH_take (i := 6) (oi := ⟨some 93, .pick (.tmp 88) (.tmp 92) (.const (.bool false)), _, _, _, none⟩) (v := .bool true) rfl (by kernel_rfl) (by kernel_rfl) (by kernel_rfl) (fun _ _ _ h => h) (Or.inl ⟨by rfl, fun w _ => by go_simp⟩) hHeld ?_
        simp only [Act.put, List.setIfInBounds_toArray, List.set_cons_zero, List.set_cons_succ]
        refine wpAnyH_take (i := 7) (oi := ⟨some 94, .move (.tmp 93), _, _, _, none⟩) (v := .bool true) rfl (by kernel_rfl) (by kernel_rfl) (by kernel_rfl) (fun _ _ _ h => h) (Or.inl ⟨by rfl, fun _ _ => rfl⟩) hHeld ?_
        simp only [Act.put, List.setIfInBounds_toArray, List.set_cons_zero, List.set_cons_succ]
        refine wpAnyH_take (i := 8) (oi := ⟨some 95, .load 24 (.tmp 10), _, _, _, _⟩) (v := .agg ([.slice (some ⟨g, 0, none⟩) n c1]).toArray) rfl (by kernel_rfl) (by kernel_rfl) (by kernel_rfl) (fun _ _ _ h => h) (yieldsIf_load_mid (by rfl) _ _ rfl G10 0 rfl ([.slice (some ⟨g, 0, none⟩) n c1]) _ (fun wz hSw => hSw.2.2.1) Try.underlying24 rfl memS) hHeld ?_
        simp only [Act.put, List.setIfInBounds_toArray, List.set_cons_zero, List.set_cons_succ]
        refine wpAnyH_take (i := 9) (oi := ⟨some 96, .load 24 (.tmp 17), _, _, _, _⟩) (v := .agg ([.slice (some ⟨gO, 0, none⟩) n cO]).toArray) rfl (by kernel_rfl) (by kernel_rfl) (by kernel_rfl) (fun _ _ _ h => h) (yieldsIf_load_mid (by rfl) _ _ rfl w5.heap.size 0 rfl ([.slice (some ⟨gO, 0, none⟩) n cO]) _ (fun wz hSw => hSw.2.2.2) Try.underlying24 rfl memS) hHeld ?_
        simp only [Act.put, List.setIfInBounds_toArray, List.set_cons_zero, List.set_cons_succ]
        refine wpAnyH_take (i := 10) (oi := ⟨some 97, .move (.tmp 14), _, _, _, _⟩) (v := .slice A14 m2 c14) rfl (by kernel_rfl) (by kernel_rfl) (by kernel_rfl) (fun _ _ _ h => h) (Or.inl ⟨by rfl, fun _ _ => rfl⟩) hHeld ?_
        simp only [Act.put, List.setIfInBounds_toArray, List.set_cons_zero, List.set_cons_succ]
        refine wpAnyH_ready (rs := [11]) (by kernel_rfl) (by simp) (AllReadyH.cons (o := ⟨some 98, .call { callee := .value (.func 30), args := #[.tmp 95, .tmp 96, .tmp 97], argTypes := #[24, 24, 35] }, _, _, _, _⟩) rfl (fun K' hK => ?_) (AllReadyH.nil))
        go_simp
        (with_reducible refine (KA2.out g c1 gO cO A14 m2 c14 _ dX dO s14 hm4.out).mono ?_)
        rintro e x3 ⟨rfl, n3⟩
        replace b4 := b4.keep n3
        replace b5 := b5.keep n3
        replace b10 := b10.keep n3
        replace b17 := b17.keep n3
        replace dX := dX.keep n3
        replace dO := dO.keep n3
        replace sP := sP.keep n3
        replace s13 := s13.keep n3
        replace s14 := s14.keep n3
        replace lw := Later.trans_ lw n3
        refine hK.out _ _ ⟨b4.range 0 1, b5.range 0 2, b10.range 0 1, b17.range 0 1⟩ (fun hHeld => ?_)
        clear hK K'
        try simp only [Act.put, List.setIfInBounds_toArray, List.set_cons_zero, List.set_cons_succ]
        refine wpAnyH_take (i := 12) (oi := ⟨some 99, .pick (.tmp 94) (.tmp 98) (.const (.bool false)), _, _, _, none⟩) (v := .bool true) rfl (by kernel_rfl) (by kernel_rfl) (by kernel_rfl) (fun _ _ _ h => h) (Or.inl ⟨by rfl, fun w _ => by go_simp⟩) hHeld ?_
        simp only [Act.put, List.setIfInBounds_toArray, List.set_cons_zero, List.set_cons_succ]
        refine wpAnyH_take (i := 13) (oi := ⟨some 100, .move (.tmp 99), _, _, _, none⟩) (v := .bool true) rfl (by kernel_rfl) (by kernel_rfl) (by kernel_rfl) (fun _ _ _ h => h) (Or.inl ⟨by rfl, fun _ _ => rfl⟩) hHeld ?_
        simp only [Act.put, List.setIfInBounds_toArray, List.set_cons_zero, List.set_cons_succ]
        refine wpAnyH_take (i := 14) (oi := ⟨some 101, .load 24 (.tmp 10), _, _, _, _⟩) (v := .agg ([.slice (some ⟨g, 0, none⟩) n c1]).toArray) rfl (by kernel_rfl) (by kernel_rfl) (by kernel_rfl) (fun _ _ _ h => h) (yieldsIf_load_mid (by rfl) _ _ rfl G10 0 rfl ([.slice (some ⟨g, 0, none⟩) n c1]) _ (fun wz hSw => hSw.2.2.1) Try.underlying24 rfl memS) hHeld ?_
        simp only [Act.put, List.setIfInBounds_toArray, List.set_cons_zero, List.set_cons_succ]
        refine wpAnyH_take (i := 15) (oi := ⟨some 102, .load 24 (.tmp 10), _, _, _, _⟩) (v := .agg ([.slice (some ⟨g, 0, none⟩) n c1]).toArray) rfl (by kernel_rfl) (by kernel_rfl) (by kernel_rfl) (fun _ _ _ h => h) (yieldsIf_load_mid (by rfl) _ _ rfl G10 0 rfl ([.slice (some ⟨g, 0, none⟩) n c1]) _ (fun wz hSw => hSw.2.2.1) Try.underlying24 rfl memS) hHeld ?_
        simp only [Act.put, List.setIfInBounds_toArray, List.set_cons_zero, List.set_cons_succ]
        refine wpAnyH_take (i := 16) (oi := ⟨some 103, .load 27 (.tmp 5), _, _, _, _⟩) (v := .agg ([.int .u32 B, .int .u32 S]).toArray) rfl (by kernel_rfl) (by kernel_rfl) (by kernel_rfl) (fun _ _ _ h => h) (yieldsIf_load_mid (by rfl) _ _ rfl (w.heap.size + 1) 0 rfl ([.int .u32 B, .int .u32 S]) _ (fun wz hSw => hSw.2.1) Try.underlying27 rfl ring_sz) hHeld ?_
        simp only [Act.put, List.setIfInBounds_toArray, List.set_cons_zero, List.set_cons_succ]
        refine wpAnyH_take (i := 17) (oi := ⟨some 104, .move (.tmp 11), _, _, _, _⟩) (v := .slice AP k cp) rfl (by kernel_rfl) (by kernel_rfl) (by kernel_rfl) (fun _ _ _ h => h) (Or.inl ⟨by rfl, fun _ _ => rfl⟩) hHeld ?_
        simp only [Act.put, List.setIfInBounds_toArray, List.set_cons_zero, List.set_cons_succ]
        refine wpAnyH_take (i := 19) (oi := ⟨some 106, .move (.tmp 13), _, _, _, _⟩) (v := .slice A13 k c13) rfl (by kernel_rfl) (by kernel_rfl) (by kernel_rfl) (fun _ _ _ h => h) (Or.inl ⟨by rfl, fun _ _ => rfl⟩) hHeld ?_
        simp only [Act.put, List.setIfInBounds_toArray, List.set_cons_zero, List.set_cons_succ]
        refine wpAnyH_ready (rs := [18]) (by kernel_rfl) (by simp) (AllReadyH.cons (o := ⟨some 105, .call { callee := .value (.func 20), args := #[.tmp 102, .tmp 103, .tmp 104], argTypes := #[24, 27, 35] }, _, _, _, _⟩) rfl (fun K' hK => ?_) (AllReadyH.nil))
        go_simp
        (with_reducible refine (KFI.out g c1 AP k cp _ dX sP hpl).mono ?_)
        rintro e x4 ⟨gF, cF, rfl, _, _, _, dF, n4⟩
        replace b4 := b4.keep n4
        replace b5 := b5.keep n4
        replace b10 := b10.keep n4
        replace b17 := b17.keep n4
        replace dX := dX.keep n4
        replace dO := dO.keep n4
        replace sP := sP.keep n4
        replace s13 := s13.keep n4
        replace s14 := s14.keep n4
        replace lw := Later.trans_ lw n4
        refine hK.out _ _ ⟨b4.range 0 1, b5.range 0 2, b10.range 0 1, b17.range 0 1⟩ (fun hHeld => ?_)
        clear hK K'
        try simp only [Act.put, List.setIfInBounds_toArray, List.set_cons_zero, List.set_cons_succ]
        refine wpAnyH_ready (rs := [20]) (by kernel_rfl) (by simp) (AllReadyH.cons (o := ⟨some 107, .call { callee := .value (.func 30), args := #[.tmp 101, .tmp 105, .tmp 106], argTypes := #[24, 24, 35] }, _, _, _, _⟩) rfl (fun K' hK => ?_) (AllReadyH.nil))
        go_simp
        (with_reducible refine (KA3.out g c1 gF cF A13 k c13 _ dX dF s13 hpl).mono ?_)
        rintro e x5 ⟨rfl, n5⟩
        replace b4 := b4.keep n5
        replace b5 := b5.keep n5
        replace b10 := b10.keep n5
        replace b17 := b17.keep n5
        replace dX := dX.keep n5
        replace dO := dO.keep n5
        replace sP := sP.keep n5
        replace s13 := s13.keep n5
        replace s14 := s14.keep n5
        replace lw := Later.trans_ lw n5
        refine hK.out _ _ ⟨b4.range 0 1, b5.range 0 2, b10.range 0 1, b17.range 0 1⟩ (fun hHeld => ?_)
        clear hK K'
        try simp only [Act.put, List.setIfInBounds_toArray, List.set_cons_zero, List.set_cons_succ]
        refine wpAnyH_take (i := 21) (oi := ⟨some 108, .pick (.tmp 100) (.tmp 107) (.const (.bool false)), _, _, _, none⟩) (v := .bool true) rfl (by kernel_rfl) (by kernel_rfl) (by kernel_rfl) (fun _ _ _ h => h) (Or.inl ⟨by rfl, fun w _ => by go_simp⟩) hHeld ?_
        simp only [Act.put, List.setIfInBounds_toArray, List.set_cons_zero, List.set_cons_succ]
        refine wpAnyH_take (i := 22) (oi := ⟨some 8, .assign (.tmp 108), _, _, _, none⟩) (v := .bool true) rfl (by kernel_rfl) (by kernel_rfl) (by kernel_rfl) (fun _ _ _ h => h) (Or.inl ⟨by rfl, fun _ _ => rfl⟩) hHeld ?_
        simp only [Act.put, List.setIfInBounds_toArray, List.set_cons_zero, List.set_cons_succ]
        refine wpAnyH_done (by kernel_rfl) ?_ _
        clear hHeld
        go_wp2
        go_ret
        exact ⟨rfl, lw⟩
theorem touch_all (A : Option Addr) (n c : Nat) (b : Wm.Bs) (B S i : Int) (data : ByteArray) (w : World) (hs : Sl w 128 A n (U b)) (hb : Wm.isBs b) (hB : Tm.isE B) (hS : Tm.isE S) (hi0 : 0 ≤ i) (hi1 : i ≤ 255) : Calls Try.prog 5 #[.agg #[.slice A n c], .agg #[.int .u32 B, .int .u32 S], .int .u8 i, .string data] w fun e w' => e = .returned (.bool true) ∧ Later w w' := by
  by_cases h1 : 1 ≤ n ∧ n ≤ 64
  · by_cases h2 : Rg.Ok (n * 128) B S
    · by_cases h3 : data.size ≤ 3000
      · exact touch_yes A n c b B S i data w hs hb hB hS hi0 hi1 h1 h2 h3
      · exact touch_no A n c B S i data w hB hS (.inr (by omega))
    · exact touch_no A n c B S i data w hB hS (.inl (by rw [decide_eq_false h2, Bool.and_false]))
  · exact touch_no A n c B S i data w hB hS (.inl (by rw [decide_eq_false h1, Bool.false_and]))

set_option maxRecDepth 100000 in
theorem ringTouchesNothingElse_lifted (os : Os) (started : os.Started) (H : Type) (enc : TypeId × Value → H) :
    ReturnsInHanded {} Try.checked os 5 .any (Rows.ringTouchesNothingElseSpec.pre6 enc Try.prog Try.f5 Rows.ringTouchesNothingElseRow.domain false) (Rows.ringTouchesNothingElseSpec.post enc Try.prog Try.f5 false true false false) := by
  refine returnsInHanded_of_change (C := Try.checked) ownK started (by kernel_rfl) Try.func5
    (ChangeSpec.witness6 (enc := enc) (C := Try.checked) false ⟨#[], #[.agg #[.slice none 0 0], .agg #[.int .u32 0, .int .u32 0], .int .u8 0, .string ⟨#[]⟩], []⟩ 8 (by kernel_rfl) (by kernel_rfl) (by kernel_rfl) (by kernel_rfl)) ?_
  intro W base args ds gs before hval0 hW hcnd _
  have hval : ∀ (j : Nat) t v, Try.f5.params[j]? = some t → args[j]? = some v → Value.okWide Try.prog W .any base t v := hval0
  have hW' := hW
  obtain ⟨p, q, hA0, hV, rfl, hfz, hnd⟩ := hW
  have hA : DataW.TrodAll enc Try.prog W 0 (fun _ => true) true Try.f5.params.toList args.toList ds p := hA0
  rw [Try.params5] at hA hval
  obtain ⟨v0, vs0, d0, ds0, p0, q0, hargs, rfl, rfl, h0, r0⟩ := trodAll_cons hA
  obtain ⟨v1, vs1, d1, ds1, p1, q1, rfl, rfl, rfl, h1, r1⟩ := trodAll_cons r0
  obtain ⟨v2, vs2, d2, ds2, p2, q2, rfl, rfl, rfl, h2, r2⟩ := trodAll_cons r1
  obtain ⟨v3, vs3, d3, ds3, p3, q3, rfl, rfl, rfl, h3, r3⟩ := trodAll_cons r2
  obtain ⟨rfl, rfl, rfl⟩ := trodAll_nil r3
  obtain rfl : args = #[v0, v1, v2, v3] := by cases args; simp_all
  obtain ⟨rfl, rfl⟩ := trodVars_none hV
  obtain ⟨A0, n0, c0, b0, rfl, x0, y0, s0, z0⟩ := mem_arg (K := 128) (by omega) Try.underlying24 rfl Try.underlying22 Try.underlying106 Try.underlying5 (by kernel_rfl) (by kernel_rfl) (by kernel_rfl) (by kernel_rfl) (hval 0 24 v0 rfl rfl) h0
  obtain ⟨B1, S1, rfl, zB1, zS1⟩ := ring_open (hval 1 27 v1 rfl rfl) h1
  obtain ⟨a2, rfl, _, _, w2⟩ := open_int Try.underlying5 (hval 2 5 v2 rfl rfl) h2
  have z2 : 0 ≤ a2 ∧ a2 ≤ 255 := by
    have e1 : IntKind.u8.min = 0 := rfl
    have e2 : IntKind.u8.max = 255 := rfl
    simp only [Lit.wf, Bool.and_eq_true, decide_eq_true_eq] at w2
    omega
  obtain ⟨a3, rfl, z3⟩ := str_arg Try.underlying9 (hval 3 9 v3 rfl rfl) h3
  clear hA0 hval0
  simp only [List.append_nil] at hW'
  refine (touch_all A0 n0 c0 b0 B1 S1 a2 a3 W s0 z0 zB1 zS1 z2.1 z2.2).mono fun e W' ⟨he, hw⟩ => ?_
  subst he
  exact ⟨_, rfl, law_post laidK rfl (by kernel_rfl) (by kernel_rfl) Try.underlying4 (by kernel_rfl) hW' rfl hw⟩
set_option maxRecDepth 100000 in
/-- The statement. -/
theorem ringTouchesNothingElse_said : Rows.RingTouchesNothingElseSaid :=
  OpenClaim.holds_of_wide 5 Try.f5 rfl rfl rfl rfl rfl rfl rfl ⟨rfl, rfl, rfl, rfl, rfl⟩ rfl rfl rfl rfl rfl (by kernel_rfl) Try.func5 (by kernel_rfl)
    (of_decide_eq_true (by kernel_rfl)) (by unfold Func.isWrapper; first | (rw [if_pos (by decide +kernel)]; kernel_rfl) | (rw [if_neg (by decide +kernel)]; exact ⟨rfl, rfl⟩))
    (fun os started H enc _ => ringTouchesNothingElse_lifted os started H enc)
#print axioms ringTouchesNothingElse_said
end Go.Proofs.Ytffgbbfcbobecaa
