/-
  A RING: write, Fail, Finish.
-/
import Derived.Test.YtffgbbfcbobecaaRgG
namespace Go.Proofs.Ytffgbbfcbobecaa
open Go.RowKit Go.ChangeShapes Go.WideShapes Go.ChangeAt

theorem sw_isW {L : Nat} {B S v : Int} (hok : Rg.Ok L B S) (hL : L ≤ 8192) (v0 : 0 ≤ v) (v1 : v < 4294967296) {l : List Rg.Pt} (hi : Rg.Inr S l) : ∀ x ∈ sw B l v, isW x := by
  intro x hx
  obtain ⟨p, hp, rfl⟩ := List.mem_map.1 hx
  have h1 := hi p hp
  have h2 := hok.s
  have h3 := hok.2.2
  refine ⟨⟨?_, ?_⟩, ⟨?_, ?_⟩, v0, v1⟩
  · show -9223372036854775808 ≤ B + 16 * p.1 + 12; omega
  · show B + 16 * p.1 + 12 ≤ 9223372036854775807; omega
  · show -9223372036854775808 ≤ (4 : Int); omega
  · show (4 : Int) ≤ 9223372036854775807; omega
theorem ap_sw {L : Nat} {B S v : Int} (hok : Rg.Ok L B S) : ∀ (l : List Rg.Pt) (b : Wm.Bs), b.length = L → Rg.Inr S l → Mm.ap b (sw B l v) = some (Rg.mark b B l v) := by
  intro l
  induction l with
  | nil => intro b _ _; rfl
  | cons p r ih =>
    intro b hL hi
    have hp := hi p List.mem_cons_self
    have ht := hok.there3 hp.1 hp.2
    show Mm.ap b ((B + 16 * p.1 + 12, 4, v) :: sw B r v) = _
    rw [Mm.ap_cons, if_pos (by rw [hL]; exact ht)]
    have e : Mm.put b (B + 16 * p.1 + 12).toNat (Mm.el (4 : Int).toNat v) = Rg.stat b B p.1 v := by
      unfold Rg.stat Mm.st
      rw [if_pos (by rw [hL]; exact ht)]
    show Mm.ap (Mm.put b (B + 16 * p.1 + 12).toNat (Mm.el (4 : Int).toNat v)) (sw B r v) = _
    rw [e, ih _ ((Rg.stat_len _ _ _ _).trans hL) (fun q hq => hi q (List.mem_cons_of_mem _ hq))]
    rfl
set_option maxRecDepth 100000 in
set_option maxHeartbeats 2000000 in
theorem pw_any (A : Option Addr) (n c : Nat) (b : Wm.Bs) (AL : Option Addr) (m cl : Nat) (L : List (Int × Int × Int)) (w : World) (hs : Sl w 128 A n (U b)) (hb : Wm.isBs b) (hn1 : 1 ≤ n) (hn : n ≤ 64) (hsl : Sl w 3 AL m (Ws L)) (hL : L.length = m) (hW : ∀ x ∈ L, isW x) (hm : m ≤ 1000000) :
    Calls Try.prog 43 #[.agg #[.slice A n c], .slice AL m cl] w (GotM n ((Mm.ap b L).getD b) w) := by
  have KA := Lib.hid fun w' (k : Later w w') => apply_any A n c m cl AL L b w' (hs.keep k) hb hn1 hn (hsl.keep k) hL hW hm
  obtain ⟨X, hX⟩ : ∃ X, X = (Mm.ap b L).getD b := ⟨_, rfl⟩
  obtain ⟨q, hq⟩ : ∃ q, q = (Mm.ap b L).isSome := ⟨_, rfl⟩
  rw [← hX, ← hq] at KA
  rw [← hX]
  clear hX hq hs hsl hL hW hb
  have b2 : Blk _ w.heap.size 24 ([.slice A n c]) := ((Blk.new' w w.heap.size 24 ([.slice A n c]).toArray ([.slice A n c]) (by simp) rfl).alloc (.cells ([.slice none 0 0]).toArray 24))
  have b4 : Blk _ (w.heap.size + 1) 24 ([.slice none 0 0]) := (Blk.new' (w.alloc (.cells ([.slice A n c]).toArray 24)) (w.heap.size + 1) 24 ([.slice none 0 0]).toArray ([.slice none 0 0]) (by simp) rfl)
  have lw := ((later1 w (.cells ([.slice A n c]).toArray 24)).alloc (by simp; try omega) (.cells ([.slice none 0 0]).toArray 24))
  obtain ⟨u0, hu⟩ : ∃ u, ((w.alloc (.cells ([.slice A n c]).toArray 24)).alloc (.cells ([.slice none 0 0]).toArray 24)) = u := ⟨_, rfl⟩
  rw [hu] at b2 b4 lw
  go_enter Try.func43, Try.ntmps43
  go_upto_region 1 with fail
  have hu2 : ((w.alloc (.cells #[.slice A n c] 24)).alloc (.cells #[.slice none 0 0] 24)) = u0 := hu
  try rw [hu2]
  clear hu hu2
  go_wp2_with (first
    | ((with_reducible refine wpList_load_blk (o := ⟨some 8, .load 24 (.tmp 2), _, _, _, none⟩) rfl _ _ rfl w.heap.size 24 ([.slice A n c]) _ ?_ ?_ Try.underlying24 rfl memS ?_); rfl; exact b2)
    | ((with_reducible refine wpList_store_abs (o := ⟨none, .store 24 (.tmp 5) (.tmp 11), _, _, _, none⟩) rfl _ _ _ rfl w1.heap.size 24 ([.slice none 0 0]) ([.slice (some ⟨g, 0, none⟩) n c1]) ?_ ?_ ?_ ?_ ?_ ?_ ?_); rfl; rfl; exact (Blk.new _ _ _ _ rfl); exact memS; rfl; exact (one1 rfl); intro w2 b9 o9; replace b4 := (b4.alloc (.cells #[.slice none 0 0] 24)).only o9 (Nat.ne_of_lt b4.lt); replace dx := (dx.keep (later1 w1 (.cells #[.slice none 0 0] 24))).only o9 (Nat.ne_of_lt dx.lt); replace lw := Below.only (lw.alloc lw.size (.cells #[.slice none 0 0] 24)) o9 lw.size)
    | ((with_reducible refine wpList_load_blk (o := ⟨some 13, .load 24 (.tmp 5), _, _, _, none⟩) rfl _ _ rfl w1.heap.size 24 ([.slice (some ⟨g, 0, none⟩) n c1]) _ ?_ ?_ Try.underlying24 rfl memS ?_); rfl; exact b9)
    | ((with_reducible refine wpList_store_abs (o := ⟨none, .store 24 (.tmp 4) (.tmp 13), _, _, _, none⟩) rfl _ _ _ rfl (w.heap.size + 1) 24 ([.slice none 0 0]) ([.slice (some ⟨g, 0, none⟩) n c1]) ?_ ?_ ?_ ?_ ?_ ?_ ?_); rfl; rfl; exact b4; exact memS; rfl; exact (one1 rfl); intro w3 b8 o8)
    | (go_at_call 66; (with_reducible refine (KA.out _ lw).mono ?_); rintro e w1 ⟨g, c1, rfl, g1, g2, g3, dx, l1⟩; have hg := Nat.le_trans lw.size g1; have hgu := Nat.lt_of_lt_of_le b4.lt g1; replace b2 := b2.keep l1; replace b4 := b4.keep l1; replace lw := Later.trans_ lw l1))
  exact bodyPost_ret (results_blk Try.results43 _ _ (w.heap.size + 1) 24 _ _ rfl b8 Try.underlying24 rfl memS) rfl ⟨g, c1, rfl, hg, g2, g3, dx.only o8 (Nat.ne_of_gt hgu), Below.only lw o8 (by omega)⟩
theorem ap_nil' (b : Wm.Bs) : (Mm.ap b []).getD b = b := rfl
set_option maxRecDepth 100000 in
set_option maxHeartbeats 4000000 in
theorem fail_any (A : Option Addr) (n c : Nat) (b : Wm.Bs) (B S i er : Int) (w : World) (hs : Sl w 128 A n (U b)) (hb : Wm.isBs b) (hn1 : 1 ≤ n) (hn : n ≤ 64) (hok : Rg.Ok (n * 128) B S) (i0 : 0 ≤ i) (i1 : i < S) :
    Calls Try.prog 22 #[.agg #[.slice A n c], .agg #[.int .u32 B, .int .u32 S], .int .i64 i, .int .i64 er] w (GotM n (Rg.failM b B i er) w) := by
  have hB := hok.2.2.1
  have hB2 := hok.2.2.2
  have hS := hok.s
  obtain ⟨i0', hi0, hz0, hz1, hz2⟩ := info_parts write_info
  have HI := Lib.hid (show _ ∧ _ ∧ _ from ⟨hi0, hz0, hz1⟩)
  have K0 := Lib.hid fun w' (k : Later w w') => pw_any A n c b none 0 0 [] w' (hs.keep k) hb hn1 hn (Sl.nil _ _ _) rfl (fun x hx => by cases hx) (by omega)
  rw [ap_nil'] at K0
  unfold Rg.failM
  by_cases he : er < 160 ∨ 165 < er
  · rw [if_pos he]
    clear hs hb hok hz2 hz0 hz1 hi0
    have b4 : Blk _ w.heap.size 24 ([.slice A n c]) := (((Blk.new' w w.heap.size 24 ([.slice A n c]).toArray ([.slice A n c]) (by simp) rfl).alloc (.cells ([.int .u32 B, .int .u32 S]).toArray 27)).alloc (.cells ([.slice none 0 0]).toArray 24))
    have b5 : Blk _ (w.heap.size + 1) 27 ([.int .u32 B, .int .u32 S]) := ((Blk.new' (w.alloc (.cells ([.slice A n c]).toArray 24)) (w.heap.size + 1) 27 ([.int .u32 B, .int .u32 S]).toArray ([.int .u32 B, .int .u32 S]) (by simp) rfl).alloc (.cells ([.slice none 0 0]).toArray 24))
    have b8 : Blk _ (w.heap.size + 1 + 1) 24 ([.slice none 0 0]) := (Blk.new' ((w.alloc (.cells ([.slice A n c]).toArray 24)).alloc (.cells ([.int .u32 B, .int .u32 S]).toArray 27)) (w.heap.size + 1 + 1) 24 ([.slice none 0 0]).toArray ([.slice none 0 0]) (by simp) rfl)
    have lw := (((later1 w (.cells ([.slice A n c]).toArray 24)).alloc (by simp; try omega) (.cells ([.int .u32 B, .int .u32 S]).toArray 27)).alloc (by simp; try omega) (.cells ([.slice none 0 0]).toArray 24))
    obtain ⟨u0, hu⟩ : ∃ u, (((w.alloc (.cells ([.slice A n c]).toArray 24)).alloc (.cells ([.int .u32 B, .int .u32 S]).toArray 27)).alloc (.cells ([.slice none 0 0]).toArray 24)) = u := ⟨_, rfl⟩
    rw [hu] at b4 b5 b8 lw
    by_cases h1 : er < 160
    · have d1 : decide (er < 160) = true := decide_eq_true h1
      clear he h1
      go_enter Try.func22, Try.ntmps22
      go_upto_region 1 with fail
      have hu2 : (((w.alloc (.cells #[.slice A n c] 24)).alloc (.cells #[.int .u32 B, .int .u32 S] 27)).alloc (.cells #[.slice none 0 0] 24)) = u0 := hu
      try rw [hu2]
      clear hu hu2
      go_wp2_with (first
        | ((with_reducible refine wpList_load_blk (o := ⟨some 15, .load 24 (.tmp 4), _, _, _, none⟩) rfl _ _ rfl w.heap.size 24 ([.slice A n c]) _ ?_ ?_ Try.underlying24 rfl memS ?_); rfl; exact b4)
        | (go_at_call 43; (with_reducible refine (K0.out _ lw).mono ?_); rintro e w1 ⟨g, c1, rfl, g1, g2, g3, dx, l1⟩; have hg := Nat.le_trans lw.size g1; have hgu := Nat.lt_of_lt_of_le b8.lt g1; replace b8 := b8.keep l1; replace lw := Later.trans_ lw l1)
        | ((with_reducible refine wpList_store_abs (o := ⟨none, .store 24 (.tmp 8) (.tmp 16), _, _, _, none⟩) rfl _ _ _ rfl (w.heap.size + 1 + 1) 24 ([.slice none 0 0]) ([.slice (some ⟨g, 0, none⟩) n c1]) ?_ ?_ ?_ ?_ ?_ ?_ ?_); rfl; rfl; exact b8; exact memS; rfl; exact (one1 rfl); intro w3 b9 o9))
      exact bodyPost_ret (results_blk Try.results22 _ _ (w.heap.size + 1 + 1) 24 _ _ rfl b9 Try.underlying24 rfl memS) rfl ⟨g, c1, rfl, hg, g2, g3, dx.only o9 (Nat.ne_of_gt hgu), Below.only lw o9 (by omega)⟩
    · have d1 : decide (er < 160) = false := decide_eq_false h1
      have d2 : decide (165 < er) = true := decide_eq_true (by omega)
      clear he h1
      go_enter Try.func22, Try.ntmps22
      go_upto_region 1 with fail
      have hu2 : (((w.alloc (.cells #[.slice A n c] 24)).alloc (.cells #[.int .u32 B, .int .u32 S] 27)).alloc (.cells #[.slice none 0 0] 24)) = u0 := hu
      try rw [hu2]
      clear hu hu2
      go_wp2_with (first
        | ((with_reducible refine wpList_load_blk (o := ⟨some 15, .load 24 (.tmp 4), _, _, _, none⟩) rfl _ _ rfl w.heap.size 24 ([.slice A n c]) _ ?_ ?_ Try.underlying24 rfl memS ?_); rfl; exact b4)
        | (go_at_call 43; (with_reducible refine (K0.out _ lw).mono ?_); rintro e w1 ⟨g, c1, rfl, g1, g2, g3, dx, l1⟩; have hg := Nat.le_trans lw.size g1; have hgu := Nat.lt_of_lt_of_le b8.lt g1; replace b8 := b8.keep l1; replace lw := Later.trans_ lw l1)
        | ((with_reducible refine wpList_store_abs (o := ⟨none, .store 24 (.tmp 8) (.tmp 16), _, _, _, none⟩) rfl _ _ _ rfl (w.heap.size + 1 + 1) 24 ([.slice none 0 0]) ([.slice (some ⟨g, 0, none⟩) n c1]) ?_ ?_ ?_ ?_ ?_ ?_ ?_); rfl; rfl; exact b8; exact memS; rfl; exact (one1 rfl); intro w3 b9 o9))
      exact bodyPost_ret (results_blk Try.results22 _ _ (w.heap.size + 1 + 1) 24 _ _ rfl b9 Try.underlying24 rfl memS) rfl ⟨g, c1, rfl, hg, g2, g3, dx.only o9 (Nat.ne_of_gt hgu), Below.only lw o9 (by omega)⟩
  · rw [if_neg he]
    have d1 : decide (er < 160) = false := decide_eq_false (by omega)
    have d2 : decide (165 < er) = false := decide_eq_false (by omega)
    have KS := Lib.hid fun w' => status_any B S i (4 + (er - 160)) w' hB (by omega) i0 (by omega)
    have KW := Lib.hid fun w' (g0 : Nat) (k : Later w w') (hbk : Blk w' g0 85 (Wc (B + 16 * i + 12, 4, 4 + (er - 160)))) => pw_any A n c b (some ⟨g0, 0, none⟩) 1 1 [(B + 16 * i + 12, 4, 4 + (er - 160))] w' (hs.keep k) hb hn1 hn (sl_w1 hbk) rfl (fun x hx => by
      obtain rfl := List.mem_singleton.1 hx
      exact sw_isW hok (by omega) (v := 4 + (er - 160)) (by omega) (by omega) (l := [(i, 0, 0, false)]) (fun p hp => by obtain rfl := List.mem_singleton.1 hp; exact ⟨i0, i1⟩) _ List.mem_cons_self) (by omega)
    rw [(ap_one b _ _ _).1] at KW
    change Hid (∀ w' g0, Later w w' → Blk w' g0 85 (Wc (B + 16 * i + 12, 4, 4 + (er - 160))) → Calls Try.prog 43 #[.agg #[.slice A n c], .slice (some ⟨g0, 0, none⟩) 1 1] w' (GotM n (Rg.stat b B i (4 + (er - 160))) w')) at KW
    obtain ⟨X, hX⟩ : ∃ X, X = Rg.stat b B i (4 + (er - 160)) := ⟨_, rfl⟩
    rw [← hX] at KW ⊢
    have a1 : IntKind.i64.wrap (er - 160) = er - 160 := wrap64 _ (by omega) (by omega)
    have a2 : IntKind.u32.wrap (er - 160) = er - 160 := by rw [IntKind.wrap_u32]; omega
    have a3 : IntKind.u32.wrap (4 + (er - 160)) = 4 + (er - 160) := by rw [IntKind.wrap_u32]; omega
    clear hX hs hb hok hz2 hz0 hz1 hi0 he K0
    have b4 : Blk _ w.heap.size 24 ([.slice A n c]) := (((Blk.new' w w.heap.size 24 ([.slice A n c]).toArray ([.slice A n c]) (by simp) rfl).alloc (.cells ([.int .u32 B, .int .u32 S]).toArray 27)).alloc (.cells ([.slice none 0 0]).toArray 24))
    have b5 : Blk _ (w.heap.size + 1) 27 ([.int .u32 B, .int .u32 S]) := ((Blk.new' (w.alloc (.cells ([.slice A n c]).toArray 24)) (w.heap.size + 1) 27 ([.int .u32 B, .int .u32 S]).toArray ([.int .u32 B, .int .u32 S]) (by simp) rfl).alloc (.cells ([.slice none 0 0]).toArray 24))
    have b8 : Blk _ (w.heap.size + 1 + 1) 24 ([.slice none 0 0]) := (Blk.new' ((w.alloc (.cells ([.slice A n c]).toArray 24)).alloc (.cells ([.int .u32 B, .int .u32 S]).toArray 27)) (w.heap.size + 1 + 1) 24 ([.slice none 0 0]).toArray ([.slice none 0 0]) (by simp) rfl)
    have lw := (((later1 w (.cells ([.slice A n c]).toArray 24)).alloc (by simp; try omega) (.cells ([.int .u32 B, .int .u32 S]).toArray 27)).alloc (by simp; try omega) (.cells ([.slice none 0 0]).toArray 24))
    obtain ⟨u0, hu⟩ : ∃ u, (((w.alloc (.cells ([.slice A n c]).toArray 24)).alloc (.cells ([.int .u32 B, .int .u32 S]).toArray 27)).alloc (.cells ([.slice none 0 0]).toArray 24)) = u := ⟨_, rfl⟩
    rw [hu] at b4 b5 b8 lw
    go_enter Try.func22, Try.ntmps22
    go_upto_region 1 with fail
    have hu2 : (((w.alloc (.cells #[.slice A n c] 24)).alloc (.cells #[.int .u32 B, .int .u32 S] 27)).alloc (.cells #[.slice none 0 0] 24)) = u0 := hu
    try rw [hu2]
    clear hu hu2
    go_upto_region 3 with fail
    replace b4 := b4.drew
    replace b5 := b5.drew
    replace b8 := b8.drew
    replace lw := lw.drew
    refine wp_region_held_drew (S := fun w' => World.rangeAt w' w.heap.size 0 [.slice A n c] ∧ World.rangeAt w' (w.heap.size + 1) 0 [.int .u32 B, .int .u32 S]) (by kernel_rfl) ⟨b4.range 0 1, b5.range 0 2⟩ (fun hHeld => ?_)
    refine wpAnyH_take (i := 0) (oi := ⟨some 17, .load 24 (.tmp 4), _, _, _, none⟩) (v := .agg ([.slice A n c]).toArray) rfl (by kernel_rfl) (by kernel_rfl) (by kernel_rfl) (fun _ _ _ h => h) (yieldsIf_load_mid (by rfl) _ _ rfl w.heap.size 0 rfl ([.slice A n c]) _ (fun wz hSw => hSw.1) Try.underlying24 rfl memS) hHeld ?_
    simp only [Act.put, List.setIfInBounds_toArray, List.set_cons_zero, List.set_cons_succ]
    refine wpAnyH_take (i := 1) (oi := ⟨some 18, .load 27 (.tmp 5), _, _, _, none⟩) (v := .agg ([.int .u32 B, .int .u32 S]).toArray) rfl (by kernel_rfl) (by kernel_rfl) (by kernel_rfl) (fun _ _ _ h => h) (yieldsIf_load_mid (by rfl) _ _ rfl (w.heap.size + 1) 0 rfl ([.int .u32 B, .int .u32 S]) _ (fun wz hSw => hSw.2) Try.underlying27 rfl ring_sz) hHeld ?_
    simp only [Act.put, List.setIfInBounds_toArray, List.set_cons_zero, List.set_cons_succ]
    refine wpAnyH_take (i := 2) (oi := ⟨some 19, .move (.tmp 2), _, _, _, none⟩) (v := .int .i64 i) rfl (by kernel_rfl) (by kernel_rfl) (by kernel_rfl) (fun _ _ _ h => h) (Or.inl ⟨by rfl, fun _ _ => rfl⟩) hHeld ?_
    simp only [Act.put, List.setIfInBounds_toArray, List.set_cons_zero, List.set_cons_succ]
    refine wpAnyH_take (i := 3) (oi := ⟨some 20, .move (.tmp 3), _, _, _, none⟩) (v := .int .i64 er) rfl (by kernel_rfl) (by kernel_rfl) (by kernel_rfl) (fun _ _ _ h => h) (Or.inl ⟨by rfl, fun _ _ => rfl⟩) hHeld ?_
    simp only [Act.put, List.setIfInBounds_toArray, List.set_cons_zero, List.set_cons_succ]
    refine wpAnyH_take (i := 4) (oi := ⟨some 21, .binOp .sub 28 (.tmp 20) (.const (.int .i64 160)) 28, _, _, _, none⟩) (v := .int .i64 (er - 160)) rfl (by kernel_rfl) (by kernel_rfl) (by kernel_rfl) (fun _ _ _ h => h) (Or.inl ⟨by rfl, fun w _ => by go_simp⟩) hHeld ?_
    simp only [Act.put, List.setIfInBounds_toArray, List.set_cons_zero, List.set_cons_succ]
    refine wpAnyH_take (i := 5) (oi := ⟨some 22, .convert 28 25 (.tmp 21), _, _, _, none⟩) (v := .int .u32 (er - 160)) rfl (by kernel_rfl) (by kernel_rfl) (by kernel_rfl) (fun _ _ _ h => h) (Or.inl ⟨by rfl, fun w _ => by go_simp⟩) hHeld ?_
    simp only [Act.put, List.setIfInBounds_toArray, List.set_cons_zero, List.set_cons_succ]
    refine wpAnyH_take (i := 6) (oi := ⟨some 23, .binOp .add 25 (.const (.int .u32 4)) (.tmp 22) 25, _, _, _, none⟩) (v := .int .u32 (4 + (er - 160))) rfl (by kernel_rfl) (by kernel_rfl) (by kernel_rfl) (fun _ _ _ h => h) (Or.inl ⟨by rfl, fun w _ => by go_simp⟩) hHeld ?_
    simp only [Act.put, List.setIfInBounds_toArray, List.set_cons_zero, List.set_cons_succ]
    refine wpAnyH_ready (rs := [7]) (by kernel_rfl) (by simp) (AllReadyH.cons (o := ⟨some 24, .call { callee := .value (.func 50), args := #[.tmp 18, .tmp 19, .tmp 23], argTypes := #[27, 3, 25] }, _, _, _, none⟩) rfl (fun K' hK => ?_) (AllReadyH.nil))
    go_simp
    (with_reducible refine (KS.out _).mono ?_)
    rintro e1 w1 ⟨rfl, l1⟩
    replace b4 := b4.keep l1
    replace b5 := b5.keep l1
    replace b8 := b8.keep l1
    replace lw := Later.trans_ lw l1
    refine hK.out _ _ ⟨b4.range 0 1, b5.range 0 2⟩ (fun hHeld => ?_)
    clear hK K'
    try simp only [Act.put, List.setIfInBounds_toArray, List.set_cons_zero, List.set_cons_succ]
    refine wpAnyH_ready (rs := [8]) (by kernel_rfl) (by simp) (AllReadyH.cons (o := ⟨some 25, .buildSlice 78 1 #[(0, .tmp 24)], _, _, _, none⟩) rfl (fun K' hK => ?_) (AllReadyH.nil))
    refine wp_build1 _ 85 _ rfl (Wc (B + 16 * i + 12, 4, 4 + (er - 160))).toArray i0' _ Try.underlying78 HI.out.1 HI.out.2.1 (by rw [HI.out.2.2]; rfl) (show 0 < 3 from by decide) (show 3 ≤ 16777216 from by decide) rfl ?_
    have bs := Blk.new w1 85 (Wc (B + 16 * i + 12, 4, 4 + (er - 160))).toArray (Wc (B + 16 * i + 12, 4, 4 + (er - 160))) rfl
    replace b4 := b4.alloc (.cells (Wc (B + 16 * i + 12, 4, 4 + (er - 160))).toArray 85)
    replace b5 := b5.alloc (.cells (Wc (B + 16 * i + 12, 4, 4 + (er - 160))).toArray 85)
    replace b8 := b8.alloc (.cells (Wc (B + 16 * i + 12, 4, 4 + (er - 160))).toArray 85)
    replace lw := lw.alloc lw.size (.cells (Wc (B + 16 * i + 12, 4, 4 + (er - 160))).toArray 85)
    refine hK.out _ _ ⟨b4.range 0 1, b5.range 0 2⟩ (fun hHeld => ?_)
    clear hK K'
    try simp only [Act.put, List.setIfInBounds_toArray, List.set_cons_zero, List.set_cons_succ]
    refine wpAnyH_ready (rs := [9]) (by kernel_rfl) (by simp) (AllReadyH.cons (o := ⟨some 26, .call { callee := .value (.func 43), args := #[.tmp 17, .tmp 25], argTypes := #[24, 78] }, _, _, _, none⟩) rfl (fun K' hK => ?_) (AllReadyH.nil))
    go_simp
    (with_reducible refine (KW.out _ _ lw bs).mono ?_)
    rintro e2 w3 ⟨g, c1, rfl, g1, g2, g3, dx, l3⟩
    have hg := Nat.le_trans lw.size g1
    have hgu := Nat.lt_of_lt_of_le b8.lt g1
    replace b4 := b4.keep l3
    replace b5 := b5.keep l3
    replace b8 := b8.keep l3
    replace lw := Later.trans_ lw l3
    refine hK.out _ _ ⟨b4.range 0 1, b5.range 0 2⟩ (fun hHeld => ?_)
    clear hK K'
    try simp only [Act.put, List.setIfInBounds_toArray, List.set_cons_zero, List.set_cons_succ]
    refine wpAnyH_ready (rs := [10]) (by kernel_rfl) (by simp) (AllReadyH.cons (o := ⟨none, .store 24 (.tmp 8) (.tmp 26), _, _, _, none⟩) rfl (fun K' hK => ?_) (AllReadyH.nil))
    refine wp_store_blk 24 _ _ rfl (w.heap.size + 1 + 1) 24 [.slice none 0 0] [.slice (some ⟨g, 0, none⟩) n c1] rfl rfl b8 memS rfl (one1 rfl) ?_
    intro w9 b9 o9
    replace b4 := b4.only o9 (by omega)
    replace b5 := b5.only o9 (by omega)
    replace lw := Below.only lw o9 (by omega)
    replace dx := dx.only o9 (Nat.ne_of_gt hgu)
    refine hK.out _ _ ⟨b4.range 0 1, b5.range 0 2⟩ (fun hHeld => ?_)
    clear hK K'
    try simp only [Act.put]
    refine wpAnyH_done (by kernel_rfl) ?_ _
    clear hHeld
    go_wp2
    exact bodyPost_ret (results_blk Try.results22 _ _ (w.heap.size + 1 + 1) 24 _ _ rfl b9 Try.underlying24 rfl memS) rfl ⟨g, c1, rfl, hg, g2, g3, dx, lw⟩
set_option maxRecDepth 100000 in
set_option maxHeartbeats 4000000 in
theorem finish_any (A : Option Addr) (n c : Nat) (b : Wm.Bs) (B S : Int) (A' : Option Addr) (m c' : Nat) (l : List Rg.Pt) (w : World) (hs : Sl w 128 A n (U b)) (hb : Wm.isBs b) (hn1 : 1 ≤ n) (hn : n ≤ 64) (hok : Rg.Ok (n * 128) B S) (hsl : Sl w 4 A' m (Ps l)) (hl : l.length = m) (hm : m ≤ 4) (hi : Rg.Inr S l) :
    Calls Try.prog 20 #[.agg #[.slice A n c], .agg #[.int .u32 B, .int .u32 S], .slice A' m c'] w (GotM n (Rg.mark b B l 3) w) := by
  have hB := hok.2.2.1
  have hB2 := hok.2.2.2
  have hS := hok.s
  have hbl : b.length = n * 128 := by have := hs.1; rwa [U_length] at this
  have KS := Lib.hid fun w' (k : Later w w') => statuses_any B S 3 A' m c' l w' hB (by omega) (hsl.keep k) hl hm (fun p hp => ⟨(hi p hp).1, by have := (hi p hp).2; omega⟩)
  have KW := Lib.hid fun w' (g0 : Nat) (k : Later w w') (hk : Sl w' 3 (some ⟨g0, 0, none⟩) m (Ws (sw B l 3))) => pw_any A n c b (some ⟨g0, 0, none⟩) m m (sw B l 3) w' (hs.keep k) hb hn1 hn hk ((sw_len _ _ _).trans hl) (sw_isW hok (by omega) (by omega) (by omega) hi) (by omega)
  rw [ap_sw hok l b hbl hi] at KW
  change Hid (∀ w' g0, Later w w' → Sl w' 3 (some ⟨g0, 0, none⟩) m (Ws (sw B l 3)) → Calls Try.prog 43 #[.agg #[.slice A n c], .slice (some ⟨g0, 0, none⟩) m m] w' (GotM n (Rg.mark b B l 3) w')) at KW
  obtain ⟨X, hX⟩ : ∃ X, X = Rg.mark b B l 3 := ⟨_, rfl⟩
  rw [← hX] at KW ⊢
  clear hX hs hb hok hsl hl hbl hi
  have b4 : Blk _ w.heap.size 24 ([.slice A n c]) := (((Blk.new' w w.heap.size 24 ([.slice A n c]).toArray ([.slice A n c]) (by simp) rfl).alloc (.cells ([.int .u32 B, .int .u32 S]).toArray 27)).alloc (.cells ([.slice none 0 0]).toArray 24))
  have b5 : Blk _ (w.heap.size + 1) 27 ([.int .u32 B, .int .u32 S]) := ((Blk.new' (w.alloc (.cells ([.slice A n c]).toArray 24)) (w.heap.size + 1) 27 ([.int .u32 B, .int .u32 S]).toArray ([.int .u32 B, .int .u32 S]) (by simp) rfl).alloc (.cells ([.slice none 0 0]).toArray 24))
  have b8 : Blk _ (w.heap.size + 1 + 1) 24 ([.slice none 0 0]) := (Blk.new' ((w.alloc (.cells ([.slice A n c]).toArray 24)).alloc (.cells ([.int .u32 B, .int .u32 S]).toArray 27)) (w.heap.size + 1 + 1) 24 ([.slice none 0 0]).toArray ([.slice none 0 0]) (by simp) rfl)
  have lw := (((later1 w (.cells ([.slice A n c]).toArray 24)).alloc (by simp; try omega) (.cells ([.int .u32 B, .int .u32 S]).toArray 27)).alloc (by simp; try omega) (.cells ([.slice none 0 0]).toArray 24))
  obtain ⟨u0, hu⟩ : ∃ u, (((w.alloc (.cells ([.slice A n c]).toArray 24)).alloc (.cells ([.int .u32 B, .int .u32 S]).toArray 27)).alloc (.cells ([.slice none 0 0]).toArray 24)) = u := ⟨_, rfl⟩
  rw [hu] at b4 b5 b8 lw
  go_enter Try.func20, Try.ntmps20
  go_upto_region 1 with fail
  have hu2 : (((w.alloc (.cells #[.slice A n c] 24)).alloc (.cells #[.int .u32 B, .int .u32 S] 27)).alloc (.cells #[.slice none 0 0] 24)) = u0 := hu
  try rw [hu2]
  clear hu hu2
  go_upto_region 1 with fail
  replace b4 := b4.drew
  replace b5 := b5.drew
  replace b8 := b8.drew
  replace lw := lw.drew
  refine wp_region_held_drew (S := fun w' => World.rangeAt w' w.heap.size 0 [.slice A n c] ∧ World.rangeAt w' (w.heap.size + 1) 0 [.int .u32 B, .int .u32 S]) (by kernel_rfl) ⟨b4.range 0 1, b5.range 0 2⟩ (fun hHeld => ?_)
  refine wpAnyH_take (i := 0) (oi := ⟨some 7, .load 24 (.tmp 3), _, _, _, none⟩) (v := .agg ([.slice A n c]).toArray) rfl (by kernel_rfl) (by kernel_rfl) (by kernel_rfl) (fun _ _ _ h => h) (yieldsIf_load_mid (by rfl) _ _ rfl w.heap.size 0 rfl ([.slice A n c]) _ (fun wz hSw => hSw.1) Try.underlying24 rfl memS) hHeld ?_
  simp only [Act.put, List.setIfInBounds_toArray, List.set_cons_zero, List.set_cons_succ]
  refine wpAnyH_take (i := 1) (oi := ⟨some 8, .load 27 (.tmp 4), _, _, _, none⟩) (v := .agg ([.int .u32 B, .int .u32 S]).toArray) rfl (by kernel_rfl) (by kernel_rfl) (by kernel_rfl) (fun _ _ _ h => h) (yieldsIf_load_mid (by rfl) _ _ rfl (w.heap.size + 1) 0 rfl ([.int .u32 B, .int .u32 S]) _ (fun wz hSw => hSw.2) Try.underlying27 rfl ring_sz) hHeld ?_
  simp only [Act.put, List.setIfInBounds_toArray, List.set_cons_zero, List.set_cons_succ]
  refine wpAnyH_take (i := 2) (oi := ⟨some 9, .move (.tmp 2), _, _, _, none⟩) (v := (.slice A' m c')) rfl (by kernel_rfl) (by kernel_rfl) (by kernel_rfl) (fun _ _ _ h => h) (Or.inl ⟨by rfl, fun _ _ => rfl⟩) hHeld ?_
  simp only [Act.put, List.setIfInBounds_toArray, List.set_cons_zero, List.set_cons_succ]
  refine wpAnyH_ready (rs := [3]) (by kernel_rfl) (by simp) (AllReadyH.cons (o := ⟨some 10, .call { callee := .value (.func 44), args := #[.tmp 8, .tmp 9, .const (.int .u32 3)], argTypes := #[27, 35, 25] }, _, _, _, none⟩) rfl (fun K' hK => ?_) (AllReadyH.nil))
  go_simp
  (with_reducible refine (KS.out _ lw).mono ?_)
  rintro e1 w1 ⟨g0, rfl, sl0, l1⟩
  replace b4 := b4.keep l1
  replace b5 := b5.keep l1
  replace b8 := b8.keep l1
  replace lw := Later.trans_ lw l1
  refine hK.out _ _ ⟨b4.range 0 1, b5.range 0 2⟩ (fun hHeld => ?_)
  clear hK K'
  try simp only [Act.put, List.setIfInBounds_toArray, List.set_cons_zero, List.set_cons_succ]
  refine wpAnyH_ready (rs := [4]) (by kernel_rfl) (by simp) (AllReadyH.cons (o := ⟨some 11, .call { callee := .value (.func 43), args := #[.tmp 7, .tmp 10], argTypes := #[24, 78] }, _, _, _, none⟩) rfl (fun K' hK => ?_) (AllReadyH.nil))
  go_simp
  (with_reducible refine (KW.out _ _ lw sl0).mono ?_)
  rintro e2 w3 ⟨g, c1, rfl, g1, g2, g3, dx, l3⟩
  have hg := Nat.le_trans lw.size g1
  have hgu := Nat.lt_of_lt_of_le b8.lt g1
  replace b4 := b4.keep l3
  replace b5 := b5.keep l3
  replace b8 := b8.keep l3
  replace lw := Later.trans_ lw l3
  refine hK.out _ _ ⟨b4.range 0 1, b5.range 0 2⟩ (fun hHeld => ?_)
  clear hK K'
  try simp only [Act.put, List.setIfInBounds_toArray, List.set_cons_zero, List.set_cons_succ]
  refine wpAnyH_ready (rs := [5]) (by kernel_rfl) (by simp) (AllReadyH.cons (o := ⟨none, .store 24 (.tmp 6) (.tmp 11), _, _, _, none⟩) rfl (fun K' hK => ?_) (AllReadyH.nil))
  refine wp_store_blk 24 _ _ rfl (w.heap.size + 1 + 1) 24 [.slice none 0 0] [.slice (some ⟨g, 0, none⟩) n c1] rfl rfl b8 memS rfl (one1 rfl) ?_
  intro w9 b9 o9
  replace b4 := b4.only o9 (by omega)
  replace b5 := b5.only o9 (by omega)
  replace lw := Below.only lw o9 (by omega)
  replace dx := dx.only o9 (Nat.ne_of_gt hgu)
  refine hK.out _ _ ⟨b4.range 0 1, b5.range 0 2⟩ (fun hHeld => ?_)
  clear hK K'
  try simp only [Act.put]
  refine wpAnyH_done (by kernel_rfl) ?_ _
  clear hHeld
  go_wp2
  exact bodyPost_ret (results_blk Try.results20 _ _ (w.heap.size + 1 + 1) 24 _ _ rfl b9 Try.underlying24 rfl memS) rfl ⟨g, c1, rfl, hg, g2, g3, dx, lw⟩
end Go.Proofs.Ytffgbbfcbobecaa
