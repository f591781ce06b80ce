/-
  A RING: the reference's Finish, Fail, there, written.
-/
import Derived.Test.YtffgbbfcbobecaaRgM
namespace Go.Proofs.Ytffgbbfcbobecaa
open Go.RowKit Go.ChangeShapes Go.WideShapes Go.ChangeAt

set_option maxRecDepth 100000 in
set_option maxHeartbeats 2000000 in
theorem rfinish_any (A : Option Addr) (n c : Nat) (b : Wm.Bs) (B S : Int) (A' : Option Addr) (m c' : Nat) (l : List Rg.Pt) (w : World) (hs : Sl w 128 A n (U b)) (hb : Wm.isBs b) (hn1 : 1 ≤ n) (hn : n ≤ 64) (hnc : n ≤ c) (hc : c ≤ maxLen) (hok : Rg.Ok (n * 128) B S) (hsl : Sl w 4 A' m (Ps l)) (hl : l.length = m) (hm : m ≤ 4) (hi : Rg.Inr S l) :
    Calls Try.prog 21 #[.agg #[.slice A n c], .agg #[.int .u32 B, .int .u32 S], .slice A' m c'] w (GotR n A (Rg.mark b B l 3) w) := by
  have KM := Lib.hid fun w' (k : Later w w') => mark_any A n c b B S 3 A' m c' l w' (hs.keep k) hb hn1 hn hnc hc hok (hsl.keep k) hl hm hi (by omega) (by omega)
  have HAL := Lib.hid (show (∀ ad, A = some ad → ad.block < w.heap.size) from fun ad e => by obtain ⟨_, e', h, _⟩ := hs.2 (by omega); rw [e'] at e; cases e; exact h)
  obtain ⟨X, hX⟩ : ∃ X, X = Rg.mark b B l 3 := ⟨_, rfl⟩
  rw [← hX] at KM ⊢
  clear hX hs hb hsl hl hi hok hnc hc
  have b3 : Blk _ w.heap.size 24 ([.slice A n c]) := (((Blk.new' w w.heap.size 24 ([.slice A n c]).toArray ([.slice A n c]) (by simp) rfl).alloc (.cells ([.int .u32 B, .int .u32 S]).toArray 27)).alloc (.cells ([.slice none 0 0]).toArray 24))
  have b4 : Blk _ (w.heap.size + 1) 27 ([.int .u32 B, .int .u32 S]) := ((Blk.new' (w.alloc (.cells ([.slice A n c]).toArray 24)) (w.heap.size + 1) 27 ([.int .u32 B, .int .u32 S]).toArray ([.int .u32 B, .int .u32 S]) (by simp) rfl).alloc (.cells ([.slice none 0 0]).toArray 24))
  have b6 : Blk _ (w.heap.size + 1 + 1) 24 ([.slice none 0 0]) := (Blk.new' ((w.alloc (.cells ([.slice A n c]).toArray 24)).alloc (.cells ([.int .u32 B, .int .u32 S]).toArray 27)) (w.heap.size + 1 + 1) 24 ([.slice none 0 0]).toArray ([.slice none 0 0]) (by simp) rfl)
  have lw := (((later1 w (.cells ([.slice A n c]).toArray 24)).alloc (by simp; try omega) (.cells ([.int .u32 B, .int .u32 S]).toArray 27)).alloc (by simp; try omega) (.cells ([.slice none 0 0]).toArray 24))
  obtain ⟨u0, hu⟩ : ∃ u, (((w.alloc (.cells ([.slice A n c]).toArray 24)).alloc (.cells ([.int .u32 B, .int .u32 S]).toArray 27)).alloc (.cells ([.slice none 0 0]).toArray 24)) = u := ⟨_, rfl⟩
  rw [hu] at b3 b4 b6 lw
  go_enter Try.func21, Try.ntmps21
  go_upto_region 1 with fail
  have hu2 : (((w.alloc (.cells #[.slice A n c] 24)).alloc (.cells #[.int .u32 B, .int .u32 S] 27)).alloc (.cells #[.slice none 0 0] 24)) = u0 := hu
  try rw [hu2]
  clear hu hu2
  go_wp2_with (first
    | ((with_reducible refine wpList_load_blk (o := ⟨some 7, .load 24 (.tmp 3), _, _, _, none⟩) rfl _ _ rfl w.heap.size 24 ([.slice A n c]) _ ?_ ?_ Try.underlying24 rfl memS ?_); rfl; exact b3)
    | ((with_reducible refine wpList_load_blk (o := ⟨some 8, .load 27 (.tmp 4), _, _, _, none⟩) rfl _ _ rfl (w.heap.size + 1) 27 ([.int .u32 B, .int .u32 S]) _ ?_ ?_ Try.underlying27 rfl ring_sz ?_); rfl; exact b4)
    | (go_at_call 48; (with_reducible refine (KM.out _ lw).mono ?_); rintro e w1 ⟨A1, c1, rfl, g2, g3, sl1, gf, l1⟩; have hbl := b6.lt; have hwl := lw.size; replace b6 := b6.keep l1; replace lw := Later.trans_ lw l1)
    | ((with_reducible refine wpList_store_abs (o := ⟨none, .store 24 (.tmp 6) (.tmp 10), _, _, _, none⟩) rfl _ _ _ rfl (w.heap.size + 1 + 1) 24 ([.slice none 0 0]) ([.slice A1 n c1]) ?_ ?_ ?_ ?_ ?_ ?_ ?_); rfl; rfl; exact b6; exact memS; rfl; exact (one1 rfl); intro w9 b9 o9))
  exact bodyPost_ret (results_blk Try.results21 _ _ (w.heap.size + 1 + 1) 24 _ _ rfl b9 Try.underlying24 rfl memS) rfl ⟨A1, c1, rfl, g2, g3, sl1.only_ne o9 (fun ad e => by rcases gf ad e with h | h; exact Nat.ne_of_lt (Nat.lt_of_lt_of_le (HAL.out ad h) (by omega)); exact Nat.ne_of_gt (Nat.lt_of_lt_of_le hbl h)), fun ad e => (gf ad e).imp id (fun h => Nat.le_trans hwl h), Below.only lw o9 (by omega)⟩
set_option maxRecDepth 100000 in
set_option maxHeartbeats 2000000 in
theorem rfail_any (A : Option Addr) (n c : Nat) (b : Wm.Bs) (B S i er : Int) (w : World) (hs : Sl w 128 A n (U b)) (hb : Wm.isBs b) (hn1 : 1 ≤ n) (hn : n ≤ 64) (hnc : n ≤ c) (hc : c ≤ maxLen) (hok : Rg.Ok (n * 128) B S) (i0 : 0 ≤ i) (i1 : i < S) :
    Calls Try.prog 23 #[.agg #[.slice A n c], .agg #[.int .u32 B, .int .u32 S], .int .i64 i, .int .i64 er] w (GotR n A (Rg.failM b B i er) w) := by
  have HAL := Lib.hid (show (∀ ad, A = some ad → ad.block < w.heap.size) from fun ad e => by obtain ⟨_, e', h, _⟩ := hs.2 (by omega); rw [e'] at e; cases e; exact h)
  unfold Rg.failM
  by_cases h1 : er < 160
  · rw [if_pos (Or.inl h1)]
    have d1 : decide (er < 160) = true := decide_eq_true h1
    clear hb hok h1
    have b4 : Blk _ w.heap.size 24 ([.slice A n c]) := (((Blk.new' w w.heap.size 24 ([.slice A n c]).toArray ([.slice A n c]) (by simp) rfl).alloc (.cells ([.int .u32 B, .int .u32 S]).toArray 27)).alloc (.cells ([.slice none 0 0]).toArray 24))
    have b5 : Blk _ (w.heap.size + 1) 27 ([.int .u32 B, .int .u32 S]) := ((Blk.new' (w.alloc (.cells ([.slice A n c]).toArray 24)) (w.heap.size + 1) 27 ([.int .u32 B, .int .u32 S]).toArray ([.int .u32 B, .int .u32 S]) (by simp) rfl).alloc (.cells ([.slice none 0 0]).toArray 24))
    have b8 : Blk _ (w.heap.size + 1 + 1) 24 ([.slice none 0 0]) := (Blk.new' ((w.alloc (.cells ([.slice A n c]).toArray 24)).alloc (.cells ([.int .u32 B, .int .u32 S]).toArray 27)) (w.heap.size + 1 + 1) 24 ([.slice none 0 0]).toArray ([.slice none 0 0]) (by simp) rfl)
    have lw := (((later1 w (.cells ([.slice A n c]).toArray 24)).alloc (by simp; try omega) (.cells ([.int .u32 B, .int .u32 S]).toArray 27)).alloc (by simp; try omega) (.cells ([.slice none 0 0]).toArray 24))
    obtain ⟨u0, hu⟩ : ∃ u, (((w.alloc (.cells ([.slice A n c]).toArray 24)).alloc (.cells ([.int .u32 B, .int .u32 S]).toArray 27)).alloc (.cells ([.slice none 0 0]).toArray 24)) = u := ⟨_, rfl⟩
    rw [hu] at b4 b5 b8 lw
    go_enter Try.func23, Try.ntmps23
    go_upto_region 1 with fail
    have hu2 : (((w.alloc (.cells #[.slice A n c] 24)).alloc (.cells #[.int .u32 B, .int .u32 S] 27)).alloc (.cells #[.slice none 0 0] 24)) = u0 := hu
    try rw [hu2]
    clear hu hu2
    go_wp2_with (first
      | ((with_reducible refine wpList_load_blk (o := ⟨some 15, .load 24 (.tmp 4), _, _, _, none⟩) rfl _ _ rfl w.heap.size 24 ([.slice A n c]) _ ?_ ?_ Try.underlying24 rfl memS ?_); rfl; exact b4)
      | ((with_reducible refine wpList_store_abs (o := ⟨none, .store 24 (.tmp 8) (.tmp 15), _, _, _, none⟩) rfl _ _ _ rfl (w.heap.size + 1 + 1) 24 ([.slice none 0 0]) ([.slice A n c]) ?_ ?_ ?_ ?_ ?_ ?_ ?_); rfl; rfl; exact b8; exact memS; rfl; exact (one1 rfl); intro w9 b9 o9))
    exact bodyPost_ret (results_blk Try.results23 _ _ (w.heap.size + 1 + 1) 24 _ _ rfl b9 Try.underlying24 rfl memS) rfl ⟨A, c, rfl, hnc, hc, (hs.keep lw).only_ne o9 (fun ad e => Nat.ne_of_lt (Nat.lt_of_lt_of_le (HAL.out ad e) (by omega))), fun ad e => .inl e, Below.only lw o9 (by omega)⟩
  by_cases h2 : 165 < er
  · rw [if_pos (Or.inr h2)]
    have d1 : decide (er < 160) = false := decide_eq_false h1
    have d2 : decide (165 < er) = true := decide_eq_true h2
    clear hb hok h1 h2
    have b4 : Blk _ w.heap.size 24 ([.slice A n c]) := (((Blk.new' w w.heap.size 24 ([.slice A n c]).toArray ([.slice A n c]) (by simp) rfl).alloc (.cells ([.int .u32 B, .int .u32 S]).toArray 27)).alloc (.cells ([.slice none 0 0]).toArray 24))
    have b5 : Blk _ (w.heap.size + 1) 27 ([.int .u32 B, .int .u32 S]) := ((Blk.new' (w.alloc (.cells ([.slice A n c]).toArray 24)) (w.heap.size + 1) 27 ([.int .u32 B, .int .u32 S]).toArray ([.int .u32 B, .int .u32 S]) (by simp) rfl).alloc (.cells ([.slice none 0 0]).toArray 24))
    have b8 : Blk _ (w.heap.size + 1 + 1) 24 ([.slice none 0 0]) := (Blk.new' ((w.alloc (.cells ([.slice A n c]).toArray 24)).alloc (.cells ([.int .u32 B, .int .u32 S]).toArray 27)) (w.heap.size + 1 + 1) 24 ([.slice none 0 0]).toArray ([.slice none 0 0]) (by simp) rfl)
    have lw := (((later1 w (.cells ([.slice A n c]).toArray 24)).alloc (by simp; try omega) (.cells ([.int .u32 B, .int .u32 S]).toArray 27)).alloc (by simp; try omega) (.cells ([.slice none 0 0]).toArray 24))
    obtain ⟨u0, hu⟩ : ∃ u, (((w.alloc (.cells ([.slice A n c]).toArray 24)).alloc (.cells ([.int .u32 B, .int .u32 S]).toArray 27)).alloc (.cells ([.slice none 0 0]).toArray 24)) = u := ⟨_, rfl⟩
    rw [hu] at b4 b5 b8 lw
    go_enter Try.func23, Try.ntmps23
    go_upto_region 1 with fail
    have hu2 : (((w.alloc (.cells #[.slice A n c] 24)).alloc (.cells #[.int .u32 B, .int .u32 S] 27)).alloc (.cells #[.slice none 0 0] 24)) = u0 := hu
    try rw [hu2]
    clear hu hu2
    go_wp2_with (first
      | ((with_reducible refine wpList_load_blk (o := ⟨some 15, .load 24 (.tmp 4), _, _, _, none⟩) rfl _ _ rfl w.heap.size 24 ([.slice A n c]) _ ?_ ?_ Try.underlying24 rfl memS ?_); rfl; exact b4)
      | ((with_reducible refine wpList_store_abs (o := ⟨none, .store 24 (.tmp 8) (.tmp 15), _, _, _, none⟩) rfl _ _ _ rfl (w.heap.size + 1 + 1) 24 ([.slice none 0 0]) ([.slice A n c]) ?_ ?_ ?_ ?_ ?_ ?_ ?_); rfl; rfl; exact b8; exact memS; rfl; exact (one1 rfl); intro w9 b9 o9))
    exact bodyPost_ret (results_blk Try.results23 _ _ (w.heap.size + 1 + 1) 24 _ _ rfl b9 Try.underlying24 rfl memS) rfl ⟨A, c, rfl, hnc, hc, (hs.keep lw).only_ne o9 (fun ad e => Nat.ne_of_lt (Nat.lt_of_lt_of_le (HAL.out ad e) (by omega))), fun ad e => .inl e, Below.only lw o9 (by omega)⟩
  rw [if_neg (by omega)]
  have d1 : decide (er < 160) = false := decide_eq_false h1
  have d2 : decide (165 < er) = false := decide_eq_false h2
  obtain ⟨X, hX⟩ : ∃ X, X = Rg.stat b B i (4 + (er - 160)) := ⟨_, rfl⟩
  have KS : Hid (∀ w', Later w w' → Calls Try.prog 47 #[.agg #[.slice A n c], .agg #[.int .u32 B, .int .u32 S], .int .i64 i, .int .i64 (4 + (er - 160))] w' (GotR n A X w')) := Lib.hid fun w' k => (rstatus_any A n c b B S i (4 + (er - 160)) w' (hs.keep k) hb hn1 hn hok i0 i1 (by omega) (by omega)).mono fun e w'' h => by rw [hX]; exact GotR.of h
  rw [← hX]
  clear hX hs hb hok hnc hc
  have b4 : Blk _ w.heap.size 24 ([.slice A n c]) := (((Blk.new' w w.heap.size 24 ([.slice A n c]).toArray ([.slice A n c]) (by simp) rfl).alloc (.cells ([.int .u32 B, .int .u32 S]).toArray 27)).alloc (.cells ([.slice none 0 0]).toArray 24))
  have b5 : Blk _ (w.heap.size + 1) 27 ([.int .u32 B, .int .u32 S]) := ((Blk.new' (w.alloc (.cells ([.slice A n c]).toArray 24)) (w.heap.size + 1) 27 ([.int .u32 B, .int .u32 S]).toArray ([.int .u32 B, .int .u32 S]) (by simp) rfl).alloc (.cells ([.slice none 0 0]).toArray 24))
  have b8 : Blk _ (w.heap.size + 1 + 1) 24 ([.slice none 0 0]) := (Blk.new' ((w.alloc (.cells ([.slice A n c]).toArray 24)).alloc (.cells ([.int .u32 B, .int .u32 S]).toArray 27)) (w.heap.size + 1 + 1) 24 ([.slice none 0 0]).toArray ([.slice none 0 0]) (by simp) rfl)
  have lw := (((later1 w (.cells ([.slice A n c]).toArray 24)).alloc (by simp; try omega) (.cells ([.int .u32 B, .int .u32 S]).toArray 27)).alloc (by simp; try omega) (.cells ([.slice none 0 0]).toArray 24))
  obtain ⟨u0, hu⟩ : ∃ u, (((w.alloc (.cells ([.slice A n c]).toArray 24)).alloc (.cells ([.int .u32 B, .int .u32 S]).toArray 27)).alloc (.cells ([.slice none 0 0]).toArray 24)) = u := ⟨_, rfl⟩
  rw [hu] at b4 b5 b8 lw
  go_enter Try.func23, Try.ntmps23
  go_upto_region 1 with fail
  have hu2 : (((w.alloc (.cells #[.slice A n c] 24)).alloc (.cells #[.int .u32 B, .int .u32 S] 27)).alloc (.cells #[.slice none 0 0] 24)) = u0 := hu
  try rw [hu2]
  clear hu hu2
  go_wp2_with (first
    | ((with_reducible refine wpList_load_blk (o := ⟨some 16, .load 24 (.tmp 4), _, _, _, none⟩) rfl _ _ rfl w.heap.size 24 ([.slice A n c]) _ ?_ ?_ Try.underlying24 rfl memS ?_); rfl; exact b4)
    | ((with_reducible refine wpList_load_blk (o := ⟨some 17, .load 27 (.tmp 5), _, _, _, none⟩) rfl _ _ rfl (w.heap.size + 1) 27 ([.int .u32 B, .int .u32 S]) _ ?_ ?_ Try.underlying27 rfl ring_sz ?_); rfl; exact b5)
    | (go_at_call 47; (with_reducible refine (KS.out _ lw).mono ?_); rintro e w1 ⟨A1, c1, rfl, g2, g3, sl1, gf, l1⟩; have hbl := b8.lt; have hwl := lw.size; replace b8 := b8.keep l1; replace lw := Later.trans_ lw l1)
    | ((with_reducible refine wpList_store_abs (o := ⟨none, .store 24 (.tmp 8) (.tmp 22), _, _, _, none⟩) rfl _ _ _ rfl (w.heap.size + 1 + 1) 24 ([.slice none 0 0]) ([.slice A1 n c1]) ?_ ?_ ?_ ?_ ?_ ?_ ?_); rfl; rfl; exact b8; exact memS; rfl; exact (one1 rfl); intro w9 b9 o9))
  exact bodyPost_ret (results_blk Try.results23 _ _ (w.heap.size + 1 + 1) 24 _ _ rfl b9 Try.underlying24 rfl memS) rfl ⟨A1, c1, rfl, g2, g3, sl1.only_ne o9 (fun ad e => by rcases gf ad e with h | h; exact Nat.ne_of_lt (Nat.lt_of_lt_of_le (HAL.out ad h) (by omega)); exact Nat.ne_of_gt (Nat.lt_of_lt_of_le hbl h)), fun ad e => (gf ad e).imp id (fun h => Nat.le_trans hwl h), Below.only lw o9 (by omega)⟩
set_option maxRecDepth 100000 in
set_option maxHeartbeats 2000000 in
theorem pts_there (A' : Option Addr) (m c' : Nat) (l : List Rg.Pt) (i : Int) (w : World) (hs : Sl w 4 A' m (Ps l)) (hl : l.length = m) (hm : m ≤ 1000) :
    Calls Try.prog 68 #[.slice A' m c', .int .i64 i] w fun e w' => e = .returned (.bool (Rg.has l i)) ∧ Later w w' := by
  have HL := Lib.hid hl
  obtain ⟨RR, hR⟩ : ∃ z, z = l.any (fun q : Rg.Pt => decide (q.1 = i)) := ⟨_, rfl⟩
  rw [show Rg.has l i = RR from hR.symm]
  have HR := Lib.hid hR
  clear hl hR
  go_enter Try.func68, Try.ntmps68
  go_wp2
  go_loopw [5] (fun v wr => ∃ k : Nat, k ≤ m ∧ v = .int .i64 (k : Int) ∧ Hid ((l.take k).any (fun q : Rg.Pt => decide (q.1 = i)) = false) ∧ Sl wr 4 A' m (Ps l) ∧ Later w wr) (fun v _ => m - (intOf v).toNat)
  case atStart => exact ⟨0, Nat.zero_le _, rfl, Lib.hid (by rw [List.take_zero]; rfl), hs, later0 _⟩
  case round =>
    clear hs
    rename_i wr
    obtain ⟨k, hk, rfl, HA, hs, lr⟩ := hrel
    by_cases hlt : k < m
    · have hkl : k < l.length := by rw [HL.out]; exact hlt
      obtain ⟨ad, hA⟩ := hs.addr (by omega)
      subst hA
      have HC := Lib.hid (hs.ptF hkl HL.out)
      have HT := Lib.hid (anyp_succ l (fun q : Rg.Pt => decide (q.1 = i)) hkl)
      have HX := Lib.hid (any_true l (fun q : Rg.Pt => decide (q.1 = i)) hkl)
      have kn : (k : Int) < (m : Int) := by omega
      obtain ⟨q, hq⟩ : ∃ q, q = l[k] := ⟨_, rfl⟩
      rw [← hq] at HC HT HX
      clear hq
      have f0 := HC.out.1
      by_cases hqi : q.1 = i
      · have d1 : (q.1 == i) = true := beq_iff_eq.2 hqi
        have HN := Lib.hid (HR.out.trans (HX.out (decide_eq_true hqi)))
        clear HT HX hqi
        go_wp2
        go_ret
        rw [HN.out]
        exact ⟨rfl, lr⟩
      · have d1 : (q.1 == i) = false := beq_eq_false_iff_ne.2 hqi
        have HA' := Lib.hid (show (l.take (k + 1)).any (fun q : Rg.Pt => decide (q.1 = i)) = false by rw [HT.out, HA.out, decide_eq_false hqi]; rfl)
        clear HT HX hqi
        go_wp2
        go_roundw
        case rel => exact ⟨k + 1, by omega, by go_num, HA', hs, lr⟩
        case measure => simp [intOf]; omega
    · obtain rfl : k = m := by omega
      have hA := HA.out
      rw [List.take_of_length_le (by rw [HL.out]; exact Nat.le_refl _)] at hA
      have HN := Lib.hid (HR.out.trans hA)
      have nlt : ¬ ((k : Int) < (k : Int)) := by omega
      clear hA
      go_wp2
      go_ret
      rw [HN.out]
      exact ⟨rfl, lr⟩
set_option maxRecDepth 100000 in
set_option maxHeartbeats 2000000 in
theorem pts_written (A' : Option Addr) (m c' : Nat) (l : List Rg.Pt)  (w : World) (hs : Sl w 4 A' m (Ps l)) (hl : l.length = m) (hm : m ≤ 1000) :
    Calls Try.prog 69 #[.slice A' m c'] w fun e w' => e = .returned (.bool (Rg.wri l)) ∧ Later w w' := by
  have HL := Lib.hid hl
  obtain ⟨RR, hR⟩ : ∃ z, z = l.any (fun q : Rg.Pt => q.2.2.2) := ⟨_, rfl⟩
  rw [show Rg.wri l = RR from hR.symm]
  have HR := Lib.hid hR
  clear hl hR
  go_enter Try.func69, Try.ntmps69
  go_wp2
  go_loopw [3] (fun v wr => ∃ k : Nat, k ≤ m ∧ v = .int .i64 (k : Int) ∧ Hid ((l.take k).any (fun q : Rg.Pt => q.2.2.2) = false) ∧ Sl wr 4 A' m (Ps l) ∧ Later w wr) (fun v _ => m - (intOf v).toNat)
  case atStart => exact ⟨0, Nat.zero_le _, rfl, Lib.hid (by rw [List.take_zero]; rfl), hs, later0 _⟩
  case round =>
    clear hs
    rename_i wr
    obtain ⟨k, hk, rfl, HA, hs, lr⟩ := hrel
    by_cases hlt : k < m
    · have hkl : k < l.length := by rw [HL.out]; exact hlt
      obtain ⟨ad, hA⟩ := hs.addr (by omega)
      subst hA
      have HC := Lib.hid (hs.ptF hkl HL.out)
      have HT := Lib.hid (anyp_succ l (fun q : Rg.Pt => q.2.2.2) hkl)
      have HX := Lib.hid (any_true l (fun q : Rg.Pt => q.2.2.2) hkl)
      have kn : (k : Int) < (m : Int) := by omega
      obtain ⟨q, hq⟩ : ∃ q, q = l[k] := ⟨_, rfl⟩
      rw [← hq] at HC HT HX
      clear hq
      have f0 := HC.out.2.2.2
      cases hqi : q.2.2.2
      · rw [hqi] at f0
        have HA' := Lib.hid (show (l.take (k + 1)).any (fun q : Rg.Pt => q.2.2.2) = false by rw [HT.out, HA.out, hqi]; rfl)
        clear HT HX hqi
        go_wp2
        go_roundw
        case rel => exact ⟨k + 1, by omega, by go_num, HA', hs, lr⟩
        case measure => simp [intOf]; omega
      · rw [hqi] at f0
        have HN := Lib.hid (HR.out.trans (HX.out (hqi)))
        clear HT HX hqi
        go_wp2
        go_ret
        rw [HN.out]
        exact ⟨rfl, lr⟩
    · obtain rfl : k = m := by omega
      have hA := HA.out
      rw [List.take_of_length_le (by rw [HL.out]; exact Nat.le_refl _)] at hA
      have HN := Lib.hid (HR.out.trans hA)
      have nlt : ¬ ((k : Int) < (k : Int)) := by omega
      clear hA
      go_wp2
      go_ret
      rw [HN.out]
      exact ⟨rfl, lr⟩
end Go.Proofs.Ytffgbbfcbobecaa
