/-
  THE STATEMENT RingTakesOnce: what is taken is offered no more, what is finished is done, an error is written down.
-/
import Derived.Test.YtffgbbfcbobecaaRgY
namespace Go.Proofs.Ytffgbbfcbobecaa
open Go.RowKit Go.ChangeShapes Go.WideShapes Go.ChangeAt

theorem diff_self (a : Wm.Bs) (n : Nat) : Mm.diff a a n n = [] := by
  unfold Mm.diff
  rw [List.filter_eq_nil_iff]
  intro k hk
  have := List.mem_range.1 hk
  simp [Mm.dif]
  omega
theorem has_mem {l : List Rg.Pt} {p : Rg.Pt} (h : p ∈ l) : Rg.has l p.1 = true := List.any_eq_true.2 ⟨p, h, decide_eq_true rfl⟩
theorem wd_off {b : Wm.Bs} {B i : Int} : Rg.off b B i = true ↔ Rg.wd b B i 3 = 1 := by unfold Rg.off; exact decide_eq_true_iff
/-- What is taken of what is not offered. -/
theorem take_none {L : Nat} {b : Wm.Bs} {B S i : Int} (h : Rg.wd b B i 3 ≠ 1) : Rg.takE L b B S i = 165 ∧ Rg.takL L b B S i = [] ∧ Rg.takM L b B S i = b := by
  have h1 : Rg.off b B i = false := by
    cases h2 : Rg.off b B i
    · rfl
    · exact absurd (wd_off.1 h2) h
  have h3 := Rg.take_no (L := L) (S := S) h1
  refine ⟨h3, (Rg.take_errs (by rw [h3]; decide)).1, ?_⟩
  unfold Rg.takM
  rw [if_neg (by rw [h3]; decide), if_neg (by rw [h1]; decide)]
/-- The status after an error. -/
theorem take_wrong {L : Nat} {b : Wm.Bs} {B S i : Int} (hL : b.length = L) (hok : Rg.Ok L B S) (i0 : 0 ≤ i) (i1 : i < S) (h : Rg.takE L b B S i ≠ 0) :
    (Rg.wd b B i 3 ≠ 1 ∧ Rg.wd (Rg.takM L b B S i) B i 3 = Rg.wd b B i 3 ∧ Rg.takE L b B S i = 165) ∨ (Rg.wd b B i 3 = 1 ∧ Rg.wd (Rg.takM L b B S i) B i 3 = 4 + (Rg.takE L b B S i - 160)) := by
  by_cases h1 : Rg.wd b B i 3 = 1
  · right
    refine ⟨h1, ?_⟩
    have h2 := (Rg.take_errs h).2
    unfold Rg.takM
    rw [if_neg h, if_pos (wd_off.2 h1), Rg.wd_stat hL hok i0 i1 i0 i1 (by omega) (by omega) (by omega) (by omega), if_pos ⟨rfl, rfl⟩]
  · left
    obtain ⟨h2, _, h3⟩ := take_none (L := L) (S := S) h1
    exact ⟨h1, by rw [h3], h2⟩
/-- The statuses of what is taken. -/
theorem take_stats {L : Nat} {b : Wm.Bs} {B S i : Int} (hb : Wm.isBs b) (hL : b.length = L) (hok : Rg.Ok L B S) (i0 : 0 ≤ i) (i1 : i < S) (h : Rg.takE L b B S i = 0) {p : Rg.Pt} (hp : p ∈ Rg.takL L b B S i) :
    Rg.wd b B p.1 3 = 1 ∧ Rg.wd (Rg.takM L b B S i) B p.1 3 = 2 ∧ Rg.wd (Rg.mark (Rg.takM L b B S i) B (Rg.takL L b B S i) 3) B p.1 3 = 3 := by
  have hg := Rg.take_good (L := L) (B := B) hb i0 i1
  have hi := hg.inr p hp
  have hm : Rg.takM L b B S i = Rg.mark b B (Rg.takL L b B S i) 2 := by unfold Rg.takM; rw [if_pos h]
  refine ⟨wd_off.1 (hg.is p hp).2.1, ?_, ?_⟩
  · rw [hm, Rg.wd_mark hok (by omega) (by omega) hi.1 hi.2 (by omega) (by omega) _ _ hL hg.inr, if_pos ⟨has_mem hp, rfl⟩]
  · rw [Rg.wd_mark hok (by omega) (by omega) hi.1 hi.2 (by omega) (by omega) _ _ ((Rg.takM_len _ _ _ _ _).trans hL) hg.inr, if_pos ⟨has_mem hp, rfl⟩]
set_option maxRecDepth 100000 in
set_option maxHeartbeats 4000000 in
theorem once_no (A : Option Addr) (n c : Nat) (B S i : Int) (w : World) (hB : Tm.isE B) (hS : Tm.isE S) (h : (decide (1 ≤ n ∧ n ≤ 64) && decide (Rg.Ok (n * 128) B S)) = false) : Calls Try.prog 6 #[.agg #[.slice A n c], .agg #[.int .u32 B, .int .u32 S], .int .u8 i] w fun e w' => e = .returned (.bool true) ∧ Later w w' := by
  have KT := Lib.hid fun w' => lthere_any A n c B S w' hB hS
  have KN := Lib.hid fun w' => sanity_any w'
  rw [h] at KT
  clear h hB hS
  have b3 : Blk _ w.heap.size 24 ([.slice A n c]) := ((Blk.new' w w.heap.size 24 ([.slice A n c]).toArray ([.slice A n c]) (by simp) rfl).alloc (.cells ([.int .u32 B, .int .u32 S]).toArray 27))
  have b4 : Blk _ (w.heap.size + 1) 27 ([.int .u32 B, .int .u32 S]) := (Blk.new' (w.alloc (.cells ([.slice A n c]).toArray 24)) (w.heap.size + 1) 27 ([.int .u32 B, .int .u32 S]).toArray ([.int .u32 B, .int .u32 S]) (by simp) rfl)
  have lw := ((later1 w (.cells ([.slice A n c]).toArray 24)).alloc (by simp; try omega) (.cells ([.int .u32 B, .int .u32 S]).toArray 27))
  obtain ⟨u0, hu⟩ : ∃ u, ((w.alloc (.cells ([.slice A n c]).toArray 24)).alloc (.cells ([.int .u32 B, .int .u32 S]).toArray 27)) = u := ⟨_, rfl⟩
  rw [hu] at b3 b4 lw
  go_enter Try.func6, Try.ntmps6
  go_upto_region 1 with fail
  have hu2 : ((w.alloc (.cells #[.slice A n c] 24)).alloc (.cells #[.int .u32 B, .int .u32 S] 27)) = u0 := hu
  try rw [hu2]
  clear hu hu2
  go_wp2_with (first
    | ((with_reducible refine wpList_load_blk (o := ⟨some 19, .load 24 (.tmp 3), _, _, _, none⟩) rfl _ _ rfl w.heap.size 24 ([.slice A n c]) _ ?_ ?_ Try.underlying24 rfl memS ?_); rfl; exact b3)
    | ((with_reducible refine wpList_load_blk (o := ⟨some 20, .load 27 (.tmp 4), _, _, _, none⟩) rfl _ _ rfl (w.heap.size + 1) 27 ([.int .u32 B, .int .u32 S]) _ ?_ ?_ Try.underlying27 rfl ring_sz ?_); rfl; exact b4)
    | (go_at_call 13; (with_reducible refine (KT.out _).mono ?_); rintro e w1 ⟨rfl, l1⟩; replace b3 := b3.keep l1; replace b4 := b4.keep l1; replace lw := Later.trans_ lw l1)
    | (go_at_call 10; (with_reducible refine (KN.out _).mono ?_); rintro e w9 ⟨rfl, l9⟩; replace lw := Later.trans_ lw l9))
  go_ret
  exact ⟨rfl, lw⟩
set_option maxRecDepth 100000 in
set_option maxHeartbeats 32000000 in
theorem once_yes (A : Option Addr) (n c : Nat) (b : Wm.Bs) (B S i : Int) (w : World) (hs : Sl w 128 A n (U b)) (hb : Wm.isBs b) (hB : Tm.isE B) (hS : Tm.isE S) (hi0 : 0 ≤ i) (hi1 : i ≤ 255) (h1 : 1 ≤ n ∧ n ≤ 64) (hok : Rg.Ok (n * 128) B S) : Calls Try.prog 6 #[.agg #[.slice A n c], .agg #[.int .u32 B, .int .u32 S], .int .u8 i] w fun e w' => e = .returned (.bool true) ∧ Later w w' := by
  have KT := Lib.hid fun w' => lthere_any A n c B S w' hB hS
  rw [decide_eq_true h1, decide_eq_true hok] at KT
  have KN := Lib.hid fun w' => sanity_any w'
  obtain ⟨ht, hq0, hq1, hq2⟩ := idx_rng hok hi0
  have hSS := hok.s
  obtain ⟨q, hq⟩ : ∃ q, q = i % S := ⟨_, rfl⟩
  rw [← hq] at ht hq0 hq1
  have hL := hs.1
  rw [U_length] at hL
  have hg := Rg.take_good (L := n * 128) (B := B) hb hq0 hq1
  have KTK := Lib.hid fun w' (k : Later w w') => take_any A n c b B S q w' (hs.keep k) hb h1.1 h1.2 hok hq0 hq1
  have hW := Lib.hid fun h => take_wrong (b := b) hL hok hq0 hq1 h
  have hER := Lib.hid fun h => (Rg.take_errs (L := n * 128) (b := b) (B := B) (S := S) (i := q) h).2
  have HST := Lib.hid fun h p hp => take_stats hb hL hok hq0 hq1 h (p := p) hp
  have hH0 := Lib.hid fun h => Rg.take_head (L := n * 128) (B := B) hb hq0 hq1 h
  obtain ⟨l, hl⟩ : ∃ l, l = Rg.takL (n * 128) b B S q := ⟨_, rfl⟩
  obtain ⟨E1, hE1⟩ : ∃ l, l = Rg.takE (n * 128) b B S q := ⟨_, rfl⟩
  have hXb := Rg.takM_bs (n * 128) B S q hb
  obtain ⟨X, hX⟩ : ∃ l, l = Rg.takM (n * 128) b B S q := ⟨_, rfl⟩
  rw [← hl, ← hE1, ← hX] at KTK
  rw [← hX, ← hE1] at hW
  rw [← hE1] at hER
  rw [← hE1, ← hl, ← hX] at HST
  rw [← hE1, ← hl] at hH0
  rw [← hX] at hXb
  rw [← hl] at hg
  have hll := hg.len
  obtain ⟨Z, hZ⟩ : ∃ Z, Z = Rg.mark X B l 3 := ⟨_, rfl⟩
  have hZb : Wm.isBs Z := by rw [hZ]; exact Rg.mark_bs _ _ _ hXb
  have KFI := Lib.hid fun g c1 AP mp cp w' (h : Draft w' g n X) (k : Sl w' 4 AP mp (Ps l)) (hm : l.length = mp) => finish_any (some ⟨g, 0, none⟩) n c1 X B S AP mp cp l w' h.sl hXb h1.1 h1.2 hok k hm (by omega) hg.inr
  rw [← hZ] at KFI HST
  have KSB := Lib.hid fun w' (k : Later w w') => lstatus_any A n c b B S q w' (hs.keep k) hb h1.1 h1.2 hok hq0 hq1
  have KSX := Lib.hid fun g c1 w' (h : Draft w' g n X) => lstatus_any (some ⟨g, 0, none⟩) n c1 X B S q w' h.sl hXb h1.1 h1.2 hok hq0 hq1
  obtain ⟨v, hv⟩ : ∃ v, v = Rg.wd b B q 3 := ⟨_, rfl⟩
  obtain ⟨v2, hv2⟩ : ∃ v, v = Rg.wd X B q 3 := ⟨_, rfl⟩
  rw [← hv] at KSB hW
  rw [← hv2] at KSX hW
  have hHd := Lib.hid fun (h : E1 = 0) => (show 0 < l.length ∧ ∀ hk : 0 < l.length, l[0].1 = q from by
    have h2 := hH0.out h
    obtain ⟨h3, h4⟩ := List.getElem?_eq_some_iff.1 h2
    exact ⟨h3, fun _ => by rw [h4]; rfl⟩)
  have HK0 := Lib.hid fun (h : E1 = 0) (p : Rg.Pt) (hp : p ∈ l) => (show Hid (∀ w', Later w w' → Calls Try.prog 32 #[.agg #[.slice A n c], .agg #[.int .u32 B, .int .u32 S], .int .i64 p.1] w' fun e w2 => e = .returned (.int .u32 1) ∧ Later w' w2) ∧ Hid (∀ g c1 w', Draft w' g n X → Calls Try.prog 32 #[.agg #[.slice (some ⟨g, 0, none⟩) n c1], .agg #[.int .u32 B, .int .u32 S], .int .i64 p.1] w' fun e w2 => e = .returned (.int .u32 2) ∧ Later w' w2) ∧ Hid (∀ g c1 w', Draft w' g n Z → Calls Try.prog 32 #[.agg #[.slice (some ⟨g, 0, none⟩) n c1], .agg #[.int .u32 B, .int .u32 S], .int .i64 p.1] w' fun e w2 => e = .returned (.int .u32 3) ∧ Later w' w2) ∧ Hid (∀ g c1 w', Draft w' g n X → Calls Try.prog 15 #[.agg #[.slice (some ⟨g, 0, none⟩) n c1], .agg #[.int .u32 B, .int .u32 S], .int .i64 p.1] w' (GotT n X [] 165 w')) from by
    obtain ⟨a1, a2, a3⟩ := HST.out h p hp
    obtain ⟨i0, i1⟩ := hg.inr p hp
    refine ⟨Lib.hid fun w' k => ?_, Lib.hid fun g c1 w' h => ?_, Lib.hid fun g c1 w' h => ?_, Lib.hid fun g c1 w' h => ?_⟩
    · have := lstatus_any A n c b B S p.1 w' (hs.keep k) hb h1.1 h1.2 hok i0 i1
      rw [a1] at this
      exact this
    · have := lstatus_any (some ⟨g, 0, none⟩) n c1 X B S p.1 w' h.sl hXb h1.1 h1.2 hok i0 i1
      rw [a2] at this
      exact this
    · have := lstatus_any (some ⟨g, 0, none⟩) n c1 Z B S p.1 w' h.sl hZb h1.1 h1.2 hok i0 i1
      rw [a3] at this
      exact this
    · have := take_any (some ⟨g, 0, none⟩) n c1 X B S p.1 w' h.sl hXb h1.1 h1.2 hok i0 i1
      obtain ⟨c1, c2, c3⟩ := take_none (L := n * 128) (S := S) (b := X) (B := B) (i := p.1) (by rw [a2]; decide)
      rw [c1, c2, c3] at this
      exact this)
  have KD := Lib.hid fun g c1 g2 c2 w' (h : Draft w' g n X) (k : Draft w' g2 n X) => diff_any (some ⟨g, 0, none⟩) n c1 (some ⟨g2, 0, none⟩) n c2 X X w' h.sl k.sl h1.2 h1.2
  rw [diff_self] at KD
  have hqs : (i % S) = q := hq.symm
  have cS := wrap64 S (by omega) (by omega)
  have ci := wrap64 i hi0 (by omega)
  clear hq hl hE1 hX hXb hZb hZ hv hv2 HST hH0 hs hb hB hS hok hL hSS hg h1
  have b3 : Blk _ w.heap.size 24 ([.slice A n c]) := ((Blk.new' w w.heap.size 24 ([.slice A n c]).toArray ([.slice A n c]) (by simp) rfl).alloc (.cells ([.int .u32 B, .int .u32 S]).toArray 27))
  have b4 : Blk _ (w.heap.size + 1) 27 ([.int .u32 B, .int .u32 S]) := (Blk.new' (w.alloc (.cells ([.slice A n c]).toArray 24)) (w.heap.size + 1) 27 ([.int .u32 B, .int .u32 S]).toArray ([.int .u32 B, .int .u32 S]) (by simp) rfl)
  have lw := ((later1 w (.cells ([.slice A n c]).toArray 24)).alloc (by simp; try omega) (.cells ([.int .u32 B, .int .u32 S]).toArray 27))
  obtain ⟨u0, hu⟩ : ∃ u, ((w.alloc (.cells ([.slice A n c]).toArray 24)).alloc (.cells ([.int .u32 B, .int .u32 S]).toArray 27)) = u := ⟨_, rfl⟩
  rw [hu] at b3 b4 lw
  go_enter Try.func6, Try.ntmps6
  go_upto_region 1 with fail
  have hu2 : ((w.alloc (.cells #[.slice A n c] 24)).alloc (.cells #[.int .u32 B, .int .u32 S] 27)) = u0 := hu
  try rw [hu2]
  clear hu hu2
  go_upto_region 3 with (first
    | ((with_reducible refine wpList_load_blk (o := ⟨some 19, .load 24 (.tmp 3), _, _, _, none⟩) rfl _ _ rfl w.heap.size 24 ([.slice A n c]) _ ?_ ?_ Try.underlying24 rfl memS ?_); rfl; exact b3)
    | ((with_reducible refine wpList_load_blk (o := ⟨some 20, .load 27 (.tmp 4), _, _, _, none⟩) rfl _ _ rfl (w.heap.size + 1) 27 ([.int .u32 B, .int .u32 S]) _ ?_ ?_ Try.underlying27 rfl ring_sz ?_); rfl; exact b4)
    | (go_at_call 13; (with_reducible refine (KT.out _).mono ?_); rintro e w1 ⟨rfl, l1⟩; replace b3 := b3.keep l1; replace b4 := b4.keep l1; replace lw := Later.trans_ lw l1))
  have e5 := b4.cell (j := 1) (v := .int .u32 S) rfl
  go_upto_region 5 with (first
    | ((with_reducible refine wpList_load_blk (o := ⟨some 31, .load 24 (.tmp 3), _, _, _, none⟩) rfl _ _ rfl w.heap.size 24 ([.slice A n c]) _ ?_ ?_ Try.underlying24 rfl memS ?_); rfl; exact b3)
    | ((with_reducible refine wpList_load_blk (o := ⟨some 32, .load 27 (.tmp 4), _, _, _, none⟩) rfl _ _ rfl (w.heap.size + 1) 27 ([.int .u32 B, .int .u32 S]) _ ?_ ?_ Try.underlying27 rfl ring_sz ?_); rfl; exact b4)
    | (go_at_call 15; (with_reducible refine (KTK.out _ lw).mono ?_); rintro e w7 ⟨g, c1, AP, mp, cp, rfl, _, _, _, dX, _, _, sP, hpl, l7⟩; replace b3 := b3.keep l7; replace b4 := b4.keep l7; replace lw := Later.trans_ lw l7)
    | ((with_reducible refine wpList_store_abs (o := ⟨none, .store 24 (.tmp 8) (.tmp 35), _, _, _, none⟩) rfl _ _ _ rfl w7.heap.size 24 ([.slice none 0 0]) ([.slice (some ⟨g, 0, none⟩) n c1]) ?_ ?_ ?_ ?_ ?_ ?_ ?_); rfl; rfl; exact (Blk.new _ _ _ _ rfl); exact memS; rfl; exact (one1 rfl); intro w8 b8 o8; have l8 := Below.only (later1 w7 (.cells #[.slice none 0 0] 24)) o8 (Nat.le_refl _); replace b3 := b3.keep l8; replace b4 := b4.keep l8; replace dX := dX.keep l8; replace sP := sP.keep l8; replace lw := Later.trans_ lw l8; clear l8 o8))
  clear e5
  obtain ⟨G8, hG8⟩ : ∃ g, g = w7.heap.size := ⟨_, rfl⟩
  rw [← hG8] at b8 ⊢
  clear hG8
  clear ht hqs cS ci hq2
  by_cases hE : E1 ≠ 0
  · skip
    clear sP hpl KT KFI KD
    have e0 : (E1 != 0) = true := bne_iff_ne.2 hE
    go_upto_region 6 with fail
    clear e0
    replace b3 := b3.drew
    replace b4 := b4.drew
    replace b8 := b8.drew
    replace lw := lw.drew
    replace dX : Draft w8.drew g n X := dX
    refine wp_region_held_drew (S := fun w' => World.rangeAt w' w.heap.size 0 [.slice A n c] ∧ World.rangeAt w' (w.heap.size + 1) 0 [.int .u32 B, .int .u32 S] ∧ World.rangeAt w' G8 0 [.slice (some ⟨g, 0, none⟩) n c1]) (by kernel_rfl) ⟨b3.range 0 1, b4.range 0 2, b8.range 0 1⟩ (fun hHeld => ?_)
    refine wpAnyH_take (i := 0) (oi := ⟨some 40, .load 24 (.tmp 3), _, _, _, none⟩) (v := .agg ([.slice A n c]).toArray) rfl (by kernel_rfl) (by kernel_rfl) (by kernel_rfl) (fun _ _ _ h => h) (yieldsIf_load_mid (by rfl) _ _ rfl w.heap.size 0 rfl ([.slice A n c]) _ (fun wz hSw => hSw.1) Try.underlying24 rfl memS) hHeld ?_
    simp only [Act.put, List.setIfInBounds_toArray, List.set_cons_zero, List.set_cons_succ]
    refine wpAnyH_take (i := 1) (oi := ⟨some 41, .load 27 (.tmp 4), _, _, _, none⟩) (v := .agg ([.int .u32 B, .int .u32 S]).toArray) rfl (by kernel_rfl) (by kernel_rfl) (by kernel_rfl) (fun _ _ _ h => h) (yieldsIf_load_mid (by rfl) _ _ rfl (w.heap.size + 1) 0 rfl ([.int .u32 B, .int .u32 S]) _ (fun wz hSw => hSw.2.1) Try.underlying27 rfl ring_sz) hHeld ?_
    simp only [Act.put, List.setIfInBounds_toArray, List.set_cons_zero, List.set_cons_succ]
    refine wpAnyH_take (i := 2) (oi := ⟨some 42, .move (.tmp 7), _, _, _, none⟩) (v := .int .i64 q) rfl (by kernel_rfl) (by kernel_rfl) (by kernel_rfl) (fun _ _ _ h => h) (Or.inl ⟨by rfl, fun _ _ => rfl⟩) hHeld ?_
    simp only [Act.put, List.setIfInBounds_toArray, List.set_cons_zero, List.set_cons_succ]
    refine wpAnyH_take (i := 4) (oi := ⟨some 44, .load 24 (.tmp 8), _, _, _, none⟩) (v := .agg ([.slice (some ⟨g, 0, none⟩) n c1]).toArray) rfl (by kernel_rfl) (by kernel_rfl) (by kernel_rfl) (fun _ _ _ h => h) (yieldsIf_load_mid (by rfl) _ _ rfl G8 0 rfl ([.slice (some ⟨g, 0, none⟩) n c1]) _ (fun wz hSw => hSw.2.2) Try.underlying24 rfl memS) hHeld ?_
    simp only [Act.put, List.setIfInBounds_toArray, List.set_cons_zero, List.set_cons_succ]
    refine wpAnyH_take (i := 5) (oi := ⟨some 45, .load 27 (.tmp 4), _, _, _, none⟩) (v := .agg ([.int .u32 B, .int .u32 S]).toArray) rfl (by kernel_rfl) (by kernel_rfl) (by kernel_rfl) (fun _ _ _ h => h) (yieldsIf_load_mid (by rfl) _ _ rfl (w.heap.size + 1) 0 rfl ([.int .u32 B, .int .u32 S]) _ (fun wz hSw => hSw.2.1) Try.underlying27 rfl ring_sz) hHeld ?_
    simp only [Act.put, List.setIfInBounds_toArray, List.set_cons_zero, List.set_cons_succ]
    refine wpAnyH_take (i := 6) (oi := ⟨some 46, .move (.tmp 7), _, _, _, none⟩) (v := .int .i64 q) rfl (by kernel_rfl) (by kernel_rfl) (by kernel_rfl) (fun _ _ _ h => h) (Or.inl ⟨by rfl, fun _ _ => rfl⟩) hHeld ?_
    simp only [Act.put, List.setIfInBounds_toArray, List.set_cons_zero, List.set_cons_succ]
    refine wpAnyH_ready (rs := [3]) (by kernel_rfl) (by simp) (AllReadyH.cons (o := ⟨some 43, .call { callee := .value (.func 32), args := #[.tmp 40, .tmp 41, .tmp 42], argTypes := #[24, 27, 3] }, _, _, _, none⟩) rfl (fun K' hK => ?_) (AllReadyH.nil))
    go_simp
    (with_reducible refine (KSB.out _ lw).mono ?_)
    rintro e x1 ⟨rfl, n1⟩
    replace b3 := b3.keep n1
    replace b4 := b4.keep n1
    replace b8 := b8.keep n1
    replace dX := dX.keep n1
    replace lw := Later.trans_ lw n1
    refine hK.out _ _ ⟨b3.range 0 1, b4.range 0 2, b8.range 0 1⟩ (fun hHeld => ?_)
    clear hK K'
    try simp only [Act.put, List.setIfInBounds_toArray, List.set_cons_zero, List.set_cons_succ]
    refine wpAnyH_ready (rs := [7]) (by kernel_rfl) (by simp) (AllReadyH.cons (o := ⟨some 47, .call { callee := .value (.func 32), args := #[.tmp 44, .tmp 45, .tmp 46], argTypes := #[24, 27, 3] }, _, _, _, none⟩) rfl (fun K' hK => ?_) (AllReadyH.nil))
    go_simp
    (with_reducible refine (KSX.out g c1 _ dX).mono ?_)
    rintro e x2 ⟨rfl, n2⟩
    replace b3 := b3.keep n2
    replace b4 := b4.keep n2
    replace b8 := b8.keep n2
    replace dX := dX.keep n2
    replace lw := Later.trans_ lw n2
    refine hK.out _ _ ⟨b3.range 0 1, b4.range 0 2, b8.range 0 1⟩ (fun hHeld => ?_)
    clear hK K'
    try simp only [Act.put, List.setIfInBounds_toArray, List.set_cons_zero, List.set_cons_succ]
    refine wpAnyH_take (i := 8) (oi := ⟨some 11, .assign (.tmp 43), _, _, _, none⟩) (v := .int .u32 v) rfl (by kernel_rfl) (by kernel_rfl) (by kernel_rfl) (fun _ _ _ h => h) (Or.inl ⟨by rfl, fun _ _ => rfl⟩) hHeld ?_
    simp only [Act.put, List.setIfInBounds_toArray, List.set_cons_zero, List.set_cons_succ]
    refine wpAnyH_take (i := 9) (oi := ⟨some 12, .assign (.tmp 47), _, _, _, none⟩) (v := .int .u32 v2) rfl (by kernel_rfl) (by kernel_rfl) (by kernel_rfl) (fun _ _ _ h => h) (Or.inl ⟨by rfl, fun _ _ => rfl⟩) hHeld ?_
    simp only [Act.put, List.setIfInBounds_toArray, List.set_cons_zero, List.set_cons_succ]
    refine wpAnyH_done (by kernel_rfl) ?_ _
    clear hHeld
    clear KSB KSX KTK
    rcases hW.out hE with ⟨h1, h2, h3⟩ | ⟨h1, h2⟩
    · have h1' : (v != 1) = true := bne_iff_ne.2 h1
      clear hW hE
      have h1'' : (v == 1) = false := beq_false_of_ne h1
      subst h3
      subst h2
      go_wp2_with (first
        | (go_at_call 10; (with_reducible refine (KN.out _).mono ?_); rintro e w9 ⟨rfl, l9⟩; replace lw := Later.trans_ lw l9))
      go_ret
      exact ⟨rfl, lw⟩
    · have hb1 := (hER.out hE).1
      have hb2 := (hER.out hE).2
      clear hW hE hER
      subst h1
      obtain ⟨d, hd⟩ : ∃ d, d = E1 - 160 := ⟨_, rfl⟩
      rw [← hd] at h2
      have a1 : IntKind.i64.wrap (E1 - 160) = d := by rw [← hd]; exact wrap64 _ (by omega) (by omega)
      have a2 : IntKind.u32.wrap d = d := by rw [IntKind.wrap_u32]; omega
      have a3 : IntKind.u32.wrap (4 + d) = v2 := by rw [IntKind.wrap_u32]; omega
      have a4 : (160 : Int) < E1 := by omega
      clear hd h2
      go_wp2_with (first
        | (go_at_call 10; (with_reducible refine (KN.out _).mono ?_); rintro e w9 ⟨rfl, l9⟩; replace lw := Later.trans_ lw l9))
      go_ret
      exact ⟨rfl, lw⟩
  · replace hE : E1 = 0 := Classical.byContradiction hE
    have hE1 := Lib.hid hE
    clear hW hER KSB KSX KTK
    subst hE
    obtain ⟨hm0', hl0⟩ := hHd.out hE1.out
    have hm0 : 0 < mp := by rw [← hpl]; exact hm0'
    go_upto_region 9 with (first
      | ((with_reducible refine wpList_load_blk (o := ⟨some 82, .load 24 (.tmp 8), _, _, _, none⟩) rfl _ _ rfl G8 24 ([.slice (some ⟨g, 0, none⟩) n c1]) _ ?_ ?_ Try.underlying24 rfl memS ?_); rfl; exact b8)
      | ((with_reducible refine wpList_load_blk (o := ⟨some 83, .load 27 (.tmp 4), _, _, _, none⟩) rfl _ _ rfl (w.heap.size + 1) 27 ([.int .u32 B, .int .u32 S]) _ ?_ ?_ Try.underlying27 rfl ring_sz ?_); rfl; exact b4)
      | (go_at_call 20; (with_reducible refine (KFI.out g c1 AP mp cp _ dX sP hpl).mono ?_); rintro e w3 ⟨gZ, cZ, rfl, _, _, _, dZ, l3⟩; replace b3 := b3.keep l3; replace b4 := b4.keep l3; replace b8 := b8.keep l3; replace dX := dX.keep l3; replace sP := sP.keep l3; replace lw := Later.trans_ lw l3)
      | ((with_reducible refine wpList_store_abs (o := ⟨none, .store 24 (.tmp 13) (.tmp 85), _, _, _, none⟩) rfl _ _ _ rfl w3.heap.size 24 ([.slice none 0 0]) ([.slice (some ⟨gZ, 0, none⟩) n cZ]) ?_ ?_ ?_ ?_ ?_ ?_ ?_); rfl; rfl; exact (Blk.new _ _ _ _ rfl); exact memS; rfl; exact (one1 rfl); intro w4 b13 o13; have l4 := Below.only (later1 w3 (.cells #[.slice none 0 0] 24)) o13 (Nat.le_refl _); replace b3 := b3.keep l4; replace b4 := b4.keep l4; replace b8 := b8.keep l4; replace dX := dX.keep l4; replace sP := sP.keep l4; replace dZ := dZ.keep l4; replace lw := Later.trans_ lw l4; clear l4 o13))
    obtain ⟨G13, hG13⟩ : ∃ g, g = w3.heap.size := ⟨_, rfl⟩
    rw [← hG13] at b13 ⊢
    clear hG13
    have HK := Lib.hid (HK0.out hE1.out)
    clear hHd HK0 hE1 KFI KT
    go_wp2
    go_loopw [88] (fun v wr => ∃ k : Nat, k ≤ mp ∧ v = .int .i64 (k : Int) ∧ Blk wr w.heap.size 24 [.slice A n c] ∧ Blk wr (w.heap.size + 1) 27 [.int .u32 B, .int .u32 S] ∧ Blk wr G8 24 [.slice (some ⟨g, 0, none⟩) n c1] ∧ Draft wr g n X ∧ Blk wr G13 24 [.slice (some ⟨gZ, 0, none⟩) n cZ] ∧ Draft wr gZ n Z ∧ Sl wr 4 AP mp (Ps l) ∧ Later w wr) (fun v _ => mp - (intOf v).toNat)
    case atStart => exact ⟨0, Nat.zero_le _, rfl, b3, b4, b8, dX, b13, dZ, sP, lw⟩
    case round =>
      clear b3 b4 b8 dX b13 dZ sP lw
      rename_i wr
      obtain ⟨k, hk, rfl, b3, b4, b8, dX, b13, dZ, hs, lr⟩ := hrel
      by_cases hlt : k < mp
      · have hkl : k < l.length := by rw [hpl]; exact hlt
        obtain ⟨ad, hA⟩ := hs.addr (by omega)
        subst hA
        have HC := Lib.hid fun w' (h : Sl w' 4 (some ad) mp (Ps l)) => h.ptAt hkl hpl
        obtain ⟨KS1, KS2, KS3, KT2⟩ := HK.out l[k] (List.getElem_mem hkl)
        have kn : (k : Int) < (mp : Int) := by omega
        obtain ⟨p, hp⟩ : ∃ p, p = l[k] := ⟨_, rfl⟩
        rw [← hp] at HC KS1 KS2 KS3 KT2
        clear hp
        go_upto_region 13 with (first
      | ((with_reducible refine wpList_load_addr (o := ⟨some 91, .load 59 (.tmp 90), _, _, _, none⟩) rfl _ _ rfl (ad.add (k * 4)) (Pc p) _ ?_ (HC.out _ hs) Try.underlying59 rfl (pt_sz _) ?_); rfl)
      | ((with_reducible refine wpList_store_abs (o := ⟨none, .store 59 (.tmp 15) (.tmp 91), _, _, _, none⟩) rfl _ _ _ rfl wr.heap.size 59 ([.int .i64 0, .int .i64 0, .int .i64 0, .bool false]) (Pc p) ?_ ?_ ?_ ?_ ?_ ?_ ?_); rfl; rfl; exact (Blk.new _ _ _ _ rfl); exact (pt_sz _); rfl; exact (pt_one _); intro w2 b15 o15; have l2 := Below.only (later1 wr (.cells #[.int .i64 0, .int .i64 0, .int .i64 0, .bool false] 59)) o15 (Nat.le_refl _); replace b3 := b3.keep l2; replace b4 := b4.keep l2; replace b8 := b8.keep l2; replace dX := dX.keep l2; replace hs := hs.keep l2; replace b13 := b13.keep l2; replace dZ := dZ.keep l2; replace lr := Later.trans_ lr l2; clear l2 o15; have e15 := b15.cell (j := 0) (v := .int .i64 p.1) rfl)
      | ((with_reducible refine wpList_load_blk (o := ⟨some 93, .load 24 (.tmp 8), _, _, _, none⟩) rfl _ _ rfl G8 24 ([.slice (some ⟨g, 0, none⟩) n c1]) _ ?_ ?_ Try.underlying24 rfl memS ?_); rfl; exact b8)
      | ((with_reducible refine wpList_load_blk (o := ⟨some 94, .load 27 (.tmp 4), _, _, _, none⟩) rfl _ _ rfl (w.heap.size + 1) 27 ([.int .u32 B, .int .u32 S]) _ ?_ ?_ Try.underlying27 rfl ring_sz ?_); rfl; exact b4)
      | (go_at_call 15; (with_reducible refine (KT2.out g c1 _ dX).mono ?_); rintro e w5 ⟨gO, cO, AO, mo, co, rfl, _, _, _, dO, _, _, sO, hol, l5⟩; replace b3 := b3.keep l5; replace b4 := b4.keep l5; replace b8 := b8.keep l5; replace dX := dX.keep l5; replace hs := hs.keep l5; replace b13 := b13.keep l5; replace dZ := dZ.keep l5; replace lr := Later.trans_ lr l5; clear e15; replace b15 := b15.keep l5; have e15 := b15.cell (j := 0) (v := .int .i64 p.1) rfl; clear sO)
      | ((with_reducible refine wpList_store_abs (o := ⟨none, .store 24 (.tmp 16) (.tmp 98), _, _, _, none⟩) rfl _ _ _ rfl w5.heap.size 24 ([.slice none 0 0]) ([.slice (some ⟨gO, 0, none⟩) n cO]) ?_ ?_ ?_ ?_ ?_ ?_ ?_); rfl; rfl; exact (Blk.new _ _ _ _ rfl); exact memS; rfl; exact (one1 rfl); intro w6 b16 o16; have l6 := Below.only (later1 w5 (.cells #[.slice none 0 0] 24)) o16 (Nat.le_refl _); replace b3 := b3.keep l6; replace b4 := b4.keep l6; replace b8 := b8.keep l6; replace dX := dX.keep l6; replace hs := hs.keep l6; replace b13 := b13.keep l6; replace dZ := dZ.keep l6; replace dO := dO.keep l6; replace lr := Later.trans_ lr l6; clear e15; replace b15 := b15.keep l6; have e15 := b15.cell (j := 0) (v := .int .i64 p.1) rfl; clear l6 o16))
        obtain ⟨G16, hG16⟩ : ∃ g, g = w5.heap.size := ⟨_, rfl⟩
        rw [← hG16] at b16 ⊢
        clear hG16
        have hmo : mo = 0 := by rw [← hol]; rfl
        subst hmo
        go_wp2_with (first
      | ((with_reducible refine wpList_load_blk (o := ⟨some 101, .load 24 (.tmp 3), _, _, _, none⟩) rfl _ _ rfl w.heap.size 24 ([.slice A n c]) _ ?_ ?_ Try.underlying24 rfl memS ?_); rfl; exact b3)
      | ((with_reducible refine wpList_load_blk (o := ⟨some 102, .load 27 (.tmp 4), _, _, _, none⟩) rfl _ _ rfl (w.heap.size + 1) 27 ([.int .u32 B, .int .u32 S]) _ ?_ ?_ Try.underlying27 rfl ring_sz ?_); rfl; exact b4)
      | ((with_reducible refine wpList_load_g (o := ⟨some 108, .load 24 (.tmp 8), _, _, _, _⟩) _ _ rfl G8 24 ([.slice (some ⟨g, 0, none⟩) n c1]) _ ?_ ?_ ?_ Try.underlying24 ?_ memS ?_); rfl; rfl; exact b8; rfl)
      | ((with_reducible refine wpList_load_g (o := ⟨some 109, .load 27 (.tmp 4), _, _, _, _⟩) _ _ rfl (w.heap.size + 1) 27 ([.int .u32 B, .int .u32 S]) _ ?_ ?_ ?_ Try.underlying27 ?_ ring_sz ?_); rfl; rfl; exact b4; rfl)
      | ((with_reducible refine wpList_load_g (o := ⟨some 125, .load 24 (.tmp 8), _, _, _, _⟩) _ _ rfl G8 24 ([.slice (some ⟨g, 0, none⟩) n c1]) _ ?_ ?_ ?_ Try.underlying24 ?_ memS ?_); rfl; rfl; exact b8; rfl)
      | ((with_reducible refine wpList_load_g (o := ⟨some 126, .load 24 (.tmp 16), _, _, _, _⟩) _ _ rfl G16 24 ([.slice (some ⟨gO, 0, none⟩) n cO]) _ ?_ ?_ ?_ Try.underlying24 ?_ memS ?_); rfl; rfl; exact b16; rfl)
      | ((with_reducible refine wpList_load_g (o := ⟨some 132, .load 24 (.tmp 13), _, _, _, _⟩) _ _ rfl G13 24 ([.slice (some ⟨gZ, 0, none⟩) n cZ]) _ ?_ ?_ ?_ Try.underlying24 ?_ memS ?_); rfl; rfl; exact b13; rfl)
      | ((with_reducible refine wpList_load_g (o := ⟨some 133, .load 27 (.tmp 4), _, _, _, _⟩) _ _ rfl (w.heap.size + 1) 27 ([.int .u32 B, .int .u32 S]) _ ?_ ?_ ?_ Try.underlying27 ?_ ring_sz ?_); rfl; rfl; exact b4; rfl)
      | (go_at_call 32; (with_reducible refine (KS1.out _ lr).mono ?_); rintro e x1 ⟨rfl, n1⟩; replace b3 := b3.keep n1; replace b4 := b4.keep n1; replace b8 := b8.keep n1; replace dX := dX.keep n1; replace hs := hs.keep n1; replace b13 := b13.keep n1; replace dZ := dZ.keep n1; replace dO := dO.keep n1; replace b16 := b16.keep n1; replace lr := Later.trans_ lr n1; clear e15; replace b15 := b15.keep n1; have e15 := b15.cell (j := 0) (v := .int .i64 p.1) rfl)
      | (go_at_call 32; (with_reducible refine (KS2.out g c1 _ dX).mono ?_); rintro e x2 ⟨rfl, n2⟩; replace b3 := b3.keep n2; replace b4 := b4.keep n2; replace b8 := b8.keep n2; replace dX := dX.keep n2; replace hs := hs.keep n2; replace b13 := b13.keep n2; replace dZ := dZ.keep n2; replace dO := dO.keep n2; replace b16 := b16.keep n2; replace lr := Later.trans_ lr n2; clear e15; replace b15 := b15.keep n2; have e15 := b15.cell (j := 0) (v := .int .i64 p.1) rfl)
      | (go_at_call 32; (with_reducible refine (KS3.out gZ cZ _ dZ).mono ?_); rintro e x3 ⟨rfl, n3⟩; replace b3 := b3.keep n3; replace b4 := b4.keep n3; replace b8 := b8.keep n3; replace dX := dX.keep n3; replace hs := hs.keep n3; replace b13 := b13.keep n3; replace dZ := dZ.keep n3; replace dO := dO.keep n3; replace b16 := b16.keep n3; replace lr := Later.trans_ lr n3; clear e15; replace b15 := b15.keep n3; have e15 := b15.cell (j := 0) (v := .int .i64 p.1) rfl)
      | (go_at_call 33; (with_reducible refine (KD.out g c1 gO cO _ dX dO).mono ?_); rintro e x4 ⟨AD, cd, rfl, _, _, _, n4⟩; replace b3 := b3.keep n4; replace b4 := b4.keep n4; replace b8 := b8.keep n4; replace dX := dX.keep n4; replace hs := hs.keep n4; replace b13 := b13.keep n4; replace dZ := dZ.keep n4; replace dO := dO.keep n4; replace b16 := b16.keep n4; replace lr := Later.trans_ lr n4; clear e15; replace b15 := b15.keep n4; have e15 := b15.cell (j := 0) (v := .int .i64 p.1) rfl))
        go_roundw
        case rel => exact ⟨k + 1, by omega, by go_num, b3, b4, b8, dX, b13, dZ, hs, lr⟩
        case measure => simp [intOf]; omega
      · obtain rfl : k = mp := by omega
        have nlt : ¬ ((k : Int) < (k : Int)) := by omega
        have hkl : 0 < l.length := by rw [hpl]; exact hm0
        have kn : (0 : Int) < (k : Int) := by omega
        obtain ⟨ad, hA⟩ := hs.addr hm0
        subst hA
        have f0 := (hs.ptF hkl hpl).1
        rw [hl0] at f0
        simp only [Nat.zero_mul] at f0
        have f1 := f0
        rw [Addr.add_zero'] at f1
        go_wp2_with (first
      | (go_at_call 10; (with_reducible refine (KN.out _).mono ?_); rintro e y9 ⟨rfl, l9⟩; clear f0; replace lr := Later.trans_ lr l9; replace hs := hs.keep l9; have f0 := (hs.ptF hkl hpl).1; rw [hl0] at f0; simp only [Nat.zero_mul] at f0; clear f1; have f1 := f0; rw [Addr.add_zero'] at f1))
        go_ret
        exact ⟨rfl, lr⟩
theorem once_all (A : Option Addr) (n c : Nat) (b : Wm.Bs) (B S i : Int) (w : World) (hs : Sl w 128 A n (U b)) (hb : Wm.isBs b) (hB : Tm.isE B) (hS : Tm.isE S) (hi0 : 0 ≤ i) (hi1 : i ≤ 255) : Calls Try.prog 6 #[.agg #[.slice A n c], .agg #[.int .u32 B, .int .u32 S], .int .u8 i] w fun e w' => e = .returned (.bool true) ∧ Later w w' := by
  by_cases h1 : 1 ≤ n ∧ n ≤ 64
  · by_cases h2 : Rg.Ok (n * 128) B S
    · exact once_yes A n c b B S i w hs hb hB hS hi0 hi1 h1 h2
    · exact once_no A n c B S i w hB hS (by rw [decide_eq_false h2, Bool.and_false])
  · exact once_no A n c B S i w hB hS (by rw [decide_eq_false h1, Bool.false_and])

set_option maxRecDepth 100000 in
theorem ringTakesOnce_lifted (os : Os) (started : os.Started) (H : Type) (enc : TypeId × Value → H) :
    ReturnsInHanded {} Try.checked os 6 .any (Rows.ringTakesOnceSpec.pre6 enc Try.prog Try.f6 Rows.ringTakesOnceRow.domain false) (Rows.ringTakesOnceSpec.post enc Try.prog Try.f6 false true false false) := by
  refine returnsInHanded_of_change (C := Try.checked) ownK started (by kernel_rfl) Try.func6
    (ChangeSpec.witness6 (enc := enc) (C := Try.checked) false ⟨#[], #[.agg #[.slice none 0 0], .agg #[.int .u32 0, .int .u32 0], .int .u8 0], []⟩ 8 (by kernel_rfl) (by kernel_rfl) (by kernel_rfl) (by kernel_rfl)) ?_
  intro W base args ds gs before hval0 hW hcnd _
  have hval : ∀ (j : Nat) t v, Try.f6.params[j]? = some t → args[j]? = some v → Value.okWide Try.prog W .any base t v := hval0
  have hW' := hW
  obtain ⟨p, q, hA0, hV, rfl, hfz, hnd⟩ := hW
  have hA : DataW.TrodAll enc Try.prog W 0 (fun _ => true) true Try.f6.params.toList args.toList ds p := hA0
  rw [Try.params6] at hA hval
  obtain ⟨v0, vs0, d0, ds0, p0, q0, hargs, rfl, rfl, h0, r0⟩ := trodAll_cons hA
  obtain ⟨v1, vs1, d1, ds1, p1, q1, rfl, rfl, rfl, h1, r1⟩ := trodAll_cons r0
  obtain ⟨v2, vs2, d2, ds2, p2, q2, rfl, rfl, rfl, h2, r2⟩ := trodAll_cons r1
  obtain ⟨rfl, rfl, rfl⟩ := trodAll_nil r2
  obtain rfl : args = #[v0, v1, v2] := by cases args; simp_all
  obtain ⟨rfl, rfl⟩ := trodVars_none hV
  obtain ⟨A0, n0, c0, b0, rfl, x0, y0, s0, z0⟩ := mem_arg (K := 128) (by omega) Try.underlying24 rfl Try.underlying22 Try.underlying106 Try.underlying5 (by kernel_rfl) (by kernel_rfl) (by kernel_rfl) (by kernel_rfl) (hval 0 24 v0 rfl rfl) h0
  obtain ⟨B1, S1, rfl, zB1, zS1⟩ := ring_open (hval 1 27 v1 rfl rfl) h1
  obtain ⟨a2, rfl, _, _, w2⟩ := open_int Try.underlying5 (hval 2 5 v2 rfl rfl) h2
  have z2 : 0 ≤ a2 ∧ a2 ≤ 255 := by
    have e1 : IntKind.u8.min = 0 := rfl
    have e2 : IntKind.u8.max = 255 := rfl
    simp only [Lit.wf, Bool.and_eq_true, decide_eq_true_eq] at w2
    omega
  clear hA0 hval0
  simp only [List.append_nil] at hW'
  refine (once_all A0 n0 c0 b0 B1 S1 a2 W s0 z0 zB1 zS1 z2.1 z2.2).mono fun e W' ⟨he, hw⟩ => ?_
  subst he
  exact ⟨_, rfl, law_post laidK rfl (by kernel_rfl) (by kernel_rfl) Try.underlying4 (by kernel_rfl) hW' rfl hw⟩
set_option maxRecDepth 100000 in
/-- The statement. -/
theorem ringTakesOnce_said : Rows.RingTakesOnceSaid :=
  OpenClaim.holds_of_wide 6 Try.f6 rfl rfl rfl rfl rfl rfl rfl ⟨rfl, rfl, rfl, rfl, rfl⟩ rfl rfl rfl rfl rfl (by kernel_rfl) Try.func6 (by kernel_rfl)
    (of_decide_eq_true (by kernel_rfl)) (by unfold Func.isWrapper; first | (rw [if_pos (by decide +kernel)]; kernel_rfl) | (rw [if_neg (by decide +kernel)]; exact ⟨rfl, rfl⟩))
    (fun os started H enc _ => ringTakesOnce_lifted os started H enc)
#print axioms ringTakesOnce_said
end Go.Proofs.Ytffgbbfcbobecaa
