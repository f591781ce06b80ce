/-
  A RING: First, both; the reference's words.
-/
import Derived.Test.YtffgbbfcbobecaaRgF
import Derived.Test.YtffgbbfcbobecaaRgJ
namespace Go.Proofs.Ytffgbbfcbobecaa
open Go.RowKit Go.ChangeShapes Go.WideShapes Go.ChangeAt

theorem lodS {u v : Value} : (Try.prog.info? 121).map (·.size) = some [u, v].length := by
  show _ = some 2
  kernel_rfl
theorem fld_l (x y : Value) (w : World) : (Instr.field 121 (.agg #[x, y]) 0).run Try.prog w = .ok x w := by kernel_rfl
theorem fld_s (x y : Value) (w : World) : (Instr.field 91 (.agg #[x, y]) 0).run Try.prog w = .ok (.agg #[x]) w := by kernel_rfl
set_option maxRecDepth 100000 in
set_option maxHeartbeats 1000000 in
theorem word0_any (A : Option Addr) (n c : Nat) (b : Wm.Bs) (B S i : Int) (w : World) (hs : Sl w 128 A n (U b)) (hb : Wm.isBs b) (hn : n ≤ 64) (hok : Rg.Ok (n * 128) B S) (i0 : 0 ≤ i) (i1 : i < S) :
    Calls Try.prog 45 #[.agg #[.slice A n c], .agg #[.int .u32 B, .int .u32 S], .int .i64 i, .int .i64 0] w fun e w' => e = .returned (.int .i64 (Rg.wd b B i 0)) ∧ Later w w' := by
  have hB := hok.2.2.1
  have hB2 := hok.2.2.2
  obtain ⟨hS, hS2⟩ := hok.s
  have KL := Lib.hid fun w' (l : Later w w') => rload_any A n c (B + 16 * i) 4 b w' (hs.keep l) hb hn ⟨by omega, by omega⟩
  have hr := Rg.wd_rng hb B i 0
  have c0 := wrap64 (Rg.wd b B i 0) hr.1 (by omega)
  rw [show Mm.ld b (B + 16 * i) 4 = Rg.wd b B i 0 from by simp [Rg.wd]] at KL
  obtain ⟨x, hx⟩ : ∃ x, x = Rg.wd b B i 0 := ⟨_, rfl⟩
  obtain ⟨q, hq⟩ : ∃ q, q = decide (Mm.There (n * 128) (B + 16 * i) 4) := ⟨_, rfl⟩
  rw [← hx, ← hq] at KL
  rw [← hx] at c0 hr ⊢
  have hr0 := hr.1
  have hr1 := hr.2
  clear hx hq hs hb hok hr
  have b4 : Blk _ w.heap.size 24 ([.slice A n c]) := ((Blk.new' w w.heap.size 24 ([.slice A n c]).toArray ([.slice A n c]) (by simp) rfl).alloc (.cells ([.int .u32 B, .int .u32 S]).toArray 27))
  have b5 : Blk _ (w.heap.size + 1) 27 ([.int .u32 B, .int .u32 S]) := (Blk.new' (w.alloc (.cells ([.slice A n c]).toArray 24)) (w.heap.size + 1) 27 ([.int .u32 B, .int .u32 S]).toArray ([.int .u32 B, .int .u32 S]) (by simp) rfl)
  have lw := ((later1 w (.cells ([.slice A n c]).toArray 24)).alloc (by simp; try omega) (.cells ([.int .u32 B, .int .u32 S]).toArray 27))
  obtain ⟨u0, hu⟩ : ∃ u, ((w.alloc (.cells ([.slice A n c]).toArray 24)).alloc (.cells ([.int .u32 B, .int .u32 S]).toArray 27)) = u := ⟨_, rfl⟩
  rw [hu] at b4 b5 lw
  go_enter Try.func45, Try.ntmps45
  go_upto_region 1 with fail
  have hu2 : ((w.alloc (.cells #[.slice A n c] 24)).alloc (.cells #[.int .u32 B, .int .u32 S] 27)) = u0 := hu
  try rw [hu2]
  clear hu hu2
  have e0 := b5.cell (j := 0) (v := .int .u32 B) rfl
  have hfl := fld_l
  go_wp2_with (first
    | ((with_reducible refine wpList_load_blk (o := ⟨some 9, .load 24 (.tmp 4), _, _, _, none⟩) rfl _ _ rfl w.heap.size 24 ([.slice A n c]) _ ?_ ?_ Try.underlying24 rfl memS ?_); rfl; exact b4)
    | (go_at_call 67; (with_reducible refine (KL.out _ lw).mono ?_); rintro e w1 ⟨rfl, l1⟩; clear e0; replace lw := Later.trans_ lw l1))
  go_ret
  exact ⟨rfl, lw⟩
set_option maxRecDepth 100000 in
set_option maxHeartbeats 1000000 in
theorem word1_any (A : Option Addr) (n c : Nat) (b : Wm.Bs) (B S i : Int) (w : World) (hs : Sl w 128 A n (U b)) (hb : Wm.isBs b) (hn : n ≤ 64) (hok : Rg.Ok (n * 128) B S) (i0 : 0 ≤ i) (i1 : i < S) :
    Calls Try.prog 45 #[.agg #[.slice A n c], .agg #[.int .u32 B, .int .u32 S], .int .i64 i, .int .i64 1] w fun e w' => e = .returned (.int .i64 (Rg.wd b B i 1)) ∧ Later w w' := by
  have hB := hok.2.2.1
  have hB2 := hok.2.2.2
  obtain ⟨hS, hS2⟩ := hok.s
  have KL := Lib.hid fun w' (l : Later w w') => rload_any A n c (B + 16 * i + 4) 4 b w' (hs.keep l) hb hn ⟨by omega, by omega⟩
  have hr := Rg.wd_rng hb B i 1
  have c0 := wrap64 (Rg.wd b B i 1) hr.1 (by omega)
  rw [show Mm.ld b (B + 16 * i + 4) 4 = Rg.wd b B i 1 from by simp [Rg.wd]] at KL
  obtain ⟨x, hx⟩ : ∃ x, x = Rg.wd b B i 1 := ⟨_, rfl⟩
  obtain ⟨q, hq⟩ : ∃ q, q = decide (Mm.There (n * 128) (B + 16 * i + 4) 4) := ⟨_, rfl⟩
  rw [← hx, ← hq] at KL
  rw [← hx] at c0 hr ⊢
  have hr0 := hr.1
  have hr1 := hr.2
  clear hx hq hs hb hok hr
  have b4 : Blk _ w.heap.size 24 ([.slice A n c]) := ((Blk.new' w w.heap.size 24 ([.slice A n c]).toArray ([.slice A n c]) (by simp) rfl).alloc (.cells ([.int .u32 B, .int .u32 S]).toArray 27))
  have b5 : Blk _ (w.heap.size + 1) 27 ([.int .u32 B, .int .u32 S]) := (Blk.new' (w.alloc (.cells ([.slice A n c]).toArray 24)) (w.heap.size + 1) 27 ([.int .u32 B, .int .u32 S]).toArray ([.int .u32 B, .int .u32 S]) (by simp) rfl)
  have lw := ((later1 w (.cells ([.slice A n c]).toArray 24)).alloc (by simp; try omega) (.cells ([.int .u32 B, .int .u32 S]).toArray 27))
  obtain ⟨u0, hu⟩ : ∃ u, ((w.alloc (.cells ([.slice A n c]).toArray 24)).alloc (.cells ([.int .u32 B, .int .u32 S]).toArray 27)) = u := ⟨_, rfl⟩
  rw [hu] at b4 b5 lw
  go_enter Try.func45, Try.ntmps45
  go_upto_region 1 with fail
  have hu2 : ((w.alloc (.cells #[.slice A n c] 24)).alloc (.cells #[.int .u32 B, .int .u32 S] 27)) = u0 := hu
  try rw [hu2]
  clear hu hu2
  have e0 := b5.cell (j := 0) (v := .int .u32 B) rfl
  have hfl := fld_l
  go_wp2_with (first
    | ((with_reducible refine wpList_load_blk (o := ⟨some 9, .load 24 (.tmp 4), _, _, _, none⟩) rfl _ _ rfl w.heap.size 24 ([.slice A n c]) _ ?_ ?_ Try.underlying24 rfl memS ?_); rfl; exact b4)
    | (go_at_call 67; (with_reducible refine (KL.out _ lw).mono ?_); rintro e w1 ⟨rfl, l1⟩; clear e0; replace lw := Later.trans_ lw l1))
  go_ret
  exact ⟨rfl, lw⟩
set_option maxRecDepth 100000 in
set_option maxHeartbeats 1000000 in
theorem word2_any (A : Option Addr) (n c : Nat) (b : Wm.Bs) (B S i : Int) (w : World) (hs : Sl w 128 A n (U b)) (hb : Wm.isBs b) (hn : n ≤ 64) (hok : Rg.Ok (n * 128) B S) (i0 : 0 ≤ i) (i1 : i < S) :
    Calls Try.prog 45 #[.agg #[.slice A n c], .agg #[.int .u32 B, .int .u32 S], .int .i64 i, .int .i64 2] w fun e w' => e = .returned (.int .i64 (Rg.wd b B i 2)) ∧ Later w w' := by
  have hB := hok.2.2.1
  have hB2 := hok.2.2.2
  obtain ⟨hS, hS2⟩ := hok.s
  have KL := Lib.hid fun w' (l : Later w w') => rload_any A n c (B + 16 * i + 8) 4 b w' (hs.keep l) hb hn ⟨by omega, by omega⟩
  have hr := Rg.wd_rng hb B i 2
  have c0 := wrap64 (Rg.wd b B i 2) hr.1 (by omega)
  rw [show Mm.ld b (B + 16 * i + 8) 4 = Rg.wd b B i 2 from by simp [Rg.wd]] at KL
  obtain ⟨x, hx⟩ : ∃ x, x = Rg.wd b B i 2 := ⟨_, rfl⟩
  obtain ⟨q, hq⟩ : ∃ q, q = decide (Mm.There (n * 128) (B + 16 * i + 8) 4) := ⟨_, rfl⟩
  rw [← hx, ← hq] at KL
  rw [← hx] at c0 hr ⊢
  have hr0 := hr.1
  have hr1 := hr.2
  clear hx hq hs hb hok hr
  have b4 : Blk _ w.heap.size 24 ([.slice A n c]) := ((Blk.new' w w.heap.size 24 ([.slice A n c]).toArray ([.slice A n c]) (by simp) rfl).alloc (.cells ([.int .u32 B, .int .u32 S]).toArray 27))
  have b5 : Blk _ (w.heap.size + 1) 27 ([.int .u32 B, .int .u32 S]) := (Blk.new' (w.alloc (.cells ([.slice A n c]).toArray 24)) (w.heap.size + 1) 27 ([.int .u32 B, .int .u32 S]).toArray ([.int .u32 B, .int .u32 S]) (by simp) rfl)
  have lw := ((later1 w (.cells ([.slice A n c]).toArray 24)).alloc (by simp; try omega) (.cells ([.int .u32 B, .int .u32 S]).toArray 27))
  obtain ⟨u0, hu⟩ : ∃ u, ((w.alloc (.cells ([.slice A n c]).toArray 24)).alloc (.cells ([.int .u32 B, .int .u32 S]).toArray 27)) = u := ⟨_, rfl⟩
  rw [hu] at b4 b5 lw
  go_enter Try.func45, Try.ntmps45
  go_upto_region 1 with fail
  have hu2 : ((w.alloc (.cells #[.slice A n c] 24)).alloc (.cells #[.int .u32 B, .int .u32 S] 27)) = u0 := hu
  try rw [hu2]
  clear hu hu2
  have e0 := b5.cell (j := 0) (v := .int .u32 B) rfl
  have hfl := fld_l
  go_wp2_with (first
    | ((with_reducible refine wpList_load_blk (o := ⟨some 9, .load 24 (.tmp 4), _, _, _, none⟩) rfl _ _ rfl w.heap.size 24 ([.slice A n c]) _ ?_ ?_ Try.underlying24 rfl memS ?_); rfl; exact b4)
    | (go_at_call 67; (with_reducible refine (KL.out _ lw).mono ?_); rintro e w1 ⟨rfl, l1⟩; clear e0; replace lw := Later.trans_ lw l1))
  go_ret
  exact ⟨rfl, lw⟩
set_option maxRecDepth 100000 in
set_option maxHeartbeats 1000000 in
theorem word3_any (A : Option Addr) (n c : Nat) (b : Wm.Bs) (B S i : Int) (w : World) (hs : Sl w 128 A n (U b)) (hb : Wm.isBs b) (hn : n ≤ 64) (hok : Rg.Ok (n * 128) B S) (i0 : 0 ≤ i) (i1 : i < S) :
    Calls Try.prog 45 #[.agg #[.slice A n c], .agg #[.int .u32 B, .int .u32 S], .int .i64 i, .int .i64 3] w fun e w' => e = .returned (.int .i64 (Rg.wd b B i 3)) ∧ Later w w' := by
  have hB := hok.2.2.1
  have hB2 := hok.2.2.2
  obtain ⟨hS, hS2⟩ := hok.s
  have KL := Lib.hid fun w' (l : Later w w') => rload_any A n c (B + 16 * i + 12) 4 b w' (hs.keep l) hb hn ⟨by omega, by omega⟩
  have hr := Rg.wd_rng hb B i 3
  have c0 := wrap64 (Rg.wd b B i 3) hr.1 (by omega)
  rw [show Mm.ld b (B + 16 * i + 12) 4 = Rg.wd b B i 3 from by simp [Rg.wd]] at KL
  obtain ⟨x, hx⟩ : ∃ x, x = Rg.wd b B i 3 := ⟨_, rfl⟩
  obtain ⟨q, hq⟩ : ∃ q, q = decide (Mm.There (n * 128) (B + 16 * i + 12) 4) := ⟨_, rfl⟩
  rw [← hx, ← hq] at KL
  rw [← hx] at c0 hr ⊢
  have hr0 := hr.1
  have hr1 := hr.2
  clear hx hq hs hb hok hr
  have b4 : Blk _ w.heap.size 24 ([.slice A n c]) := ((Blk.new' w w.heap.size 24 ([.slice A n c]).toArray ([.slice A n c]) (by simp) rfl).alloc (.cells ([.int .u32 B, .int .u32 S]).toArray 27))
  have b5 : Blk _ (w.heap.size + 1) 27 ([.int .u32 B, .int .u32 S]) := (Blk.new' (w.alloc (.cells ([.slice A n c]).toArray 24)) (w.heap.size + 1) 27 ([.int .u32 B, .int .u32 S]).toArray ([.int .u32 B, .int .u32 S]) (by simp) rfl)
  have lw := ((later1 w (.cells ([.slice A n c]).toArray 24)).alloc (by simp; try omega) (.cells ([.int .u32 B, .int .u32 S]).toArray 27))
  obtain ⟨u0, hu⟩ : ∃ u, ((w.alloc (.cells ([.slice A n c]).toArray 24)).alloc (.cells ([.int .u32 B, .int .u32 S]).toArray 27)) = u := ⟨_, rfl⟩
  rw [hu] at b4 b5 lw
  go_enter Try.func45, Try.ntmps45
  go_upto_region 1 with fail
  have hu2 : ((w.alloc (.cells #[.slice A n c] 24)).alloc (.cells #[.int .u32 B, .int .u32 S] 27)) = u0 := hu
  try rw [hu2]
  clear hu hu2
  have e0 := b5.cell (j := 0) (v := .int .u32 B) rfl
  have hfl := fld_l
  go_wp2_with (first
    | ((with_reducible refine wpList_load_blk (o := ⟨some 9, .load 24 (.tmp 4), _, _, _, none⟩) rfl _ _ rfl w.heap.size 24 ([.slice A n c]) _ ?_ ?_ Try.underlying24 rfl memS ?_); rfl; exact b4)
    | (go_at_call 67; (with_reducible refine (KL.out _ lw).mono ?_); rintro e w1 ⟨rfl, l1⟩; clear e0; replace lw := Later.trans_ lw l1))
  go_ret
  exact ⟨rfl, lw⟩
/-- The first that is offered, as two values. -/
def fI (o : Option Int) : Int := o.getD 0
theorem fst_yes {b : Wm.Bs} {B pos : Int} {s k : Nat} (hk : k < s) (h : Rg.off b B ((pos + (k : Int)) % (s : Int)) = true) : Rg.fst b B s pos (s - k) = some ((pos + (k : Int)) % (s : Int)) := by
  obtain ⟨j, hj⟩ : ∃ j, s - k = j + 1 := ⟨s - k - 1, by omega⟩
  rw [hj]
  unfold Rg.fst
  rw [show (s : Int) - ((j : Int) + 1) = (k : Int) by omega, if_pos h]
theorem fst_no {b : Wm.Bs} {B pos : Int} {s k : Nat} (hk : k < s) (h : Rg.off b B ((pos + (k : Int)) % (s : Int)) = false) : Rg.fst b B s pos (s - k) = Rg.fst b B s pos (s - (k + 1)) := by
  obtain ⟨j, hj⟩ : ∃ j, s - k = j + 1 := ⟨s - k - 1, by omega⟩
  rw [hj, show s - (k + 1) = j by omega]
  conv => lhs; unfold Rg.fst
  rw [show (s : Int) - ((j : Int) + 1) = (k : Int) by omega, if_neg (by rw [h]; simp)]
set_option maxRecDepth 100000 in
set_option maxHeartbeats 4000000 in
theorem pfirst_any (A : Option Addr) (n c : Nat) (b : Wm.Bs) (B : Int) (s : Nat) (pos : Int) (w : World) (hs : Sl w 128 A n (U b)) (hb : Wm.isBs b) (hn1 : 1 ≤ n) (hn : n ≤ 64) (hok : Rg.Ok (n * 128) B s) (i0 : 0 ≤ pos) (i1 : pos < s) :
    Calls Try.prog 14 #[.agg #[.slice A n c], .agg #[.int .u32 B, .int .u32 (s : Int)], .int .i64 pos] w fun e w' => e = .returned (.tuple #[.int .i64 (fI (Rg.fst b B s pos s)), .bool (Rg.fst b B s pos s).isSome]) ∧ Later w w' := by
  have hS := hok.s
  have hB2 := hok.2.2.2
  have KC := Lib.hid fun w' => pcheck_any A n c B s w' hn ⟨hok.2.2.1, by omega⟩ ⟨by omega, by omega⟩
  rw [show chk (n * 128) B s = 0 from if_pos hok] at KC
  have KL0 := Lib.hid fun (i : Int) (hi0 : 0 ≤ i) (hi1 : i < s) w' (k : Later w w') => load_dc A n c b B s i w' (hs.keep k) hb hn1 hn hok hi0 hi1
  obtain ⟨RR, hR⟩ : ∃ z, z = Rg.fst b B s pos s := ⟨_, rfl⟩
  rw [← hR]
  have HR := Lib.hid (show Rg.fst b B s pos (s - 0) = RR from hR.symm)
  clear hR hs hb hok
  have b3 : Blk _ w.heap.size 24 ([.slice A n c]) := ((Blk.new' w w.heap.size 24 ([.slice A n c]).toArray ([.slice A n c]) (by simp) rfl).alloc (.cells ([.int .u32 B, .int .u32 (s : Int)]).toArray 27))
  have b4 : Blk _ (w.heap.size + 1) 27 ([.int .u32 B, .int .u32 (s : Int)]) := (Blk.new' (w.alloc (.cells ([.slice A n c]).toArray 24)) (w.heap.size + 1) 27 ([.int .u32 B, .int .u32 (s : Int)]).toArray ([.int .u32 B, .int .u32 (s : Int)]) (by simp) rfl)
  have lw := ((later1 w (.cells ([.slice A n c]).toArray 24)).alloc (by simp; try omega) (.cells ([.int .u32 B, .int .u32 (s : Int)]).toArray 27))
  obtain ⟨u0, hu⟩ : ∃ u, ((w.alloc (.cells ([.slice A n c]).toArray 24)).alloc (.cells ([.int .u32 B, .int .u32 (s : Int)]).toArray 27)) = u := ⟨_, rfl⟩
  rw [hu] at b3 b4 lw
  go_enter Try.func14, Try.ntmps14
  go_upto_region 1 with fail
  have hu2 : ((w.alloc (.cells #[.slice A n c] 24)).alloc (.cells #[.int .u32 B, .int .u32 (s : Int)] 27)) = u0 := hu
  try rw [hu2]
  clear hu hu2
  have e1 := b4.cell (j := 1) (v := .int .u32 (s : Int)) rfl
  have c0 := wrap64 (s : Int) (by omega) (by omega)
  go_wp2_with (first
    | ((with_reducible refine wpList_load_blk (o := ⟨some 11, .load 24 (.tmp 3), _, _, _, none⟩) rfl _ _ rfl w.heap.size 24 ([.slice A n c]) _ ?_ ?_ Try.underlying24 rfl memS ?_); rfl; exact b3)
    | ((with_reducible refine wpList_load_blk (o := ⟨some 12, .load 27 (.tmp 4), _, _, _, none⟩) rfl _ _ rfl (w.heap.size + 1) 27 ([.int .u32 B, .int .u32 (s : Int)]) _ ?_ ?_ Try.underlying27 rfl ring_sz ?_); rfl; exact b4)
    | (go_at_call 11; (with_reducible refine (KC.out _).mono ?_); rintro e w1 ⟨rfl, l1⟩; clear e1; replace b3 := b3.keep l1; replace b4 := b4.keep l1; replace lw := Later.trans_ lw l1; have e1 := b4.cell (j := 1) (v := .int .u32 (s : Int)) rfl))
  clear e1
  go_loopw [19] (fun v19 wr => ∃ k : Nat, k ≤ s ∧ v19 = .int .i64 (k : Int) ∧ Hid (Rg.fst b B s pos (s - k) = RR) ∧ Blk wr w.heap.size 24 [.slice A n c] ∧ Blk wr (w.heap.size + 1) 27 [.int .u32 B, .int .u32 (s : Int)] ∧ Later w wr) (fun v19 _ => s - (intOf v19).toNat)
  case atStart => exact ⟨0, Nat.zero_le _, rfl, HR, b3, b4, lw⟩
  case round =>
    clear b3 b4 lw HR
    rename_i wr
    obtain ⟨k, hk, rfl, HF, b3, b4, lr⟩ := hrel
    by_cases hlt : k < s
    · have kn : (k : Int) < (s : Int) := by omega
      have hx0 : 0 ≤ (pos + (k : Int)) % (s : Int) := Int.emod_nonneg _ (by omega)
      have hx1 : (pos + (k : Int)) % (s : Int) < (s : Int) := Int.emod_lt_of_pos _ (by omega)
      have KL := Lib.hid (KL0.out _ hx0 hx1)
      have hp0 : 0 ≤ pos + (k : Int) := by omega
      obtain ⟨x, hx⟩ : ∃ x, x = (pos + (k : Int)) % (s : Int) := ⟨_, rfl⟩
      have KO := Lib.hid fun w' => isOffered_any (Rg.pt b B x) (Rg.wd b B x 2) (Rg.wd b B x 3) w'
      rw [← hx] at KL hx0 hx1
      change Hid (∀ w', Later w w' → Calls Try.prog 40 #[.agg #[.slice A n c], .agg #[.int .u32 B, .int .u32 (s : Int)], .int .i64 x] w' fun e w'_1 => e = .returned (.agg (dcC (Rg.pt b B x) (Rg.wd b B x 2) (Rg.wd b B x 3)).toArray) ∧ Later w' w'_1) at KL
      change Hid (∀ w', Calls Try.prog 41 #[.agg (dcC (Rg.pt b B x) (Rg.wd b B x 2) (Rg.wd b B x 3)).toArray] w' fun e w'_1 => e = .returned (.bool (Rg.off b B x)) ∧ Later w' w'_1) at KO
      have ht : (pos + (k : Int)).tmod (s : Int) = x := by rw [hx]; exact Int.tmod_eq_emod_of_nonneg hp0
      cases hof : Rg.off b B x
      · rw [hof] at KO
        have HF' := Lib.hid ((fst_no hlt (by rw [← hx]; exact hof)).symm.trans HF.out)
        have hx' := hx.symm
        clear hof hx HF
        go_wp2_with (first
    | ((with_reducible refine wpList_load_blk (o := ⟨some 27, .load 24 (.tmp 3), _, _, _, none⟩) rfl _ _ rfl w.heap.size 24 ([.slice A n c]) _ ?_ ?_ Try.underlying24 rfl memS ?_); rfl; exact b3)
    | ((with_reducible refine wpList_load_blk (o := ⟨some 28, .load 27 (.tmp 4), _, _, _, none⟩) rfl _ _ rfl (w.heap.size + 1) 27 ([.int .u32 B, .int .u32 (s : Int)]) _ ?_ ?_ Try.underlying27 rfl ring_sz ?_); rfl; exact b4)
    | (go_at_call 40; (with_reducible refine (KL.out _ lr).mono ?_); rintro e w3 ⟨rfl, l3⟩; replace b3 := b3.keep l3; replace b4 := b4.keep l3; replace lr := Later.trans_ lr l3)
    | (go_at_call 41; (with_reducible refine (KO.out _).mono ?_); rintro e w4 ⟨rfl, l4⟩; replace b3 := b3.keep l4; replace b4 := b4.keep l4; replace lr := Later.trans_ lr l4))
        clear hx' ht
        go_roundw
        case rel => exact ⟨k + 1, by omega, by go_num, HF', b3, b4, lr⟩
        case measure => simp [intOf]; omega
      · rw [hof] at KO
        have HF' := Lib.hid (HF.out.symm.trans (fst_yes hlt (by rw [← hx]; exact hof)))
        rw [← hx] at HF'
        have hx' := hx.symm
        clear hof hx HF
        go_wp2_with (first
    | ((with_reducible refine wpList_load_blk (o := ⟨some 27, .load 24 (.tmp 3), _, _, _, none⟩) rfl _ _ rfl w.heap.size 24 ([.slice A n c]) _ ?_ ?_ Try.underlying24 rfl memS ?_); rfl; exact b3)
    | ((with_reducible refine wpList_load_blk (o := ⟨some 28, .load 27 (.tmp 4), _, _, _, none⟩) rfl _ _ rfl (w.heap.size + 1) 27 ([.int .u32 B, .int .u32 (s : Int)]) _ ?_ ?_ Try.underlying27 rfl ring_sz ?_); rfl; exact b4)
    | (go_at_call 40; (with_reducible refine (KL.out _ lr).mono ?_); rintro e w3 ⟨rfl, l3⟩; replace b3 := b3.keep l3; replace b4 := b4.keep l3; replace lr := Later.trans_ lr l3)
    | (go_at_call 41; (with_reducible refine (KO.out _).mono ?_); rintro e w4 ⟨rfl, l4⟩; replace b3 := b3.keep l4; replace b4 := b4.keep l4; replace lr := Later.trans_ lr l4))
        clear hx' ht
        go_ret2
        rw [HF'.out]
        exact ⟨rfl, lr⟩
    · obtain rfl : k = s := by omega
      have nlt : ¬ ((k : Int) < (k : Int)) := by omega
      have HF' := Lib.hid (show RR = none from by rw [← HF.out, Nat.sub_self]; rfl)
      go_wp2
      go_ret2
      rw [HF'.out]
      exact ⟨rfl, lr⟩
end Go.Proofs.Ytffgbbfcbobecaa
