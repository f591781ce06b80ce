/-
  A RING: what is wrong with a descriptor, the reference's.
-/
import Derived.Test.YtffgbbfcbobecaaRgN
namespace Go.Proofs.Ytffgbbfcbobecaa
open Go.RowKit Go.ChangeShapes Go.WideShapes Go.ChangeAt

/-- What is wrong with a descriptor, from its words. -/
def errY (h4 ha wi : Bool) (L : Nat) (S y0 y1 y2 y3 : Int) : Int :=
  if h4 = true ∨ ha = true then 163 else if ¬ y3 = 1 then 165 else if y1 < 1 ∨ 512 < y1 ∨ (L : Int) < y0 + y1 then 161
  else if y2 / 4 % 64 ≠ 0 ∨ y2 / 65536 ≠ 0 ∨ ¬ y2 / 2 % 2 = 1 ∧ y2 / 256 % 256 ≠ 0 ∨ ¬ y2 % 2 = 1 ∧ wi = true then 164 else if y2 / 2 % 2 = 1 ∧ S ≤ y2 / 256 % 256 then 162 else 0
theorem err_Y (L : Nat) (b : Wm.Bs) (B S : Int) (l : List Rg.Pt) (i : Int) : Rg.err L b B S l i = errY (decide (4 ≤ l.length)) (Rg.has l i) (Rg.wri l) L S (Rg.wd b B i 0) (Rg.wd b B i 1) (Rg.wd b B i 2) (Rg.wd b B i 3) := by
  unfold Rg.err errY
  have e1 : Rg.err1 L b B l i = if decide (4 ≤ l.length) = true ∨ Rg.has l i = true then 163 else if ¬ Rg.wd b B i 3 = 1 then 165 else if Rg.wd b B i 1 < 1 ∨ 512 < Rg.wd b B i 1 ∨ (L : Int) < Rg.wd b B i 0 + Rg.wd b B i 1 then 161
      else if Rg.wd b B i 2 / 4 % 64 ≠ 0 ∨ Rg.wd b B i 2 / 65536 ≠ 0 ∨ ¬ Rg.wd b B i 2 / 2 % 2 = 1 ∧ Rg.wd b B i 2 / 256 % 256 ≠ 0 ∨ ¬ Rg.wd b B i 2 % 2 = 1 ∧ Rg.wri l = true then 164 else 0 := by
    unfold Rg.err1 Rg.off Rg.more Rg.nxt Rg.wr
    simp only [decide_eq_true_eq, decide_eq_false_iff_not]
  rw [e1]
  have e2 : Rg.more b B i = true ∧ S ≤ Rg.nxt b B i ↔ Rg.wd b B i 2 / 2 % 2 = 1 ∧ S ≤ Rg.wd b B i 2 / 256 % 256 := by
    unfold Rg.more Rg.nxt
    rw [decide_eq_true_iff]
  simp only [e2]
  repeat' split
  all_goals first | rfl | (exfalso; omega)
section
variable {h4 ha wi : Bool} {L : Nat} {S y0 y1 y2 y3 : Int}
theorem errY_loop (h : h4 = true ∨ ha = true) : errY h4 ha wi L S y0 y1 y2 y3 = 163 := if_pos h
theorem errY_off (h : ¬ (h4 = true ∨ ha = true)) (k : ¬ y3 = 1) : errY h4 ha wi L S y0 y1 y2 y3 = 165 := by
  unfold errY; rw [if_neg h, if_pos k]
theorem errY_part (h : ¬ (h4 = true ∨ ha = true)) (k : y3 = 1) (p : y1 < 1 ∨ 512 < y1 ∨ (L : Int) < y0 + y1) : errY h4 ha wi L S y0 y1 y2 y3 = 161 := by
  unfold errY; rw [if_neg h, if_neg (fun c => c k), if_pos p]
theorem errY_flag (h : ¬ (h4 = true ∨ ha = true)) (k : y3 = 1) (p : ¬ (y1 < 1 ∨ 512 < y1 ∨ (L : Int) < y0 + y1)) (f : y2 / 4 % 64 ≠ 0 ∨ y2 / 65536 ≠ 0 ∨ ¬ y2 / 2 % 2 = 1 ∧ y2 / 256 % 256 ≠ 0 ∨ ¬ y2 % 2 = 1 ∧ wi = true) : errY h4 ha wi L S y0 y1 y2 y3 = 164 := by
  unfold errY; rw [if_neg h, if_neg (fun c => c k), if_neg p, if_pos f]
theorem errY_idx (h : ¬ (h4 = true ∨ ha = true)) (k : y3 = 1) (p : ¬ (y1 < 1 ∨ 512 < y1 ∨ (L : Int) < y0 + y1)) (f : ¬ (y2 / 4 % 64 ≠ 0 ∨ y2 / 65536 ≠ 0 ∨ ¬ y2 / 2 % 2 = 1 ∧ y2 / 256 % 256 ≠ 0 ∨ ¬ y2 % 2 = 1 ∧ wi = true)) (x : y2 / 2 % 2 = 1 ∧ S ≤ y2 / 256 % 256) : errY h4 ha wi L S y0 y1 y2 y3 = 162 := by
  unfold errY; rw [if_neg h, if_neg (fun c => c k), if_neg p, if_neg f, if_pos x]
theorem errY_ok (h : ¬ (h4 = true ∨ ha = true)) (k : y3 = 1) (p : ¬ (y1 < 1 ∨ 512 < y1 ∨ (L : Int) < y0 + y1)) (f : ¬ (y2 / 4 % 64 ≠ 0 ∨ y2 / 65536 ≠ 0 ∨ ¬ y2 / 2 % 2 = 1 ∧ y2 / 256 % 256 ≠ 0 ∨ ¬ y2 % 2 = 1 ∧ wi = true)) (x : ¬ (y2 / 2 % 2 = 1 ∧ S ≤ y2 / 256 % 256)) : errY h4 ha wi L S y0 y1 y2 y3 = 0 := by
  unfold errY; rw [if_neg h, if_neg (fun c => c k), if_neg p, if_neg f, if_neg x]
end
set_option maxRecDepth 100000 in
set_option maxHeartbeats 16000000 in
theorem wrong_any (A : Option Addr) (n c : Nat) (b : Wm.Bs) (B S i : Int) (A' : Option Addr) (m c' : Nat) (l : List Rg.Pt) (w : World) (hs : Sl w 128 A n (U b)) (hb : Wm.isBs b) (hn : n ≤ 64) (hok : Rg.Ok (n * 128) B S) (hsl : Sl w 4 A' m (Ps l)) (hl : l.length = m) (hm : m ≤ 4) (i0 : 0 ≤ i) (i1 : i < S) :
    Calls Try.prog 46 #[.agg #[.slice A n c], .agg #[.int .u32 B, .int .u32 S], .slice A' m c', .int .i64 i] w fun e w' => e = .returned (.int .i64 (Rg.err (n * 128) b B S l i)) ∧ Later w w' := by
  have hS := hok.s
  have hS1 := hS.1
  have hS2 := hS.2
  have K0 := Lib.hid fun w' (k : Later w w') => word0_any A n c b B S i w' (hs.keep k) hb hn hok i0 i1
  have K1 := Lib.hid fun w' (k : Later w w') => word1_any A n c b B S i w' (hs.keep k) hb hn hok i0 i1
  have K2 := Lib.hid fun w' (k : Later w w') => word2_any A n c b B S i w' (hs.keep k) hb hn hok i0 i1
  have K3 := Lib.hid fun w' (k : Later w w') => word3_any A n c b B S i w' (hs.keep k) hb hn hok i0 i1
  have KT := Lib.hid fun w' (k : Later w w') => pts_there A' m c' l i w' (hsl.keep k) hl (by omega)
  have KR := Lib.hid fun w' (k : Later w w') => pts_written A' m c' l w' (hsl.keep k) hl (by omega)
  have KZ := Lib.hid fun w' => rsize_any A n c w' hn
  obtain ⟨RR, hR⟩ : ∃ z, z = Rg.err (n * 128) b B S l i := ⟨_, rfl⟩
  rw [← hR]
  rw [err_Y, hl] at hR
  have r0 := Rg.wd_rng hb B i 0
  have r1 := Rg.wd_rng hb B i 1
  have r2 := Rg.wd_rng hb B i 2
  obtain ⟨y0, h0⟩ : ∃ z, z = Rg.wd b B i 0 := ⟨_, rfl⟩
  obtain ⟨y1, h1⟩ : ∃ z, z = Rg.wd b B i 1 := ⟨_, rfl⟩
  obtain ⟨y2, h2⟩ : ∃ z, z = Rg.wd b B i 2 := ⟨_, rfl⟩
  obtain ⟨y3, h3⟩ : ∃ z, z = Rg.wd b B i 3 := ⟨_, rfl⟩
  obtain ⟨ha, hh⟩ : ∃ z, z = Rg.has l i := ⟨_, rfl⟩
  obtain ⟨wi, hw⟩ : ∃ z, z = Rg.wri l := ⟨_, rfl⟩
  rw [← h0] at K0 hR r0
  rw [← h1] at K1 hR r1
  rw [← h2] at K2 hR r2
  rw [← h3] at K3 hR
  rw [← hh] at KT hR
  rw [← hw] at KR hR
  have y0a := r0.1
  have y0b := r0.2
  have y1a := r1.1
  have y1b := r1.2
  have y2a := r2.1
  have y2b := r2.2
  clear h0 h1 h2 h3 hh hw hs hb hok hsl hl r0 r1 r2 hS
  have b4 : Blk _ w.heap.size 24 ([.slice A n c]) := ((Blk.new' w w.heap.size 24 ([.slice A n c]).toArray ([.slice A n c]) (by simp) rfl).alloc (.cells ([.int .u32 B, .int .u32 S]).toArray 27))
  have b5 : Blk _ (w.heap.size + 1) 27 ([.int .u32 B, .int .u32 S]) := (Blk.new' (w.alloc (.cells ([.slice A n c]).toArray 24)) (w.heap.size + 1) 27 ([.int .u32 B, .int .u32 S]).toArray ([.int .u32 B, .int .u32 S]) (by simp) rfl)
  have lw := ((later1 w (.cells ([.slice A n c]).toArray 24)).alloc (by simp; try omega) (.cells ([.int .u32 B, .int .u32 S]).toArray 27))
  obtain ⟨u0, hu⟩ : ∃ u, ((w.alloc (.cells ([.slice A n c]).toArray 24)).alloc (.cells ([.int .u32 B, .int .u32 S]).toArray 27)) = u := ⟨_, rfl⟩
  rw [hu] at b4 b5 lw
  cases ha
  · by_cases q4 : 4 ≤ m
    · have d4 : decide (4 ≤ (m : Int)) = true := decide_eq_true (by omega)
      have d5 : decide (4 ≤ m) = true := decide_eq_true q4
      rw [d5] at hR
      obtain rfl : RR = _ := hR.trans (errY_loop (.inl rfl))
      clear hR
      go_enter Try.func46, Try.ntmps46
      go_upto_region 1 with fail
      have hu2 : ((w.alloc (.cells #[.slice A n c] 24)).alloc (.cells #[.int .u32 B, .int .u32 S] 27)) = u0 := hu
      try rw [hu2]
      clear hu hu2
      have e5 := b5.cell (j := 1) (v := .int .u32 S) rfl
      go_wp2_with (first
        | ((with_reducible refine wpList_load_blk (o := ⟨some 14, .load 24 (.tmp 4), _, _, _, none⟩) rfl _ _ rfl w.heap.size 24 ([.slice A n c]) _ ?_ ?_ Try.underlying24 rfl memS ?_); rfl; exact b4)
        | ((with_reducible refine wpList_load_blk (o := ⟨some 18, .load 24 (.tmp 4), _, _, _, none⟩) rfl _ _ rfl w.heap.size 24 ([.slice A n c]) _ ?_ ?_ Try.underlying24 rfl memS ?_); rfl; exact b4)
        | ((with_reducible refine wpList_load_blk (o := ⟨some 22, .load 24 (.tmp 4), _, _, _, none⟩) rfl _ _ rfl w.heap.size 24 ([.slice A n c]) _ ?_ ?_ Try.underlying24 rfl memS ?_); rfl; exact b4)
        | ((with_reducible refine wpList_load_blk (o := ⟨some 43, .load 24 (.tmp 4), _, _, _, none⟩) rfl _ _ rfl w.heap.size 24 ([.slice A n c]) _ ?_ ?_ Try.underlying24 rfl memS ?_); rfl; exact b4)
        | ((with_reducible refine wpList_load_g (o := ⟨some 59, .load 24 (.tmp 4), _, _, _, _⟩) _ _ rfl w.heap.size 24 ([.slice A n c]) _ ?_ ?_ ?_ Try.underlying24 ?_ memS ?_); rfl; rfl; exact b4; rfl)
        | ((with_reducible refine wpList_load_blk (o := ⟨some 15, .load 27 (.tmp 5), _, _, _, none⟩) rfl _ _ rfl (w.heap.size + 1) 27 ([.int .u32 B, .int .u32 S]) _ ?_ ?_ Try.underlying27 rfl ring_sz ?_); rfl; exact b5)
        | ((with_reducible refine wpList_load_blk (o := ⟨some 19, .load 27 (.tmp 5), _, _, _, none⟩) rfl _ _ rfl (w.heap.size + 1) 27 ([.int .u32 B, .int .u32 S]) _ ?_ ?_ Try.underlying27 rfl ring_sz ?_); rfl; exact b5)
        | ((with_reducible refine wpList_load_blk (o := ⟨some 23, .load 27 (.tmp 5), _, _, _, none⟩) rfl _ _ rfl (w.heap.size + 1) 27 ([.int .u32 B, .int .u32 S]) _ ?_ ?_ Try.underlying27 rfl ring_sz ?_); rfl; exact b5)
        | ((with_reducible refine wpList_load_blk (o := ⟨some 44, .load 27 (.tmp 5), _, _, _, none⟩) rfl _ _ rfl (w.heap.size + 1) 27 ([.int .u32 B, .int .u32 S]) _ ?_ ?_ Try.underlying27 rfl ring_sz ?_); rfl; exact b5)
        | (go_at_call 45; (with_reducible refine (K0.out _ lw).mono ?_); rintro e w0 ⟨rfl, l1⟩; replace b4 := b4.keep l1; replace b5 := b5.keep l1; replace lw := Later.trans_ lw l1; clear e5; have e5 := b5.cell (j := 1) (v := .int .u32 S) rfl)
        | (go_at_call 45; (with_reducible refine (K1.out _ lw).mono ?_); rintro e w1 ⟨rfl, l1⟩; replace b4 := b4.keep l1; replace b5 := b5.keep l1; replace lw := Later.trans_ lw l1; clear e5; have e5 := b5.cell (j := 1) (v := .int .u32 S) rfl)
        | (go_at_call 45; (with_reducible refine (K2.out _ lw).mono ?_); rintro e w2 ⟨rfl, l1⟩; replace b4 := b4.keep l1; replace b5 := b5.keep l1; replace lw := Later.trans_ lw l1; clear e5; have e5 := b5.cell (j := 1) (v := .int .u32 S) rfl)
        | (go_at_call 45; (with_reducible refine (K3.out _ lw).mono ?_); rintro e w3 ⟨rfl, l1⟩; replace b4 := b4.keep l1; replace b5 := b5.keep l1; replace lw := Later.trans_ lw l1; clear e5; have e5 := b5.cell (j := 1) (v := .int .u32 S) rfl)
        | (go_at_call 68; (with_reducible refine (KT.out _ lw).mono ?_); rintro e w5 ⟨rfl, l1⟩; replace b4 := b4.keep l1; replace b5 := b5.keep l1; replace lw := Later.trans_ lw l1; clear e5; have e5 := b5.cell (j := 1) (v := .int .u32 S) rfl)
        | (go_at_call 69; (with_reducible refine (KR.out _ lw).mono ?_); rintro e w6 ⟨rfl, l1⟩; replace b4 := b4.keep l1; replace b5 := b5.keep l1; replace lw := Later.trans_ lw l1; clear e5; have e5 := b5.cell (j := 1) (v := .int .u32 S) rfl)
        | (go_at_call 39; (with_reducible refine (KZ.out _).mono ?_); rintro e w7 ⟨rfl, l1⟩; replace b4 := b4.keep l1; replace b5 := b5.keep l1; replace lw := Later.trans_ lw l1; clear e5; have e5 := b5.cell (j := 1) (v := .int .u32 S) rfl))
      go_ret
      exact ⟨rfl, lw⟩
    · have d4 : decide (4 ≤ (m : Int)) = false := decide_eq_false (by omega)
      have d5 : decide (4 ≤ m) = false := decide_eq_false q4
      rw [d5] at hR
      by_cases k3 : y3 = 1
      · have t3 : (y3 != 1) = false := by rw [k3]; rfl
        by_cases p1 : y1 < 1
        · have u1 : decide (y1 < 1) = true := decide_eq_true p1
          obtain rfl : RR = _ := hR.trans (errY_part (fun h => h.elim (fun h => (by cases h)) (fun h => (by cases h))) k3 (.inl p1))
          clear hR
          go_enter Try.func46, Try.ntmps46
          go_upto_region 1 with fail
          have hu2 : ((w.alloc (.cells #[.slice A n c] 24)).alloc (.cells #[.int .u32 B, .int .u32 S] 27)) = u0 := hu
          try rw [hu2]
          clear hu hu2
          have e5 := b5.cell (j := 1) (v := .int .u32 S) rfl
          go_wp2_with (first
            | ((with_reducible refine wpList_load_blk (o := ⟨some 14, .load 24 (.tmp 4), _, _, _, none⟩) rfl _ _ rfl w.heap.size 24 ([.slice A n c]) _ ?_ ?_ Try.underlying24 rfl memS ?_); rfl; exact b4)
            | ((with_reducible refine wpList_load_blk (o := ⟨some 18, .load 24 (.tmp 4), _, _, _, none⟩) rfl _ _ rfl w.heap.size 24 ([.slice A n c]) _ ?_ ?_ Try.underlying24 rfl memS ?_); rfl; exact b4)
            | ((with_reducible refine wpList_load_blk (o := ⟨some 22, .load 24 (.tmp 4), _, _, _, none⟩) rfl _ _ rfl w.heap.size 24 ([.slice A n c]) _ ?_ ?_ Try.underlying24 rfl memS ?_); rfl; exact b4)
            | ((with_reducible refine wpList_load_blk (o := ⟨some 43, .load 24 (.tmp 4), _, _, _, none⟩) rfl _ _ rfl w.heap.size 24 ([.slice A n c]) _ ?_ ?_ Try.underlying24 rfl memS ?_); rfl; exact b4)
            | ((with_reducible refine wpList_load_g (o := ⟨some 59, .load 24 (.tmp 4), _, _, _, _⟩) _ _ rfl w.heap.size 24 ([.slice A n c]) _ ?_ ?_ ?_ Try.underlying24 ?_ memS ?_); rfl; rfl; exact b4; rfl)
            | ((with_reducible refine wpList_load_blk (o := ⟨some 15, .load 27 (.tmp 5), _, _, _, none⟩) rfl _ _ rfl (w.heap.size + 1) 27 ([.int .u32 B, .int .u32 S]) _ ?_ ?_ Try.underlying27 rfl ring_sz ?_); rfl; exact b5)
            | ((with_reducible refine wpList_load_blk (o := ⟨some 19, .load 27 (.tmp 5), _, _, _, none⟩) rfl _ _ rfl (w.heap.size + 1) 27 ([.int .u32 B, .int .u32 S]) _ ?_ ?_ Try.underlying27 rfl ring_sz ?_); rfl; exact b5)
            | ((with_reducible refine wpList_load_blk (o := ⟨some 23, .load 27 (.tmp 5), _, _, _, none⟩) rfl _ _ rfl (w.heap.size + 1) 27 ([.int .u32 B, .int .u32 S]) _ ?_ ?_ Try.underlying27 rfl ring_sz ?_); rfl; exact b5)
            | ((with_reducible refine wpList_load_blk (o := ⟨some 44, .load 27 (.tmp 5), _, _, _, none⟩) rfl _ _ rfl (w.heap.size + 1) 27 ([.int .u32 B, .int .u32 S]) _ ?_ ?_ Try.underlying27 rfl ring_sz ?_); rfl; exact b5)
            | (go_at_call 45; (with_reducible refine (K0.out _ lw).mono ?_); rintro e w0 ⟨rfl, l1⟩; replace b4 := b4.keep l1; replace b5 := b5.keep l1; replace lw := Later.trans_ lw l1; clear e5; have e5 := b5.cell (j := 1) (v := .int .u32 S) rfl)
            | (go_at_call 45; (with_reducible refine (K1.out _ lw).mono ?_); rintro e w1 ⟨rfl, l1⟩; replace b4 := b4.keep l1; replace b5 := b5.keep l1; replace lw := Later.trans_ lw l1; clear e5; have e5 := b5.cell (j := 1) (v := .int .u32 S) rfl)
            | (go_at_call 45; (with_reducible refine (K2.out _ lw).mono ?_); rintro e w2 ⟨rfl, l1⟩; replace b4 := b4.keep l1; replace b5 := b5.keep l1; replace lw := Later.trans_ lw l1; clear e5; have e5 := b5.cell (j := 1) (v := .int .u32 S) rfl)
            | (go_at_call 45; (with_reducible refine (K3.out _ lw).mono ?_); rintro e w3 ⟨rfl, l1⟩; replace b4 := b4.keep l1; replace b5 := b5.keep l1; replace lw := Later.trans_ lw l1; clear e5; have e5 := b5.cell (j := 1) (v := .int .u32 S) rfl)
            | (go_at_call 68; (with_reducible refine (KT.out _ lw).mono ?_); rintro e w5 ⟨rfl, l1⟩; replace b4 := b4.keep l1; replace b5 := b5.keep l1; replace lw := Later.trans_ lw l1; clear e5; have e5 := b5.cell (j := 1) (v := .int .u32 S) rfl)
            | (go_at_call 69; (with_reducible refine (KR.out _ lw).mono ?_); rintro e w6 ⟨rfl, l1⟩; replace b4 := b4.keep l1; replace b5 := b5.keep l1; replace lw := Later.trans_ lw l1; clear e5; have e5 := b5.cell (j := 1) (v := .int .u32 S) rfl)
            | (go_at_call 39; (with_reducible refine (KZ.out _).mono ?_); rintro e w7 ⟨rfl, l1⟩; replace b4 := b4.keep l1; replace b5 := b5.keep l1; replace lw := Later.trans_ lw l1; clear e5; have e5 := b5.cell (j := 1) (v := .int .u32 S) rfl))
          go_ret
          exact ⟨rfl, lw⟩
        · have u1 : decide (y1 < 1) = false := decide_eq_false p1
          by_cases p2 : 512 < y1
          · have u2 : decide (512 < y1) = true := decide_eq_true p2
            obtain rfl : RR = _ := hR.trans (errY_part (fun h => h.elim (fun h => (by cases h)) (fun h => (by cases h))) k3 (.inr (.inl p2)))
            clear hR
            go_enter Try.func46, Try.ntmps46
            go_upto_region 1 with fail
            have hu2 : ((w.alloc (.cells #[.slice A n c] 24)).alloc (.cells #[.int .u32 B, .int .u32 S] 27)) = u0 := hu
            try rw [hu2]
            clear hu hu2
            have e5 := b5.cell (j := 1) (v := .int .u32 S) rfl
            go_wp2_with (first
              | ((with_reducible refine wpList_load_blk (o := ⟨some 14, .load 24 (.tmp 4), _, _, _, none⟩) rfl _ _ rfl w.heap.size 24 ([.slice A n c]) _ ?_ ?_ Try.underlying24 rfl memS ?_); rfl; exact b4)
              | ((with_reducible refine wpList_load_blk (o := ⟨some 18, .load 24 (.tmp 4), _, _, _, none⟩) rfl _ _ rfl w.heap.size 24 ([.slice A n c]) _ ?_ ?_ Try.underlying24 rfl memS ?_); rfl; exact b4)
              | ((with_reducible refine wpList_load_blk (o := ⟨some 22, .load 24 (.tmp 4), _, _, _, none⟩) rfl _ _ rfl w.heap.size 24 ([.slice A n c]) _ ?_ ?_ Try.underlying24 rfl memS ?_); rfl; exact b4)
              | ((with_reducible refine wpList_load_blk (o := ⟨some 43, .load 24 (.tmp 4), _, _, _, none⟩) rfl _ _ rfl w.heap.size 24 ([.slice A n c]) _ ?_ ?_ Try.underlying24 rfl memS ?_); rfl; exact b4)
              | ((with_reducible refine wpList_load_g (o := ⟨some 59, .load 24 (.tmp 4), _, _, _, _⟩) _ _ rfl w.heap.size 24 ([.slice A n c]) _ ?_ ?_ ?_ Try.underlying24 ?_ memS ?_); rfl; rfl; exact b4; rfl)
              | ((with_reducible refine wpList_load_blk (o := ⟨some 15, .load 27 (.tmp 5), _, _, _, none⟩) rfl _ _ rfl (w.heap.size + 1) 27 ([.int .u32 B, .int .u32 S]) _ ?_ ?_ Try.underlying27 rfl ring_sz ?_); rfl; exact b5)
              | ((with_reducible refine wpList_load_blk (o := ⟨some 19, .load 27 (.tmp 5), _, _, _, none⟩) rfl _ _ rfl (w.heap.size + 1) 27 ([.int .u32 B, .int .u32 S]) _ ?_ ?_ Try.underlying27 rfl ring_sz ?_); rfl; exact b5)
              | ((with_reducible refine wpList_load_blk (o := ⟨some 23, .load 27 (.tmp 5), _, _, _, none⟩) rfl _ _ rfl (w.heap.size + 1) 27 ([.int .u32 B, .int .u32 S]) _ ?_ ?_ Try.underlying27 rfl ring_sz ?_); rfl; exact b5)
              | ((with_reducible refine wpList_load_blk (o := ⟨some 44, .load 27 (.tmp 5), _, _, _, none⟩) rfl _ _ rfl (w.heap.size + 1) 27 ([.int .u32 B, .int .u32 S]) _ ?_ ?_ Try.underlying27 rfl ring_sz ?_); rfl; exact b5)
              | (go_at_call 45; (with_reducible refine (K0.out _ lw).mono ?_); rintro e w0 ⟨rfl, l1⟩; replace b4 := b4.keep l1; replace b5 := b5.keep l1; replace lw := Later.trans_ lw l1; clear e5; have e5 := b5.cell (j := 1) (v := .int .u32 S) rfl)
              | (go_at_call 45; (with_reducible refine (K1.out _ lw).mono ?_); rintro e w1 ⟨rfl, l1⟩; replace b4 := b4.keep l1; replace b5 := b5.keep l1; replace lw := Later.trans_ lw l1; clear e5; have e5 := b5.cell (j := 1) (v := .int .u32 S) rfl)
              | (go_at_call 45; (with_reducible refine (K2.out _ lw).mono ?_); rintro e w2 ⟨rfl, l1⟩; replace b4 := b4.keep l1; replace b5 := b5.keep l1; replace lw := Later.trans_ lw l1; clear e5; have e5 := b5.cell (j := 1) (v := .int .u32 S) rfl)
              | (go_at_call 45; (with_reducible refine (K3.out _ lw).mono ?_); rintro e w3 ⟨rfl, l1⟩; replace b4 := b4.keep l1; replace b5 := b5.keep l1; replace lw := Later.trans_ lw l1; clear e5; have e5 := b5.cell (j := 1) (v := .int .u32 S) rfl)
              | (go_at_call 68; (with_reducible refine (KT.out _ lw).mono ?_); rintro e w5 ⟨rfl, l1⟩; replace b4 := b4.keep l1; replace b5 := b5.keep l1; replace lw := Later.trans_ lw l1; clear e5; have e5 := b5.cell (j := 1) (v := .int .u32 S) rfl)
              | (go_at_call 69; (with_reducible refine (KR.out _ lw).mono ?_); rintro e w6 ⟨rfl, l1⟩; replace b4 := b4.keep l1; replace b5 := b5.keep l1; replace lw := Later.trans_ lw l1; clear e5; have e5 := b5.cell (j := 1) (v := .int .u32 S) rfl)
              | (go_at_call 39; (with_reducible refine (KZ.out _).mono ?_); rintro e w7 ⟨rfl, l1⟩; replace b4 := b4.keep l1; replace b5 := b5.keep l1; replace lw := Later.trans_ lw l1; clear e5; have e5 := b5.cell (j := 1) (v := .int .u32 S) rfl))
            go_ret
            exact ⟨rfl, lw⟩
          · have u2 : decide (512 < y1) = false := decide_eq_false p2
            by_cases p3 : ((n * 128 : Nat) : Int) < y0 + y1
            · have u3 : decide ((n : Int) * 128 < y0 + y1) = true := decide_eq_true (by omega)
              obtain rfl : RR = _ := hR.trans (errY_part (fun h => h.elim (fun h => (by cases h)) (fun h => (by cases h))) k3 (.inr (.inr p3)))
              clear hR
              go_enter Try.func46, Try.ntmps46
              go_upto_region 1 with fail
              have hu2 : ((w.alloc (.cells #[.slice A n c] 24)).alloc (.cells #[.int .u32 B, .int .u32 S] 27)) = u0 := hu
              try rw [hu2]
              clear hu hu2
              have e5 := b5.cell (j := 1) (v := .int .u32 S) rfl
              go_wp2_with (first
                | ((with_reducible refine wpList_load_blk (o := ⟨some 14, .load 24 (.tmp 4), _, _, _, none⟩) rfl _ _ rfl w.heap.size 24 ([.slice A n c]) _ ?_ ?_ Try.underlying24 rfl memS ?_); rfl; exact b4)
                | ((with_reducible refine wpList_load_blk (o := ⟨some 18, .load 24 (.tmp 4), _, _, _, none⟩) rfl _ _ rfl w.heap.size 24 ([.slice A n c]) _ ?_ ?_ Try.underlying24 rfl memS ?_); rfl; exact b4)
                | ((with_reducible refine wpList_load_blk (o := ⟨some 22, .load 24 (.tmp 4), _, _, _, none⟩) rfl _ _ rfl w.heap.size 24 ([.slice A n c]) _ ?_ ?_ Try.underlying24 rfl memS ?_); rfl; exact b4)
                | ((with_reducible refine wpList_load_blk (o := ⟨some 43, .load 24 (.tmp 4), _, _, _, none⟩) rfl _ _ rfl w.heap.size 24 ([.slice A n c]) _ ?_ ?_ Try.underlying24 rfl memS ?_); rfl; exact b4)
                | ((with_reducible refine wpList_load_g (o := ⟨some 59, .load 24 (.tmp 4), _, _, _, _⟩) _ _ rfl w.heap.size 24 ([.slice A n c]) _ ?_ ?_ ?_ Try.underlying24 ?_ memS ?_); rfl; rfl; exact b4; rfl)
                | ((with_reducible refine wpList_load_blk (o := ⟨some 15, .load 27 (.tmp 5), _, _, _, none⟩) rfl _ _ rfl (w.heap.size + 1) 27 ([.int .u32 B, .int .u32 S]) _ ?_ ?_ Try.underlying27 rfl ring_sz ?_); rfl; exact b5)
                | ((with_reducible refine wpList_load_blk (o := ⟨some 19, .load 27 (.tmp 5), _, _, _, none⟩) rfl _ _ rfl (w.heap.size + 1) 27 ([.int .u32 B, .int .u32 S]) _ ?_ ?_ Try.underlying27 rfl ring_sz ?_); rfl; exact b5)
                | ((with_reducible refine wpList_load_blk (o := ⟨some 23, .load 27 (.tmp 5), _, _, _, none⟩) rfl _ _ rfl (w.heap.size + 1) 27 ([.int .u32 B, .int .u32 S]) _ ?_ ?_ Try.underlying27 rfl ring_sz ?_); rfl; exact b5)
                | ((with_reducible refine wpList_load_blk (o := ⟨some 44, .load 27 (.tmp 5), _, _, _, none⟩) rfl _ _ rfl (w.heap.size + 1) 27 ([.int .u32 B, .int .u32 S]) _ ?_ ?_ Try.underlying27 rfl ring_sz ?_); rfl; exact b5)
                | (go_at_call 45; (with_reducible refine (K0.out _ lw).mono ?_); rintro e w0 ⟨rfl, l1⟩; replace b4 := b4.keep l1; replace b5 := b5.keep l1; replace lw := Later.trans_ lw l1; clear e5; have e5 := b5.cell (j := 1) (v := .int .u32 S) rfl)
                | (go_at_call 45; (with_reducible refine (K1.out _ lw).mono ?_); rintro e w1 ⟨rfl, l1⟩; replace b4 := b4.keep l1; replace b5 := b5.keep l1; replace lw := Later.trans_ lw l1; clear e5; have e5 := b5.cell (j := 1) (v := .int .u32 S) rfl)
                | (go_at_call 45; (with_reducible refine (K2.out _ lw).mono ?_); rintro e w2 ⟨rfl, l1⟩; replace b4 := b4.keep l1; replace b5 := b5.keep l1; replace lw := Later.trans_ lw l1; clear e5; have e5 := b5.cell (j := 1) (v := .int .u32 S) rfl)
                | (go_at_call 45; (with_reducible refine (K3.out _ lw).mono ?_); rintro e w3 ⟨rfl, l1⟩; replace b4 := b4.keep l1; replace b5 := b5.keep l1; replace lw := Later.trans_ lw l1; clear e5; have e5 := b5.cell (j := 1) (v := .int .u32 S) rfl)
                | (go_at_call 68; (with_reducible refine (KT.out _ lw).mono ?_); rintro e w5 ⟨rfl, l1⟩; replace b4 := b4.keep l1; replace b5 := b5.keep l1; replace lw := Later.trans_ lw l1; clear e5; have e5 := b5.cell (j := 1) (v := .int .u32 S) rfl)
                | (go_at_call 69; (with_reducible refine (KR.out _ lw).mono ?_); rintro e w6 ⟨rfl, l1⟩; replace b4 := b4.keep l1; replace b5 := b5.keep l1; replace lw := Later.trans_ lw l1; clear e5; have e5 := b5.cell (j := 1) (v := .int .u32 S) rfl)
                | (go_at_call 39; (with_reducible refine (KZ.out _).mono ?_); rintro e w7 ⟨rfl, l1⟩; replace b4 := b4.keep l1; replace b5 := b5.keep l1; replace lw := Later.trans_ lw l1; clear e5; have e5 := b5.cell (j := 1) (v := .int .u32 S) rfl))
              go_ret
              exact ⟨rfl, lw⟩
            · have u3 : decide ((n : Int) * 128 < y0 + y1) = false := decide_eq_false (by omega)
              have kp : ¬ (y1 < 1 ∨ 512 < y1 ∨ ((n * 128 : Nat) : Int) < y0 + y1) := by omega
              clear p1 p2 p3
              by_cases q1 : y2 / 4 % 64 = 0
              · have v1 : (y2 / 4 % 64 != 0) = false := by rw [q1]; rfl
                by_cases q2 : y2 / 65536 = 0
                · have v2 : (y2 / 65536 != 0) = false := by rw [q2]; rfl
                  by_cases qm : y2 / 2 % 2 = 1
                  · have v5 : (y2 / 2 % 2 == 1) = true := beq_iff_eq.2 qm
                    by_cases qe : y2 % 2 = 1
                    · have v7 : (y2 % 2 == 0) = false := by rw [qe]; rfl
                      by_cases qs : S ≤ y2 / 256 % 256
                      · have v9 : decide (S ≤ y2 / 256 % 256) = true := decide_eq_true qs
                        obtain rfl : RR = _ := hR.trans (errY_idx (fun h => h.elim (fun h => (by cases h)) (fun h => (by cases h))) k3 kp (by rintro (h | h | ⟨h, k⟩ | ⟨h, k⟩); exact h q1; exact h q2; exact h qm; exact h qe) ⟨qm, qs⟩)
                        clear hR
                        go_enter Try.func46, Try.ntmps46
                        go_upto_region 1 with fail
                        have hu2 : ((w.alloc (.cells #[.slice A n c] 24)).alloc (.cells #[.int .u32 B, .int .u32 S] 27)) = u0 := hu
                        try rw [hu2]
                        clear hu hu2
                        have e5 := b5.cell (j := 1) (v := .int .u32 S) rfl
                        go_wp2_with (first
                          | ((with_reducible refine wpList_load_blk (o := ⟨some 14, .load 24 (.tmp 4), _, _, _, none⟩) rfl _ _ rfl w.heap.size 24 ([.slice A n c]) _ ?_ ?_ Try.underlying24 rfl memS ?_); rfl; exact b4)
                          | ((with_reducible refine wpList_load_blk (o := ⟨some 18, .load 24 (.tmp 4), _, _, _, none⟩) rfl _ _ rfl w.heap.size 24 ([.slice A n c]) _ ?_ ?_ Try.underlying24 rfl memS ?_); rfl; exact b4)
                          | ((with_reducible refine wpList_load_blk (o := ⟨some 22, .load 24 (.tmp 4), _, _, _, none⟩) rfl _ _ rfl w.heap.size 24 ([.slice A n c]) _ ?_ ?_ Try.underlying24 rfl memS ?_); rfl; exact b4)
                          | ((with_reducible refine wpList_load_blk (o := ⟨some 43, .load 24 (.tmp 4), _, _, _, none⟩) rfl _ _ rfl w.heap.size 24 ([.slice A n c]) _ ?_ ?_ Try.underlying24 rfl memS ?_); rfl; exact b4)
                          | ((with_reducible refine wpList_load_g (o := ⟨some 59, .load 24 (.tmp 4), _, _, _, _⟩) _ _ rfl w.heap.size 24 ([.slice A n c]) _ ?_ ?_ ?_ Try.underlying24 ?_ memS ?_); rfl; rfl; exact b4; rfl)
                          | ((with_reducible refine wpList_load_blk (o := ⟨some 15, .load 27 (.tmp 5), _, _, _, none⟩) rfl _ _ rfl (w.heap.size + 1) 27 ([.int .u32 B, .int .u32 S]) _ ?_ ?_ Try.underlying27 rfl ring_sz ?_); rfl; exact b5)
                          | ((with_reducible refine wpList_load_blk (o := ⟨some 19, .load 27 (.tmp 5), _, _, _, none⟩) rfl _ _ rfl (w.heap.size + 1) 27 ([.int .u32 B, .int .u32 S]) _ ?_ ?_ Try.underlying27 rfl ring_sz ?_); rfl; exact b5)
                          | ((with_reducible refine wpList_load_blk (o := ⟨some 23, .load 27 (.tmp 5), _, _, _, none⟩) rfl _ _ rfl (w.heap.size + 1) 27 ([.int .u32 B, .int .u32 S]) _ ?_ ?_ Try.underlying27 rfl ring_sz ?_); rfl; exact b5)
                          | ((with_reducible refine wpList_load_blk (o := ⟨some 44, .load 27 (.tmp 5), _, _, _, none⟩) rfl _ _ rfl (w.heap.size + 1) 27 ([.int .u32 B, .int .u32 S]) _ ?_ ?_ Try.underlying27 rfl ring_sz ?_); rfl; exact b5)
                          | (go_at_call 45; (with_reducible refine (K0.out _ lw).mono ?_); rintro e w0 ⟨rfl, l1⟩; replace b4 := b4.keep l1; replace b5 := b5.keep l1; replace lw := Later.trans_ lw l1; clear e5; have e5 := b5.cell (j := 1) (v := .int .u32 S) rfl)
                          | (go_at_call 45; (with_reducible refine (K1.out _ lw).mono ?_); rintro e w1 ⟨rfl, l1⟩; replace b4 := b4.keep l1; replace b5 := b5.keep l1; replace lw := Later.trans_ lw l1; clear e5; have e5 := b5.cell (j := 1) (v := .int .u32 S) rfl)
                          | (go_at_call 45; (with_reducible refine (K2.out _ lw).mono ?_); rintro e w2 ⟨rfl, l1⟩; replace b4 := b4.keep l1; replace b5 := b5.keep l1; replace lw := Later.trans_ lw l1; clear e5; have e5 := b5.cell (j := 1) (v := .int .u32 S) rfl)
                          | (go_at_call 45; (with_reducible refine (K3.out _ lw).mono ?_); rintro e w3 ⟨rfl, l1⟩; replace b4 := b4.keep l1; replace b5 := b5.keep l1; replace lw := Later.trans_ lw l1; clear e5; have e5 := b5.cell (j := 1) (v := .int .u32 S) rfl)
                          | (go_at_call 68; (with_reducible refine (KT.out _ lw).mono ?_); rintro e w5 ⟨rfl, l1⟩; replace b4 := b4.keep l1; replace b5 := b5.keep l1; replace lw := Later.trans_ lw l1; clear e5; have e5 := b5.cell (j := 1) (v := .int .u32 S) rfl)
                          | (go_at_call 69; (with_reducible refine (KR.out _ lw).mono ?_); rintro e w6 ⟨rfl, l1⟩; replace b4 := b4.keep l1; replace b5 := b5.keep l1; replace lw := Later.trans_ lw l1; clear e5; have e5 := b5.cell (j := 1) (v := .int .u32 S) rfl)
                          | (go_at_call 39; (with_reducible refine (KZ.out _).mono ?_); rintro e w7 ⟨rfl, l1⟩; replace b4 := b4.keep l1; replace b5 := b5.keep l1; replace lw := Later.trans_ lw l1; clear e5; have e5 := b5.cell (j := 1) (v := .int .u32 S) rfl))
                        go_ret
                        exact ⟨rfl, lw⟩
                      · have v9 : decide (S ≤ y2 / 256 % 256) = false := decide_eq_false qs
                        obtain rfl : RR = _ := hR.trans (errY_ok (fun h => h.elim (fun h => (by cases h)) (fun h => (by cases h))) k3 kp (by rintro (h | h | ⟨h, k⟩ | ⟨h, k⟩); exact h q1; exact h q2; exact h qm; exact h qe) (fun h => qs h.2))
                        clear hR
                        go_enter Try.func46, Try.ntmps46
                        go_upto_region 1 with fail
                        have hu2 : ((w.alloc (.cells #[.slice A n c] 24)).alloc (.cells #[.int .u32 B, .int .u32 S] 27)) = u0 := hu
                        try rw [hu2]
                        clear hu hu2
                        have e5 := b5.cell (j := 1) (v := .int .u32 S) rfl
                        go_wp2_with (first
                          | ((with_reducible refine wpList_load_blk (o := ⟨some 14, .load 24 (.tmp 4), _, _, _, none⟩) rfl _ _ rfl w.heap.size 24 ([.slice A n c]) _ ?_ ?_ Try.underlying24 rfl memS ?_); rfl; exact b4)
                          | ((with_reducible refine wpList_load_blk (o := ⟨some 18, .load 24 (.tmp 4), _, _, _, none⟩) rfl _ _ rfl w.heap.size 24 ([.slice A n c]) _ ?_ ?_ Try.underlying24 rfl memS ?_); rfl; exact b4)
                          | ((with_reducible refine wpList_load_blk (o := ⟨some 22, .load 24 (.tmp 4), _, _, _, none⟩) rfl _ _ rfl w.heap.size 24 ([.slice A n c]) _ ?_ ?_ Try.underlying24 rfl memS ?_); rfl; exact b4)
                          | ((with_reducible refine wpList_load_blk (o := ⟨some 43, .load 24 (.tmp 4), _, _, _, none⟩) rfl _ _ rfl w.heap.size 24 ([.slice A n c]) _ ?_ ?_ Try.underlying24 rfl memS ?_); rfl; exact b4)
                          | ((with_reducible refine wpList_load_g (o := ⟨some 59, .load 24 (.tmp 4), _, _, _, _⟩) _ _ rfl w.heap.size 24 ([.slice A n c]) _ ?_ ?_ ?_ Try.underlying24 ?_ memS ?_); rfl; rfl; exact b4; rfl)
                          | ((with_reducible refine wpList_load_blk (o := ⟨some 15, .load 27 (.tmp 5), _, _, _, none⟩) rfl _ _ rfl (w.heap.size + 1) 27 ([.int .u32 B, .int .u32 S]) _ ?_ ?_ Try.underlying27 rfl ring_sz ?_); rfl; exact b5)
                          | ((with_reducible refine wpList_load_blk (o := ⟨some 19, .load 27 (.tmp 5), _, _, _, none⟩) rfl _ _ rfl (w.heap.size + 1) 27 ([.int .u32 B, .int .u32 S]) _ ?_ ?_ Try.underlying27 rfl ring_sz ?_); rfl; exact b5)
                          | ((with_reducible refine wpList_load_blk (o := ⟨some 23, .load 27 (.tmp 5), _, _, _, none⟩) rfl _ _ rfl (w.heap.size + 1) 27 ([.int .u32 B, .int .u32 S]) _ ?_ ?_ Try.underlying27 rfl ring_sz ?_); rfl; exact b5)
                          | ((with_reducible refine wpList_load_blk (o := ⟨some 44, .load 27 (.tmp 5), _, _, _, none⟩) rfl _ _ rfl (w.heap.size + 1) 27 ([.int .u32 B, .int .u32 S]) _ ?_ ?_ Try.underlying27 rfl ring_sz ?_); rfl; exact b5)
                          | (go_at_call 45; (with_reducible refine (K0.out _ lw).mono ?_); rintro e w0 ⟨rfl, l1⟩; replace b4 := b4.keep l1; replace b5 := b5.keep l1; replace lw := Later.trans_ lw l1; clear e5; have e5 := b5.cell (j := 1) (v := .int .u32 S) rfl)
                          | (go_at_call 45; (with_reducible refine (K1.out _ lw).mono ?_); rintro e w1 ⟨rfl, l1⟩; replace b4 := b4.keep l1; replace b5 := b5.keep l1; replace lw := Later.trans_ lw l1; clear e5; have e5 := b5.cell (j := 1) (v := .int .u32 S) rfl)
                          | (go_at_call 45; (with_reducible refine (K2.out _ lw).mono ?_); rintro e w2 ⟨rfl, l1⟩; replace b4 := b4.keep l1; replace b5 := b5.keep l1; replace lw := Later.trans_ lw l1; clear e5; have e5 := b5.cell (j := 1) (v := .int .u32 S) rfl)
                          | (go_at_call 45; (with_reducible refine (K3.out _ lw).mono ?_); rintro e w3 ⟨rfl, l1⟩; replace b4 := b4.keep l1; replace b5 := b5.keep l1; replace lw := Later.trans_ lw l1; clear e5; have e5 := b5.cell (j := 1) (v := .int .u32 S) rfl)
                          | (go_at_call 68; (with_reducible refine (KT.out _ lw).mono ?_); rintro e w5 ⟨rfl, l1⟩; replace b4 := b4.keep l1; replace b5 := b5.keep l1; replace lw := Later.trans_ lw l1; clear e5; have e5 := b5.cell (j := 1) (v := .int .u32 S) rfl)
                          | (go_at_call 69; (with_reducible refine (KR.out _ lw).mono ?_); rintro e w6 ⟨rfl, l1⟩; replace b4 := b4.keep l1; replace b5 := b5.keep l1; replace lw := Later.trans_ lw l1; clear e5; have e5 := b5.cell (j := 1) (v := .int .u32 S) rfl)
                          | (go_at_call 39; (with_reducible refine (KZ.out _).mono ?_); rintro e w7 ⟨rfl, l1⟩; replace b4 := b4.keep l1; replace b5 := b5.keep l1; replace lw := Later.trans_ lw l1; clear e5; have e5 := b5.cell (j := 1) (v := .int .u32 S) rfl))
                        go_ret
                        exact ⟨rfl, lw⟩
                    · have v7 : (y2 % 2 == 0) = true := beq_iff_eq.2 (by omega)
                      cases wi
                      · by_cases qs : S ≤ y2 / 256 % 256
                        · have v9 : decide (S ≤ y2 / 256 % 256) = true := decide_eq_true qs
                          obtain rfl : RR = _ := hR.trans (errY_idx (fun h => h.elim (fun h => (by cases h)) (fun h => (by cases h))) k3 kp (by rintro (h | h | ⟨h, k⟩ | ⟨h, k⟩); exact h q1; exact h q2; exact h qm; cases k) ⟨qm, qs⟩)
                          clear hR
                          go_enter Try.func46, Try.ntmps46
                          go_upto_region 1 with fail
                          have hu2 : ((w.alloc (.cells #[.slice A n c] 24)).alloc (.cells #[.int .u32 B, .int .u32 S] 27)) = u0 := hu
                          try rw [hu2]
                          clear hu hu2
                          have e5 := b5.cell (j := 1) (v := .int .u32 S) rfl
                          go_wp2_with (first
                            | ((with_reducible refine wpList_load_blk (o := ⟨some 14, .load 24 (.tmp 4), _, _, _, none⟩) rfl _ _ rfl w.heap.size 24 ([.slice A n c]) _ ?_ ?_ Try.underlying24 rfl memS ?_); rfl; exact b4)
                            | ((with_reducible refine wpList_load_blk (o := ⟨some 18, .load 24 (.tmp 4), _, _, _, none⟩) rfl _ _ rfl w.heap.size 24 ([.slice A n c]) _ ?_ ?_ Try.underlying24 rfl memS ?_); rfl; exact b4)
                            | ((with_reducible refine wpList_load_blk (o := ⟨some 22, .load 24 (.tmp 4), _, _, _, none⟩) rfl _ _ rfl w.heap.size 24 ([.slice A n c]) _ ?_ ?_ Try.underlying24 rfl memS ?_); rfl; exact b4)
                            | ((with_reducible refine wpList_load_blk (o := ⟨some 43, .load 24 (.tmp 4), _, _, _, none⟩) rfl _ _ rfl w.heap.size 24 ([.slice A n c]) _ ?_ ?_ Try.underlying24 rfl memS ?_); rfl; exact b4)
                            | ((with_reducible refine wpList_load_g (o := ⟨some 59, .load 24 (.tmp 4), _, _, _, _⟩) _ _ rfl w.heap.size 24 ([.slice A n c]) _ ?_ ?_ ?_ Try.underlying24 ?_ memS ?_); rfl; rfl; exact b4; rfl)
                            | ((with_reducible refine wpList_load_blk (o := ⟨some 15, .load 27 (.tmp 5), _, _, _, none⟩) rfl _ _ rfl (w.heap.size + 1) 27 ([.int .u32 B, .int .u32 S]) _ ?_ ?_ Try.underlying27 rfl ring_sz ?_); rfl; exact b5)
                            | ((with_reducible refine wpList_load_blk (o := ⟨some 19, .load 27 (.tmp 5), _, _, _, none⟩) rfl _ _ rfl (w.heap.size + 1) 27 ([.int .u32 B, .int .u32 S]) _ ?_ ?_ Try.underlying27 rfl ring_sz ?_); rfl; exact b5)
                            | ((with_reducible refine wpList_load_blk (o := ⟨some 23, .load 27 (.tmp 5), _, _, _, none⟩) rfl _ _ rfl (w.heap.size + 1) 27 ([.int .u32 B, .int .u32 S]) _ ?_ ?_ Try.underlying27 rfl ring_sz ?_); rfl; exact b5)
                            | ((with_reducible refine wpList_load_blk (o := ⟨some 44, .load 27 (.tmp 5), _, _, _, none⟩) rfl _ _ rfl (w.heap.size + 1) 27 ([.int .u32 B, .int .u32 S]) _ ?_ ?_ Try.underlying27 rfl ring_sz ?_); rfl; exact b5)
                            | (go_at_call 45; (with_reducible refine (K0.out _ lw).mono ?_); rintro e w0 ⟨rfl, l1⟩; replace b4 := b4.keep l1; replace b5 := b5.keep l1; replace lw := Later.trans_ lw l1; clear e5; have e5 := b5.cell (j := 1) (v := .int .u32 S) rfl)
                            | (go_at_call 45; (with_reducible refine (K1.out _ lw).mono ?_); rintro e w1 ⟨rfl, l1⟩; replace b4 := b4.keep l1; replace b5 := b5.keep l1; replace lw := Later.trans_ lw l1; clear e5; have e5 := b5.cell (j := 1) (v := .int .u32 S) rfl)
                            | (go_at_call 45; (with_reducible refine (K2.out _ lw).mono ?_); rintro e w2 ⟨rfl, l1⟩; replace b4 := b4.keep l1; replace b5 := b5.keep l1; replace lw := Later.trans_ lw l1; clear e5; have e5 := b5.cell (j := 1) (v := .int .u32 S) rfl)
                            | (go_at_call 45; (with_reducible refine (K3.out _ lw).mono ?_); rintro e w3 ⟨rfl, l1⟩; replace b4 := b4.keep l1; replace b5 := b5.keep l1; replace lw := Later.trans_ lw l1; clear e5; have e5 := b5.cell (j := 1) (v := .int .u32 S) rfl)
                            | (go_at_call 68; (with_reducible refine (KT.out _ lw).mono ?_); rintro e w5 ⟨rfl, l1⟩; replace b4 := b4.keep l1; replace b5 := b5.keep l1; replace lw := Later.trans_ lw l1; clear e5; have e5 := b5.cell (j := 1) (v := .int .u32 S) rfl)
                            | (go_at_call 69; (with_reducible refine (KR.out _ lw).mono ?_); rintro e w6 ⟨rfl, l1⟩; replace b4 := b4.keep l1; replace b5 := b5.keep l1; replace lw := Later.trans_ lw l1; clear e5; have e5 := b5.cell (j := 1) (v := .int .u32 S) rfl)
                            | (go_at_call 39; (with_reducible refine (KZ.out _).mono ?_); rintro e w7 ⟨rfl, l1⟩; replace b4 := b4.keep l1; replace b5 := b5.keep l1; replace lw := Later.trans_ lw l1; clear e5; have e5 := b5.cell (j := 1) (v := .int .u32 S) rfl))
                          go_ret
                          exact ⟨rfl, lw⟩
                        · have v9 : decide (S ≤ y2 / 256 % 256) = false := decide_eq_false qs
                          obtain rfl : RR = _ := hR.trans (errY_ok (fun h => h.elim (fun h => (by cases h)) (fun h => (by cases h))) k3 kp (by rintro (h | h | ⟨h, k⟩ | ⟨h, k⟩); exact h q1; exact h q2; exact h qm; cases k) (fun h => qs h.2))
                          clear hR
                          go_enter Try.func46, Try.ntmps46
                          go_upto_region 1 with fail
                          have hu2 : ((w.alloc (.cells #[.slice A n c] 24)).alloc (.cells #[.int .u32 B, .int .u32 S] 27)) = u0 := hu
                          try rw [hu2]
                          clear hu hu2
                          have e5 := b5.cell (j := 1) (v := .int .u32 S) rfl
                          go_wp2_with (first
                            | ((with_reducible refine wpList_load_blk (o := ⟨some 14, .load 24 (.tmp 4), _, _, _, none⟩) rfl _ _ rfl w.heap.size 24 ([.slice A n c]) _ ?_ ?_ Try.underlying24 rfl memS ?_); rfl; exact b4)
                            | ((with_reducible refine wpList_load_blk (o := ⟨some 18, .load 24 (.tmp 4), _, _, _, none⟩) rfl _ _ rfl w.heap.size 24 ([.slice A n c]) _ ?_ ?_ Try.underlying24 rfl memS ?_); rfl; exact b4)
                            | ((with_reducible refine wpList_load_blk (o := ⟨some 22, .load 24 (.tmp 4), _, _, _, none⟩) rfl _ _ rfl w.heap.size 24 ([.slice A n c]) _ ?_ ?_ Try.underlying24 rfl memS ?_); rfl; exact b4)
                            | ((with_reducible refine wpList_load_blk (o := ⟨some 43, .load 24 (.tmp 4), _, _, _, none⟩) rfl _ _ rfl w.heap.size 24 ([.slice A n c]) _ ?_ ?_ Try.underlying24 rfl memS ?_); rfl; exact b4)
                            | ((with_reducible refine wpList_load_g (o := ⟨some 59, .load 24 (.tmp 4), _, _, _, _⟩) _ _ rfl w.heap.size 24 ([.slice A n c]) _ ?_ ?_ ?_ Try.underlying24 ?_ memS ?_); rfl; rfl; exact b4; rfl)
                            | ((with_reducible refine wpList_load_blk (o := ⟨some 15, .load 27 (.tmp 5), _, _, _, none⟩) rfl _ _ rfl (w.heap.size + 1) 27 ([.int .u32 B, .int .u32 S]) _ ?_ ?_ Try.underlying27 rfl ring_sz ?_); rfl; exact b5)
                            | ((with_reducible refine wpList_load_blk (o := ⟨some 19, .load 27 (.tmp 5), _, _, _, none⟩) rfl _ _ rfl (w.heap.size + 1) 27 ([.int .u32 B, .int .u32 S]) _ ?_ ?_ Try.underlying27 rfl ring_sz ?_); rfl; exact b5)
                            | ((with_reducible refine wpList_load_blk (o := ⟨some 23, .load 27 (.tmp 5), _, _, _, none⟩) rfl _ _ rfl (w.heap.size + 1) 27 ([.int .u32 B, .int .u32 S]) _ ?_ ?_ Try.underlying27 rfl ring_sz ?_); rfl; exact b5)
                            | ((with_reducible refine wpList_load_blk (o := ⟨some 44, .load 27 (.tmp 5), _, _, _, none⟩) rfl _ _ rfl (w.heap.size + 1) 27 ([.int .u32 B, .int .u32 S]) _ ?_ ?_ Try.underlying27 rfl ring_sz ?_); rfl; exact b5)
                            | (go_at_call 45; (with_reducible refine (K0.out _ lw).mono ?_); rintro e w0 ⟨rfl, l1⟩; replace b4 := b4.keep l1; replace b5 := b5.keep l1; replace lw := Later.trans_ lw l1; clear e5; have e5 := b5.cell (j := 1) (v := .int .u32 S) rfl)
                            | (go_at_call 45; (with_reducible refine (K1.out _ lw).mono ?_); rintro e w1 ⟨rfl, l1⟩; replace b4 := b4.keep l1; replace b5 := b5.keep l1; replace lw := Later.trans_ lw l1; clear e5; have e5 := b5.cell (j := 1) (v := .int .u32 S) rfl)
                            | (go_at_call 45; (with_reducible refine (K2.out _ lw).mono ?_); rintro e w2 ⟨rfl, l1⟩; replace b4 := b4.keep l1; replace b5 := b5.keep l1; replace lw := Later.trans_ lw l1; clear e5; have e5 := b5.cell (j := 1) (v := .int .u32 S) rfl)
                            | (go_at_call 45; (with_reducible refine (K3.out _ lw).mono ?_); rintro e w3 ⟨rfl, l1⟩; replace b4 := b4.keep l1; replace b5 := b5.keep l1; replace lw := Later.trans_ lw l1; clear e5; have e5 := b5.cell (j := 1) (v := .int .u32 S) rfl)
                            | (go_at_call 68; (with_reducible refine (KT.out _ lw).mono ?_); rintro e w5 ⟨rfl, l1⟩; replace b4 := b4.keep l1; replace b5 := b5.keep l1; replace lw := Later.trans_ lw l1; clear e5; have e5 := b5.cell (j := 1) (v := .int .u32 S) rfl)
                            | (go_at_call 69; (with_reducible refine (KR.out _ lw).mono ?_); rintro e w6 ⟨rfl, l1⟩; replace b4 := b4.keep l1; replace b5 := b5.keep l1; replace lw := Later.trans_ lw l1; clear e5; have e5 := b5.cell (j := 1) (v := .int .u32 S) rfl)
                            | (go_at_call 39; (with_reducible refine (KZ.out _).mono ?_); rintro e w7 ⟨rfl, l1⟩; replace b4 := b4.keep l1; replace b5 := b5.keep l1; replace lw := Later.trans_ lw l1; clear e5; have e5 := b5.cell (j := 1) (v := .int .u32 S) rfl))
                          go_ret
                          exact ⟨rfl, lw⟩
                      · obtain rfl : RR = _ := hR.trans (errY_flag (fun h => h.elim (fun h => (by cases h)) (fun h => (by cases h))) k3 kp (.inr (.inr (.inr ⟨qe, rfl⟩))))
                        clear hR
                        go_enter Try.func46, Try.ntmps46
                        go_upto_region 1 with fail
                        have hu2 : ((w.alloc (.cells #[.slice A n c] 24)).alloc (.cells #[.int .u32 B, .int .u32 S] 27)) = u0 := hu
                        try rw [hu2]
                        clear hu hu2
                        have e5 := b5.cell (j := 1) (v := .int .u32 S) rfl
                        go_wp2_with (first
                          | ((with_reducible refine wpList_load_blk (o := ⟨some 14, .load 24 (.tmp 4), _, _, _, none⟩) rfl _ _ rfl w.heap.size 24 ([.slice A n c]) _ ?_ ?_ Try.underlying24 rfl memS ?_); rfl; exact b4)
                          | ((with_reducible refine wpList_load_blk (o := ⟨some 18, .load 24 (.tmp 4), _, _, _, none⟩) rfl _ _ rfl w.heap.size 24 ([.slice A n c]) _ ?_ ?_ Try.underlying24 rfl memS ?_); rfl; exact b4)
                          | ((with_reducible refine wpList_load_blk (o := ⟨some 22, .load 24 (.tmp 4), _, _, _, none⟩) rfl _ _ rfl w.heap.size 24 ([.slice A n c]) _ ?_ ?_ Try.underlying24 rfl memS ?_); rfl; exact b4)
                          | ((with_reducible refine wpList_load_blk (o := ⟨some 43, .load 24 (.tmp 4), _, _, _, none⟩) rfl _ _ rfl w.heap.size 24 ([.slice A n c]) _ ?_ ?_ Try.underlying24 rfl memS ?_); rfl; exact b4)
                          | ((with_reducible refine wpList_load_g (o := ⟨some 59, .load 24 (.tmp 4), _, _, _, _⟩) _ _ rfl w.heap.size 24 ([.slice A n c]) _ ?_ ?_ ?_ Try.underlying24 ?_ memS ?_); rfl; rfl; exact b4; rfl)
                          | ((with_reducible refine wpList_load_blk (o := ⟨some 15, .load 27 (.tmp 5), _, _, _, none⟩) rfl _ _ rfl (w.heap.size + 1) 27 ([.int .u32 B, .int .u32 S]) _ ?_ ?_ Try.underlying27 rfl ring_sz ?_); rfl; exact b5)
                          | ((with_reducible refine wpList_load_blk (o := ⟨some 19, .load 27 (.tmp 5), _, _, _, none⟩) rfl _ _ rfl (w.heap.size + 1) 27 ([.int .u32 B, .int .u32 S]) _ ?_ ?_ Try.underlying27 rfl ring_sz ?_); rfl; exact b5)
                          | ((with_reducible refine wpList_load_blk (o := ⟨some 23, .load 27 (.tmp 5), _, _, _, none⟩) rfl _ _ rfl (w.heap.size + 1) 27 ([.int .u32 B, .int .u32 S]) _ ?_ ?_ Try.underlying27 rfl ring_sz ?_); rfl; exact b5)
                          | ((with_reducible refine wpList_load_blk (o := ⟨some 44, .load 27 (.tmp 5), _, _, _, none⟩) rfl _ _ rfl (w.heap.size + 1) 27 ([.int .u32 B, .int .u32 S]) _ ?_ ?_ Try.underlying27 rfl ring_sz ?_); rfl; exact b5)
                          | (go_at_call 45; (with_reducible refine (K0.out _ lw).mono ?_); rintro e w0 ⟨rfl, l1⟩; replace b4 := b4.keep l1; replace b5 := b5.keep l1; replace lw := Later.trans_ lw l1; clear e5; have e5 := b5.cell (j := 1) (v := .int .u32 S) rfl)
                          | (go_at_call 45; (with_reducible refine (K1.out _ lw).mono ?_); rintro e w1 ⟨rfl, l1⟩; replace b4 := b4.keep l1; replace b5 := b5.keep l1; replace lw := Later.trans_ lw l1; clear e5; have e5 := b5.cell (j := 1) (v := .int .u32 S) rfl)
                          | (go_at_call 45; (with_reducible refine (K2.out _ lw).mono ?_); rintro e w2 ⟨rfl, l1⟩; replace b4 := b4.keep l1; replace b5 := b5.keep l1; replace lw := Later.trans_ lw l1; clear e5; have e5 := b5.cell (j := 1) (v := .int .u32 S) rfl)
                          | (go_at_call 45; (with_reducible refine (K3.out _ lw).mono ?_); rintro e w3 ⟨rfl, l1⟩; replace b4 := b4.keep l1; replace b5 := b5.keep l1; replace lw := Later.trans_ lw l1; clear e5; have e5 := b5.cell (j := 1) (v := .int .u32 S) rfl)
                          | (go_at_call 68; (with_reducible refine (KT.out _ lw).mono ?_); rintro e w5 ⟨rfl, l1⟩; replace b4 := b4.keep l1; replace b5 := b5.keep l1; replace lw := Later.trans_ lw l1; clear e5; have e5 := b5.cell (j := 1) (v := .int .u32 S) rfl)
                          | (go_at_call 69; (with_reducible refine (KR.out _ lw).mono ?_); rintro e w6 ⟨rfl, l1⟩; replace b4 := b4.keep l1; replace b5 := b5.keep l1; replace lw := Later.trans_ lw l1; clear e5; have e5 := b5.cell (j := 1) (v := .int .u32 S) rfl)
                          | (go_at_call 39; (with_reducible refine (KZ.out _).mono ?_); rintro e w7 ⟨rfl, l1⟩; replace b4 := b4.keep l1; replace b5 := b5.keep l1; replace lw := Later.trans_ lw l1; clear e5; have e5 := b5.cell (j := 1) (v := .int .u32 S) rfl))
                        go_ret
                        exact ⟨rfl, lw⟩
                  · have v5 : (y2 / 2 % 2 == 1) = false := beq_eq_false_iff_ne.2 qm
                    by_cases qi : y2 / 256 % 256 = 0
                    · have v6 : (y2 / 256 % 256 != 0) = false := by rw [qi]; rfl
                      by_cases qe : y2 % 2 = 1
                      · have v7 : (y2 % 2 == 0) = false := by rw [qe]; rfl
                        obtain rfl : RR = _ := hR.trans (errY_ok (fun h => h.elim (fun h => (by cases h)) (fun h => (by cases h))) k3 kp (by rintro (h | h | ⟨h, k⟩ | ⟨h, k⟩); exact h q1; exact h q2; exact k qi; exact h qe) (fun h => qm h.1))
                        clear hR
                        go_enter Try.func46, Try.ntmps46
                        go_upto_region 1 with fail
                        have hu2 : ((w.alloc (.cells #[.slice A n c] 24)).alloc (.cells #[.int .u32 B, .int .u32 S] 27)) = u0 := hu
                        try rw [hu2]
                        clear hu hu2
                        have e5 := b5.cell (j := 1) (v := .int .u32 S) rfl
                        go_wp2_with (first
                          | ((with_reducible refine wpList_load_blk (o := ⟨some 14, .load 24 (.tmp 4), _, _, _, none⟩) rfl _ _ rfl w.heap.size 24 ([.slice A n c]) _ ?_ ?_ Try.underlying24 rfl memS ?_); rfl; exact b4)
                          | ((with_reducible refine wpList_load_blk (o := ⟨some 18, .load 24 (.tmp 4), _, _, _, none⟩) rfl _ _ rfl w.heap.size 24 ([.slice A n c]) _ ?_ ?_ Try.underlying24 rfl memS ?_); rfl; exact b4)
                          | ((with_reducible refine wpList_load_blk (o := ⟨some 22, .load 24 (.tmp 4), _, _, _, none⟩) rfl _ _ rfl w.heap.size 24 ([.slice A n c]) _ ?_ ?_ Try.underlying24 rfl memS ?_); rfl; exact b4)
                          | ((with_reducible refine wpList_load_blk (o := ⟨some 43, .load 24 (.tmp 4), _, _, _, none⟩) rfl _ _ rfl w.heap.size 24 ([.slice A n c]) _ ?_ ?_ Try.underlying24 rfl memS ?_); rfl; exact b4)
                          | ((with_reducible refine wpList_load_g (o := ⟨some 59, .load 24 (.tmp 4), _, _, _, _⟩) _ _ rfl w.heap.size 24 ([.slice A n c]) _ ?_ ?_ ?_ Try.underlying24 ?_ memS ?_); rfl; rfl; exact b4; rfl)
                          | ((with_reducible refine wpList_load_blk (o := ⟨some 15, .load 27 (.tmp 5), _, _, _, none⟩) rfl _ _ rfl (w.heap.size + 1) 27 ([.int .u32 B, .int .u32 S]) _ ?_ ?_ Try.underlying27 rfl ring_sz ?_); rfl; exact b5)
                          | ((with_reducible refine wpList_load_blk (o := ⟨some 19, .load 27 (.tmp 5), _, _, _, none⟩) rfl _ _ rfl (w.heap.size + 1) 27 ([.int .u32 B, .int .u32 S]) _ ?_ ?_ Try.underlying27 rfl ring_sz ?_); rfl; exact b5)
                          | ((with_reducible refine wpList_load_blk (o := ⟨some 23, .load 27 (.tmp 5), _, _, _, none⟩) rfl _ _ rfl (w.heap.size + 1) 27 ([.int .u32 B, .int .u32 S]) _ ?_ ?_ Try.underlying27 rfl ring_sz ?_); rfl; exact b5)
                          | ((with_reducible refine wpList_load_blk (o := ⟨some 44, .load 27 (.tmp 5), _, _, _, none⟩) rfl _ _ rfl (w.heap.size + 1) 27 ([.int .u32 B, .int .u32 S]) _ ?_ ?_ Try.underlying27 rfl ring_sz ?_); rfl; exact b5)
                          | (go_at_call 45; (with_reducible refine (K0.out _ lw).mono ?_); rintro e w0 ⟨rfl, l1⟩; replace b4 := b4.keep l1; replace b5 := b5.keep l1; replace lw := Later.trans_ lw l1; clear e5; have e5 := b5.cell (j := 1) (v := .int .u32 S) rfl)
                          | (go_at_call 45; (with_reducible refine (K1.out _ lw).mono ?_); rintro e w1 ⟨rfl, l1⟩; replace b4 := b4.keep l1; replace b5 := b5.keep l1; replace lw := Later.trans_ lw l1; clear e5; have e5 := b5.cell (j := 1) (v := .int .u32 S) rfl)
                          | (go_at_call 45; (with_reducible refine (K2.out _ lw).mono ?_); rintro e w2 ⟨rfl, l1⟩; replace b4 := b4.keep l1; replace b5 := b5.keep l1; replace lw := Later.trans_ lw l1; clear e5; have e5 := b5.cell (j := 1) (v := .int .u32 S) rfl)
                          | (go_at_call 45; (with_reducible refine (K3.out _ lw).mono ?_); rintro e w3 ⟨rfl, l1⟩; replace b4 := b4.keep l1; replace b5 := b5.keep l1; replace lw := Later.trans_ lw l1; clear e5; have e5 := b5.cell (j := 1) (v := .int .u32 S) rfl)
                          | (go_at_call 68; (with_reducible refine (KT.out _ lw).mono ?_); rintro e w5 ⟨rfl, l1⟩; replace b4 := b4.keep l1; replace b5 := b5.keep l1; replace lw := Later.trans_ lw l1; clear e5; have e5 := b5.cell (j := 1) (v := .int .u32 S) rfl)
                          | (go_at_call 69; (with_reducible refine (KR.out _ lw).mono ?_); rintro e w6 ⟨rfl, l1⟩; replace b4 := b4.keep l1; replace b5 := b5.keep l1; replace lw := Later.trans_ lw l1; clear e5; have e5 := b5.cell (j := 1) (v := .int .u32 S) rfl)
                          | (go_at_call 39; (with_reducible refine (KZ.out _).mono ?_); rintro e w7 ⟨rfl, l1⟩; replace b4 := b4.keep l1; replace b5 := b5.keep l1; replace lw := Later.trans_ lw l1; clear e5; have e5 := b5.cell (j := 1) (v := .int .u32 S) rfl))
                        go_ret
                        exact ⟨rfl, lw⟩
                      · have v7 : (y2 % 2 == 0) = true := beq_iff_eq.2 (by omega)
                        cases wi
                        · obtain rfl : RR = _ := hR.trans (errY_ok (fun h => h.elim (fun h => (by cases h)) (fun h => (by cases h))) k3 kp (by rintro (h | h | ⟨h, k⟩ | ⟨h, k⟩); exact h q1; exact h q2; exact k qi; cases k) (fun h => qm h.1))
                          clear hR
                          go_enter Try.func46, Try.ntmps46
                          go_upto_region 1 with fail
                          have hu2 : ((w.alloc (.cells #[.slice A n c] 24)).alloc (.cells #[.int .u32 B, .int .u32 S] 27)) = u0 := hu
                          try rw [hu2]
                          clear hu hu2
                          have e5 := b5.cell (j := 1) (v := .int .u32 S) rfl
                          go_wp2_with (first
                            | ((with_reducible refine wpList_load_blk (o := ⟨some 14, .load 24 (.tmp 4), _, _, _, none⟩) rfl _ _ rfl w.heap.size 24 ([.slice A n c]) _ ?_ ?_ Try.underlying24 rfl memS ?_); rfl; exact b4)
                            | ((with_reducible refine wpList_load_blk (o := ⟨some 18, .load 24 (.tmp 4), _, _, _, none⟩) rfl _ _ rfl w.heap.size 24 ([.slice A n c]) _ ?_ ?_ Try.underlying24 rfl memS ?_); rfl; exact b4)
                            | ((with_reducible refine wpList_load_blk (o := ⟨some 22, .load 24 (.tmp 4), _, _, _, none⟩) rfl _ _ rfl w.heap.size 24 ([.slice A n c]) _ ?_ ?_ Try.underlying24 rfl memS ?_); rfl; exact b4)
                            | ((with_reducible refine wpList_load_blk (o := ⟨some 43, .load 24 (.tmp 4), _, _, _, none⟩) rfl _ _ rfl w.heap.size 24 ([.slice A n c]) _ ?_ ?_ Try.underlying24 rfl memS ?_); rfl; exact b4)
                            | ((with_reducible refine wpList_load_g (o := ⟨some 59, .load 24 (.tmp 4), _, _, _, _⟩) _ _ rfl w.heap.size 24 ([.slice A n c]) _ ?_ ?_ ?_ Try.underlying24 ?_ memS ?_); rfl; rfl; exact b4; rfl)
                            | ((with_reducible refine wpList_load_blk (o := ⟨some 15, .load 27 (.tmp 5), _, _, _, none⟩) rfl _ _ rfl (w.heap.size + 1) 27 ([.int .u32 B, .int .u32 S]) _ ?_ ?_ Try.underlying27 rfl ring_sz ?_); rfl; exact b5)
                            | ((with_reducible refine wpList_load_blk (o := ⟨some 19, .load 27 (.tmp 5), _, _, _, none⟩) rfl _ _ rfl (w.heap.size + 1) 27 ([.int .u32 B, .int .u32 S]) _ ?_ ?_ Try.underlying27 rfl ring_sz ?_); rfl; exact b5)
                            | ((with_reducible refine wpList_load_blk (o := ⟨some 23, .load 27 (.tmp 5), _, _, _, none⟩) rfl _ _ rfl (w.heap.size + 1) 27 ([.int .u32 B, .int .u32 S]) _ ?_ ?_ Try.underlying27 rfl ring_sz ?_); rfl; exact b5)
                            | ((with_reducible refine wpList_load_blk (o := ⟨some 44, .load 27 (.tmp 5), _, _, _, none⟩) rfl _ _ rfl (w.heap.size + 1) 27 ([.int .u32 B, .int .u32 S]) _ ?_ ?_ Try.underlying27 rfl ring_sz ?_); rfl; exact b5)
                            | (go_at_call 45; (with_reducible refine (K0.out _ lw).mono ?_); rintro e w0 ⟨rfl, l1⟩; replace b4 := b4.keep l1; replace b5 := b5.keep l1; replace lw := Later.trans_ lw l1; clear e5; have e5 := b5.cell (j := 1) (v := .int .u32 S) rfl)
                            | (go_at_call 45; (with_reducible refine (K1.out _ lw).mono ?_); rintro e w1 ⟨rfl, l1⟩; replace b4 := b4.keep l1; replace b5 := b5.keep l1; replace lw := Later.trans_ lw l1; clear e5; have e5 := b5.cell (j := 1) (v := .int .u32 S) rfl)
                            | (go_at_call 45; (with_reducible refine (K2.out _ lw).mono ?_); rintro e w2 ⟨rfl, l1⟩; replace b4 := b4.keep l1; replace b5 := b5.keep l1; replace lw := Later.trans_ lw l1; clear e5; have e5 := b5.cell (j := 1) (v := .int .u32 S) rfl)
                            | (go_at_call 45; (with_reducible refine (K3.out _ lw).mono ?_); rintro e w3 ⟨rfl, l1⟩; replace b4 := b4.keep l1; replace b5 := b5.keep l1; replace lw := Later.trans_ lw l1; clear e5; have e5 := b5.cell (j := 1) (v := .int .u32 S) rfl)
                            | (go_at_call 68; (with_reducible refine (KT.out _ lw).mono ?_); rintro e w5 ⟨rfl, l1⟩; replace b4 := b4.keep l1; replace b5 := b5.keep l1; replace lw := Later.trans_ lw l1; clear e5; have e5 := b5.cell (j := 1) (v := .int .u32 S) rfl)
                            | (go_at_call 69; (with_reducible refine (KR.out _ lw).mono ?_); rintro e w6 ⟨rfl, l1⟩; replace b4 := b4.keep l1; replace b5 := b5.keep l1; replace lw := Later.trans_ lw l1; clear e5; have e5 := b5.cell (j := 1) (v := .int .u32 S) rfl)
                            | (go_at_call 39; (with_reducible refine (KZ.out _).mono ?_); rintro e w7 ⟨rfl, l1⟩; replace b4 := b4.keep l1; replace b5 := b5.keep l1; replace lw := Later.trans_ lw l1; clear e5; have e5 := b5.cell (j := 1) (v := .int .u32 S) rfl))
                          go_ret
                          exact ⟨rfl, lw⟩
                        · obtain rfl : RR = _ := hR.trans (errY_flag (fun h => h.elim (fun h => (by cases h)) (fun h => (by cases h))) k3 kp (.inr (.inr (.inr ⟨qe, rfl⟩))))
                          clear hR
                          go_enter Try.func46, Try.ntmps46
                          go_upto_region 1 with fail
                          have hu2 : ((w.alloc (.cells #[.slice A n c] 24)).alloc (.cells #[.int .u32 B, .int .u32 S] 27)) = u0 := hu
                          try rw [hu2]
                          clear hu hu2
                          have e5 := b5.cell (j := 1) (v := .int .u32 S) rfl
                          go_wp2_with (first
                            | ((with_reducible refine wpList_load_blk (o := ⟨some 14, .load 24 (.tmp 4), _, _, _, none⟩) rfl _ _ rfl w.heap.size 24 ([.slice A n c]) _ ?_ ?_ Try.underlying24 rfl memS ?_); rfl; exact b4)
                            | ((with_reducible refine wpList_load_blk (o := ⟨some 18, .load 24 (.tmp 4), _, _, _, none⟩) rfl _ _ rfl w.heap.size 24 ([.slice A n c]) _ ?_ ?_ Try.underlying24 rfl memS ?_); rfl; exact b4)
                            | ((with_reducible refine wpList_load_blk (o := ⟨some 22, .load 24 (.tmp 4), _, _, _, none⟩) rfl _ _ rfl w.heap.size 24 ([.slice A n c]) _ ?_ ?_ Try.underlying24 rfl memS ?_); rfl; exact b4)
                            | ((with_reducible refine wpList_load_blk (o := ⟨some 43, .load 24 (.tmp 4), _, _, _, none⟩) rfl _ _ rfl w.heap.size 24 ([.slice A n c]) _ ?_ ?_ Try.underlying24 rfl memS ?_); rfl; exact b4)
                            | ((with_reducible refine wpList_load_g (o := ⟨some 59, .load 24 (.tmp 4), _, _, _, _⟩) _ _ rfl w.heap.size 24 ([.slice A n c]) _ ?_ ?_ ?_ Try.underlying24 ?_ memS ?_); rfl; rfl; exact b4; rfl)
                            | ((with_reducible refine wpList_load_blk (o := ⟨some 15, .load 27 (.tmp 5), _, _, _, none⟩) rfl _ _ rfl (w.heap.size + 1) 27 ([.int .u32 B, .int .u32 S]) _ ?_ ?_ Try.underlying27 rfl ring_sz ?_); rfl; exact b5)
                            | ((with_reducible refine wpList_load_blk (o := ⟨some 19, .load 27 (.tmp 5), _, _, _, none⟩) rfl _ _ rfl (w.heap.size + 1) 27 ([.int .u32 B, .int .u32 S]) _ ?_ ?_ Try.underlying27 rfl ring_sz ?_); rfl; exact b5)
                            | ((with_reducible refine wpList_load_blk (o := ⟨some 23, .load 27 (.tmp 5), _, _, _, none⟩) rfl _ _ rfl (w.heap.size + 1) 27 ([.int .u32 B, .int .u32 S]) _ ?_ ?_ Try.underlying27 rfl ring_sz ?_); rfl; exact b5)
                            | ((with_reducible refine wpList_load_blk (o := ⟨some 44, .load 27 (.tmp 5), _, _, _, none⟩) rfl _ _ rfl (w.heap.size + 1) 27 ([.int .u32 B, .int .u32 S]) _ ?_ ?_ Try.underlying27 rfl ring_sz ?_); rfl; exact b5)
                            | (go_at_call 45; (with_reducible refine (K0.out _ lw).mono ?_); rintro e w0 ⟨rfl, l1⟩; replace b4 := b4.keep l1; replace b5 := b5.keep l1; replace lw := Later.trans_ lw l1; clear e5; have e5 := b5.cell (j := 1) (v := .int .u32 S) rfl)
                            | (go_at_call 45; (with_reducible refine (K1.out _ lw).mono ?_); rintro e w1 ⟨rfl, l1⟩; replace b4 := b4.keep l1; replace b5 := b5.keep l1; replace lw := Later.trans_ lw l1; clear e5; have e5 := b5.cell (j := 1) (v := .int .u32 S) rfl)
                            | (go_at_call 45; (with_reducible refine (K2.out _ lw).mono ?_); rintro e w2 ⟨rfl, l1⟩; replace b4 := b4.keep l1; replace b5 := b5.keep l1; replace lw := Later.trans_ lw l1; clear e5; have e5 := b5.cell (j := 1) (v := .int .u32 S) rfl)
                            | (go_at_call 45; (with_reducible refine (K3.out _ lw).mono ?_); rintro e w3 ⟨rfl, l1⟩; replace b4 := b4.keep l1; replace b5 := b5.keep l1; replace lw := Later.trans_ lw l1; clear e5; have e5 := b5.cell (j := 1) (v := .int .u32 S) rfl)
                            | (go_at_call 68; (with_reducible refine (KT.out _ lw).mono ?_); rintro e w5 ⟨rfl, l1⟩; replace b4 := b4.keep l1; replace b5 := b5.keep l1; replace lw := Later.trans_ lw l1; clear e5; have e5 := b5.cell (j := 1) (v := .int .u32 S) rfl)
                            | (go_at_call 69; (with_reducible refine (KR.out _ lw).mono ?_); rintro e w6 ⟨rfl, l1⟩; replace b4 := b4.keep l1; replace b5 := b5.keep l1; replace lw := Later.trans_ lw l1; clear e5; have e5 := b5.cell (j := 1) (v := .int .u32 S) rfl)
                            | (go_at_call 39; (with_reducible refine (KZ.out _).mono ?_); rintro e w7 ⟨rfl, l1⟩; replace b4 := b4.keep l1; replace b5 := b5.keep l1; replace lw := Later.trans_ lw l1; clear e5; have e5 := b5.cell (j := 1) (v := .int .u32 S) rfl))
                          go_ret
                          exact ⟨rfl, lw⟩
                    · have v6 : (y2 / 256 % 256 != 0) = true := bne_iff_ne.2 qi
                      obtain rfl : RR = _ := hR.trans (errY_flag (fun h => h.elim (fun h => (by cases h)) (fun h => (by cases h))) k3 kp (.inr (.inr (.inl ⟨qm, qi⟩))))
                      clear hR
                      go_enter Try.func46, Try.ntmps46
                      go_upto_region 1 with fail
                      have hu2 : ((w.alloc (.cells #[.slice A n c] 24)).alloc (.cells #[.int .u32 B, .int .u32 S] 27)) = u0 := hu
                      try rw [hu2]
                      clear hu hu2
                      have e5 := b5.cell (j := 1) (v := .int .u32 S) rfl
                      go_wp2_with (first
                        | ((with_reducible refine wpList_load_blk (o := ⟨some 14, .load 24 (.tmp 4), _, _, _, none⟩) rfl _ _ rfl w.heap.size 24 ([.slice A n c]) _ ?_ ?_ Try.underlying24 rfl memS ?_); rfl; exact b4)
                        | ((with_reducible refine wpList_load_blk (o := ⟨some 18, .load 24 (.tmp 4), _, _, _, none⟩) rfl _ _ rfl w.heap.size 24 ([.slice A n c]) _ ?_ ?_ Try.underlying24 rfl memS ?_); rfl; exact b4)
                        | ((with_reducible refine wpList_load_blk (o := ⟨some 22, .load 24 (.tmp 4), _, _, _, none⟩) rfl _ _ rfl w.heap.size 24 ([.slice A n c]) _ ?_ ?_ Try.underlying24 rfl memS ?_); rfl; exact b4)
                        | ((with_reducible refine wpList_load_blk (o := ⟨some 43, .load 24 (.tmp 4), _, _, _, none⟩) rfl _ _ rfl w.heap.size 24 ([.slice A n c]) _ ?_ ?_ Try.underlying24 rfl memS ?_); rfl; exact b4)
                        | ((with_reducible refine wpList_load_g (o := ⟨some 59, .load 24 (.tmp 4), _, _, _, _⟩) _ _ rfl w.heap.size 24 ([.slice A n c]) _ ?_ ?_ ?_ Try.underlying24 ?_ memS ?_); rfl; rfl; exact b4; rfl)
                        | ((with_reducible refine wpList_load_blk (o := ⟨some 15, .load 27 (.tmp 5), _, _, _, none⟩) rfl _ _ rfl (w.heap.size + 1) 27 ([.int .u32 B, .int .u32 S]) _ ?_ ?_ Try.underlying27 rfl ring_sz ?_); rfl; exact b5)
                        | ((with_reducible refine wpList_load_blk (o := ⟨some 19, .load 27 (.tmp 5), _, _, _, none⟩) rfl _ _ rfl (w.heap.size + 1) 27 ([.int .u32 B, .int .u32 S]) _ ?_ ?_ Try.underlying27 rfl ring_sz ?_); rfl; exact b5)
                        | ((with_reducible refine wpList_load_blk (o := ⟨some 23, .load 27 (.tmp 5), _, _, _, none⟩) rfl _ _ rfl (w.heap.size + 1) 27 ([.int .u32 B, .int .u32 S]) _ ?_ ?_ Try.underlying27 rfl ring_sz ?_); rfl; exact b5)
                        | ((with_reducible refine wpList_load_blk (o := ⟨some 44, .load 27 (.tmp 5), _, _, _, none⟩) rfl _ _ rfl (w.heap.size + 1) 27 ([.int .u32 B, .int .u32 S]) _ ?_ ?_ Try.underlying27 rfl ring_sz ?_); rfl; exact b5)
                        | (go_at_call 45; (with_reducible refine (K0.out _ lw).mono ?_); rintro e w0 ⟨rfl, l1⟩; replace b4 := b4.keep l1; replace b5 := b5.keep l1; replace lw := Later.trans_ lw l1; clear e5; have e5 := b5.cell (j := 1) (v := .int .u32 S) rfl)
                        | (go_at_call 45; (with_reducible refine (K1.out _ lw).mono ?_); rintro e w1 ⟨rfl, l1⟩; replace b4 := b4.keep l1; replace b5 := b5.keep l1; replace lw := Later.trans_ lw l1; clear e5; have e5 := b5.cell (j := 1) (v := .int .u32 S) rfl)
                        | (go_at_call 45; (with_reducible refine (K2.out _ lw).mono ?_); rintro e w2 ⟨rfl, l1⟩; replace b4 := b4.keep l1; replace b5 := b5.keep l1; replace lw := Later.trans_ lw l1; clear e5; have e5 := b5.cell (j := 1) (v := .int .u32 S) rfl)
                        | (go_at_call 45; (with_reducible refine (K3.out _ lw).mono ?_); rintro e w3 ⟨rfl, l1⟩; replace b4 := b4.keep l1; replace b5 := b5.keep l1; replace lw := Later.trans_ lw l1; clear e5; have e5 := b5.cell (j := 1) (v := .int .u32 S) rfl)
                        | (go_at_call 68; (with_reducible refine (KT.out _ lw).mono ?_); rintro e w5 ⟨rfl, l1⟩; replace b4 := b4.keep l1; replace b5 := b5.keep l1; replace lw := Later.trans_ lw l1; clear e5; have e5 := b5.cell (j := 1) (v := .int .u32 S) rfl)
                        | (go_at_call 69; (with_reducible refine (KR.out _ lw).mono ?_); rintro e w6 ⟨rfl, l1⟩; replace b4 := b4.keep l1; replace b5 := b5.keep l1; replace lw := Later.trans_ lw l1; clear e5; have e5 := b5.cell (j := 1) (v := .int .u32 S) rfl)
                        | (go_at_call 39; (with_reducible refine (KZ.out _).mono ?_); rintro e w7 ⟨rfl, l1⟩; replace b4 := b4.keep l1; replace b5 := b5.keep l1; replace lw := Later.trans_ lw l1; clear e5; have e5 := b5.cell (j := 1) (v := .int .u32 S) rfl))
                      go_ret
                      exact ⟨rfl, lw⟩
                · have v2 : (y2 / 65536 != 0) = true := bne_iff_ne.2 q2
                  obtain rfl : RR = _ := hR.trans (errY_flag (fun h => h.elim (fun h => (by cases h)) (fun h => (by cases h))) k3 kp (.inr (.inl q2)))
                  clear hR
                  go_enter Try.func46, Try.ntmps46
                  go_upto_region 1 with fail
                  have hu2 : ((w.alloc (.cells #[.slice A n c] 24)).alloc (.cells #[.int .u32 B, .int .u32 S] 27)) = u0 := hu
                  try rw [hu2]
                  clear hu hu2
                  have e5 := b5.cell (j := 1) (v := .int .u32 S) rfl
                  go_wp2_with (first
                    | ((with_reducible refine wpList_load_blk (o := ⟨some 14, .load 24 (.tmp 4), _, _, _, none⟩) rfl _ _ rfl w.heap.size 24 ([.slice A n c]) _ ?_ ?_ Try.underlying24 rfl memS ?_); rfl; exact b4)
                    | ((with_reducible refine wpList_load_blk (o := ⟨some 18, .load 24 (.tmp 4), _, _, _, none⟩) rfl _ _ rfl w.heap.size 24 ([.slice A n c]) _ ?_ ?_ Try.underlying24 rfl memS ?_); rfl; exact b4)
                    | ((with_reducible refine wpList_load_blk (o := ⟨some 22, .load 24 (.tmp 4), _, _, _, none⟩) rfl _ _ rfl w.heap.size 24 ([.slice A n c]) _ ?_ ?_ Try.underlying24 rfl memS ?_); rfl; exact b4)
                    | ((with_reducible refine wpList_load_blk (o := ⟨some 43, .load 24 (.tmp 4), _, _, _, none⟩) rfl _ _ rfl w.heap.size 24 ([.slice A n c]) _ ?_ ?_ Try.underlying24 rfl memS ?_); rfl; exact b4)
                    | ((with_reducible refine wpList_load_g (o := ⟨some 59, .load 24 (.tmp 4), _, _, _, _⟩) _ _ rfl w.heap.size 24 ([.slice A n c]) _ ?_ ?_ ?_ Try.underlying24 ?_ memS ?_); rfl; rfl; exact b4; rfl)
                    | ((with_reducible refine wpList_load_blk (o := ⟨some 15, .load 27 (.tmp 5), _, _, _, none⟩) rfl _ _ rfl (w.heap.size + 1) 27 ([.int .u32 B, .int .u32 S]) _ ?_ ?_ Try.underlying27 rfl ring_sz ?_); rfl; exact b5)
                    | ((with_reducible refine wpList_load_blk (o := ⟨some 19, .load 27 (.tmp 5), _, _, _, none⟩) rfl _ _ rfl (w.heap.size + 1) 27 ([.int .u32 B, .int .u32 S]) _ ?_ ?_ Try.underlying27 rfl ring_sz ?_); rfl; exact b5)
                    | ((with_reducible refine wpList_load_blk (o := ⟨some 23, .load 27 (.tmp 5), _, _, _, none⟩) rfl _ _ rfl (w.heap.size + 1) 27 ([.int .u32 B, .int .u32 S]) _ ?_ ?_ Try.underlying27 rfl ring_sz ?_); rfl; exact b5)
                    | ((with_reducible refine wpList_load_blk (o := ⟨some 44, .load 27 (.tmp 5), _, _, _, none⟩) rfl _ _ rfl (w.heap.size + 1) 27 ([.int .u32 B, .int .u32 S]) _ ?_ ?_ Try.underlying27 rfl ring_sz ?_); rfl; exact b5)
                    | (go_at_call 45; (with_reducible refine (K0.out _ lw).mono ?_); rintro e w0 ⟨rfl, l1⟩; replace b4 := b4.keep l1; replace b5 := b5.keep l1; replace lw := Later.trans_ lw l1; clear e5; have e5 := b5.cell (j := 1) (v := .int .u32 S) rfl)
                    | (go_at_call 45; (with_reducible refine (K1.out _ lw).mono ?_); rintro e w1 ⟨rfl, l1⟩; replace b4 := b4.keep l1; replace b5 := b5.keep l1; replace lw := Later.trans_ lw l1; clear e5; have e5 := b5.cell (j := 1) (v := .int .u32 S) rfl)
                    | (go_at_call 45; (with_reducible refine (K2.out _ lw).mono ?_); rintro e w2 ⟨rfl, l1⟩; replace b4 := b4.keep l1; replace b5 := b5.keep l1; replace lw := Later.trans_ lw l1; clear e5; have e5 := b5.cell (j := 1) (v := .int .u32 S) rfl)
                    | (go_at_call 45; (with_reducible refine (K3.out _ lw).mono ?_); rintro e w3 ⟨rfl, l1⟩; replace b4 := b4.keep l1; replace b5 := b5.keep l1; replace lw := Later.trans_ lw l1; clear e5; have e5 := b5.cell (j := 1) (v := .int .u32 S) rfl)
                    | (go_at_call 68; (with_reducible refine (KT.out _ lw).mono ?_); rintro e w5 ⟨rfl, l1⟩; replace b4 := b4.keep l1; replace b5 := b5.keep l1; replace lw := Later.trans_ lw l1; clear e5; have e5 := b5.cell (j := 1) (v := .int .u32 S) rfl)
                    | (go_at_call 69; (with_reducible refine (KR.out _ lw).mono ?_); rintro e w6 ⟨rfl, l1⟩; replace b4 := b4.keep l1; replace b5 := b5.keep l1; replace lw := Later.trans_ lw l1; clear e5; have e5 := b5.cell (j := 1) (v := .int .u32 S) rfl)
                    | (go_at_call 39; (with_reducible refine (KZ.out _).mono ?_); rintro e w7 ⟨rfl, l1⟩; replace b4 := b4.keep l1; replace b5 := b5.keep l1; replace lw := Later.trans_ lw l1; clear e5; have e5 := b5.cell (j := 1) (v := .int .u32 S) rfl))
                  go_ret
                  exact ⟨rfl, lw⟩
              · have v1 : (y2 / 4 % 64 != 0) = true := bne_iff_ne.2 q1
                obtain rfl : RR = _ := hR.trans (errY_flag (fun h => h.elim (fun h => (by cases h)) (fun h => (by cases h))) k3 kp (.inl q1))
                clear hR
                go_enter Try.func46, Try.ntmps46
                go_upto_region 1 with fail
                have hu2 : ((w.alloc (.cells #[.slice A n c] 24)).alloc (.cells #[.int .u32 B, .int .u32 S] 27)) = u0 := hu
                try rw [hu2]
                clear hu hu2
                have e5 := b5.cell (j := 1) (v := .int .u32 S) rfl
                go_wp2_with (first
                  | ((with_reducible refine wpList_load_blk (o := ⟨some 14, .load 24 (.tmp 4), _, _, _, none⟩) rfl _ _ rfl w.heap.size 24 ([.slice A n c]) _ ?_ ?_ Try.underlying24 rfl memS ?_); rfl; exact b4)
                  | ((with_reducible refine wpList_load_blk (o := ⟨some 18, .load 24 (.tmp 4), _, _, _, none⟩) rfl _ _ rfl w.heap.size 24 ([.slice A n c]) _ ?_ ?_ Try.underlying24 rfl memS ?_); rfl; exact b4)
                  | ((with_reducible refine wpList_load_blk (o := ⟨some 22, .load 24 (.tmp 4), _, _, _, none⟩) rfl _ _ rfl w.heap.size 24 ([.slice A n c]) _ ?_ ?_ Try.underlying24 rfl memS ?_); rfl; exact b4)
                  | ((with_reducible refine wpList_load_blk (o := ⟨some 43, .load 24 (.tmp 4), _, _, _, none⟩) rfl _ _ rfl w.heap.size 24 ([.slice A n c]) _ ?_ ?_ Try.underlying24 rfl memS ?_); rfl; exact b4)
                  | ((with_reducible refine wpList_load_g (o := ⟨some 59, .load 24 (.tmp 4), _, _, _, _⟩) _ _ rfl w.heap.size 24 ([.slice A n c]) _ ?_ ?_ ?_ Try.underlying24 ?_ memS ?_); rfl; rfl; exact b4; rfl)
                  | ((with_reducible refine wpList_load_blk (o := ⟨some 15, .load 27 (.tmp 5), _, _, _, none⟩) rfl _ _ rfl (w.heap.size + 1) 27 ([.int .u32 B, .int .u32 S]) _ ?_ ?_ Try.underlying27 rfl ring_sz ?_); rfl; exact b5)
                  | ((with_reducible refine wpList_load_blk (o := ⟨some 19, .load 27 (.tmp 5), _, _, _, none⟩) rfl _ _ rfl (w.heap.size + 1) 27 ([.int .u32 B, .int .u32 S]) _ ?_ ?_ Try.underlying27 rfl ring_sz ?_); rfl; exact b5)
                  | ((with_reducible refine wpList_load_blk (o := ⟨some 23, .load 27 (.tmp 5), _, _, _, none⟩) rfl _ _ rfl (w.heap.size + 1) 27 ([.int .u32 B, .int .u32 S]) _ ?_ ?_ Try.underlying27 rfl ring_sz ?_); rfl; exact b5)
                  | ((with_reducible refine wpList_load_blk (o := ⟨some 44, .load 27 (.tmp 5), _, _, _, none⟩) rfl _ _ rfl (w.heap.size + 1) 27 ([.int .u32 B, .int .u32 S]) _ ?_ ?_ Try.underlying27 rfl ring_sz ?_); rfl; exact b5)
                  | (go_at_call 45; (with_reducible refine (K0.out _ lw).mono ?_); rintro e w0 ⟨rfl, l1⟩; replace b4 := b4.keep l1; replace b5 := b5.keep l1; replace lw := Later.trans_ lw l1; clear e5; have e5 := b5.cell (j := 1) (v := .int .u32 S) rfl)
                  | (go_at_call 45; (with_reducible refine (K1.out _ lw).mono ?_); rintro e w1 ⟨rfl, l1⟩; replace b4 := b4.keep l1; replace b5 := b5.keep l1; replace lw := Later.trans_ lw l1; clear e5; have e5 := b5.cell (j := 1) (v := .int .u32 S) rfl)
                  | (go_at_call 45; (with_reducible refine (K2.out _ lw).mono ?_); rintro e w2 ⟨rfl, l1⟩; replace b4 := b4.keep l1; replace b5 := b5.keep l1; replace lw := Later.trans_ lw l1; clear e5; have e5 := b5.cell (j := 1) (v := .int .u32 S) rfl)
                  | (go_at_call 45; (with_reducible refine (K3.out _ lw).mono ?_); rintro e w3 ⟨rfl, l1⟩; replace b4 := b4.keep l1; replace b5 := b5.keep l1; replace lw := Later.trans_ lw l1; clear e5; have e5 := b5.cell (j := 1) (v := .int .u32 S) rfl)
                  | (go_at_call 68; (with_reducible refine (KT.out _ lw).mono ?_); rintro e w5 ⟨rfl, l1⟩; replace b4 := b4.keep l1; replace b5 := b5.keep l1; replace lw := Later.trans_ lw l1; clear e5; have e5 := b5.cell (j := 1) (v := .int .u32 S) rfl)
                  | (go_at_call 69; (with_reducible refine (KR.out _ lw).mono ?_); rintro e w6 ⟨rfl, l1⟩; replace b4 := b4.keep l1; replace b5 := b5.keep l1; replace lw := Later.trans_ lw l1; clear e5; have e5 := b5.cell (j := 1) (v := .int .u32 S) rfl)
                  | (go_at_call 39; (with_reducible refine (KZ.out _).mono ?_); rintro e w7 ⟨rfl, l1⟩; replace b4 := b4.keep l1; replace b5 := b5.keep l1; replace lw := Later.trans_ lw l1; clear e5; have e5 := b5.cell (j := 1) (v := .int .u32 S) rfl))
                go_ret
                exact ⟨rfl, lw⟩
      · have t3 : (y3 != 1) = true := bne_iff_ne.2 k3
        obtain rfl : RR = _ := hR.trans (errY_off (fun h => h.elim (fun h => (by cases h)) (fun h => (by cases h))) k3)
        clear hR
        go_enter Try.func46, Try.ntmps46
        go_upto_region 1 with fail
        have hu2 : ((w.alloc (.cells #[.slice A n c] 24)).alloc (.cells #[.int .u32 B, .int .u32 S] 27)) = u0 := hu
        try rw [hu2]
        clear hu hu2
        have e5 := b5.cell (j := 1) (v := .int .u32 S) rfl
        go_wp2_with (first
          | ((with_reducible refine wpList_load_blk (o := ⟨some 14, .load 24 (.tmp 4), _, _, _, none⟩) rfl _ _ rfl w.heap.size 24 ([.slice A n c]) _ ?_ ?_ Try.underlying24 rfl memS ?_); rfl; exact b4)
          | ((with_reducible refine wpList_load_blk (o := ⟨some 18, .load 24 (.tmp 4), _, _, _, none⟩) rfl _ _ rfl w.heap.size 24 ([.slice A n c]) _ ?_ ?_ Try.underlying24 rfl memS ?_); rfl; exact b4)
          | ((with_reducible refine wpList_load_blk (o := ⟨some 22, .load 24 (.tmp 4), _, _, _, none⟩) rfl _ _ rfl w.heap.size 24 ([.slice A n c]) _ ?_ ?_ Try.underlying24 rfl memS ?_); rfl; exact b4)
          | ((with_reducible refine wpList_load_blk (o := ⟨some 43, .load 24 (.tmp 4), _, _, _, none⟩) rfl _ _ rfl w.heap.size 24 ([.slice A n c]) _ ?_ ?_ Try.underlying24 rfl memS ?_); rfl; exact b4)
          | ((with_reducible refine wpList_load_g (o := ⟨some 59, .load 24 (.tmp 4), _, _, _, _⟩) _ _ rfl w.heap.size 24 ([.slice A n c]) _ ?_ ?_ ?_ Try.underlying24 ?_ memS ?_); rfl; rfl; exact b4; rfl)
          | ((with_reducible refine wpList_load_blk (o := ⟨some 15, .load 27 (.tmp 5), _, _, _, none⟩) rfl _ _ rfl (w.heap.size + 1) 27 ([.int .u32 B, .int .u32 S]) _ ?_ ?_ Try.underlying27 rfl ring_sz ?_); rfl; exact b5)
          | ((with_reducible refine wpList_load_blk (o := ⟨some 19, .load 27 (.tmp 5), _, _, _, none⟩) rfl _ _ rfl (w.heap.size + 1) 27 ([.int .u32 B, .int .u32 S]) _ ?_ ?_ Try.underlying27 rfl ring_sz ?_); rfl; exact b5)
          | ((with_reducible refine wpList_load_blk (o := ⟨some 23, .load 27 (.tmp 5), _, _, _, none⟩) rfl _ _ rfl (w.heap.size + 1) 27 ([.int .u32 B, .int .u32 S]) _ ?_ ?_ Try.underlying27 rfl ring_sz ?_); rfl; exact b5)
          | ((with_reducible refine wpList_load_blk (o := ⟨some 44, .load 27 (.tmp 5), _, _, _, none⟩) rfl _ _ rfl (w.heap.size + 1) 27 ([.int .u32 B, .int .u32 S]) _ ?_ ?_ Try.underlying27 rfl ring_sz ?_); rfl; exact b5)
          | (go_at_call 45; (with_reducible refine (K0.out _ lw).mono ?_); rintro e w0 ⟨rfl, l1⟩; replace b4 := b4.keep l1; replace b5 := b5.keep l1; replace lw := Later.trans_ lw l1; clear e5; have e5 := b5.cell (j := 1) (v := .int .u32 S) rfl)
          | (go_at_call 45; (with_reducible refine (K1.out _ lw).mono ?_); rintro e w1 ⟨rfl, l1⟩; replace b4 := b4.keep l1; replace b5 := b5.keep l1; replace lw := Later.trans_ lw l1; clear e5; have e5 := b5.cell (j := 1) (v := .int .u32 S) rfl)
          | (go_at_call 45; (with_reducible refine (K2.out _ lw).mono ?_); rintro e w2 ⟨rfl, l1⟩; replace b4 := b4.keep l1; replace b5 := b5.keep l1; replace lw := Later.trans_ lw l1; clear e5; have e5 := b5.cell (j := 1) (v := .int .u32 S) rfl)
          | (go_at_call 45; (with_reducible refine (K3.out _ lw).mono ?_); rintro e w3 ⟨rfl, l1⟩; replace b4 := b4.keep l1; replace b5 := b5.keep l1; replace lw := Later.trans_ lw l1; clear e5; have e5 := b5.cell (j := 1) (v := .int .u32 S) rfl)
          | (go_at_call 68; (with_reducible refine (KT.out _ lw).mono ?_); rintro e w5 ⟨rfl, l1⟩; replace b4 := b4.keep l1; replace b5 := b5.keep l1; replace lw := Later.trans_ lw l1; clear e5; have e5 := b5.cell (j := 1) (v := .int .u32 S) rfl)
          | (go_at_call 69; (with_reducible refine (KR.out _ lw).mono ?_); rintro e w6 ⟨rfl, l1⟩; replace b4 := b4.keep l1; replace b5 := b5.keep l1; replace lw := Later.trans_ lw l1; clear e5; have e5 := b5.cell (j := 1) (v := .int .u32 S) rfl)
          | (go_at_call 39; (with_reducible refine (KZ.out _).mono ?_); rintro e w7 ⟨rfl, l1⟩; replace b4 := b4.keep l1; replace b5 := b5.keep l1; replace lw := Later.trans_ lw l1; clear e5; have e5 := b5.cell (j := 1) (v := .int .u32 S) rfl))
        go_ret
        exact ⟨rfl, lw⟩
  · obtain rfl : RR = _ := hR.trans (errY_loop (.inr rfl))
    clear hR
    go_enter Try.func46, Try.ntmps46
    go_upto_region 1 with fail
    have hu2 : ((w.alloc (.cells #[.slice A n c] 24)).alloc (.cells #[.int .u32 B, .int .u32 S] 27)) = u0 := hu
    try rw [hu2]
    clear hu hu2
    have e5 := b5.cell (j := 1) (v := .int .u32 S) rfl
    go_wp2_with (first
      | ((with_reducible refine wpList_load_blk (o := ⟨some 14, .load 24 (.tmp 4), _, _, _, none⟩) rfl _ _ rfl w.heap.size 24 ([.slice A n c]) _ ?_ ?_ Try.underlying24 rfl memS ?_); rfl; exact b4)
      | ((with_reducible refine wpList_load_blk (o := ⟨some 18, .load 24 (.tmp 4), _, _, _, none⟩) rfl _ _ rfl w.heap.size 24 ([.slice A n c]) _ ?_ ?_ Try.underlying24 rfl memS ?_); rfl; exact b4)
      | ((with_reducible refine wpList_load_blk (o := ⟨some 22, .load 24 (.tmp 4), _, _, _, none⟩) rfl _ _ rfl w.heap.size 24 ([.slice A n c]) _ ?_ ?_ Try.underlying24 rfl memS ?_); rfl; exact b4)
      | ((with_reducible refine wpList_load_blk (o := ⟨some 43, .load 24 (.tmp 4), _, _, _, none⟩) rfl _ _ rfl w.heap.size 24 ([.slice A n c]) _ ?_ ?_ Try.underlying24 rfl memS ?_); rfl; exact b4)
      | ((with_reducible refine wpList_load_g (o := ⟨some 59, .load 24 (.tmp 4), _, _, _, _⟩) _ _ rfl w.heap.size 24 ([.slice A n c]) _ ?_ ?_ ?_ Try.underlying24 ?_ memS ?_); rfl; rfl; exact b4; rfl)
      | ((with_reducible refine wpList_load_blk (o := ⟨some 15, .load 27 (.tmp 5), _, _, _, none⟩) rfl _ _ rfl (w.heap.size + 1) 27 ([.int .u32 B, .int .u32 S]) _ ?_ ?_ Try.underlying27 rfl ring_sz ?_); rfl; exact b5)
      | ((with_reducible refine wpList_load_blk (o := ⟨some 19, .load 27 (.tmp 5), _, _, _, none⟩) rfl _ _ rfl (w.heap.size + 1) 27 ([.int .u32 B, .int .u32 S]) _ ?_ ?_ Try.underlying27 rfl ring_sz ?_); rfl; exact b5)
      | ((with_reducible refine wpList_load_blk (o := ⟨some 23, .load 27 (.tmp 5), _, _, _, none⟩) rfl _ _ rfl (w.heap.size + 1) 27 ([.int .u32 B, .int .u32 S]) _ ?_ ?_ Try.underlying27 rfl ring_sz ?_); rfl; exact b5)
      | ((with_reducible refine wpList_load_blk (o := ⟨some 44, .load 27 (.tmp 5), _, _, _, none⟩) rfl _ _ rfl (w.heap.size + 1) 27 ([.int .u32 B, .int .u32 S]) _ ?_ ?_ Try.underlying27 rfl ring_sz ?_); rfl; exact b5)
      | (go_at_call 45; (with_reducible refine (K0.out _ lw).mono ?_); rintro e w0 ⟨rfl, l1⟩; replace b4 := b4.keep l1; replace b5 := b5.keep l1; replace lw := Later.trans_ lw l1; clear e5; have e5 := b5.cell (j := 1) (v := .int .u32 S) rfl)
      | (go_at_call 45; (with_reducible refine (K1.out _ lw).mono ?_); rintro e w1 ⟨rfl, l1⟩; replace b4 := b4.keep l1; replace b5 := b5.keep l1; replace lw := Later.trans_ lw l1; clear e5; have e5 := b5.cell (j := 1) (v := .int .u32 S) rfl)
      | (go_at_call 45; (with_reducible refine (K2.out _ lw).mono ?_); rintro e w2 ⟨rfl, l1⟩; replace b4 := b4.keep l1; replace b5 := b5.keep l1; replace lw := Later.trans_ lw l1; clear e5; have e5 := b5.cell (j := 1) (v := .int .u32 S) rfl)
      | (go_at_call 45; (with_reducible refine (K3.out _ lw).mono ?_); rintro e w3 ⟨rfl, l1⟩; replace b4 := b4.keep l1; replace b5 := b5.keep l1; replace lw := Later.trans_ lw l1; clear e5; have e5 := b5.cell (j := 1) (v := .int .u32 S) rfl)
      | (go_at_call 68; (with_reducible refine (KT.out _ lw).mono ?_); rintro e w5 ⟨rfl, l1⟩; replace b4 := b4.keep l1; replace b5 := b5.keep l1; replace lw := Later.trans_ lw l1; clear e5; have e5 := b5.cell (j := 1) (v := .int .u32 S) rfl)
      | (go_at_call 69; (with_reducible refine (KR.out _ lw).mono ?_); rintro e w6 ⟨rfl, l1⟩; replace b4 := b4.keep l1; replace b5 := b5.keep l1; replace lw := Later.trans_ lw l1; clear e5; have e5 := b5.cell (j := 1) (v := .int .u32 S) rfl)
      | (go_at_call 39; (with_reducible refine (KZ.out _).mono ?_); rintro e w7 ⟨rfl, l1⟩; replace b4 := b4.keep l1; replace b5 := b5.keep l1; replace lw := Later.trans_ lw l1; clear e5; have e5 := b5.cell (j := 1) (v := .int .u32 S) rfl))
    go_ret
    exact ⟨rfl, lw⟩
end Go.Proofs.Ytffgbbfcbobecaa
