/-
  A RING: the reference's Take.
-/
import Derived.Test.YtffgbbfcbobecaaRgO
namespace Go.Proofs.Ytffgbbfcbobecaa
open Go.RowKit Go.ChangeShapes Go.WideShapes Go.ChangeAt

theorem tkS {u v z : Value} : (Try.prog.info? 42).map (·.size) = some [u, v, z].length := by
  show _ = some 3
  kernel_rfl
theorem one3 {u v z : Value} (h : u.oneCell' = true) (k : v.oneCell' = true) (j : z.oneCell' = true) : ∀ x ∈ [u, v, z], x.oneCell' = true := by
  intro x hx
  simp only [List.mem_cons, List.not_mem_nil, or_false] at hx
  rcases hx with rfl | rfl | rfl <;> assumption
theorem run_tke (A1 : Option Addr) (n1 c1 : Nat) (e : Int) (w : World) : (Instr.build 42 #[(0, .agg #[.slice A1 n1 c1]), (2, .int .i64 e)]).run Try.prog w = .ok (.agg [.slice A1 n1 c1, .slice none 0 0, .int .i64 e].toArray) w := run_build' w _ _ _ (by kernel_rfl)
theorem run_tkl (A1 : Option Addr) (n1 c1 : Nat) (A2 : Option Addr) (n2 c2 : Nat) (w : World) : (Instr.build 42 #[(0, .agg #[.slice A1 n1 c1]), (1, .slice A2 n2 c2)]).run Try.prog w = .ok (.agg [.slice A1 n1 c1, .slice A2 n2 c2, .int .i64 0].toArray) w := run_build' w _ _ _ (by kernel_rfl)
/-- What the reference's Take answers. -/
def GotK (n : Nat) (X : Wm.Bs) (l : List Rg.Pt) (er : Int) (w : World) (e : Ending) (w' : World) : Prop := ∃ A1 c1 AP m cp, e = .returned (.agg #[.slice A1 n c1, .slice AP m cp, .int .i64 er]) ∧ n ≤ c1 ∧ c1 ≤ maxLen ∧ Sl w' 128 A1 n (U X) ∧ m ≤ cp ∧ cp ≤ maxLen ∧ Sl w' 4 AP m (Ps l) ∧ l.length = m ∧ Later w w'
theorem folr_err {L : Nat} {b : Wm.Bs} {B S : Int} {f : Nat} {l : List Rg.Pt} {i : Int} (h : Rg.err L b B S l i ≠ 0) : Rg.fol L b B S (f + 1) l i = ([], Rg.err L b B S l i) := by
  unfold Rg.fol; rw [if_pos h]
theorem folr_end {L : Nat} {b : Wm.Bs} {B S : Int} {f : Nat} {l : List Rg.Pt} {i : Int} (h : Rg.err L b B S l i = 0) (hm : Rg.more b B i = false) : Rg.fol L b B S (f + 1) l i = (l ++ [Rg.pt b B i], 0) := by
  unfold Rg.fol; rw [if_neg (by rw [h]; simp), if_neg (by rw [hm]; simp)]
theorem folr_go {L : Nat} {b : Wm.Bs} {B S : Int} {f : Nat} {l : List Rg.Pt} {i : Int} (h : Rg.err L b B S l i = 0) (hm : Rg.more b B i = true) : Rg.fol L b B S (f + 1) l i = Rg.fol L b B S f (l ++ [Rg.pt b B i]) (Rg.nxt b B i) := by
  conv => lhs; unfold Rg.fol
  rw [if_neg (by rw [h]; simp), if_pos hm]
set_option maxRecDepth 100000 in
set_option maxHeartbeats 16000000 in
theorem rtake_any (A : Option Addr) (n c : Nat) (b : Wm.Bs) (B S i0 : Int) (w : World) (hs : Sl w 128 A n (U b)) (hb : Wm.isBs b) (hn1 : 1 ≤ n) (hn : n ≤ 64) (hnc : n ≤ c) (hc : c ≤ maxLen) (hok : Rg.Ok (n * 128) B S) (h0 : 0 ≤ i0) (h1 : i0 < S) :
    Calls Try.prog 17 #[.agg #[.slice A n c], .agg #[.int .u32 B, .int .u32 S], .int .i64 i0] w (GotK n (Rg.takM (n * 128) b B S i0) (Rg.takL (n * 128) b B S i0) (Rg.takE (n * 128) b B S i0) w) := by
  have hS := hok.s
  obtain ⟨i0', hi0, hz0, hz1, hz2⟩ := info_parts part_info
  have HI := Lib.hid (show _ ∧ _ ∧ _ ∧ _ from ⟨hi0, hz0, hz1, hz2⟩)
  have HAL := Lib.hid (show (∀ ad, A = some ad → ad.block < w.heap.size) from fun ad e => by obtain ⟨_, e', h, _⟩ := hs.2 (by omega); rw [e'] at e; cases e; exact h)
  have HSM := Lib.hid fun w' (k : Later w w') => hs.keep k
  have HNC := Lib.hid (show n ≤ c ∧ c ≤ maxLen from ⟨hnc, hc⟩)
  have KW0 := Lib.hid fun (i : Int) (hi0 : 0 ≤ i) (hi1 : i < S) (l : List Rg.Pt) (A' : Option Addr) (c' : Nat) (hl : l.length ≤ 4) w' (k : Later w w') (h : Sl w' 4 A' l.length (Ps l)) => wrong_any A n c b B S i A' l.length c' l w' (hs.keep k) hb hn hok h rfl hl hi0 hi1
  have KX0 := Lib.hid fun (i : Int) (hi0 : 0 ≤ i) (hi1 : i < S) w' (k : Later w w') => word0_any A n c b B S i w' (hs.keep k) hb hn hok hi0 hi1
  have KX1 := Lib.hid fun (i : Int) (hi0 : 0 ≤ i) (hi1 : i < S) w' (k : Later w w') => word1_any A n c b B S i w' (hs.keep k) hb hn hok hi0 hi1
  have KX2 := Lib.hid fun (i : Int) (hi0 : 0 ≤ i) (hi1 : i < S) w' (k : Later w w') => word2_any A n c b B S i w' (hs.keep k) hb hn hok hi0 hi1
  have K3 := Lib.hid fun w' (k : Later w w') => word3_any A n c b B S i0 w' (hs.keep k) hb hn hok h0 h1
  have KM := Lib.hid fun (l : List Rg.Pt) (hi : Rg.Inr S l) (A' : Option Addr) (m c' : Nat) (hl : l.length = m) (hm : m ≤ 4) w' (k : Later w w') (h : Sl w' 4 A' m (Ps l)) => mark_any A n c b B S 2 A' m c' l w' (hs.keep k) hb hn1 hn hnc hc hok h hl hm hi (by omega) (by omega)
  have KF := Lib.hid fun (v : Int) (v0 : 0 ≤ v) (v1 : v < 4294967296) w' (k : Later w w') => rstatus_any A n c b B S i0 v w' (hs.keep k) hb hn1 hn hok h0 h1 v0 v1
  have KR := Lib.hid fun (i k : Int) => Rg.wd_rng hb B i k
  have HGD := Lib.hid (Rg.take_good (L := n * 128) (B := B) hb h0 h1)
  have HME := Lib.hid fun (h : Rg.takE (n * 128) b B S i0 ≠ 0) => (show (Rg.off b B i0 = true → Rg.takM (n * 128) b B S i0 = Rg.stat b B i0 (4 + (Rg.takE (n * 128) b B S i0 - 160))) ∧ (Rg.off b B i0 = false → Rg.takM (n * 128) b B S i0 = b) ∧ 161 ≤ Rg.takE (n * 128) b B S i0 ∧ Rg.takE (n * 128) b B S i0 ≤ 165 from ⟨fun ho => by unfold Rg.takM; rw [if_neg h, if_pos ho], fun ho => takM_not h ho, (Rg.take_errs h).2⟩)
  have HMO := Lib.hid fun (h : Rg.takE (n * 128) b B S i0 = 0) => takM_ok h
  obtain ⟨R, hR⟩ : ∃ R, R = Rg.fol (n * 128) b B S 5 [] i0 := ⟨_, rfl⟩
  have hR1 : Rg.takL (n * 128) b B S i0 = R.1 := by rw [hR]; rfl
  have hR2 : Rg.takE (n * 128) b B S i0 = R.2 := by rw [hR]; rfl
  rw [hR1, hR2]
  rw [hR1] at HGD HMO
  rw [hR2] at HME HMO
  obtain ⟨X, hX⟩ : ∃ X, X = Rg.takM (n * 128) b B S i0 := ⟨_, rfl⟩
  rw [← hX] at HME HMO ⊢
  have HR := Lib.hid hR.symm
  clear hR hR1 hR2 hX hs hb hok hi0 hz0 hz1 hz2 hnc hc
  have b3 : Blk _ w.heap.size 24 ([.slice A n c]) := (((Blk.new' w w.heap.size 24 ([.slice A n c]).toArray ([.slice A n c]) (by simp) rfl).alloc (.cells ([.int .u32 B, .int .u32 S]).toArray 27)).alloc (.cells ([.slice none 0 0, .slice none 0 0, .int .i64 0]).toArray 42))
  have b4 : Blk _ (w.heap.size + 1) 27 ([.int .u32 B, .int .u32 S]) := ((Blk.new' (w.alloc (.cells ([.slice A n c]).toArray 24)) (w.heap.size + 1) 27 ([.int .u32 B, .int .u32 S]).toArray ([.int .u32 B, .int .u32 S]) (by simp) rfl).alloc (.cells ([.slice none 0 0, .slice none 0 0, .int .i64 0]).toArray 42))
  have b6 : Blk _ (w.heap.size + 1 + 1) 42 ([.slice none 0 0, .slice none 0 0, .int .i64 0]) := (Blk.new' ((w.alloc (.cells ([.slice A n c]).toArray 24)).alloc (.cells ([.int .u32 B, .int .u32 S]).toArray 27)) (w.heap.size + 1 + 1) 42 ([.slice none 0 0, .slice none 0 0, .int .i64 0]).toArray ([.slice none 0 0, .slice none 0 0, .int .i64 0]) (by simp) rfl)
  have lw := (((later1 w (.cells ([.slice A n c]).toArray 24)).alloc (by simp; try omega) (.cells ([.int .u32 B, .int .u32 S]).toArray 27)).alloc (by simp; try omega) (.cells ([.slice none 0 0, .slice none 0 0, .int .i64 0]).toArray 42))
  obtain ⟨u0, hu⟩ : ∃ u, (((w.alloc (.cells ([.slice A n c]).toArray 24)).alloc (.cells ([.int .u32 B, .int .u32 S]).toArray 27)).alloc (.cells ([.slice none 0 0, .slice none 0 0, .int .i64 0]).toArray 42)) = u := ⟨_, rfl⟩
  rw [hu] at b3 b4 b6 lw
  go_enter Try.func17, Try.ntmps17
  go_upto_region 1 with fail
  have hu2 : (((w.alloc (.cells #[.slice A n c] 24)).alloc (.cells #[.int .u32 B, .int .u32 S] 27)).alloc (.cells #[.slice none 0 0, .slice none 0 0, .int .i64 0] 42)) = u0 := hu
  try rw [hu2]
  clear hu hu2
  go_wp2
  go_loopg [7, 8] 5 (fun g v7 v8 wr => ∃ (i : Int) (l : List Rg.Pt), l.length + g = 5 ∧ l.length ≤ 4 ∧ v8 = .int .i64 i ∧ 0 ≤ i ∧ i < S ∧ Hid (Rg.fol (n * 128) b B S g l i = R) ∧ wr.ownsRow w.heap.size 59 4 v7 l.length (Ps l) ∧ Blk wr w.heap.size 24 [.slice A n c] ∧ Blk wr (w.heap.size + 1) 27 [.int .u32 B, .int .u32 S] ∧ Blk wr (w.heap.size + 1 + 1) 42 [.slice none 0 0, .slice none 0 0, .int .i64 0] ∧ Later w wr)
  case atStart => exact ⟨i0, [], rfl, Nat.zero_le _, rfl, h0, h1, HR, World.ownsRow_nil _ _ _ _, b3, b4, b6, lw⟩
  case round =>
    clear b3 b4 b6 lw HR
    obtain ⟨i, l, hlg, hl4, rfl, hi0, hi1, HF, ho, b3, b4, b6, lr⟩ := hrel
    obtain ⟨gn, rfl⟩ : ∃ g', gk = g' + 1 := ⟨gk - 1, by omega⟩
    obtain ⟨A', c', rfl, hc1, hc2, hsl, hbk⟩ := own_form ho
    have KW := Lib.hid (KW0.out i hi0 hi1 l A' c' hl4)
    have K0 := Lib.hid (KX0.out i hi0 hi1)
    have K1 := Lib.hid (KX1.out i hi0 hi1)
    have K2 := Lib.hid (KX2.out i hi0 hi1)
    have hev := Rg.err_vals (n * 128) b B S l i
    by_cases hE0 : Rg.err (n * 128) b B S l i = 0
    · have hlx := (Rg.err_zero hE0).1
      have hnx := (Rg.err_zero hE0).2.2.2.2.2.2.2
      rw [hE0] at KW
      have e0 : ((0 : Int) != 0) = false := rfl
      have r0 := KR.out i 0
      have r1 := KR.out i 1
      have r2 := KR.out i 2
      have HP0 := Lib.hid (show Rg.pt b B i = (i, Rg.wd b B i 0, Rg.wd b B i 1, wrF (Rg.wd b B i 2)) from rfl)
      have hm0 : Rg.more b B i = decide (Rg.wd b B i 2 / 2 % 2 = 1) := rfl
      have hn0 : Rg.nxt b B i = Rg.wd b B i 2 / 256 % 256 := rfl
      by_cases hmo : Rg.more b B i = true
      · have HF' := Lib.hid ((folr_go (f := gn) hE0 hmo).symm.trans HF.out)
        have hx1 := hnx hmo
        rw [hm0] at hmo
        rw [hn0] at HF' hx1
        obtain ⟨y0, h0y⟩ : ∃ z, z = Rg.wd b B i 0 := ⟨_, rfl⟩
        obtain ⟨y1, h1y⟩ : ∃ z, z = Rg.wd b B i 1 := ⟨_, rfl⟩
        obtain ⟨y2, h2y⟩ : ∃ z, z = Rg.wd b B i 2 := ⟨_, rfl⟩
        obtain ⟨p, hp⟩ : ∃ z, z = Rg.pt b B i := ⟨_, rfl⟩
        rw [← h0y, ← h1y, ← h2y, ← hp] at HP0
        rw [← h0y] at K0 r0
        rw [← h1y] at K1 r1
        rw [← h2y] at K2 r2 hmo
        try rw [← h2y] at HF' hx1
        rw [← hp] at HF'
        have HP := Lib.hid HP0.out.symm
        obtain ⟨y2a, y2b⟩ := r2
        have qa : (y2 % 2 == 1) = wrF y2 := rfl
        have qb := wrap64 y2 y2a (by omega)
        have qt : y2.tmod 2 = y2 % 2 := Int.tmod_eq_emod_of_nonneg y2a
        clear h0y h1y h2y hp HP0
        have q5 : (y2 / 2 % 2 == 0) = false := beq_eq_false_iff_ne.2 (by have := of_decide_eq_true hmo; omega)
        clear hm0 hn0 hmo hE0 hev hsl hbk HF hnx r0 r1
        go_upto_region 9 with (first
          | ((with_reducible refine wpList_load_blk (o := ⟨some 12, .load 24 (.tmp 3), _, _, _, none⟩) rfl _ _ rfl w.heap.size 24 ([.slice A n c]) _ ?_ ?_ Try.underlying24 rfl memS ?_); rfl; exact b3)
          | ((with_reducible refine wpList_load_blk (o := ⟨some 13, .load 27 (.tmp 4), _, _, _, none⟩) rfl _ _ rfl (w.heap.size + 1) 27 ([.int .u32 B, .int .u32 S]) _ ?_ ?_ Try.underlying27 rfl ring_sz ?_); rfl; exact b4)
          | (go_at_call 46; (with_reducible refine (KW.out _ lr (Sl.own ho)).mono ?_); rintro e w1 ⟨rfl, l1⟩; replace b3 := b3.keep l1; replace b4 := b4.keep l1; replace b6 := b6.keep l1; replace ho := own_below ho l1; replace lr := Later.trans_ lr l1)
          | ((with_reducible refine wpList_load_blk (o := ⟨some 34, .load 24 (.tmp 3), _, _, _, none⟩) rfl _ _ rfl w.heap.size 24 ([.slice A n c]) _ ?_ ?_ Try.underlying24 rfl memS ?_); rfl; exact b3)
          | ((with_reducible refine wpList_load_blk (o := ⟨some 35, .load 27 (.tmp 4), _, _, _, none⟩) rfl _ _ rfl (w.heap.size + 1) 27 ([.int .u32 B, .int .u32 S]) _ ?_ ?_ Try.underlying27 rfl ring_sz ?_); rfl; exact b4)
          | (go_at_call 45; (with_reducible refine (K2.out _ lr).mono ?_); rintro e w2 ⟨rfl, l2⟩; replace b3 := b3.keep l2; replace b4 := b4.keep l2; replace b6 := b6.keep l2; replace ho := own_below ho l2; replace lr := Later.trans_ lr l2))
        replace b3 := b3.drew
        replace b4 := b4.drew
        replace b6 := b6.drew
        replace lr := lr.drew
        replace ho : w2.drew.ownsRow w.heap.size 59 4 (.slice A' l.length c') l.length (Ps l) := ho
        refine wp_region_held_drew (S := fun w' => World.rangeAt w' w.heap.size 0 [.slice A n c] ∧ World.rangeAt w' (w.heap.size + 1) 0 [.int .u32 B, .int .u32 S]) (by kernel_rfl) ⟨b3.range 0 1, b4.range 0 2⟩ (fun hHeld => ?_)
        refine wpAnyH_take (i := 0) (oi := ⟨some 38, .move (.tmp 7), _, _, _, none⟩) (v := (.slice A' l.length c')) rfl (by kernel_rfl) (by kernel_rfl) (by kernel_rfl) (fun _ _ _ h => h) (Or.inl ⟨by rfl, fun _ _ => rfl⟩) hHeld ?_
        simp only [Act.put, List.setIfInBounds_toArray, List.set_cons_zero, List.set_cons_succ]
        refine wpAnyH_take (i := 1) (oi := ⟨some 39, .move (.tmp 8), _, _, _, none⟩) (v := .int .i64 i) rfl (by kernel_rfl) (by kernel_rfl) (by kernel_rfl) (fun _ _ _ h => h) (Or.inl ⟨by rfl, fun _ _ => rfl⟩) hHeld ?_
        simp only [Act.put, List.setIfInBounds_toArray, List.set_cons_zero, List.set_cons_succ]
        refine wpAnyH_take (i := 2) (oi := ⟨some 40, .load 24 (.tmp 3), _, _, _, none⟩) (v := .agg ([.slice A n c]).toArray) rfl (by kernel_rfl) (by kernel_rfl) (by kernel_rfl) (fun _ _ _ h => h) (yieldsIf_load_mid (by rfl) _ _ rfl w.heap.size 0 rfl ([.slice A n c]) _ (fun wz hSw => hSw.1) Try.underlying24 rfl memS) hHeld ?_
        simp only [Act.put, List.setIfInBounds_toArray, List.set_cons_zero, List.set_cons_succ]
        refine wpAnyH_take (i := 3) (oi := ⟨some 41, .load 27 (.tmp 4), _, _, _, none⟩) (v := .agg ([.int .u32 B, .int .u32 S]).toArray) rfl (by kernel_rfl) (by kernel_rfl) (by kernel_rfl) (fun _ _ _ h => h) (yieldsIf_load_mid (by rfl) _ _ rfl (w.heap.size + 1) 0 rfl ([.int .u32 B, .int .u32 S]) _ (fun wz hSw => hSw.2) Try.underlying27 rfl ring_sz) hHeld ?_
        simp only [Act.put, List.setIfInBounds_toArray, List.set_cons_zero, List.set_cons_succ]
        refine wpAnyH_take (i := 4) (oi := ⟨some 42, .move (.tmp 8), _, _, _, none⟩) (v := .int .i64 i) rfl (by kernel_rfl) (by kernel_rfl) (by kernel_rfl) (fun _ _ _ h => h) (Or.inl ⟨by rfl, fun _ _ => rfl⟩) hHeld ?_
        simp only [Act.put, List.setIfInBounds_toArray, List.set_cons_zero, List.set_cons_succ]
        refine wpAnyH_take (i := 6) (oi := ⟨some 44, .load 24 (.tmp 3), _, _, _, none⟩) (v := .agg ([.slice A n c]).toArray) rfl (by kernel_rfl) (by kernel_rfl) (by kernel_rfl) (fun _ _ _ h => h) (yieldsIf_load_mid (by rfl) _ _ rfl w.heap.size 0 rfl ([.slice A n c]) _ (fun wz hSw => hSw.1) Try.underlying24 rfl memS) hHeld ?_
        simp only [Act.put, List.setIfInBounds_toArray, List.set_cons_zero, List.set_cons_succ]
        refine wpAnyH_take (i := 7) (oi := ⟨some 45, .load 27 (.tmp 4), _, _, _, none⟩) (v := .agg ([.int .u32 B, .int .u32 S]).toArray) rfl (by kernel_rfl) (by kernel_rfl) (by kernel_rfl) (fun _ _ _ h => h) (yieldsIf_load_mid (by rfl) _ _ rfl (w.heap.size + 1) 0 rfl ([.int .u32 B, .int .u32 S]) _ (fun wz hSw => hSw.2) Try.underlying27 rfl ring_sz) hHeld ?_
        simp only [Act.put, List.setIfInBounds_toArray, List.set_cons_zero, List.set_cons_succ]
        refine wpAnyH_take (i := 8) (oi := ⟨some 46, .move (.tmp 8), _, _, _, none⟩) (v := .int .i64 i) rfl (by kernel_rfl) (by kernel_rfl) (by kernel_rfl) (fun _ _ _ h => h) (Or.inl ⟨by rfl, fun _ _ => rfl⟩) hHeld ?_
        simp only [Act.put, List.setIfInBounds_toArray, List.set_cons_zero, List.set_cons_succ]
        refine wpAnyH_take (i := 10) (oi := ⟨some 48, .move (.tmp 10), _, _, _, none⟩) (v := .int .i64 y2) rfl (by kernel_rfl) (by kernel_rfl) (by kernel_rfl) (fun _ _ _ h => h) (Or.inl ⟨by rfl, fun _ _ => rfl⟩) hHeld ?_
        simp only [Act.put, List.setIfInBounds_toArray, List.set_cons_zero, List.set_cons_succ]
        refine wpAnyH_take (i := 11) (oi := ⟨some 49, .binOp .rem 3 (.tmp 48) (.const (.int .i64 2)) 3, _, _, _, none⟩) (v := .int .i64 (y2 % 2)) rfl (by kernel_rfl) (by kernel_rfl) (by kernel_rfl) (fun _ _ _ h => h) (Or.inl ⟨by rfl, fun w _ => by go_simp⟩) hHeld ?_
        simp only [Act.put, List.setIfInBounds_toArray, List.set_cons_zero, List.set_cons_succ]
        refine wpAnyH_take (i := 12) (oi := ⟨some 50, .binOp .eql 3 (.tmp 49) (.const (.int .i64 1)) 3, _, _, _, none⟩) (v := .bool (wrF y2)) rfl (by kernel_rfl) (by kernel_rfl) (by kernel_rfl) (fun _ _ _ h => h) (Or.inl ⟨by rfl, fun w _ => by go_simp⟩) hHeld ?_
        simp only [Act.put, List.setIfInBounds_toArray, List.set_cons_zero, List.set_cons_succ]
        refine wpAnyH_ready (rs := [5]) (by kernel_rfl) (by simp) (AllReadyH.cons (o := ⟨some 43, .call { callee := .value (.func 45), args := #[.tmp 40, .tmp 41, .tmp 42, .const (.int .i64 0)], argTypes := #[24, 27, 3, 3] }, _, _, _, none⟩) rfl (fun K' hK => ?_) (AllReadyH.nil))
        go_simp
        (with_reducible refine (K0.out _ lr).mono ?_)
        rintro e1 w3 ⟨rfl, l3⟩
        replace b3 := b3.keep l3
        replace b4 := b4.keep l3
        replace b6 := b6.keep l3
        replace ho := own_below ho l3
        replace lr := Later.trans_ lr l3
        refine hK.out _ _ ⟨b3.range 0 1, b4.range 0 2⟩ (fun hHeld => ?_)
        clear hK K'
        try simp only [Act.put, List.setIfInBounds_toArray, List.set_cons_zero, List.set_cons_succ]
        refine wpAnyH_ready (rs := [9]) (by kernel_rfl) (by simp) (AllReadyH.cons (o := ⟨some 47, .call { callee := .value (.func 45), args := #[.tmp 44, .tmp 45, .tmp 46, .const (.int .i64 1)], argTypes := #[24, 27, 3, 3] }, _, _, _, none⟩) rfl (fun K' hK => ?_) (AllReadyH.nil))
        go_simp
        (with_reducible refine (K1.out _ lr).mono ?_)
        rintro e1 w4 ⟨rfl, l4⟩
        replace b3 := b3.keep l4
        replace b4 := b4.keep l4
        replace b6 := b6.keep l4
        replace ho := own_below ho l4
        replace lr := Later.trans_ lr l4
        refine hK.out _ _ ⟨b3.range 0 1, b4.range 0 2⟩ (fun hHeld => ?_)
        clear hK K'
        try simp only [Act.put, List.setIfInBounds_toArray, List.set_cons_zero, List.set_cons_succ]
        refine wpAnyH_take (i := 13) (oi := ⟨some 51, .build 59 #[(0, .tmp 39), (1, .tmp 43), (2, .tmp 47), (3, .tmp 50)], _, _, _, none⟩) (v := .agg (Pc p).toArray) rfl (by kernel_rfl) (by kernel_rfl) (by kernel_rfl) (fun _ _ _ h => h) (yieldsIf_build (by rfl) _ _ #[(0, .int .i64 i), (1, .int .i64 y0), (2, .int .i64 y1), (3, .bool (wrF y2))] _ rfl rfl (fun wz => by rw [← HP.out]; exact run_pt _ _ _ _ wz)) hHeld ?_
        simp only [Act.put, List.setIfInBounds_toArray, List.set_cons_zero, List.set_cons_succ]
        refine wpAnyH_ready (rs := [14]) (by kernel_rfl) (by simp) (AllReadyH.cons (o := ⟨some 52, .buildSlice 35 1 #[(0, .tmp 51)], _, _, _, none⟩) rfl (fun K' hK => ?_) (AllReadyH.nil))
        refine wp_build1 _ 59 _ rfl (Pc p).toArray i0' _ Try.underlying35 HI.out.1 HI.out.2.1 HI.out.2.2.1 (show 0 < 4 from by decide) (show 4 ≤ 16777216 from by decide) rfl ?_
        have bn := Blk.new w4 59 (Pc p).toArray (Pc p) rfl
        replace b3 := b3.alloc (.cells (Pc p).toArray 59)
        replace b4 := b4.alloc (.cells (Pc p).toArray 59)
        replace b6 := b6.alloc (.cells (Pc p).toArray 59)
        replace ho := ho.alloc (.cells (Pc p).toArray 59)
        replace lr := lr.alloc lr.size (.cells (Pc p).toArray 59)
        refine hK.out _ _ ⟨b3.range 0 1, b4.range 0 2⟩ (fun hHeld => ?_)
        clear hK K'
        try simp only [Act.put, List.setIfInBounds_toArray, List.set_cons_zero, List.set_cons_succ]
        refine wpAnyH_ready (rs := [15]) (by kernel_rfl) (by simp) (AllReadyH.cons (o := ⟨some 53, .call { callee := .builtin .append, args := #[.tmp 38, .tmp 52], argTypes := #[35, 35] }, _, _, _, none⟩) rfl (fun K' hK => ?_) (AllReadyH.nil))
        refine wp_append_lies _ _ _ 35 rfl w.heap.size 59 i0' (.agg #[.int .i64 0, .int .i64 0, .int .i64 0, .bool false]) 4 32 Try.underlying35 HI.out.1 HI.out.2.1 HI.out.2.2.1 HI.out.2.2.2 rfl (by decide) _ _ _ rfl ho ⟨w4.heap.size, 0, none⟩ 1 1 (Pc p) rfl rfl (news_blk bn) (pt_one _) (by decide) (by unfold maxLen; omega) (by omega) lr.size _ rfl ?_
        intro g5 cap5 w5 own5 grow5 hat5 hlt5
        replace b3 := b3.grown grow5 (own_ne ho b3 (by decide))
        replace b4 := b4.grown grow5 (own_ne ho b4 (by decide))
        replace b6 := b6.grown grow5 (own_ne ho b6 (by decide))
        replace lr := lr.grown grow5 lr.size (fun b hb => (ho.lt b hb).1)
        clear ho bn
        refine hK.out _ _ ⟨b3.range 0 1, b4.range 0 2⟩ (fun hHeld => ?_)
        clear hK K'
        try simp only [Act.put, List.setIfInBounds_toArray, List.set_cons_zero, List.set_cons_succ]
        refine wpAnyH_take (i := 16) (oi := ⟨some 7, .assign (.tmp 53), _, _, _, none⟩) (v := .slice (some ⟨g5, 0, none⟩) (l.length + 1) cap5) rfl (by kernel_rfl) (by kernel_rfl) (by kernel_rfl) (fun _ _ _ h => h) (Or.inl ⟨by rfl, fun _ _ => rfl⟩) hHeld ?_
        simp only [Act.put, List.setIfInBounds_toArray, List.set_cons_zero, List.set_cons_succ]
        refine wpAnyH_done (by kernel_rfl) ?_ _
        clear hHeld
        clear qa qb qt HP
        go_wp2
        go_roundg gn
        case measure => omega
        case rel => exact ⟨_, l ++ [p], by simp; omega, by simp; omega, rfl, by omega, hx1, HF', by rw [Ps_snoc, List.length_append]; exact own5, b3, b4, b6, lr⟩
      · have hmf : Rg.more b B i = false := by simpa using hmo
        have HF' := Lib.hid ((folr_end (f := gn) hE0 hmf).symm.trans HF.out)
        rw [hm0] at hmo
        obtain ⟨y0, h0y⟩ : ∃ z, z = Rg.wd b B i 0 := ⟨_, rfl⟩
        obtain ⟨y1, h1y⟩ : ∃ z, z = Rg.wd b B i 1 := ⟨_, rfl⟩
        obtain ⟨y2, h2y⟩ : ∃ z, z = Rg.wd b B i 2 := ⟨_, rfl⟩
        obtain ⟨p, hp⟩ : ∃ z, z = Rg.pt b B i := ⟨_, rfl⟩
        rw [← h0y, ← h1y, ← h2y, ← hp] at HP0
        rw [← h0y] at K0 r0
        rw [← h1y] at K1 r1
        rw [← h2y] at K2 r2 hmo
        try rw [← h2y] at HF' hx1
        rw [← hp] at HF'
        have HP := Lib.hid HP0.out.symm
        obtain ⟨y2a, y2b⟩ := r2
        have qa : (y2 % 2 == 1) = wrF y2 := rfl
        have qb := wrap64 y2 y2a (by omega)
        have qt : y2.tmod 2 = y2 % 2 := Int.tmod_eq_emod_of_nonneg y2a
        clear h0y h1y h2y hp HP0
        have q5 : (y2 / 2 % 2 == 0) = true := beq_iff_eq.2 (by have := of_decide_eq_false (by simpa using hmo : decide (y2 / 2 % 2 = 1) = false); omega)
        have hR2 : R.2 = 0 := by rw [← HF'.out]
        have hR1 : R.1 = l ++ [p] := by rw [← HF'.out]
        have hXM := HMO.out hR2
        have hin := HGD.out.inr
        rw [hR1] at hXM hin
        have KMM := Lib.hid fun (A' : Option Addr) (c' : Nat) w' (k : Later w w') (h : Sl w' 4 A' (l.length + 1) (Ps (l ++ [p]))) => KM.out (l ++ [p]) hin A' (l.length + 1) c' (by simp) (by omega) w' k h
        rw [← hXM] at KMM
        have HRR := Lib.hid (show R.1 = l ++ [p] ∧ R.2 = 0 from ⟨hR1, hR2⟩)
        clear hR1 hR2 hXM hin hm0 hn0 hmo hmf hE0 hev hsl hbk HF hnx r0 r1 HF'
        go_upto_region 9 with (first
          | ((with_reducible refine wpList_load_blk (o := ⟨some 12, .load 24 (.tmp 3), _, _, _, none⟩) rfl _ _ rfl w.heap.size 24 ([.slice A n c]) _ ?_ ?_ Try.underlying24 rfl memS ?_); rfl; exact b3)
          | ((with_reducible refine wpList_load_blk (o := ⟨some 13, .load 27 (.tmp 4), _, _, _, none⟩) rfl _ _ rfl (w.heap.size + 1) 27 ([.int .u32 B, .int .u32 S]) _ ?_ ?_ Try.underlying27 rfl ring_sz ?_); rfl; exact b4)
          | (go_at_call 46; (with_reducible refine (KW.out _ lr (Sl.own ho)).mono ?_); rintro e w1 ⟨rfl, l1⟩; replace b3 := b3.keep l1; replace b4 := b4.keep l1; replace b6 := b6.keep l1; replace ho := own_below ho l1; replace lr := Later.trans_ lr l1)
          | ((with_reducible refine wpList_load_blk (o := ⟨some 34, .load 24 (.tmp 3), _, _, _, none⟩) rfl _ _ rfl w.heap.size 24 ([.slice A n c]) _ ?_ ?_ Try.underlying24 rfl memS ?_); rfl; exact b3)
          | ((with_reducible refine wpList_load_blk (o := ⟨some 35, .load 27 (.tmp 4), _, _, _, none⟩) rfl _ _ rfl (w.heap.size + 1) 27 ([.int .u32 B, .int .u32 S]) _ ?_ ?_ Try.underlying27 rfl ring_sz ?_); rfl; exact b4)
          | (go_at_call 45; (with_reducible refine (K2.out _ lr).mono ?_); rintro e w2 ⟨rfl, l2⟩; replace b3 := b3.keep l2; replace b4 := b4.keep l2; replace b6 := b6.keep l2; replace ho := own_below ho l2; replace lr := Later.trans_ lr l2))
        replace b3 := b3.drew
        replace b4 := b4.drew
        replace b6 := b6.drew
        replace lr := lr.drew
        replace ho : w2.drew.ownsRow w.heap.size 59 4 (.slice A' l.length c') l.length (Ps l) := ho
        refine wp_region_held_drew (S := fun w' => World.rangeAt w' w.heap.size 0 [.slice A n c] ∧ World.rangeAt w' (w.heap.size + 1) 0 [.int .u32 B, .int .u32 S]) (by kernel_rfl) ⟨b3.range 0 1, b4.range 0 2⟩ (fun hHeld => ?_)
        refine wpAnyH_take (i := 0) (oi := ⟨some 38, .move (.tmp 7), _, _, _, none⟩) (v := (.slice A' l.length c')) rfl (by kernel_rfl) (by kernel_rfl) (by kernel_rfl) (fun _ _ _ h => h) (Or.inl ⟨by rfl, fun _ _ => rfl⟩) hHeld ?_
        simp only [Act.put, List.setIfInBounds_toArray, List.set_cons_zero, List.set_cons_succ]
        refine wpAnyH_take (i := 1) (oi := ⟨some 39, .move (.tmp 8), _, _, _, none⟩) (v := .int .i64 i) rfl (by kernel_rfl) (by kernel_rfl) (by kernel_rfl) (fun _ _ _ h => h) (Or.inl ⟨by rfl, fun _ _ => rfl⟩) hHeld ?_
        simp only [Act.put, List.setIfInBounds_toArray, List.set_cons_zero, List.set_cons_succ]
        refine wpAnyH_take (i := 2) (oi := ⟨some 40, .load 24 (.tmp 3), _, _, _, none⟩) (v := .agg ([.slice A n c]).toArray) rfl (by kernel_rfl) (by kernel_rfl) (by kernel_rfl) (fun _ _ _ h => h) (yieldsIf_load_mid (by rfl) _ _ rfl w.heap.size 0 rfl ([.slice A n c]) _ (fun wz hSw => hSw.1) Try.underlying24 rfl memS) hHeld ?_
        simp only [Act.put, List.setIfInBounds_toArray, List.set_cons_zero, List.set_cons_succ]
        refine wpAnyH_take (i := 3) (oi := ⟨some 41, .load 27 (.tmp 4), _, _, _, none⟩) (v := .agg ([.int .u32 B, .int .u32 S]).toArray) rfl (by kernel_rfl) (by kernel_rfl) (by kernel_rfl) (fun _ _ _ h => h) (yieldsIf_load_mid (by rfl) _ _ rfl (w.heap.size + 1) 0 rfl ([.int .u32 B, .int .u32 S]) _ (fun wz hSw => hSw.2) Try.underlying27 rfl ring_sz) hHeld ?_
        simp only [Act.put, List.setIfInBounds_toArray, List.set_cons_zero, List.set_cons_succ]
        refine wpAnyH_take (i := 4) (oi := ⟨some 42, .move (.tmp 8), _, _, _, none⟩) (v := .int .i64 i) rfl (by kernel_rfl) (by kernel_rfl) (by kernel_rfl) (fun _ _ _ h => h) (Or.inl ⟨by rfl, fun _ _ => rfl⟩) hHeld ?_
        simp only [Act.put, List.setIfInBounds_toArray, List.set_cons_zero, List.set_cons_succ]
        refine wpAnyH_take (i := 6) (oi := ⟨some 44, .load 24 (.tmp 3), _, _, _, none⟩) (v := .agg ([.slice A n c]).toArray) rfl (by kernel_rfl) (by kernel_rfl) (by kernel_rfl) (fun _ _ _ h => h) (yieldsIf_load_mid (by rfl) _ _ rfl w.heap.size 0 rfl ([.slice A n c]) _ (fun wz hSw => hSw.1) Try.underlying24 rfl memS) hHeld ?_
        simp only [Act.put, List.setIfInBounds_toArray, List.set_cons_zero, List.set_cons_succ]
        refine wpAnyH_take (i := 7) (oi := ⟨some 45, .load 27 (.tmp 4), _, _, _, none⟩) (v := .agg ([.int .u32 B, .int .u32 S]).toArray) rfl (by kernel_rfl) (by kernel_rfl) (by kernel_rfl) (fun _ _ _ h => h) (yieldsIf_load_mid (by rfl) _ _ rfl (w.heap.size + 1) 0 rfl ([.int .u32 B, .int .u32 S]) _ (fun wz hSw => hSw.2) Try.underlying27 rfl ring_sz) hHeld ?_
        simp only [Act.put, List.setIfInBounds_toArray, List.set_cons_zero, List.set_cons_succ]
        refine wpAnyH_take (i := 8) (oi := ⟨some 46, .move (.tmp 8), _, _, _, none⟩) (v := .int .i64 i) rfl (by kernel_rfl) (by kernel_rfl) (by kernel_rfl) (fun _ _ _ h => h) (Or.inl ⟨by rfl, fun _ _ => rfl⟩) hHeld ?_
        simp only [Act.put, List.setIfInBounds_toArray, List.set_cons_zero, List.set_cons_succ]
        refine wpAnyH_take (i := 10) (oi := ⟨some 48, .move (.tmp 10), _, _, _, none⟩) (v := .int .i64 y2) rfl (by kernel_rfl) (by kernel_rfl) (by kernel_rfl) (fun _ _ _ h => h) (Or.inl ⟨by rfl, fun _ _ => rfl⟩) hHeld ?_
        simp only [Act.put, List.setIfInBounds_toArray, List.set_cons_zero, List.set_cons_succ]
        refine wpAnyH_take (i := 11) (oi := ⟨some 49, .binOp .rem 3 (.tmp 48) (.const (.int .i64 2)) 3, _, _, _, none⟩) (v := .int .i64 (y2 % 2)) rfl (by kernel_rfl) (by kernel_rfl) (by kernel_rfl) (fun _ _ _ h => h) (Or.inl ⟨by rfl, fun w _ => by go_simp⟩) hHeld ?_
        simp only [Act.put, List.setIfInBounds_toArray, List.set_cons_zero, List.set_cons_succ]
        refine wpAnyH_take (i := 12) (oi := ⟨some 50, .binOp .eql 3 (.tmp 49) (.const (.int .i64 1)) 3, _, _, _, none⟩) (v := .bool (wrF y2)) rfl (by kernel_rfl) (by kernel_rfl) (by kernel_rfl) (fun _ _ _ h => h) (Or.inl ⟨by rfl, fun w _ => by go_simp⟩) hHeld ?_
        simp only [Act.put, List.setIfInBounds_toArray, List.set_cons_zero, List.set_cons_succ]
        refine wpAnyH_ready (rs := [5]) (by kernel_rfl) (by simp) (AllReadyH.cons (o := ⟨some 43, .call { callee := .value (.func 45), args := #[.tmp 40, .tmp 41, .tmp 42, .const (.int .i64 0)], argTypes := #[24, 27, 3, 3] }, _, _, _, none⟩) rfl (fun K' hK => ?_) (AllReadyH.nil))
        go_simp
        (with_reducible refine (K0.out _ lr).mono ?_)
        rintro e1 w3 ⟨rfl, l3⟩
        replace b3 := b3.keep l3
        replace b4 := b4.keep l3
        replace b6 := b6.keep l3
        replace ho := own_below ho l3
        replace lr := Later.trans_ lr l3
        refine hK.out _ _ ⟨b3.range 0 1, b4.range 0 2⟩ (fun hHeld => ?_)
        clear hK K'
        try simp only [Act.put, List.setIfInBounds_toArray, List.set_cons_zero, List.set_cons_succ]
        refine wpAnyH_ready (rs := [9]) (by kernel_rfl) (by simp) (AllReadyH.cons (o := ⟨some 47, .call { callee := .value (.func 45), args := #[.tmp 44, .tmp 45, .tmp 46, .const (.int .i64 1)], argTypes := #[24, 27, 3, 3] }, _, _, _, none⟩) rfl (fun K' hK => ?_) (AllReadyH.nil))
        go_simp
        (with_reducible refine (K1.out _ lr).mono ?_)
        rintro e1 w4 ⟨rfl, l4⟩
        replace b3 := b3.keep l4
        replace b4 := b4.keep l4
        replace b6 := b6.keep l4
        replace ho := own_below ho l4
        replace lr := Later.trans_ lr l4
        refine hK.out _ _ ⟨b3.range 0 1, b4.range 0 2⟩ (fun hHeld => ?_)
        clear hK K'
        try simp only [Act.put, List.setIfInBounds_toArray, List.set_cons_zero, List.set_cons_succ]
        refine wpAnyH_take (i := 13) (oi := ⟨some 51, .build 59 #[(0, .tmp 39), (1, .tmp 43), (2, .tmp 47), (3, .tmp 50)], _, _, _, none⟩) (v := .agg (Pc p).toArray) rfl (by kernel_rfl) (by kernel_rfl) (by kernel_rfl) (fun _ _ _ h => h) (yieldsIf_build (by rfl) _ _ #[(0, .int .i64 i), (1, .int .i64 y0), (2, .int .i64 y1), (3, .bool (wrF y2))] _ rfl rfl (fun wz => by rw [← HP.out]; exact run_pt _ _ _ _ wz)) hHeld ?_
        simp only [Act.put, List.setIfInBounds_toArray, List.set_cons_zero, List.set_cons_succ]
        refine wpAnyH_ready (rs := [14]) (by kernel_rfl) (by simp) (AllReadyH.cons (o := ⟨some 52, .buildSlice 35 1 #[(0, .tmp 51)], _, _, _, none⟩) rfl (fun K' hK => ?_) (AllReadyH.nil))
        refine wp_build1 _ 59 _ rfl (Pc p).toArray i0' _ Try.underlying35 HI.out.1 HI.out.2.1 HI.out.2.2.1 (show 0 < 4 from by decide) (show 4 ≤ 16777216 from by decide) rfl ?_
        have bn := Blk.new w4 59 (Pc p).toArray (Pc p) rfl
        replace b3 := b3.alloc (.cells (Pc p).toArray 59)
        replace b4 := b4.alloc (.cells (Pc p).toArray 59)
        replace b6 := b6.alloc (.cells (Pc p).toArray 59)
        replace ho := ho.alloc (.cells (Pc p).toArray 59)
        replace lr := lr.alloc lr.size (.cells (Pc p).toArray 59)
        refine hK.out _ _ ⟨b3.range 0 1, b4.range 0 2⟩ (fun hHeld => ?_)
        clear hK K'
        try simp only [Act.put, List.setIfInBounds_toArray, List.set_cons_zero, List.set_cons_succ]
        refine wpAnyH_ready (rs := [15]) (by kernel_rfl) (by simp) (AllReadyH.cons (o := ⟨some 53, .call { callee := .builtin .append, args := #[.tmp 38, .tmp 52], argTypes := #[35, 35] }, _, _, _, none⟩) rfl (fun K' hK => ?_) (AllReadyH.nil))
        refine wp_append_lies _ _ _ 35 rfl w.heap.size 59 i0' (.agg #[.int .i64 0, .int .i64 0, .int .i64 0, .bool false]) 4 32 Try.underlying35 HI.out.1 HI.out.2.1 HI.out.2.2.1 HI.out.2.2.2 rfl (by decide) _ _ _ rfl ho ⟨w4.heap.size, 0, none⟩ 1 1 (Pc p) rfl rfl (news_blk bn) (pt_one _) (by decide) (by unfold maxLen; omega) (by omega) lr.size _ rfl ?_
        intro g5 cap5 w5 own5 grow5 hat5 hlt5
        replace b3 := b3.grown grow5 (own_ne ho b3 (by decide))
        replace b4 := b4.grown grow5 (own_ne ho b4 (by decide))
        replace b6 := b6.grown grow5 (own_ne ho b6 (by decide))
        replace lr := lr.grown grow5 lr.size (fun b hb => (ho.lt b hb).1)
        clear ho bn
        refine hK.out _ _ ⟨b3.range 0 1, b4.range 0 2⟩ (fun hHeld => ?_)
        clear hK K'
        try simp only [Act.put, List.setIfInBounds_toArray, List.set_cons_zero, List.set_cons_succ]
        refine wpAnyH_take (i := 16) (oi := ⟨some 7, .assign (.tmp 53), _, _, _, none⟩) (v := .slice (some ⟨g5, 0, none⟩) (l.length + 1) cap5) rfl (by kernel_rfl) (by kernel_rfl) (by kernel_rfl) (fun _ _ _ h => h) (Or.inl ⟨by rfl, fun _ _ => rfl⟩) hHeld ?_
        simp only [Act.put, List.setIfInBounds_toArray, List.set_cons_zero, List.set_cons_succ]
        refine wpAnyH_done (by kernel_rfl) ?_ _
        clear hHeld
        clear qa qb qt HP
        rw [← Ps_snoc] at own5
        go_wp2_with (first
    | ((with_reducible refine wpList_load_blk (o := ⟨some 58, .load 24 (.tmp 3), _, _, _, none⟩) rfl _ _ rfl w.heap.size 24 ([.slice A n c]) _ ?_ ?_ Try.underlying24 rfl memS ?_); rfl; exact b3)
    | ((with_reducible refine wpList_load_blk (o := ⟨some 59, .load 27 (.tmp 4), _, _, _, none⟩) rfl _ _ rfl (w.heap.size + 1) 27 ([.int .u32 B, .int .u32 S]) _ ?_ ?_ Try.underlying27 rfl ring_sz ?_); rfl; exact b4)
    | (go_at_call 48; (with_reducible refine (KMM.out _ _ _ lr (Sl.own own5)).mono ?_); rintro e w7 ⟨A1, c1, rfl, g2, g3, sl1, gf, l7⟩; have hbl := b6.lt; have hwl := lr.size; replace b6 := b6.keep l7; replace own5 := own_below own5 l7; replace lr := Later.trans_ lr l7)
    | ((with_reducible refine wpList_bld (o := ⟨some 63, .build 42 #[(0, .tmp 61), (1, .tmp 62)], _, _, _, none⟩) rfl _ #[(0, .tmp 61), (1, .tmp 62)] #[(0, .agg #[.slice A1 n c1]), (1, .slice (some ⟨g5, 0, none⟩) (l.length + 1) cap5)] ([.slice A1 n c1, .slice (some ⟨g5, 0, none⟩) (l.length + 1) cap5, .int .i64 0]).toArray rfl ?_ (run_tkl _ _ _ _ _ _ _) ?_); rfl)
    | ((with_reducible refine wpList_store_abs (o := ⟨none, .store 42 (.tmp 6) (.tmp 63), _, _, _, none⟩) rfl _ _ _ rfl (w.heap.size + 1 + 1) 42 ([.slice none 0 0, .slice none 0 0, .int .i64 0]) ([.slice A1 n c1, .slice (some ⟨g5, 0, none⟩) (l.length + 1) cap5, .int .i64 0]) ?_ ?_ ?_ ?_ ?_ ?_ ?_); rfl; rfl; exact b6; exact tkS; rfl; exact (one3 rfl rfl rfl); intro w9 b9 o9))
        rw [HRR.out.1, HRR.out.2]
        have hnb := own_ne own5 b6 (by decide)
        obtain ⟨_, _, e9, q1, q2, q3, q4⟩ := own_form (own_only own5 o9 (fun g hg e => hnb (by rw [hg, e])))
        cases e9
        exact bodyPost_ret (results_blk Try.results17 _ _ (w.heap.size + 1 + 1) 42 _ _ rfl b9 Try.underlying42 rfl tkS) rfl ⟨A1, c1, _, _, _, rfl, g2, g3, sl1.only_ne o9 (fun ad e => by rcases gf ad e with h | h; exact Nat.ne_of_lt (Nat.lt_of_lt_of_le (HAL.out ad h) (by omega)); exact Nat.ne_of_gt (Nat.lt_of_lt_of_le hbl h)), q1, q2, q3, by simp, Below.only lr o9 (by omega)⟩
    · have HF' := Lib.hid ((folr_err (f := gn) hE0).symm.trans HF.out)
      have hR2 : R.2 = Rg.err (n * 128) b B S l i := by rw [← HF'.out]
      have hR1 : R.1 = [] := by rw [← HF'.out]
      have hXE := HME.out (by rw [hR2]; exact hE0)
      rw [hR2] at hXE
      obtain ⟨E1, hE1⟩ : ∃ z, z = Rg.err (n * 128) b B S l i := ⟨_, rfl⟩
      rw [← hE1] at KW hR2 hXE hE0 hev
      have e0 : (E1 != 0) = true := bne_iff_ne.2 hE0
      have HRR := Lib.hid (show R.1 = [] ∧ R.2 = E1 from ⟨hR1, hR2⟩)
      obtain ⟨hXa, hXb, _, _⟩ := hXE
      obtain ⟨y3, hy3⟩ : ∃ z, z = Rg.wd b B i0 3 := ⟨_, rfl⟩
      rw [← hy3] at K3
      have hof : Rg.off b B i0 = decide (y3 = 1) := by rw [hy3]; rfl
      have KFF := Lib.hid (KF.out (4 + (E1 - 160)) (by omega) (by omega))
      have hE5 : 161 ≤ E1 ∧ E1 ≤ 165 := by omega
      obtain ⟨hE5a, hE5b⟩ := hE5
      by_cases hy : y3 = 1
      · have q3 : (y3 == 1) = true := beq_iff_eq.2 hy
        have hXX := hXa (by rw [hof]; exact decide_eq_true hy)
        rw [← hXX] at KFF
        clear hXX hXa hXb hof hy hy3 hE1 hE0 hev hR1 hR2 HF HF' hsl hbk K0 K1 K2
        have a1 := wrap64 (E1 - 160) (by omega) (by omega)
        have a2 := wrap64 (4 + (E1 - 160)) (by omega) (by omega)
        go_wp2_with (first
    | ((with_reducible refine wpList_load_blk (o := ⟨some 12, .load 24 (.tmp 3), _, _, _, none⟩) rfl _ _ rfl w.heap.size 24 ([.slice A n c]) _ ?_ ?_ Try.underlying24 rfl memS ?_); rfl; exact b3)
    | ((with_reducible refine wpList_load_blk (o := ⟨some 13, .load 27 (.tmp 4), _, _, _, none⟩) rfl _ _ rfl (w.heap.size + 1) 27 ([.int .u32 B, .int .u32 S]) _ ?_ ?_ Try.underlying27 rfl ring_sz ?_); rfl; exact b4)
    | (go_at_call 46; (with_reducible refine (KW.out _ lr (Sl.own ho)).mono ?_); rintro e w1 ⟨rfl, l1⟩; replace b3 := b3.keep l1; replace b4 := b4.keep l1; replace b6 := b6.keep l1; replace ho := own_below ho l1; replace lr := Later.trans_ lr l1)
    | ((with_reducible refine wpList_load_blk (o := ⟨some 19, .load 24 (.tmp 3), _, _, _, none⟩) rfl _ _ rfl w.heap.size 24 ([.slice A n c]) _ ?_ ?_ Try.underlying24 rfl memS ?_); rfl; exact b3)
    | ((with_reducible refine wpList_load_blk (o := ⟨some 20, .load 27 (.tmp 4), _, _, _, none⟩) rfl _ _ rfl (w.heap.size + 1) 27 ([.int .u32 B, .int .u32 S]) _ ?_ ?_ Try.underlying27 rfl ring_sz ?_); rfl; exact b4)
    | (go_at_call 45; (with_reducible refine (K3.out _ lr).mono ?_); rintro e w2 ⟨rfl, l2⟩; replace b3 := b3.keep l2; replace b4 := b4.keep l2; replace b6 := b6.keep l2; replace ho := own_below ho l2; replace lr := Later.trans_ lr l2)
    | ((with_reducible refine wpList_load_blk (o := ⟨some 24, .load 24 (.tmp 3), _, _, _, none⟩) rfl _ _ rfl w.heap.size 24 ([.slice A n c]) _ ?_ ?_ Try.underlying24 rfl memS ?_); rfl; exact b3)
    | ((with_reducible refine wpList_load_blk (o := ⟨some 25, .load 27 (.tmp 4), _, _, _, none⟩) rfl _ _ rfl (w.heap.size + 1) 27 ([.int .u32 B, .int .u32 S]) _ ?_ ?_ Try.underlying27 rfl ring_sz ?_); rfl; exact b4)
    | (go_at_call 47; (with_reducible refine (KFF.out _ lr).mono ?_); rintro e w7 ⟨g, c1, rfl, g1, g2, g3, dx, l7⟩; have hbl := Nat.lt_of_lt_of_le b6.lt g1; replace b3 := b3.keep l7; replace b4 := b4.keep l7; replace b6 := b6.keep l7; replace lr := Later.trans_ lr l7)
    | ((with_reducible refine wpList_store_abs (o := ⟨none, .store 24 (.tmp 3) (.tmp 30), _, _, _, none⟩) rfl _ _ _ rfl w.heap.size 24 ([.slice A n c]) ([.slice (some ⟨g, 0, none⟩) n c1]) ?_ ?_ ?_ ?_ ?_ ?_ ?_); rfl; rfl; exact b3; exact memS; rfl; exact (one1 rfl); intro w8 b8 o8; replace b6 := b6.only o8 (by omega); replace dx := dx.only o8 (by omega); replace lr := Below.only lr o8 (by omega))
    | ((with_reducible refine wpList_load_blk (o := ⟨some 31, .load 24 (.tmp 3), _, _, _, none⟩) rfl _ _ rfl w.heap.size 24 ([.slice (some ⟨g, 0, none⟩) n c1]) _ ?_ ?_ Try.underlying24 rfl memS ?_); rfl; exact b8)
    | ((with_reducible refine wpList_bld (o := ⟨some 33, .build 42 #[(0, .tmp 31), (2, .tmp 32)], _, _, _, none⟩) rfl _ #[(0, .tmp 31), (2, .tmp 32)] #[(0, .agg #[.slice (some ⟨g, 0, none⟩) n c1]), (2, .int .i64 E1)] ([.slice (some ⟨g, 0, none⟩) n c1, .slice none 0 0, .int .i64 E1]).toArray rfl ?_ (run_tke _ _ _ _ _) ?_); rfl)
    | ((with_reducible refine wpList_store_abs (o := ⟨none, .store 42 (.tmp 6) (.tmp 33), _, _, _, none⟩) rfl _ _ _ rfl (w.heap.size + 1 + 1) 42 ([.slice none 0 0, .slice none 0 0, .int .i64 0]) ([.slice (some ⟨g, 0, none⟩) n c1, .slice none 0 0, .int .i64 E1]) ?_ ?_ ?_ ?_ ?_ ?_ ?_); rfl; rfl; exact b6; exact tkS; rfl; exact (one3 rfl rfl rfl); intro w9 b9 o9))
        rw [HRR.out.1, HRR.out.2]
        exact bodyPost_ret (results_blk Try.results17 _ _ (w.heap.size + 1 + 1) 42 _ _ rfl b9 Try.underlying42 rfl tkS) rfl ⟨_, c1, none, 0, 0, rfl, g2, g3, (dx.only o9 (Nat.ne_of_gt hbl)).sl, Nat.le_refl _, Nat.zero_le _, Sl.nil _ _ _, rfl, Below.only lr o9 (by omega)⟩
      · have q3 : (y3 == 1) = false := beq_eq_false_iff_ne.2 hy
        have hXX := hXb (by rw [hof]; exact decide_eq_false hy)
        have HXX := Lib.hid hXX
        clear hXX hXa hXb hof hy hy3 hE1 hE0 hev hR1 hR2 HF HF' hsl hbk K0 K1 K2 KFF
        go_wp2_with (first
    | ((with_reducible refine wpList_load_blk (o := ⟨some 12, .load 24 (.tmp 3), _, _, _, none⟩) rfl _ _ rfl w.heap.size 24 ([.slice A n c]) _ ?_ ?_ Try.underlying24 rfl memS ?_); rfl; exact b3)
    | ((with_reducible refine wpList_load_blk (o := ⟨some 13, .load 27 (.tmp 4), _, _, _, none⟩) rfl _ _ rfl (w.heap.size + 1) 27 ([.int .u32 B, .int .u32 S]) _ ?_ ?_ Try.underlying27 rfl ring_sz ?_); rfl; exact b4)
    | (go_at_call 46; (with_reducible refine (KW.out _ lr (Sl.own ho)).mono ?_); rintro e w1 ⟨rfl, l1⟩; replace b3 := b3.keep l1; replace b4 := b4.keep l1; replace b6 := b6.keep l1; replace ho := own_below ho l1; replace lr := Later.trans_ lr l1)
    | ((with_reducible refine wpList_load_blk (o := ⟨some 19, .load 24 (.tmp 3), _, _, _, none⟩) rfl _ _ rfl w.heap.size 24 ([.slice A n c]) _ ?_ ?_ Try.underlying24 rfl memS ?_); rfl; exact b3)
    | ((with_reducible refine wpList_load_blk (o := ⟨some 20, .load 27 (.tmp 4), _, _, _, none⟩) rfl _ _ rfl (w.heap.size + 1) 27 ([.int .u32 B, .int .u32 S]) _ ?_ ?_ Try.underlying27 rfl ring_sz ?_); rfl; exact b4)
    | (go_at_call 45; (with_reducible refine (K3.out _ lr).mono ?_); rintro e w2 ⟨rfl, l2⟩; replace b3 := b3.keep l2; replace b4 := b4.keep l2; replace b6 := b6.keep l2; replace ho := own_below ho l2; replace lr := Later.trans_ lr l2)
    | ((with_reducible refine wpList_load_blk (o := ⟨some 31, .load 24 (.tmp 3), _, _, _, none⟩) rfl _ _ rfl w.heap.size 24 ([.slice A n c]) _ ?_ ?_ Try.underlying24 rfl memS ?_); rfl; exact b3)
    | ((with_reducible refine wpList_bld (o := ⟨some 33, .build 42 #[(0, .tmp 31), (2, .tmp 32)], _, _, _, none⟩) rfl _ #[(0, .tmp 31), (2, .tmp 32)] #[(0, .agg #[.slice A n c]), (2, .int .i64 E1)] ([.slice A n c, .slice none 0 0, .int .i64 E1]).toArray rfl ?_ (run_tke _ _ _ _ _) ?_); rfl)
    | ((with_reducible refine wpList_store_abs (o := ⟨none, .store 42 (.tmp 6) (.tmp 33), _, _, _, none⟩) rfl _ _ _ rfl (w.heap.size + 1 + 1) 42 ([.slice none 0 0, .slice none 0 0, .int .i64 0]) ([.slice A n c, .slice none 0 0, .int .i64 E1]) ?_ ?_ ?_ ?_ ?_ ?_ ?_); rfl; rfl; exact b6; exact tkS; rfl; exact (one3 rfl rfl rfl); intro w9 b9 o9))
        rw [HRR.out.1, HRR.out.2, HXX.out]
        exact bodyPost_ret (results_blk Try.results17 _ _ (w.heap.size + 1 + 1) 42 _ _ rfl b9 Try.underlying42 rfl tkS) rfl ⟨A, c, none, 0, 0, rfl, HNC.out.1, HNC.out.2, (HSM.out _ lr).only_ne o9 (fun ad e => Nat.ne_of_lt (Nat.lt_of_lt_of_le (HAL.out ad e) (by omega))), Nat.le_refl _, Nat.zero_le _, Sl.nil _ _ _, rfl, Below.only lr o9 (by omega)⟩
end Go.Proofs.Ytffgbbfcbobecaa
