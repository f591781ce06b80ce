/-
  A RING: a descriptor loaded; the sizes that there are; Check.
-/
import Derived.Test.YtffgbbfcbobecaaRgD
namespace Go.Proofs.Ytffgbbfcbobecaa
open Go.RowKit Go.ChangeShapes Go.WideShapes Go.ChangeAt

/-- Words that are loaded one after the other. -/
def Wk (v : Nat → Int) : Nat → List Value
  | 0 => [.int .u32 0, .int .u32 0, .int .u32 0, .int .u32 0]
  | 1 => [.int .u32 (v 0), .int .u32 0, .int .u32 0, .int .u32 0]
  | 2 => [.int .u32 (v 0), .int .u32 (v 1), .int .u32 0, .int .u32 0]
  | 3 => [.int .u32 (v 0), .int .u32 (v 1), .int .u32 (v 2), .int .u32 0]
  | _ => [.int .u32 (v 0), .int .u32 (v 1), .int .u32 (v 2), .int .u32 (v 3)]
theorem u_sz : (Try.prog.info? 25).map (·.size) = some 1 := by kernel_rfl
/-- A descriptor as it lies in a memory. -/
def dcV (b : Wm.Bs) (B i : Int) : List Value := dcC (Rg.pt b B i) (Rg.wd b B i 2) (Rg.wd b B i 3)
theorem run_pt (i a l : Int) (x : Bool) (w : World) : (Instr.build 59 #[(0, .int .i64 i), (1, .int .i64 a), (2, .int .i64 l), (3, .bool x)]).run Try.prog w = .ok (.agg (Pc (i, a, l, x)).toArray) w := run_build' w _ _ _ (by kernel_rfl)
theorem run_dc (p : Rg.Pt) (f s : Int) (w : World) : (Instr.build 73 #[(0, .agg (Pc p).toArray), (1, .int .u32 f), (2, .int .u32 s)]).run Try.prog w = .ok (.agg (dcC p f s).toArray) w := run_build' w _ _ _ (by kernel_rfl)
theorem wrap64 (x : Int) (h0 : 0 ≤ x) (h1 : x < 9223372036854775808) : IntKind.i64.wrap x = x := by rw [IntKind.wrap_i64]; omega
set_option maxRecDepth 100000 in
set_option maxHeartbeats 4000000 in
theorem load_dc (A : Option Addr) (n c : Nat) (b : Wm.Bs) (B S i : Int) (w : World) (hs : Sl w 128 A n (U b)) (hb : Wm.isBs b) (hn1 : 1 ≤ n) (hn : n ≤ 64) (hok : Rg.Ok (n * 128) B S) (i0 : 0 ≤ i) (i1 : i < S) :
    Calls Try.prog 40 #[.agg #[.slice A n c], .agg #[.int .u32 B, .int .u32 S], .int .i64 i] w fun e w' => e = .returned (.agg (dcV b B i).toArray) ∧ Later w w' := by
  have hB := hok.2.2.1
  have hB2 := hok.2.2.2
  have hS := hok.s
  have KP := Lib.hid fun w' => place_any B S i w' hB (by omega) i0 (by omega)
  obtain ⟨v, hv⟩ : ∃ v : Nat → Int, v = fun k : Nat => Rg.wd b B i (k : Int) := ⟨_, rfl⟩
  have KL0 := Lib.hid fun w' (l : Later w w') => load_any A n c (B + 16 * i) 4 b w' (hs.keep l) hb hn1 hn ⟨by omega, by omega⟩
  rw [show decide (Mm.There (n * 128) (B + 16 * i) 4) = true from decide_eq_true (by have := hok.there i0 i1 (k := 0) (by omega) (by omega); simpa using this), show Mm.ld b (B + 16 * i) 4 = v 0 from by rw [hv]; simp [Rg.wd]] at KL0
  have KL1 := Lib.hid fun w' (l : Later w w') => load_any A n c (B + 16 * i + 4) 4 b w' (hs.keep l) hb hn1 hn ⟨by omega, by omega⟩
  rw [show decide (Mm.There (n * 128) (B + 16 * i + 4) 4) = true from decide_eq_true (by have := hok.there i0 i1 (k := 1) (by omega) (by omega); simpa using this), show Mm.ld b (B + 16 * i + 4) 4 = v 1 from by rw [hv]; simp [Rg.wd]] at KL1
  have KL2 := Lib.hid fun w' (l : Later w w') => load_any A n c (B + 16 * i + 8) 4 b w' (hs.keep l) hb hn1 hn ⟨by omega, by omega⟩
  rw [show decide (Mm.There (n * 128) (B + 16 * i + 8) 4) = true from decide_eq_true (by have := hok.there i0 i1 (k := 2) (by omega) (by omega); simpa using this), show Mm.ld b (B + 16 * i + 8) 4 = v 2 from by rw [hv]; simp [Rg.wd]] at KL2
  have KL3 := Lib.hid fun w' (l : Later w w') => load_any A n c (B + 16 * i + 12) 4 b w' (hs.keep l) hb hn1 hn ⟨by omega, by omega⟩
  rw [show decide (Mm.There (n * 128) (B + 16 * i + 12) 4) = true from decide_eq_true (by have := hok.there i0 i1 (k := 3) (by omega) (by omega); simpa using this), show Mm.ld b (B + 16 * i + 12) 4 = v 3 from by rw [hv]; simp [Rg.wd]] at KL3
  have hr : ∀ k, Tm.isE (v k) := fun k => by rw [hv]; exact Rg.wd_rng hb B i k
  have HV := Lib.hid (show dcC (i, v 0, v 1, wrF (v 2)) (v 2) (v 3) = dcV b B i from by rw [hv]; rfl)
  have r0 := hr 0
  have r1 := hr 1
  have r2 := hr 2
  have r0a := r0.1
  have r0b := r0.2
  have r1a := r1.1
  have r1b := r1.2
  have c0 := wrap64 (v 0) r0.1 (by omega)
  have c1 := wrap64 (v 1) r1.1 (by omega)
  have a1 := and1_b r2
  clear hv hs hb hok hr r2 r0 r1
  have b3 : Blk _ w.heap.size 24 ([.slice A n c]) := ((((Blk.new' w w.heap.size 24 ([.slice A n c]).toArray ([.slice A n c]) (by simp) rfl).alloc (.cells ([.int .u32 B, .int .u32 S]).toArray 27)).alloc (.cells (dcC (0, 0, 0, false) 0 0).toArray 73)).alloc (.cells (Wk v 0).toArray 115))
  have b4 : Blk _ (w.heap.size + 1) 27 ([.int .u32 B, .int .u32 S]) := (((Blk.new' (w.alloc (.cells ([.slice A n c]).toArray 24)) (w.heap.size + 1) 27 ([.int .u32 B, .int .u32 S]).toArray ([.int .u32 B, .int .u32 S]) (by simp) rfl).alloc (.cells (dcC (0, 0, 0, false) 0 0).toArray 73)).alloc (.cells (Wk v 0).toArray 115))
  have b6 : Blk _ (w.heap.size + 1 + 1) 73 (dcC (0, 0, 0, false) 0 0) := ((Blk.new' ((w.alloc (.cells ([.slice A n c]).toArray 24)).alloc (.cells ([.int .u32 B, .int .u32 S]).toArray 27)) (w.heap.size + 1 + 1) 73 (dcC (0, 0, 0, false) 0 0).toArray (dcC (0, 0, 0, false) 0 0) (by simp) rfl).alloc (.cells (Wk v 0).toArray 115))
  have b7 : Blk _ (w.heap.size + 1 + 1 + 1) 115 (Wk v 0) := (Blk.new' (((w.alloc (.cells ([.slice A n c]).toArray 24)).alloc (.cells ([.int .u32 B, .int .u32 S]).toArray 27)).alloc (.cells (dcC (0, 0, 0, false) 0 0).toArray 73)) (w.heap.size + 1 + 1 + 1) 115 (Wk v 0).toArray (Wk v 0) (by simp) rfl)
  have lw := ((((later1 w (.cells ([.slice A n c]).toArray 24)).alloc (by simp; try omega) (.cells ([.int .u32 B, .int .u32 S]).toArray 27)).alloc (by simp; try omega) (.cells (dcC (0, 0, 0, false) 0 0).toArray 73)).alloc (by simp; try omega) (.cells (Wk v 0).toArray 115))
  obtain ⟨u0, hu⟩ : ∃ u, ((((w.alloc (.cells ([.slice A n c]).toArray 24)).alloc (.cells ([.int .u32 B, .int .u32 S]).toArray 27)).alloc (.cells (dcC (0, 0, 0, false) 0 0).toArray 73)).alloc (.cells (Wk v 0).toArray 115)) = u := ⟨_, rfl⟩
  rw [hu] at b3 b4 b6 b7 lw
  go_enter Try.func40, Try.ntmps40
  go_upto_region 2 with fail
  have hu2 : ((((w.alloc (.cells #[.slice A n c] 24)).alloc (.cells #[.int .u32 B, .int .u32 S] 27)).alloc (.cells #[.int .i64 0, .int .i64 0, .int .i64 0, .bool false, .int .u32 0, .int .u32 0] 73)).alloc (.cells #[.int .u32 0, .int .u32 0, .int .u32 0, .int .u32 0] 115)) = u0 := hu
  try rw [hu2]
  clear hu hu2
  go_wp2
  go_loopw [9] (fun i wr => ∃ k : Nat, k ≤ 4 ∧ i = .int .i64 k ∧ Blk wr w.heap.size 24 [.slice A n c] ∧ Blk wr (w.heap.size + 1) 27 [.int .u32 B, .int .u32 S] ∧ Blk wr (w.heap.size + 1 + 1) 73 (dcC (0, 0, 0, false) 0 0) ∧ Blk wr (w.heap.size + 1 + 1 + 1) 115 (Wk v k) ∧ Later w wr) (fun i _ => 4 - (intOf i).toNat)
  case atStart => exact ⟨0, by omega, rfl, b3, b4, b6, b7, lw⟩
  case round =>
    clear b3 b4 b6 b7 lw
    rename_i wr
    obtain ⟨k, hk, rfl, b3, b4, b6, b7, lr⟩ := hrel
    rcases (show k = 0 ∨ k = 1 ∨ k = 2 ∨ k = 3 ∨ k = 4 by omega) with rfl | rfl | rfl | rfl | rfl
    · simp only [show ((0 : Nat) : Int) = 0 from rfl]
      have w0 : IntKind.i64.wrap 0 = 0 := rfl
      have w1 := wrap64 (B + 16 * i) (by omega) (by omega)
      go_upto_region 5 with fail
      replace b3 := b3.drew
      replace b4 := b4.drew
      replace b6 := b6.drew
      replace b7 := b7.drew
      replace lr := lr.drew
      refine wp_region_held_drew (S := fun w' => World.rangeAt w' w.heap.size 0 [.slice A n c] ∧ World.rangeAt w' (w.heap.size + 1) 0 [.int .u32 B, .int .u32 S]) (by kernel_rfl) ⟨b3.range 0 1, b4.range 0 2⟩ (fun hHeld => ?_)
      refine wpAnyH_take (i := 0) (oi := ⟨some 13, .move (.tmp 8), _, _, _, none⟩) (v := .int .i64 0) rfl (by kernel_rfl) (by kernel_rfl) (by kernel_rfl) (fun _ _ _ h => h) (Or.inl ⟨by rfl, fun _ _ => rfl⟩) hHeld ?_
      simp only [Act.put, List.setIfInBounds_toArray, List.set_cons_zero, List.set_cons_succ]
      refine wpAnyH_take (i := 1) (oi := ⟨some 14, .load 24 (.tmp 3), _, _, _, none⟩) (v := .agg ([.slice A n c]).toArray) rfl (by kernel_rfl) (by kernel_rfl) (by kernel_rfl) (fun _ _ _ h => h) (yieldsIf_load_mid (by rfl) _ _ rfl w.heap.size 0 rfl ([.slice A n c]) _ (fun wz hSw => hSw.1) Try.underlying24 rfl memS) hHeld ?_
      simp only [Act.put, List.setIfInBounds_toArray, List.set_cons_zero, List.set_cons_succ]
      refine wpAnyH_take (i := 2) (oi := ⟨some 15, .load 27 (.tmp 4), _, _, _, none⟩) (v := .agg ([.int .u32 B, .int .u32 S]).toArray) rfl (by kernel_rfl) (by kernel_rfl) (by kernel_rfl) (fun _ _ _ h => h) (yieldsIf_load_mid (by rfl) _ _ rfl (w.heap.size + 1) 0 rfl ([.int .u32 B, .int .u32 S]) _ (fun wz hSw => hSw.2) Try.underlying27 rfl ring_sz) hHeld ?_
      simp only [Act.put, List.setIfInBounds_toArray, List.set_cons_zero, List.set_cons_succ]
      refine wpAnyH_take (i := 3) (oi := ⟨some 16, .move (.tmp 2), _, _, _, none⟩) (v := .int .i64 i) rfl (by kernel_rfl) (by kernel_rfl) (by kernel_rfl) (fun _ _ _ h => h) (Or.inl ⟨by rfl, fun _ _ => rfl⟩) hHeld ?_
      simp only [Act.put, List.setIfInBounds_toArray, List.set_cons_zero, List.set_cons_succ]
      refine wpAnyH_take (i := 5) (oi := ⟨some 18, .move (.tmp 8), _, _, _, none⟩) (v := .int .i64 0) rfl (by kernel_rfl) (by kernel_rfl) (by kernel_rfl) (fun _ _ _ h => h) (Or.inl ⟨by rfl, fun _ _ => rfl⟩) hHeld ?_
      simp only [Act.put, List.setIfInBounds_toArray, List.set_cons_zero, List.set_cons_succ]
      refine wpAnyH_take (i := 6) (oi := ⟨some 19, .binOp .mul 3 (.tmp 18) (.const (.int .i64 4)) 3, _, _, _, none⟩) (v := .int .i64 0) rfl (by kernel_rfl) (by kernel_rfl) (by kernel_rfl) (fun _ _ _ h => h) (Or.inl ⟨by rfl, fun w _ => by go_simp⟩) hHeld ?_
      simp only [Act.put, List.setIfInBounds_toArray, List.set_cons_zero, List.set_cons_succ]
      refine wpAnyH_ready (rs := [4]) (by kernel_rfl) (by simp) (AllReadyH.cons (o := ⟨some 17, .call { callee := .value (.func 63), args := #[.tmp 15, .tmp 16], argTypes := #[27, 3] }, _, _, _, none⟩) rfl (fun K' hK => ?_) (AllReadyH.nil))
      go_simp
      (with_reducible refine (KP.out _).mono ?_)
      rintro e w1 ⟨rfl, l1⟩
      replace b3 := b3.keep l1
      replace b4 := b4.keep l1
      replace b6 := b6.keep l1
      replace b7 := b7.keep l1
      replace lr := Later.trans_ lr l1
      refine hK.out _ _ ⟨b3.range 0 1, b4.range 0 2⟩ (fun hHeld => ?_)
      clear hK K'
      try simp only [Act.put, List.setIfInBounds_toArray, List.set_cons_zero, List.set_cons_succ]
      refine wpAnyH_take (i := 7) (oi := ⟨some 20, .binOp .add 3 (.tmp 17) (.tmp 19) 3, _, _, _, none⟩) (v := .int .i64 (B + 16 * i)) rfl (by kernel_rfl) (by kernel_rfl) (by kernel_rfl) (fun _ _ _ h => h) (Or.inl ⟨by rfl, fun w _ => by go_simp⟩) hHeld ?_
      simp only [Act.put, List.setIfInBounds_toArray, List.set_cons_zero, List.set_cons_succ]
      refine wpAnyH_ready (rs := [8]) (by kernel_rfl) (by simp) (AllReadyH.cons (o := ⟨some 21, .call { callee := .value (.func 57), args := #[.tmp 14, .tmp 20, .const (.int .i64 4)], argTypes := #[24, 3, 3] }, _, _, _, none⟩) rfl (fun K' hK => ?_) (AllReadyH.nil))
      go_simp
      (with_reducible refine (KL0.out _ lr).mono ?_)
      rintro e w1 ⟨rfl, l1⟩
      replace b3 := b3.keep l1
      replace b4 := b4.keep l1
      replace b6 := b6.keep l1
      replace b7 := b7.keep l1
      replace lr := Later.trans_ lr l1
      refine hK.out _ _ ⟨b3.range 0 1, b4.range 0 2⟩ (fun hHeld => ?_)
      clear hK K'
      try simp only [Act.put, List.setIfInBounds_toArray, List.set_cons_zero, List.set_cons_succ]
      refine wpAnyH_take (i := 9) (oi := ⟨some 12, .move (.tmp 21), _, _, _, none⟩) (v := .tuple #[.int .u32 (v 0), .bool true]) rfl (by kernel_rfl) (by kernel_rfl) (by kernel_rfl) (fun _ _ _ h => h) (Or.inl ⟨by rfl, fun _ _ => rfl⟩) hHeld ?_
      simp only [Act.put, List.setIfInBounds_toArray, List.set_cons_zero, List.set_cons_succ]
      refine wpAnyH_take (i := 10) (oi := ⟨some 22, .extract (.tmp 12) 0, _, _, _, none⟩) (v := .int .u32 (v 0)) rfl (by kernel_rfl) (by kernel_rfl) (by kernel_rfl) (fun _ _ _ h => h) (Or.inl ⟨by rfl, fun w _ => by go_simp⟩) hHeld ?_
      simp only [Act.put, List.setIfInBounds_toArray, List.set_cons_zero, List.set_cons_succ]
      refine wpAnyH_take (i := 11) (oi := ⟨some 23, .extract (.tmp 12) 1, _, _, _, none⟩) (v := .bool true) rfl (by kernel_rfl) (by kernel_rfl) (by kernel_rfl) (fun _ _ _ h => h) (Or.inl ⟨by rfl, fun w _ => by go_simp⟩) hHeld ?_
      simp only [Act.put, List.setIfInBounds_toArray, List.set_cons_zero, List.set_cons_succ]
      refine wpAnyH_take (i := 12) (oi := ⟨some 24, .indexAddr 115 (.tmp 7) (.tmp 13), _, _, _, none⟩) (v := .pointer (some ⟨(w.heap.size + 1 + 1 + 1), 0, none⟩)) rfl (by kernel_rfl) (by kernel_rfl) (by kernel_rfl) (fun _ _ _ h => h) (Or.inl ⟨by rfl, fun w _ => by go_simp⟩) hHeld ?_
      simp only [Act.put, List.setIfInBounds_toArray, List.set_cons_zero, List.set_cons_succ]
      refine wpAnyH_ready (rs := [13]) (by kernel_rfl) (by simp) (AllReadyH.cons (o := ⟨none, .store 25 (.tmp 24) (.tmp 22), _, _, _, none⟩) rfl (fun K' hK => ?_) (AllReadyH.nil))
      refine wp_set1 25 _ _ rfl rfl (w.heap.size + 1 + 1 + 1) 0 115 (Wk v 0) (.int .u32 (v 0)) rfl rfl b7 u_sz (show 0 < 4 from by decide) rfl ?_
      intro w5 bq oq
      replace b3 := b3.only oq (by omega)
      replace b4 := b4.only oq (by omega)
      replace b6 := b6.only oq (by omega)
      replace lr := Below.only lr oq (by omega)
      refine hK.out _ _ ⟨b3.range 0 1, b4.range 0 2⟩ (fun hHeld => ?_)
      clear hK K'
      try simp only [Act.put]
      refine wpAnyH_done (by kernel_rfl) ?_ _
      clear hHeld
      go_wp2
      go_roundw
      case rel => exact ⟨1, by omega, by go_num, b3, b4, b6, bq, lr⟩
      case measure => simp [intOf]
    · simp only [show ((1 : Nat) : Int) = 1 from rfl]
      have w0 : IntKind.i64.wrap 4 = 4 := rfl
      have w1 := wrap64 (B + 16 * i + 4) (by omega) (by omega)
      go_upto_region 5 with fail
      replace b3 := b3.drew
      replace b4 := b4.drew
      replace b6 := b6.drew
      replace b7 := b7.drew
      replace lr := lr.drew
      refine wp_region_held_drew (S := fun w' => World.rangeAt w' w.heap.size 0 [.slice A n c] ∧ World.rangeAt w' (w.heap.size + 1) 0 [.int .u32 B, .int .u32 S]) (by kernel_rfl) ⟨b3.range 0 1, b4.range 0 2⟩ (fun hHeld => ?_)
      refine wpAnyH_take (i := 0) (oi := ⟨some 13, .move (.tmp 8), _, _, _, none⟩) (v := .int .i64 1) rfl (by kernel_rfl) (by kernel_rfl) (by kernel_rfl) (fun _ _ _ h => h) (Or.inl ⟨by rfl, fun _ _ => rfl⟩) hHeld ?_
      simp only [Act.put, List.setIfInBounds_toArray, List.set_cons_zero, List.set_cons_succ]
      refine wpAnyH_take (i := 1) (oi := ⟨some 14, .load 24 (.tmp 3), _, _, _, none⟩) (v := .agg ([.slice A n c]).toArray) rfl (by kernel_rfl) (by kernel_rfl) (by kernel_rfl) (fun _ _ _ h => h) (yieldsIf_load_mid (by rfl) _ _ rfl w.heap.size 0 rfl ([.slice A n c]) _ (fun wz hSw => hSw.1) Try.underlying24 rfl memS) hHeld ?_
      simp only [Act.put, List.setIfInBounds_toArray, List.set_cons_zero, List.set_cons_succ]
      refine wpAnyH_take (i := 2) (oi := ⟨some 15, .load 27 (.tmp 4), _, _, _, none⟩) (v := .agg ([.int .u32 B, .int .u32 S]).toArray) rfl (by kernel_rfl) (by kernel_rfl) (by kernel_rfl) (fun _ _ _ h => h) (yieldsIf_load_mid (by rfl) _ _ rfl (w.heap.size + 1) 0 rfl ([.int .u32 B, .int .u32 S]) _ (fun wz hSw => hSw.2) Try.underlying27 rfl ring_sz) hHeld ?_
      simp only [Act.put, List.setIfInBounds_toArray, List.set_cons_zero, List.set_cons_succ]
      refine wpAnyH_take (i := 3) (oi := ⟨some 16, .move (.tmp 2), _, _, _, none⟩) (v := .int .i64 i) rfl (by kernel_rfl) (by kernel_rfl) (by kernel_rfl) (fun _ _ _ h => h) (Or.inl ⟨by rfl, fun _ _ => rfl⟩) hHeld ?_
      simp only [Act.put, List.setIfInBounds_toArray, List.set_cons_zero, List.set_cons_succ]
      refine wpAnyH_take (i := 5) (oi := ⟨some 18, .move (.tmp 8), _, _, _, none⟩) (v := .int .i64 1) rfl (by kernel_rfl) (by kernel_rfl) (by kernel_rfl) (fun _ _ _ h => h) (Or.inl ⟨by rfl, fun _ _ => rfl⟩) hHeld ?_
      simp only [Act.put, List.setIfInBounds_toArray, List.set_cons_zero, List.set_cons_succ]
      refine wpAnyH_take (i := 6) (oi := ⟨some 19, .binOp .mul 3 (.tmp 18) (.const (.int .i64 4)) 3, _, _, _, none⟩) (v := .int .i64 4) rfl (by kernel_rfl) (by kernel_rfl) (by kernel_rfl) (fun _ _ _ h => h) (Or.inl ⟨by rfl, fun w _ => by go_simp⟩) hHeld ?_
      simp only [Act.put, List.setIfInBounds_toArray, List.set_cons_zero, List.set_cons_succ]
      refine wpAnyH_ready (rs := [4]) (by kernel_rfl) (by simp) (AllReadyH.cons (o := ⟨some 17, .call { callee := .value (.func 63), args := #[.tmp 15, .tmp 16], argTypes := #[27, 3] }, _, _, _, none⟩) rfl (fun K' hK => ?_) (AllReadyH.nil))
      go_simp
      (with_reducible refine (KP.out _).mono ?_)
      rintro e w1 ⟨rfl, l1⟩
      replace b3 := b3.keep l1
      replace b4 := b4.keep l1
      replace b6 := b6.keep l1
      replace b7 := b7.keep l1
      replace lr := Later.trans_ lr l1
      refine hK.out _ _ ⟨b3.range 0 1, b4.range 0 2⟩ (fun hHeld => ?_)
      clear hK K'
      try simp only [Act.put, List.setIfInBounds_toArray, List.set_cons_zero, List.set_cons_succ]
      refine wpAnyH_take (i := 7) (oi := ⟨some 20, .binOp .add 3 (.tmp 17) (.tmp 19) 3, _, _, _, none⟩) (v := .int .i64 (B + 16 * i + 4)) rfl (by kernel_rfl) (by kernel_rfl) (by kernel_rfl) (fun _ _ _ h => h) (Or.inl ⟨by rfl, fun w _ => by go_simp⟩) hHeld ?_
      simp only [Act.put, List.setIfInBounds_toArray, List.set_cons_zero, List.set_cons_succ]
      refine wpAnyH_ready (rs := [8]) (by kernel_rfl) (by simp) (AllReadyH.cons (o := ⟨some 21, .call { callee := .value (.func 57), args := #[.tmp 14, .tmp 20, .const (.int .i64 4)], argTypes := #[24, 3, 3] }, _, _, _, none⟩) rfl (fun K' hK => ?_) (AllReadyH.nil))
      go_simp
      (with_reducible refine (KL1.out _ lr).mono ?_)
      rintro e w1 ⟨rfl, l1⟩
      replace b3 := b3.keep l1
      replace b4 := b4.keep l1
      replace b6 := b6.keep l1
      replace b7 := b7.keep l1
      replace lr := Later.trans_ lr l1
      refine hK.out _ _ ⟨b3.range 0 1, b4.range 0 2⟩ (fun hHeld => ?_)
      clear hK K'
      try simp only [Act.put, List.setIfInBounds_toArray, List.set_cons_zero, List.set_cons_succ]
      refine wpAnyH_take (i := 9) (oi := ⟨some 12, .move (.tmp 21), _, _, _, none⟩) (v := .tuple #[.int .u32 (v 1), .bool true]) rfl (by kernel_rfl) (by kernel_rfl) (by kernel_rfl) (fun _ _ _ h => h) (Or.inl ⟨by rfl, fun _ _ => rfl⟩) hHeld ?_
      simp only [Act.put, List.setIfInBounds_toArray, List.set_cons_zero, List.set_cons_succ]
      refine wpAnyH_take (i := 10) (oi := ⟨some 22, .extract (.tmp 12) 0, _, _, _, none⟩) (v := .int .u32 (v 1)) rfl (by kernel_rfl) (by kernel_rfl) (by kernel_rfl) (fun _ _ _ h => h) (Or.inl ⟨by rfl, fun w _ => by go_simp⟩) hHeld ?_
      simp only [Act.put, List.setIfInBounds_toArray, List.set_cons_zero, List.set_cons_succ]
      refine wpAnyH_take (i := 11) (oi := ⟨some 23, .extract (.tmp 12) 1, _, _, _, none⟩) (v := .bool true) rfl (by kernel_rfl) (by kernel_rfl) (by kernel_rfl) (fun _ _ _ h => h) (Or.inl ⟨by rfl, fun w _ => by go_simp⟩) hHeld ?_
      simp only [Act.put, List.setIfInBounds_toArray, List.set_cons_zero, List.set_cons_succ]
      refine wpAnyH_take (i := 12) (oi := ⟨some 24, .indexAddr 115 (.tmp 7) (.tmp 13), _, _, _, none⟩) (v := .pointer (some ⟨(w.heap.size + 1 + 1 + 1), 1, none⟩)) rfl (by kernel_rfl) (by kernel_rfl) (by kernel_rfl) (fun _ _ _ h => h) (Or.inl ⟨by rfl, fun w _ => by go_simp⟩) hHeld ?_
      simp only [Act.put, List.setIfInBounds_toArray, List.set_cons_zero, List.set_cons_succ]
      refine wpAnyH_ready (rs := [13]) (by kernel_rfl) (by simp) (AllReadyH.cons (o := ⟨none, .store 25 (.tmp 24) (.tmp 22), _, _, _, none⟩) rfl (fun K' hK => ?_) (AllReadyH.nil))
      refine wp_set1 25 _ _ rfl rfl (w.heap.size + 1 + 1 + 1) 1 115 (Wk v 1) (.int .u32 (v 1)) rfl rfl b7 u_sz (show 1 < 4 from by decide) rfl ?_
      intro w5 bq oq
      replace b3 := b3.only oq (by omega)
      replace b4 := b4.only oq (by omega)
      replace b6 := b6.only oq (by omega)
      replace lr := Below.only lr oq (by omega)
      refine hK.out _ _ ⟨b3.range 0 1, b4.range 0 2⟩ (fun hHeld => ?_)
      clear hK K'
      try simp only [Act.put]
      refine wpAnyH_done (by kernel_rfl) ?_ _
      clear hHeld
      go_wp2
      go_roundw
      case rel => exact ⟨2, by omega, by go_num, b3, b4, b6, bq, lr⟩
      case measure => simp [intOf]
    · simp only [show ((2 : Nat) : Int) = 2 from rfl]
      have w0 : IntKind.i64.wrap 8 = 8 := rfl
      have w1 := wrap64 (B + 16 * i + 8) (by omega) (by omega)
      go_upto_region 5 with fail
      replace b3 := b3.drew
      replace b4 := b4.drew
      replace b6 := b6.drew
      replace b7 := b7.drew
      replace lr := lr.drew
      refine wp_region_held_drew (S := fun w' => World.rangeAt w' w.heap.size 0 [.slice A n c] ∧ World.rangeAt w' (w.heap.size + 1) 0 [.int .u32 B, .int .u32 S]) (by kernel_rfl) ⟨b3.range 0 1, b4.range 0 2⟩ (fun hHeld => ?_)
      refine wpAnyH_take (i := 0) (oi := ⟨some 13, .move (.tmp 8), _, _, _, none⟩) (v := .int .i64 2) rfl (by kernel_rfl) (by kernel_rfl) (by kernel_rfl) (fun _ _ _ h => h) (Or.inl ⟨by rfl, fun _ _ => rfl⟩) hHeld ?_
      simp only [Act.put, List.setIfInBounds_toArray, List.set_cons_zero, List.set_cons_succ]
      refine wpAnyH_take (i := 1) (oi := ⟨some 14, .load 24 (.tmp 3), _, _, _, none⟩) (v := .agg ([.slice A n c]).toArray) rfl (by kernel_rfl) (by kernel_rfl) (by kernel_rfl) (fun _ _ _ h => h) (yieldsIf_load_mid (by rfl) _ _ rfl w.heap.size 0 rfl ([.slice A n c]) _ (fun wz hSw => hSw.1) Try.underlying24 rfl memS) hHeld ?_
      simp only [Act.put, List.setIfInBounds_toArray, List.set_cons_zero, List.set_cons_succ]
      refine wpAnyH_take (i := 2) (oi := ⟨some 15, .load 27 (.tmp 4), _, _, _, none⟩) (v := .agg ([.int .u32 B, .int .u32 S]).toArray) rfl (by kernel_rfl) (by kernel_rfl) (by kernel_rfl) (fun _ _ _ h => h) (yieldsIf_load_mid (by rfl) _ _ rfl (w.heap.size + 1) 0 rfl ([.int .u32 B, .int .u32 S]) _ (fun wz hSw => hSw.2) Try.underlying27 rfl ring_sz) hHeld ?_
      simp only [Act.put, List.setIfInBounds_toArray, List.set_cons_zero, List.set_cons_succ]
      refine wpAnyH_take (i := 3) (oi := ⟨some 16, .move (.tmp 2), _, _, _, none⟩) (v := .int .i64 i) rfl (by kernel_rfl) (by kernel_rfl) (by kernel_rfl) (fun _ _ _ h => h) (Or.inl ⟨by rfl, fun _ _ => rfl⟩) hHeld ?_
      simp only [Act.put, List.setIfInBounds_toArray, List.set_cons_zero, List.set_cons_succ]
      refine wpAnyH_take (i := 5) (oi := ⟨some 18, .move (.tmp 8), _, _, _, none⟩) (v := .int .i64 2) rfl (by kernel_rfl) (by kernel_rfl) (by kernel_rfl) (fun _ _ _ h => h) (Or.inl ⟨by rfl, fun _ _ => rfl⟩) hHeld ?_
      simp only [Act.put, List.setIfInBounds_toArray, List.set_cons_zero, List.set_cons_succ]
      refine wpAnyH_take (i := 6) (oi := ⟨some 19, .binOp .mul 3 (.tmp 18) (.const (.int .i64 4)) 3, _, _, _, none⟩) (v := .int .i64 8) rfl (by kernel_rfl) (by kernel_rfl) (by kernel_rfl) (fun _ _ _ h => h) (Or.inl ⟨by rfl, fun w _ => by go_simp⟩) hHeld ?_
      simp only [Act.put, List.setIfInBounds_toArray, List.set_cons_zero, List.set_cons_succ]
      refine wpAnyH_ready (rs := [4]) (by kernel_rfl) (by simp) (AllReadyH.cons (o := ⟨some 17, .call { callee := .value (.func 63), args := #[.tmp 15, .tmp 16], argTypes := #[27, 3] }, _, _, _, none⟩) rfl (fun K' hK => ?_) (AllReadyH.nil))
      go_simp
      (with_reducible refine (KP.out _).mono ?_)
      rintro e w1 ⟨rfl, l1⟩
      replace b3 := b3.keep l1
      replace b4 := b4.keep l1
      replace b6 := b6.keep l1
      replace b7 := b7.keep l1
      replace lr := Later.trans_ lr l1
      refine hK.out _ _ ⟨b3.range 0 1, b4.range 0 2⟩ (fun hHeld => ?_)
      clear hK K'
      try simp only [Act.put, List.setIfInBounds_toArray, List.set_cons_zero, List.set_cons_succ]
      refine wpAnyH_take (i := 7) (oi := ⟨some 20, .binOp .add 3 (.tmp 17) (.tmp 19) 3, _, _, _, none⟩) (v := .int .i64 (B + 16 * i + 8)) rfl (by kernel_rfl) (by kernel_rfl) (by kernel_rfl) (fun _ _ _ h => h) (Or.inl ⟨by rfl, fun w _ => by go_simp⟩) hHeld ?_
      simp only [Act.put, List.setIfInBounds_toArray, List.set_cons_zero, List.set_cons_succ]
      refine wpAnyH_ready (rs := [8]) (by kernel_rfl) (by simp) (AllReadyH.cons (o := ⟨some 21, .call { callee := .value (.func 57), args := #[.tmp 14, .tmp 20, .const (.int .i64 4)], argTypes := #[24, 3, 3] }, _, _, _, none⟩) rfl (fun K' hK => ?_) (AllReadyH.nil))
      go_simp
      (with_reducible refine (KL2.out _ lr).mono ?_)
      rintro e w1 ⟨rfl, l1⟩
      replace b3 := b3.keep l1
      replace b4 := b4.keep l1
      replace b6 := b6.keep l1
      replace b7 := b7.keep l1
      replace lr := Later.trans_ lr l1
      refine hK.out _ _ ⟨b3.range 0 1, b4.range 0 2⟩ (fun hHeld => ?_)
      clear hK K'
      try simp only [Act.put, List.setIfInBounds_toArray, List.set_cons_zero, List.set_cons_succ]
      refine wpAnyH_take (i := 9) (oi := ⟨some 12, .move (.tmp 21), _, _, _, none⟩) (v := .tuple #[.int .u32 (v 2), .bool true]) rfl (by kernel_rfl) (by kernel_rfl) (by kernel_rfl) (fun _ _ _ h => h) (Or.inl ⟨by rfl, fun _ _ => rfl⟩) hHeld ?_
      simp only [Act.put, List.setIfInBounds_toArray, List.set_cons_zero, List.set_cons_succ]
      refine wpAnyH_take (i := 10) (oi := ⟨some 22, .extract (.tmp 12) 0, _, _, _, none⟩) (v := .int .u32 (v 2)) rfl (by kernel_rfl) (by kernel_rfl) (by kernel_rfl) (fun _ _ _ h => h) (Or.inl ⟨by rfl, fun w _ => by go_simp⟩) hHeld ?_
      simp only [Act.put, List.setIfInBounds_toArray, List.set_cons_zero, List.set_cons_succ]
      refine wpAnyH_take (i := 11) (oi := ⟨some 23, .extract (.tmp 12) 1, _, _, _, none⟩) (v := .bool true) rfl (by kernel_rfl) (by kernel_rfl) (by kernel_rfl) (fun _ _ _ h => h) (Or.inl ⟨by rfl, fun w _ => by go_simp⟩) hHeld ?_
      simp only [Act.put, List.setIfInBounds_toArray, List.set_cons_zero, List.set_cons_succ]
      refine wpAnyH_take (i := 12) (oi := ⟨some 24, .indexAddr 115 (.tmp 7) (.tmp 13), _, _, _, none⟩) (v := .pointer (some ⟨(w.heap.size + 1 + 1 + 1), 2, none⟩)) rfl (by kernel_rfl) (by kernel_rfl) (by kernel_rfl) (fun _ _ _ h => h) (Or.inl ⟨by rfl, fun w _ => by go_simp⟩) hHeld ?_
      simp only [Act.put, List.setIfInBounds_toArray, List.set_cons_zero, List.set_cons_succ]
      refine wpAnyH_ready (rs := [13]) (by kernel_rfl) (by simp) (AllReadyH.cons (o := ⟨none, .store 25 (.tmp 24) (.tmp 22), _, _, _, none⟩) rfl (fun K' hK => ?_) (AllReadyH.nil))
      refine wp_set1 25 _ _ rfl rfl (w.heap.size + 1 + 1 + 1) 2 115 (Wk v 2) (.int .u32 (v 2)) rfl rfl b7 u_sz (show 2 < 4 from by decide) rfl ?_
      intro w5 bq oq
      replace b3 := b3.only oq (by omega)
      replace b4 := b4.only oq (by omega)
      replace b6 := b6.only oq (by omega)
      replace lr := Below.only lr oq (by omega)
      refine hK.out _ _ ⟨b3.range 0 1, b4.range 0 2⟩ (fun hHeld => ?_)
      clear hK K'
      try simp only [Act.put]
      refine wpAnyH_done (by kernel_rfl) ?_ _
      clear hHeld
      go_wp2
      go_roundw
      case rel => exact ⟨3, by omega, by go_num, b3, b4, b6, bq, lr⟩
      case measure => simp [intOf]
    · simp only [show ((3 : Nat) : Int) = 3 from rfl]
      have w0 : IntKind.i64.wrap 12 = 12 := rfl
      have w1 := wrap64 (B + 16 * i + 12) (by omega) (by omega)
      go_upto_region 5 with fail
      replace b3 := b3.drew
      replace b4 := b4.drew
      replace b6 := b6.drew
      replace b7 := b7.drew
      replace lr := lr.drew
      refine wp_region_held_drew (S := fun w' => World.rangeAt w' w.heap.size 0 [.slice A n c] ∧ World.rangeAt w' (w.heap.size + 1) 0 [.int .u32 B, .int .u32 S]) (by kernel_rfl) ⟨b3.range 0 1, b4.range 0 2⟩ (fun hHeld => ?_)
      refine wpAnyH_take (i := 0) (oi := ⟨some 13, .move (.tmp 8), _, _, _, none⟩) (v := .int .i64 3) rfl (by kernel_rfl) (by kernel_rfl) (by kernel_rfl) (fun _ _ _ h => h) (Or.inl ⟨by rfl, fun _ _ => rfl⟩) hHeld ?_
      simp only [Act.put, List.setIfInBounds_toArray, List.set_cons_zero, List.set_cons_succ]
      refine wpAnyH_take (i := 1) (oi := ⟨some 14, .load 24 (.tmp 3), _, _, _, none⟩) (v := .agg ([.slice A n c]).toArray) rfl (by kernel_rfl) (by kernel_rfl) (by kernel_rfl) (fun _ _ _ h => h) (yieldsIf_load_mid (by rfl) _ _ rfl w.heap.size 0 rfl ([.slice A n c]) _ (fun wz hSw => hSw.1) Try.underlying24 rfl memS) hHeld ?_
      simp only [Act.put, List.setIfInBounds_toArray, List.set_cons_zero, List.set_cons_succ]
      refine wpAnyH_take (i := 2) (oi := ⟨some 15, .load 27 (.tmp 4), _, _, _, none⟩) (v := .agg ([.int .u32 B, .int .u32 S]).toArray) rfl (by kernel_rfl) (by kernel_rfl) (by kernel_rfl) (fun _ _ _ h => h) (yieldsIf_load_mid (by rfl) _ _ rfl (w.heap.size + 1) 0 rfl ([.int .u32 B, .int .u32 S]) _ (fun wz hSw => hSw.2) Try.underlying27 rfl ring_sz) hHeld ?_
      simp only [Act.put, List.setIfInBounds_toArray, List.set_cons_zero, List.set_cons_succ]
      refine wpAnyH_take (i := 3) (oi := ⟨some 16, .move (.tmp 2), _, _, _, none⟩) (v := .int .i64 i) rfl (by kernel_rfl) (by kernel_rfl) (by kernel_rfl) (fun _ _ _ h => h) (Or.inl ⟨by rfl, fun _ _ => rfl⟩) hHeld ?_
      simp only [Act.put, List.setIfInBounds_toArray, List.set_cons_zero, List.set_cons_succ]
      refine wpAnyH_take (i := 5) (oi := ⟨some 18, .move (.tmp 8), _, _, _, none⟩) (v := .int .i64 3) rfl (by kernel_rfl) (by kernel_rfl) (by kernel_rfl) (fun _ _ _ h => h) (Or.inl ⟨by rfl, fun _ _ => rfl⟩) hHeld ?_
      simp only [Act.put, List.setIfInBounds_toArray, List.set_cons_zero, List.set_cons_succ]
      refine wpAnyH_take (i := 6) (oi := ⟨some 19, .binOp .mul 3 (.tmp 18) (.const (.int .i64 4)) 3, _, _, _, none⟩) (v := .int .i64 12) rfl (by kernel_rfl) (by kernel_rfl) (by kernel_rfl) (fun _ _ _ h => h) (Or.inl ⟨by rfl, fun w _ => by go_simp⟩) hHeld ?_
      simp only [Act.put, List.setIfInBounds_toArray, List.set_cons_zero, List.set_cons_succ]
      refine wpAnyH_ready (rs := [4]) (by kernel_rfl) (by simp) (AllReadyH.cons (o := ⟨some 17, .call { callee := .value (.func 63), args := #[.tmp 15, .tmp 16], argTypes := #[27, 3] }, _, _, _, none⟩) rfl (fun K' hK => ?_) (AllReadyH.nil))
      go_simp
      (with_reducible refine (KP.out _).mono ?_)
      rintro e w1 ⟨rfl, l1⟩
      replace b3 := b3.keep l1
      replace b4 := b4.keep l1
      replace b6 := b6.keep l1
      replace b7 := b7.keep l1
      replace lr := Later.trans_ lr l1
      refine hK.out _ _ ⟨b3.range 0 1, b4.range 0 2⟩ (fun hHeld => ?_)
      clear hK K'
      try simp only [Act.put, List.setIfInBounds_toArray, List.set_cons_zero, List.set_cons_succ]
      refine wpAnyH_take (i := 7) (oi := ⟨some 20, .binOp .add 3 (.tmp 17) (.tmp 19) 3, _, _, _, none⟩) (v := .int .i64 (B + 16 * i + 12)) rfl (by kernel_rfl) (by kernel_rfl) (by kernel_rfl) (fun _ _ _ h => h) (Or.inl ⟨by rfl, fun w _ => by go_simp⟩) hHeld ?_
      simp only [Act.put, List.setIfInBounds_toArray, List.set_cons_zero, List.set_cons_succ]
      refine wpAnyH_ready (rs := [8]) (by kernel_rfl) (by simp) (AllReadyH.cons (o := ⟨some 21, .call { callee := .value (.func 57), args := #[.tmp 14, .tmp 20, .const (.int .i64 4)], argTypes := #[24, 3, 3] }, _, _, _, none⟩) rfl (fun K' hK => ?_) (AllReadyH.nil))
      go_simp
      (with_reducible refine (KL3.out _ lr).mono ?_)
      rintro e w1 ⟨rfl, l1⟩
      replace b3 := b3.keep l1
      replace b4 := b4.keep l1
      replace b6 := b6.keep l1
      replace b7 := b7.keep l1
      replace lr := Later.trans_ lr l1
      refine hK.out _ _ ⟨b3.range 0 1, b4.range 0 2⟩ (fun hHeld => ?_)
      clear hK K'
      try simp only [Act.put, List.setIfInBounds_toArray, List.set_cons_zero, List.set_cons_succ]
      refine wpAnyH_take (i := 9) (oi := ⟨some 12, .move (.tmp 21), _, _, _, none⟩) (v := .tuple #[.int .u32 (v 3), .bool true]) rfl (by kernel_rfl) (by kernel_rfl) (by kernel_rfl) (fun _ _ _ h => h) (Or.inl ⟨by rfl, fun _ _ => rfl⟩) hHeld ?_
      simp only [Act.put, List.setIfInBounds_toArray, List.set_cons_zero, List.set_cons_succ]
      refine wpAnyH_take (i := 10) (oi := ⟨some 22, .extract (.tmp 12) 0, _, _, _, none⟩) (v := .int .u32 (v 3)) rfl (by kernel_rfl) (by kernel_rfl) (by kernel_rfl) (fun _ _ _ h => h) (Or.inl ⟨by rfl, fun w _ => by go_simp⟩) hHeld ?_
      simp only [Act.put, List.setIfInBounds_toArray, List.set_cons_zero, List.set_cons_succ]
      refine wpAnyH_take (i := 11) (oi := ⟨some 23, .extract (.tmp 12) 1, _, _, _, none⟩) (v := .bool true) rfl (by kernel_rfl) (by kernel_rfl) (by kernel_rfl) (fun _ _ _ h => h) (Or.inl ⟨by rfl, fun w _ => by go_simp⟩) hHeld ?_
      simp only [Act.put, List.setIfInBounds_toArray, List.set_cons_zero, List.set_cons_succ]
      refine wpAnyH_take (i := 12) (oi := ⟨some 24, .indexAddr 115 (.tmp 7) (.tmp 13), _, _, _, none⟩) (v := .pointer (some ⟨(w.heap.size + 1 + 1 + 1), 3, none⟩)) rfl (by kernel_rfl) (by kernel_rfl) (by kernel_rfl) (fun _ _ _ h => h) (Or.inl ⟨by rfl, fun w _ => by go_simp⟩) hHeld ?_
      simp only [Act.put, List.setIfInBounds_toArray, List.set_cons_zero, List.set_cons_succ]
      refine wpAnyH_ready (rs := [13]) (by kernel_rfl) (by simp) (AllReadyH.cons (o := ⟨none, .store 25 (.tmp 24) (.tmp 22), _, _, _, none⟩) rfl (fun K' hK => ?_) (AllReadyH.nil))
      refine wp_set1 25 _ _ rfl rfl (w.heap.size + 1 + 1 + 1) 3 115 (Wk v 3) (.int .u32 (v 3)) rfl rfl b7 u_sz (show 3 < 4 from by decide) rfl ?_
      intro w5 bq oq
      replace b3 := b3.only oq (by omega)
      replace b4 := b4.only oq (by omega)
      replace b6 := b6.only oq (by omega)
      replace lr := Below.only lr oq (by omega)
      refine hK.out _ _ ⟨b3.range 0 1, b4.range 0 2⟩ (fun hHeld => ?_)
      clear hK K'
      try simp only [Act.put]
      refine wpAnyH_done (by kernel_rfl) ?_ _
      clear hHeld
      go_wp2
      go_roundw
      case rel => exact ⟨4, by omega, by go_num, b3, b4, b6, bq, lr⟩
      case measure => simp [intOf]
    · simp only [show ((4 : Nat) : Int) = 4 from rfl]
      have e0 := b7.cell (j := 0) (v := .int .u32 (v 0)) rfl
      have e1 := b7.cell (j := 1) (v := .int .u32 (v 1)) rfl
      have e2 := b7.cell (j := 2) (v := .int .u32 (v 2)) rfl
      have e3 := b7.cell (j := 3) (v := .int .u32 (v 3)) rfl
      go_wp2_with (first
    | ((with_reducible refine wpList_bld (o := ⟨some 37, .build 59 #[(0, .tmp 26), (1, .tmp 29), (2, .tmp 32), (3, .tmp 36)], _, _, _, none⟩) rfl _ #[(0, .tmp 26), (1, .tmp 29), (2, .tmp 32), (3, .tmp 36)] #[(0, .int .i64 i), (1, .int .i64 (v 0)), (2, .int .i64 (v 1)), (3, .bool (wrF (v 2)))] (Pc (i, v 0, v 1, wrF (v 2))).toArray rfl ?_ (run_pt _ _ _ _ _) ?_); rfl)
    | ((with_reducible refine wpList_bld (o := ⟨some 42, .build 73 #[(0, .tmp 37), (1, .tmp 39), (2, .tmp 41)], _, _, _, none⟩) rfl _ #[(0, .tmp 37), (1, .tmp 39), (2, .tmp 41)] #[(0, .agg (Pc (i, v 0, v 1, wrF (v 2))).toArray), (1, .int .u32 (v 2)), (2, .int .u32 (v 3))] (dcC (i, v 0, v 1, wrF (v 2)) (v 2) (v 3)).toArray rfl ?_ (run_dc _ _ _ _) ?_); rfl)
    | ((with_reducible refine wpList_store_abs (o := ⟨none, .store 73 (.tmp 6) (.tmp 42), _, _, _, none⟩) rfl _ _ _ rfl (w.heap.size + 1 + 1) 73 (dcC (0, 0, 0, false) 0 0) (dcC (i, v 0, v 1, wrF (v 2)) (v 2) (v 3)) ?_ ?_ ?_ ?_ ?_ ?_ ?_); rfl; rfl; exact b6; exact (dc_sz _ _ _); rfl; exact (dc_one _ _ _); intro w9 b9 o9))
      rw [HV.out] at b9
      exact bodyPost_ret (results_blk Try.results40 _ _ (w.heap.size + 1 + 1) 73 _ _ rfl b9 Try.underlying73 rfl (dc_sz _ _ _)) rfl ⟨rfl, Below.only lr o9 (by omega)⟩
end Go.Proofs.Ytffgbbfcbobecaa
