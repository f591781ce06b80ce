/-
  THE STATEMENT MemoryDiffs: Diff is the same in both orders, ascending, and has nothing exactly if both have the same bytes; after a store it has at most the page of the place; for every two memories and a store.
-/
import Derived.Test.YtaihfkcoiagdaaaMemN
namespace Go.Proofs.Ytaihfkcoiagdaaa
open Go.RowKit Go.ChangeShapes Go.WideShapes Go.ChangeAt

set_option maxRecDepth 100000 in
set_option maxHeartbeats 1000000 in
theorem diffs_bad1 (A : Option Addr) (na ca : Nat) (B : Option Addr) (nb cb : Nat) (a s v : Int) (w : World) (h : ¬ (1 ≤ na ∧ na ≤ 64)) :
    Calls Try.prog 8 #[.agg #[.slice A na ca], .agg #[.slice B nb cb], .agg #[.int .i64 a, .int .i64 s, .int .u32 v]] w fun e w' => e = .returned (.bool true) ∧ Later w w' := by
  have HN := Lib.hid fun w' => sanity_any w'
  have HA := Lib.hid fun w' => rvalid_any A na ca w'
  rw [decide_eq_false h] at HA
  clear h
  have b3 := ((Blk.new w 24 #[.slice A na ca] [.slice A na ca] rfl).alloc (.cells #[.slice B nb cb] 24)).alloc (.cells #[.int .i64 a, .int .i64 s, .int .u32 v] 27)
  have b4 := (Blk.new' (w.alloc (.cells #[.slice A na ca] 24)) (w.heap.size + 1) 24 #[.slice B nb cb] [.slice B nb cb] (by simp) rfl).alloc (.cells #[.int .i64 a, .int .i64 s, .int .u32 v] 27)
  have b5 := Blk.new' ((w.alloc (.cells #[.slice A na ca] 24)).alloc (.cells #[.slice B nb cb] 24)) (w.heap.size + 1 + 1) 27 #[.int .i64 a, .int .i64 s, .int .u32 v] [.int .i64 a, .int .i64 s, .int .u32 v] (by simp) rfl
  have lw : Later w (((w.alloc (.cells #[.slice A na ca] 24)).alloc (.cells #[.slice B nb cb] 24)).alloc (.cells #[.int .i64 a, .int .i64 s, .int .u32 v] 27)) := ((later1 w _).alloc (by simp) _).alloc (by simp; omega) _
  go_enter Try.func8, Try.ntmps8
  go_wp2_with (first
    | (go_at_call 11; (with_reducible refine (HA.out _).mono ?_); rintro e w1 ⟨rfl, l1⟩; replace lw := Later.trans_ lw l1)
    | (go_at_call 9; refine (HN.out _).mono ?_; rintro e w2 ⟨rfl, l2⟩))
  go_ret
  exact ⟨rfl, Later.trans_ lw l2⟩
set_option maxRecDepth 100000 in
set_option maxHeartbeats 1000000 in
theorem diffs_bad2 (A : Option Addr) (na ca : Nat) (B : Option Addr) (nb cb : Nat) (a s v : Int) (w : World) (h1 : 1 ≤ na ∧ na ≤ 64) (h : ¬ (1 ≤ nb ∧ nb ≤ 64)) :
    Calls Try.prog 8 #[.agg #[.slice A na ca], .agg #[.slice B nb cb], .agg #[.int .i64 a, .int .i64 s, .int .u32 v]] w fun e w' => e = .returned (.bool true) ∧ Later w w' := by
  have HN := Lib.hid fun w' => sanity_any w'
  have HA := Lib.hid fun w' => rvalid_any A na ca w'
  have HB := Lib.hid fun w' => rvalid_any B nb cb w'
  rw [decide_eq_true h1] at HA
  rw [decide_eq_false h] at HB
  clear h h1
  have b3 := ((Blk.new w 24 #[.slice A na ca] [.slice A na ca] rfl).alloc (.cells #[.slice B nb cb] 24)).alloc (.cells #[.int .i64 a, .int .i64 s, .int .u32 v] 27)
  have b4 := (Blk.new' (w.alloc (.cells #[.slice A na ca] 24)) (w.heap.size + 1) 24 #[.slice B nb cb] [.slice B nb cb] (by simp) rfl).alloc (.cells #[.int .i64 a, .int .i64 s, .int .u32 v] 27)
  have b5 := Blk.new' ((w.alloc (.cells #[.slice A na ca] 24)).alloc (.cells #[.slice B nb cb] 24)) (w.heap.size + 1 + 1) 27 #[.int .i64 a, .int .i64 s, .int .u32 v] [.int .i64 a, .int .i64 s, .int .u32 v] (by simp) rfl
  have lw : Later w (((w.alloc (.cells #[.slice A na ca] 24)).alloc (.cells #[.slice B nb cb] 24)).alloc (.cells #[.int .i64 a, .int .i64 s, .int .u32 v] 27)) := ((later1 w _).alloc (by simp) _).alloc (by simp; omega) _
  go_enter Try.func8, Try.ntmps8
  go_wp2_with (first
    | (go_at_call 11; (with_reducible refine (HB.out w1).mono ?_); rintro e w2 ⟨rfl, l2⟩; replace lw := Later.trans_ lw l2)
    | (go_at_call 11; (with_reducible refine (HA.out _).mono ?_); rintro e w1 ⟨rfl, l1⟩; replace b4 := b4.keep l1; have c4 := b4.cell (j := 0) (v := .slice B nb cb) rfl; replace lw := Later.trans_ lw l1)
    | (go_at_call 9; refine (HN.out _).mono ?_; rintro e w3 ⟨rfl, l3⟩))
  go_ret
  exact ⟨rfl, Later.trans_ lw l3⟩
theorem asc_at {D : List Nat} (h : D.Pairwise (· < ·)) {j : Nat} (hj : j + 1 < D.length) : D.getD j 0 < D.getD (j + 1) 0 := by
  rw [List.getD_eq_getElem?_getD, List.getD_eq_getElem?_getD, List.getElem?_eq_getElem (by omega), List.getElem?_eq_getElem hj]
  exact List.pairwise_iff_getElem.1 h j (j + 1) (by omega) hj (by omega)
theorem str_inj {x y : Wm.Bs} (hx : Wm.isBs x) (hy : Wm.isBs y) : strOfNums x = strOfNums y ↔ x = y :=
  ⟨fun h => by rw [← Wm.ofS_str hx, h, Wm.ofS_str hy], fun h => by rw [h]⟩
theorem toList_eqb (x y : ByteArray) : (x.toList == y.toList) = decide (x = y) := by
  by_cases h : x = y
  · subst h; simp
  · rw [decide_eq_false h, beq_eq_false_iff_ne]
    intro e
    apply h
    rw [ByteArray.toList_eq, ByteArray.toList_eq] at e
    exact ByteArray.ext (Array.toList_inj.1 e)
theorem rd_all {b : Wm.Bs} {n : Nat} (h : b.length = n * 128) : Mm.rd b 0 ((n * 128 : Nat) : Int) = b := by
  unfold Mm.rd
  rw [if_pos (by unfold Mm.Inside; omega), Int.toNat_natCast, ← h]
  simp

set_option maxRecDepth 100000 in
set_option maxHeartbeats 8000000 in
theorem diffs_zero (A : Option Addr) (na ca : Nat) (B : Option Addr) (nb cb : Nat) (a s v : Int) (ab bb : Wm.Bs) (w : World) (hsa : Sl w 128 A na (U ab)) (hsb : Sl w 128 B nb (U bb)) (hba : Wm.isBs ab) (hbb : Wm.isBs bb) (h1 : 1 ≤ na ∧ na ≤ 64) (h2 : 1 ≤ nb ∧ nb ≤ 64) (hw : isW (a, s, v)) (hF : Mm.diff ab (Mm.st ab a s v) na na = []) :
    Calls Try.prog 8 #[.agg #[.slice A na ca], .agg #[.slice B nb cb], .agg #[.int .i64 a, .int .i64 s, .int .u32 v]] w fun e w' => e = .returned (.bool true) ∧ Later w w' := by
  have hla : ab.length = na * 128 := by have := hsa.1; rwa [U_length] at this
  have hlb : bb.length = nb * 128 := by have := hsb.1; rwa [U_length] at this
  have HN := Lib.hid fun w' => sanity_any w'
  have HA := Lib.hid fun w' => rvalid_any A na ca w'
  have HB := Lib.hid fun w' => rvalid_any B nb cb w'
  rw [decide_eq_true h1] at HA
  rw [decide_eq_true h2] at HB
  have KD1 := Lib.hid fun w' (hl : Later w w') => diff_any A na ca B nb cb ab bb w' (hsa.keep hl) (hsb.keep hl) h1.2 h2.2
  have KD2 := Lib.hid fun w' (hl : Later w w') => diff_any B nb cb A na ca bb ab w' (hsb.keep hl) (hsa.keep hl) h2.2 h1.2
  rw [Mm.diff_comm bb ab] at KD2
  have KD4 := Lib.hid fun w' (hl : Later w w') => diff_any A na ca A na ca ab ab w' (hsa.keep hl) (hsa.keep hl) h1.2 h1.2
  rw [(Mm.diff_nil hla hla).2 rfl] at KD4
  have KAZ := Lib.hid fun w' => size_any A na ca w' h1.2
  have KBZ := Lib.hid fun w' => size_any B nb cb w' h2.2
  have KAR := Lib.hid fun w' (hl : Later w w') => read_any A na ca 0 ((na * 128 : Nat) : Int) ab w' (hsa.keep hl) h1.1 h1.2 (by omega)
  have KBR := Lib.hid fun w' (hl : Later w w') => read_any B nb cb 0 ((nb * 128 : Nat) : Int) bb w' (hsb.keep hl) h2.1 h2.2 (by omega)
  rw [rd_all hla, decide_eq_true (show Mm.Inside (na * 128) 0 ((na * 128 : Nat) : Int) by unfold Mm.Inside; omega)] at KAR
  rw [rd_all hlb, decide_eq_true (show Mm.Inside (nb * 128) 0 ((nb * 128 : Nat) : Int) by unfold Mm.Inside; omega)] at KBR
  have KS := Lib.hid fun w' (hl : Later w w') => pstore_any A na ca a s v ab w' (hsa.keep hl) hba h1.1 h1.2 hw
  have KD3 := Lib.hid fun g c' w' (hl : Later w w') (hd : Draft w' g na (Mm.st ab a s v)) => diff_any A na ca (some ⟨g, 0, none⟩) na c' ab (Mm.st ab a s v) w' (hsa.keep hl) hd.sl h1.2 h1.2
  obtain ⟨D, hD⟩ : ∃ D, D = Mm.diff ab bb na nb := ⟨_, rfl⟩
  have hD64 : D.length ≤ 64 := by
    rw [hD]
    have := Mm.diffTo_len ab bb na nb (max na nb)
    exact Nat.le_trans this (by omega)
  have HDL64 := Lib.hid hD64
  have HASC := Lib.hid fun (j : Nat) (hj : j + 1 < D.length) => asc_at (by rw [hD]; exact Mm.diff_asc _ _ _ _) hj
  obtain ⟨S1, hS1⟩ : ∃ S, S = strOfNums ab := ⟨_, rfl⟩
  obtain ⟨S2, hS2⟩ : ∃ S, S = strOfNums bb := ⟨_, rfl⟩
  have HE := Lib.hid (show (((D.length : Int) == 0) == (S1.toList == S2.toList)) = true by
    rw [nil_iff, toList_eqb, beq_iff_eq, hS1, hS2, decide_eq_decide, str_inj hba hbb, hD]
    exact Mm.diff_nil hla hlb)
  have KI := Lib.hid fun AD cD AE cE w' (h : Sl w' 1 AD D.length (Ni D)) (k : Sl w' 1 AE D.length (Ni D)) => sameInts_any AD D.length cD AE D.length cE D D w' rfl rfl h k (by omega) (by omega)
  rw [decide_eq_true (rfl : D = D)] at KI
  rw [← hD] at KD1 KD2
  rw [← hS1] at KAR
  rw [← hS2] at KBR
  obtain ⟨La, hLa⟩ : ∃ L, L = na * 128 := ⟨_, rfl⟩
  obtain ⟨Lb, hLb⟩ : ∃ L, L = nb * 128 := ⟨_, rfl⟩
  rw [← hLa] at KAZ KAR KS
  rw [← hLb] at KBZ KBR
  rw [hF] at KD3
  obtain ⟨M, hM⟩ : ∃ M, M = Mm.st ab a s v := ⟨_, rfl⟩
  rw [← hM] at KS KD3
  obtain ⟨p, hp⟩ : ∃ p, p = decide (Mm.There La a s) := ⟨_, rfl⟩
  rw [← hp] at KS
  have b3 := ((Blk.new w 24 #[.slice A na ca] [.slice A na ca] rfl).alloc (.cells #[.slice B nb cb] 24)).alloc (.cells #[.int .i64 a, .int .i64 s, .int .u32 v] 27)
  have b4 := (Blk.new' (w.alloc (.cells #[.slice A na ca] 24)) (w.heap.size + 1) 24 #[.slice B nb cb] [.slice B nb cb] (by simp) rfl).alloc (.cells #[.int .i64 a, .int .i64 s, .int .u32 v] 27)
  have b5 := Blk.new' ((w.alloc (.cells #[.slice A na ca] 24)).alloc (.cells #[.slice B nb cb] 24)) (w.heap.size + 1 + 1) 27 #[.int .i64 a, .int .i64 s, .int .u32 v] [.int .i64 a, .int .i64 s, .int .u32 v] (by simp) rfl
  have lw : Later w (((w.alloc (.cells #[.slice A na ca] 24)).alloc (.cells #[.slice B nb cb] 24)).alloc (.cells #[.int .i64 a, .int .i64 s, .int .u32 v] 27)) := ((later1 w _).alloc (by simp) _).alloc (by simp; omega) _
  clear hF hM hp hLa hLb hD hD64 hS1 hS2 hsa hsb hba hbb h1 h2 hw hla hlb
  go_enter Try.func8, Try.ntmps8
  go_wp2_with (first
    | (go_at_call 11; (with_reducible refine (HB.out w1).mono ?_); rintro e w2 ⟨rfl, l2⟩; replace b3 := b3.keep l2; replace b4 := b4.keep l2; replace b5 := b5.keep l2; replace lw := Later.trans_ lw l2; clear c3 c4; have c3 := b3.cell (j := 0) (v := .slice A na ca) rfl; have c4 := b4.cell (j := 0) (v := .slice B nb cb) rfl)
    | (go_at_call 11; (with_reducible refine (HA.out _).mono ?_); rintro e w1 ⟨rfl, l1⟩; replace b3 := b3.keep l1; replace b4 := b4.keep l1; replace b5 := b5.keep l1; have c3 := b3.cell (j := 0) (v := .slice A na ca) rfl; have c4 := b4.cell (j := 0) (v := .slice B nb cb) rfl; replace lw := Later.trans_ lw l1)
    | (go_at_call 28; (with_reducible refine (KD2.out _ lw).mono ?_); rintro e w4 ⟨AE, cE, rfl, _, _, sE, l4⟩; replace b3 := b3.keep l4; replace b4 := b4.keep l4; replace b5 := b5.keep l4; replace sD := sD.keep l4; replace lw := Later.trans_ lw l4; clear c3 c4; have c3 := b3.cell (j := 0) (v := .slice A na ca) rfl; have c4 := b4.cell (j := 0) (v := .slice B nb cb) rfl)
    | (go_at_call 28; (with_reducible refine (KD1.out _ lw).mono ?_); rintro e w3 ⟨AD, cD, rfl, _, _, sD, l3⟩; replace b3 := b3.keep l3; replace b4 := b4.keep l3; replace b5 := b5.keep l3; replace lw := Later.trans_ lw l3; clear c3 c4; have c3 := b3.cell (j := 0) (v := .slice A na ca) rfl; have c4 := b4.cell (j := 0) (v := .slice B nb cb) rfl)
    | (go_at_call 27; refine (KI.out AD cD AE cE _ sD sE).mono ?_; rintro e w5 ⟨rfl, l5⟩; replace b3 := b3.keep l5; replace b4 := b4.keep l5; replace b5 := b5.keep l5; replace sD := sD.keep l5; replace lw := Later.trans_ lw l5; clear c3 c4; have c3 := b3.cell (j := 0) (v := .slice A na ca) rfl; have c4 := b4.cell (j := 0) (v := .slice B nb cb) rfl; clear sE))
  clear c3 c4
  go_loopw [8] (fun ii wr => ∃ i : Nat, 1 ≤ i ∧ i ≤ 64 + 1 ∧ ii = .int .i64 (i : Int) ∧ Later w5 wr) (fun ii _ => 70 - (intOf ii).toNat)
  case atStart => exact ⟨1, by omega, by omega, rfl, later0 _⟩
  case round =>
    rename_i wr
    obtain ⟨i, hi1, hi, rfl, lr⟩ := hrel
    by_cases hjl : i < D.length
    · have hasc := HASC.out (i - 1) (by omega)
      rw [show i - 1 + 1 = i by omega] at hasc
      obtain ⟨add, u1, rfl, _, hu1, hyc⟩ := (sD.keep lr).drew.at1 (show i - 1 < D.length by omega)
      obtain ⟨_, u2, e2, _, hu2, hxc⟩ := (sD.keep lr).drew.at1 hjl
      cases e2
      rw [Ni_get D (i - 1) (by omega)] at hu1
      rw [Ni_get D i hjl] at hu2
      obtain ⟨y, hy⟩ : ∃ y, y = D.getD (i - 1) 0 := ⟨_, rfl⟩
      obtain ⟨x, hx⟩ : ∃ x, x = D.getD i 0 := ⟨_, rfl⟩
      rw [← hy] at hasc hu1
      rw [← hx] at hasc hu2
      cases hu1
      cases hu2
      have nxy : ¬ (x : Int) ≤ (y : Int) := by omega
      obtain ⟨dl, hdl⟩ : ∃ dl, dl = D.length := ⟨_, rfl⟩
      have hD64 := HDL64.out
      rw [← hdl] at hjl hD64 ⊢
      have jl : (i : Int) < (dl : Int) := by omega
      have jl2 : (i : Int) - 1 < (dl : Int) := by omega
      have j0 : (0 : Int) ≤ (i : Int) - 1 := by omega
      have wi : IntKind.i64.wrap ((i : Int) - 1) = (i : Int) - 1 := by rw [IntKind.wrap_i64]; omega
      have ti : ((i : Int) - 1).toNat = i - 1 := by omega
      have ni1 : ¬ (i : Int) < 1 := by omega
      clear hx hy hdl
      go_wp2
      refine wp_region_held_drew (S := fun w' => w'.cell? (add.add (i - 1)) = some (.int .i64 (y : Int)) ∧ w'.cell? (add.add i) = some (.int .i64 (x : Int))) (by kernel_rfl) ⟨hyc, hxc⟩ (fun hHeld => ?_)
      refine wpAnyH_take (i := 0) (oi := ⟨some 41, .move (.tmp 7), _, _, _, none⟩) (v := .slice (some add) dl cD) rfl (by kernel_rfl) (by kernel_rfl) (by kernel_rfl) (fun _ _ _ h => h) (Or.inl ⟨by rfl, fun _ _ => rfl⟩) hHeld ?_
      simp only [Act.put, List.setIfInBounds_toArray, List.set_cons_zero, List.set_cons_succ]
      refine wpAnyH_take (i := 1) (oi := ⟨some 42, .move (.tmp 8), _, _, _, none⟩) (v := .int .i64 (i : Int)) rfl (by kernel_rfl) (by kernel_rfl) (by kernel_rfl) (fun _ _ _ h => h) (Or.inl ⟨by rfl, fun _ _ => rfl⟩) hHeld ?_
      simp only [Act.put, List.setIfInBounds_toArray, List.set_cons_zero, List.set_cons_succ]
      refine wpAnyH_take (i := 2) (oi := ⟨some 43, .indexAddr 60 (.tmp 41) (.tmp 42), _, _, _, none⟩) (v := .pointer (some (add.add i))) rfl (by kernel_rfl) (by kernel_rfl) (by kernel_rfl) (fun _ _ _ h => h) (Or.inl ⟨by rfl, fun w _ => by go_simp⟩) hHeld ?_
      simp only [Act.put, List.setIfInBounds_toArray, List.set_cons_zero, List.set_cons_succ]
      refine wpAnyH_take (i := 3) (oi := ⟨some 44, .load 3 (.tmp 43), _, _, _, none⟩) (v := .int .i64 (x : Int)) rfl (by kernel_rfl) (by kernel_rfl) (by kernel_rfl) (fun _ _ _ h => h) (Or.inl ⟨by rfl, fun w hSw => by have e1 := hSw.2; clear hSw; go_simp⟩) hHeld ?_
      simp only [Act.put, List.setIfInBounds_toArray, List.set_cons_zero, List.set_cons_succ]
      refine wpAnyH_take (i := 4) (oi := ⟨some 45, .move (.tmp 7), _, _, _, none⟩) (v := .slice (some add) dl cD) rfl (by kernel_rfl) (by kernel_rfl) (by kernel_rfl) (fun _ _ _ h => h) (Or.inl ⟨by rfl, fun _ _ => rfl⟩) hHeld ?_
      simp only [Act.put, List.setIfInBounds_toArray, List.set_cons_zero, List.set_cons_succ]
      refine wpAnyH_take (i := 5) (oi := ⟨some 46, .move (.tmp 8), _, _, _, none⟩) (v := .int .i64 (i : Int)) rfl (by kernel_rfl) (by kernel_rfl) (by kernel_rfl) (fun _ _ _ h => h) (Or.inl ⟨by rfl, fun _ _ => rfl⟩) hHeld ?_
      simp only [Act.put, List.setIfInBounds_toArray, List.set_cons_zero, List.set_cons_succ]
      refine wpAnyH_take (i := 6) (oi := ⟨some 47, .binOp .sub 3 (.tmp 46) (.const (.int .i64 1)) 3, _, _, _, none⟩) (v := .int .i64 ((i : Int) - 1)) rfl (by kernel_rfl) (by kernel_rfl) (by kernel_rfl) (fun _ _ _ h => h) (Or.inl ⟨by rfl, fun w _ => by go_simp⟩) hHeld ?_
      simp only [Act.put, List.setIfInBounds_toArray, List.set_cons_zero, List.set_cons_succ]
      refine wpAnyH_take (i := 7) (oi := ⟨some 48, .indexAddr 60 (.tmp 45) (.tmp 47), _, _, _, none⟩) (v := .pointer (some (add.add (i - 1)))) rfl (by kernel_rfl) (by kernel_rfl) (by kernel_rfl) (fun _ _ _ h => h) (Or.inl ⟨by rfl, fun w _ => by go_simp⟩) hHeld ?_
      simp only [Act.put, List.setIfInBounds_toArray, List.set_cons_zero, List.set_cons_succ]
      refine wpAnyH_take (i := 8) (oi := ⟨some 49, .load 3 (.tmp 48), _, _, _, none⟩) (v := .int .i64 (y : Int)) rfl (by kernel_rfl) (by kernel_rfl) (by kernel_rfl) (fun _ _ _ h => h) (Or.inl ⟨by rfl, fun w hSw => by have e1 := hSw.1; clear hSw; go_simp⟩) hHeld ?_
      simp only [Act.put, List.setIfInBounds_toArray, List.set_cons_zero, List.set_cons_succ]
      refine wpAnyH_take (i := 9) (oi := ⟨some 50, .binOp .leq 3 (.tmp 44) (.tmp 49) 3, _, _, _, none⟩) (v := .bool false) rfl (by kernel_rfl) (by kernel_rfl) (by kernel_rfl) (fun _ _ _ h => h) (Or.inl ⟨by rfl, fun w _ => by go_simp⟩) hHeld ?_
      simp only [Act.put, List.setIfInBounds_toArray, List.set_cons_zero, List.set_cons_succ]
      refine wpAnyH_done (by kernel_rfl) ?_ _
      clear hHeld
      clear wi ti ni1
      go_wp2
      go_roundw
      case rel => exact ⟨i + 1, by omega, by omega, by go_num, lr.drew⟩
      case measure => simp [intOf]; omega
    · have njl : ¬ (i : Int) < (D.length : Int) := by omega
      go_wp2
      replace b3 := (b3.keep lr).drew; replace b4 := (b4.keep lr).drew; replace b5 := (b5.keep lr).drew; replace sD := (sD.keep lr).drew; replace lw := (Later.trans_ lw lr).drew
      refine wp_region_held_drew (S := fun w' => w'.cell? ⟨w.heap.size, 0, none⟩ = some (.slice A na ca)) (by kernel_rfl) (b3.cell rfl) (fun hHeld => ?_)
      refine wpAnyH_take (i := 0) (oi := ⟨some 52, .load 24 (.tmp 3), _, _, _, none⟩) (v := .agg #[.slice A na ca]) rfl (by kernel_rfl) (by kernel_rfl) (by kernel_rfl) (fun _ _ _ h => h) (yieldsIf_load_mid (by rfl) _ _ rfl _ _ rfl _ _ (fun w h => range1 h) Try.underlying24 rfl mem_sz) hHeld ?_
      simp only [Act.put, List.setIfInBounds_toArray, List.set_cons_zero, List.set_cons_succ]
      refine wpAnyH_take (i := 1) (oi := ⟨some 53, .load 24 (.tmp 3), _, _, _, none⟩) (v := .agg #[.slice A na ca]) rfl (by kernel_rfl) (by kernel_rfl) (by kernel_rfl) (fun _ _ _ h => h) (yieldsIf_load_mid (by rfl) _ _ rfl _ _ rfl _ _ (fun w h => range1 h) Try.underlying24 rfl mem_sz) hHeld ?_
      simp only [Act.put, List.setIfInBounds_toArray, List.set_cons_zero, List.set_cons_succ]
      refine wpAnyH_ready (rs := [2]) (by kernel_rfl) (by simp) (AllReadyH.cons (o := ⟨some 54, .call { callee := .value (.func 16), args := #[.tmp 53], argTypes := #[24] }, _, _, _, none⟩) rfl (fun K' hK => ?_) (AllReadyH.nil))
      go_simp
      refine (KAZ.out _).mono ?_
      rintro e x1 ⟨rfl, k1⟩
      replace b3 := b3.keep k1
      replace b4 := b4.keep k1
      replace b5 := b5.keep k1
      replace sD := sD.keep k1
      replace lw := Later.trans_ lw k1
      refine hK.out _ _ (b3.cell rfl) (fun hHeld => ?_)
      clear hK K'
      try simp only [Act.put, List.setIfInBounds_toArray, List.set_cons_zero, List.set_cons_succ]
      refine wpAnyH_ready (rs := [3]) (by kernel_rfl) (by simp) (AllReadyH.cons (o := ⟨some 55, .call { callee := .value (.func 20), args := #[.tmp 52, .const (.int .i64 0), .tmp 54], argTypes := #[24, 3, 3] }, _, _, _, none⟩) rfl (fun K' hK => ?_) (AllReadyH.nil))
      go_simp
      refine (KAR.out _ lw).mono ?_
      rintro e x2 ⟨rfl, k2⟩
      replace b3 := b3.keep k2
      replace b4 := b4.keep k2
      replace b5 := b5.keep k2
      replace sD := sD.keep k2
      replace lw := Later.trans_ lw k2
      refine hK.out _ _ (b3.cell rfl) (fun hHeld => ?_)
      clear hK K'
      try simp only [Act.put, List.setIfInBounds_toArray, List.set_cons_zero, List.set_cons_succ]
      refine wpAnyH_take (i := 4) (oi := ⟨some 51, .move (.tmp 55), _, _, _, none⟩) (v := .tuple #[.string S1, .bool true]) rfl (by kernel_rfl) (by kernel_rfl) (by kernel_rfl) (fun _ _ _ h => h) (Or.inl ⟨by rfl, fun _ _ => rfl⟩) hHeld ?_
      simp only [Act.put, List.setIfInBounds_toArray, List.set_cons_zero, List.set_cons_succ]
      refine wpAnyH_take (i := 5) (oi := ⟨some 56, .extract (.tmp 51) 0, _, _, _, none⟩) (v := .string S1) rfl (by kernel_rfl) (by kernel_rfl) (by kernel_rfl) (fun _ _ _ h => h) (Or.inl ⟨by rfl, fun w _ => by go_simp⟩) hHeld ?_
      simp only [Act.put, List.setIfInBounds_toArray, List.set_cons_zero, List.set_cons_succ]
      refine wpAnyH_take (i := 6) (oi := ⟨some 57, .extract (.tmp 51) 1, _, _, _, none⟩) (v := .bool true) rfl (by kernel_rfl) (by kernel_rfl) (by kernel_rfl) (fun _ _ _ h => h) (Or.inl ⟨by rfl, fun w _ => by go_simp⟩) hHeld ?_
      simp only [Act.put, List.setIfInBounds_toArray, List.set_cons_zero, List.set_cons_succ]
      refine wpAnyH_take (i := 7) (oi := ⟨some 9, .assign (.tmp 56), _, _, _, none⟩) (v := .string S1) rfl (by kernel_rfl) (by kernel_rfl) (by kernel_rfl) (fun _ _ _ h => h) (Or.inl ⟨by rfl, fun _ _ => rfl⟩) hHeld ?_
      simp only [Act.put, List.setIfInBounds_toArray, List.set_cons_zero, List.set_cons_succ]
      refine wpAnyH_take (i := 8) (oi := ⟨some 10, .assign (.tmp 57), _, _, _, none⟩) (v := .bool true) rfl (by kernel_rfl) (by kernel_rfl) (by kernel_rfl) (fun _ _ _ h => h) (Or.inl ⟨by rfl, fun _ _ => rfl⟩) hHeld ?_
      simp only [Act.put, List.setIfInBounds_toArray, List.set_cons_zero, List.set_cons_succ]
      refine wpAnyH_done (by kernel_rfl) ?_ _
      clear hHeld
      go_wp2
      replace b3 := b3.drew; replace b4 := b4.drew; replace b5 := b5.drew; replace sD := sD.drew; replace lw := lw.drew
      refine wp_region_held_drew (S := fun w' => w'.cell? ⟨w.heap.size + 1, 0, none⟩ = some (.slice B nb cb)) (by kernel_rfl) (b4.cell rfl) (fun hHeld => ?_)
      refine wpAnyH_take (i := 0) (oi := ⟨some 59, .load 24 (.tmp 4), _, _, _, none⟩) (v := .agg #[.slice B nb cb]) rfl (by kernel_rfl) (by kernel_rfl) (by kernel_rfl) (fun _ _ _ h => h) (yieldsIf_load_mid (by rfl) _ _ rfl _ _ rfl _ _ (fun w h => range1 h) Try.underlying24 rfl mem_sz) hHeld ?_
      simp only [Act.put, List.setIfInBounds_toArray, List.set_cons_zero, List.set_cons_succ]
      refine wpAnyH_take (i := 1) (oi := ⟨some 60, .load 24 (.tmp 4), _, _, _, none⟩) (v := .agg #[.slice B nb cb]) rfl (by kernel_rfl) (by kernel_rfl) (by kernel_rfl) (fun _ _ _ h => h) (yieldsIf_load_mid (by rfl) _ _ rfl _ _ rfl _ _ (fun w h => range1 h) Try.underlying24 rfl mem_sz) hHeld ?_
      simp only [Act.put, List.setIfInBounds_toArray, List.set_cons_zero, List.set_cons_succ]
      refine wpAnyH_ready (rs := [2]) (by kernel_rfl) (by simp) (AllReadyH.cons (o := ⟨some 61, .call { callee := .value (.func 16), args := #[.tmp 60], argTypes := #[24] }, _, _, _, none⟩) rfl (fun K' hK => ?_) (AllReadyH.nil))
      go_simp
      refine (KBZ.out _).mono ?_
      rintro e x1 ⟨rfl, k1⟩
      replace b3 := b3.keep k1
      replace b4 := b4.keep k1
      replace b5 := b5.keep k1
      replace sD := sD.keep k1
      replace lw := Later.trans_ lw k1
      refine hK.out _ _ (b4.cell rfl) (fun hHeld => ?_)
      clear hK K'
      try simp only [Act.put, List.setIfInBounds_toArray, List.set_cons_zero, List.set_cons_succ]
      refine wpAnyH_ready (rs := [3]) (by kernel_rfl) (by simp) (AllReadyH.cons (o := ⟨some 62, .call { callee := .value (.func 20), args := #[.tmp 59, .const (.int .i64 0), .tmp 61], argTypes := #[24, 3, 3] }, _, _, _, none⟩) rfl (fun K' hK => ?_) (AllReadyH.nil))
      go_simp
      refine (KBR.out _ lw).mono ?_
      rintro e x2 ⟨rfl, k2⟩
      replace b3 := b3.keep k2
      replace b4 := b4.keep k2
      replace b5 := b5.keep k2
      replace sD := sD.keep k2
      replace lw := Later.trans_ lw k2
      refine hK.out _ _ (b4.cell rfl) (fun hHeld => ?_)
      clear hK K'
      try simp only [Act.put, List.setIfInBounds_toArray, List.set_cons_zero, List.set_cons_succ]
      refine wpAnyH_take (i := 4) (oi := ⟨some 58, .move (.tmp 62), _, _, _, none⟩) (v := .tuple #[.string S2, .bool true]) rfl (by kernel_rfl) (by kernel_rfl) (by kernel_rfl) (fun _ _ _ h => h) (Or.inl ⟨by rfl, fun _ _ => rfl⟩) hHeld ?_
      simp only [Act.put, List.setIfInBounds_toArray, List.set_cons_zero, List.set_cons_succ]
      refine wpAnyH_take (i := 5) (oi := ⟨some 63, .extract (.tmp 58) 0, _, _, _, none⟩) (v := .string S2) rfl (by kernel_rfl) (by kernel_rfl) (by kernel_rfl) (fun _ _ _ h => h) (Or.inl ⟨by rfl, fun w _ => by go_simp⟩) hHeld ?_
      simp only [Act.put, List.setIfInBounds_toArray, List.set_cons_zero, List.set_cons_succ]
      refine wpAnyH_take (i := 6) (oi := ⟨some 64, .extract (.tmp 58) 1, _, _, _, none⟩) (v := .bool true) rfl (by kernel_rfl) (by kernel_rfl) (by kernel_rfl) (fun _ _ _ h => h) (Or.inl ⟨by rfl, fun w _ => by go_simp⟩) hHeld ?_
      simp only [Act.put, List.setIfInBounds_toArray, List.set_cons_zero, List.set_cons_succ]
      refine wpAnyH_take (i := 7) (oi := ⟨some 11, .assign (.tmp 63), _, _, _, none⟩) (v := .string S2) rfl (by kernel_rfl) (by kernel_rfl) (by kernel_rfl) (fun _ _ _ h => h) (Or.inl ⟨by rfl, fun _ _ => rfl⟩) hHeld ?_
      simp only [Act.put, List.setIfInBounds_toArray, List.set_cons_zero, List.set_cons_succ]
      refine wpAnyH_take (i := 8) (oi := ⟨some 12, .assign (.tmp 64), _, _, _, none⟩) (v := .bool true) rfl (by kernel_rfl) (by kernel_rfl) (by kernel_rfl) (fun _ _ _ h => h) (Or.inl ⟨by rfl, fun _ _ => rfl⟩) hHeld ?_
      simp only [Act.put, List.setIfInBounds_toArray, List.set_cons_zero, List.set_cons_succ]
      refine wpAnyH_done (by kernel_rfl) ?_ _
      clear hHeld
      have c3 := b3.cell (j := 0) (v := .slice A na ca) rfl
      have c50 := b5.cell (j := 0) (v := .int .i64 a) rfl
      have c51 := b5.cell (j := 1) (v := .int .i64 s) rfl
      have c52 := b5.cell (j := 2) (v := .int .u32 v) rfl
      go_wp2_with (first
        | (go_at_call 13; refine (KS.out _ lw).mono ?_; rintro e w6 ⟨g, c', rfl, _, _, _, dx, l6⟩; clear c50 c51 c52; replace b3 := b3.keep l6; replace b4 := b4.keep l6; replace b5 := b5.keep l6; replace sD := sD.keep l6; replace lw := Later.trans_ lw l6; clear c3; have c3 := b3.cell (j := 0) (v := .slice A na ca) rfl; replace b3 := b3.keep (later1 w6 (.cells #[.slice (some ⟨g, 0, none⟩) na c'] 24)); replace b4 := b4.keep (later1 w6 (.cells #[.slice (some ⟨g, 0, none⟩) na c'] 24)); replace b5 := b5.keep (later1 w6 (.cells #[.slice (some ⟨g, 0, none⟩) na c'] 24)); replace sD := sD.keep (later1 w6 (.cells #[.slice (some ⟨g, 0, none⟩) na c'] 24)); replace lw := Later.trans_ lw (later1 w6 (.cells #[.slice (some ⟨g, 0, none⟩) na c'] 24)); clear c3; have c3 := b3.cell (j := 0) (v := .slice A na ca) rfl; replace dx := dx.keep (later1 w6 (.cells #[.slice (some ⟨g, 0, none⟩) na c'] 24)); have b13 := Blk.new w6 24 #[.slice (some ⟨g, 0, none⟩) na c'] [.slice (some ⟨g, 0, none⟩) na c'] rfl; have c13 := b13.cell (j := 0) (v := .slice (some ⟨g, 0, none⟩) na c') rfl)
        | (go_at_call 28; (with_reducible refine (KD3.out g c' _ lw dx).mono ?_); rintro e w7 ⟨AF, cF, rfl, _, _, sF, l7⟩; replace b3 := b3.keep l7; replace b4 := b4.keep l7; replace b5 := b5.keep l7; replace sD := sD.keep l7; replace dx := dx.keep l7; replace b13 := b13.keep l7; replace lw := Later.trans_ lw l7; clear c3 c13; have c3 := b3.cell (j := 0) (v := .slice A na ca) rfl; have c13 := b13.cell (j := 0) (v := (.slice (some ⟨g, 0, none⟩) na c')) rfl))
      clear c3 c13
      replace b3 := b3.drew; replace b5 := b5.drew; replace sF := sF.drew; replace lw := lw.drew; replace sD := sD.drew
      refine wp_region_held_drew (S := fun w' => True) (by kernel_rfl) trivial (fun hHeld => ?_)
      refine wpAnyH_take (i := 0) (oi := ⟨some 74, .move (.tmp 15), _, _, _, none⟩) (v := .slice AF 0 cF) rfl (by kernel_rfl) (by kernel_rfl) (by kernel_rfl) (fun _ _ _ h => h) (Or.inl ⟨by rfl, fun _ _ => rfl⟩) hHeld ?_
      simp only [Act.put, List.setIfInBounds_toArray, List.set_cons_zero, List.set_cons_succ]
      refine wpAnyH_take (i := 1) (oi := ⟨some 75, .call { callee := .builtin .len, args := #[.tmp 74], argTypes := #[60] }, _, _, _, none⟩) (v := .int .i64 0) rfl (by kernel_rfl) (by kernel_rfl) (by kernel_rfl) (fun _ _ _ h => h) (Or.inl ⟨by rfl, fun w _ => by go_simp⟩) hHeld ?_
      simp only [Act.put, List.setIfInBounds_toArray, List.set_cons_zero, List.set_cons_succ]
      refine wpAnyH_take (i := 2) (oi := ⟨some 76, .binOp .eql 3 (.tmp 75) (.const (.int .i64 0)) 3, _, _, _, none⟩) (v := .bool true) rfl (by kernel_rfl) (by kernel_rfl) (by kernel_rfl) (fun _ _ _ h => h) (Or.inl ⟨by rfl, fun w _ => by go_simp⟩) hHeld ?_
      simp only [Act.put, List.setIfInBounds_toArray, List.set_cons_zero, List.set_cons_succ]
      refine wpAnyH_take (i := 3) (oi := ⟨some 77, .move (.tmp 76), _, _, _, none⟩) (v := .bool true) rfl (by kernel_rfl) (by kernel_rfl) (by kernel_rfl) (fun _ _ _ h => h) (Or.inl ⟨by rfl, fun _ _ => rfl⟩) hHeld ?_
      simp only [Act.put, List.setIfInBounds_toArray, List.set_cons_zero, List.set_cons_succ]
      refine wpAnyH_take (i := 4) (oi := ⟨some 78, .move (.tmp 14), _, _, _, _⟩) (v := undef) rfl (by kernel_rfl) (by kernel_rfl) (by kernel_rfl) (fun _ _ _ h => h) (Or.inr ⟨by rfl, rfl⟩) hHeld ?_
      simp only [Act.put, List.setIfInBounds_toArray, List.set_cons_zero, List.set_cons_succ]
      refine wpAnyH_take (i := 5) (oi := ⟨some 79, .move (.tmp 78), _, _, _, _⟩) (v := undef) rfl (by kernel_rfl) (by kernel_rfl) (by kernel_rfl) (fun _ _ _ h => h) (Or.inr ⟨by rfl, rfl⟩) hHeld ?_
      simp only [Act.put, List.setIfInBounds_toArray, List.set_cons_zero, List.set_cons_succ]
      refine wpAnyH_take (i := 6) (oi := ⟨some 80, .move (.tmp 15), _, _, _, _⟩) (v := undef) rfl (by kernel_rfl) (by kernel_rfl) (by kernel_rfl) (fun _ _ _ h => h) (Or.inr ⟨by rfl, rfl⟩) hHeld ?_
      simp only [Act.put, List.setIfInBounds_toArray, List.set_cons_zero, List.set_cons_succ]
      refine wpAnyH_take (i := 7) (oi := ⟨some 81, .call { callee := .builtin .len, args := #[.tmp 80], argTypes := #[60] }, _, _, _, _⟩) (v := undef) rfl (by kernel_rfl) (by kernel_rfl) (by kernel_rfl) (fun _ _ _ h => h) (Or.inr ⟨by rfl, rfl⟩) hHeld ?_
      simp only [Act.put, List.setIfInBounds_toArray, List.set_cons_zero, List.set_cons_succ]
      refine wpAnyH_take (i := 8) (oi := ⟨some 82, .binOp .eql 3 (.tmp 81) (.const (.int .i64 1)) 3, _, _, _, _⟩) (v := undef) rfl (by kernel_rfl) (by kernel_rfl) (by kernel_rfl) (fun _ _ _ h => h) (Or.inr ⟨by rfl, rfl⟩) hHeld ?_
      simp only [Act.put, List.setIfInBounds_toArray, List.set_cons_zero, List.set_cons_succ]
      refine wpAnyH_take (i := 9) (oi := ⟨some 83, .pick (.tmp 79) (.tmp 82) (.const (.bool false)), _, _, _, _⟩) (v := undef) rfl (by kernel_rfl) (by kernel_rfl) (by kernel_rfl) (fun _ _ _ h => h) (Or.inr ⟨by rfl, rfl⟩) hHeld ?_
      simp only [Act.put, List.setIfInBounds_toArray, List.set_cons_zero, List.set_cons_succ]
      refine wpAnyH_take (i := 10) (oi := ⟨some 84, .move (.tmp 83), _, _, _, _⟩) (v := undef) rfl (by kernel_rfl) (by kernel_rfl) (by kernel_rfl) (fun _ _ _ h => h) (Or.inr ⟨by rfl, rfl⟩) hHeld ?_
      simp only [Act.put, List.setIfInBounds_toArray, List.set_cons_zero, List.set_cons_succ]
      refine wpAnyH_take (i := 11) (oi := ⟨some 85, .move (.tmp 15), _, _, _, _⟩) (v := undef) rfl (by kernel_rfl) (by kernel_rfl) (by kernel_rfl) (fun _ _ _ h => h) (Or.inr ⟨by rfl, rfl⟩) hHeld ?_
      simp only [Act.put, List.setIfInBounds_toArray, List.set_cons_zero, List.set_cons_succ]
      refine wpAnyH_take (i := 12) (oi := ⟨some 86, .indexAddr 60 (.tmp 85) (.const (.int .i64 0)), _, _, _, _⟩) (v := undef) rfl (by kernel_rfl) (by kernel_rfl) (by kernel_rfl) (fun _ _ _ h => h) (Or.inr ⟨by rfl, rfl⟩) hHeld ?_
      simp only [Act.put, List.setIfInBounds_toArray, List.set_cons_zero, List.set_cons_succ]
      refine wpAnyH_take (i := 13) (oi := ⟨some 87, .load 3 (.tmp 86), _, _, _, _⟩) (v := undef) rfl (by kernel_rfl) (by kernel_rfl) (by kernel_rfl) (fun _ _ _ h => h) (Or.inr ⟨by rfl, rfl⟩) hHeld ?_
      simp only [Act.put, List.setIfInBounds_toArray, List.set_cons_zero, List.set_cons_succ]
      refine wpAnyH_take (i := 14) (oi := ⟨some 88, .fieldAddr 27 (.tmp 5) 0, _, _, _, _⟩) (v := undef) rfl (by kernel_rfl) (by kernel_rfl) (by kernel_rfl) (fun _ _ _ h => h) (Or.inr ⟨by rfl, rfl⟩) hHeld ?_
      simp only [Act.put, List.setIfInBounds_toArray, List.set_cons_zero, List.set_cons_succ]
      refine wpAnyH_take (i := 15) (oi := ⟨some 89, .load 3 (.tmp 88), _, _, _, _⟩) (v := undef) rfl (by kernel_rfl) (by kernel_rfl) (by kernel_rfl) (fun _ _ _ h => h) (Or.inr ⟨by rfl, rfl⟩) hHeld ?_
      simp only [Act.put, List.setIfInBounds_toArray, List.set_cons_zero, List.set_cons_succ]
      refine wpAnyH_take (i := 16) (oi := ⟨some 90, .binOp .quo 3 (.tmp 89) (.const (.int .i64 128)) 3, _, _, _, _⟩) (v := undef) rfl (by kernel_rfl) (by kernel_rfl) (by kernel_rfl) (fun _ _ _ h => h) (Or.inr ⟨by rfl, rfl⟩) hHeld ?_
      simp only [Act.put, List.setIfInBounds_toArray, List.set_cons_zero, List.set_cons_succ]
      refine wpAnyH_take (i := 17) (oi := ⟨some 91, .binOp .eql 3 (.tmp 87) (.tmp 90) 3, _, _, _, _⟩) (v := undef) rfl (by kernel_rfl) (by kernel_rfl) (by kernel_rfl) (fun _ _ _ h => h) (Or.inr ⟨by rfl, rfl⟩) hHeld ?_
      simp only [Act.put, List.setIfInBounds_toArray, List.set_cons_zero, List.set_cons_succ]
      refine wpAnyH_take (i := 18) (oi := ⟨some 92, .pick (.tmp 84) (.tmp 91) (.const (.bool false)), _, _, _, _⟩) (v := undef) rfl (by kernel_rfl) (by kernel_rfl) (by kernel_rfl) (fun _ _ _ h => h) (Or.inr ⟨by rfl, rfl⟩) hHeld ?_
      simp only [Act.put, List.setIfInBounds_toArray, List.set_cons_zero, List.set_cons_succ]
      refine wpAnyH_take (i := 19) (oi := ⟨some 93, .pick (.tmp 77) (.const (.bool true)) (.tmp 92), _, _, _, none⟩) (v := .bool true) rfl (by kernel_rfl) (by kernel_rfl) (by kernel_rfl) (fun _ _ _ h => h) (Or.inl ⟨by rfl, fun w _ => by go_simp⟩) hHeld ?_
      simp only [Act.put, List.setIfInBounds_toArray, List.set_cons_zero, List.set_cons_succ]
      refine wpAnyH_take (i := 20) (oi := ⟨some 16, .assign (.tmp 93), _, _, _, none⟩) (v := .bool true) rfl (by kernel_rfl) (by kernel_rfl) (by kernel_rfl) (fun _ _ _ h => h) (Or.inl ⟨by rfl, fun _ _ => rfl⟩) hHeld ?_
      simp only [Act.put, List.setIfInBounds_toArray, List.set_cons_zero, List.set_cons_succ]
      refine wpAnyH_done (by kernel_rfl) ?_ _
      clear hHeld
      have c3 := b3.cell (j := 0) (v := .slice A na ca) rfl
      go_wp2_with (first
        | (go_at_call 9; refine (HN.out _).mono ?_; rintro e w8 ⟨rfl, l8⟩; clear c3; replace b3 := b3.keep l8; replace lw := Later.trans_ lw l8; have c3 := b3.cell (j := 0) (v := .slice A na ca) rfl; have hE := HE.out)
        | (go_at_call 28; (with_reducible refine (KD4.out _ lw).mono ?_); rintro e w9 ⟨AG, cG, rfl, _, _, _, l9⟩; replace lw := Later.trans_ lw l9))
      go_ret
      exact ⟨rfl, lw⟩

set_option maxRecDepth 100000 in
set_option maxHeartbeats 8000000 in
theorem diffs_one (A : Option Addr) (na ca : Nat) (B : Option Addr) (nb cb : Nat) (a s v : Int) (ab bb : Wm.Bs) (w : World) (hsa : Sl w 128 A na (U ab)) (hsb : Sl w 128 B nb (U bb)) (hba : Wm.isBs ab) (hbb : Wm.isBs bb) (h1 : 1 ≤ na ∧ na ≤ 64) (h2 : 1 ≤ nb ∧ nb ≤ 64) (hw : isW (a, s, v)) (ht : Mm.There (na * 128) a s) (hF : Mm.diff ab (Mm.st ab a s v) na na = [a.toNat / 128]) :
    Calls Try.prog 8 #[.agg #[.slice A na ca], .agg #[.slice B nb cb], .agg #[.int .i64 a, .int .i64 s, .int .u32 v]] w fun e w' => e = .returned (.bool true) ∧ Later w w' := by
  have hla : ab.length = na * 128 := by have := hsa.1; rwa [U_length] at this
  have hlb : bb.length = nb * 128 := by have := hsb.1; rwa [U_length] at this
  have HN := Lib.hid fun w' => sanity_any w'
  have HA := Lib.hid fun w' => rvalid_any A na ca w'
  have HB := Lib.hid fun w' => rvalid_any B nb cb w'
  rw [decide_eq_true h1] at HA
  rw [decide_eq_true h2] at HB
  have KD1 := Lib.hid fun w' (hl : Later w w') => diff_any A na ca B nb cb ab bb w' (hsa.keep hl) (hsb.keep hl) h1.2 h2.2
  have KD2 := Lib.hid fun w' (hl : Later w w') => diff_any B nb cb A na ca bb ab w' (hsb.keep hl) (hsa.keep hl) h2.2 h1.2
  rw [Mm.diff_comm bb ab] at KD2
  have KD4 := Lib.hid fun w' (hl : Later w w') => diff_any A na ca A na ca ab ab w' (hsa.keep hl) (hsa.keep hl) h1.2 h1.2
  rw [(Mm.diff_nil hla hla).2 rfl] at KD4
  have KAZ := Lib.hid fun w' => size_any A na ca w' h1.2
  have KBZ := Lib.hid fun w' => size_any B nb cb w' h2.2
  have KAR := Lib.hid fun w' (hl : Later w w') => read_any A na ca 0 ((na * 128 : Nat) : Int) ab w' (hsa.keep hl) h1.1 h1.2 (by omega)
  have KBR := Lib.hid fun w' (hl : Later w w') => read_any B nb cb 0 ((nb * 128 : Nat) : Int) bb w' (hsb.keep hl) h2.1 h2.2 (by omega)
  rw [rd_all hla, decide_eq_true (show Mm.Inside (na * 128) 0 ((na * 128 : Nat) : Int) by unfold Mm.Inside; omega)] at KAR
  rw [rd_all hlb, decide_eq_true (show Mm.Inside (nb * 128) 0 ((nb * 128 : Nat) : Int) by unfold Mm.Inside; omega)] at KBR
  have KS := Lib.hid fun w' (hl : Later w w') => pstore_any A na ca a s v ab w' (hsa.keep hl) hba h1.1 h1.2 hw
  have KD3 := Lib.hid fun g c' w' (hl : Later w w') (hd : Draft w' g na (Mm.st ab a s v)) => diff_any A na ca (some ⟨g, 0, none⟩) na c' ab (Mm.st ab a s v) w' (hsa.keep hl) hd.sl h1.2 h1.2
  obtain ⟨D, hD⟩ : ∃ D, D = Mm.diff ab bb na nb := ⟨_, rfl⟩
  have hD64 : D.length ≤ 64 := by
    rw [hD]
    have := Mm.diffTo_len ab bb na nb (max na nb)
    exact Nat.le_trans this (by omega)
  have HDL64 := Lib.hid hD64
  have HASC := Lib.hid fun (j : Nat) (hj : j + 1 < D.length) => asc_at (by rw [hD]; exact Mm.diff_asc _ _ _ _) hj
  obtain ⟨S1, hS1⟩ : ∃ S, S = strOfNums ab := ⟨_, rfl⟩
  obtain ⟨S2, hS2⟩ : ∃ S, S = strOfNums bb := ⟨_, rfl⟩
  have HE := Lib.hid (show (((D.length : Int) == 0) == (S1.toList == S2.toList)) = true by
    rw [nil_iff, toList_eqb, beq_iff_eq, hS1, hS2, decide_eq_decide, str_inj hba hbb, hD]
    exact Mm.diff_nil hla hlb)
  have KI := Lib.hid fun AD cD AE cE w' (h : Sl w' 1 AD D.length (Ni D)) (k : Sl w' 1 AE D.length (Ni D)) => sameInts_any AD D.length cD AE D.length cE D D w' rfl rfl h k (by omega) (by omega)
  rw [decide_eq_true (rfl : D = D)] at KI
  rw [← hD] at KD1 KD2
  rw [← hS1] at KAR
  rw [← hS2] at KBR
  obtain ⟨La, hLa⟩ : ∃ L, L = na * 128 := ⟨_, rfl⟩
  obtain ⟨Lb, hLb⟩ : ∃ L, L = nb * 128 := ⟨_, rfl⟩
  rw [← hLa] at KAZ KAR KS
  rw [← hLb] at KBZ KBR
  rw [hF] at KD3
  obtain ⟨M, hM⟩ : ∃ M, M = Mm.st ab a s v := ⟨_, rfl⟩
  rw [← hM] at KS KD3
  rw [hLa, decide_eq_true ht] at KS
  obtain ⟨kp, hkp⟩ : ∃ kp, kp = a.toNat / 128 := ⟨_, rfl⟩
  rw [← hkp] at KD3
  have ha0 := ht.2.1
  have ha1 : a ≤ 8192 := by have := ht.2.2; have := ht.1; omega
  have eqk : ((kp : Int) == a / 128) = true := by rw [beq_iff_eq]; omega
  have tdv : a.tdiv 128 = a / 128 := Int.tdiv_eq_ediv_of_nonneg ha0
  have wdv : IntKind.i64.wrap (a / 128) = a / 128 := by rw [IntKind.wrap_i64]; omega
  have b3 := ((Blk.new w 24 #[.slice A na ca] [.slice A na ca] rfl).alloc (.cells #[.slice B nb cb] 24)).alloc (.cells #[.int .i64 a, .int .i64 s, .int .u32 v] 27)
  have b4 := (Blk.new' (w.alloc (.cells #[.slice A na ca] 24)) (w.heap.size + 1) 24 #[.slice B nb cb] [.slice B nb cb] (by simp) rfl).alloc (.cells #[.int .i64 a, .int .i64 s, .int .u32 v] 27)
  have b5 := Blk.new' ((w.alloc (.cells #[.slice A na ca] 24)).alloc (.cells #[.slice B nb cb] 24)) (w.heap.size + 1 + 1) 27 #[.int .i64 a, .int .i64 s, .int .u32 v] [.int .i64 a, .int .i64 s, .int .u32 v] (by simp) rfl
  have lw : Later w (((w.alloc (.cells #[.slice A na ca] 24)).alloc (.cells #[.slice B nb cb] 24)).alloc (.cells #[.int .i64 a, .int .i64 s, .int .u32 v] 27)) := ((later1 w _).alloc (by simp) _).alloc (by simp; omega) _
  clear hF hM hLa hLb hD hD64 hS1 hS2 hsa hsb hba hbb h1 h2 hw hla hlb ht hkp
  go_enter Try.func8, Try.ntmps8
  go_wp2_with (first
    | (go_at_call 11; (with_reducible refine (HB.out w1).mono ?_); rintro e w2 ⟨rfl, l2⟩; replace b3 := b3.keep l2; replace b4 := b4.keep l2; replace b5 := b5.keep l2; replace lw := Later.trans_ lw l2; clear c3 c4; have c3 := b3.cell (j := 0) (v := .slice A na ca) rfl; have c4 := b4.cell (j := 0) (v := .slice B nb cb) rfl)
    | (go_at_call 11; (with_reducible refine (HA.out _).mono ?_); rintro e w1 ⟨rfl, l1⟩; replace b3 := b3.keep l1; replace b4 := b4.keep l1; replace b5 := b5.keep l1; have c3 := b3.cell (j := 0) (v := .slice A na ca) rfl; have c4 := b4.cell (j := 0) (v := .slice B nb cb) rfl; replace lw := Later.trans_ lw l1)
    | (go_at_call 28; (with_reducible refine (KD2.out _ lw).mono ?_); rintro e w4 ⟨AE, cE, rfl, _, _, sE, l4⟩; replace b3 := b3.keep l4; replace b4 := b4.keep l4; replace b5 := b5.keep l4; replace sD := sD.keep l4; replace lw := Later.trans_ lw l4; clear c3 c4; have c3 := b3.cell (j := 0) (v := .slice A na ca) rfl; have c4 := b4.cell (j := 0) (v := .slice B nb cb) rfl)
    | (go_at_call 28; (with_reducible refine (KD1.out _ lw).mono ?_); rintro e w3 ⟨AD, cD, rfl, _, _, sD, l3⟩; replace b3 := b3.keep l3; replace b4 := b4.keep l3; replace b5 := b5.keep l3; replace lw := Later.trans_ lw l3; clear c3 c4; have c3 := b3.cell (j := 0) (v := .slice A na ca) rfl; have c4 := b4.cell (j := 0) (v := .slice B nb cb) rfl)
    | (go_at_call 27; refine (KI.out AD cD AE cE _ sD sE).mono ?_; rintro e w5 ⟨rfl, l5⟩; replace b3 := b3.keep l5; replace b4 := b4.keep l5; replace b5 := b5.keep l5; replace sD := sD.keep l5; replace lw := Later.trans_ lw l5; clear c3 c4; have c3 := b3.cell (j := 0) (v := .slice A na ca) rfl; have c4 := b4.cell (j := 0) (v := .slice B nb cb) rfl; clear sE))
  clear c3 c4
  go_loopw [8] (fun ii wr => ∃ i : Nat, 1 ≤ i ∧ i ≤ 64 + 1 ∧ ii = .int .i64 (i : Int) ∧ Later w5 wr) (fun ii _ => 70 - (intOf ii).toNat)
  case atStart => exact ⟨1, by omega, by omega, rfl, later0 _⟩
  case round =>
    rename_i wr
    obtain ⟨i, hi1, hi, rfl, lr⟩ := hrel
    by_cases hjl : i < D.length
    · have hasc := HASC.out (i - 1) (by omega)
      rw [show i - 1 + 1 = i by omega] at hasc
      obtain ⟨add, u1, rfl, _, hu1, hyc⟩ := (sD.keep lr).drew.at1 (show i - 1 < D.length by omega)
      obtain ⟨_, u2, e2, _, hu2, hxc⟩ := (sD.keep lr).drew.at1 hjl
      cases e2
      rw [Ni_get D (i - 1) (by omega)] at hu1
      rw [Ni_get D i hjl] at hu2
      obtain ⟨y, hy⟩ : ∃ y, y = D.getD (i - 1) 0 := ⟨_, rfl⟩
      obtain ⟨x, hx⟩ : ∃ x, x = D.getD i 0 := ⟨_, rfl⟩
      rw [← hy] at hasc hu1
      rw [← hx] at hasc hu2
      cases hu1
      cases hu2
      have nxy : ¬ (x : Int) ≤ (y : Int) := by omega
      obtain ⟨dl, hdl⟩ : ∃ dl, dl = D.length := ⟨_, rfl⟩
      have hD64 := HDL64.out
      rw [← hdl] at hjl hD64 ⊢
      have jl : (i : Int) < (dl : Int) := by omega
      have jl2 : (i : Int) - 1 < (dl : Int) := by omega
      have j0 : (0 : Int) ≤ (i : Int) - 1 := by omega
      have wi : IntKind.i64.wrap ((i : Int) - 1) = (i : Int) - 1 := by rw [IntKind.wrap_i64]; omega
      have ti : ((i : Int) - 1).toNat = i - 1 := by omega
      have ni1 : ¬ (i : Int) < 1 := by omega
      clear hx hy hdl
      go_wp2
      refine wp_region_held_drew (S := fun w' => w'.cell? (add.add (i - 1)) = some (.int .i64 (y : Int)) ∧ w'.cell? (add.add i) = some (.int .i64 (x : Int))) (by kernel_rfl) ⟨hyc, hxc⟩ (fun hHeld => ?_)
      refine wpAnyH_take (i := 0) (oi := ⟨some 41, .move (.tmp 7), _, _, _, none⟩) (v := .slice (some add) dl cD) rfl (by kernel_rfl) (by kernel_rfl) (by kernel_rfl) (fun _ _ _ h => h) (Or.inl ⟨by rfl, fun _ _ => rfl⟩) hHeld ?_
      simp only [Act.put, List.setIfInBounds_toArray, List.set_cons_zero, List.set_cons_succ]
      refine wpAnyH_take (i := 1) (oi := ⟨some 42, .move (.tmp 8), _, _, _, none⟩) (v := .int .i64 (i : Int)) rfl (by kernel_rfl) (by kernel_rfl) (by kernel_rfl) (fun _ _ _ h => h) (Or.inl ⟨by rfl, fun _ _ => rfl⟩) hHeld ?_
      simp only [Act.put, List.setIfInBounds_toArray, List.set_cons_zero, List.set_cons_succ]
      refine wpAnyH_take (i := 2) (oi := ⟨some 43, .indexAddr 60 (.tmp 41) (.tmp 42), _, _, _, none⟩) (v := .pointer (some (add.add i))) rfl (by kernel_rfl) (by kernel_rfl) (by kernel_rfl) (fun _ _ _ h => h) (Or.inl ⟨by rfl, fun w _ => by go_simp⟩) hHeld ?_
      simp only [Act.put, List.setIfInBounds_toArray, List.set_cons_zero, List.set_cons_succ]
      refine wpAnyH_take (i := 3) (oi := ⟨some 44, .load 3 (.tmp 43), _, _, _, none⟩) (v := .int .i64 (x : Int)) rfl (by kernel_rfl) (by kernel_rfl) (by kernel_rfl) (fun _ _ _ h => h) (Or.inl ⟨by rfl, fun w hSw => by have e1 := hSw.2; clear hSw; go_simp⟩) hHeld ?_
      simp only [Act.put, List.setIfInBounds_toArray, List.set_cons_zero, List.set_cons_succ]
      refine wpAnyH_take (i := 4) (oi := ⟨some 45, .move (.tmp 7), _, _, _, none⟩) (v := .slice (some add) dl cD) rfl (by kernel_rfl) (by kernel_rfl) (by kernel_rfl) (fun _ _ _ h => h) (Or.inl ⟨by rfl, fun _ _ => rfl⟩) hHeld ?_
      simp only [Act.put, List.setIfInBounds_toArray, List.set_cons_zero, List.set_cons_succ]
      refine wpAnyH_take (i := 5) (oi := ⟨some 46, .move (.tmp 8), _, _, _, none⟩) (v := .int .i64 (i : Int)) rfl (by kernel_rfl) (by kernel_rfl) (by kernel_rfl) (fun _ _ _ h => h) (Or.inl ⟨by rfl, fun _ _ => rfl⟩) hHeld ?_
      simp only [Act.put, List.setIfInBounds_toArray, List.set_cons_zero, List.set_cons_succ]
      refine wpAnyH_take (i := 6) (oi := ⟨some 47, .binOp .sub 3 (.tmp 46) (.const (.int .i64 1)) 3, _, _, _, none⟩) (v := .int .i64 ((i : Int) - 1)) rfl (by kernel_rfl) (by kernel_rfl) (by kernel_rfl) (fun _ _ _ h => h) (Or.inl ⟨by rfl, fun w _ => by go_simp⟩) hHeld ?_
      simp only [Act.put, List.setIfInBounds_toArray, List.set_cons_zero, List.set_cons_succ]
      refine wpAnyH_take (i := 7) (oi := ⟨some 48, .indexAddr 60 (.tmp 45) (.tmp 47), _, _, _, none⟩) (v := .pointer (some (add.add (i - 1)))) rfl (by kernel_rfl) (by kernel_rfl) (by kernel_rfl) (fun _ _ _ h => h) (Or.inl ⟨by rfl, fun w _ => by go_simp⟩) hHeld ?_
      simp only [Act.put, List.setIfInBounds_toArray, List.set_cons_zero, List.set_cons_succ]
      refine wpAnyH_take (i := 8) (oi := ⟨some 49, .load 3 (.tmp 48), _, _, _, none⟩) (v := .int .i64 (y : Int)) rfl (by kernel_rfl) (by kernel_rfl) (by kernel_rfl) (fun _ _ _ h => h) (Or.inl ⟨by rfl, fun w hSw => by have e1 := hSw.1; clear hSw; go_simp⟩) hHeld ?_
      simp only [Act.put, List.setIfInBounds_toArray, List.set_cons_zero, List.set_cons_succ]
      refine wpAnyH_take (i := 9) (oi := ⟨some 50, .binOp .leq 3 (.tmp 44) (.tmp 49) 3, _, _, _, none⟩) (v := .bool false) rfl (by kernel_rfl) (by kernel_rfl) (by kernel_rfl) (fun _ _ _ h => h) (Or.inl ⟨by rfl, fun w _ => by go_simp⟩) hHeld ?_
      simp only [Act.put, List.setIfInBounds_toArray, List.set_cons_zero, List.set_cons_succ]
      refine wpAnyH_done (by kernel_rfl) ?_ _
      clear hHeld
      clear wi ti ni1
      go_wp2
      go_roundw
      case rel => exact ⟨i + 1, by omega, by omega, by go_num, lr.drew⟩
      case measure => simp [intOf]; omega
    · have njl : ¬ (i : Int) < (D.length : Int) := by omega
      go_wp2
      replace b3 := (b3.keep lr).drew; replace b4 := (b4.keep lr).drew; replace b5 := (b5.keep lr).drew; replace sD := (sD.keep lr).drew; replace lw := (Later.trans_ lw lr).drew
      refine wp_region_held_drew (S := fun w' => w'.cell? ⟨w.heap.size, 0, none⟩ = some (.slice A na ca)) (by kernel_rfl) (b3.cell rfl) (fun hHeld => ?_)
      refine wpAnyH_take (i := 0) (oi := ⟨some 52, .load 24 (.tmp 3), _, _, _, none⟩) (v := .agg #[.slice A na ca]) rfl (by kernel_rfl) (by kernel_rfl) (by kernel_rfl) (fun _ _ _ h => h) (yieldsIf_load_mid (by rfl) _ _ rfl _ _ rfl _ _ (fun w h => range1 h) Try.underlying24 rfl mem_sz) hHeld ?_
      simp only [Act.put, List.setIfInBounds_toArray, List.set_cons_zero, List.set_cons_succ]
      refine wpAnyH_take (i := 1) (oi := ⟨some 53, .load 24 (.tmp 3), _, _, _, none⟩) (v := .agg #[.slice A na ca]) rfl (by kernel_rfl) (by kernel_rfl) (by kernel_rfl) (fun _ _ _ h => h) (yieldsIf_load_mid (by rfl) _ _ rfl _ _ rfl _ _ (fun w h => range1 h) Try.underlying24 rfl mem_sz) hHeld ?_
      simp only [Act.put, List.setIfInBounds_toArray, List.set_cons_zero, List.set_cons_succ]
      refine wpAnyH_ready (rs := [2]) (by kernel_rfl) (by simp) (AllReadyH.cons (o := ⟨some 54, .call { callee := .value (.func 16), args := #[.tmp 53], argTypes := #[24] }, _, _, _, none⟩) rfl (fun K' hK => ?_) (AllReadyH.nil))
      go_simp
      refine (KAZ.out _).mono ?_
      rintro e x1 ⟨rfl, k1⟩
      replace b3 := b3.keep k1
      replace b4 := b4.keep k1
      replace b5 := b5.keep k1
      replace sD := sD.keep k1
      replace lw := Later.trans_ lw k1
      refine hK.out _ _ (b3.cell rfl) (fun hHeld => ?_)
      clear hK K'
      try simp only [Act.put, List.setIfInBounds_toArray, List.set_cons_zero, List.set_cons_succ]
      refine wpAnyH_ready (rs := [3]) (by kernel_rfl) (by simp) (AllReadyH.cons (o := ⟨some 55, .call { callee := .value (.func 20), args := #[.tmp 52, .const (.int .i64 0), .tmp 54], argTypes := #[24, 3, 3] }, _, _, _, none⟩) rfl (fun K' hK => ?_) (AllReadyH.nil))
      go_simp
      refine (KAR.out _ lw).mono ?_
      rintro e x2 ⟨rfl, k2⟩
      replace b3 := b3.keep k2
      replace b4 := b4.keep k2
      replace b5 := b5.keep k2
      replace sD := sD.keep k2
      replace lw := Later.trans_ lw k2
      refine hK.out _ _ (b3.cell rfl) (fun hHeld => ?_)
      clear hK K'
      try simp only [Act.put, List.setIfInBounds_toArray, List.set_cons_zero, List.set_cons_succ]
      refine wpAnyH_take (i := 4) (oi := ⟨some 51, .move (.tmp 55), _, _, _, none⟩) (v := .tuple #[.string S1, .bool true]) rfl (by kernel_rfl) (by kernel_rfl) (by kernel_rfl) (fun _ _ _ h => h) (Or.inl ⟨by rfl, fun _ _ => rfl⟩) hHeld ?_
      simp only [Act.put, List.setIfInBounds_toArray, List.set_cons_zero, List.set_cons_succ]
      refine wpAnyH_take (i := 5) (oi := ⟨some 56, .extract (.tmp 51) 0, _, _, _, none⟩) (v := .string S1) rfl (by kernel_rfl) (by kernel_rfl) (by kernel_rfl) (fun _ _ _ h => h) (Or.inl ⟨by rfl, fun w _ => by go_simp⟩) hHeld ?_
      simp only [Act.put, List.setIfInBounds_toArray, List.set_cons_zero, List.set_cons_succ]
      refine wpAnyH_take (i := 6) (oi := ⟨some 57, .extract (.tmp 51) 1, _, _, _, none⟩) (v := .bool true) rfl (by kernel_rfl) (by kernel_rfl) (by kernel_rfl) (fun _ _ _ h => h) (Or.inl ⟨by rfl, fun w _ => by go_simp⟩) hHeld ?_
      simp only [Act.put, List.setIfInBounds_toArray, List.set_cons_zero, List.set_cons_succ]
      refine wpAnyH_take (i := 7) (oi := ⟨some 9, .assign (.tmp 56), _, _, _, none⟩) (v := .string S1) rfl (by kernel_rfl) (by kernel_rfl) (by kernel_rfl) (fun _ _ _ h => h) (Or.inl ⟨by rfl, fun _ _ => rfl⟩) hHeld ?_
      simp only [Act.put, List.setIfInBounds_toArray, List.set_cons_zero, List.set_cons_succ]
      refine wpAnyH_take (i := 8) (oi := ⟨some 10, .assign (.tmp 57), _, _, _, none⟩) (v := .bool true) rfl (by kernel_rfl) (by kernel_rfl) (by kernel_rfl) (fun _ _ _ h => h) (Or.inl ⟨by rfl, fun _ _ => rfl⟩) hHeld ?_
      simp only [Act.put, List.setIfInBounds_toArray, List.set_cons_zero, List.set_cons_succ]
      refine wpAnyH_done (by kernel_rfl) ?_ _
      clear hHeld
      go_wp2
      replace b3 := b3.drew; replace b4 := b4.drew; replace b5 := b5.drew; replace sD := sD.drew; replace lw := lw.drew
      refine wp_region_held_drew (S := fun w' => w'.cell? ⟨w.heap.size + 1, 0, none⟩ = some (.slice B nb cb)) (by kernel_rfl) (b4.cell rfl) (fun hHeld => ?_)
      refine wpAnyH_take (i := 0) (oi := ⟨some 59, .load 24 (.tmp 4), _, _, _, none⟩) (v := .agg #[.slice B nb cb]) rfl (by kernel_rfl) (by kernel_rfl) (by kernel_rfl) (fun _ _ _ h => h) (yieldsIf_load_mid (by rfl) _ _ rfl _ _ rfl _ _ (fun w h => range1 h) Try.underlying24 rfl mem_sz) hHeld ?_
      simp only [Act.put, List.setIfInBounds_toArray, List.set_cons_zero, List.set_cons_succ]
      refine wpAnyH_take (i := 1) (oi := ⟨some 60, .load 24 (.tmp 4), _, _, _, none⟩) (v := .agg #[.slice B nb cb]) rfl (by kernel_rfl) (by kernel_rfl) (by kernel_rfl) (fun _ _ _ h => h) (yieldsIf_load_mid (by rfl) _ _ rfl _ _ rfl _ _ (fun w h => range1 h) Try.underlying24 rfl mem_sz) hHeld ?_
      simp only [Act.put, List.setIfInBounds_toArray, List.set_cons_zero, List.set_cons_succ]
      refine wpAnyH_ready (rs := [2]) (by kernel_rfl) (by simp) (AllReadyH.cons (o := ⟨some 61, .call { callee := .value (.func 16), args := #[.tmp 60], argTypes := #[24] }, _, _, _, none⟩) rfl (fun K' hK => ?_) (AllReadyH.nil))
      go_simp
      refine (KBZ.out _).mono ?_
      rintro e x1 ⟨rfl, k1⟩
      replace b3 := b3.keep k1
      replace b4 := b4.keep k1
      replace b5 := b5.keep k1
      replace sD := sD.keep k1
      replace lw := Later.trans_ lw k1
      refine hK.out _ _ (b4.cell rfl) (fun hHeld => ?_)
      clear hK K'
      try simp only [Act.put, List.setIfInBounds_toArray, List.set_cons_zero, List.set_cons_succ]
      refine wpAnyH_ready (rs := [3]) (by kernel_rfl) (by simp) (AllReadyH.cons (o := ⟨some 62, .call { callee := .value (.func 20), args := #[.tmp 59, .const (.int .i64 0), .tmp 61], argTypes := #[24, 3, 3] }, _, _, _, none⟩) rfl (fun K' hK => ?_) (AllReadyH.nil))
      go_simp
      refine (KBR.out _ lw).mono ?_
      rintro e x2 ⟨rfl, k2⟩
      replace b3 := b3.keep k2
      replace b4 := b4.keep k2
      replace b5 := b5.keep k2
      replace sD := sD.keep k2
      replace lw := Later.trans_ lw k2
      refine hK.out _ _ (b4.cell rfl) (fun hHeld => ?_)
      clear hK K'
      try simp only [Act.put, List.setIfInBounds_toArray, List.set_cons_zero, List.set_cons_succ]
      refine wpAnyH_take (i := 4) (oi := ⟨some 58, .move (.tmp 62), _, _, _, none⟩) (v := .tuple #[.string S2, .bool true]) rfl (by kernel_rfl) (by kernel_rfl) (by kernel_rfl) (fun _ _ _ h => h) (Or.inl ⟨by rfl, fun _ _ => rfl⟩) hHeld ?_
      simp only [Act.put, List.setIfInBounds_toArray, List.set_cons_zero, List.set_cons_succ]
      refine wpAnyH_take (i := 5) (oi := ⟨some 63, .extract (.tmp 58) 0, _, _, _, none⟩) (v := .string S2) rfl (by kernel_rfl) (by kernel_rfl) (by kernel_rfl) (fun _ _ _ h => h) (Or.inl ⟨by rfl, fun w _ => by go_simp⟩) hHeld ?_
      simp only [Act.put, List.setIfInBounds_toArray, List.set_cons_zero, List.set_cons_succ]
      refine wpAnyH_take (i := 6) (oi := ⟨some 64, .extract (.tmp 58) 1, _, _, _, none⟩) (v := .bool true) rfl (by kernel_rfl) (by kernel_rfl) (by kernel_rfl) (fun _ _ _ h => h) (Or.inl ⟨by rfl, fun w _ => by go_simp⟩) hHeld ?_
      simp only [Act.put, List.setIfInBounds_toArray, List.set_cons_zero, List.set_cons_succ]
      refine wpAnyH_take (i := 7) (oi := ⟨some 11, .assign (.tmp 63), _, _, _, none⟩) (v := .string S2) rfl (by kernel_rfl) (by kernel_rfl) (by kernel_rfl) (fun _ _ _ h => h) (Or.inl ⟨by rfl, fun _ _ => rfl⟩) hHeld ?_
      simp only [Act.put, List.setIfInBounds_toArray, List.set_cons_zero, List.set_cons_succ]
      refine wpAnyH_take (i := 8) (oi := ⟨some 12, .assign (.tmp 64), _, _, _, none⟩) (v := .bool true) rfl (by kernel_rfl) (by kernel_rfl) (by kernel_rfl) (fun _ _ _ h => h) (Or.inl ⟨by rfl, fun _ _ => rfl⟩) hHeld ?_
      simp only [Act.put, List.setIfInBounds_toArray, List.set_cons_zero, List.set_cons_succ]
      refine wpAnyH_done (by kernel_rfl) ?_ _
      clear hHeld
      have c3 := b3.cell (j := 0) (v := .slice A na ca) rfl
      have c50 := b5.cell (j := 0) (v := .int .i64 a) rfl
      have c51 := b5.cell (j := 1) (v := .int .i64 s) rfl
      have c52 := b5.cell (j := 2) (v := .int .u32 v) rfl
      go_wp2_with (first
        | (go_at_call 13; refine (KS.out _ lw).mono ?_; rintro e w6 ⟨g, c', rfl, _, _, _, dx, l6⟩; clear c50 c51 c52; replace b3 := b3.keep l6; replace b4 := b4.keep l6; replace b5 := b5.keep l6; replace sD := sD.keep l6; replace lw := Later.trans_ lw l6; clear c3; have c3 := b3.cell (j := 0) (v := .slice A na ca) rfl; replace b3 := b3.keep (later1 w6 (.cells #[.slice (some ⟨g, 0, none⟩) na c'] 24)); replace b4 := b4.keep (later1 w6 (.cells #[.slice (some ⟨g, 0, none⟩) na c'] 24)); replace b5 := b5.keep (later1 w6 (.cells #[.slice (some ⟨g, 0, none⟩) na c'] 24)); replace sD := sD.keep (later1 w6 (.cells #[.slice (some ⟨g, 0, none⟩) na c'] 24)); replace lw := Later.trans_ lw (later1 w6 (.cells #[.slice (some ⟨g, 0, none⟩) na c'] 24)); clear c3; have c3 := b3.cell (j := 0) (v := .slice A na ca) rfl; replace dx := dx.keep (later1 w6 (.cells #[.slice (some ⟨g, 0, none⟩) na c'] 24)); have b13 := Blk.new w6 24 #[.slice (some ⟨g, 0, none⟩) na c'] [.slice (some ⟨g, 0, none⟩) na c'] rfl; have c13 := b13.cell (j := 0) (v := .slice (some ⟨g, 0, none⟩) na c') rfl)
        | (go_at_call 28; (with_reducible refine (KD3.out g c' _ lw dx).mono ?_); rintro e w7 ⟨AF, cF, rfl, _, _, sF, l7⟩; replace b3 := b3.keep l7; replace b4 := b4.keep l7; replace b5 := b5.keep l7; replace sD := sD.keep l7; replace dx := dx.keep l7; replace b13 := b13.keep l7; replace lw := Later.trans_ lw l7; clear c3 c13; have c3 := b3.cell (j := 0) (v := .slice A na ca) rfl; have c13 := b13.cell (j := 0) (v := (.slice (some ⟨g, 0, none⟩) na c')) rfl))
      clear c3 c13
      replace b3 := b3.drew; replace b5 := b5.drew; replace sF := sF.drew; replace lw := lw.drew; replace sD := sD.drew
      obtain ⟨adF, uF, rfl, _, huF, hFc⟩ := sF.at1 (show 0 < 1 by omega)
      obtain rfl : Value.int .i64 (kp : Int) = uF := by injection huF
      have hadz : adF.add 0 = adF := by unfold Addr.add; simp
      rw [hadz] at hFc
      refine wp_region_held_drew (S := fun w' => w'.cell? adF = some (.int .i64 (kp : Int)) ∧ w'.cell? ⟨w.heap.size + 1 + 1, 0, none⟩ = some (.int .i64 a)) (by kernel_rfl) ⟨hFc, b5.cell rfl⟩ (fun hHeld => ?_)
      refine wpAnyH_take (i := 0) (oi := ⟨some 74, .move (.tmp 15), _, _, _, none⟩) (v := .slice (some adF) 1 cF) rfl (by kernel_rfl) (by kernel_rfl) (by kernel_rfl) (fun _ _ _ h => h) (Or.inl ⟨by rfl, fun _ _ => rfl⟩) hHeld ?_
      simp only [Act.put, List.setIfInBounds_toArray, List.set_cons_zero, List.set_cons_succ]
      refine wpAnyH_take (i := 1) (oi := ⟨some 75, .call { callee := .builtin .len, args := #[.tmp 74], argTypes := #[60] }, _, _, _, none⟩) (v := .int .i64 1) rfl (by kernel_rfl) (by kernel_rfl) (by kernel_rfl) (fun _ _ _ h => h) (Or.inl ⟨by rfl, fun w _ => by go_simp⟩) hHeld ?_
      simp only [Act.put, List.setIfInBounds_toArray, List.set_cons_zero, List.set_cons_succ]
      refine wpAnyH_take (i := 2) (oi := ⟨some 76, .binOp .eql 3 (.tmp 75) (.const (.int .i64 0)) 3, _, _, _, none⟩) (v := .bool false) rfl (by kernel_rfl) (by kernel_rfl) (by kernel_rfl) (fun _ _ _ h => h) (Or.inl ⟨by rfl, fun w _ => by go_simp⟩) hHeld ?_
      simp only [Act.put, List.setIfInBounds_toArray, List.set_cons_zero, List.set_cons_succ]
      refine wpAnyH_take (i := 3) (oi := ⟨some 77, .move (.tmp 76), _, _, _, none⟩) (v := .bool false) rfl (by kernel_rfl) (by kernel_rfl) (by kernel_rfl) (fun _ _ _ h => h) (Or.inl ⟨by rfl, fun _ _ => rfl⟩) hHeld ?_
      simp only [Act.put, List.setIfInBounds_toArray, List.set_cons_zero, List.set_cons_succ]
      refine wpAnyH_take (i := 4) (oi := ⟨some 78, .move (.tmp 14), _, _, _, _⟩) (v := .bool true) rfl (by kernel_rfl) (by kernel_rfl) (by kernel_rfl) (fun _ _ _ h => h) (Or.inl ⟨by rfl, fun _ _ => rfl⟩) hHeld ?_
      simp only [Act.put, List.setIfInBounds_toArray, List.set_cons_zero, List.set_cons_succ]
      refine wpAnyH_take (i := 5) (oi := ⟨some 79, .move (.tmp 78), _, _, _, _⟩) (v := .bool true) rfl (by kernel_rfl) (by kernel_rfl) (by kernel_rfl) (fun _ _ _ h => h) (Or.inl ⟨by rfl, fun _ _ => rfl⟩) hHeld ?_
      simp only [Act.put, List.setIfInBounds_toArray, List.set_cons_zero, List.set_cons_succ]
      refine wpAnyH_take (i := 6) (oi := ⟨some 80, .move (.tmp 15), _, _, _, _⟩) (v := .slice (some adF) 1 cF) rfl (by kernel_rfl) (by kernel_rfl) (by kernel_rfl) (fun _ _ _ h => h) (Or.inl ⟨by rfl, fun _ _ => rfl⟩) hHeld ?_
      simp only [Act.put, List.setIfInBounds_toArray, List.set_cons_zero, List.set_cons_succ]
      refine wpAnyH_take (i := 7) (oi := ⟨some 81, .call { callee := .builtin .len, args := #[.tmp 80], argTypes := #[60] }, _, _, _, _⟩) (v := .int .i64 1) rfl (by kernel_rfl) (by kernel_rfl) (by kernel_rfl) (fun _ _ _ h => h) (Or.inl ⟨by rfl, fun w _ => by go_simp⟩) hHeld ?_
      simp only [Act.put, List.setIfInBounds_toArray, List.set_cons_zero, List.set_cons_succ]
      refine wpAnyH_take (i := 8) (oi := ⟨some 82, .binOp .eql 3 (.tmp 81) (.const (.int .i64 1)) 3, _, _, _, _⟩) (v := .bool true) rfl (by kernel_rfl) (by kernel_rfl) (by kernel_rfl) (fun _ _ _ h => h) (Or.inl ⟨by rfl, fun w _ => by go_simp⟩) hHeld ?_
      simp only [Act.put, List.setIfInBounds_toArray, List.set_cons_zero, List.set_cons_succ]
      refine wpAnyH_take (i := 9) (oi := ⟨some 83, .pick (.tmp 79) (.tmp 82) (.const (.bool false)), _, _, _, _⟩) (v := .bool true) rfl (by kernel_rfl) (by kernel_rfl) (by kernel_rfl) (fun _ _ _ h => h) (Or.inl ⟨by rfl, fun w _ => by go_simp⟩) hHeld ?_
      simp only [Act.put, List.setIfInBounds_toArray, List.set_cons_zero, List.set_cons_succ]
      refine wpAnyH_take (i := 10) (oi := ⟨some 84, .move (.tmp 83), _, _, _, _⟩) (v := .bool true) rfl (by kernel_rfl) (by kernel_rfl) (by kernel_rfl) (fun _ _ _ h => h) (Or.inl ⟨by rfl, fun _ _ => rfl⟩) hHeld ?_
      simp only [Act.put, List.setIfInBounds_toArray, List.set_cons_zero, List.set_cons_succ]
      refine wpAnyH_take (i := 11) (oi := ⟨some 85, .move (.tmp 15), _, _, _, _⟩) (v := .slice (some adF) 1 cF) rfl (by kernel_rfl) (by kernel_rfl) (by kernel_rfl) (fun _ _ _ h => h) (Or.inl ⟨by rfl, fun _ _ => rfl⟩) hHeld ?_
      simp only [Act.put, List.setIfInBounds_toArray, List.set_cons_zero, List.set_cons_succ]
      refine wpAnyH_take (i := 12) (oi := ⟨some 86, .indexAddr 60 (.tmp 85) (.const (.int .i64 0)), _, _, _, _⟩) (v := .pointer (some adF)) rfl (by kernel_rfl) (by kernel_rfl) (by kernel_rfl) (fun _ _ _ h => h) (Or.inl ⟨by rfl, fun w _ => by go_simp⟩) hHeld ?_
      simp only [Act.put, List.setIfInBounds_toArray, List.set_cons_zero, List.set_cons_succ]
      refine wpAnyH_take (i := 13) (oi := ⟨some 87, .load 3 (.tmp 86), _, _, _, _⟩) (v := .int .i64 (kp : Int)) rfl (by kernel_rfl) (by kernel_rfl) (by kernel_rfl) (fun _ _ _ h => h) (Or.inl ⟨by rfl, fun w hSw => by have e1 := hSw.1; clear hSw; go_simp⟩) hHeld ?_
      simp only [Act.put, List.setIfInBounds_toArray, List.set_cons_zero, List.set_cons_succ]
      refine wpAnyH_take (i := 14) (oi := ⟨some 88, .fieldAddr 27 (.tmp 5) 0, _, _, _, _⟩) (v := .pointer (some ⟨w.heap.size + 1 + 1, 0, none⟩)) rfl (by kernel_rfl) (by kernel_rfl) (by kernel_rfl) (fun _ _ _ h => h) (Or.inl ⟨by rfl, fun w _ => by go_simp⟩) hHeld ?_
      simp only [Act.put, List.setIfInBounds_toArray, List.set_cons_zero, List.set_cons_succ]
      refine wpAnyH_take (i := 15) (oi := ⟨some 89, .load 3 (.tmp 88), _, _, _, _⟩) (v := .int .i64 a) rfl (by kernel_rfl) (by kernel_rfl) (by kernel_rfl) (fun _ _ _ h => h) (Or.inl ⟨by rfl, fun w hSw => by have e1 := hSw.2; clear hSw; go_simp⟩) hHeld ?_
      simp only [Act.put, List.setIfInBounds_toArray, List.set_cons_zero, List.set_cons_succ]
      refine wpAnyH_take (i := 16) (oi := ⟨some 90, .binOp .quo 3 (.tmp 89) (.const (.int .i64 128)) 3, _, _, _, _⟩) (v := .int .i64 (a / 128)) rfl (by kernel_rfl) (by kernel_rfl) (by kernel_rfl) (fun _ _ _ h => h) (Or.inl ⟨by rfl, fun w _ => by go_simp⟩) hHeld ?_
      simp only [Act.put, List.setIfInBounds_toArray, List.set_cons_zero, List.set_cons_succ]
      refine wpAnyH_take (i := 17) (oi := ⟨some 91, .binOp .eql 3 (.tmp 87) (.tmp 90) 3, _, _, _, _⟩) (v := .bool true) rfl (by kernel_rfl) (by kernel_rfl) (by kernel_rfl) (fun _ _ _ h => h) (Or.inl ⟨by rfl, fun w _ => by go_simp⟩) hHeld ?_
      simp only [Act.put, List.setIfInBounds_toArray, List.set_cons_zero, List.set_cons_succ]
      refine wpAnyH_take (i := 18) (oi := ⟨some 92, .pick (.tmp 84) (.tmp 91) (.const (.bool false)), _, _, _, _⟩) (v := .bool true) rfl (by kernel_rfl) (by kernel_rfl) (by kernel_rfl) (fun _ _ _ h => h) (Or.inl ⟨by rfl, fun w _ => by go_simp⟩) hHeld ?_
      simp only [Act.put, List.setIfInBounds_toArray, List.set_cons_zero, List.set_cons_succ]
      refine wpAnyH_take (i := 19) (oi := ⟨some 93, .pick (.tmp 77) (.const (.bool true)) (.tmp 92), _, _, _, none⟩) (v := .bool true) rfl (by kernel_rfl) (by kernel_rfl) (by kernel_rfl) (fun _ _ _ h => h) (Or.inl ⟨by rfl, fun w _ => by go_simp⟩) hHeld ?_
      simp only [Act.put, List.setIfInBounds_toArray, List.set_cons_zero, List.set_cons_succ]
      refine wpAnyH_take (i := 20) (oi := ⟨some 16, .assign (.tmp 93), _, _, _, none⟩) (v := .bool true) rfl (by kernel_rfl) (by kernel_rfl) (by kernel_rfl) (fun _ _ _ h => h) (Or.inl ⟨by rfl, fun _ _ => rfl⟩) hHeld ?_
      simp only [Act.put, List.setIfInBounds_toArray, List.set_cons_zero, List.set_cons_succ]
      refine wpAnyH_done (by kernel_rfl) ?_ _
      clear hHeld
      have c3 := b3.cell (j := 0) (v := .slice A na ca) rfl
      go_wp2_with (first
        | (go_at_call 9; refine (HN.out _).mono ?_; rintro e w8 ⟨rfl, l8⟩; clear c3; replace b3 := b3.keep l8; replace lw := Later.trans_ lw l8; have c3 := b3.cell (j := 0) (v := .slice A na ca) rfl; have hE := HE.out)
        | (go_at_call 28; (with_reducible refine (KD4.out _ lw).mono ?_); rintro e w9 ⟨AG, cG, rfl, _, _, _, l9⟩; replace lw := Later.trans_ lw l9))
      go_ret
      exact ⟨rfl, lw⟩
theorem diffs_all (A : Option Addr) (na ca : Nat) (B : Option Addr) (nb cb : Nat) (u : Int × Int × Int) (ab bb : Wm.Bs) (w : World) (hsa : Sl w 128 A na (U ab)) (hsb : Sl w 128 B nb (U bb)) (hba : Wm.isBs ab) (hbb : Wm.isBs bb) (hw : isW u) :
    Calls Try.prog 8 #[.agg #[.slice A na ca], .agg #[.slice B nb cb], .agg (Wc u).toArray] w fun e w' => e = .returned (.bool true) ∧ Later w w' := by
  obtain ⟨a, s, v⟩ := u
  by_cases h1 : 1 ≤ na ∧ na ≤ 64
  · by_cases h2 : 1 ≤ nb ∧ nb ≤ 64
    · have hla : ab.length = na * 128 := by have := hsa.1; rwa [U_length] at this
      by_cases ht : Mm.There (na * 128) a s
      · have e : Mm.st ab a s v = Mm.put ab a.toNat (Mm.el s.toNat v) := by unfold Mm.st; rw [hla, if_pos ht]
        rcases Mm.diff_st hla (v := v) (by rw [hla]; exact ht) with h | h
        · exact diffs_zero A na ca B nb cb a s v ab bb w hsa hsb hba hbb h1 h2 hw (by rw [e]; exact h)
        · exact diffs_one A na ca B nb cb a s v ab bb w hsa hsb hba hbb h1 h2 hw ht (by rw [e]; exact h)
      · have e : Mm.st ab a s v = ab := by unfold Mm.st; rw [hla, if_neg ht]
        exact diffs_zero A na ca B nb cb a s v ab bb w hsa hsb hba hbb h1 h2 hw (by rw [e]; exact (Mm.diff_nil hla hla).2 rfl)
    · exact diffs_bad2 A na ca B nb cb a s v w h1 h2
  · exact diffs_bad1 A na ca B nb cb a s v w h1

set_option maxRecDepth 100000 in
theorem memoryDiffs_lifted (os : Os) (started : os.Started) (H : Type) (enc : TypeId × Value → H) :
    ReturnsInHanded {} Try.checked os 8 .any (Rows.memoryDiffsSpec.pre6 enc Try.prog Try.f8 Rows.memoryDiffsRow.domain false) (Rows.memoryDiffsSpec.post enc Try.prog Try.f8 false true false false) := by
  refine returnsInHanded_of_change (C := Try.checked) ownK started (by kernel_rfl) Try.func8
    (ChangeSpec.witness6 (enc := enc) (C := Try.checked) false ⟨#[], #[.agg #[.slice none 0 0], .agg #[.slice none 0 0], .agg #[.int .i64 0, .int .i64 0, .int .u32 0]], []⟩ 8 (by kernel_rfl) (by kernel_rfl) (by kernel_rfl) (by kernel_rfl)) ?_
  intro W base args ds gs before hval0 hW hcnd _
  have hval : ∀ (j : Nat) t v, Try.f8.params[j]? = some t → args[j]? = some v → Value.okWide Try.prog W .any base t v := hval0
  have hW' := hW
  obtain ⟨p, q, hA0, hV, rfl, hfz, hnd⟩ := hW
  have hA : DataW.TrodAll enc Try.prog W 0 (fun _ => true) true Try.f8.params.toList args.toList ds p := hA0
  rw [Try.params8] at hA hval
  obtain ⟨v0, vs0, d0, ds0, p0, q0, hargs, rfl, rfl, h0, r0⟩ := trodAll_cons hA
  obtain ⟨v1, vs1, d1, ds1, p1, q1, rfl, rfl, rfl, h1, r1⟩ := trodAll_cons r0
  obtain ⟨v2, vs2, d2, ds2, p2, q2, rfl, rfl, rfl, h2, r2⟩ := trodAll_cons r1
  obtain ⟨rfl, rfl, rfl⟩ := trodAll_nil r2
  obtain rfl : args = #[v0, v1, v2] := by cases args; simp_all
  obtain ⟨rfl, rfl⟩ := trodVars_none hV
  obtain ⟨A0, n0, c0, b0, rfl, x0, y0, s0, z0⟩ := mem_arg (K := 128) (by omega) Try.underlying24 rfl Try.underlying22 Try.underlying79 Try.underlying5 (by kernel_rfl) (by kernel_rfl) (by kernel_rfl) (by kernel_rfl) (hval 0 24 v0 rfl rfl) h0
  obtain ⟨A1, n1, c1, b1, rfl, x1, y1, s1, z1⟩ := mem_arg (K := 128) (by omega) Try.underlying24 rfl Try.underlying22 Try.underlying79 Try.underlying5 (by kernel_rfl) (by kernel_rfl) (by kernel_rfl) (by kernel_rfl) (hval 1 24 v1 rfl rfl) h1
  obtain ⟨u2, rfl, z2⟩ := write_arg Try.underlying27 rfl rfl rfl Try.underlying3 Try.underlying3 Try.underlying25 (by kernel_rfl) (by kernel_rfl) (by kernel_rfl) (by kernel_rfl) (hval 2 27 v2 rfl rfl) h2
  clear hA0 hval0
  simp only [List.append_nil] at hW'
  refine (diffs_all A0 n0 c0 A1 n1 c1 u2 b0 b1 W s0 s1 z0 z1 z2).mono fun e W' ⟨he, hw⟩ => ?_
  subst he
  exact ⟨_, rfl, law_post laidK rfl (by kernel_rfl) (by kernel_rfl) Try.underlying4 (by kernel_rfl) hW' rfl hw⟩
set_option maxRecDepth 100000 in
/-- The statement. -/
theorem memoryDiffs_said : Rows.MemoryDiffsSaid :=
  OpenClaim.holds_of_wide 8 Try.f8 rfl rfl rfl rfl rfl rfl rfl ⟨rfl, rfl, rfl, rfl, rfl⟩ rfl rfl rfl rfl rfl (by kernel_rfl) Try.func8 (by kernel_rfl)
    (of_decide_eq_true (by kernel_rfl)) (by unfold Func.isWrapper; first | (rw [if_pos (by decide +kernel)]; kernel_rfl) | (rw [if_neg (by decide +kernel)]; exact ⟨rfl, rfl⟩))
    (fun os started H enc _ => memoryDiffs_lifted os started H enc)
#print axioms memoryDiffs_said
end Go.Proofs.Ytaihfkcoiagdaaa
