/-
  THE WALK OF the statements' sanity check: the chapter's examples.
-/
import Derived.Test.YtbnlpkjjdijfmabDoorIsaJ
import Derived.Test.YtbnlpkjjdijfmabDoorIsaE
import Derived.Test.YtbnlpkjjdijfmabDoorIsaF
namespace Go.Proofs.YtbnlpkjjdijfmabDoor
open Go.RowKit Go.ChangeShapes Go.WideShapes Go.ChangeAt

theorem ms2 (x y : Int) : [x, y].mergeSort (fun x y => decide (x ≤ y)) = if x ≤ y then [x, y] else [y, x] := by
  simp [List.mergeSort, List.MergeSort.Internal.splitInTwo, List.merge]
theorem v_regs1 : regsI [3, 2] = [2, 3] := by
  have h : pushes [3, 2] = [3, 2] := by decide +kernel
  unfold regsI
  rw [h, ms2]
  decide
theorem v_regs2 : regsI [3, 3] = [3] := by
  have h : pushes [3, 3] = [3] := by decide +kernel
  unfold regsI
  rw [h]
  simp
section
variable (w : World) (tab : Tab w)
include tab
theorem s_e1 (w' : World) (hl : Later w w') : Calls Tryd.prog 9 #[.agg #[.int .i64 1, .int .i64 1, .int .i64 2, .int .i64 3, .int .i64 0]] w' fun e w'' => e = .returned (.tuple #[.int .u32 71876608, .int .i64 0]) ∧ Later w' w'' := by
  have h := encode_any ⟨1, 1, 2, 3, 0⟩ w' (tab.keep hl)
  rwa [show encW ⟨1, 1, 2, 3, 0⟩ = 71876608 by decide +kernel, show encE ⟨1, 1, 2, 3, 0⟩ = 0 by decide +kernel] at h
theorem s_e2 (w' : World) (hl : Later w w') : Calls Tryd.prog 9 #[.agg #[.int .i64 16, .int .i64 1, .int .i64 0, .int .i64 0, .int .i64 (-1)]] w' fun e w'' => e = .returned (.tuple #[.int .u32 1078198271, .int .i64 0]) ∧ Later w' w'' := by
  have h := encode_any ⟨16, 1, 0, 0, -1⟩ w' (tab.keep hl)
  rwa [show encW ⟨16, 1, 0, 0, -1⟩ = 1078198271 by decide +kernel, show encE ⟨16, 1, 0, 0, -1⟩ = 0 by decide +kernel] at h
theorem s_e3 (w' : World) (hl : Later w w') : Calls Tryd.prog 9 #[.agg #[.int .i64 48, .int .i64 0, .int .i64 0, .int .i64 0, .int .i64 0]] w' fun e w'' => e = .returned (.tuple #[.int .u32 3221225472, .int .i64 0]) ∧ Later w' w'' := by
  have h := encode_any ⟨48, 0, 0, 0, 0⟩ w' (tab.keep hl)
  rwa [show encW ⟨48, 0, 0, 0, 0⟩ = 3221225472 by decide +kernel, show encE ⟨48, 0, 0, 0, 0⟩ = 0 by decide +kernel] at h
theorem s_d1 (w' : World) (hl : Later w w') : Calls Tryd.prog 21 #[.int .u32 71876608] w' fun e w'' => e = .returned (.tuple #[.agg #[.int .i64 1, .int .i64 1, .int .i64 2, .int .i64 3, .int .i64 0], .bool true]) ∧ Later w' w'' := by
  have h := decode_any 71876608 (by decide) w' (tab.keep hl)
  rwa [show decI 71876608 = ⟨1, 1, 2, 3, 0⟩ by decide +kernel, show decide (Im.Legal 71876608) = true by decide +kernel] at h
theorem s_d2 (w' : World) (hl : Later w w') : Calls Tryd.prog 21 #[.int .u32 71876609] w' fun e w'' => e = .returned (.tuple #[.agg #[.int .i64 0, .int .i64 0, .int .i64 0, .int .i64 0, .int .i64 0], .bool false]) ∧ Later w' w'' := by
  have h := decode_any 71876609 (by decide) w' (tab.keep hl)
  rwa [show decI 71876609 = ⟨0, 0, 0, 0, 0⟩ by decide +kernel, show decide (Im.Legal 71876609) = false by decide +kernel] at h
theorem s_d3 (w' : World) (hl : Later w w') : Calls Tryd.prog 21 #[.int .u32 0] w' fun e w'' => e = .returned (.tuple #[.agg #[.int .i64 0, .int .i64 0, .int .i64 0, .int .i64 0, .int .i64 0], .bool false]) ∧ Later w' w'' := by
  have h := decode_any 0 (by decide) w' (tab.keep hl)
  rwa [show decI 0 = ⟨0, 0, 0, 0, 0⟩ by decide +kernel, show decide (Im.Legal 0) = false by decide +kernel] at h
theorem s_d4 (w' : World) (hl : Later w w') : Calls Tryd.prog 21 #[.int .u32 4294967295] w' fun e w'' => e = .returned (.tuple #[.agg #[.int .i64 0, .int .i64 0, .int .i64 0, .int .i64 0, .int .i64 0], .bool false]) ∧ Later w' w'' := by
  have h := decode_any 4294967295 (by decide) w' (tab.keep hl)
  rwa [show decI 4294967295 = ⟨0, 0, 0, 0, 0⟩ by decide +kernel, show decide (Im.Legal 4294967295) = false by decide +kernel] at h
theorem s_t1 (w' : World) (hl : Later w w') : Calls Tryd.prog 14 #[.int .u32 8, .agg #[.int .i64 28, .int .i64 1, .int .i64 1, .int .i64 0, .int .i64 (-2)]] w' fun e w'' => e = .returned (.tuple #[.int .u32 0, .bool true]) ∧ Later w' w'' := by
  have h := target_any 8 ⟨28, 1, 1, 0, -2⟩ (by decide +kernel) w' (tab.keep hl)
  rwa [show targI 8 ⟨28, 1, 1, 0, -2⟩ = 0 by decide +kernel, show isT (Im.I.mk 28 1 1 0 (-2)).op = true by decide +kernel] at h
theorem s_t2 (w' : World) (hl : Later w w') : Calls Tryd.prog 14 #[.int .u32 4, .agg #[.int .i64 28, .int .i64 1, .int .i64 1, .int .i64 0, .int .i64 (-2)]] w' fun e w'' => e = .returned (.tuple #[.int .u32 4294967292, .bool true]) ∧ Later w' w'' := by
  have h := target_any 4 ⟨28, 1, 1, 0, -2⟩ (by decide +kernel) w' (tab.keep hl)
  rwa [show targI 4 ⟨28, 1, 1, 0, -2⟩ = 4294967292 by decide +kernel, show isT (Im.I.mk 28 1 1 0 (-2)).op = true by decide +kernel] at h
theorem s_r1 (w' : World) (hl : Later w w') : Calls Tryd.prog 17 #[.agg #[.int .i64 21, .int .i64 3, .int .i64 2, .int .i64 0, .int .i64 0]] w' (MadeI [2, 3] w') := by
  have h := reads_any ⟨21, 3, 2, 0, 0⟩ (by decide +kernel) w' (tab.keep hl)
  rwa [show readL ⟨21, 3, 2, 0, 0⟩ = [2, 3] from v_regs1] at h
theorem s_r2 (w' : World) (hl : Later w w') : Calls Tryd.prog 17 #[.agg #[.int .i64 24, .int .i64 3, .int .i64 3, .int .i64 0, .int .i64 4]] w' (MadeI [3] w') := by
  have h := reads_any ⟨24, 3, 3, 0, 4⟩ (by decide +kernel) w' (tab.keep hl)
  rwa [show readL ⟨24, 3, 3, 0, 4⟩ = [3] from v_regs2] at h
theorem s_w1 (w' : World) (hl : Later w w') : Calls Tryd.prog 19 #[.agg #[.int .i64 21, .int .i64 3, .int .i64 2, .int .i64 0, .int .i64 0]] w' fun e w'' => e = .returned (.int .i64 0) ∧ Later w' w'' := by
  have h := writes_any ⟨21, 3, 2, 0, 0⟩ (by decide +kernel) w' (tab.keep hl)
  rwa [show writeI ⟨21, 3, 2, 0, 0⟩ = 0 by decide +kernel] at h
theorem s_w2 (w' : World) (hl : Later w w') : Calls Tryd.prog 19 #[.agg #[.int .i64 24, .int .i64 3, .int .i64 3, .int .i64 0, .int .i64 4]] w' fun e w'' => e = .returned (.int .i64 3) ∧ Later w' w'' := by
  have h := writes_any ⟨24, 3, 3, 0, 4⟩ (by decide +kernel) w' (tab.keep hl)
  rwa [show writeI ⟨24, 3, 3, 0, 4⟩ = 3 by decide +kernel] at h
theorem s_f (w' : World) (hl : Later w w') : Calls Tryd.prog 31 #[.string ⟨#[104, 97, 108, 116]⟩] w' fun e w'' => e = .returned (.int .i64 48) ∧ Later w' w'' := by
  have h := find_any ⟨#[104, 97, 108, 116]⟩ w' (tab.keep hl)
  rwa [show findI ⟨#[104, 97, 108, 116]⟩ = 48 by decide +kernel] at h
theorem s_n (w' : World) (hl : Later w w') : Calls Tryd.prog 27 #[.int .i64 4] w' fun e w'' => e = .returned (.string ⟨#[111, 114]⟩) ∧ Later w' w'' := by
  have h := name_any 4 w' (tab.keep hl)
  rwa [show Im.name 4 = ⟨#[111, 114]⟩ by decide +kernel] at h
end
theorem s_eq (w : World) : (Op.equalIn 10000 23 (.agg #[.int .i64 1, .int .i64 1, .int .i64 2, .int .i64 3, .int .i64 0]) (.agg #[.int .i64 1, .int .i64 1, .int .i64 2, .int .i64 3, .int .i64 0])).run Tryd.prog w = .ok true w := by
  have h := ins_eq ⟨1, 1, 2, 3, 0⟩ ⟨1, 1, 2, 3, 0⟩ w
  rw [decide_eq_true rfl] at h
  exact h
theorem same_lit (A : Option Addr) (n c B m : Nat) (l : List Int) (w : World) (h1 : Sl w 1 A n (N64 l)) (h2 : Blk w B 3 (N64 l)) (hm : m = l.length) (hn : l.length ≤ 10) :
    Calls Tryd.prog 16 #[.slice A n c, .slice (some ⟨B, 0, none⟩) m m] w fun e w' => e = .returned (.bool true) ∧ Later w w' := by
  have hs : Sl w 1 (some ⟨B, 0, none⟩) m (N64 l) := by
    have h3 := h2.sl 0 m (by simp [N64]; omega)
    rwa [List.drop_zero, List.take_of_length_le (by simp [N64]; omega)] at h3
  have hl := h1.mlen
  have h := sameInts_any A (some ⟨B, 0, none⟩) n c m m l l w h1 hs (by unfold maxLen; omega) (by unfold maxLen; omega)
  rwa [decide_eq_true rfl] at h

set_option maxRecDepth 100000 in
set_option maxHeartbeats 4000000 in
theorem sanity_any (w : World) (tab : Tab w) : Calls Tryd.prog 13 #[] w fun e w' => e = .returned (.bool true) ∧ Later w w' := by
  have E1 := Lib.hid (s_e1 w tab); have E2 := Lib.hid (s_e2 w tab); have E3 := Lib.hid (s_e3 w tab)
  have D1 := Lib.hid (s_d1 w tab); have D2 := Lib.hid (s_d2 w tab); have D3 := Lib.hid (s_d3 w tab); have D4 := Lib.hid (s_d4 w tab)
  have T1 := Lib.hid (s_t1 w tab); have T2 := Lib.hid (s_t2 w tab); have R1 := Lib.hid (s_r1 w tab); have R2 := Lib.hid (s_r2 w tab)
  have W1 := Lib.hid (s_w1 w tab); have W2 := Lib.hid (s_w2 w tab); have FI := Lib.hid (s_f w tab); have NA := Lib.hid (s_n w tab)
  have heq := s_eq
  have hgd : Tryd.prog.eqGuardType Tryd.prog.depth 23 = false := by kernel_rfl
  clear tab
  go_enter Tryd.func13, Tryd.ntmps13
  go_wp2_with (first
    | (go_at_call 9; (with_reducible refine (E3.out w2 l2).mono ?_); rintro e w3 ⟨rfl, h3⟩; have l3 := Later.trans_ l2 h3; have y3 := y2.keep h3)
    | (go_at_call 9; (with_reducible refine (E2.out w1 l1).mono ?_); rintro e w2 ⟨rfl, h2⟩; have l2 := Later.trans_ l1 h2; have y2 := y1.keep h2)
    | (go_at_call 9; (with_reducible refine (E1.out _ (later1 _ _)).mono ?_); rintro e w1 ⟨rfl, h1⟩; have l1 := Later.trans_ (later1 _ _) h1; have y1 : Blk w1 w.heap.size 23 (Im.I.cells ⟨1, 1, 2, 3, 0⟩) := (Blk.new _ _ _ _ rfl).keep h1)
    | (go_at_call 21; (with_reducible refine (D4.out _ (l6.alloc l6.size _)).mono ?_); rintro e w7 ⟨rfl, h7⟩; have l7 := Later.trans_ (l6.alloc l6.size _) h7; have y7 := (y6.alloc _).keep h7; have z7 := (z6.alloc _).keep h7)
    | (go_at_call 21; (with_reducible refine (D3.out _ (l5.alloc l5.size _)).mono ?_); rintro e w6 ⟨rfl, h6⟩; have l6 := Later.trans_ (l5.alloc l5.size _) h6; have y6 := (y5.alloc _).keep h6; have z6 := (z5.alloc _).keep h6)
    | (go_at_call 21; (with_reducible refine (D2.out _ (l4.alloc l4.size _)).mono ?_); rintro e w5 ⟨rfl, h5⟩; have l5 := Later.trans_ (l4.alloc l4.size _) h5; have y5 := (y4.alloc _).keep h5; have z5 : Blk w5 w4.heap.size 23 (Im.I.cells ⟨1, 1, 2, 3, 0⟩) := (Blk.new _ _ _ _ rfl).keep h5)
    | (go_at_call 21; (with_reducible refine (D1.out w3 l3).mono ?_); rintro e w4 ⟨rfl, h4⟩; have l4 := Later.trans_ l3 h4; have y4 := y3.keep h4)
    | (go_at_call 14; (with_reducible refine (T2.out w8 l8).mono ?_); rintro e w9 ⟨rfl, h9⟩; have l9 := Later.trans_ l8 h9; obtain ⟨c0, c1, c2, c3, c4⟩ := (y8.keep h9).box; obtain ⟨d0, d1, d2, d3, d4⟩ := (z8.keep h9).box)
    | (go_at_call 14; (with_reducible refine (T1.out _ ((l7.alloc l7.size _).alloc (by have := l7.size; simp; omega) _)).mono ?_); rintro e w8 ⟨rfl, h8⟩; have l8 := Later.trans_ ((l7.alloc l7.size _).alloc (by have := l7.size; simp; omega) _) h8; have y8 := ((y7.alloc _).alloc _).keep h8; have z8 := ((z7.alloc _).alloc _).keep h8; have x8 : Blk w8 (w7.heap.size + 1) 23 (Im.I.cells ⟨28, 1, 1, 0, -2⟩) := (Blk.new' _ _ _ _ _ (by simp) rfl).keep h8; obtain ⟨b0, b1, b2, b3, b4⟩ := x8.box; clear x8)
    | (go_at_call 17; (with_reducible refine (R2.out w12 l12).mono ?_); rintro e w13 ⟨A2, q2, rfl, -, -, m2, h13⟩; replace m2 : Sl w13 1 A2 1 (N64 [3]) := m2; have l13 := Later.trans_ l12 h13; have p13 := p12.keep h13)
    | (go_at_call 17; (with_reducible refine (R1.out _ ((l9.alloc l9.size _).alloc (by have := l9.size; simp; omega) _)).mono ?_); rintro e w10 ⟨A1, q1, rfl, -, -, m1, h10⟩; replace m1 : Sl w10 1 A1 2 (N64 [2, 3]) := m1; have l10 := Later.trans_ ((l9.alloc l9.size _).alloc (by have := l9.size; simp; omega) _) h10; have o10 : Blk w10 w9.heap.size 23 (Im.I.cells ⟨21, 3, 2, 0, 0⟩) := ((Blk.new _ _ _ _ rfl).alloc _).keep h10; have p10 : Blk w10 (w9.heap.size + 1) 23 (Im.I.cells ⟨24, 3, 3, 0, 4⟩) := (Blk.new' _ _ _ _ _ (by simp) rfl).keep h10)
    | (go_at_call 16; (with_reducible refine (same_lit A2 _ q2 w13.heap.size 1 [3] _ (m2.alloc _) ?_ ?_ ?_).mono ?_); exact Blk.new _ _ _ _ rfl; rfl; decide; rintro e w14 ⟨rfl, h14⟩; have l14 := Later.trans_ (l13.alloc l13.size _) h14; obtain ⟨r0, r1, r2, r3, r4⟩ := ((p13.alloc _).keep h14).box)
    | (go_at_call 16; (with_reducible refine (same_lit A1 _ q1 w10.heap.size 2 [2, 3] _ (m1.alloc _) ?_ ?_ ?_).mono ?_); exact Blk.new _ _ _ _ rfl; rfl; decide; rintro e w11 ⟨rfl, h11⟩; have l11 := Later.trans_ (l10.alloc l10.size _) h11; obtain ⟨g0, g1, g2, g3, g4⟩ := ((o10.alloc _).keep h11).box; have p11 := (p10.alloc _).keep h11)
    | (go_at_call 19; (with_reducible refine (W2.out w14 l14).mono ?_); rintro e w15 ⟨rfl, h15⟩; have l15 := Later.trans_ l14 h15)
    | (go_at_call 19; (with_reducible refine (W1.out w11 l11).mono ?_); rintro e w12 ⟨rfl, h12⟩; have l12 := Later.trans_ l11 h12; have p12 := p11.keep h12; obtain ⟨f0, f1, f2, f3, f4⟩ := p12.box)
    | (go_at_call 31; (with_reducible refine (FI.out w15 l15).mono ?_); rintro e w16 ⟨rfl, h16⟩; have l16 := Later.trans_ l15 h16)
    | (go_at_call 27; (with_reducible refine (NA.out w16 l16).mono ?_); rintro e w17 ⟨rfl, h17⟩; have l17 := Later.trans_ l16 h17))
  go_ret
  exact ⟨rfl, l17⟩
end Go.Proofs.YtbnlpkjjdijfmabDoor
