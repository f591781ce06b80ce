/-
  THE STATEMENT IsaWordsAreOneToOne: its walks, by ways.
-/
import Derived.Test.YtbnlpkjjdijfmabDoorIsaK
namespace Go.Proofs.YtbnlpkjjdijfmabDoor
open Go.RowKit Go.ChangeShapes Go.WideShapes Go.ChangeAt

theorem zero_eq (w : World) : (Op.equalIn 10000 23 (.agg #[.int .i64 0, .int .i64 0, .int .i64 0, .int .i64 0, .int .i64 0]) (.agg #[.int .i64 0, .int .i64 0, .int .i64 0, .int .i64 0, .int .i64 0])).run Tryd.prog w = .ok true w := by
  have h := ins_eq ⟨0, 0, 0, 0, 0⟩ ⟨0, 0, 0, 0, 0⟩ w
  rw [decide_eq_true rfl] at h
  exact h
set_option maxRecDepth 100000 in
set_option maxHeartbeats 4000000 in
theorem words_Lnn (W : Int) (X i j : Im.I) (w : World)
    (D1 : Hid (∀ w' : World, Later w w' → Calls Tryd.prog 21 #[.int .u32 W] w' fun e w'' => e = .returned (.tuple #[.agg X.cells.toArray, .bool true]) ∧ Later w' w''))
    (EX : Hid (∀ w' : World, Later w w' → Calls Tryd.prog 9 #[.agg #[.int .i64 X.op, .int .i64 X.a, .int .i64 X.b, .int .i64 X.c, .int .i64 X.imm]] w' fun e w'' => e = .returned (.tuple #[.int .u32 W, .int .i64 0]) ∧ Later w' w''))
    (RX : Hid (∀ w' : World, Later w w' → Calls Tryd.prog 11 #[.agg #[.int .i64 X.op, .int .i64 X.a, .int .i64 X.b, .int .i64 X.c, .int .i64 X.imm]] w' fun e w'' => e = .returned (.bool true) ∧ Later w' w''))
    (EI : Hid (∀ w' : World, Later w w' → Calls Tryd.prog 9 #[.agg #[.int .i64 i.op, .int .i64 i.a, .int .i64 i.b, .int .i64 i.c, .int .i64 i.imm]] w' fun e w'' => e = .returned (.tuple #[.int .u32 0, .int .i64 1]) ∧ Later w' w''))
    (RI : Hid (∀ w' : World, Later w w' → Calls Tryd.prog 11 #[.agg #[.int .i64 i.op, .int .i64 i.a, .int .i64 i.b, .int .i64 i.c, .int .i64 i.imm]] w' fun e w'' => e = .returned (.bool false) ∧ Later w' w''))
    (EJ : Hid (∀ w' : World, Later w w' → Calls Tryd.prog 9 #[.agg #[.int .i64 j.op, .int .i64 j.a, .int .i64 j.b, .int .i64 j.c, .int .i64 j.imm]] w' fun e w'' => e = .returned (.tuple #[.int .u32 0, .int .i64 1]) ∧ Later w' w''))
    (RJ : Hid (∀ w' : World, Later w w' → Calls Tryd.prog 11 #[.agg #[.int .i64 j.op, .int .i64 j.a, .int .i64 j.b, .int .i64 j.c, .int .i64 j.imm]] w' fun e w'' => e = .returned (.bool false) ∧ Later w' w''))
    (SA : Hid (∀ w' : World, Later w w' → Calls Tryd.prog 13 #[] w' fun e w'' => e = .returned (.bool true) ∧ Later w' w'')) :
    Calls Tryd.prog 6 #[.int .u32 W, .agg #[.int .i64 i.op, .int .i64 i.a, .int .i64 i.b, .int .i64 i.c, .int .i64 i.imm], .agg #[.int .i64 j.op, .int .i64 j.a, .int .i64 j.b, .int .i64 j.c, .int .i64 j.imm]] w fun e w' => e = .returned (.bool true) ∧ Later w w' := by
  have hgd : Tryd.prog.eqGuardType Tryd.prog.depth 23 = false := by kernel_rfl
  go_enter Tryd.func6, Tryd.ntmps6
  go_wp2_with (first
    | (go_at_call 9; (with_reducible refine (EJ.out w5 l5).mono ?_); rintro e w6 ⟨rfl, h6⟩; have l6 := Later.trans_ l5 h6; have i6 := i5.keep h6; have j6 := j5.keep h6; obtain ⟨d0, d1, d2, d3, d4⟩ := i6.box)
    | (go_at_call 9; (with_reducible refine (EI.out w4 l4).mono ?_); rintro e w5 ⟨rfl, h5⟩; have l5 := Later.trans_ l4 h5; have i5 := i4.keep h5; have j5 := j4.keep h5; obtain ⟨c0, c1, c2, c3, c4⟩ := j5.box)
    | (go_at_call 11; (with_reducible refine (RJ.out w7 l7).mono ?_); rintro e w8 ⟨rfl, h8⟩; have l8 := Later.trans_ l7 h8; have i8 := i7.keep h8; have j8 := j7.keep h8)
    | (go_at_call 11; (with_reducible refine (RI.out w6 l6).mono ?_); rintro e w7 ⟨rfl, h7⟩; have l7 := Later.trans_ l6 h7; have i7 := i6.keep h7; have j7 := j6.keep h7; obtain ⟨e0, e1, e2, e3, e4⟩ := j7.box)
    | (go_at_call 13; (with_reducible refine (SA.out w8 l8).mono ?_); rintro e w9 ⟨rfl, h9⟩; have l9 := Later.trans_ l8 h9)
    | (go_at_call 21; (with_reducible refine (D1.out _ ((later1 w _).alloc (by simp) _)).mono ?_); rintro e w1 ⟨rfl, h1⟩; have l1 := Later.trans_ ((later1 w _).alloc (by simp) _) h1; have i1 : Blk w1 w.heap.size 23 (Im.I.cells i) := ((Blk.new _ _ _ _ rfl).alloc _).keep h1; have j1 : Blk w1 (w.heap.size + 1) 23 (Im.I.cells j) := (Blk.new' _ _ _ _ _ (by simp) rfl).keep h1)
    | ((with_reducible refine wpList_store_abs (o := ⟨none, .store 23 (.tmp 7) (.tmp 20), _, _, _, none⟩) rfl _ _ _ rfl w1.heap.size 23 (Im.I.cells ⟨0, 0, 0, 0, 0⟩) X.cells ?_ ?_ ?_ (ins_sz _) (ins_len _ _) (ins_one _) ?_); rfl; rfl; exact Blk.new _ _ _ _ rfl; intro w2 x2 o2; have l2 : Later w w2 := Below.only (l1.alloc l1.size _) o2 l1.size; have i2 := (i1.alloc _).only o2 (Nat.ne_of_lt i1.lt); have j2 := (j1.alloc _).only o2 (Nat.ne_of_lt j1.lt); clear o2; obtain ⟨x20, x21, x22, x23, x24⟩ := x2.box)
    | (go_at_call 9; (with_reducible refine (EX.out w2 l2).mono ?_); rintro e w3 ⟨rfl, h3⟩; have l3 := Later.trans_ l2 h3; have i3 := i2.keep h3; have j3 := j2.keep h3; clear x20 x21 x22 x23 x24; obtain ⟨x20, x21, x22, x23, x24⟩ := (x2.keep h3).box)
    | (go_at_call 11; (with_reducible refine (RX.out w3 l3).mono ?_); rintro e w4 ⟨rfl, h4⟩; have l4 := Later.trans_ l3 h4; have i4 := i3.keep h4; have j4 := j3.keep h4; clear x20 x21 x22 x23 x24; obtain ⟨a40, a41, a42, a43, a44⟩ := i4.box))
  go_ret
  exact ⟨rfl, l9⟩
set_option maxRecDepth 100000 in
set_option maxHeartbeats 4000000 in
theorem words_Lnr (W B : Int) (X i j : Im.I) (w : World)
    (D1 : Hid (∀ w' : World, Later w w' → Calls Tryd.prog 21 #[.int .u32 W] w' fun e w'' => e = .returned (.tuple #[.agg X.cells.toArray, .bool true]) ∧ Later w' w''))
    (EX : Hid (∀ w' : World, Later w w' → Calls Tryd.prog 9 #[.agg #[.int .i64 X.op, .int .i64 X.a, .int .i64 X.b, .int .i64 X.c, .int .i64 X.imm]] w' fun e w'' => e = .returned (.tuple #[.int .u32 W, .int .i64 0]) ∧ Later w' w''))
    (RX : Hid (∀ w' : World, Later w w' → Calls Tryd.prog 11 #[.agg #[.int .i64 X.op, .int .i64 X.a, .int .i64 X.b, .int .i64 X.c, .int .i64 X.imm]] w' fun e w'' => e = .returned (.bool true) ∧ Later w' w''))
    (EI : Hid (∀ w' : World, Later w w' → Calls Tryd.prog 9 #[.agg #[.int .i64 i.op, .int .i64 i.a, .int .i64 i.b, .int .i64 i.c, .int .i64 i.imm]] w' fun e w'' => e = .returned (.tuple #[.int .u32 0, .int .i64 1]) ∧ Later w' w''))
    (RI : Hid (∀ w' : World, Later w w' → Calls Tryd.prog 11 #[.agg #[.int .i64 i.op, .int .i64 i.a, .int .i64 i.b, .int .i64 i.c, .int .i64 i.imm]] w' fun e w'' => e = .returned (.bool false) ∧ Later w' w''))
    (EJ : Hid (∀ w' : World, Later w w' → Calls Tryd.prog 9 #[.agg #[.int .i64 j.op, .int .i64 j.a, .int .i64 j.b, .int .i64 j.c, .int .i64 j.imm]] w' fun e w'' => e = .returned (.tuple #[.int .u32 B, .int .i64 0]) ∧ Later w' w''))
    (RJ : Hid (∀ w' : World, Later w w' → Calls Tryd.prog 11 #[.agg #[.int .i64 j.op, .int .i64 j.a, .int .i64 j.b, .int .i64 j.c, .int .i64 j.imm]] w' fun e w'' => e = .returned (.bool true) ∧ Later w' w''))
    (SA : Hid (∀ w' : World, Later w w' → Calls Tryd.prog 13 #[] w' fun e w'' => e = .returned (.bool true) ∧ Later w' w'')) :
    Calls Tryd.prog 6 #[.int .u32 W, .agg #[.int .i64 i.op, .int .i64 i.a, .int .i64 i.b, .int .i64 i.c, .int .i64 i.imm], .agg #[.int .i64 j.op, .int .i64 j.a, .int .i64 j.b, .int .i64 j.c, .int .i64 j.imm]] w fun e w' => e = .returned (.bool true) ∧ Later w w' := by
  have hgd : Tryd.prog.eqGuardType Tryd.prog.depth 23 = false := by kernel_rfl
  go_enter Tryd.func6, Tryd.ntmps6
  go_wp2_with (first
    | (go_at_call 9; (with_reducible refine (EJ.out w5 l5).mono ?_); rintro e w6 ⟨rfl, h6⟩; have l6 := Later.trans_ l5 h6; have i6 := i5.keep h6; have j6 := j5.keep h6; obtain ⟨d0, d1, d2, d3, d4⟩ := i6.box)
    | (go_at_call 9; (with_reducible refine (EI.out w4 l4).mono ?_); rintro e w5 ⟨rfl, h5⟩; have l5 := Later.trans_ l4 h5; have i5 := i4.keep h5; have j5 := j4.keep h5; obtain ⟨c0, c1, c2, c3, c4⟩ := j5.box)
    | (go_at_call 11; (with_reducible refine (RJ.out w7 l7).mono ?_); rintro e w8 ⟨rfl, h8⟩; have l8 := Later.trans_ l7 h8; have i8 := i7.keep h8; have j8 := j7.keep h8)
    | (go_at_call 11; (with_reducible refine (RI.out w6 l6).mono ?_); rintro e w7 ⟨rfl, h7⟩; have l7 := Later.trans_ l6 h7; have i7 := i6.keep h7; have j7 := j6.keep h7; obtain ⟨e0, e1, e2, e3, e4⟩ := j7.box)
    | (go_at_call 13; (with_reducible refine (SA.out w8 l8).mono ?_); rintro e w9 ⟨rfl, h9⟩; have l9 := Later.trans_ l8 h9)
    | (go_at_call 21; (with_reducible refine (D1.out _ ((later1 w _).alloc (by simp) _)).mono ?_); rintro e w1 ⟨rfl, h1⟩; have l1 := Later.trans_ ((later1 w _).alloc (by simp) _) h1; have i1 : Blk w1 w.heap.size 23 (Im.I.cells i) := ((Blk.new _ _ _ _ rfl).alloc _).keep h1; have j1 : Blk w1 (w.heap.size + 1) 23 (Im.I.cells j) := (Blk.new' _ _ _ _ _ (by simp) rfl).keep h1)
    | ((with_reducible refine wpList_store_abs (o := ⟨none, .store 23 (.tmp 7) (.tmp 20), _, _, _, none⟩) rfl _ _ _ rfl w1.heap.size 23 (Im.I.cells ⟨0, 0, 0, 0, 0⟩) X.cells ?_ ?_ ?_ (ins_sz _) (ins_len _ _) (ins_one _) ?_); rfl; rfl; exact Blk.new _ _ _ _ rfl; intro w2 x2 o2; have l2 : Later w w2 := Below.only (l1.alloc l1.size _) o2 l1.size; have i2 := (i1.alloc _).only o2 (Nat.ne_of_lt i1.lt); have j2 := (j1.alloc _).only o2 (Nat.ne_of_lt j1.lt); clear o2; obtain ⟨x20, x21, x22, x23, x24⟩ := x2.box)
    | (go_at_call 9; (with_reducible refine (EX.out w2 l2).mono ?_); rintro e w3 ⟨rfl, h3⟩; have l3 := Later.trans_ l2 h3; have i3 := i2.keep h3; have j3 := j2.keep h3; clear x20 x21 x22 x23 x24; obtain ⟨x20, x21, x22, x23, x24⟩ := (x2.keep h3).box)
    | (go_at_call 11; (with_reducible refine (RX.out w3 l3).mono ?_); rintro e w4 ⟨rfl, h4⟩; have l4 := Later.trans_ l3 h4; have i4 := i3.keep h4; have j4 := j3.keep h4; clear x20 x21 x22 x23 x24; obtain ⟨a40, a41, a42, a43, a44⟩ := i4.box))
  go_ret
  exact ⟨rfl, l9⟩
set_option maxRecDepth 100000 in
set_option maxHeartbeats 4000000 in
theorem words_Lrn (W A : Int) (X i j : Im.I) (w : World)
    (D1 : Hid (∀ w' : World, Later w w' → Calls Tryd.prog 21 #[.int .u32 W] w' fun e w'' => e = .returned (.tuple #[.agg X.cells.toArray, .bool true]) ∧ Later w' w''))
    (EX : Hid (∀ w' : World, Later w w' → Calls Tryd.prog 9 #[.agg #[.int .i64 X.op, .int .i64 X.a, .int .i64 X.b, .int .i64 X.c, .int .i64 X.imm]] w' fun e w'' => e = .returned (.tuple #[.int .u32 W, .int .i64 0]) ∧ Later w' w''))
    (RX : Hid (∀ w' : World, Later w w' → Calls Tryd.prog 11 #[.agg #[.int .i64 X.op, .int .i64 X.a, .int .i64 X.b, .int .i64 X.c, .int .i64 X.imm]] w' fun e w'' => e = .returned (.bool true) ∧ Later w' w''))
    (EI : Hid (∀ w' : World, Later w w' → Calls Tryd.prog 9 #[.agg #[.int .i64 i.op, .int .i64 i.a, .int .i64 i.b, .int .i64 i.c, .int .i64 i.imm]] w' fun e w'' => e = .returned (.tuple #[.int .u32 A, .int .i64 0]) ∧ Later w' w''))
    (RI : Hid (∀ w' : World, Later w w' → Calls Tryd.prog 11 #[.agg #[.int .i64 i.op, .int .i64 i.a, .int .i64 i.b, .int .i64 i.c, .int .i64 i.imm]] w' fun e w'' => e = .returned (.bool true) ∧ Later w' w''))
    (EJ : Hid (∀ w' : World, Later w w' → Calls Tryd.prog 9 #[.agg #[.int .i64 j.op, .int .i64 j.a, .int .i64 j.b, .int .i64 j.c, .int .i64 j.imm]] w' fun e w'' => e = .returned (.tuple #[.int .u32 0, .int .i64 1]) ∧ Later w' w''))
    (RJ : Hid (∀ w' : World, Later w w' → Calls Tryd.prog 11 #[.agg #[.int .i64 j.op, .int .i64 j.a, .int .i64 j.b, .int .i64 j.c, .int .i64 j.imm]] w' fun e w'' => e = .returned (.bool false) ∧ Later w' w''))
    (SA : Hid (∀ w' : World, Later w w' → Calls Tryd.prog 13 #[] w' fun e w'' => e = .returned (.bool true) ∧ Later w' w''))
    (DA : Hid (∀ w' : World, Later w w' → Calls Tryd.prog 21 #[.int .u32 A] w' fun e w'' => e = .returned (.tuple #[.agg i.cells.toArray, .bool true]) ∧ Later w' w'')) (hii : ∀ w, (Op.equalIn 10000 23 (.agg #[.int .i64 i.op, .int .i64 i.a, .int .i64 i.b, .int .i64 i.c, .int .i64 i.imm]) (.agg #[.int .i64 i.op, .int .i64 i.a, .int .i64 i.b, .int .i64 i.c, .int .i64 i.imm])).run Tryd.prog w = .ok true w) :
    Calls Tryd.prog 6 #[.int .u32 W, .agg #[.int .i64 i.op, .int .i64 i.a, .int .i64 i.b, .int .i64 i.c, .int .i64 i.imm], .agg #[.int .i64 j.op, .int .i64 j.a, .int .i64 j.b, .int .i64 j.c, .int .i64 j.imm]] w fun e w' => e = .returned (.bool true) ∧ Later w w' := by
  have hgd : Tryd.prog.eqGuardType Tryd.prog.depth 23 = false := by kernel_rfl
  go_enter Tryd.func6, Tryd.ntmps6
  go_wp2_with (first
    | (go_at_call 9; (with_reducible refine (EJ.out w5 l5).mono ?_); rintro e w6 ⟨rfl, h6⟩; have l6 := Later.trans_ l5 h6; have i6 := i5.keep h6; have j6 := j5.keep h6; obtain ⟨d0, d1, d2, d3, d4⟩ := i6.box)
    | (go_at_call 9; (with_reducible refine (EI.out w4 l4).mono ?_); rintro e w5 ⟨rfl, h5⟩; have l5 := Later.trans_ l4 h5; have i5 := i4.keep h5; have j5 := j4.keep h5; obtain ⟨c0, c1, c2, c3, c4⟩ := j5.box)
    | (go_at_call 11; (with_reducible refine (RJ.out w7 l7).mono ?_); rintro e w8 ⟨rfl, h8⟩; have l8 := Later.trans_ l7 h8; have i8 := i7.keep h8; have j8 := j7.keep h8)
    | (go_at_call 11; (with_reducible refine (RI.out w6 l6).mono ?_); rintro e w7 ⟨rfl, h7⟩; have l7 := Later.trans_ l6 h7; have i7 := i6.keep h7; have j7 := j6.keep h7; obtain ⟨e0, e1, e2, e3, e4⟩ := j7.box)
    | (go_at_call 21; (with_reducible refine (DA.out w8 l8).mono ?_); rintro e w9 ⟨rfl, h9⟩; have l9 := Later.trans_ l8 h9; have i9 := i8.keep h9; have j9 := j8.keep h9)
    | ((with_reducible refine wpList_store_abs (o := ⟨none, .store 23 (.tmp 15) (.tmp 79), _, _, _, none⟩) rfl _ _ _ rfl w9.heap.size 23 (Im.I.cells ⟨0, 0, 0, 0, 0⟩) i.cells ?_ ?_ ?_ (ins_sz _) (ins_len _ _) (ins_one _) ?_); rfl; rfl; exact Blk.new _ _ _ _ rfl; intro w10 b10 o10; have l10 : Later w w10 := Below.only (l9.alloc l9.size _) o10 l9.size; have i10 := (i9.alloc _).only o10 (Nat.ne_of_lt i9.lt); have j10 := (j9.alloc _).only o10 (Nat.ne_of_lt j9.lt); clear o10)
    | (go_at_call 13; (with_reducible refine (SA.out w10 l10).mono ?_); rintro e w11 ⟨rfl, h11⟩; have l11 := Later.trans_ l10 h11; obtain ⟨q0, q1, q2, q3, q4⟩ := (b10.keep h11).box; obtain ⟨r0, r1, r2, r3, r4⟩ := (i10.keep h11).box; obtain ⟨s0, s1, s2, s3, s4⟩ := (j10.keep h11).box)
    | (go_at_call 21; (with_reducible refine (D1.out _ ((later1 w _).alloc (by simp) _)).mono ?_); rintro e w1 ⟨rfl, h1⟩; have l1 := Later.trans_ ((later1 w _).alloc (by simp) _) h1; have i1 : Blk w1 w.heap.size 23 (Im.I.cells i) := ((Blk.new _ _ _ _ rfl).alloc _).keep h1; have j1 : Blk w1 (w.heap.size + 1) 23 (Im.I.cells j) := (Blk.new' _ _ _ _ _ (by simp) rfl).keep h1)
    | ((with_reducible refine wpList_store_abs (o := ⟨none, .store 23 (.tmp 7) (.tmp 20), _, _, _, none⟩) rfl _ _ _ rfl w1.heap.size 23 (Im.I.cells ⟨0, 0, 0, 0, 0⟩) X.cells ?_ ?_ ?_ (ins_sz _) (ins_len _ _) (ins_one _) ?_); rfl; rfl; exact Blk.new _ _ _ _ rfl; intro w2 x2 o2; have l2 : Later w w2 := Below.only (l1.alloc l1.size _) o2 l1.size; have i2 := (i1.alloc _).only o2 (Nat.ne_of_lt i1.lt); have j2 := (j1.alloc _).only o2 (Nat.ne_of_lt j1.lt); clear o2; obtain ⟨x20, x21, x22, x23, x24⟩ := x2.box)
    | (go_at_call 9; (with_reducible refine (EX.out w2 l2).mono ?_); rintro e w3 ⟨rfl, h3⟩; have l3 := Later.trans_ l2 h3; have i3 := i2.keep h3; have j3 := j2.keep h3; clear x20 x21 x22 x23 x24; obtain ⟨x20, x21, x22, x23, x24⟩ := (x2.keep h3).box)
    | (go_at_call 11; (with_reducible refine (RX.out w3 l3).mono ?_); rintro e w4 ⟨rfl, h4⟩; have l4 := Later.trans_ l3 h4; have i4 := i3.keep h4; have j4 := j3.keep h4; clear x20 x21 x22 x23 x24; obtain ⟨a40, a41, a42, a43, a44⟩ := i4.box))
  go_ret
  exact ⟨rfl, l11⟩
set_option maxRecDepth 100000 in
set_option maxHeartbeats 4000000 in
theorem words_Lrr (W A B : Int) (X i j : Im.I) (w : World)
    (D1 : Hid (∀ w' : World, Later w w' → Calls Tryd.prog 21 #[.int .u32 W] w' fun e w'' => e = .returned (.tuple #[.agg X.cells.toArray, .bool true]) ∧ Later w' w''))
    (EX : Hid (∀ w' : World, Later w w' → Calls Tryd.prog 9 #[.agg #[.int .i64 X.op, .int .i64 X.a, .int .i64 X.b, .int .i64 X.c, .int .i64 X.imm]] w' fun e w'' => e = .returned (.tuple #[.int .u32 W, .int .i64 0]) ∧ Later w' w''))
    (RX : Hid (∀ w' : World, Later w w' → Calls Tryd.prog 11 #[.agg #[.int .i64 X.op, .int .i64 X.a, .int .i64 X.b, .int .i64 X.c, .int .i64 X.imm]] w' fun e w'' => e = .returned (.bool true) ∧ Later w' w''))
    (EI : Hid (∀ w' : World, Later w w' → Calls Tryd.prog 9 #[.agg #[.int .i64 i.op, .int .i64 i.a, .int .i64 i.b, .int .i64 i.c, .int .i64 i.imm]] w' fun e w'' => e = .returned (.tuple #[.int .u32 A, .int .i64 0]) ∧ Later w' w''))
    (RI : Hid (∀ w' : World, Later w w' → Calls Tryd.prog 11 #[.agg #[.int .i64 i.op, .int .i64 i.a, .int .i64 i.b, .int .i64 i.c, .int .i64 i.imm]] w' fun e w'' => e = .returned (.bool true) ∧ Later w' w''))
    (EJ : Hid (∀ w' : World, Later w w' → Calls Tryd.prog 9 #[.agg #[.int .i64 j.op, .int .i64 j.a, .int .i64 j.b, .int .i64 j.c, .int .i64 j.imm]] w' fun e w'' => e = .returned (.tuple #[.int .u32 B, .int .i64 0]) ∧ Later w' w''))
    (RJ : Hid (∀ w' : World, Later w w' → Calls Tryd.prog 11 #[.agg #[.int .i64 j.op, .int .i64 j.a, .int .i64 j.b, .int .i64 j.c, .int .i64 j.imm]] w' fun e w'' => e = .returned (.bool true) ∧ Later w' w''))
    (SA : Hid (∀ w' : World, Later w w' → Calls Tryd.prog 13 #[] w' fun e w'' => e = .returned (.bool true) ∧ Later w' w''))
    (DA : Hid (∀ w' : World, Later w w' → Calls Tryd.prog 21 #[.int .u32 A] w' fun e w'' => e = .returned (.tuple #[.agg i.cells.toArray, .bool true]) ∧ Later w' w'')) (hii : ∀ w, (Op.equalIn 10000 23 (.agg #[.int .i64 i.op, .int .i64 i.a, .int .i64 i.b, .int .i64 i.c, .int .i64 i.imm]) (.agg #[.int .i64 i.op, .int .i64 i.a, .int .i64 i.b, .int .i64 i.c, .int .i64 i.imm])).run Tryd.prog w = .ok true w) (hij : ∀ w, (Op.equalIn 10000 23 (.agg #[.int .i64 i.op, .int .i64 i.a, .int .i64 i.b, .int .i64 i.c, .int .i64 i.imm]) (.agg #[.int .i64 j.op, .int .i64 j.a, .int .i64 j.b, .int .i64 j.c, .int .i64 j.imm])).run Tryd.prog w = .ok false w) (hab : (A == B) = false) :
    Calls Tryd.prog 6 #[.int .u32 W, .agg #[.int .i64 i.op, .int .i64 i.a, .int .i64 i.b, .int .i64 i.c, .int .i64 i.imm], .agg #[.int .i64 j.op, .int .i64 j.a, .int .i64 j.b, .int .i64 j.c, .int .i64 j.imm]] w fun e w' => e = .returned (.bool true) ∧ Later w w' := by
  have hgd : Tryd.prog.eqGuardType Tryd.prog.depth 23 = false := by kernel_rfl
  go_enter Tryd.func6, Tryd.ntmps6
  go_wp2_with (first
    | (go_at_call 9; (with_reducible refine (EJ.out w5 l5).mono ?_); rintro e w6 ⟨rfl, h6⟩; have l6 := Later.trans_ l5 h6; have i6 := i5.keep h6; have j6 := j5.keep h6; obtain ⟨d0, d1, d2, d3, d4⟩ := i6.box)
    | (go_at_call 9; (with_reducible refine (EI.out w4 l4).mono ?_); rintro e w5 ⟨rfl, h5⟩; have l5 := Later.trans_ l4 h5; have i5 := i4.keep h5; have j5 := j4.keep h5; obtain ⟨c0, c1, c2, c3, c4⟩ := j5.box)
    | (go_at_call 11; (with_reducible refine (RJ.out w7 l7).mono ?_); rintro e w8 ⟨rfl, h8⟩; have l8 := Later.trans_ l7 h8; have i8 := i7.keep h8; have j8 := j7.keep h8)
    | (go_at_call 11; (with_reducible refine (RI.out w6 l6).mono ?_); rintro e w7 ⟨rfl, h7⟩; have l7 := Later.trans_ l6 h7; have i7 := i6.keep h7; have j7 := j6.keep h7; obtain ⟨e0, e1, e2, e3, e4⟩ := j7.box)
    | (go_at_call 21; (with_reducible refine (DA.out w8 l8).mono ?_); rintro e w9 ⟨rfl, h9⟩; have l9 := Later.trans_ l8 h9; have i9 := i8.keep h9; have j9 := j8.keep h9)
    | ((with_reducible refine wpList_store_abs (o := ⟨none, .store 23 (.tmp 15) (.tmp 79), _, _, _, none⟩) rfl _ _ _ rfl w9.heap.size 23 (Im.I.cells ⟨0, 0, 0, 0, 0⟩) i.cells ?_ ?_ ?_ (ins_sz _) (ins_len _ _) (ins_one _) ?_); rfl; rfl; exact Blk.new _ _ _ _ rfl; intro w10 b10 o10; have l10 : Later w w10 := Below.only (l9.alloc l9.size _) o10 l9.size; have i10 := (i9.alloc _).only o10 (Nat.ne_of_lt i9.lt); have j10 := (j9.alloc _).only o10 (Nat.ne_of_lt j9.lt); clear o10)
    | (go_at_call 13; (with_reducible refine (SA.out w10 l10).mono ?_); rintro e w11 ⟨rfl, h11⟩; have l11 := Later.trans_ l10 h11; obtain ⟨q0, q1, q2, q3, q4⟩ := (b10.keep h11).box; obtain ⟨r0, r1, r2, r3, r4⟩ := (i10.keep h11).box; obtain ⟨s0, s1, s2, s3, s4⟩ := (j10.keep h11).box)
    | (go_at_call 21; (with_reducible refine (D1.out _ ((later1 w _).alloc (by simp) _)).mono ?_); rintro e w1 ⟨rfl, h1⟩; have l1 := Later.trans_ ((later1 w _).alloc (by simp) _) h1; have i1 : Blk w1 w.heap.size 23 (Im.I.cells i) := ((Blk.new _ _ _ _ rfl).alloc _).keep h1; have j1 : Blk w1 (w.heap.size + 1) 23 (Im.I.cells j) := (Blk.new' _ _ _ _ _ (by simp) rfl).keep h1)
    | ((with_reducible refine wpList_store_abs (o := ⟨none, .store 23 (.tmp 7) (.tmp 20), _, _, _, none⟩) rfl _ _ _ rfl w1.heap.size 23 (Im.I.cells ⟨0, 0, 0, 0, 0⟩) X.cells ?_ ?_ ?_ (ins_sz _) (ins_len _ _) (ins_one _) ?_); rfl; rfl; exact Blk.new _ _ _ _ rfl; intro w2 x2 o2; have l2 : Later w w2 := Below.only (l1.alloc l1.size _) o2 l1.size; have i2 := (i1.alloc _).only o2 (Nat.ne_of_lt i1.lt); have j2 := (j1.alloc _).only o2 (Nat.ne_of_lt j1.lt); clear o2; obtain ⟨x20, x21, x22, x23, x24⟩ := x2.box)
    | (go_at_call 9; (with_reducible refine (EX.out w2 l2).mono ?_); rintro e w3 ⟨rfl, h3⟩; have l3 := Later.trans_ l2 h3; have i3 := i2.keep h3; have j3 := j2.keep h3; clear x20 x21 x22 x23 x24; obtain ⟨x20, x21, x22, x23, x24⟩ := (x2.keep h3).box)
    | (go_at_call 11; (with_reducible refine (RX.out w3 l3).mono ?_); rintro e w4 ⟨rfl, h4⟩; have l4 := Later.trans_ l3 h4; have i4 := i3.keep h4; have j4 := j3.keep h4; clear x20 x21 x22 x23 x24; obtain ⟨a40, a41, a42, a43, a44⟩ := i4.box))
  go_ret
  exact ⟨rfl, l11⟩
set_option maxRecDepth 100000 in
set_option maxHeartbeats 4000000 in
theorem words_Lrre (W A : Int) (X i : Im.I) (w : World)
    (D1 : Hid (∀ w' : World, Later w w' → Calls Tryd.prog 21 #[.int .u32 W] w' fun e w'' => e = .returned (.tuple #[.agg X.cells.toArray, .bool true]) ∧ Later w' w''))
    (EX : Hid (∀ w' : World, Later w w' → Calls Tryd.prog 9 #[.agg #[.int .i64 X.op, .int .i64 X.a, .int .i64 X.b, .int .i64 X.c, .int .i64 X.imm]] w' fun e w'' => e = .returned (.tuple #[.int .u32 W, .int .i64 0]) ∧ Later w' w''))
    (RX : Hid (∀ w' : World, Later w w' → Calls Tryd.prog 11 #[.agg #[.int .i64 X.op, .int .i64 X.a, .int .i64 X.b, .int .i64 X.c, .int .i64 X.imm]] w' fun e w'' => e = .returned (.bool true) ∧ Later w' w''))
    (EI : Hid (∀ w' : World, Later w w' → Calls Tryd.prog 9 #[.agg #[.int .i64 i.op, .int .i64 i.a, .int .i64 i.b, .int .i64 i.c, .int .i64 i.imm]] w' fun e w'' => e = .returned (.tuple #[.int .u32 A, .int .i64 0]) ∧ Later w' w''))
    (RI : Hid (∀ w' : World, Later w w' → Calls Tryd.prog 11 #[.agg #[.int .i64 i.op, .int .i64 i.a, .int .i64 i.b, .int .i64 i.c, .int .i64 i.imm]] w' fun e w'' => e = .returned (.bool true) ∧ Later w' w''))
    (SA : Hid (∀ w' : World, Later w w' → Calls Tryd.prog 13 #[] w' fun e w'' => e = .returned (.bool true) ∧ Later w' w''))
    (DA : Hid (∀ w' : World, Later w w' → Calls Tryd.prog 21 #[.int .u32 A] w' fun e w'' => e = .returned (.tuple #[.agg i.cells.toArray, .bool true]) ∧ Later w' w'')) (hii : ∀ w, (Op.equalIn 10000 23 (.agg #[.int .i64 i.op, .int .i64 i.a, .int .i64 i.b, .int .i64 i.c, .int .i64 i.imm]) (.agg #[.int .i64 i.op, .int .i64 i.a, .int .i64 i.b, .int .i64 i.c, .int .i64 i.imm])).run Tryd.prog w = .ok true w) :
    Calls Tryd.prog 6 #[.int .u32 W, .agg #[.int .i64 i.op, .int .i64 i.a, .int .i64 i.b, .int .i64 i.c, .int .i64 i.imm], .agg #[.int .i64 i.op, .int .i64 i.a, .int .i64 i.b, .int .i64 i.c, .int .i64 i.imm]] w fun e w' => e = .returned (.bool true) ∧ Later w w' := by
  have hgd : Tryd.prog.eqGuardType Tryd.prog.depth 23 = false := by kernel_rfl
  go_enter Tryd.func6, Tryd.ntmps6
  go_wp2_with (first
    | (go_at_call 9; (with_reducible refine (EI.out w5 l5).mono ?_); rintro e w6 ⟨rfl, h6⟩; have l6 := Later.trans_ l5 h6; have i6 := i5.keep h6; have j6 := j5.keep h6; obtain ⟨d0, d1, d2, d3, d4⟩ := i6.box)
    | (go_at_call 9; (with_reducible refine (EI.out w4 l4).mono ?_); rintro e w5 ⟨rfl, h5⟩; have l5 := Later.trans_ l4 h5; have i5 := i4.keep h5; have j5 := j4.keep h5; obtain ⟨c0, c1, c2, c3, c4⟩ := j5.box)
    | (go_at_call 11; (with_reducible refine (RI.out w7 l7).mono ?_); rintro e w8 ⟨rfl, h8⟩; have l8 := Later.trans_ l7 h8; have i8 := i7.keep h8; have j8 := j7.keep h8)
    | (go_at_call 11; (with_reducible refine (RI.out w6 l6).mono ?_); rintro e w7 ⟨rfl, h7⟩; have l7 := Later.trans_ l6 h7; have i7 := i6.keep h7; have j7 := j6.keep h7; obtain ⟨e0, e1, e2, e3, e4⟩ := j7.box)
    | (go_at_call 21; (with_reducible refine (DA.out w8 l8).mono ?_); rintro e w9 ⟨rfl, h9⟩; have l9 := Later.trans_ l8 h9; have i9 := i8.keep h9; have j9 := j8.keep h9)
    | ((with_reducible refine wpList_store_abs (o := ⟨none, .store 23 (.tmp 15) (.tmp 79), _, _, _, none⟩) rfl _ _ _ rfl w9.heap.size 23 (Im.I.cells ⟨0, 0, 0, 0, 0⟩) i.cells ?_ ?_ ?_ (ins_sz _) (ins_len _ _) (ins_one _) ?_); rfl; rfl; exact Blk.new _ _ _ _ rfl; intro w10 b10 o10; have l10 : Later w w10 := Below.only (l9.alloc l9.size _) o10 l9.size; have i10 := (i9.alloc _).only o10 (Nat.ne_of_lt i9.lt); have j10 := (j9.alloc _).only o10 (Nat.ne_of_lt j9.lt); clear o10)
    | (go_at_call 13; (with_reducible refine (SA.out w10 l10).mono ?_); rintro e w11 ⟨rfl, h11⟩; have l11 := Later.trans_ l10 h11; obtain ⟨q0, q1, q2, q3, q4⟩ := (b10.keep h11).box; obtain ⟨r0, r1, r2, r3, r4⟩ := (i10.keep h11).box; obtain ⟨s0, s1, s2, s3, s4⟩ := (j10.keep h11).box)
    | (go_at_call 21; (with_reducible refine (D1.out _ ((later1 w _).alloc (by simp) _)).mono ?_); rintro e w1 ⟨rfl, h1⟩; have l1 := Later.trans_ ((later1 w _).alloc (by simp) _) h1; have i1 : Blk w1 w.heap.size 23 (Im.I.cells i) := ((Blk.new _ _ _ _ rfl).alloc _).keep h1; have j1 : Blk w1 (w.heap.size + 1) 23 (Im.I.cells i) := (Blk.new' _ _ _ _ _ (by simp) rfl).keep h1)
    | ((with_reducible refine wpList_store_abs (o := ⟨none, .store 23 (.tmp 7) (.tmp 20), _, _, _, none⟩) rfl _ _ _ rfl w1.heap.size 23 (Im.I.cells ⟨0, 0, 0, 0, 0⟩) X.cells ?_ ?_ ?_ (ins_sz _) (ins_len _ _) (ins_one _) ?_); rfl; rfl; exact Blk.new _ _ _ _ rfl; intro w2 x2 o2; have l2 : Later w w2 := Below.only (l1.alloc l1.size _) o2 l1.size; have i2 := (i1.alloc _).only o2 (Nat.ne_of_lt i1.lt); have j2 := (j1.alloc _).only o2 (Nat.ne_of_lt j1.lt); clear o2; obtain ⟨x20, x21, x22, x23, x24⟩ := x2.box)
    | (go_at_call 9; (with_reducible refine (EX.out w2 l2).mono ?_); rintro e w3 ⟨rfl, h3⟩; have l3 := Later.trans_ l2 h3; have i3 := i2.keep h3; have j3 := j2.keep h3; clear x20 x21 x22 x23 x24; obtain ⟨x20, x21, x22, x23, x24⟩ := (x2.keep h3).box)
    | (go_at_call 11; (with_reducible refine (RX.out w3 l3).mono ?_); rintro e w4 ⟨rfl, h4⟩; have l4 := Later.trans_ l3 h4; have i4 := i3.keep h4; have j4 := j3.keep h4; clear x20 x21 x22 x23 x24; obtain ⟨a40, a41, a42, a43, a44⟩ := i4.box))
  go_ret
  exact ⟨rfl, l11⟩
set_option maxRecDepth 100000 in
set_option maxHeartbeats 4000000 in
theorem words_Nnn (W : Int) (i j : Im.I) (w : World)
    (D1 : Hid (∀ w' : World, Later w w' → Calls Tryd.prog 21 #[.int .u32 W] w' fun e w'' => e = .returned (.tuple #[.agg #[.int .i64 0, .int .i64 0, .int .i64 0, .int .i64 0, .int .i64 0], .bool false]) ∧ Later w' w''))
    (EI : Hid (∀ w' : World, Later w w' → Calls Tryd.prog 9 #[.agg #[.int .i64 i.op, .int .i64 i.a, .int .i64 i.b, .int .i64 i.c, .int .i64 i.imm]] w' fun e w'' => e = .returned (.tuple #[.int .u32 0, .int .i64 1]) ∧ Later w' w''))
    (RI : Hid (∀ w' : World, Later w w' → Calls Tryd.prog 11 #[.agg #[.int .i64 i.op, .int .i64 i.a, .int .i64 i.b, .int .i64 i.c, .int .i64 i.imm]] w' fun e w'' => e = .returned (.bool false) ∧ Later w' w''))
    (EJ : Hid (∀ w' : World, Later w w' → Calls Tryd.prog 9 #[.agg #[.int .i64 j.op, .int .i64 j.a, .int .i64 j.b, .int .i64 j.c, .int .i64 j.imm]] w' fun e w'' => e = .returned (.tuple #[.int .u32 0, .int .i64 1]) ∧ Later w' w''))
    (RJ : Hid (∀ w' : World, Later w w' → Calls Tryd.prog 11 #[.agg #[.int .i64 j.op, .int .i64 j.a, .int .i64 j.b, .int .i64 j.c, .int .i64 j.imm]] w' fun e w'' => e = .returned (.bool false) ∧ Later w' w''))
    (SA : Hid (∀ w' : World, Later w w' → Calls Tryd.prog 13 #[] w' fun e w'' => e = .returned (.bool true) ∧ Later w' w'')) :
    Calls Tryd.prog 6 #[.int .u32 W, .agg #[.int .i64 i.op, .int .i64 i.a, .int .i64 i.b, .int .i64 i.c, .int .i64 i.imm], .agg #[.int .i64 j.op, .int .i64 j.a, .int .i64 j.b, .int .i64 j.c, .int .i64 j.imm]] w fun e w' => e = .returned (.bool true) ∧ Later w w' := by
  have hgd : Tryd.prog.eqGuardType Tryd.prog.depth 23 = false := by kernel_rfl
  have hzz : ∀ w, (Op.equalIn 10000 23 (.agg #[.int .i64 0, .int .i64 0, .int .i64 0, .int .i64 0, .int .i64 0]) (.agg #[.int .i64 0, .int .i64 0, .int .i64 0, .int .i64 0, .int .i64 0])).run Tryd.prog w = .ok true w := zero_eq
  go_enter Tryd.func6, Tryd.ntmps6
  go_wp2_with (first
    | (go_at_call 9; (with_reducible refine (EJ.out w5 l5).mono ?_); rintro e w6 ⟨rfl, h6⟩; have l6 := Later.trans_ l5 h6; have i6 := i5.keep h6; have j6 := j5.keep h6; obtain ⟨d0, d1, d2, d3, d4⟩ := i6.box)
    | (go_at_call 9; (with_reducible refine (EI.out _ (l1.alloc l1.size _)).mono ?_); rintro e w5 ⟨rfl, h5⟩; have l5 := Later.trans_ (l1.alloc l1.size _) h5; have i5 := (i1.alloc _).keep h5; have j5 := (j1.alloc _).keep h5; obtain ⟨c0, c1, c2, c3, c4⟩ := j5.box)
    | (go_at_call 11; (with_reducible refine (RJ.out w7 l7).mono ?_); rintro e w8 ⟨rfl, h8⟩; have l8 := Later.trans_ l7 h8; have i8 := i7.keep h8; have j8 := j7.keep h8)
    | (go_at_call 11; (with_reducible refine (RI.out w6 l6).mono ?_); rintro e w7 ⟨rfl, h7⟩; have l7 := Later.trans_ l6 h7; have i7 := i6.keep h7; have j7 := j6.keep h7; obtain ⟨e0, e1, e2, e3, e4⟩ := j7.box)
    | (go_at_call 13; (with_reducible refine (SA.out w8 l8).mono ?_); rintro e w9 ⟨rfl, h9⟩; have l9 := Later.trans_ l8 h9)
    | (go_at_call 21; (with_reducible refine (D1.out _ ((later1 w _).alloc (by simp) _)).mono ?_); rintro e w1 ⟨rfl, h1⟩; have l1 := Later.trans_ ((later1 w _).alloc (by simp) _) h1; have i1 : Blk w1 w.heap.size 23 (Im.I.cells i) := ((Blk.new _ _ _ _ rfl).alloc _).keep h1; have j1 : Blk w1 (w.heap.size + 1) 23 (Im.I.cells j) := (Blk.new' _ _ _ _ _ (by simp) rfl).keep h1; have a40 := fun o => (i1.alloc o).cell (j := 0) rfl; have a41 := fun o => (i1.alloc o).cell (j := 1) rfl; have a42 := fun o => (i1.alloc o).cell (j := 2) rfl; have a43 := fun o => (i1.alloc o).cell (j := 3) rfl; have a44 := fun o => (i1.alloc o).cell (j := 4) rfl))
  go_ret
  exact ⟨rfl, l9⟩
set_option maxRecDepth 100000 in
set_option maxHeartbeats 4000000 in
theorem words_Nnr (W B : Int) (i j : Im.I) (w : World)
    (D1 : Hid (∀ w' : World, Later w w' → Calls Tryd.prog 21 #[.int .u32 W] w' fun e w'' => e = .returned (.tuple #[.agg #[.int .i64 0, .int .i64 0, .int .i64 0, .int .i64 0, .int .i64 0], .bool false]) ∧ Later w' w''))
    (EI : Hid (∀ w' : World, Later w w' → Calls Tryd.prog 9 #[.agg #[.int .i64 i.op, .int .i64 i.a, .int .i64 i.b, .int .i64 i.c, .int .i64 i.imm]] w' fun e w'' => e = .returned (.tuple #[.int .u32 0, .int .i64 1]) ∧ Later w' w''))
    (RI : Hid (∀ w' : World, Later w w' → Calls Tryd.prog 11 #[.agg #[.int .i64 i.op, .int .i64 i.a, .int .i64 i.b, .int .i64 i.c, .int .i64 i.imm]] w' fun e w'' => e = .returned (.bool false) ∧ Later w' w''))
    (EJ : Hid (∀ w' : World, Later w w' → Calls Tryd.prog 9 #[.agg #[.int .i64 j.op, .int .i64 j.a, .int .i64 j.b, .int .i64 j.c, .int .i64 j.imm]] w' fun e w'' => e = .returned (.tuple #[.int .u32 B, .int .i64 0]) ∧ Later w' w''))
    (RJ : Hid (∀ w' : World, Later w w' → Calls Tryd.prog 11 #[.agg #[.int .i64 j.op, .int .i64 j.a, .int .i64 j.b, .int .i64 j.c, .int .i64 j.imm]] w' fun e w'' => e = .returned (.bool true) ∧ Later w' w''))
    (SA : Hid (∀ w' : World, Later w w' → Calls Tryd.prog 13 #[] w' fun e w'' => e = .returned (.bool true) ∧ Later w' w'')) :
    Calls Tryd.prog 6 #[.int .u32 W, .agg #[.int .i64 i.op, .int .i64 i.a, .int .i64 i.b, .int .i64 i.c, .int .i64 i.imm], .agg #[.int .i64 j.op, .int .i64 j.a, .int .i64 j.b, .int .i64 j.c, .int .i64 j.imm]] w fun e w' => e = .returned (.bool true) ∧ Later w w' := by
  have hgd : Tryd.prog.eqGuardType Tryd.prog.depth 23 = false := by kernel_rfl
  have hzz : ∀ w, (Op.equalIn 10000 23 (.agg #[.int .i64 0, .int .i64 0, .int .i64 0, .int .i64 0, .int .i64 0]) (.agg #[.int .i64 0, .int .i64 0, .int .i64 0, .int .i64 0, .int .i64 0])).run Tryd.prog w = .ok true w := zero_eq
  go_enter Tryd.func6, Tryd.ntmps6
  go_wp2_with (first
    | (go_at_call 9; (with_reducible refine (EJ.out w5 l5).mono ?_); rintro e w6 ⟨rfl, h6⟩; have l6 := Later.trans_ l5 h6; have i6 := i5.keep h6; have j6 := j5.keep h6; obtain ⟨d0, d1, d2, d3, d4⟩ := i6.box)
    | (go_at_call 9; (with_reducible refine (EI.out _ (l1.alloc l1.size _)).mono ?_); rintro e w5 ⟨rfl, h5⟩; have l5 := Later.trans_ (l1.alloc l1.size _) h5; have i5 := (i1.alloc _).keep h5; have j5 := (j1.alloc _).keep h5; obtain ⟨c0, c1, c2, c3, c4⟩ := j5.box)
    | (go_at_call 11; (with_reducible refine (RJ.out w7 l7).mono ?_); rintro e w8 ⟨rfl, h8⟩; have l8 := Later.trans_ l7 h8; have i8 := i7.keep h8; have j8 := j7.keep h8)
    | (go_at_call 11; (with_reducible refine (RI.out w6 l6).mono ?_); rintro e w7 ⟨rfl, h7⟩; have l7 := Later.trans_ l6 h7; have i7 := i6.keep h7; have j7 := j6.keep h7; obtain ⟨e0, e1, e2, e3, e4⟩ := j7.box)
    | (go_at_call 13; (with_reducible refine (SA.out w8 l8).mono ?_); rintro e w9 ⟨rfl, h9⟩; have l9 := Later.trans_ l8 h9)
    | (go_at_call 21; (with_reducible refine (D1.out _ ((later1 w _).alloc (by simp) _)).mono ?_); rintro e w1 ⟨rfl, h1⟩; have l1 := Later.trans_ ((later1 w _).alloc (by simp) _) h1; have i1 : Blk w1 w.heap.size 23 (Im.I.cells i) := ((Blk.new _ _ _ _ rfl).alloc _).keep h1; have j1 : Blk w1 (w.heap.size + 1) 23 (Im.I.cells j) := (Blk.new' _ _ _ _ _ (by simp) rfl).keep h1; have a40 := fun o => (i1.alloc o).cell (j := 0) rfl; have a41 := fun o => (i1.alloc o).cell (j := 1) rfl; have a42 := fun o => (i1.alloc o).cell (j := 2) rfl; have a43 := fun o => (i1.alloc o).cell (j := 3) rfl; have a44 := fun o => (i1.alloc o).cell (j := 4) rfl))
  go_ret
  exact ⟨rfl, l9⟩
set_option maxRecDepth 100000 in
set_option maxHeartbeats 4000000 in
theorem words_Nrn (W A : Int) (i j : Im.I) (w : World)
    (D1 : Hid (∀ w' : World, Later w w' → Calls Tryd.prog 21 #[.int .u32 W] w' fun e w'' => e = .returned (.tuple #[.agg #[.int .i64 0, .int .i64 0, .int .i64 0, .int .i64 0, .int .i64 0], .bool false]) ∧ Later w' w''))
    (EI : Hid (∀ w' : World, Later w w' → Calls Tryd.prog 9 #[.agg #[.int .i64 i.op, .int .i64 i.a, .int .i64 i.b, .int .i64 i.c, .int .i64 i.imm]] w' fun e w'' => e = .returned (.tuple #[.int .u32 A, .int .i64 0]) ∧ Later w' w''))
    (RI : Hid (∀ w' : World, Later w w' → Calls Tryd.prog 11 #[.agg #[.int .i64 i.op, .int .i64 i.a, .int .i64 i.b, .int .i64 i.c, .int .i64 i.imm]] w' fun e w'' => e = .returned (.bool true) ∧ Later w' w''))
    (EJ : Hid (∀ w' : World, Later w w' → Calls Tryd.prog 9 #[.agg #[.int .i64 j.op, .int .i64 j.a, .int .i64 j.b, .int .i64 j.c, .int .i64 j.imm]] w' fun e w'' => e = .returned (.tuple #[.int .u32 0, .int .i64 1]) ∧ Later w' w''))
    (RJ : Hid (∀ w' : World, Later w w' → Calls Tryd.prog 11 #[.agg #[.int .i64 j.op, .int .i64 j.a, .int .i64 j.b, .int .i64 j.c, .int .i64 j.imm]] w' fun e w'' => e = .returned (.bool false) ∧ Later w' w''))
    (SA : Hid (∀ w' : World, Later w w' → Calls Tryd.prog 13 #[] w' fun e w'' => e = .returned (.bool true) ∧ Later w' w''))
    (DA : Hid (∀ w' : World, Later w w' → Calls Tryd.prog 21 #[.int .u32 A] w' fun e w'' => e = .returned (.tuple #[.agg i.cells.toArray, .bool true]) ∧ Later w' w'')) (hii : ∀ w, (Op.equalIn 10000 23 (.agg #[.int .i64 i.op, .int .i64 i.a, .int .i64 i.b, .int .i64 i.c, .int .i64 i.imm]) (.agg #[.int .i64 i.op, .int .i64 i.a, .int .i64 i.b, .int .i64 i.c, .int .i64 i.imm])).run Tryd.prog w = .ok true w) :
    Calls Tryd.prog 6 #[.int .u32 W, .agg #[.int .i64 i.op, .int .i64 i.a, .int .i64 i.b, .int .i64 i.c, .int .i64 i.imm], .agg #[.int .i64 j.op, .int .i64 j.a, .int .i64 j.b, .int .i64 j.c, .int .i64 j.imm]] w fun e w' => e = .returned (.bool true) ∧ Later w w' := by
  have hgd : Tryd.prog.eqGuardType Tryd.prog.depth 23 = false := by kernel_rfl
  have hzz : ∀ w, (Op.equalIn 10000 23 (.agg #[.int .i64 0, .int .i64 0, .int .i64 0, .int .i64 0, .int .i64 0]) (.agg #[.int .i64 0, .int .i64 0, .int .i64 0, .int .i64 0, .int .i64 0])).run Tryd.prog w = .ok true w := zero_eq
  go_enter Tryd.func6, Tryd.ntmps6
  go_wp2_with (first
    | (go_at_call 9; (with_reducible refine (EJ.out w5 l5).mono ?_); rintro e w6 ⟨rfl, h6⟩; have l6 := Later.trans_ l5 h6; have i6 := i5.keep h6; have j6 := j5.keep h6; obtain ⟨d0, d1, d2, d3, d4⟩ := i6.box)
    | (go_at_call 9; (with_reducible refine (EI.out _ (l1.alloc l1.size _)).mono ?_); rintro e w5 ⟨rfl, h5⟩; have l5 := Later.trans_ (l1.alloc l1.size _) h5; have i5 := (i1.alloc _).keep h5; have j5 := (j1.alloc _).keep h5; obtain ⟨c0, c1, c2, c3, c4⟩ := j5.box)
    | (go_at_call 11; (with_reducible refine (RJ.out w7 l7).mono ?_); rintro e w8 ⟨rfl, h8⟩; have l8 := Later.trans_ l7 h8; have i8 := i7.keep h8; have j8 := j7.keep h8)
    | (go_at_call 11; (with_reducible refine (RI.out w6 l6).mono ?_); rintro e w7 ⟨rfl, h7⟩; have l7 := Later.trans_ l6 h7; have i7 := i6.keep h7; have j7 := j6.keep h7; obtain ⟨e0, e1, e2, e3, e4⟩ := j7.box)
    | (go_at_call 21; (with_reducible refine (DA.out w8 l8).mono ?_); rintro e w9 ⟨rfl, h9⟩; have l9 := Later.trans_ l8 h9; have i9 := i8.keep h9; have j9 := j8.keep h9)
    | ((with_reducible refine wpList_store_abs (o := ⟨none, .store 23 (.tmp 15) (.tmp 79), _, _, _, none⟩) rfl _ _ _ rfl w9.heap.size 23 (Im.I.cells ⟨0, 0, 0, 0, 0⟩) i.cells ?_ ?_ ?_ (ins_sz _) (ins_len _ _) (ins_one _) ?_); rfl; rfl; exact Blk.new _ _ _ _ rfl; intro w10 b10 o10; have l10 : Later w w10 := Below.only (l9.alloc l9.size _) o10 l9.size; have i10 := (i9.alloc _).only o10 (Nat.ne_of_lt i9.lt); have j10 := (j9.alloc _).only o10 (Nat.ne_of_lt j9.lt); clear o10)
    | (go_at_call 13; (with_reducible refine (SA.out w10 l10).mono ?_); rintro e w11 ⟨rfl, h11⟩; have l11 := Later.trans_ l10 h11; obtain ⟨q0, q1, q2, q3, q4⟩ := (b10.keep h11).box; obtain ⟨r0, r1, r2, r3, r4⟩ := (i10.keep h11).box; obtain ⟨s0, s1, s2, s3, s4⟩ := (j10.keep h11).box)
    | (go_at_call 21; (with_reducible refine (D1.out _ ((later1 w _).alloc (by simp) _)).mono ?_); rintro e w1 ⟨rfl, h1⟩; have l1 := Later.trans_ ((later1 w _).alloc (by simp) _) h1; have i1 : Blk w1 w.heap.size 23 (Im.I.cells i) := ((Blk.new _ _ _ _ rfl).alloc _).keep h1; have j1 : Blk w1 (w.heap.size + 1) 23 (Im.I.cells j) := (Blk.new' _ _ _ _ _ (by simp) rfl).keep h1; have a40 := fun o => (i1.alloc o).cell (j := 0) rfl; have a41 := fun o => (i1.alloc o).cell (j := 1) rfl; have a42 := fun o => (i1.alloc o).cell (j := 2) rfl; have a43 := fun o => (i1.alloc o).cell (j := 3) rfl; have a44 := fun o => (i1.alloc o).cell (j := 4) rfl))
  go_ret
  exact ⟨rfl, l11⟩
set_option maxRecDepth 100000 in
set_option maxHeartbeats 4000000 in
theorem words_Nrr (W A B : Int) (i j : Im.I) (w : World)
    (D1 : Hid (∀ w' : World, Later w w' → Calls Tryd.prog 21 #[.int .u32 W] w' fun e w'' => e = .returned (.tuple #[.agg #[.int .i64 0, .int .i64 0, .int .i64 0, .int .i64 0, .int .i64 0], .bool false]) ∧ Later w' w''))
    (EI : Hid (∀ w' : World, Later w w' → Calls Tryd.prog 9 #[.agg #[.int .i64 i.op, .int .i64 i.a, .int .i64 i.b, .int .i64 i.c, .int .i64 i.imm]] w' fun e w'' => e = .returned (.tuple #[.int .u32 A, .int .i64 0]) ∧ Later w' w''))
    (RI : Hid (∀ w' : World, Later w w' → Calls Tryd.prog 11 #[.agg #[.int .i64 i.op, .int .i64 i.a, .int .i64 i.b, .int .i64 i.c, .int .i64 i.imm]] w' fun e w'' => e = .returned (.bool true) ∧ Later w' w''))
    (EJ : Hid (∀ w' : World, Later w w' → Calls Tryd.prog 9 #[.agg #[.int .i64 j.op, .int .i64 j.a, .int .i64 j.b, .int .i64 j.c, .int .i64 j.imm]] w' fun e w'' => e = .returned (.tuple #[.int .u32 B, .int .i64 0]) ∧ Later w' w''))
    (RJ : Hid (∀ w' : World, Later w w' → Calls Tryd.prog 11 #[.agg #[.int .i64 j.op, .int .i64 j.a, .int .i64 j.b, .int .i64 j.c, .int .i64 j.imm]] w' fun e w'' => e = .returned (.bool true) ∧ Later w' w''))
    (SA : Hid (∀ w' : World, Later w w' → Calls Tryd.prog 13 #[] w' fun e w'' => e = .returned (.bool true) ∧ Later w' w''))
    (DA : Hid (∀ w' : World, Later w w' → Calls Tryd.prog 21 #[.int .u32 A] w' fun e w'' => e = .returned (.tuple #[.agg i.cells.toArray, .bool true]) ∧ Later w' w'')) (hii : ∀ w, (Op.equalIn 10000 23 (.agg #[.int .i64 i.op, .int .i64 i.a, .int .i64 i.b, .int .i64 i.c, .int .i64 i.imm]) (.agg #[.int .i64 i.op, .int .i64 i.a, .int .i64 i.b, .int .i64 i.c, .int .i64 i.imm])).run Tryd.prog w = .ok true w) (hij : ∀ w, (Op.equalIn 10000 23 (.agg #[.int .i64 i.op, .int .i64 i.a, .int .i64 i.b, .int .i64 i.c, .int .i64 i.imm]) (.agg #[.int .i64 j.op, .int .i64 j.a, .int .i64 j.b, .int .i64 j.c, .int .i64 j.imm])).run Tryd.prog w = .ok false w) (hab : (A == B) = false) :
    Calls Tryd.prog 6 #[.int .u32 W, .agg #[.int .i64 i.op, .int .i64 i.a, .int .i64 i.b, .int .i64 i.c, .int .i64 i.imm], .agg #[.int .i64 j.op, .int .i64 j.a, .int .i64 j.b, .int .i64 j.c, .int .i64 j.imm]] w fun e w' => e = .returned (.bool true) ∧ Later w w' := by
  have hgd : Tryd.prog.eqGuardType Tryd.prog.depth 23 = false := by kernel_rfl
  have hzz : ∀ w, (Op.equalIn 10000 23 (.agg #[.int .i64 0, .int .i64 0, .int .i64 0, .int .i64 0, .int .i64 0]) (.agg #[.int .i64 0, .int .i64 0, .int .i64 0, .int .i64 0, .int .i64 0])).run Tryd.prog w = .ok true w := zero_eq
  go_enter Tryd.func6, Tryd.ntmps6
  go_wp2_with (first
    | (go_at_call 9; (with_reducible refine (EJ.out w5 l5).mono ?_); rintro e w6 ⟨rfl, h6⟩; have l6 := Later.trans_ l5 h6; have i6 := i5.keep h6; have j6 := j5.keep h6; obtain ⟨d0, d1, d2, d3, d4⟩ := i6.box)
    | (go_at_call 9; (with_reducible refine (EI.out _ (l1.alloc l1.size _)).mono ?_); rintro e w5 ⟨rfl, h5⟩; have l5 := Later.trans_ (l1.alloc l1.size _) h5; have i5 := (i1.alloc _).keep h5; have j5 := (j1.alloc _).keep h5; obtain ⟨c0, c1, c2, c3, c4⟩ := j5.box)
    | (go_at_call 11; (with_reducible refine (RJ.out w7 l7).mono ?_); rintro e w8 ⟨rfl, h8⟩; have l8 := Later.trans_ l7 h8; have i8 := i7.keep h8; have j8 := j7.keep h8)
    | (go_at_call 11; (with_reducible refine (RI.out w6 l6).mono ?_); rintro e w7 ⟨rfl, h7⟩; have l7 := Later.trans_ l6 h7; have i7 := i6.keep h7; have j7 := j6.keep h7; obtain ⟨e0, e1, e2, e3, e4⟩ := j7.box)
    | (go_at_call 21; (with_reducible refine (DA.out w8 l8).mono ?_); rintro e w9 ⟨rfl, h9⟩; have l9 := Later.trans_ l8 h9; have i9 := i8.keep h9; have j9 := j8.keep h9)
    | ((with_reducible refine wpList_store_abs (o := ⟨none, .store 23 (.tmp 15) (.tmp 79), _, _, _, none⟩) rfl _ _ _ rfl w9.heap.size 23 (Im.I.cells ⟨0, 0, 0, 0, 0⟩) i.cells ?_ ?_ ?_ (ins_sz _) (ins_len _ _) (ins_one _) ?_); rfl; rfl; exact Blk.new _ _ _ _ rfl; intro w10 b10 o10; have l10 : Later w w10 := Below.only (l9.alloc l9.size _) o10 l9.size; have i10 := (i9.alloc _).only o10 (Nat.ne_of_lt i9.lt); have j10 := (j9.alloc _).only o10 (Nat.ne_of_lt j9.lt); clear o10)
    | (go_at_call 13; (with_reducible refine (SA.out w10 l10).mono ?_); rintro e w11 ⟨rfl, h11⟩; have l11 := Later.trans_ l10 h11; obtain ⟨q0, q1, q2, q3, q4⟩ := (b10.keep h11).box; obtain ⟨r0, r1, r2, r3, r4⟩ := (i10.keep h11).box; obtain ⟨s0, s1, s2, s3, s4⟩ := (j10.keep h11).box)
    | (go_at_call 21; (with_reducible refine (D1.out _ ((later1 w _).alloc (by simp) _)).mono ?_); rintro e w1 ⟨rfl, h1⟩; have l1 := Later.trans_ ((later1 w _).alloc (by simp) _) h1; have i1 : Blk w1 w.heap.size 23 (Im.I.cells i) := ((Blk.new _ _ _ _ rfl).alloc _).keep h1; have j1 : Blk w1 (w.heap.size + 1) 23 (Im.I.cells j) := (Blk.new' _ _ _ _ _ (by simp) rfl).keep h1; have a40 := fun o => (i1.alloc o).cell (j := 0) rfl; have a41 := fun o => (i1.alloc o).cell (j := 1) rfl; have a42 := fun o => (i1.alloc o).cell (j := 2) rfl; have a43 := fun o => (i1.alloc o).cell (j := 3) rfl; have a44 := fun o => (i1.alloc o).cell (j := 4) rfl))
  go_ret
  exact ⟨rfl, l11⟩
set_option maxRecDepth 100000 in
set_option maxHeartbeats 4000000 in
theorem words_Nrre (W A : Int) (i : Im.I) (w : World)
    (D1 : Hid (∀ w' : World, Later w w' → Calls Tryd.prog 21 #[.int .u32 W] w' fun e w'' => e = .returned (.tuple #[.agg #[.int .i64 0, .int .i64 0, .int .i64 0, .int .i64 0, .int .i64 0], .bool false]) ∧ Later w' w''))
    (EI : Hid (∀ w' : World, Later w w' → Calls Tryd.prog 9 #[.agg #[.int .i64 i.op, .int .i64 i.a, .int .i64 i.b, .int .i64 i.c, .int .i64 i.imm]] w' fun e w'' => e = .returned (.tuple #[.int .u32 A, .int .i64 0]) ∧ Later w' w''))
    (RI : Hid (∀ w' : World, Later w w' → Calls Tryd.prog 11 #[.agg #[.int .i64 i.op, .int .i64 i.a, .int .i64 i.b, .int .i64 i.c, .int .i64 i.imm]] w' fun e w'' => e = .returned (.bool true) ∧ Later w' w''))
    (SA : Hid (∀ w' : World, Later w w' → Calls Tryd.prog 13 #[] w' fun e w'' => e = .returned (.bool true) ∧ Later w' w''))
    (DA : Hid (∀ w' : World, Later w w' → Calls Tryd.prog 21 #[.int .u32 A] w' fun e w'' => e = .returned (.tuple #[.agg i.cells.toArray, .bool true]) ∧ Later w' w'')) (hii : ∀ w, (Op.equalIn 10000 23 (.agg #[.int .i64 i.op, .int .i64 i.a, .int .i64 i.b, .int .i64 i.c, .int .i64 i.imm]) (.agg #[.int .i64 i.op, .int .i64 i.a, .int .i64 i.b, .int .i64 i.c, .int .i64 i.imm])).run Tryd.prog w = .ok true w) :
    Calls Tryd.prog 6 #[.int .u32 W, .agg #[.int .i64 i.op, .int .i64 i.a, .int .i64 i.b, .int .i64 i.c, .int .i64 i.imm], .agg #[.int .i64 i.op, .int .i64 i.a, .int .i64 i.b, .int .i64 i.c, .int .i64 i.imm]] w fun e w' => e = .returned (.bool true) ∧ Later w w' := by
  have hgd : Tryd.prog.eqGuardType Tryd.prog.depth 23 = false := by kernel_rfl
  have hzz : ∀ w, (Op.equalIn 10000 23 (.agg #[.int .i64 0, .int .i64 0, .int .i64 0, .int .i64 0, .int .i64 0]) (.agg #[.int .i64 0, .int .i64 0, .int .i64 0, .int .i64 0, .int .i64 0])).run Tryd.prog w = .ok true w := zero_eq
  go_enter Tryd.func6, Tryd.ntmps6
  go_wp2_with (first
    | (go_at_call 9; (with_reducible refine (EI.out w5 l5).mono ?_); rintro e w6 ⟨rfl, h6⟩; have l6 := Later.trans_ l5 h6; have i6 := i5.keep h6; have j6 := j5.keep h6; obtain ⟨d0, d1, d2, d3, d4⟩ := i6.box)
    | (go_at_call 9; (with_reducible refine (EI.out _ (l1.alloc l1.size _)).mono ?_); rintro e w5 ⟨rfl, h5⟩; have l5 := Later.trans_ (l1.alloc l1.size _) h5; have i5 := (i1.alloc _).keep h5; have j5 := (j1.alloc _).keep h5; obtain ⟨c0, c1, c2, c3, c4⟩ := j5.box)
    | (go_at_call 11; (with_reducible refine (RI.out w7 l7).mono ?_); rintro e w8 ⟨rfl, h8⟩; have l8 := Later.trans_ l7 h8; have i8 := i7.keep h8; have j8 := j7.keep h8)
    | (go_at_call 11; (with_reducible refine (RI.out w6 l6).mono ?_); rintro e w7 ⟨rfl, h7⟩; have l7 := Later.trans_ l6 h7; have i7 := i6.keep h7; have j7 := j6.keep h7; obtain ⟨e0, e1, e2, e3, e4⟩ := j7.box)
    | (go_at_call 21; (with_reducible refine (DA.out w8 l8).mono ?_); rintro e w9 ⟨rfl, h9⟩; have l9 := Later.trans_ l8 h9; have i9 := i8.keep h9; have j9 := j8.keep h9)
    | ((with_reducible refine wpList_store_abs (o := ⟨none, .store 23 (.tmp 15) (.tmp 79), _, _, _, none⟩) rfl _ _ _ rfl w9.heap.size 23 (Im.I.cells ⟨0, 0, 0, 0, 0⟩) i.cells ?_ ?_ ?_ (ins_sz _) (ins_len _ _) (ins_one _) ?_); rfl; rfl; exact Blk.new _ _ _ _ rfl; intro w10 b10 o10; have l10 : Later w w10 := Below.only (l9.alloc l9.size _) o10 l9.size; have i10 := (i9.alloc _).only o10 (Nat.ne_of_lt i9.lt); have j10 := (j9.alloc _).only o10 (Nat.ne_of_lt j9.lt); clear o10)
    | (go_at_call 13; (with_reducible refine (SA.out w10 l10).mono ?_); rintro e w11 ⟨rfl, h11⟩; have l11 := Later.trans_ l10 h11; obtain ⟨q0, q1, q2, q3, q4⟩ := (b10.keep h11).box; obtain ⟨r0, r1, r2, r3, r4⟩ := (i10.keep h11).box; obtain ⟨s0, s1, s2, s3, s4⟩ := (j10.keep h11).box)
    | (go_at_call 21; (with_reducible refine (D1.out _ ((later1 w _).alloc (by simp) _)).mono ?_); rintro e w1 ⟨rfl, h1⟩; have l1 := Later.trans_ ((later1 w _).alloc (by simp) _) h1; have i1 : Blk w1 w.heap.size 23 (Im.I.cells i) := ((Blk.new _ _ _ _ rfl).alloc _).keep h1; have j1 : Blk w1 (w.heap.size + 1) 23 (Im.I.cells i) := (Blk.new' _ _ _ _ _ (by simp) rfl).keep h1; have a40 := fun o => (i1.alloc o).cell (j := 0) rfl; have a41 := fun o => (i1.alloc o).cell (j := 1) rfl; have a42 := fun o => (i1.alloc o).cell (j := 2) rfl; have a43 := fun o => (i1.alloc o).cell (j := 3) rfl; have a44 := fun o => (i1.alloc o).cell (j := 4) rfl))
  go_ret
  exact ⟨rfl, l11⟩
end Go.Proofs.YtbnlpkjjdijfmabDoor
