/-
  THE WALKS OF isa.Reads, Writes, Target, of right instructions.
-/
import Derived.Test.YtbnlpkjjdijfmabDoorIsaG
namespace Go.Proofs.YtbnlpkjjdijfmabDoor
open Go.RowKit Go.ChangeShapes Go.WideShapes Go.ChangeAt

theorem sl_one (w : World) (x : Int) : Sl (w.alloc (.cells #[.int .i64 x] 3)) 1 (some ⟨w.heap.size, 0, none⟩) 1 (N64 [x]) := (Blk.new w 3 _ [.int .i64 x] rfl).sl 0 1 (Nat.le_refl _)
theorem sl_two (w : World) (x y : Int) : Sl (w.alloc (.cells #[.int .i64 x, .int .i64 y] 3)) 1 (some ⟨w.heap.size, 0, none⟩) 2 (N64 [x, y]) := (Blk.new w 3 _ [.int .i64 x, .int .i64 y] rfl).sl 0 2 (Nat.le_refl _)
theorem MadeI.after {l : List Int} {w w' : World} {e : Ending} {w'' : World} (hb : Later w w') (h : MadeI l w' e w'') : MadeI l w e w'' := by
  obtain ⟨A, c, h1, h2, h3, h4, h5⟩ := h
  exact ⟨A, c, h1, h2, h3, h4, Later.trans_ hb h5⟩
def isB (op : Int) : Bool := op == 16 || op == 20 || op == 22 || op == 33 || op == 44
def isAB (op : Int) : Bool := op == 21 || op == 23 || op == 24 || op == 28 || op == 29 || op == 30 || op == 31
def isA (op : Int) : Bool := op == 43 || op == 47
def readL (i : Im.I) : List Int := if isB i.op then regsI [i.b] else if isAB i.op then regsI [i.a, i.b] else if isA i.op then regsI [i.a] else if Im.form i.op = 1 then regsI [i.b, i.c] else []
def wrA (op : Int) : Bool := op == 16 || op == 17 || op == 20 || op == 22 || op == 24 || op == 32 || op == 33 || op == 42 || op == 46
def writeI (i : Im.I) : Int := if wrA i.op then i.a else if Im.form i.op = 1 then i.a else 0
def isT (op : Int) : Bool := op == 28 || op == 29 || op == 30 || op == 31 || op == 32
def targI (pc : Int) (i : Im.I) : Int := if isT i.op then (pc + 4 * i.imm) % 4294967296 else 0

section
variable (op a b c imm : Int) (w : World)
/-- What Right answers of a right instruction. -/
def RightOk : Prop := ∀ w', Later w w' → Calls Tryd.prog 11 #[.agg #[.int .i64 op, .int .i64 a, .int .i64 b, .int .i64 c, .int .i64 imm]] w' fun e w'' => e = .returned (.bool true) ∧ Later w' w''
set_option maxRecDepth 100000 in
set_option maxHeartbeats 1000000 in
theorem reads_16 (HR : Hid (RightOk 16 a b c imm w)) :
    Calls Tryd.prog 17 #[.agg #[.int .i64 16, .int .i64 a, .int .i64 b, .int .i64 c, .int .i64 imm]] w (MadeI (regsI [b]) w) := by
  go_enter Tryd.func17, Tryd.ntmps17
  go_wp2_with (first
    | (go_at_call 11; refine (HR.out _ (later1 _ _)).mono ?_; rintro e w1 ⟨rfl, l1⟩; obtain ⟨c0, c1, c2, c3, c4⟩ := ((Blk.new _ _ _ _ rfl : Blk _ _ _ (Im.I.cells ⟨16, a, b, c, imm⟩)).keep l1).box; have L1 := Lib.hid (Later.trans_ (later1 _ _) l1); clear l1)
    | (go_at_call 39; refine (registers_any _ 1 1 [b] _ (sl_one _ b) (by decide)).mono ?_; rintro e w3 ⟨A, c', rfl, m1, m2, m3, m4⟩))
  go_ret
  exact ⟨A, c', rfl, m1, m2, m3, Later.trans_ (L1.out.alloc L1.out.size _) m4⟩
set_option maxRecDepth 100000 in
set_option maxHeartbeats 1000000 in
theorem reads_20 (HR : Hid (RightOk 20 a b c imm w)) :
    Calls Tryd.prog 17 #[.agg #[.int .i64 20, .int .i64 a, .int .i64 b, .int .i64 c, .int .i64 imm]] w (MadeI (regsI [b]) w) := by
  go_enter Tryd.func17, Tryd.ntmps17
  go_wp2_with (first
    | (go_at_call 11; refine (HR.out _ (later1 _ _)).mono ?_; rintro e w1 ⟨rfl, l1⟩; obtain ⟨c0, c1, c2, c3, c4⟩ := ((Blk.new _ _ _ _ rfl : Blk _ _ _ (Im.I.cells ⟨20, a, b, c, imm⟩)).keep l1).box; have L1 := Lib.hid (Later.trans_ (later1 _ _) l1); clear l1)
    | (go_at_call 39; refine (registers_any _ 1 1 [b] _ (sl_one _ b) (by decide)).mono ?_; rintro e w3 ⟨A, c', rfl, m1, m2, m3, m4⟩))
  go_ret
  exact ⟨A, c', rfl, m1, m2, m3, Later.trans_ (L1.out.alloc L1.out.size _) m4⟩
set_option maxRecDepth 100000 in
set_option maxHeartbeats 1000000 in
theorem reads_22 (HR : Hid (RightOk 22 a b c imm w)) :
    Calls Tryd.prog 17 #[.agg #[.int .i64 22, .int .i64 a, .int .i64 b, .int .i64 c, .int .i64 imm]] w (MadeI (regsI [b]) w) := by
  go_enter Tryd.func17, Tryd.ntmps17
  go_wp2_with (first
    | (go_at_call 11; refine (HR.out _ (later1 _ _)).mono ?_; rintro e w1 ⟨rfl, l1⟩; obtain ⟨c0, c1, c2, c3, c4⟩ := ((Blk.new _ _ _ _ rfl : Blk _ _ _ (Im.I.cells ⟨22, a, b, c, imm⟩)).keep l1).box; have L1 := Lib.hid (Later.trans_ (later1 _ _) l1); clear l1)
    | (go_at_call 39; refine (registers_any _ 1 1 [b] _ (sl_one _ b) (by decide)).mono ?_; rintro e w3 ⟨A, c', rfl, m1, m2, m3, m4⟩))
  go_ret
  exact ⟨A, c', rfl, m1, m2, m3, Later.trans_ (L1.out.alloc L1.out.size _) m4⟩
set_option maxRecDepth 100000 in
set_option maxHeartbeats 1000000 in
theorem reads_33 (HR : Hid (RightOk 33 a b c imm w)) :
    Calls Tryd.prog 17 #[.agg #[.int .i64 33, .int .i64 a, .int .i64 b, .int .i64 c, .int .i64 imm]] w (MadeI (regsI [b]) w) := by
  go_enter Tryd.func17, Tryd.ntmps17
  go_wp2_with (first
    | (go_at_call 11; refine (HR.out _ (later1 _ _)).mono ?_; rintro e w1 ⟨rfl, l1⟩; obtain ⟨c0, c1, c2, c3, c4⟩ := ((Blk.new _ _ _ _ rfl : Blk _ _ _ (Im.I.cells ⟨33, a, b, c, imm⟩)).keep l1).box; have L1 := Lib.hid (Later.trans_ (later1 _ _) l1); clear l1)
    | (go_at_call 39; refine (registers_any _ 1 1 [b] _ (sl_one _ b) (by decide)).mono ?_; rintro e w3 ⟨A, c', rfl, m1, m2, m3, m4⟩))
  go_ret
  exact ⟨A, c', rfl, m1, m2, m3, Later.trans_ (L1.out.alloc L1.out.size _) m4⟩
set_option maxRecDepth 100000 in
set_option maxHeartbeats 1000000 in
theorem reads_44 (HR : Hid (RightOk 44 a b c imm w)) :
    Calls Tryd.prog 17 #[.agg #[.int .i64 44, .int .i64 a, .int .i64 b, .int .i64 c, .int .i64 imm]] w (MadeI (regsI [b]) w) := by
  go_enter Tryd.func17, Tryd.ntmps17
  go_wp2_with (first
    | (go_at_call 11; refine (HR.out _ (later1 _ _)).mono ?_; rintro e w1 ⟨rfl, l1⟩; obtain ⟨c0, c1, c2, c3, c4⟩ := ((Blk.new _ _ _ _ rfl : Blk _ _ _ (Im.I.cells ⟨44, a, b, c, imm⟩)).keep l1).box; have L1 := Lib.hid (Later.trans_ (later1 _ _) l1); clear l1)
    | (go_at_call 39; refine (registers_any _ 1 1 [b] _ (sl_one _ b) (by decide)).mono ?_; rintro e w3 ⟨A, c', rfl, m1, m2, m3, m4⟩))
  go_ret
  exact ⟨A, c', rfl, m1, m2, m3, Later.trans_ (L1.out.alloc L1.out.size _) m4⟩
set_option maxRecDepth 100000 in
set_option maxHeartbeats 1000000 in
theorem reads_21 (HR : Hid (RightOk 21 a b c imm w)) :
    Calls Tryd.prog 17 #[.agg #[.int .i64 21, .int .i64 a, .int .i64 b, .int .i64 c, .int .i64 imm]] w (MadeI (regsI [a, b]) w) := by
  go_enter Tryd.func17, Tryd.ntmps17
  go_wp2_with (first
    | (go_at_call 11; refine (HR.out _ (later1 _ _)).mono ?_; rintro e w1 ⟨rfl, l1⟩; obtain ⟨c0, c1, c2, c3, c4⟩ := ((Blk.new _ _ _ _ rfl : Blk _ _ _ (Im.I.cells ⟨21, a, b, c, imm⟩)).keep l1).box; have L1 := Lib.hid (Later.trans_ (later1 _ _) l1); clear l1)
    | (go_at_call 39; refine (registers_any _ 2 2 [a, b] _ (sl_two _ a b) (by decide)).mono ?_; rintro e w3 ⟨A, c', rfl, m1, m2, m3, m4⟩))
  go_ret
  exact ⟨A, c', rfl, m1, m2, m3, Later.trans_ (L1.out.alloc L1.out.size _) m4⟩
set_option maxRecDepth 100000 in
set_option maxHeartbeats 1000000 in
theorem reads_23 (HR : Hid (RightOk 23 a b c imm w)) :
    Calls Tryd.prog 17 #[.agg #[.int .i64 23, .int .i64 a, .int .i64 b, .int .i64 c, .int .i64 imm]] w (MadeI (regsI [a, b]) w) := by
  go_enter Tryd.func17, Tryd.ntmps17
  go_wp2_with (first
    | (go_at_call 11; refine (HR.out _ (later1 _ _)).mono ?_; rintro e w1 ⟨rfl, l1⟩; obtain ⟨c0, c1, c2, c3, c4⟩ := ((Blk.new _ _ _ _ rfl : Blk _ _ _ (Im.I.cells ⟨23, a, b, c, imm⟩)).keep l1).box; have L1 := Lib.hid (Later.trans_ (later1 _ _) l1); clear l1)
    | (go_at_call 39; refine (registers_any _ 2 2 [a, b] _ (sl_two _ a b) (by decide)).mono ?_; rintro e w3 ⟨A, c', rfl, m1, m2, m3, m4⟩))
  go_ret
  exact ⟨A, c', rfl, m1, m2, m3, Later.trans_ (L1.out.alloc L1.out.size _) m4⟩
set_option maxRecDepth 100000 in
set_option maxHeartbeats 1000000 in
theorem reads_24 (HR : Hid (RightOk 24 a b c imm w)) :
    Calls Tryd.prog 17 #[.agg #[.int .i64 24, .int .i64 a, .int .i64 b, .int .i64 c, .int .i64 imm]] w (MadeI (regsI [a, b]) w) := by
  go_enter Tryd.func17, Tryd.ntmps17
  go_wp2_with (first
    | (go_at_call 11; refine (HR.out _ (later1 _ _)).mono ?_; rintro e w1 ⟨rfl, l1⟩; obtain ⟨c0, c1, c2, c3, c4⟩ := ((Blk.new _ _ _ _ rfl : Blk _ _ _ (Im.I.cells ⟨24, a, b, c, imm⟩)).keep l1).box; have L1 := Lib.hid (Later.trans_ (later1 _ _) l1); clear l1)
    | (go_at_call 39; refine (registers_any _ 2 2 [a, b] _ (sl_two _ a b) (by decide)).mono ?_; rintro e w3 ⟨A, c', rfl, m1, m2, m3, m4⟩))
  go_ret
  exact ⟨A, c', rfl, m1, m2, m3, Later.trans_ (L1.out.alloc L1.out.size _) m4⟩
set_option maxRecDepth 100000 in
set_option maxHeartbeats 1000000 in
theorem reads_28 (HR : Hid (RightOk 28 a b c imm w)) :
    Calls Tryd.prog 17 #[.agg #[.int .i64 28, .int .i64 a, .int .i64 b, .int .i64 c, .int .i64 imm]] w (MadeI (regsI [a, b]) w) := by
  go_enter Tryd.func17, Tryd.ntmps17
  go_wp2_with (first
    | (go_at_call 11; refine (HR.out _ (later1 _ _)).mono ?_; rintro e w1 ⟨rfl, l1⟩; obtain ⟨c0, c1, c2, c3, c4⟩ := ((Blk.new _ _ _ _ rfl : Blk _ _ _ (Im.I.cells ⟨28, a, b, c, imm⟩)).keep l1).box; have L1 := Lib.hid (Later.trans_ (later1 _ _) l1); clear l1)
    | (go_at_call 39; refine (registers_any _ 2 2 [a, b] _ (sl_two _ a b) (by decide)).mono ?_; rintro e w3 ⟨A, c', rfl, m1, m2, m3, m4⟩))
  go_ret
  exact ⟨A, c', rfl, m1, m2, m3, Later.trans_ (L1.out.alloc L1.out.size _) m4⟩
set_option maxRecDepth 100000 in
set_option maxHeartbeats 1000000 in
theorem reads_29 (HR : Hid (RightOk 29 a b c imm w)) :
    Calls Tryd.prog 17 #[.agg #[.int .i64 29, .int .i64 a, .int .i64 b, .int .i64 c, .int .i64 imm]] w (MadeI (regsI [a, b]) w) := by
  go_enter Tryd.func17, Tryd.ntmps17
  go_wp2_with (first
    | (go_at_call 11; refine (HR.out _ (later1 _ _)).mono ?_; rintro e w1 ⟨rfl, l1⟩; obtain ⟨c0, c1, c2, c3, c4⟩ := ((Blk.new _ _ _ _ rfl : Blk _ _ _ (Im.I.cells ⟨29, a, b, c, imm⟩)).keep l1).box; have L1 := Lib.hid (Later.trans_ (later1 _ _) l1); clear l1)
    | (go_at_call 39; refine (registers_any _ 2 2 [a, b] _ (sl_two _ a b) (by decide)).mono ?_; rintro e w3 ⟨A, c', rfl, m1, m2, m3, m4⟩))
  go_ret
  exact ⟨A, c', rfl, m1, m2, m3, Later.trans_ (L1.out.alloc L1.out.size _) m4⟩
set_option maxRecDepth 100000 in
set_option maxHeartbeats 1000000 in
theorem reads_30 (HR : Hid (RightOk 30 a b c imm w)) :
    Calls Tryd.prog 17 #[.agg #[.int .i64 30, .int .i64 a, .int .i64 b, .int .i64 c, .int .i64 imm]] w (MadeI (regsI [a, b]) w) := by
  go_enter Tryd.func17, Tryd.ntmps17
  go_wp2_with (first
    | (go_at_call 11; refine (HR.out _ (later1 _ _)).mono ?_; rintro e w1 ⟨rfl, l1⟩; obtain ⟨c0, c1, c2, c3, c4⟩ := ((Blk.new _ _ _ _ rfl : Blk _ _ _ (Im.I.cells ⟨30, a, b, c, imm⟩)).keep l1).box; have L1 := Lib.hid (Later.trans_ (later1 _ _) l1); clear l1)
    | (go_at_call 39; refine (registers_any _ 2 2 [a, b] _ (sl_two _ a b) (by decide)).mono ?_; rintro e w3 ⟨A, c', rfl, m1, m2, m3, m4⟩))
  go_ret
  exact ⟨A, c', rfl, m1, m2, m3, Later.trans_ (L1.out.alloc L1.out.size _) m4⟩
set_option maxRecDepth 100000 in
set_option maxHeartbeats 1000000 in
theorem reads_31 (HR : Hid (RightOk 31 a b c imm w)) :
    Calls Tryd.prog 17 #[.agg #[.int .i64 31, .int .i64 a, .int .i64 b, .int .i64 c, .int .i64 imm]] w (MadeI (regsI [a, b]) w) := by
  go_enter Tryd.func17, Tryd.ntmps17
  go_wp2_with (first
    | (go_at_call 11; refine (HR.out _ (later1 _ _)).mono ?_; rintro e w1 ⟨rfl, l1⟩; obtain ⟨c0, c1, c2, c3, c4⟩ := ((Blk.new _ _ _ _ rfl : Blk _ _ _ (Im.I.cells ⟨31, a, b, c, imm⟩)).keep l1).box; have L1 := Lib.hid (Later.trans_ (later1 _ _) l1); clear l1)
    | (go_at_call 39; refine (registers_any _ 2 2 [a, b] _ (sl_two _ a b) (by decide)).mono ?_; rintro e w3 ⟨A, c', rfl, m1, m2, m3, m4⟩))
  go_ret
  exact ⟨A, c', rfl, m1, m2, m3, Later.trans_ (L1.out.alloc L1.out.size _) m4⟩
set_option maxRecDepth 100000 in
set_option maxHeartbeats 1000000 in
theorem reads_43 (HR : Hid (RightOk 43 a b c imm w)) :
    Calls Tryd.prog 17 #[.agg #[.int .i64 43, .int .i64 a, .int .i64 b, .int .i64 c, .int .i64 imm]] w (MadeI (regsI [a]) w) := by
  go_enter Tryd.func17, Tryd.ntmps17
  go_wp2_with (first
    | (go_at_call 11; refine (HR.out _ (later1 _ _)).mono ?_; rintro e w1 ⟨rfl, l1⟩; obtain ⟨c0, c1, c2, c3, c4⟩ := ((Blk.new _ _ _ _ rfl : Blk _ _ _ (Im.I.cells ⟨43, a, b, c, imm⟩)).keep l1).box; have L1 := Lib.hid (Later.trans_ (later1 _ _) l1); clear l1)
    | (go_at_call 39; refine (registers_any _ 1 1 [a] _ (sl_one _ a) (by decide)).mono ?_; rintro e w3 ⟨A, c', rfl, m1, m2, m3, m4⟩))
  go_ret
  exact ⟨A, c', rfl, m1, m2, m3, Later.trans_ (L1.out.alloc L1.out.size _) m4⟩
set_option maxRecDepth 100000 in
set_option maxHeartbeats 1000000 in
theorem reads_47 (HR : Hid (RightOk 47 a b c imm w)) :
    Calls Tryd.prog 17 #[.agg #[.int .i64 47, .int .i64 a, .int .i64 b, .int .i64 c, .int .i64 imm]] w (MadeI (regsI [a]) w) := by
  go_enter Tryd.func17, Tryd.ntmps17
  go_wp2_with (first
    | (go_at_call 11; refine (HR.out _ (later1 _ _)).mono ?_; rintro e w1 ⟨rfl, l1⟩; obtain ⟨c0, c1, c2, c3, c4⟩ := ((Blk.new _ _ _ _ rfl : Blk _ _ _ (Im.I.cells ⟨47, a, b, c, imm⟩)).keep l1).box; have L1 := Lib.hid (Later.trans_ (later1 _ _) l1); clear l1)
    | (go_at_call 39; refine (registers_any _ 1 1 [a] _ (sl_one _ a) (by decide)).mono ?_; rintro e w3 ⟨A, c', rfl, m1, m2, m3, m4⟩))
  go_ret
  exact ⟨A, c', rfl, m1, m2, m3, Later.trans_ (L1.out.alloc L1.out.size _) m4⟩
set_option maxRecDepth 100000 in
set_option maxHeartbeats 1000000 in
theorem reads_three (ho : 1 ≤ op ∧ op ≤ 12) (HR : Hid (RightOk op a b c imm w)) (HF : Hid (∀ w', Later w w' → Calls Tryd.prog 25 #[.int .i64 op] w' fun e w'' => e = .returned (.int .i64 1) ∧ Later w' w'')) :
    Calls Tryd.prog 17 #[.agg #[.int .i64 op, .int .i64 a, .int .i64 b, .int .i64 c, .int .i64 imm]] w (MadeI (regsI [b, c]) w) := by
  have n16 : (op == 16) = false := beq_eq_false_iff_ne.2 (by omega)
  have n20 : (op == 20) = false := beq_eq_false_iff_ne.2 (by omega)
  have n22 : (op == 22) = false := beq_eq_false_iff_ne.2 (by omega)
  have n33 : (op == 33) = false := beq_eq_false_iff_ne.2 (by omega)
  have n44 : (op == 44) = false := beq_eq_false_iff_ne.2 (by omega)
  have n21 : (op == 21) = false := beq_eq_false_iff_ne.2 (by omega)
  have n23 : (op == 23) = false := beq_eq_false_iff_ne.2 (by omega)
  have n24 : (op == 24) = false := beq_eq_false_iff_ne.2 (by omega)
  have n28 : (op == 28) = false := beq_eq_false_iff_ne.2 (by omega)
  have n29 : (op == 29) = false := beq_eq_false_iff_ne.2 (by omega)
  have n30 : (op == 30) = false := beq_eq_false_iff_ne.2 (by omega)
  have n31 : (op == 31) = false := beq_eq_false_iff_ne.2 (by omega)
  have n43 : (op == 43) = false := beq_eq_false_iff_ne.2 (by omega)
  have n47 : (op == 47) = false := beq_eq_false_iff_ne.2 (by omega)
  clear ho
  go_enter Tryd.func17, Tryd.ntmps17
  go_wp2_with (first
    | (go_at_call 11; refine (HR.out _ (later1 _ _)).mono ?_; rintro e w1 ⟨rfl, l1⟩; obtain ⟨c0, c1, c2, c3, c4⟩ := ((Blk.new _ _ _ _ rfl : Blk _ _ _ (Im.I.cells ⟨op, a, b, c, imm⟩)).keep l1).box; have L1 := Lib.hid (Later.trans_ (later1 _ _) l1); clear l1)
    | (go_at_call 25; refine (HF.out _ (Later.trans_ L1.out (Below.refl _ _))).mono ?_; rintro e w2 ⟨rfl, l2⟩; replace c0 := (l2.cell (block_lt_of_cell c0)).trans c0; replace c1 := (l2.cell (block_lt_of_cell c1)).trans c1; replace c2 := (l2.cell (block_lt_of_cell c2)).trans c2; replace c3 := (l2.cell (block_lt_of_cell c3)).trans c3; have L2 := Lib.hid (Later.trans_ L1.out l2); clear l2)
    | (go_at_call 39; refine (registers_any _ 2 2 [b, c] _ (sl_two _ b c) (by decide)).mono ?_; rintro e w3 ⟨A, c', rfl, m1, m2, m3, m4⟩))
  go_ret
  exact ⟨A, c', rfl, m1, m2, m3, Later.trans_ (L2.out.alloc L2.out.size _) m4⟩
set_option maxRecDepth 100000 in
set_option maxHeartbeats 1000000 in
theorem reads_none (f : Int) (h16 : op ≠ 16) (h20 : op ≠ 20) (h22 : op ≠ 22) (h33 : op ≠ 33) (h44 : op ≠ 44) (h21 : op ≠ 21) (h23 : op ≠ 23) (h24 : op ≠ 24) (h28 : op ≠ 28) (h29 : op ≠ 29) (h30 : op ≠ 30) (h31 : op ≠ 31) (h43 : op ≠ 43) (h47 : op ≠ 47) (HR : Hid (RightOk op a b c imm w)) (HF : Hid (∀ w', Later w w' → Calls Tryd.prog 25 #[.int .i64 op] w' fun e w'' => e = .returned (.int .i64 f) ∧ Later w' w'')) (hf : (f == 1) = false):
    Calls Tryd.prog 17 #[.agg #[.int .i64 op, .int .i64 a, .int .i64 b, .int .i64 c, .int .i64 imm]] w (MadeI ([]) w) := by
  have n16 : (op == 16) = false := beq_eq_false_iff_ne.2 h16
  have n20 : (op == 20) = false := beq_eq_false_iff_ne.2 h20
  have n22 : (op == 22) = false := beq_eq_false_iff_ne.2 h22
  have n33 : (op == 33) = false := beq_eq_false_iff_ne.2 h33
  have n44 : (op == 44) = false := beq_eq_false_iff_ne.2 h44
  have n21 : (op == 21) = false := beq_eq_false_iff_ne.2 h21
  have n23 : (op == 23) = false := beq_eq_false_iff_ne.2 h23
  have n24 : (op == 24) = false := beq_eq_false_iff_ne.2 h24
  have n28 : (op == 28) = false := beq_eq_false_iff_ne.2 h28
  have n29 : (op == 29) = false := beq_eq_false_iff_ne.2 h29
  have n30 : (op == 30) = false := beq_eq_false_iff_ne.2 h30
  have n31 : (op == 31) = false := beq_eq_false_iff_ne.2 h31
  have n43 : (op == 43) = false := beq_eq_false_iff_ne.2 h43
  have n47 : (op == 47) = false := beq_eq_false_iff_ne.2 h47
  clear h16 h20 h22 h33 h44 h21 h23 h24 h28 h29 h30 h31 h43 h47
  go_enter Tryd.func17, Tryd.ntmps17
  go_wp2_with (first
    | (go_at_call 11; refine (HR.out _ (later1 _ _)).mono ?_; rintro e w1 ⟨rfl, l1⟩; obtain ⟨c0, c1, c2, c3, c4⟩ := ((Blk.new _ _ _ _ rfl : Blk _ _ _ (Im.I.cells ⟨op, a, b, c, imm⟩)).keep l1).box; have L1 := Lib.hid (Later.trans_ (later1 _ _) l1); clear l1)
    | (go_at_call 25; refine (HF.out _ (Later.trans_ L1.out (Below.refl _ _))).mono ?_; rintro e w2 ⟨rfl, l2⟩; replace c0 := (l2.cell (block_lt_of_cell c0)).trans c0; replace c1 := (l2.cell (block_lt_of_cell c1)).trans c1; replace c2 := (l2.cell (block_lt_of_cell c2)).trans c2; replace c3 := (l2.cell (block_lt_of_cell c3)).trans c3; have L2 := Lib.hid (Later.trans_ L1.out l2); clear l2))
  go_ret
  exact ⟨none, 0, rfl, Nat.le_refl _, Nat.zero_le _, Sl.nil _ _ _, L2.out⟩
set_option maxRecDepth 100000 in
set_option maxHeartbeats 1000000 in
theorem writes_16 (HR : Hid (RightOk 16 a b c imm w)) :
    Calls Tryd.prog 19 #[.agg #[.int .i64 16, .int .i64 a, .int .i64 b, .int .i64 c, .int .i64 imm]] w fun e w' => e = .returned (.int .i64 a) ∧ Later w w' := by
  go_enter Tryd.func19, Tryd.ntmps19
  go_wp2_with (first
    | (go_at_call 11; refine (HR.out _ (later1 _ _)).mono ?_; rintro e w1 ⟨rfl, l1⟩; obtain ⟨c0, c1, c2, c3, c4⟩ := ((Blk.new _ _ _ _ rfl : Blk _ _ _ (Im.I.cells ⟨16, a, b, c, imm⟩)).keep l1).box; have L1 := Lib.hid (Later.trans_ (later1 _ _) l1); clear l1))
  go_ret
  exact ⟨rfl, L1.out⟩
set_option maxRecDepth 100000 in
set_option maxHeartbeats 1000000 in
theorem writes_17 (HR : Hid (RightOk 17 a b c imm w)) :
    Calls Tryd.prog 19 #[.agg #[.int .i64 17, .int .i64 a, .int .i64 b, .int .i64 c, .int .i64 imm]] w fun e w' => e = .returned (.int .i64 a) ∧ Later w w' := by
  go_enter Tryd.func19, Tryd.ntmps19
  go_wp2_with (first
    | (go_at_call 11; refine (HR.out _ (later1 _ _)).mono ?_; rintro e w1 ⟨rfl, l1⟩; obtain ⟨c0, c1, c2, c3, c4⟩ := ((Blk.new _ _ _ _ rfl : Blk _ _ _ (Im.I.cells ⟨17, a, b, c, imm⟩)).keep l1).box; have L1 := Lib.hid (Later.trans_ (later1 _ _) l1); clear l1))
  go_ret
  exact ⟨rfl, L1.out⟩
set_option maxRecDepth 100000 in
set_option maxHeartbeats 1000000 in
theorem writes_20 (HR : Hid (RightOk 20 a b c imm w)) :
    Calls Tryd.prog 19 #[.agg #[.int .i64 20, .int .i64 a, .int .i64 b, .int .i64 c, .int .i64 imm]] w fun e w' => e = .returned (.int .i64 a) ∧ Later w w' := by
  go_enter Tryd.func19, Tryd.ntmps19
  go_wp2_with (first
    | (go_at_call 11; refine (HR.out _ (later1 _ _)).mono ?_; rintro e w1 ⟨rfl, l1⟩; obtain ⟨c0, c1, c2, c3, c4⟩ := ((Blk.new _ _ _ _ rfl : Blk _ _ _ (Im.I.cells ⟨20, a, b, c, imm⟩)).keep l1).box; have L1 := Lib.hid (Later.trans_ (later1 _ _) l1); clear l1))
  go_ret
  exact ⟨rfl, L1.out⟩
set_option maxRecDepth 100000 in
set_option maxHeartbeats 1000000 in
theorem writes_22 (HR : Hid (RightOk 22 a b c imm w)) :
    Calls Tryd.prog 19 #[.agg #[.int .i64 22, .int .i64 a, .int .i64 b, .int .i64 c, .int .i64 imm]] w fun e w' => e = .returned (.int .i64 a) ∧ Later w w' := by
  go_enter Tryd.func19, Tryd.ntmps19
  go_wp2_with (first
    | (go_at_call 11; refine (HR.out _ (later1 _ _)).mono ?_; rintro e w1 ⟨rfl, l1⟩; obtain ⟨c0, c1, c2, c3, c4⟩ := ((Blk.new _ _ _ _ rfl : Blk _ _ _ (Im.I.cells ⟨22, a, b, c, imm⟩)).keep l1).box; have L1 := Lib.hid (Later.trans_ (later1 _ _) l1); clear l1))
  go_ret
  exact ⟨rfl, L1.out⟩
set_option maxRecDepth 100000 in
set_option maxHeartbeats 1000000 in
theorem writes_24 (HR : Hid (RightOk 24 a b c imm w)) :
    Calls Tryd.prog 19 #[.agg #[.int .i64 24, .int .i64 a, .int .i64 b, .int .i64 c, .int .i64 imm]] w fun e w' => e = .returned (.int .i64 a) ∧ Later w w' := by
  go_enter Tryd.func19, Tryd.ntmps19
  go_wp2_with (first
    | (go_at_call 11; refine (HR.out _ (later1 _ _)).mono ?_; rintro e w1 ⟨rfl, l1⟩; obtain ⟨c0, c1, c2, c3, c4⟩ := ((Blk.new _ _ _ _ rfl : Blk _ _ _ (Im.I.cells ⟨24, a, b, c, imm⟩)).keep l1).box; have L1 := Lib.hid (Later.trans_ (later1 _ _) l1); clear l1))
  go_ret
  exact ⟨rfl, L1.out⟩
set_option maxRecDepth 100000 in
set_option maxHeartbeats 1000000 in
theorem writes_32 (HR : Hid (RightOk 32 a b c imm w)) :
    Calls Tryd.prog 19 #[.agg #[.int .i64 32, .int .i64 a, .int .i64 b, .int .i64 c, .int .i64 imm]] w fun e w' => e = .returned (.int .i64 a) ∧ Later w w' := by
  go_enter Tryd.func19, Tryd.ntmps19
  go_wp2_with (first
    | (go_at_call 11; refine (HR.out _ (later1 _ _)).mono ?_; rintro e w1 ⟨rfl, l1⟩; obtain ⟨c0, c1, c2, c3, c4⟩ := ((Blk.new _ _ _ _ rfl : Blk _ _ _ (Im.I.cells ⟨32, a, b, c, imm⟩)).keep l1).box; have L1 := Lib.hid (Later.trans_ (later1 _ _) l1); clear l1))
  go_ret
  exact ⟨rfl, L1.out⟩
set_option maxRecDepth 100000 in
set_option maxHeartbeats 1000000 in
theorem writes_33 (HR : Hid (RightOk 33 a b c imm w)) :
    Calls Tryd.prog 19 #[.agg #[.int .i64 33, .int .i64 a, .int .i64 b, .int .i64 c, .int .i64 imm]] w fun e w' => e = .returned (.int .i64 a) ∧ Later w w' := by
  go_enter Tryd.func19, Tryd.ntmps19
  go_wp2_with (first
    | (go_at_call 11; refine (HR.out _ (later1 _ _)).mono ?_; rintro e w1 ⟨rfl, l1⟩; obtain ⟨c0, c1, c2, c3, c4⟩ := ((Blk.new _ _ _ _ rfl : Blk _ _ _ (Im.I.cells ⟨33, a, b, c, imm⟩)).keep l1).box; have L1 := Lib.hid (Later.trans_ (later1 _ _) l1); clear l1))
  go_ret
  exact ⟨rfl, L1.out⟩
set_option maxRecDepth 100000 in
set_option maxHeartbeats 1000000 in
theorem writes_42 (HR : Hid (RightOk 42 a b c imm w)) :
    Calls Tryd.prog 19 #[.agg #[.int .i64 42, .int .i64 a, .int .i64 b, .int .i64 c, .int .i64 imm]] w fun e w' => e = .returned (.int .i64 a) ∧ Later w w' := by
  go_enter Tryd.func19, Tryd.ntmps19
  go_wp2_with (first
    | (go_at_call 11; refine (HR.out _ (later1 _ _)).mono ?_; rintro e w1 ⟨rfl, l1⟩; obtain ⟨c0, c1, c2, c3, c4⟩ := ((Blk.new _ _ _ _ rfl : Blk _ _ _ (Im.I.cells ⟨42, a, b, c, imm⟩)).keep l1).box; have L1 := Lib.hid (Later.trans_ (later1 _ _) l1); clear l1))
  go_ret
  exact ⟨rfl, L1.out⟩
set_option maxRecDepth 100000 in
set_option maxHeartbeats 1000000 in
theorem writes_46 (HR : Hid (RightOk 46 a b c imm w)) :
    Calls Tryd.prog 19 #[.agg #[.int .i64 46, .int .i64 a, .int .i64 b, .int .i64 c, .int .i64 imm]] w fun e w' => e = .returned (.int .i64 a) ∧ Later w w' := by
  go_enter Tryd.func19, Tryd.ntmps19
  go_wp2_with (first
    | (go_at_call 11; refine (HR.out _ (later1 _ _)).mono ?_; rintro e w1 ⟨rfl, l1⟩; obtain ⟨c0, c1, c2, c3, c4⟩ := ((Blk.new _ _ _ _ rfl : Blk _ _ _ (Im.I.cells ⟨46, a, b, c, imm⟩)).keep l1).box; have L1 := Lib.hid (Later.trans_ (later1 _ _) l1); clear l1))
  go_ret
  exact ⟨rfl, L1.out⟩
set_option maxRecDepth 100000 in
set_option maxHeartbeats 1000000 in
theorem writes_three (ho : 1 ≤ op ∧ op ≤ 12) (HR : Hid (RightOk op a b c imm w)) (HF : Hid (∀ w', Later w w' → Calls Tryd.prog 25 #[.int .i64 op] w' fun e w'' => e = .returned (.int .i64 1) ∧ Later w' w'')) :
    Calls Tryd.prog 19 #[.agg #[.int .i64 op, .int .i64 a, .int .i64 b, .int .i64 c, .int .i64 imm]] w fun e w' => e = .returned (.int .i64 a) ∧ Later w w' := by
  have n16 : (op == 16) = false := beq_eq_false_iff_ne.2 (by omega)
  have n17 : (op == 17) = false := beq_eq_false_iff_ne.2 (by omega)
  have n20 : (op == 20) = false := beq_eq_false_iff_ne.2 (by omega)
  have n22 : (op == 22) = false := beq_eq_false_iff_ne.2 (by omega)
  have n24 : (op == 24) = false := beq_eq_false_iff_ne.2 (by omega)
  have n32 : (op == 32) = false := beq_eq_false_iff_ne.2 (by omega)
  have n33 : (op == 33) = false := beq_eq_false_iff_ne.2 (by omega)
  have n42 : (op == 42) = false := beq_eq_false_iff_ne.2 (by omega)
  have n46 : (op == 46) = false := beq_eq_false_iff_ne.2 (by omega)
  clear ho
  go_enter Tryd.func19, Tryd.ntmps19
  go_wp2_with (first
    | (go_at_call 11; refine (HR.out _ (later1 _ _)).mono ?_; rintro e w1 ⟨rfl, l1⟩; obtain ⟨c0, c1, c2, c3, c4⟩ := ((Blk.new _ _ _ _ rfl : Blk _ _ _ (Im.I.cells ⟨op, a, b, c, imm⟩)).keep l1).box; have L1 := Lib.hid (Later.trans_ (later1 _ _) l1); clear l1)
    | (go_at_call 25; refine (HF.out _ (Later.trans_ L1.out (Below.refl _ _))).mono ?_; rintro e w2 ⟨rfl, l2⟩; replace c1 := (l2.cell (block_lt_of_cell c1)).trans c1; have L2 := Lib.hid (Later.trans_ L1.out l2); clear l2))
  go_ret
  exact ⟨rfl, L2.out⟩
set_option maxRecDepth 100000 in
set_option maxHeartbeats 1000000 in
theorem writes_none (f : Int) (h16 : op ≠ 16) (h17 : op ≠ 17) (h20 : op ≠ 20) (h22 : op ≠ 22) (h24 : op ≠ 24) (h32 : op ≠ 32) (h33 : op ≠ 33) (h42 : op ≠ 42) (h46 : op ≠ 46) (HR : Hid (RightOk op a b c imm w)) (HF : Hid (∀ w', Later w w' → Calls Tryd.prog 25 #[.int .i64 op] w' fun e w'' => e = .returned (.int .i64 f) ∧ Later w' w'')) (hf : (f == 1) = false):
    Calls Tryd.prog 19 #[.agg #[.int .i64 op, .int .i64 a, .int .i64 b, .int .i64 c, .int .i64 imm]] w fun e w' => e = .returned (.int .i64 0) ∧ Later w w' := by
  have n16 : (op == 16) = false := beq_eq_false_iff_ne.2 h16
  have n17 : (op == 17) = false := beq_eq_false_iff_ne.2 h17
  have n20 : (op == 20) = false := beq_eq_false_iff_ne.2 h20
  have n22 : (op == 22) = false := beq_eq_false_iff_ne.2 h22
  have n24 : (op == 24) = false := beq_eq_false_iff_ne.2 h24
  have n32 : (op == 32) = false := beq_eq_false_iff_ne.2 h32
  have n33 : (op == 33) = false := beq_eq_false_iff_ne.2 h33
  have n42 : (op == 42) = false := beq_eq_false_iff_ne.2 h42
  have n46 : (op == 46) = false := beq_eq_false_iff_ne.2 h46
  clear h16 h17 h20 h22 h24 h32 h33 h42 h46
  go_enter Tryd.func19, Tryd.ntmps19
  go_wp2_with (first
    | (go_at_call 11; refine (HR.out _ (later1 _ _)).mono ?_; rintro e w1 ⟨rfl, l1⟩; obtain ⟨c0, c1, c2, c3, c4⟩ := ((Blk.new _ _ _ _ rfl : Blk _ _ _ (Im.I.cells ⟨op, a, b, c, imm⟩)).keep l1).box; have L1 := Lib.hid (Later.trans_ (later1 _ _) l1); clear l1)
    | (go_at_call 25; refine (HF.out _ (Later.trans_ L1.out (Below.refl _ _))).mono ?_; rintro e w2 ⟨rfl, l2⟩; replace c1 := (l2.cell (block_lt_of_cell c1)).trans c1; have L2 := Lib.hid (Later.trans_ L1.out l2); clear l2))
  go_ret
  exact ⟨rfl, L2.out⟩
set_option maxRecDepth 100000 in
set_option maxHeartbeats 1000000 in
theorem target_28 (pc : Int) (HR : Hid (RightOk 28 a b c imm w)) (_hi : -131072 ≤ imm ∧ imm ≤ 131071) :
    Calls Tryd.prog 14 #[.int .u32 pc, .agg #[.int .i64 28, .int .i64 a, .int .i64 b, .int .i64 c, .int .i64 imm]] w fun e w' => e = .returned (.tuple #[.int .u32 ((pc + 4 * imm) % 4294967296), .bool true]) ∧ Later w w' := by
  have hm : (pc + 4 * imm % 4294967296) % 4294967296 = (pc + 4 * imm) % 4294967296 := by omega
  have HM := Lib.hid hm; clear hm
  go_enter Tryd.func14, Tryd.ntmps14
  go_wp2_with (first
    | (go_at_call 11; refine (HR.out _ (later1 _ _)).mono ?_; rintro e w1 ⟨rfl, l1⟩; obtain ⟨c0, c1, c2, c3, c4⟩ := ((Blk.new _ _ _ _ rfl : Blk _ _ _ (Im.I.cells ⟨28, a, b, c, imm⟩)).keep l1).box; have L1 := Lib.hid (Later.trans_ (later1 _ _) l1); clear l1))
  rw [HM.out]
  go_ret2
  exact ⟨rfl, L1.out⟩
set_option maxRecDepth 100000 in
set_option maxHeartbeats 1000000 in
theorem target_29 (pc : Int) (HR : Hid (RightOk 29 a b c imm w)) (_hi : -131072 ≤ imm ∧ imm ≤ 131071) :
    Calls Tryd.prog 14 #[.int .u32 pc, .agg #[.int .i64 29, .int .i64 a, .int .i64 b, .int .i64 c, .int .i64 imm]] w fun e w' => e = .returned (.tuple #[.int .u32 ((pc + 4 * imm) % 4294967296), .bool true]) ∧ Later w w' := by
  have hm : (pc + 4 * imm % 4294967296) % 4294967296 = (pc + 4 * imm) % 4294967296 := by omega
  have HM := Lib.hid hm; clear hm
  go_enter Tryd.func14, Tryd.ntmps14
  go_wp2_with (first
    | (go_at_call 11; refine (HR.out _ (later1 _ _)).mono ?_; rintro e w1 ⟨rfl, l1⟩; obtain ⟨c0, c1, c2, c3, c4⟩ := ((Blk.new _ _ _ _ rfl : Blk _ _ _ (Im.I.cells ⟨29, a, b, c, imm⟩)).keep l1).box; have L1 := Lib.hid (Later.trans_ (later1 _ _) l1); clear l1))
  rw [HM.out]
  go_ret2
  exact ⟨rfl, L1.out⟩
set_option maxRecDepth 100000 in
set_option maxHeartbeats 1000000 in
theorem target_30 (pc : Int) (HR : Hid (RightOk 30 a b c imm w)) (_hi : -131072 ≤ imm ∧ imm ≤ 131071) :
    Calls Tryd.prog 14 #[.int .u32 pc, .agg #[.int .i64 30, .int .i64 a, .int .i64 b, .int .i64 c, .int .i64 imm]] w fun e w' => e = .returned (.tuple #[.int .u32 ((pc + 4 * imm) % 4294967296), .bool true]) ∧ Later w w' := by
  have hm : (pc + 4 * imm % 4294967296) % 4294967296 = (pc + 4 * imm) % 4294967296 := by omega
  have HM := Lib.hid hm; clear hm
  go_enter Tryd.func14, Tryd.ntmps14
  go_wp2_with (first
    | (go_at_call 11; refine (HR.out _ (later1 _ _)).mono ?_; rintro e w1 ⟨rfl, l1⟩; obtain ⟨c0, c1, c2, c3, c4⟩ := ((Blk.new _ _ _ _ rfl : Blk _ _ _ (Im.I.cells ⟨30, a, b, c, imm⟩)).keep l1).box; have L1 := Lib.hid (Later.trans_ (later1 _ _) l1); clear l1))
  rw [HM.out]
  go_ret2
  exact ⟨rfl, L1.out⟩
set_option maxRecDepth 100000 in
set_option maxHeartbeats 1000000 in
theorem target_31 (pc : Int) (HR : Hid (RightOk 31 a b c imm w)) (_hi : -131072 ≤ imm ∧ imm ≤ 131071) :
    Calls Tryd.prog 14 #[.int .u32 pc, .agg #[.int .i64 31, .int .i64 a, .int .i64 b, .int .i64 c, .int .i64 imm]] w fun e w' => e = .returned (.tuple #[.int .u32 ((pc + 4 * imm) % 4294967296), .bool true]) ∧ Later w w' := by
  have hm : (pc + 4 * imm % 4294967296) % 4294967296 = (pc + 4 * imm) % 4294967296 := by omega
  have HM := Lib.hid hm; clear hm
  go_enter Tryd.func14, Tryd.ntmps14
  go_wp2_with (first
    | (go_at_call 11; refine (HR.out _ (later1 _ _)).mono ?_; rintro e w1 ⟨rfl, l1⟩; obtain ⟨c0, c1, c2, c3, c4⟩ := ((Blk.new _ _ _ _ rfl : Blk _ _ _ (Im.I.cells ⟨31, a, b, c, imm⟩)).keep l1).box; have L1 := Lib.hid (Later.trans_ (later1 _ _) l1); clear l1))
  rw [HM.out]
  go_ret2
  exact ⟨rfl, L1.out⟩
set_option maxRecDepth 100000 in
set_option maxHeartbeats 1000000 in
theorem target_32 (pc : Int) (HR : Hid (RightOk 32 a b c imm w)) (_hi : -131072 ≤ imm ∧ imm ≤ 131071) :
    Calls Tryd.prog 14 #[.int .u32 pc, .agg #[.int .i64 32, .int .i64 a, .int .i64 b, .int .i64 c, .int .i64 imm]] w fun e w' => e = .returned (.tuple #[.int .u32 ((pc + 4 * imm) % 4294967296), .bool true]) ∧ Later w w' := by
  have hm : (pc + 4 * imm % 4294967296) % 4294967296 = (pc + 4 * imm) % 4294967296 := by omega
  have HM := Lib.hid hm; clear hm
  go_enter Tryd.func14, Tryd.ntmps14
  go_wp2_with (first
    | (go_at_call 11; refine (HR.out _ (later1 _ _)).mono ?_; rintro e w1 ⟨rfl, l1⟩; obtain ⟨c0, c1, c2, c3, c4⟩ := ((Blk.new _ _ _ _ rfl : Blk _ _ _ (Im.I.cells ⟨32, a, b, c, imm⟩)).keep l1).box; have L1 := Lib.hid (Later.trans_ (later1 _ _) l1); clear l1))
  rw [HM.out]
  go_ret2
  exact ⟨rfl, L1.out⟩
set_option maxRecDepth 100000 in
set_option maxHeartbeats 1000000 in
theorem target_none (pc : Int) (h28 : op ≠ 28) (h29 : op ≠ 29) (h30 : op ≠ 30) (h31 : op ≠ 31) (h32 : op ≠ 32) (HR : Hid (RightOk op a b c imm w)) :
    Calls Tryd.prog 14 #[.int .u32 pc, .agg #[.int .i64 op, .int .i64 a, .int .i64 b, .int .i64 c, .int .i64 imm]] w fun e w' => e = .returned (.tuple #[.int .u32 0, .bool false]) ∧ Later w w' := by
  have n28 : (op == 28) = false := beq_eq_false_iff_ne.2 h28
  have n29 : (op == 29) = false := beq_eq_false_iff_ne.2 h29
  have n30 : (op == 30) = false := beq_eq_false_iff_ne.2 h30
  have n31 : (op == 31) = false := beq_eq_false_iff_ne.2 h31
  have n32 : (op == 32) = false := beq_eq_false_iff_ne.2 h32
  clear h28 h29 h30 h31 h32
  go_enter Tryd.func14, Tryd.ntmps14
  go_wp2_with (first
    | (go_at_call 11; refine (HR.out _ (later1 _ _)).mono ?_; rintro e w1 ⟨rfl, l1⟩; obtain ⟨c0, c1, c2, c3, c4⟩ := ((Blk.new _ _ _ _ rfl : Blk _ _ _ (Im.I.cells ⟨op, a, b, c, imm⟩)).keep l1).box; have L1 := Lib.hid (Later.trans_ (later1 _ _) l1); clear l1))
  go_ret2
  exact ⟨rfl, L1.out⟩
end
end Go.Proofs.YtbnlpkjjdijfmabDoor
