/-
  THE STATEMENT IsaEncodesAsSpecified, walked.
-/
import Derived.Test.YtbnlpkjjdijfmabDoorIsaSx
import Derived.Test.YtbnlpkjjdijfmabDoorIsaRh
import Derived.Deep.RegionHeld3
namespace Go.Proofs.YtbnlpkjjdijfmabDoor
open Go.RowKit Go.ChangeShapes Go.WideShapes Go.ChangeAt

theorem neq_self (x : Int) : (x != x) = false := by simp
theorem same_self (A B : Option Addr) (n c m d : Nat) (l : List Int) (w : World) (h1 : Sl w 1 A n (N64 l)) (h2 : Sl w 1 B m (N64 l)) (hl : l.length ≤ 10) :
    Calls Tryd.prog 16 #[.slice A n c, .slice B m d] w fun e w' => e = .returned (.bool true) ∧ Later w w' := by
  have e1 := h1.mlen; have e2 := h2.mlen
  have h := sameInts_any A B n c m d l l w h1 h2 (by unfold maxLen; omega) (by unfold maxLen; omega)
  rwa [decide_eq_true rfl] at h
set_option maxRecDepth 100000 in
set_option maxHeartbeats 8000000 in
theorem encodes_false (i : Im.I) (A E pc : Int) (w : World)
    (E1 : Hid (∀ w' : World, Later w w' → Calls Tryd.prog 9 #[.agg #[.int .i64 i.op, .int .i64 i.a, .int .i64 i.b, .int .i64 i.c, .int .i64 i.imm]] w' fun e w'' => e = .returned (.tuple #[.int .u32 A, .int .i64 E]) ∧ Later w' w''))
    (E2 : Hid (∀ w' : World, Later w w' → Calls Tryd.prog 10 #[.agg #[.int .i64 i.op, .int .i64 i.a, .int .i64 i.b, .int .i64 i.c, .int .i64 i.imm]] w' fun e w'' => e = .returned (.agg #[.int .u32 A, .int .i64 E]) ∧ Later w' w''))
    (R1 : Hid (∀ w' : World, Later w w' → Calls Tryd.prog 11 #[.agg #[.int .i64 i.op, .int .i64 i.a, .int .i64 i.b, .int .i64 i.c, .int .i64 i.imm]] w' fun e w'' => e = .returned (.bool false) ∧ Later w' w''))
    (R2 : Hid (∀ w' : World, Later w w' → Calls Tryd.prog 12 #[.agg #[.int .i64 i.op, .int .i64 i.a, .int .i64 i.b, .int .i64 i.c, .int .i64 i.imm]] w' fun e w'' => e = .returned (.bool false) ∧ Later w' w''))
    (SA : Hid (∀ w' : World, Later w w' → Calls Tryd.prog 13 #[] w' fun e w'' => e = .returned (.bool true) ∧ Later w' w'')) :
    Calls Tryd.prog 3 #[.agg #[.int .i64 i.op, .int .i64 i.a, .int .i64 i.b, .int .i64 i.c, .int .i64 i.imm], .int .u32 pc] w fun e w' => e = .returned (.bool true) ∧ Later w w' := by
  have hA := neq_self A
  have hE := neq_self E
  go_enter Tryd.func3, Tryd.ntmps3
  go_wp2_with (first
    | (go_at_call 9; (with_reducible refine (E1.out _ (later1 _ _)).mono ?_); rintro e w1 ⟨rfl, h1⟩; have l1 := Later.trans_ (later1 _ _) h1; have b1 : Blk w1 w.heap.size 23 (Im.I.cells i) := (Blk.new _ _ _ _ rfl).keep h1; obtain ⟨c0, c1, c2, c3, c4⟩ := b1.box)
    | (go_at_call 10; (with_reducible refine (E2.out w1 l1).mono ?_); rintro e w2 ⟨rfl, h2⟩; have l2 := Later.trans_ l1 h2; have b2 := b1.keep h2; clear b1 c0 c1 c2 c3 c4))
  have l3 := l2.alloc l2.size (.cells #[.int .u32 A, .int .i64 E] 29)
  have b3 := b2.alloc (.cells #[.int .u32 A, .int .i64 E] 29)
  have e3 : Blk (w2.alloc (.cells #[.int .u32 A, .int .i64 E] 29)) w2.heap.size 29 (encC A E) := Blk.new _ _ _ _ rfl
  generalize w2.alloc (.cells #[.int .u32 A, .int .i64 E] 29) = w3 at l3 b3 e3 ⊢
  have K1 := re (w := w3) (fun w' h => R1.out w' (Later.trans_ l3 h))
  have K2 := re (w := w3) (fun w' h => R2.out w' (Later.trans_ l3 h))
  obtain ⟨q0, q1, q2, q3, q4⟩ := b3.box
  have q5 := e3.cell (j := 0) rfl
  have q6 := e3.cell (j := 1) rfl
  have k0 := cell_regrown q0; have k1 := cell_regrown q1; have k2 := cell_regrown q2; have k3 := cell_regrown q3; have k4 := cell_regrown q4; have k5 := cell_regrown q5; have k6 := cell_regrown q6
  clear q0 q1 q2 q3 q4 q5 q6
  try simp only [Act.put]
  refine wp_region_quiet_below (by kernel_rfl) (by kernel_rfl) ?_
  repeat (go_big_quiet_step (first | with_reducible exact K1 _ _ | with_reducible exact K2 _ _))
  refine wpQuiet_nil ?_
  rintro _ ⟨⟨dq, osq⟩, rfl⟩
  have h8 := below_regrown w3 dq osq
  have b4 := b3.keep h8
  have l4 := Later.trans_ l3 h8
  clear k0 k1 k2 k3 k4 k5 k6 K1 K2
  generalize Sort.grow (redrawn w3 dq) osq = w4 at h8 b4 l4 ⊢
  clear h8 b3 e3 b2
  obtain ⟨c0, c1, c2, c3, c4⟩ := b4.box
  go_wp2_with (first
    | (go_at_call 12; (with_reducible refine (R2.out w4 l4).mono ?_); rintro e w5 ⟨rfl, h5⟩; have l5 := Later.trans_ l4 h5)
    | (go_at_call 13; (with_reducible refine (SA.out w5 l5).mono ?_); rintro e w6 ⟨rfl, h6⟩; have l6 := Later.trans_ l5 h6))
  go_ret
  exact ⟨rfl, l6⟩
set_option maxRecDepth 100000 in
set_option maxHeartbeats 8000000 in
theorem encodes_true (i : Im.I) (A E pc T v : Int) (t : Bool) (l : List Int) (hl10 : l.length ≤ 10) (w : World)
    (E1 : Hid (∀ w' : World, Later w w' → Calls Tryd.prog 9 #[.agg #[.int .i64 i.op, .int .i64 i.a, .int .i64 i.b, .int .i64 i.c, .int .i64 i.imm]] w' fun e w'' => e = .returned (.tuple #[.int .u32 A, .int .i64 E]) ∧ Later w' w''))
    (E2 : Hid (∀ w' : World, Later w w' → Calls Tryd.prog 10 #[.agg #[.int .i64 i.op, .int .i64 i.a, .int .i64 i.b, .int .i64 i.c, .int .i64 i.imm]] w' fun e w'' => e = .returned (.agg #[.int .u32 A, .int .i64 E]) ∧ Later w' w''))
    (R1 : Hid (∀ w' : World, Later w w' → Calls Tryd.prog 11 #[.agg #[.int .i64 i.op, .int .i64 i.a, .int .i64 i.b, .int .i64 i.c, .int .i64 i.imm]] w' fun e w'' => e = .returned (.bool true) ∧ Later w' w''))
    (R2 : Hid (∀ w' : World, Later w w' → Calls Tryd.prog 12 #[.agg #[.int .i64 i.op, .int .i64 i.a, .int .i64 i.b, .int .i64 i.c, .int .i64 i.imm]] w' fun e w'' => e = .returned (.bool true) ∧ Later w' w''))
    (SA : Hid (∀ w' : World, Later w w' → Calls Tryd.prog 13 #[] w' fun e w'' => e = .returned (.bool true) ∧ Later w' w''))
    (T1 : Hid (∀ w' : World, Later w w' → Calls Tryd.prog 14 #[.int .u32 pc, .agg #[.int .i64 i.op, .int .i64 i.a, .int .i64 i.b, .int .i64 i.c, .int .i64 i.imm]] w' fun e w'' => e = .returned (.tuple #[.int .u32 T, .bool t]) ∧ Later w' w''))
    (T2 : Hid (∀ w' : World, Later w w' → Calls Tryd.prog 15 #[.int .u32 pc, .agg #[.int .i64 i.op, .int .i64 i.a, .int .i64 i.b, .int .i64 i.c, .int .i64 i.imm]] w' fun e w'' => e = .returned (.agg #[.int .u32 T, .bool t]) ∧ Later w' w''))
    (D1 : Hid (∀ w' : World, Later w w' → Calls Tryd.prog 17 #[.agg #[.int .i64 i.op, .int .i64 i.a, .int .i64 i.b, .int .i64 i.c, .int .i64 i.imm]] w' (MadeI l w')))
    (D2 : Hid (∀ w' : World, Later w w' → Calls Tryd.prog 18 #[.agg #[.int .i64 i.op, .int .i64 i.a, .int .i64 i.b, .int .i64 i.c, .int .i64 i.imm]] w' (MadeI l w')))
    (W1 : Hid (∀ w' : World, Later w w' → Calls Tryd.prog 19 #[.agg #[.int .i64 i.op, .int .i64 i.a, .int .i64 i.b, .int .i64 i.c, .int .i64 i.imm]] w' fun e w'' => e = .returned (.int .i64 v) ∧ Later w' w''))
    (W2 : Hid (∀ w' : World, Later w w' → Calls Tryd.prog 20 #[.agg #[.int .i64 i.op, .int .i64 i.a, .int .i64 i.b, .int .i64 i.c, .int .i64 i.imm]] w' fun e w'' => e = .returned (.int .i64 v) ∧ Later w' w'')) :
    Calls Tryd.prog 3 #[.agg #[.int .i64 i.op, .int .i64 i.a, .int .i64 i.b, .int .i64 i.c, .int .i64 i.imm], .int .u32 pc] w fun e w' => e = .returned (.bool true) ∧ Later w w' := by
  have hA := neq_self A
  have hE := neq_self E
  go_enter Tryd.func3, Tryd.ntmps3
  go_wp2_with (first
    | (go_at_call 9; (with_reducible refine (E1.out _ (later1 _ _)).mono ?_); rintro e w1 ⟨rfl, h1⟩; have l1 := Later.trans_ (later1 _ _) h1; have b1 : Blk w1 w.heap.size 23 (Im.I.cells i) := (Blk.new _ _ _ _ rfl).keep h1; obtain ⟨c0, c1, c2, c3, c4⟩ := b1.box)
    | (go_at_call 10; (with_reducible refine (E2.out w1 l1).mono ?_); rintro e w2 ⟨rfl, h2⟩; have l2 := Later.trans_ l1 h2; have b2 := b1.keep h2; clear b1 c0 c1 c2 c3 c4))
  have l3 := l2.alloc l2.size (.cells #[.int .u32 A, .int .i64 E] 29)
  have b3 := b2.alloc (.cells #[.int .u32 A, .int .i64 E] 29)
  have e3 : Blk (w2.alloc (.cells #[.int .u32 A, .int .i64 E] 29)) w2.heap.size 29 (encC A E) := Blk.new _ _ _ _ rfl
  generalize w2.alloc (.cells #[.int .u32 A, .int .i64 E] 29) = w3 at l3 b3 e3 ⊢
  have K1 := re (w := w3) (fun w' h => R1.out w' (Later.trans_ l3 h))
  have K2 := re (w := w3) (fun w' h => R2.out w' (Later.trans_ l3 h))
  obtain ⟨q0, q1, q2, q3, q4⟩ := b3.box
  have q5 := e3.cell (j := 0) rfl
  have q6 := e3.cell (j := 1) rfl
  have k0 := cell_regrown q0; have k1 := cell_regrown q1; have k2 := cell_regrown q2; have k3 := cell_regrown q3; have k4 := cell_regrown q4; have k5 := cell_regrown q5; have k6 := cell_regrown q6
  clear q0 q1 q2 q3 q4 q5 q6
  try simp only [Act.put]
  refine wp_region_quiet_below (by kernel_rfl) (by kernel_rfl) ?_
  repeat (go_big_quiet_step (first | with_reducible exact K1 _ _ | with_reducible exact K2 _ _))
  refine wpQuiet_nil ?_
  rintro _ ⟨⟨dq, osq⟩, rfl⟩
  have h8 := below_regrown w3 dq osq
  have b4 := b3.keep h8
  have l4 := Later.trans_ l3 h8
  clear k0 k1 k2 k3 k4 k5 k6 K1 K2
  generalize Sort.grow (redrawn w3 dq) osq = w4 at h8 b4 l4 ⊢
  clear h8 b3 e3 b2
  obtain ⟨c0, c1, c2, c3, c4⟩ := b4.box
  go_wp2_with (first
    | (go_at_call 12; (with_reducible refine (R2.out w4 l4).mono ?_); rintro e w5 ⟨rfl, h5⟩; have l5 := Later.trans_ l4 h5; have b5 := b4.keep h5; clear c0 c1 c2 c3 c4; obtain ⟨c0, c1, c2, c3, c4⟩ := b5.box)
    | (go_at_call 14; (with_reducible refine (T1.out w5 l5).mono ?_); rintro e w6 ⟨rfl, h6⟩; have l6 := Later.trans_ l5 h6; have b6 := b5.keep h6; clear c0 c1 c2 c3 c4; obtain ⟨c0, c1, c2, c3, c4⟩ := b6.box)
    | (go_at_call 15; (with_reducible refine (T2.out w6 l6).mono ?_); rintro e w7 ⟨rfl, h7⟩; have l7 := Later.trans_ l6 h7; have b7 := b6.keep h7; clear c0 c1 c2 c3 c4))
  have l8 := l7.alloc l7.size (.cells #[.int .u32 T, .bool t] 36)
  have b8 := b7.alloc (.cells #[.int .u32 T, .bool t] 36)
  have g8 : Blk (w7.alloc (.cells #[.int .u32 T, .bool t] 36)) w7.heap.size 36 [.int .u32 T, .bool t] := Blk.new _ _ _ _ rfl
  generalize w7.alloc (.cells #[.int .u32 T, .bool t] 36) = w8 at l8 b8 g8 ⊢
  have LL := Lib.hid l8; have BB := Lib.hid b8; have GG := Lib.hid g8
  have htt : (t == t) = true := beq_self_eq_true t
  clear l8 b8 g8 b7 b6 b5 b4 hA hE
  try simp only [Act.put]
  go_region_held3 (fun w' => (w'.cell? ⟨w.heap.size, 0, none⟩ = some (.int .i64 i.op) ∧ w'.cell? ⟨w.heap.size, 1, none⟩ = some (.int .i64 i.a) ∧ w'.cell? ⟨w.heap.size, 2, none⟩ = some (.int .i64 i.b) ∧ w'.cell? ⟨w.heap.size, 3, none⟩ = some (.int .i64 i.c) ∧ w'.cell? ⟨w.heap.size, 4, none⟩ = some (.int .i64 i.imm)) ∧ w'.cell? ⟨w7.heap.size, 0, none⟩ = some (.int .u32 T) ∧ w'.cell? ⟨w7.heap.size, 1, none⟩ = some (.bool t)) (first
    | exact ⟨BB.out.drew.box, GG.out.drew.cell rfl, GG.out.drew.cell rfl⟩
    | exact ⟨(BB.out.drew.keep m1).box, (GG.out.drew.keep m1).cell rfl, (GG.out.drew.keep m1).cell rfl⟩
    | exact ⟨(BB.out.drew.keep m2).box, (GG.out.drew.keep m2).cell rfl, (GG.out.drew.keep m2).cell rfl⟩
    | exact ⟨(BB.out.drew.keep m3).box, (GG.out.drew.keep m3).cell rfl, (GG.out.drew.keep m3).cell rfl⟩
    | exact ⟨(BB.out.drew.keep m4).box, (GG.out.drew.keep m4).cell rfl, (GG.out.drew.keep m4).cell rfl⟩
    | exact ⟨(BB.out.drew.keep m5).box, (GG.out.drew.keep m5).cell rfl, (GG.out.drew.keep m5).cell rfl⟩
    | exact ⟨(BB.out.drew.keep m6).box, (GG.out.drew.keep m6).cell rfl, (GG.out.drew.keep m6).cell rfl⟩) (first
    | (go_at_call 13; refine (SA.out _ LL.out.drew).mono ?_; rintro e u1 ⟨rfl, m1⟩)
    | (go_at_call 17; refine (D1.out u1 (Later.trans_ LL.out.drew m1)).mono ?_; rintro e u2 ⟨A1, q1, rfl, -, -, s1, n2⟩; have m2 := Later.trans_ m1 n2)
    | (go_at_call 18; refine (D2.out u2 (Later.trans_ LL.out.drew m2)).mono ?_; rintro e u3 ⟨A2, q2, rfl, -, -, s2, n3⟩; have m3 := Later.trans_ m2 n3)
    | (go_at_call 16; refine (same_self A1 A2 _ q1 _ q2 l u3 (s1.keep n3) s2 hl10).mono ?_; rintro e u4 ⟨rfl, n4⟩; have m4 := Later.trans_ m3 n4)
    | (go_at_call 19; refine (W1.out u4 (Later.trans_ LL.out.drew m4)).mono ?_; rintro e u5 ⟨rfl, n5⟩; have m5 := Later.trans_ m4 n5)
    | (go_at_call 20; refine (W2.out u5 (Later.trans_ LL.out.drew m5)).mono ?_; rintro e u6 ⟨rfl, n6⟩; have m6 := Later.trans_ m5 n6))
  all_goals go_wp2
  go_ret
  exact ⟨rfl, Later.trans_ LL.out.drew m6⟩

theorem asc_le {l : List Int} (h : Asc l) : l.length ≤ 10 := Nat.le_trans (asc_len h) (by decide)
theorem lawEncodes_any (i : Im.I) (pc : Int) (_hpc : 0 ≤ pc ∧ pc < 4294967296) (_hi : inR [i.op, i.a, i.b, i.c, i.imm]) (w : World) (tab : Tab w) :
    Calls Tryd.prog 3 #[.agg #[.int .i64 i.op, .int .i64 i.a, .int .i64 i.b, .int .i64 i.c, .int .i64 i.imm], .int .u32 pc] w fun e w' => e = .returned (.bool true) ∧ Later w w' := by
  have SA := fun w' (hl : Later w w') => sanity_any w' (tab.keep hl)
  have E1 := fun w' (hl : Later w w') => encode_any i w' (tab.keep hl)
  have E2 := fun w' (_ : Later w w') => refEncode_any i w'
  have R1 := fun w' (hl : Later w w') => right_any i w' (tab.keep hl)
  have R2 := fun w' (_ : Later w w') => refRight_any i w'
  by_cases hr : Im.Right i
  · simp only [decide_eq_true hr] at R1 R2
    have T1 := fun w' (hl : Later w w') => target_any pc i hr w' (tab.keep hl)
    have T2 := fun w' (_ : Later w w') => refTarget_any pc i hr w'
    have D1 := fun w' (hl : Later w w') => reads_any i hr w' (tab.keep hl)
    have D2 := fun w' (_ : Later w w') => refReads_any i hr w'
    have W1 := fun w' (hl : Later w w') => writes_any i hr w' (tab.keep hl)
    have W2 := fun w' (_ : Later w w') => refWrites_any i hr w'
    exact encodes_true i (encW i) (encE i) pc (targI pc i) (writeI i) (isT i.op) (readL i) (asc_le (readL_asc hr)) w E1 E2 R1 R2 SA T1 T2 D1 D2 W1 W2
  · simp only [decide_eq_false hr] at R1 R2
    exact encodes_false i (encW i) (encE i) pc w E1 E2 R1 R2 SA
end Go.Proofs.YtbnlpkjjdijfmabDoor
