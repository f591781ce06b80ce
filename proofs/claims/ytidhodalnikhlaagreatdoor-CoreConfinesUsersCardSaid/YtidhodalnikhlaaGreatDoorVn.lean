/-
  THE WALK OF isa.Decode.
-/
import Derived.Test.YtidhodalnikhlaaGreatDoorVk
namespace Go.Proofs.YtidhodalnikhlaaGreatDoor
open Go.RowKit Go.ChangeShapes Go.WideShapes Go.ChangeAt

set_option maxRecDepth 100000 in
set_option maxHeartbeats 4000000 in
theorem decode_A (W m x : Int) (F : Im.I) (h : 0 ≤ W ∧ W < 4294967296) (w : World) (hm : m = W % 262144) (hx : m > 131071 ∧ x = m - 262144 ∨ ¬ m > 131071 ∧ x = m)
    (HG : Hid (∀ w', Later w w' → Calls Tryz.prog 92 #[.agg #[.int .i64 (W / 67108864 % 64), .int .i64 (W / 4194304 % 16), .int .i64 (W / 262144 % 16), .int .i64 (W / 16384 % 16), .int .i64 x]] w' fun e w'' => e = .returned (.agg F.cells.toArray) ∧ Later w' w''))
    (HFF : Hid (∀ w' : World, Later w w' → Calls Tryz.prog 93 #[.int .i64 F.op] w' fun e w'' => e = .returned (.int .i64 (Im.form F.op)) ∧ Later w' w'')) (hz : Im.form F.op = 0) :
    Calls Tryz.prog 48 #[.int .u32 W] w fun e w' => e = .returned (.tuple #[.agg (Im.I.cells (Im.I.mk 0 0 0 0 0)).toArray, .bool false]) ∧ Later w w' := by
  have KI := Lib.hid (fun w' hc => cut_imm W h w.heap.size w' hc); have KO := Lib.hid (fun w' hc => cut_op W h w.heap.size w' hc); have KA := Lib.hid (fun w' hc => cut_a W h w.heap.size w' hc); have KB := Lib.hid (fun w' hc => cut_b W h w.heap.size w' hc); have KC := Lib.hid (fun w' hc => cut_c W h w.heap.size w' hc)
  have hmb : 0 ≤ m ∧ m < 262144 := by omega
  rw [← hm] at KI
  clear hm
  rw [hz] at HFF
  clear hz
  rcases hx with ⟨hgt, rfl⟩ | ⟨hgt, rfl⟩
  · have hd : decide (m > 131071) = true := decide_eq_true hgt
    go_enter Tryz.func48, Tryz.ntmps48
    go_wp2_with (first
      | (go_at_call 92; refine (HG.out _ l5).mono ?_; rintro e w6 ⟨rfl, h6⟩; have l6 := Later.trans_ l5 h6; have b6 := b5.keep h6; have z6 := z5.keep h6)
      | ((with_reducible refine wpList_store_abs (o := ⟨none, .store 70 (.tmp 6) (.tmp 24), _, _, _, none⟩) rfl _ _ _ rfl w6.heap.size 70 (Im.I.cells ⟨0, 0, 0, 0, 0⟩) F.cells ?_ ?_ ?_ (ins_sz _) (ins_len _ _) (ins_one _) ?_); rfl; rfl; exact Blk.new _ _ _ _ rfl; intro w7 y1 y2; have l7 : Later w w7 := Below.only (l6.alloc l6.size _) y2 l6.size; have b7 := (b6.alloc _).only y2 (Nat.ne_of_lt b6.lt); have z7 := (z6.alloc _).only y2 (Nat.ne_of_lt z6.lt))
      | (go_at_call 91; with_reducible refine (KC.out w4 (b4.cell rfl)).mono ?_; rintro e w5 ⟨rfl, h5⟩; have b5 := b4.keep h5; have z5 := z4.keep h5; have l5 := Later.trans_ l4 h5)
      | (go_at_call 91; with_reducible refine (KB.out w3 (b3.cell rfl)).mono ?_; rintro e w4 ⟨rfl, h4⟩; have b4 := b3.keep h4; have z4 := z3.keep h4; have l4 := Later.trans_ l3 h4)
      | (go_at_call 91; with_reducible refine (KA.out w2 (b2.cell rfl)).mono ?_; rintro e w3 ⟨rfl, h3⟩; have b3 := b2.keep h3; have z3 := z2.keep h3; have l3 := Later.trans_ l2 h3)
      | (go_at_call 91; with_reducible refine (KO.out w1 (b1.cell rfl)).mono ?_; rintro e w2 ⟨rfl, h2⟩; have b2 := b1.keep h2; have z2 := z1.keep h2; have l2 := Later.trans_ l1 h2)
      | (go_at_call 91; refine (KI.out _ (((Blk.new w 22 _ [.int .u32 W] rfl).alloc _).cell rfl)).mono ?_; rintro e w1 ⟨rfl, h1⟩; have b1 := ((Blk.new w 22 _ [.int .u32 W] rfl).alloc _).keep h1; have z1 : Blk w1 (w.heap.size + 1) 70 (Im.I.cells ⟨0, 0, 0, 0, 0⟩) := (Blk.new' _ _ _ _ _ (by simp) rfl).keep h1; have l1 := Later.trans_ ((later1 w _).alloc (by simp) _) h1))
    have HF := re (w := w7) (fun w' h => HFF.out w' (Later.trans_ l7 h))
    obtain ⟨q0, q1, q2, q3, q4⟩ := y1.box
    have q5 := b7.cell (j := 0) rfl
    have k0 := cell_regrown q0; have k1 := cell_regrown q1; have k2 := cell_regrown q2; have k3 := cell_regrown q3; have k4 := cell_regrown q4; have k5 := cell_regrown q5
    clear q0 q1 q2 q3 q4 q5
    simp only [Act.put]
    refine wp_region_quiet_below (by kernel_rfl) (by kernel_rfl) ?_
    repeat (go_big_quiet_step (first | with_reducible exact HF _ _))
    refine wpQuiet_nil ?_
    rintro _ ⟨⟨dq, osq⟩, rfl⟩
    have l8 := below_regrown w7 dq osq
    have z8 := z7.keep l8
    have y8 := y1.keep l8
    have l9 := Later.trans_ l7 l8
    clear k0 k1 k2 k3 k4 k5
    generalize Sort.grow (redrawn w7 dq) osq = w8 at l8 z8 y8 l9 ⊢
    obtain ⟨q0, q1, q2, q3, q4⟩ := y8.box
    go_wp2_with ((with_reducible refine wpList_store_abs (o := ⟨none, .store 70 (.tmp 2) (.tmp 35), _, _, _, none⟩) rfl _ _ _ rfl (w.heap.size + 1) 70 (Im.I.cells ⟨0, 0, 0, 0, 0⟩) (Im.I.cells ⟨0, 0, 0, 0, 0⟩) ?_ ?_ z8 (ins_sz _) (ins_len _ _) (ins_one _) ?_); rfl; rfl; intro w9 v1 v2)
    exact bodyPost_ret (v := .tuple #[.agg (Im.I.cells ⟨0, 0, 0, 0, 0⟩).toArray, .bool false]) (dec_ret Tryz.results48 _ (w.heap.size + 1) _ (Im.I.mk 0 0 0 0 0) _ rfl rfl v1) rfl ⟨rfl, Below.only l9 v2 (by omega)⟩
  · have hd : decide (x > 131071) = false := decide_eq_false hgt
    go_enter Tryz.func48, Tryz.ntmps48
    go_wp2_with (first
      | (go_at_call 92; refine (HG.out _ l5).mono ?_; rintro e w6 ⟨rfl, h6⟩; have l6 := Later.trans_ l5 h6; have b6 := b5.keep h6; have z6 := z5.keep h6)
      | ((with_reducible refine wpList_store_abs (o := ⟨none, .store 70 (.tmp 6) (.tmp 24), _, _, _, none⟩) rfl _ _ _ rfl w6.heap.size 70 (Im.I.cells ⟨0, 0, 0, 0, 0⟩) F.cells ?_ ?_ ?_ (ins_sz _) (ins_len _ _) (ins_one _) ?_); rfl; rfl; exact Blk.new _ _ _ _ rfl; intro w7 y1 y2; have l7 : Later w w7 := Below.only (l6.alloc l6.size _) y2 l6.size; have b7 := (b6.alloc _).only y2 (Nat.ne_of_lt b6.lt); have z7 := (z6.alloc _).only y2 (Nat.ne_of_lt z6.lt))
      | (go_at_call 91; with_reducible refine (KC.out w4 (b4.cell rfl)).mono ?_; rintro e w5 ⟨rfl, h5⟩; have b5 := b4.keep h5; have z5 := z4.keep h5; have l5 := Later.trans_ l4 h5)
      | (go_at_call 91; with_reducible refine (KB.out w3 (b3.cell rfl)).mono ?_; rintro e w4 ⟨rfl, h4⟩; have b4 := b3.keep h4; have z4 := z3.keep h4; have l4 := Later.trans_ l3 h4)
      | (go_at_call 91; with_reducible refine (KA.out w2 (b2.cell rfl)).mono ?_; rintro e w3 ⟨rfl, h3⟩; have b3 := b2.keep h3; have z3 := z2.keep h3; have l3 := Later.trans_ l2 h3)
      | (go_at_call 91; with_reducible refine (KO.out w1 (b1.cell rfl)).mono ?_; rintro e w2 ⟨rfl, h2⟩; have b2 := b1.keep h2; have z2 := z1.keep h2; have l2 := Later.trans_ l1 h2)
      | (go_at_call 91; refine (KI.out _ (((Blk.new w 22 _ [.int .u32 W] rfl).alloc _).cell rfl)).mono ?_; rintro e w1 ⟨rfl, h1⟩; have b1 := ((Blk.new w 22 _ [.int .u32 W] rfl).alloc _).keep h1; have z1 : Blk w1 (w.heap.size + 1) 70 (Im.I.cells ⟨0, 0, 0, 0, 0⟩) := (Blk.new' _ _ _ _ _ (by simp) rfl).keep h1; have l1 := Later.trans_ ((later1 w _).alloc (by simp) _) h1))
    have HF := re (w := w7) (fun w' h => HFF.out w' (Later.trans_ l7 h))
    obtain ⟨q0, q1, q2, q3, q4⟩ := y1.box
    have q5 := b7.cell (j := 0) rfl
    have k0 := cell_regrown q0; have k1 := cell_regrown q1; have k2 := cell_regrown q2; have k3 := cell_regrown q3; have k4 := cell_regrown q4; have k5 := cell_regrown q5
    clear q0 q1 q2 q3 q4 q5
    simp only [Act.put]
    refine wp_region_quiet_below (by kernel_rfl) (by kernel_rfl) ?_
    repeat (go_big_quiet_step (first | with_reducible exact HF _ _))
    refine wpQuiet_nil ?_
    rintro _ ⟨⟨dq, osq⟩, rfl⟩
    have l8 := below_regrown w7 dq osq
    have z8 := z7.keep l8
    have y8 := y1.keep l8
    have l9 := Later.trans_ l7 l8
    clear k0 k1 k2 k3 k4 k5
    generalize Sort.grow (redrawn w7 dq) osq = w8 at l8 z8 y8 l9 ⊢
    obtain ⟨q0, q1, q2, q3, q4⟩ := y8.box
    go_wp2_with ((with_reducible refine wpList_store_abs (o := ⟨none, .store 70 (.tmp 2) (.tmp 35), _, _, _, none⟩) rfl _ _ _ rfl (w.heap.size + 1) 70 (Im.I.cells ⟨0, 0, 0, 0, 0⟩) (Im.I.cells ⟨0, 0, 0, 0, 0⟩) ?_ ?_ z8 (ins_sz _) (ins_len _ _) (ins_one _) ?_); rfl; rfl; intro w9 v1 v2)
    exact bodyPost_ret (v := .tuple #[.agg (Im.I.cells ⟨0, 0, 0, 0, 0⟩).toArray, .bool false]) (dec_ret Tryz.results48 _ (w.heap.size + 1) _ (Im.I.mk 0 0 0 0 0) _ rfl rfl v1) rfl ⟨rfl, Below.only l9 v2 (by omega)⟩
set_option maxRecDepth 100000 in
set_option maxHeartbeats 4000000 in
theorem decode_B (W m x : Int) (F : Im.I) (h : 0 ≤ W ∧ W < 4294967296) (w : World) (hm : m = W % 262144) (hx : m > 131071 ∧ x = m - 262144 ∨ ¬ m > 131071 ∧ x = m)
    (HG : Hid (∀ w', Later w w' → Calls Tryz.prog 92 #[.agg #[.int .i64 (W / 67108864 % 64), .int .i64 (W / 4194304 % 16), .int .i64 (W / 262144 % 16), .int .i64 (W / 16384 % 16), .int .i64 x]] w' fun e w'' => e = .returned (.agg F.cells.toArray) ∧ Later w' w''))
    (HFF : Hid (∀ w' : World, Later w w' → Calls Tryz.prog 93 #[.int .i64 F.op] w' fun e w'' => e = .returned (.int .i64 (Im.form F.op)) ∧ Later w' w'')) (HWW : Hid (∀ w' : World, Calls Tryz.prog 94 #[.agg #[.int .i64 F.op, .int .i64 F.a, .int .i64 F.b, .int .i64 F.c, .int .i64 F.imm]] w' fun e w'' => e = .returned (.int .u32 (Im.word F)) ∧ Later w' w'')) (hz : (Im.form F.op == 0) = false) (hw : (Im.word F != W) = true) :
    Calls Tryz.prog 48 #[.int .u32 W] w fun e w' => e = .returned (.tuple #[.agg (Im.I.cells (Im.I.mk 0 0 0 0 0)).toArray, .bool false]) ∧ Later w w' := by
  have KI := Lib.hid (fun w' hc => cut_imm W h w.heap.size w' hc); have KO := Lib.hid (fun w' hc => cut_op W h w.heap.size w' hc); have KA := Lib.hid (fun w' hc => cut_a W h w.heap.size w' hc); have KB := Lib.hid (fun w' hc => cut_b W h w.heap.size w' hc); have KC := Lib.hid (fun w' hc => cut_c W h w.heap.size w' hc)
  have hmb : 0 ≤ m ∧ m < 262144 := by omega
  rw [← hm] at KI
  clear hm
  rcases hx with ⟨hgt, rfl⟩ | ⟨hgt, rfl⟩
  · have hd : decide (m > 131071) = true := decide_eq_true hgt
    go_enter Tryz.func48, Tryz.ntmps48
    go_wp2_with (first
      | (go_at_call 92; refine (HG.out _ l5).mono ?_; rintro e w6 ⟨rfl, h6⟩; have l6 := Later.trans_ l5 h6; have b6 := b5.keep h6; have z6 := z5.keep h6)
      | ((with_reducible refine wpList_store_abs (o := ⟨none, .store 70 (.tmp 6) (.tmp 24), _, _, _, none⟩) rfl _ _ _ rfl w6.heap.size 70 (Im.I.cells ⟨0, 0, 0, 0, 0⟩) F.cells ?_ ?_ ?_ (ins_sz _) (ins_len _ _) (ins_one _) ?_); rfl; rfl; exact Blk.new _ _ _ _ rfl; intro w7 y1 y2; have l7 : Later w w7 := Below.only (l6.alloc l6.size _) y2 l6.size; have b7 := (b6.alloc _).only y2 (Nat.ne_of_lt b6.lt); have z7 := (z6.alloc _).only y2 (Nat.ne_of_lt z6.lt))
      | (go_at_call 91; with_reducible refine (KC.out w4 (b4.cell rfl)).mono ?_; rintro e w5 ⟨rfl, h5⟩; have b5 := b4.keep h5; have z5 := z4.keep h5; have l5 := Later.trans_ l4 h5)
      | (go_at_call 91; with_reducible refine (KB.out w3 (b3.cell rfl)).mono ?_; rintro e w4 ⟨rfl, h4⟩; have b4 := b3.keep h4; have z4 := z3.keep h4; have l4 := Later.trans_ l3 h4)
      | (go_at_call 91; with_reducible refine (KA.out w2 (b2.cell rfl)).mono ?_; rintro e w3 ⟨rfl, h3⟩; have b3 := b2.keep h3; have z3 := z2.keep h3; have l3 := Later.trans_ l2 h3)
      | (go_at_call 91; with_reducible refine (KO.out w1 (b1.cell rfl)).mono ?_; rintro e w2 ⟨rfl, h2⟩; have b2 := b1.keep h2; have z2 := z1.keep h2; have l2 := Later.trans_ l1 h2)
      | (go_at_call 91; refine (KI.out _ (((Blk.new w 22 _ [.int .u32 W] rfl).alloc _).cell rfl)).mono ?_; rintro e w1 ⟨rfl, h1⟩; have b1 := ((Blk.new w 22 _ [.int .u32 W] rfl).alloc _).keep h1; have z1 : Blk w1 (w.heap.size + 1) 70 (Im.I.cells ⟨0, 0, 0, 0, 0⟩) := (Blk.new' _ _ _ _ _ (by simp) rfl).keep h1; have l1 := Later.trans_ ((later1 w _).alloc (by simp) _) h1))
    have HF := re (w := w7) (fun w' h => HFF.out w' (Later.trans_ l7 h))
    have HW := re (w := w7) (fun w' h => HWW.out w')
    obtain ⟨q0, q1, q2, q3, q4⟩ := y1.box
    have q5 := b7.cell (j := 0) rfl
    have k0 := cell_regrown q0; have k1 := cell_regrown q1; have k2 := cell_regrown q2; have k3 := cell_regrown q3; have k4 := cell_regrown q4; have k5 := cell_regrown q5
    clear q0 q1 q2 q3 q4 q5
    simp only [Act.put]
    refine wp_region_quiet_below (by kernel_rfl) (by kernel_rfl) ?_
    repeat (go_big_quiet_step (first | with_reducible exact HF _ _ | with_reducible exact HW _ _))
    refine wpQuiet_nil ?_
    rintro _ ⟨⟨dq, osq⟩, rfl⟩
    have l8 := below_regrown w7 dq osq
    have z8 := z7.keep l8
    have y8 := y1.keep l8
    have l9 := Later.trans_ l7 l8
    clear k0 k1 k2 k3 k4 k5
    generalize Sort.grow (redrawn w7 dq) osq = w8 at l8 z8 y8 l9 ⊢
    obtain ⟨q0, q1, q2, q3, q4⟩ := y8.box
    go_wp2_with ((with_reducible refine wpList_store_abs (o := ⟨none, .store 70 (.tmp 2) (.tmp 35), _, _, _, none⟩) rfl _ _ _ rfl (w.heap.size + 1) 70 (Im.I.cells ⟨0, 0, 0, 0, 0⟩) (Im.I.cells ⟨0, 0, 0, 0, 0⟩) ?_ ?_ z8 (ins_sz _) (ins_len _ _) (ins_one _) ?_); rfl; rfl; intro w9 v1 v2)
    exact bodyPost_ret (v := .tuple #[.agg (Im.I.cells ⟨0, 0, 0, 0, 0⟩).toArray, .bool false]) (dec_ret Tryz.results48 _ (w.heap.size + 1) _ (Im.I.mk 0 0 0 0 0) _ rfl rfl v1) rfl ⟨rfl, Below.only l9 v2 (by omega)⟩
  · have hd : decide (x > 131071) = false := decide_eq_false hgt
    go_enter Tryz.func48, Tryz.ntmps48
    go_wp2_with (first
      | (go_at_call 92; refine (HG.out _ l5).mono ?_; rintro e w6 ⟨rfl, h6⟩; have l6 := Later.trans_ l5 h6; have b6 := b5.keep h6; have z6 := z5.keep h6)
      | ((with_reducible refine wpList_store_abs (o := ⟨none, .store 70 (.tmp 6) (.tmp 24), _, _, _, none⟩) rfl _ _ _ rfl w6.heap.size 70 (Im.I.cells ⟨0, 0, 0, 0, 0⟩) F.cells ?_ ?_ ?_ (ins_sz _) (ins_len _ _) (ins_one _) ?_); rfl; rfl; exact Blk.new _ _ _ _ rfl; intro w7 y1 y2; have l7 : Later w w7 := Below.only (l6.alloc l6.size _) y2 l6.size; have b7 := (b6.alloc _).only y2 (Nat.ne_of_lt b6.lt); have z7 := (z6.alloc _).only y2 (Nat.ne_of_lt z6.lt))
      | (go_at_call 91; with_reducible refine (KC.out w4 (b4.cell rfl)).mono ?_; rintro e w5 ⟨rfl, h5⟩; have b5 := b4.keep h5; have z5 := z4.keep h5; have l5 := Later.trans_ l4 h5)
      | (go_at_call 91; with_reducible refine (KB.out w3 (b3.cell rfl)).mono ?_; rintro e w4 ⟨rfl, h4⟩; have b4 := b3.keep h4; have z4 := z3.keep h4; have l4 := Later.trans_ l3 h4)
      | (go_at_call 91; with_reducible refine (KA.out w2 (b2.cell rfl)).mono ?_; rintro e w3 ⟨rfl, h3⟩; have b3 := b2.keep h3; have z3 := z2.keep h3; have l3 := Later.trans_ l2 h3)
      | (go_at_call 91; with_reducible refine (KO.out w1 (b1.cell rfl)).mono ?_; rintro e w2 ⟨rfl, h2⟩; have b2 := b1.keep h2; have z2 := z1.keep h2; have l2 := Later.trans_ l1 h2)
      | (go_at_call 91; refine (KI.out _ (((Blk.new w 22 _ [.int .u32 W] rfl).alloc _).cell rfl)).mono ?_; rintro e w1 ⟨rfl, h1⟩; have b1 := ((Blk.new w 22 _ [.int .u32 W] rfl).alloc _).keep h1; have z1 : Blk w1 (w.heap.size + 1) 70 (Im.I.cells ⟨0, 0, 0, 0, 0⟩) := (Blk.new' _ _ _ _ _ (by simp) rfl).keep h1; have l1 := Later.trans_ ((later1 w _).alloc (by simp) _) h1))
    have HF := re (w := w7) (fun w' h => HFF.out w' (Later.trans_ l7 h))
    have HW := re (w := w7) (fun w' h => HWW.out w')
    obtain ⟨q0, q1, q2, q3, q4⟩ := y1.box
    have q5 := b7.cell (j := 0) rfl
    have k0 := cell_regrown q0; have k1 := cell_regrown q1; have k2 := cell_regrown q2; have k3 := cell_regrown q3; have k4 := cell_regrown q4; have k5 := cell_regrown q5
    clear q0 q1 q2 q3 q4 q5
    simp only [Act.put]
    refine wp_region_quiet_below (by kernel_rfl) (by kernel_rfl) ?_
    repeat (go_big_quiet_step (first | with_reducible exact HF _ _ | with_reducible exact HW _ _))
    refine wpQuiet_nil ?_
    rintro _ ⟨⟨dq, osq⟩, rfl⟩
    have l8 := below_regrown w7 dq osq
    have z8 := z7.keep l8
    have y8 := y1.keep l8
    have l9 := Later.trans_ l7 l8
    clear k0 k1 k2 k3 k4 k5
    generalize Sort.grow (redrawn w7 dq) osq = w8 at l8 z8 y8 l9 ⊢
    obtain ⟨q0, q1, q2, q3, q4⟩ := y8.box
    go_wp2_with ((with_reducible refine wpList_store_abs (o := ⟨none, .store 70 (.tmp 2) (.tmp 35), _, _, _, none⟩) rfl _ _ _ rfl (w.heap.size + 1) 70 (Im.I.cells ⟨0, 0, 0, 0, 0⟩) (Im.I.cells ⟨0, 0, 0, 0, 0⟩) ?_ ?_ z8 (ins_sz _) (ins_len _ _) (ins_one _) ?_); rfl; rfl; intro w9 v1 v2)
    exact bodyPost_ret (v := .tuple #[.agg (Im.I.cells ⟨0, 0, 0, 0, 0⟩).toArray, .bool false]) (dec_ret Tryz.results48 _ (w.heap.size + 1) _ (Im.I.mk 0 0 0 0 0) _ rfl rfl v1) rfl ⟨rfl, Below.only l9 v2 (by omega)⟩
set_option maxRecDepth 100000 in
set_option maxHeartbeats 4000000 in
theorem decode_C (W m x : Int) (F : Im.I) (h : 0 ≤ W ∧ W < 4294967296) (w : World) (hm : m = W % 262144) (hx : m > 131071 ∧ x = m - 262144 ∨ ¬ m > 131071 ∧ x = m)
    (HG : Hid (∀ w', Later w w' → Calls Tryz.prog 92 #[.agg #[.int .i64 (W / 67108864 % 64), .int .i64 (W / 4194304 % 16), .int .i64 (W / 262144 % 16), .int .i64 (W / 16384 % 16), .int .i64 x]] w' fun e w'' => e = .returned (.agg F.cells.toArray) ∧ Later w' w''))
    (HFF : Hid (∀ w' : World, Later w w' → Calls Tryz.prog 93 #[.int .i64 F.op] w' fun e w'' => e = .returned (.int .i64 (Im.form F.op)) ∧ Later w' w'')) (HWW : Hid (∀ w' : World, Calls Tryz.prog 94 #[.agg #[.int .i64 F.op, .int .i64 F.a, .int .i64 F.b, .int .i64 F.c, .int .i64 F.imm]] w' fun e w'' => e = .returned (.int .u32 (Im.word F)) ∧ Later w' w'')) (hz : (Im.form F.op == 0) = false) (hw : (Im.word F != W) = false) :
    Calls Tryz.prog 48 #[.int .u32 W] w fun e w' => e = .returned (.tuple #[.agg (Im.I.cells F).toArray, .bool true]) ∧ Later w w' := by
  have KI := Lib.hid (fun w' hc => cut_imm W h w.heap.size w' hc); have KO := Lib.hid (fun w' hc => cut_op W h w.heap.size w' hc); have KA := Lib.hid (fun w' hc => cut_a W h w.heap.size w' hc); have KB := Lib.hid (fun w' hc => cut_b W h w.heap.size w' hc); have KC := Lib.hid (fun w' hc => cut_c W h w.heap.size w' hc)
  have hmb : 0 ≤ m ∧ m < 262144 := by omega
  rw [← hm] at KI
  clear hm
  rcases hx with ⟨hgt, rfl⟩ | ⟨hgt, rfl⟩
  · have hd : decide (m > 131071) = true := decide_eq_true hgt
    go_enter Tryz.func48, Tryz.ntmps48
    go_wp2_with (first
      | (go_at_call 92; refine (HG.out _ l5).mono ?_; rintro e w6 ⟨rfl, h6⟩; have l6 := Later.trans_ l5 h6; have b6 := b5.keep h6; have z6 := z5.keep h6)
      | ((with_reducible refine wpList_store_abs (o := ⟨none, .store 70 (.tmp 6) (.tmp 24), _, _, _, none⟩) rfl _ _ _ rfl w6.heap.size 70 (Im.I.cells ⟨0, 0, 0, 0, 0⟩) F.cells ?_ ?_ ?_ (ins_sz _) (ins_len _ _) (ins_one _) ?_); rfl; rfl; exact Blk.new _ _ _ _ rfl; intro w7 y1 y2; have l7 : Later w w7 := Below.only (l6.alloc l6.size _) y2 l6.size; have b7 := (b6.alloc _).only y2 (Nat.ne_of_lt b6.lt); have z7 := (z6.alloc _).only y2 (Nat.ne_of_lt z6.lt))
      | (go_at_call 91; with_reducible refine (KC.out w4 (b4.cell rfl)).mono ?_; rintro e w5 ⟨rfl, h5⟩; have b5 := b4.keep h5; have z5 := z4.keep h5; have l5 := Later.trans_ l4 h5)
      | (go_at_call 91; with_reducible refine (KB.out w3 (b3.cell rfl)).mono ?_; rintro e w4 ⟨rfl, h4⟩; have b4 := b3.keep h4; have z4 := z3.keep h4; have l4 := Later.trans_ l3 h4)
      | (go_at_call 91; with_reducible refine (KA.out w2 (b2.cell rfl)).mono ?_; rintro e w3 ⟨rfl, h3⟩; have b3 := b2.keep h3; have z3 := z2.keep h3; have l3 := Later.trans_ l2 h3)
      | (go_at_call 91; with_reducible refine (KO.out w1 (b1.cell rfl)).mono ?_; rintro e w2 ⟨rfl, h2⟩; have b2 := b1.keep h2; have z2 := z1.keep h2; have l2 := Later.trans_ l1 h2)
      | (go_at_call 91; refine (KI.out _ (((Blk.new w 22 _ [.int .u32 W] rfl).alloc _).cell rfl)).mono ?_; rintro e w1 ⟨rfl, h1⟩; have b1 := ((Blk.new w 22 _ [.int .u32 W] rfl).alloc _).keep h1; have z1 : Blk w1 (w.heap.size + 1) 70 (Im.I.cells ⟨0, 0, 0, 0, 0⟩) := (Blk.new' _ _ _ _ _ (by simp) rfl).keep h1; have l1 := Later.trans_ ((later1 w _).alloc (by simp) _) h1))
    have HF := re (w := w7) (fun w' h => HFF.out w' (Later.trans_ l7 h))
    have HW := re (w := w7) (fun w' h => HWW.out w')
    obtain ⟨q0, q1, q2, q3, q4⟩ := y1.box
    have q5 := b7.cell (j := 0) rfl
    have k0 := cell_regrown q0; have k1 := cell_regrown q1; have k2 := cell_regrown q2; have k3 := cell_regrown q3; have k4 := cell_regrown q4; have k5 := cell_regrown q5
    clear q0 q1 q2 q3 q4 q5
    simp only [Act.put]
    refine wp_region_quiet_below (by kernel_rfl) (by kernel_rfl) ?_
    repeat (go_big_quiet_step (first | with_reducible exact HF _ _ | with_reducible exact HW _ _))
    refine wpQuiet_nil ?_
    rintro _ ⟨⟨dq, osq⟩, rfl⟩
    have l8 := below_regrown w7 dq osq
    have z8 := z7.keep l8
    have y8 := y1.keep l8
    have l9 := Later.trans_ l7 l8
    clear k0 k1 k2 k3 k4 k5
    generalize Sort.grow (redrawn w7 dq) osq = w8 at l8 z8 y8 l9 ⊢
    obtain ⟨q0, q1, q2, q3, q4⟩ := y8.box
    go_wp2_with ((with_reducible refine wpList_store_abs (o := ⟨none, .store 70 (.tmp 2) (.tmp 36), _, _, _, none⟩) rfl _ _ _ rfl (w.heap.size + 1) 70 (Im.I.cells ⟨0, 0, 0, 0, 0⟩) (Im.I.cells F) ?_ ?_ z8 (ins_sz _) (ins_len _ _) (ins_one _) ?_); rfl; rfl; intro w9 v1 v2)
    exact bodyPost_ret (v := .tuple #[.agg (Im.I.cells F).toArray, .bool true]) (dec_ret Tryz.results48 _ (w.heap.size + 1) _ F _ rfl rfl v1) rfl ⟨rfl, Below.only l9 v2 (by omega)⟩
  · have hd : decide (x > 131071) = false := decide_eq_false hgt
    go_enter Tryz.func48, Tryz.ntmps48
    go_wp2_with (first
      | (go_at_call 92; refine (HG.out _ l5).mono ?_; rintro e w6 ⟨rfl, h6⟩; have l6 := Later.trans_ l5 h6; have b6 := b5.keep h6; have z6 := z5.keep h6)
      | ((with_reducible refine wpList_store_abs (o := ⟨none, .store 70 (.tmp 6) (.tmp 24), _, _, _, none⟩) rfl _ _ _ rfl w6.heap.size 70 (Im.I.cells ⟨0, 0, 0, 0, 0⟩) F.cells ?_ ?_ ?_ (ins_sz _) (ins_len _ _) (ins_one _) ?_); rfl; rfl; exact Blk.new _ _ _ _ rfl; intro w7 y1 y2; have l7 : Later w w7 := Below.only (l6.alloc l6.size _) y2 l6.size; have b7 := (b6.alloc _).only y2 (Nat.ne_of_lt b6.lt); have z7 := (z6.alloc _).only y2 (Nat.ne_of_lt z6.lt))
      | (go_at_call 91; with_reducible refine (KC.out w4 (b4.cell rfl)).mono ?_; rintro e w5 ⟨rfl, h5⟩; have b5 := b4.keep h5; have z5 := z4.keep h5; have l5 := Later.trans_ l4 h5)
      | (go_at_call 91; with_reducible refine (KB.out w3 (b3.cell rfl)).mono ?_; rintro e w4 ⟨rfl, h4⟩; have b4 := b3.keep h4; have z4 := z3.keep h4; have l4 := Later.trans_ l3 h4)
      | (go_at_call 91; with_reducible refine (KA.out w2 (b2.cell rfl)).mono ?_; rintro e w3 ⟨rfl, h3⟩; have b3 := b2.keep h3; have z3 := z2.keep h3; have l3 := Later.trans_ l2 h3)
      | (go_at_call 91; with_reducible refine (KO.out w1 (b1.cell rfl)).mono ?_; rintro e w2 ⟨rfl, h2⟩; have b2 := b1.keep h2; have z2 := z1.keep h2; have l2 := Later.trans_ l1 h2)
      | (go_at_call 91; refine (KI.out _ (((Blk.new w 22 _ [.int .u32 W] rfl).alloc _).cell rfl)).mono ?_; rintro e w1 ⟨rfl, h1⟩; have b1 := ((Blk.new w 22 _ [.int .u32 W] rfl).alloc _).keep h1; have z1 : Blk w1 (w.heap.size + 1) 70 (Im.I.cells ⟨0, 0, 0, 0, 0⟩) := (Blk.new' _ _ _ _ _ (by simp) rfl).keep h1; have l1 := Later.trans_ ((later1 w _).alloc (by simp) _) h1))
    have HF := re (w := w7) (fun w' h => HFF.out w' (Later.trans_ l7 h))
    have HW := re (w := w7) (fun w' h => HWW.out w')
    obtain ⟨q0, q1, q2, q3, q4⟩ := y1.box
    have q5 := b7.cell (j := 0) rfl
    have k0 := cell_regrown q0; have k1 := cell_regrown q1; have k2 := cell_regrown q2; have k3 := cell_regrown q3; have k4 := cell_regrown q4; have k5 := cell_regrown q5
    clear q0 q1 q2 q3 q4 q5
    simp only [Act.put]
    refine wp_region_quiet_below (by kernel_rfl) (by kernel_rfl) ?_
    repeat (go_big_quiet_step (first | with_reducible exact HF _ _ | with_reducible exact HW _ _))
    refine wpQuiet_nil ?_
    rintro _ ⟨⟨dq, osq⟩, rfl⟩
    have l8 := below_regrown w7 dq osq
    have z8 := z7.keep l8
    have y8 := y1.keep l8
    have l9 := Later.trans_ l7 l8
    clear k0 k1 k2 k3 k4 k5
    generalize Sort.grow (redrawn w7 dq) osq = w8 at l8 z8 y8 l9 ⊢
    obtain ⟨q0, q1, q2, q3, q4⟩ := y8.box
    go_wp2_with ((with_reducible refine wpList_store_abs (o := ⟨none, .store 70 (.tmp 2) (.tmp 36), _, _, _, none⟩) rfl _ _ _ rfl (w.heap.size + 1) 70 (Im.I.cells ⟨0, 0, 0, 0, 0⟩) (Im.I.cells F) ?_ ?_ z8 (ins_sz _) (ins_len _ _) (ins_one _) ?_); rfl; rfl; intro w9 v1 v2)
    exact bodyPost_ret (v := .tuple #[.agg (Im.I.cells F).toArray, .bool true]) (dec_ret Tryz.results48 _ (w.heap.size + 1) _ F _ rfl rfl v1) rfl ⟨rfl, Below.only l9 v2 (by omega)⟩
set_option maxRecDepth 100000 in
theorem decode_any (W : Int) (h : 0 ≤ W ∧ W < 4294967296) (w : World) (tab : Tab w) :
    Calls Tryz.prog 48 #[.int .u32 W] w fun e w' => e = .returned (.tuple #[.agg (decI_S W).cells.toArray, .bool (decide (Im.Legal W))]) ∧ Later w w' := by
  obtain ⟨m, hm⟩ : ∃ m, m = W % 262144 := ⟨_, rfl⟩
  obtain ⟨F, hF⟩ : ∃ F, F = Im.cut W := ⟨_, rfl⟩
  have hok := Im.cut_ok h
  rw [← hF] at hok
  obtain ⟨x, hx⟩ : ∃ x, x = (if m > 131071 then m - 262144 else m) := ⟨_, rfl⟩
  have HG : ∀ w', Later w w' → Calls Tryz.prog 92 #[.agg #[.int .i64 (W / 67108864 % 64), .int .i64 (W / 4194304 % 16), .int .i64 (W / 262144 % 16), .int .i64 (W / 16384 % 16), .int .i64 x]] w' fun e w'' => e = .returned (.agg F.cells.toArray) ∧ Later w' w'' := by
    intro w' hl
    have h1 := formed_any (W / 67108864 % 64) (W / 4194304 % 16) (W / 262144 % 16) (W / 16384 % 16) x w' (tab.keep hl)
    rw [show W / 67108864 % 64 = W / 67108864 by omega, hx, hm] at h1
    rw [show W / 67108864 % 64 = W / 67108864 by omega, hx, hm, hF]
    exact h1
  have hx2 : m > 131071 ∧ x = m - 262144 ∨ ¬ m > 131071 ∧ x = m := by
    by_cases hgt : m > 131071
    · exact .inl ⟨hgt, by rw [hx, if_pos hgt]⟩
    · exact .inr ⟨hgt, by rw [hx, if_neg hgt]⟩
  have HFF := fun w' (hl : Later w w') => form_any F.op w' (tab.keep hl)
  have HWW := fun w' => word_any F.op F.a F.b F.c F.imm w' hok.1 hok.2.1 hok.2.2.1 hok.2.2.2.1 hok.2.2.2.2
  unfold decI_S
  by_cases hz : Im.form F.op = 0
  · have hn : ¬ Im.Legal W := fun hh => hh.1 (by rw [← hF]; exact hz)
    rw [if_neg hn, decide_eq_false hn]
    exact decode_A W m x F h w hm hx2 (Lib.hid HG) (Lib.hid HFF) hz
  · have hz' : (Im.form F.op == 0) = false := by simpa using hz
    by_cases hw : Im.word F = W
    · have hy : Im.Legal W := ⟨by rw [← hF]; exact hz, by rw [← hF]; exact hw⟩
      rw [if_pos hy, decide_eq_true hy, ← hF]
      exact decode_C W m x F h w hm hx2 (Lib.hid HG) (Lib.hid HFF) (Lib.hid HWW) hz' (by simpa using hw)
    · have hn : ¬ Im.Legal W := fun hh => hw (by have := hh.2; rwa [← hF] at this)
      rw [if_neg hn, decide_eq_false hn]
      exact decode_B W m x F h w hm hx2 (Lib.hid HG) (Lib.hid HFF) (Lib.hid HWW) hz' (by simpa using hw)
end Go.Proofs.YtidhodalnikhlaaGreatDoor
