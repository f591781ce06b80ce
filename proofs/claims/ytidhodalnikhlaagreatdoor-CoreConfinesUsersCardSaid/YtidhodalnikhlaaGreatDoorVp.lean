/-
  THE WALK OF the reference's Right.
-/
import Derived.Test.YtidhodalnikhlaaGreatDoorVo
namespace Go.Proofs.YtidhodalnikhlaaGreatDoor
open Go.RowKit Go.ChangeShapes Go.WideShapes Go.ChangeAt

set_option maxRecDepth 100000 in
theorem same_later {e : Ending} {v : Value} {w w' : World} (h : e = .returned v ∧ w = w') : e = .returned v ∧ Later w w' := ⟨h.1, h.2 ▸ Below.refl _ _⟩
set_option maxRecDepth 100000 in
/-- A contract of the reference's, at one value. -/
def Q (f : FuncId) (args : Array Value) (v : Value) : Prop := ∀ w : World, Calls Tryz.prog f args w fun e w' => e = .returned v ∧ w = w'
set_option maxRecDepth 100000 in
theorem Q.re {f : FuncId} {args : Array Value} {v : Value} (h : Q f args v) (w : World) (d : Nat) (os : Array Obj) :
    Calls Tryz.prog f args (Sort.grow (redrawn w d) os) fun e w'' => e = .returned v ∧ ∃ p : Regrown, w'' = Sort.grow (redrawn w p.d) p.os := Go.Proofs.YtidhodalnikhlaaGreatDoor.re (fun w' _ => (h w').mono fun _ _ h => same_later h) d os
set_option maxRecDepth 100000 in
set_option maxHeartbeats 4000000 in
theorem rr_0 (i : Im.I) (w : World) (HF : Q 67 #[.int .i64 i.op] (.int .i64 0)) :
    Calls Tryz.prog 25 #[.agg #[.int .i64 i.op, .int .i64 i.a, .int .i64 i.b, .int .i64 i.c, .int .i64 i.imm]] w fun e w' => e = .returned (.bool false) ∧ Later w w' := by
  obtain ⟨w0, hw0⟩ : ∃ w0, w0 = w.alloc (.cells #[.int .i64 i.op, .int .i64 i.a, .int .i64 i.b, .int .i64 i.c, .int .i64 i.imm] 70) := ⟨_, rfl⟩
  have hl0 : Later w w0 := by rw [hw0]; exact later1 _ _
  have hb : Blk w0 w.heap.size 70 i.cells := by rw [hw0]; exact Blk.new _ _ _ _ rfl
  obtain ⟨c0, c1, c2, c3, c4⟩ := hb.box
  have k0 := cell_regrown c0; have k1 := cell_regrown c1; have k2 := cell_regrown c2; have k3 := cell_regrown c3
  have HB := Lib.hid hb; clear hb
  have hw1 := Lib.hid hw0; have HL := Lib.hid hl0; have HFF := Lib.hid HF
  clear hw0 hl0 HF
  go_enter Tryz.func25, Tryz.ntmps25
  go_wp2_with (go_at_call 67; rw [← hw1.out]; refine (HFF.out _).mono ?_; rintro e w1 ⟨rfl, rfl⟩)
  refine wp_region_quiet_below (by kernel_rfl) (by kernel_rfl) ?_
  repeat (go_big_quiet_step (first | fail))
  refine wpQuiet_nil ?_
  rintro _ ⟨⟨dq, osq⟩, rfl⟩
  have l8 := below_regrown w0 dq osq
  have y8 := HB.out.keep l8
  have l9 := Later.trans_ HL.out l8
  clear k0 k1 k2 k3 c0 c1 c2 c3 c4
  generalize Sort.grow (redrawn w0 dq) osq = w8 at l8 y8 l9 ⊢
  obtain ⟨c0, c1, c2, c3, c4⟩ := y8.box
  go_wp2
  go_ret
  exact ⟨rfl, l9⟩
set_option maxRecDepth 100000 in
set_option maxHeartbeats 4000000 in
theorem rr_1 (f : Int) (i : Im.I) (w : World) (HF : Q 67 #[.int .i64 i.op] (.int .i64 f)) (hf : (f == 0) = false) (h1 : Bool) (H1 : Q 69 #[.int .i64 f, .int .i64 1] (.bool h1)) (R1 : Q 68 #[.int .i64 i.a, .bool h1] (.bool false)) :
    Calls Tryz.prog 25 #[.agg #[.int .i64 i.op, .int .i64 i.a, .int .i64 i.b, .int .i64 i.c, .int .i64 i.imm]] w fun e w' => e = .returned (.bool false) ∧ Later w w' := by
  obtain ⟨w0, hw0⟩ : ∃ w0, w0 = w.alloc (.cells #[.int .i64 i.op, .int .i64 i.a, .int .i64 i.b, .int .i64 i.c, .int .i64 i.imm] 70) := ⟨_, rfl⟩
  have hl0 : Later w w0 := by rw [hw0]; exact later1 _ _
  have hb : Blk w0 w.heap.size 70 i.cells := by rw [hw0]; exact Blk.new _ _ _ _ rfl
  have KH1 := H1.re w0
  have KR1 := R1.re w0
  obtain ⟨c0, c1, c2, c3, c4⟩ := hb.box
  have k0 := cell_regrown c0; have k1 := cell_regrown c1; have k2 := cell_regrown c2; have k3 := cell_regrown c3
  have HB := Lib.hid hb; clear hb
  have hw1 := Lib.hid hw0; have HL := Lib.hid hl0; have HFF := Lib.hid HF
  clear hw0 hl0 HF
  go_enter Tryz.func25, Tryz.ntmps25
  go_wp2_with (go_at_call 67; rw [← hw1.out]; refine (HFF.out _).mono ?_; rintro e w1 ⟨rfl, rfl⟩)
  refine wp_region_quiet_below (by kernel_rfl) (by kernel_rfl) ?_
  repeat (go_big_quiet_step (first | with_reducible exact KH1 _ _ | with_reducible exact KR1 _ _))
  refine wpQuiet_nil ?_
  rintro _ ⟨⟨dq, osq⟩, rfl⟩
  have l8 := below_regrown w0 dq osq
  have y8 := HB.out.keep l8
  have l9 := Later.trans_ HL.out l8
  clear k0 k1 k2 k3 c0 c1 c2 c3 c4
  generalize Sort.grow (redrawn w0 dq) osq = w8 at l8 y8 l9 ⊢
  obtain ⟨c0, c1, c2, c3, c4⟩ := y8.box
  go_wp2
  go_ret
  exact ⟨rfl, l9⟩
set_option maxRecDepth 100000 in
set_option maxHeartbeats 4000000 in
theorem rr_2 (f : Int) (i : Im.I) (w : World) (HF : Q 67 #[.int .i64 i.op] (.int .i64 f)) (hf : (f == 0) = false) (h1 : Bool) (H1 : Q 69 #[.int .i64 f, .int .i64 1] (.bool h1)) (R1 : Q 68 #[.int .i64 i.a, .bool h1] (.bool true)) (h2 : Bool) (H2 : Q 69 #[.int .i64 f, .int .i64 2] (.bool h2)) (R2 : Q 68 #[.int .i64 i.b, .bool h2] (.bool false)) :
    Calls Tryz.prog 25 #[.agg #[.int .i64 i.op, .int .i64 i.a, .int .i64 i.b, .int .i64 i.c, .int .i64 i.imm]] w fun e w' => e = .returned (.bool false) ∧ Later w w' := by
  obtain ⟨w0, hw0⟩ : ∃ w0, w0 = w.alloc (.cells #[.int .i64 i.op, .int .i64 i.a, .int .i64 i.b, .int .i64 i.c, .int .i64 i.imm] 70) := ⟨_, rfl⟩
  have hl0 : Later w w0 := by rw [hw0]; exact later1 _ _
  have hb : Blk w0 w.heap.size 70 i.cells := by rw [hw0]; exact Blk.new _ _ _ _ rfl
  have KH1 := H1.re w0
  have KR1 := R1.re w0
  have KH2 := H2.re w0
  have KR2 := R2.re w0
  obtain ⟨c0, c1, c2, c3, c4⟩ := hb.box
  have k0 := cell_regrown c0; have k1 := cell_regrown c1; have k2 := cell_regrown c2; have k3 := cell_regrown c3
  have HB := Lib.hid hb; clear hb
  have hw1 := Lib.hid hw0; have HL := Lib.hid hl0; have HFF := Lib.hid HF
  clear hw0 hl0 HF
  go_enter Tryz.func25, Tryz.ntmps25
  go_wp2_with (go_at_call 67; rw [← hw1.out]; refine (HFF.out _).mono ?_; rintro e w1 ⟨rfl, rfl⟩)
  refine wp_region_quiet_below (by kernel_rfl) (by kernel_rfl) ?_
  repeat (go_big_quiet_step (first | with_reducible exact KH1 _ _ | with_reducible exact KR1 _ _ | with_reducible exact KH2 _ _ | with_reducible exact KR2 _ _))
  refine wpQuiet_nil ?_
  rintro _ ⟨⟨dq, osq⟩, rfl⟩
  have l8 := below_regrown w0 dq osq
  have y8 := HB.out.keep l8
  have l9 := Later.trans_ HL.out l8
  clear k0 k1 k2 k3 c0 c1 c2 c3 c4
  generalize Sort.grow (redrawn w0 dq) osq = w8 at l8 y8 l9 ⊢
  obtain ⟨c0, c1, c2, c3, c4⟩ := y8.box
  go_wp2
  go_ret
  exact ⟨rfl, l9⟩
set_option maxRecDepth 100000 in
set_option maxHeartbeats 4000000 in
theorem rr_3 (f : Int) (i : Im.I) (w : World) (HF : Q 67 #[.int .i64 i.op] (.int .i64 f)) (hf : (f == 0) = false) (h1 : Bool) (H1 : Q 69 #[.int .i64 f, .int .i64 1] (.bool h1)) (R1 : Q 68 #[.int .i64 i.a, .bool h1] (.bool true)) (h2 : Bool) (H2 : Q 69 #[.int .i64 f, .int .i64 2] (.bool h2)) (R2 : Q 68 #[.int .i64 i.b, .bool h2] (.bool true)) (h3 : Bool) (H3 : Q 69 #[.int .i64 f, .int .i64 3] (.bool h3)) (R3 : Q 68 #[.int .i64 i.c, .bool h3] (.bool false)) :
    Calls Tryz.prog 25 #[.agg #[.int .i64 i.op, .int .i64 i.a, .int .i64 i.b, .int .i64 i.c, .int .i64 i.imm]] w fun e w' => e = .returned (.bool false) ∧ Later w w' := by
  obtain ⟨w0, hw0⟩ : ∃ w0, w0 = w.alloc (.cells #[.int .i64 i.op, .int .i64 i.a, .int .i64 i.b, .int .i64 i.c, .int .i64 i.imm] 70) := ⟨_, rfl⟩
  have hl0 : Later w w0 := by rw [hw0]; exact later1 _ _
  have hb : Blk w0 w.heap.size 70 i.cells := by rw [hw0]; exact Blk.new _ _ _ _ rfl
  have KH1 := H1.re w0
  have KR1 := R1.re w0
  have KH2 := H2.re w0
  have KR2 := R2.re w0
  have KH3 := H3.re w0
  have KR3 := R3.re w0
  obtain ⟨c0, c1, c2, c3, c4⟩ := hb.box
  have k0 := cell_regrown c0; have k1 := cell_regrown c1; have k2 := cell_regrown c2; have k3 := cell_regrown c3
  have HB := Lib.hid hb; clear hb
  have hw1 := Lib.hid hw0; have HL := Lib.hid hl0; have HFF := Lib.hid HF
  clear hw0 hl0 HF
  go_enter Tryz.func25, Tryz.ntmps25
  go_wp2_with (go_at_call 67; rw [← hw1.out]; refine (HFF.out _).mono ?_; rintro e w1 ⟨rfl, rfl⟩)
  refine wp_region_quiet_below (by kernel_rfl) (by kernel_rfl) ?_
  repeat (go_big_quiet_step (first | with_reducible exact KH1 _ _ | with_reducible exact KR1 _ _ | with_reducible exact KH2 _ _ | with_reducible exact KR2 _ _ | with_reducible exact KH3 _ _ | with_reducible exact KR3 _ _))
  refine wpQuiet_nil ?_
  rintro _ ⟨⟨dq, osq⟩, rfl⟩
  have l8 := below_regrown w0 dq osq
  have y8 := HB.out.keep l8
  have l9 := Later.trans_ HL.out l8
  clear k0 k1 k2 k3 c0 c1 c2 c3 c4
  generalize Sort.grow (redrawn w0 dq) osq = w8 at l8 y8 l9 ⊢
  obtain ⟨c0, c1, c2, c3, c4⟩ := y8.box
  go_wp2
  go_ret
  exact ⟨rfl, l9⟩
set_option maxRecDepth 100000 in
set_option maxHeartbeats 4000000 in
theorem rr_z (f : Int) (i : Im.I) (w : World) (HF : Q 67 #[.int .i64 i.op] (.int .i64 f)) (hf : (f == 0) = false) (h1 : Bool) (H1 : Q 69 #[.int .i64 f, .int .i64 1] (.bool h1)) (R1 : Q 68 #[.int .i64 i.a, .bool h1] (.bool true)) (h2 : Bool) (H2 : Q 69 #[.int .i64 f, .int .i64 2] (.bool h2)) (R2 : Q 68 #[.int .i64 i.b, .bool h2] (.bool true)) (h3 : Bool) (H3 : Q 69 #[.int .i64 f, .int .i64 3] (.bool h3)) (R3 : Q 68 #[.int .i64 i.c, .bool h3] (.bool true)) (hm : (i.imm == 0) = true) :
    Calls Tryz.prog 25 #[.agg #[.int .i64 i.op, .int .i64 i.a, .int .i64 i.b, .int .i64 i.c, .int .i64 i.imm]] w fun e w' => e = .returned (.bool true) ∧ Later w w' := by
  obtain ⟨w0, hw0⟩ : ∃ w0, w0 = w.alloc (.cells #[.int .i64 i.op, .int .i64 i.a, .int .i64 i.b, .int .i64 i.c, .int .i64 i.imm] 70) := ⟨_, rfl⟩
  have hl0 : Later w w0 := by rw [hw0]; exact later1 _ _
  have hb : Blk w0 w.heap.size 70 i.cells := by rw [hw0]; exact Blk.new _ _ _ _ rfl
  have KH1 := H1.re w0
  have KR1 := R1.re w0
  have KH2 := H2.re w0
  have KR2 := R2.re w0
  have KH3 := H3.re w0
  have KR3 := R3.re w0
  obtain ⟨c0, c1, c2, c3, c4⟩ := hb.box
  have k0 := cell_regrown c0; have k1 := cell_regrown c1; have k2 := cell_regrown c2; have k3 := cell_regrown c3
  have HB := Lib.hid hb; clear hb
  have hw1 := Lib.hid hw0; have HL := Lib.hid hl0; have HFF := Lib.hid HF
  clear hw0 hl0 HF
  go_enter Tryz.func25, Tryz.ntmps25
  go_wp2_with (go_at_call 67; rw [← hw1.out]; refine (HFF.out _).mono ?_; rintro e w1 ⟨rfl, rfl⟩)
  refine wp_region_quiet_below (by kernel_rfl) (by kernel_rfl) ?_
  repeat (go_big_quiet_step (first | with_reducible exact KH1 _ _ | with_reducible exact KR1 _ _ | with_reducible exact KH2 _ _ | with_reducible exact KR2 _ _ | with_reducible exact KH3 _ _ | with_reducible exact KR3 _ _))
  refine wpQuiet_nil ?_
  rintro _ ⟨⟨dq, osq⟩, rfl⟩
  have l8 := below_regrown w0 dq osq
  have y8 := HB.out.keep l8
  have l9 := Later.trans_ HL.out l8
  clear k0 k1 k2 k3 c0 c1 c2 c3 c4
  generalize Sort.grow (redrawn w0 dq) osq = w8 at l8 y8 l9 ⊢
  obtain ⟨c0, c1, c2, c3, c4⟩ := y8.box
  go_wp2
  go_ret
  exact ⟨rfl, l9⟩
set_option maxRecDepth 100000 in
set_option maxHeartbeats 4000000 in
theorem rr_n (f : Int) (i : Im.I) (w : World) (HF : Q 67 #[.int .i64 i.op] (.int .i64 f)) (hf : (f == 0) = false) (h1 : Bool) (H1 : Q 69 #[.int .i64 f, .int .i64 1] (.bool h1)) (R1 : Q 68 #[.int .i64 i.a, .bool h1] (.bool true)) (h2 : Bool) (H2 : Q 69 #[.int .i64 f, .int .i64 2] (.bool h2)) (R2 : Q 68 #[.int .i64 i.b, .bool h2] (.bool true)) (h3 : Bool) (H3 : Q 69 #[.int .i64 f, .int .i64 3] (.bool h3)) (R3 : Q 68 #[.int .i64 i.c, .bool h3] (.bool true)) (hm : (i.imm == 0) = false) (H4 : Q 69 #[.int .i64 f, .int .i64 4] (.bool false)) :
    Calls Tryz.prog 25 #[.agg #[.int .i64 i.op, .int .i64 i.a, .int .i64 i.b, .int .i64 i.c, .int .i64 i.imm]] w fun e w' => e = .returned (.bool false) ∧ Later w w' := by
  obtain ⟨w0, hw0⟩ : ∃ w0, w0 = w.alloc (.cells #[.int .i64 i.op, .int .i64 i.a, .int .i64 i.b, .int .i64 i.c, .int .i64 i.imm] 70) := ⟨_, rfl⟩
  have hl0 : Later w w0 := by rw [hw0]; exact later1 _ _
  have hb : Blk w0 w.heap.size 70 i.cells := by rw [hw0]; exact Blk.new _ _ _ _ rfl
  have KH1 := H1.re w0
  have KR1 := R1.re w0
  have KH2 := H2.re w0
  have KR2 := R2.re w0
  have KH3 := H3.re w0
  have KR3 := R3.re w0
  obtain ⟨c0, c1, c2, c3, c4⟩ := hb.box
  have k0 := cell_regrown c0; have k1 := cell_regrown c1; have k2 := cell_regrown c2; have k3 := cell_regrown c3
  have HB := Lib.hid hb; clear hb
  have hw1 := Lib.hid hw0; have HL := Lib.hid hl0; have HFF := Lib.hid HF
  clear hw0 hl0 HF
  go_enter Tryz.func25, Tryz.ntmps25
  go_wp2_with (go_at_call 67; rw [← hw1.out]; refine (HFF.out _).mono ?_; rintro e w1 ⟨rfl, rfl⟩)
  refine wp_region_quiet_below (by kernel_rfl) (by kernel_rfl) ?_
  repeat (go_big_quiet_step (first | with_reducible exact KH1 _ _ | with_reducible exact KR1 _ _ | with_reducible exact KH2 _ _ | with_reducible exact KR2 _ _ | with_reducible exact KH3 _ _ | with_reducible exact KR3 _ _))
  refine wpQuiet_nil ?_
  rintro _ ⟨⟨dq, osq⟩, rfl⟩
  have l8 := below_regrown w0 dq osq
  have y8 := HB.out.keep l8
  have l9 := Later.trans_ HL.out l8
  clear k0 k1 k2 k3 c0 c1 c2 c3 c4
  generalize Sort.grow (redrawn w0 dq) osq = w8 at l8 y8 l9 ⊢
  obtain ⟨c0, c1, c2, c3, c4⟩ := y8.box
  have H4F := Lib.hid H4; clear H4
  go_wp2_with (go_at_call 69; refine (H4F.out _).mono ?_; rintro e w1 ⟨rfl, rfl⟩)
  go_ret
  exact ⟨rfl, l9⟩
set_option maxRecDepth 100000 in
set_option maxHeartbeats 4000000 in
theorem rr_l (f : Int) (i : Im.I) (w : World) (HF : Q 67 #[.int .i64 i.op] (.int .i64 f)) (hf : (f == 0) = false) (h1 : Bool) (H1 : Q 69 #[.int .i64 f, .int .i64 1] (.bool h1)) (R1 : Q 68 #[.int .i64 i.a, .bool h1] (.bool true)) (h2 : Bool) (H2 : Q 69 #[.int .i64 f, .int .i64 2] (.bool h2)) (R2 : Q 68 #[.int .i64 i.b, .bool h2] (.bool true)) (h3 : Bool) (H3 : Q 69 #[.int .i64 f, .int .i64 3] (.bool h3)) (R3 : Q 68 #[.int .i64 i.c, .bool h3] (.bool true)) (hm : (i.imm == 0) = false) (H4 : Q 69 #[.int .i64 f, .int .i64 4] (.bool true)) (hl : ¬ -131072 ≤ i.imm) :
    Calls Tryz.prog 25 #[.agg #[.int .i64 i.op, .int .i64 i.a, .int .i64 i.b, .int .i64 i.c, .int .i64 i.imm]] w fun e w' => e = .returned (.bool false) ∧ Later w w' := by
  obtain ⟨w0, hw0⟩ : ∃ w0, w0 = w.alloc (.cells #[.int .i64 i.op, .int .i64 i.a, .int .i64 i.b, .int .i64 i.c, .int .i64 i.imm] 70) := ⟨_, rfl⟩
  have hl0 : Later w w0 := by rw [hw0]; exact later1 _ _
  have hb : Blk w0 w.heap.size 70 i.cells := by rw [hw0]; exact Blk.new _ _ _ _ rfl
  have KH1 := H1.re w0
  have KR1 := R1.re w0
  have KH2 := H2.re w0
  have KR2 := R2.re w0
  have KH3 := H3.re w0
  have KR3 := R3.re w0
  obtain ⟨c0, c1, c2, c3, c4⟩ := hb.box
  have k0 := cell_regrown c0; have k1 := cell_regrown c1; have k2 := cell_regrown c2; have k3 := cell_regrown c3
  have HB := Lib.hid hb; clear hb
  have hw1 := Lib.hid hw0; have HL := Lib.hid hl0; have HFF := Lib.hid HF
  clear hw0 hl0 HF
  go_enter Tryz.func25, Tryz.ntmps25
  go_wp2_with (go_at_call 67; rw [← hw1.out]; refine (HFF.out _).mono ?_; rintro e w1 ⟨rfl, rfl⟩)
  refine wp_region_quiet_below (by kernel_rfl) (by kernel_rfl) ?_
  repeat (go_big_quiet_step (first | with_reducible exact KH1 _ _ | with_reducible exact KR1 _ _ | with_reducible exact KH2 _ _ | with_reducible exact KR2 _ _ | with_reducible exact KH3 _ _ | with_reducible exact KR3 _ _))
  refine wpQuiet_nil ?_
  rintro _ ⟨⟨dq, osq⟩, rfl⟩
  have l8 := below_regrown w0 dq osq
  have y8 := HB.out.keep l8
  have l9 := Later.trans_ HL.out l8
  clear k0 k1 k2 k3 c0 c1 c2 c3 c4
  generalize Sort.grow (redrawn w0 dq) osq = w8 at l8 y8 l9 ⊢
  obtain ⟨c0, c1, c2, c3, c4⟩ := y8.box
  have H4F := Lib.hid H4; clear H4
  go_wp2_with (go_at_call 69; refine (H4F.out _).mono ?_; rintro e w1 ⟨rfl, rfl⟩)
  go_ret
  exact ⟨rfl, l9⟩
set_option maxRecDepth 100000 in
set_option maxHeartbeats 4000000 in
theorem rr_g (f : Int) (i : Im.I) (w : World) (HF : Q 67 #[.int .i64 i.op] (.int .i64 f)) (hf : (f == 0) = false) (h1 : Bool) (H1 : Q 69 #[.int .i64 f, .int .i64 1] (.bool h1)) (R1 : Q 68 #[.int .i64 i.a, .bool h1] (.bool true)) (h2 : Bool) (H2 : Q 69 #[.int .i64 f, .int .i64 2] (.bool h2)) (R2 : Q 68 #[.int .i64 i.b, .bool h2] (.bool true)) (h3 : Bool) (H3 : Q 69 #[.int .i64 f, .int .i64 3] (.bool h3)) (R3 : Q 68 #[.int .i64 i.c, .bool h3] (.bool true)) (hm : (i.imm == 0) = false) (H4 : Q 69 #[.int .i64 f, .int .i64 4] (.bool true)) (hl : -131072 ≤ i.imm) (hg : ¬ i.imm ≤ 131071) :
    Calls Tryz.prog 25 #[.agg #[.int .i64 i.op, .int .i64 i.a, .int .i64 i.b, .int .i64 i.c, .int .i64 i.imm]] w fun e w' => e = .returned (.bool false) ∧ Later w w' := by
  obtain ⟨w0, hw0⟩ : ∃ w0, w0 = w.alloc (.cells #[.int .i64 i.op, .int .i64 i.a, .int .i64 i.b, .int .i64 i.c, .int .i64 i.imm] 70) := ⟨_, rfl⟩
  have hl0 : Later w w0 := by rw [hw0]; exact later1 _ _
  have hb : Blk w0 w.heap.size 70 i.cells := by rw [hw0]; exact Blk.new _ _ _ _ rfl
  have KH1 := H1.re w0
  have KR1 := R1.re w0
  have KH2 := H2.re w0
  have KR2 := R2.re w0
  have KH3 := H3.re w0
  have KR3 := R3.re w0
  have hgd : decide (i.imm ≤ 131071) = false := decide_eq_false hg
  obtain ⟨c0, c1, c2, c3, c4⟩ := hb.box
  have k0 := cell_regrown c0; have k1 := cell_regrown c1; have k2 := cell_regrown c2; have k3 := cell_regrown c3
  have HB := Lib.hid hb; clear hb
  have hw1 := Lib.hid hw0; have HL := Lib.hid hl0; have HFF := Lib.hid HF
  clear hw0 hl0 HF
  go_enter Tryz.func25, Tryz.ntmps25
  go_wp2_with (go_at_call 67; rw [← hw1.out]; refine (HFF.out _).mono ?_; rintro e w1 ⟨rfl, rfl⟩)
  refine wp_region_quiet_below (by kernel_rfl) (by kernel_rfl) ?_
  repeat (go_big_quiet_step (first | with_reducible exact KH1 _ _ | with_reducible exact KR1 _ _ | with_reducible exact KH2 _ _ | with_reducible exact KR2 _ _ | with_reducible exact KH3 _ _ | with_reducible exact KR3 _ _))
  refine wpQuiet_nil ?_
  rintro _ ⟨⟨dq, osq⟩, rfl⟩
  have l8 := below_regrown w0 dq osq
  have y8 := HB.out.keep l8
  have l9 := Later.trans_ HL.out l8
  clear k0 k1 k2 k3 c0 c1 c2 c3 c4
  generalize Sort.grow (redrawn w0 dq) osq = w8 at l8 y8 l9 ⊢
  obtain ⟨c0, c1, c2, c3, c4⟩ := y8.box
  have H4F := Lib.hid H4; clear H4
  go_wp2_with (go_at_call 69; refine (H4F.out _).mono ?_; rintro e w1 ⟨rfl, rfl⟩)
  go_ret
  exact ⟨rfl, l9⟩
set_option maxRecDepth 100000 in
set_option maxHeartbeats 4000000 in
theorem rr_t (f : Int) (i : Im.I) (w : World) (HF : Q 67 #[.int .i64 i.op] (.int .i64 f)) (hf : (f == 0) = false) (h1 : Bool) (H1 : Q 69 #[.int .i64 f, .int .i64 1] (.bool h1)) (R1 : Q 68 #[.int .i64 i.a, .bool h1] (.bool true)) (h2 : Bool) (H2 : Q 69 #[.int .i64 f, .int .i64 2] (.bool h2)) (R2 : Q 68 #[.int .i64 i.b, .bool h2] (.bool true)) (h3 : Bool) (H3 : Q 69 #[.int .i64 f, .int .i64 3] (.bool h3)) (R3 : Q 68 #[.int .i64 i.c, .bool h3] (.bool true)) (hm : (i.imm == 0) = false) (H4 : Q 69 #[.int .i64 f, .int .i64 4] (.bool true)) (hl : -131072 ≤ i.imm) (hg : i.imm ≤ 131071) :
    Calls Tryz.prog 25 #[.agg #[.int .i64 i.op, .int .i64 i.a, .int .i64 i.b, .int .i64 i.c, .int .i64 i.imm]] w fun e w' => e = .returned (.bool true) ∧ Later w w' := by
  obtain ⟨w0, hw0⟩ : ∃ w0, w0 = w.alloc (.cells #[.int .i64 i.op, .int .i64 i.a, .int .i64 i.b, .int .i64 i.c, .int .i64 i.imm] 70) := ⟨_, rfl⟩
  have hl0 : Later w w0 := by rw [hw0]; exact later1 _ _
  have hb : Blk w0 w.heap.size 70 i.cells := by rw [hw0]; exact Blk.new _ _ _ _ rfl
  have KH1 := H1.re w0
  have KR1 := R1.re w0
  have KH2 := H2.re w0
  have KR2 := R2.re w0
  have KH3 := H3.re w0
  have KR3 := R3.re w0
  obtain ⟨c0, c1, c2, c3, c4⟩ := hb.box
  have k0 := cell_regrown c0; have k1 := cell_regrown c1; have k2 := cell_regrown c2; have k3 := cell_regrown c3
  have HB := Lib.hid hb; clear hb
  have hw1 := Lib.hid hw0; have HL := Lib.hid hl0; have HFF := Lib.hid HF
  clear hw0 hl0 HF
  go_enter Tryz.func25, Tryz.ntmps25
  go_wp2_with (go_at_call 67; rw [← hw1.out]; refine (HFF.out _).mono ?_; rintro e w1 ⟨rfl, rfl⟩)
  refine wp_region_quiet_below (by kernel_rfl) (by kernel_rfl) ?_
  repeat (go_big_quiet_step (first | with_reducible exact KH1 _ _ | with_reducible exact KR1 _ _ | with_reducible exact KH2 _ _ | with_reducible exact KR2 _ _ | with_reducible exact KH3 _ _ | with_reducible exact KR3 _ _))
  refine wpQuiet_nil ?_
  rintro _ ⟨⟨dq, osq⟩, rfl⟩
  have l8 := below_regrown w0 dq osq
  have y8 := HB.out.keep l8
  have l9 := Later.trans_ HL.out l8
  clear k0 k1 k2 k3 c0 c1 c2 c3 c4
  generalize Sort.grow (redrawn w0 dq) osq = w8 at l8 y8 l9 ⊢
  obtain ⟨c0, c1, c2, c3, c4⟩ := y8.box
  have H4F := Lib.hid H4; clear H4
  go_wp2_with (go_at_call 69; refine (H4F.out _).mono ?_; rintro e w1 ⟨rfl, rfl⟩)
  go_ret
  exact ⟨rfl, l9⟩

set_option maxRecDepth 100000 in
theorem right_iff {i : Im.I} {f : Int} (hf : f = Im.form i.op) : Im.Right i ↔ f ≠ 0 ∧ regF i.a (hasF f 1) = true ∧ regF i.b (hasF f 2) = true ∧ regF i.c (hasF f 3) = true ∧ (i.imm = 0 ∨ (hasF f 4 = true ∧ -131072 ≤ i.imm ∧ i.imm ≤ 131071)) := by
  obtain ⟨op, a, b, c, imm⟩ := i
  dsimp only at hf
  unfold Im.Right Im.formed Im.reg
  dsimp only
  rw [← hf]
  rcases Im.form_vals op with e | e | e | e | e | e
  all_goals
    rw [e] at hf
    subst hf
    simp [hasF, regF]
    try omega
set_option maxRecDepth 100000 in
theorem refRight_any (i : Im.I) (w : World) :
    Calls Tryz.prog 25 #[.agg #[.int .i64 i.op, .int .i64 i.a, .int .i64 i.b, .int .i64 i.c, .int .i64 i.imm]] w fun e w' => e = .returned (.bool (decide (Im.Right i))) ∧ Later w w' := by
  obtain ⟨f, hf⟩ : ∃ f, f = Im.form i.op := ⟨_, rfl⟩
  have hiff := right_iff hf
  have HF : Q 67 #[.int .i64 i.op] (.int .i64 f) := fun w' => by rw [hf]; exact refForm_any i.op w'
  by_cases h0 : f = 0
  · rw [decide_eq_false (fun h => (hiff.1 h).1 h0)]
    rw [h0] at HF
    exact rr_0 i w HF
  · have hfv : f = 1 ∨ f = 2 ∨ f = 3 ∨ f = 4 ∨ f = 5 := by have := Im.form_vals i.op; rw [← hf] at this; omega
    have hz : (f == 0) = false := by simpa using h0
    have H1 : Q 69 #[.int .i64 f, .int .i64 1] (.bool (hasF f 1)) := fun w' => refHas_any f 1 hfv (by omega) w'
    have H2 : Q 69 #[.int .i64 f, .int .i64 2] (.bool (hasF f 2)) := fun w' => refHas_any f 2 hfv (by omega) w'
    have H3 : Q 69 #[.int .i64 f, .int .i64 3] (.bool (hasF f 3)) := fun w' => refHas_any f 3 hfv (by omega) w'
    have H4 : Q 69 #[.int .i64 f, .int .i64 4] (.bool (hasF f 4)) := fun w' => refHas_any f 4 hfv (by omega) w'
    have R1 : Q 68 #[.int .i64 i.a, .bool (hasF f 1)] (.bool (regF i.a (hasF f 1))) := fun w' => refReg_any _ _ w'
    have R2 : Q 68 #[.int .i64 i.b, .bool (hasF f 2)] (.bool (regF i.b (hasF f 2))) := fun w' => refReg_any _ _ w'
    have R3 : Q 68 #[.int .i64 i.c, .bool (hasF f 3)] (.bool (regF i.c (hasF f 3))) := fun w' => refReg_any _ _ w'
    cases q1 : regF i.a (hasF f 1) with
    | false =>
      rw [decide_eq_false (fun h => by have := (hiff.1 h).2.1; rw [q1] at this; cases this)]
      rw [q1] at R1
      exact rr_1 f i w HF hz _ H1 R1
    | true =>
      rw [q1] at R1
      cases q2 : regF i.b (hasF f 2) with
      | false =>
        rw [decide_eq_false (fun h => by have := (hiff.1 h).2.2.1; rw [q2] at this; cases this)]
        rw [q2] at R2
        exact rr_2 f i w HF hz _ H1 R1 _ H2 R2
      | true =>
        rw [q2] at R2
        cases q3 : regF i.c (hasF f 3) with
        | false =>
          rw [decide_eq_false (fun h => by have := (hiff.1 h).2.2.2.1; rw [q3] at this; cases this)]
          rw [q3] at R3
          exact rr_3 f i w HF hz _ H1 R1 _ H2 R2 _ H3 R3
        | true =>
          rw [q3] at R3
          by_cases hm : i.imm = 0
          · rw [decide_eq_true (hiff.2 ⟨h0, q1, q2, q3, .inl hm⟩)]
            exact rr_z f i w HF hz _ H1 R1 _ H2 R2 _ H3 R3 (by simpa using hm)
          · have hm' : (i.imm == 0) = false := by simpa using hm
            cases q4 : hasF f 4 with
            | false =>
              rw [decide_eq_false (fun h => by
                rcases (hiff.1 h).2.2.2.2 with h5 | h5
                · exact hm h5
                · have := h5.1; rw [q4] at this; cases this)]
              rw [q4] at H4
              exact rr_n f i w HF hz _ H1 R1 _ H2 R2 _ H3 R3 hm' H4
            | true =>
              rw [q4] at H4
              by_cases hl : -131072 ≤ i.imm
              · by_cases hg : i.imm ≤ 131071
                · rw [decide_eq_true (hiff.2 ⟨h0, q1, q2, q3, .inr ⟨q4, hl, hg⟩⟩)]
                  exact rr_t f i w HF hz _ H1 R1 _ H2 R2 _ H3 R3 hm' H4 hl hg
                · rw [decide_eq_false (fun h => by rcases (hiff.1 h).2.2.2.2 with h5 | h5 <;> omega)]
                  exact rr_g f i w HF hz _ H1 R1 _ H2 R2 _ H3 R3 hm' H4 hl hg
              · rw [decide_eq_false (fun h => by rcases (hiff.1 h).2.2.2.2 with h5 | h5 <;> omega)]
                exact rr_l f i w HF hz _ H1 R1 _ H2 R2 _ H3 R3 hm' H4 hl
end Go.Proofs.YtidhodalnikhlaaGreatDoor

/-
  THE WALK OF the reference's Encode.
-/
namespace Go.Proofs.YtidhodalnikhlaaGreatDoor
open Go.RowKit Go.ChangeShapes Go.WideShapes Go.ChangeAt

set_option maxRecDepth 100000 in
def encC (x y : Int) : List Value := [.int .u32 x, .int .i64 y]
set_option maxRecDepth 100000 in
theorem enc_one (x y : Int) : ∀ v ∈ encC x y, v.oneCell' = true := by
  intro v hv
  unfold encC at hv
  simp only [List.mem_cons, List.not_mem_nil, or_false] at hv
  rcases hv with rfl | rfl <;> rfl
set_option maxRecDepth 100000 in
theorem enc_sz (x y : Int) : (Tryz.prog.info? 74).map (·.size) = some (encC x y).length := by
  show _ = some 2
  kernel_rfl
set_option maxRecDepth 100000 in
theorem enc_len (x y x' y' : Int) : (encC x y).length = (encC x' y').length := rfl
set_option maxRecDepth 100000 in
theorem enc_ret {w : World} {fn : Func} {p : Tmp} (h : fn.results = #[.cell p 74]) (tmps : Array Value) (g : Nat) (t : TypeId) (x y : Int)
    (hp : tmps.getD p undef = .pointer (some ⟨g, 0, none⟩)) (hg : Blk w g t (encC x y)) : (results fn tmps).run Tryz.prog w = .ok (.agg #[.int .u32 x, .int .i64 y]) w :=
  results_blk h tmps w g t (encC x y) _ hp hg Tryz.underlying74 rfl (enc_sz x y)
set_option maxRecDepth 100000 in
set_option maxHeartbeats 4000000 in
theorem refEncode_any (i : Im.I) (w : World) :
    Calls Tryz.prog 26 #[.agg #[.int .i64 i.op, .int .i64 i.a, .int .i64 i.b, .int .i64 i.c, .int .i64 i.imm]] w fun e w' => e = .returned (.agg #[.int .u32 (encW i), .int .i64 (encE i)]) ∧ Later w w' := by
  have HR := Lib.hid (fun w' => refRight_any i w')
  unfold encW encE
  by_cases hr : Im.Right i
  · rw [if_pos hr, if_pos hr]
    rw [decide_eq_true hr] at HR
    obtain ⟨⟨a1, a1'⟩, ⟨a2, a2'⟩, ⟨a3, a3'⟩, ⟨a4, a4'⟩, ⟨a5, a5'⟩, a6⟩ := Im.right_cases hr
    have H6 := Lib.hid a6
    clear a6 hr
    rcases Int.lt_or_le i.imm 0 with hs | hs
    all_goals
      go_enter Tryz.func26, Tryz.ntmps26
      go_wp2_with (first
        | (go_at_call 25; refine (HR.out _).mono ?_; rintro e w1 ⟨rfl, h1⟩; have l1 := Later.trans_ ((later1 w _).alloc (by simp) _) h1; obtain ⟨c0, c1, c2, c3, c4⟩ := (((Blk.new _ _ _ _ rfl : Blk _ _ _ i.cells).alloc _).keep h1).box; have z1 : Blk w1 (w.heap.size + 1) 74 (encC 0 0) := (Blk.new' _ _ _ _ _ (by simp) rfl).keep h1)
        | ((with_reducible refine wpList_store_abs (o := ⟨none, .store 74 (.tmp 2) (.tmp 33), _, _, _, none⟩) rfl _ _ _ rfl (w.heap.size + 1) 74 (encC 0 0) (encC (Im.word i) 0) ?_ ?_ z1 (enc_sz _ _) (enc_len _ _ _ _) (enc_one _ _) ?_); rfl; (refine congrArg (fun x => Value.agg #[.int .u32 x, .int .i64 0]) ?_; unfold Im.word; have H7 := H6.out; omega); intro w2 y2 o2))
      exact bodyPost_ret (v := .agg #[.int .u32 (Im.word i), .int .i64 0]) (enc_ret Tryz.results26 _ (w.heap.size + 1) _ _ _ rfl y2) rfl ⟨rfl, Below.only l1 o2 (by omega)⟩
  · rw [if_neg hr, if_neg hr]
    rw [decide_eq_false hr] at HR
    clear hr
    go_enter Tryz.func26, Tryz.ntmps26
    go_wp2_with (first
      | (go_at_call 25; refine (HR.out _).mono ?_; rintro e w1 ⟨rfl, h1⟩; have l1 := Later.trans_ ((later1 w _).alloc (by simp) _) h1; have z1 : Blk w1 (w.heap.size + 1) 74 (encC 0 0) := (Blk.new' _ _ _ _ _ (by simp) rfl).keep h1)
      | ((with_reducible refine wpList_store_abs (o := ⟨none, .store 74 (.tmp 2) (.tmp 7), _, _, _, none⟩) rfl _ _ _ rfl (w.heap.size + 1) 74 (encC 0 0) (encC 0 1) ?_ ?_ z1 (enc_sz _ _) (enc_len _ _ _ _) (enc_one _ _) ?_); rfl; rfl; intro w2 y2 o2))
    exact bodyPost_ret (v := .agg #[.int .u32 0, .int .i64 1]) (enc_ret Tryz.results26 _ (w.heap.size + 1) _ _ _ rfl y2) rfl ⟨rfl, Below.only l1 o2 (by omega)⟩
end Go.Proofs.YtidhodalnikhlaaGreatDoor
