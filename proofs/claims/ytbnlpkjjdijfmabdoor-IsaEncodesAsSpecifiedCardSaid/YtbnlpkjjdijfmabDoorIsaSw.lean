/-
  THE WALKS OF the reference's Writes, Target.
-/
import Derived.Test.YtbnlpkjjdijfmabDoorIsaRg
namespace Go.Proofs.YtbnlpkjjdijfmabDoor
open Go.RowKit Go.ChangeShapes Go.WideShapes Go.ChangeAt

set_option maxRecDepth 100000 in
set_option maxHeartbeats 1000000 in
theorem rwrites_21 (a b c imm : Int) (w : World) :
    Calls Tryd.prog 20 #[.agg #[.int .i64 21, .int .i64 a, .int .i64 b, .int .i64 c, .int .i64 imm]] w fun e w' => e = .returned (.int .i64 0) ∧ Later w w' := by
  go_enter Tryd.func20, Tryd.ntmps20
  go_wp2
  go_ret
  exact ⟨rfl, later1 _ _⟩
set_option maxRecDepth 100000 in
set_option maxHeartbeats 1000000 in
theorem rwrites_23 (a b c imm : Int) (w : World) :
    Calls Tryd.prog 20 #[.agg #[.int .i64 23, .int .i64 a, .int .i64 b, .int .i64 c, .int .i64 imm]] w fun e w' => e = .returned (.int .i64 0) ∧ Later w w' := by
  go_enter Tryd.func20, Tryd.ntmps20
  go_wp2
  go_ret
  exact ⟨rfl, later1 _ _⟩
set_option maxRecDepth 100000 in
set_option maxHeartbeats 1000000 in
theorem rwrites_28 (a b c imm : Int) (w : World) (HB : Q 38 #[.int .i64 28] (.bool true)) :
    Calls Tryd.prog 20 #[.agg #[.int .i64 28, .int .i64 a, .int .i64 b, .int .i64 c, .int .i64 imm]] w fun e w' => e = .returned (.int .i64 0) ∧ Later w w' := by
  have HBB := Lib.hid HB; clear HB
  go_enter Tryd.func20, Tryd.ntmps20
  go_wp2_with (go_at_call 38; refine (HBB.out _).mono ?_; rintro e w1 ⟨rfl, rfl⟩)
  go_ret
  exact ⟨rfl, later1 _ _⟩
set_option maxRecDepth 100000 in
set_option maxHeartbeats 1000000 in
theorem rwrites_29 (a b c imm : Int) (w : World) (HB : Q 38 #[.int .i64 29] (.bool true)) :
    Calls Tryd.prog 20 #[.agg #[.int .i64 29, .int .i64 a, .int .i64 b, .int .i64 c, .int .i64 imm]] w fun e w' => e = .returned (.int .i64 0) ∧ Later w w' := by
  have HBB := Lib.hid HB; clear HB
  go_enter Tryd.func20, Tryd.ntmps20
  go_wp2_with (go_at_call 38; refine (HBB.out _).mono ?_; rintro e w1 ⟨rfl, rfl⟩)
  go_ret
  exact ⟨rfl, later1 _ _⟩
set_option maxRecDepth 100000 in
set_option maxHeartbeats 1000000 in
theorem rwrites_30 (a b c imm : Int) (w : World) (HB : Q 38 #[.int .i64 30] (.bool true)) :
    Calls Tryd.prog 20 #[.agg #[.int .i64 30, .int .i64 a, .int .i64 b, .int .i64 c, .int .i64 imm]] w fun e w' => e = .returned (.int .i64 0) ∧ Later w w' := by
  have HBB := Lib.hid HB; clear HB
  go_enter Tryd.func20, Tryd.ntmps20
  go_wp2_with (go_at_call 38; refine (HBB.out _).mono ?_; rintro e w1 ⟨rfl, rfl⟩)
  go_ret
  exact ⟨rfl, later1 _ _⟩
set_option maxRecDepth 100000 in
set_option maxHeartbeats 1000000 in
theorem rwrites_31 (a b c imm : Int) (w : World) (HB : Q 38 #[.int .i64 31] (.bool true)) :
    Calls Tryd.prog 20 #[.agg #[.int .i64 31, .int .i64 a, .int .i64 b, .int .i64 c, .int .i64 imm]] w fun e w' => e = .returned (.int .i64 0) ∧ Later w w' := by
  have HBB := Lib.hid HB; clear HB
  go_enter Tryd.func20, Tryd.ntmps20
  go_wp2_with (go_at_call 38; refine (HBB.out _).mono ?_; rintro e w1 ⟨rfl, rfl⟩)
  go_ret
  exact ⟨rfl, later1 _ _⟩
set_option maxRecDepth 100000 in
set_option maxHeartbeats 1000000 in
theorem rwrites_43 (a b c imm : Int) (w : World) (HB : Q 38 #[.int .i64 43] (.bool false)) :
    Calls Tryd.prog 20 #[.agg #[.int .i64 43, .int .i64 a, .int .i64 b, .int .i64 c, .int .i64 imm]] w fun e w' => e = .returned (.int .i64 0) ∧ Later w w' := by
  have HBB := Lib.hid HB; clear HB
  go_enter Tryd.func20, Tryd.ntmps20
  go_wp2_with (go_at_call 38; refine (HBB.out _).mono ?_; rintro e w1 ⟨rfl, rfl⟩)
  go_ret
  exact ⟨rfl, later1 _ _⟩
set_option maxRecDepth 100000 in
set_option maxHeartbeats 1000000 in
theorem rwrites_47 (a b c imm : Int) (w : World) (HB : Q 38 #[.int .i64 47] (.bool false)) :
    Calls Tryd.prog 20 #[.agg #[.int .i64 47, .int .i64 a, .int .i64 b, .int .i64 c, .int .i64 imm]] w fun e w' => e = .returned (.int .i64 0) ∧ Later w w' := by
  have HBB := Lib.hid HB; clear HB
  go_enter Tryd.func20, Tryd.ntmps20
  go_wp2_with (go_at_call 38; refine (HBB.out _).mono ?_; rintro e w1 ⟨rfl, rfl⟩)
  go_ret
  exact ⟨rfl, later1 _ _⟩
set_option maxRecDepth 100000 in
set_option maxHeartbeats 1000000 in
theorem rwrites_44 (a b c imm : Int) (w : World) (HB : Q 38 #[.int .i64 44] (.bool false)) :
    Calls Tryd.prog 20 #[.agg #[.int .i64 44, .int .i64 a, .int .i64 b, .int .i64 c, .int .i64 imm]] w fun e w' => e = .returned (.int .i64 0) ∧ Later w w' := by
  have HBB := Lib.hid HB; clear HB
  go_enter Tryd.func20, Tryd.ntmps20
  go_wp2_with (go_at_call 38; refine (HBB.out _).mono ?_; rintro e w1 ⟨rfl, rfl⟩)
  go_ret
  exact ⟨rfl, later1 _ _⟩
set_option maxRecDepth 100000 in
set_option maxHeartbeats 1000000 in
theorem rwrites_a (a b c imm op : Int) (w : World) (HB : Q 38 #[.int .i64 op] (.bool false)) (h21 : op ≠ 21) (h23 : op ≠ 23) (h43 : op ≠ 43) (h47 : op ≠ 47) (h44 : op ≠ 44) :
    Calls Tryd.prog 20 #[.agg #[.int .i64 op, .int .i64 a, .int .i64 b, .int .i64 c, .int .i64 imm]] w fun e w' => e = .returned (.int .i64 a) ∧ Later w w' := by
  have n21 : (op == 21) = false := beq_eq_false_iff_ne.2 h21
  have n23 : (op == 23) = false := beq_eq_false_iff_ne.2 h23
  have n43 : (op == 43) = false := beq_eq_false_iff_ne.2 h43
  have n47 : (op == 47) = false := beq_eq_false_iff_ne.2 h47
  have n44 : (op == 44) = false := beq_eq_false_iff_ne.2 h44
  clear h21 h23 h43 h47 h44
  have HBB := Lib.hid HB; clear HB
  go_enter Tryd.func20, Tryd.ntmps20
  go_wp2_with (go_at_call 38; refine (HBB.out _).mono ?_; rintro e w1 ⟨rfl, rfl⟩)
  go_ret
  exact ⟨rfl, later1 _ _⟩
def goalC (x : Int) (b : Bool) : List Value := [.int .u32 x, .bool b]
set_option maxRecDepth 100000 in
theorem goal_ret {w : World} {fn : Func} {p : Tmp} (h : fn.results = #[.cell p 36]) (tmps : Array Value) (g : Nat) (t : TypeId) (x y : Value)
    (hp : tmps.getD p undef = .pointer (some ⟨g, 0, none⟩)) (hg : Blk w g t [x, y]) : (results fn tmps).run Tryd.prog w = .ok (.agg #[x, y]) w :=
  results_blk h tmps w g t [x, y] _ hp hg Tryd.underlying36 rfl (by kernel_rfl)
set_option maxRecDepth 100000 in
set_option maxHeartbeats 1000000 in
theorem rtarget_28 (pc a b c imm : Int) (w : World) (HB : Q 38 #[.int .i64 28] (.bool true)) (hi : -131072 ≤ imm ∧ imm ≤ 131071) :
    Calls Tryd.prog 15 #[.int .u32 pc, .agg #[.int .i64 28, .int .i64 a, .int .i64 b, .int .i64 c, .int .i64 imm]] w fun e w' => e = .returned (.agg #[.int .u32 ((pc + 4 * imm) % 4294967296), .bool true]) ∧ Later w w' := by
  have HBB := Lib.hid HB; clear HB
  have hm : (pc + 4 * imm % 4294967296) % 4294967296 = (pc + 4 * imm) % 4294967296 := by omega
  have HM := Lib.hid hm; clear hm
  go_enter Tryd.func15, Tryd.ntmps15
  go_wp2_with (go_at_call 38; refine (HBB.out _).mono ?_; rintro e w1 ⟨rfl, rfl⟩)
  rw [HM.out]
  exact bodyPost_ret (v := .agg #[.int .u32 ((pc + 4 * imm) % 4294967296), .bool true]) (goal_ret Tryd.results15 _ (w.heap.size + 1) _ _ _ rfl (Blk.new' _ _ _ _ _ (by simp) rfl)) rfl ⟨rfl, (later1 w _).alloc (by simp) _⟩
set_option maxRecDepth 100000 in
set_option maxHeartbeats 1000000 in
theorem rtarget_29 (pc a b c imm : Int) (w : World) (HB : Q 38 #[.int .i64 29] (.bool true)) (hi : -131072 ≤ imm ∧ imm ≤ 131071) :
    Calls Tryd.prog 15 #[.int .u32 pc, .agg #[.int .i64 29, .int .i64 a, .int .i64 b, .int .i64 c, .int .i64 imm]] w fun e w' => e = .returned (.agg #[.int .u32 ((pc + 4 * imm) % 4294967296), .bool true]) ∧ Later w w' := by
  have HBB := Lib.hid HB; clear HB
  have hm : (pc + 4 * imm % 4294967296) % 4294967296 = (pc + 4 * imm) % 4294967296 := by omega
  have HM := Lib.hid hm; clear hm
  go_enter Tryd.func15, Tryd.ntmps15
  go_wp2_with (go_at_call 38; refine (HBB.out _).mono ?_; rintro e w1 ⟨rfl, rfl⟩)
  rw [HM.out]
  exact bodyPost_ret (v := .agg #[.int .u32 ((pc + 4 * imm) % 4294967296), .bool true]) (goal_ret Tryd.results15 _ (w.heap.size + 1) _ _ _ rfl (Blk.new' _ _ _ _ _ (by simp) rfl)) rfl ⟨rfl, (later1 w _).alloc (by simp) _⟩
set_option maxRecDepth 100000 in
set_option maxHeartbeats 1000000 in
theorem rtarget_30 (pc a b c imm : Int) (w : World) (HB : Q 38 #[.int .i64 30] (.bool true)) (hi : -131072 ≤ imm ∧ imm ≤ 131071) :
    Calls Tryd.prog 15 #[.int .u32 pc, .agg #[.int .i64 30, .int .i64 a, .int .i64 b, .int .i64 c, .int .i64 imm]] w fun e w' => e = .returned (.agg #[.int .u32 ((pc + 4 * imm) % 4294967296), .bool true]) ∧ Later w w' := by
  have HBB := Lib.hid HB; clear HB
  have hm : (pc + 4 * imm % 4294967296) % 4294967296 = (pc + 4 * imm) % 4294967296 := by omega
  have HM := Lib.hid hm; clear hm
  go_enter Tryd.func15, Tryd.ntmps15
  go_wp2_with (go_at_call 38; refine (HBB.out _).mono ?_; rintro e w1 ⟨rfl, rfl⟩)
  rw [HM.out]
  exact bodyPost_ret (v := .agg #[.int .u32 ((pc + 4 * imm) % 4294967296), .bool true]) (goal_ret Tryd.results15 _ (w.heap.size + 1) _ _ _ rfl (Blk.new' _ _ _ _ _ (by simp) rfl)) rfl ⟨rfl, (later1 w _).alloc (by simp) _⟩
set_option maxRecDepth 100000 in
set_option maxHeartbeats 1000000 in
theorem rtarget_31 (pc a b c imm : Int) (w : World) (HB : Q 38 #[.int .i64 31] (.bool true)) (hi : -131072 ≤ imm ∧ imm ≤ 131071) :
    Calls Tryd.prog 15 #[.int .u32 pc, .agg #[.int .i64 31, .int .i64 a, .int .i64 b, .int .i64 c, .int .i64 imm]] w fun e w' => e = .returned (.agg #[.int .u32 ((pc + 4 * imm) % 4294967296), .bool true]) ∧ Later w w' := by
  have HBB := Lib.hid HB; clear HB
  have hm : (pc + 4 * imm % 4294967296) % 4294967296 = (pc + 4 * imm) % 4294967296 := by omega
  have HM := Lib.hid hm; clear hm
  go_enter Tryd.func15, Tryd.ntmps15
  go_wp2_with (go_at_call 38; refine (HBB.out _).mono ?_; rintro e w1 ⟨rfl, rfl⟩)
  rw [HM.out]
  exact bodyPost_ret (v := .agg #[.int .u32 ((pc + 4 * imm) % 4294967296), .bool true]) (goal_ret Tryd.results15 _ (w.heap.size + 1) _ _ _ rfl (Blk.new' _ _ _ _ _ (by simp) rfl)) rfl ⟨rfl, (later1 w _).alloc (by simp) _⟩
set_option maxRecDepth 100000 in
set_option maxHeartbeats 1000000 in
theorem rtarget_32 (pc a b c imm : Int) (w : World) (HB : Q 38 #[.int .i64 32] (.bool false)) (hi : -131072 ≤ imm ∧ imm ≤ 131071) :
    Calls Tryd.prog 15 #[.int .u32 pc, .agg #[.int .i64 32, .int .i64 a, .int .i64 b, .int .i64 c, .int .i64 imm]] w fun e w' => e = .returned (.agg #[.int .u32 ((pc + 4 * imm) % 4294967296), .bool true]) ∧ Later w w' := by
  have HBB := Lib.hid HB; clear HB
  have hm : (pc + 4 * imm % 4294967296) % 4294967296 = (pc + 4 * imm) % 4294967296 := by omega
  have HM := Lib.hid hm; clear hm
  go_enter Tryd.func15, Tryd.ntmps15
  go_wp2_with (go_at_call 38; refine (HBB.out _).mono ?_; rintro e w1 ⟨rfl, rfl⟩)
  rw [HM.out]
  exact bodyPost_ret (v := .agg #[.int .u32 ((pc + 4 * imm) % 4294967296), .bool true]) (goal_ret Tryd.results15 _ (w.heap.size + 1) _ _ _ rfl (Blk.new' _ _ _ _ _ (by simp) rfl)) rfl ⟨rfl, (later1 w _).alloc (by simp) _⟩
set_option maxRecDepth 100000 in
set_option maxHeartbeats 1000000 in
theorem rtarget_none (pc a b c imm op : Int) (w : World) (HB : Q 38 #[.int .i64 op] (.bool false)) (h32 : op ≠ 32) :
    Calls Tryd.prog 15 #[.int .u32 pc, .agg #[.int .i64 op, .int .i64 a, .int .i64 b, .int .i64 c, .int .i64 imm]] w fun e w' => e = .returned (.agg #[.int .u32 0, .bool false]) ∧ Later w w' := by
  have n32 : (op != 32) = true := by simpa using h32
  clear h32
  have HBB := Lib.hid HB; clear HB
  go_enter Tryd.func15, Tryd.ntmps15
  go_wp2_with (go_at_call 38; refine (HBB.out _).mono ?_; rintro e w1 ⟨rfl, rfl⟩)
  exact bodyPost_ret (v := .agg #[.int .u32 0, .bool false]) (goal_ret Tryd.results15 _ (w.heap.size + 1) _ _ _ rfl (Blk.new' _ _ _ _ _ (by simp) rfl)) rfl ⟨rfl, (later1 w _).alloc (by simp) _⟩
end Go.Proofs.YtbnlpkjjdijfmabDoor
