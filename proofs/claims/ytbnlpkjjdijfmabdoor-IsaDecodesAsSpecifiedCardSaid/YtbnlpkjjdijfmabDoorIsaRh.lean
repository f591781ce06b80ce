/-
  THE WALK OF the reference's Encode.
-/
import Derived.Test.YtbnlpkjjdijfmabDoorIsaRg
namespace Go.Proofs.YtbnlpkjjdijfmabDoor
open Go.RowKit Go.ChangeShapes Go.WideShapes Go.ChangeAt

def encC (x y : Int) : List Value := [.int .u32 x, .int .i64 y]
theorem enc_one (x y : Int) : ∀ v ∈ encC x y, v.oneCell' = true := by
  intro v hv
  unfold encC at hv
  simp only [List.mem_cons, List.not_mem_nil, or_false] at hv
  rcases hv with rfl | rfl <;> rfl
theorem enc_sz (x y : Int) : (Tryd.prog.info? 29).map (·.size) = some (encC x y).length := by
  show _ = some 2
  kernel_rfl
theorem enc_len (x y x' y' : Int) : (encC x y).length = (encC x' y').length := rfl
set_option maxRecDepth 100000 in
theorem enc_ret {w : World} {fn : Func} {p : Tmp} (h : fn.results = #[.cell p 29]) (tmps : Array Value) (g : Nat) (t : TypeId) (x y : Int)
    (hp : tmps.getD p undef = .pointer (some ⟨g, 0, none⟩)) (hg : Blk w g t (encC x y)) : (results fn tmps).run Tryd.prog w = .ok (.agg #[.int .u32 x, .int .i64 y]) w :=
  results_blk h tmps w g t (encC x y) _ hp hg Tryd.underlying29 rfl (enc_sz x y)
set_option maxRecDepth 100000 in
set_option maxHeartbeats 4000000 in
theorem refEncode_any (i : Im.I) (w : World) :
    Calls Tryd.prog 10 #[.agg #[.int .i64 i.op, .int .i64 i.a, .int .i64 i.b, .int .i64 i.c, .int .i64 i.imm]] w fun e w' => e = .returned (.agg #[.int .u32 (encW i), .int .i64 (encE i)]) ∧ Later w w' := by
  have HR := Lib.hid (fun w' => refRight_any i w')
  unfold encW encE
  by_cases hr : Im.Right i
  · rw [if_pos hr, if_pos hr]
    rw [decide_eq_true hr] at HR
    obtain ⟨⟨a1, a1'⟩, ⟨a2, a2'⟩, ⟨a3, a3'⟩, ⟨a4, a4'⟩, ⟨a5, a5'⟩, a6⟩ := Im.right_cases hr
    have H6 := Lib.hid a6
    clear a6 hr
    rcases Int.lt_or_le i.imm 0 with hs | hs
    all_goals
      go_enter Tryd.func10, Tryd.ntmps10
      go_wp2_with (first
        | (go_at_call 12; refine (HR.out _).mono ?_; rintro e w1 ⟨rfl, h1⟩; have l1 := Later.trans_ ((later1 w _).alloc (by simp) _) h1; obtain ⟨c0, c1, c2, c3, c4⟩ := (((Blk.new _ _ _ _ rfl : Blk _ _ _ i.cells).alloc _).keep h1).box; have z1 : Blk w1 (w.heap.size + 1) 29 (encC 0 0) := (Blk.new' _ _ _ _ _ (by simp) rfl).keep h1)
        | ((with_reducible refine wpList_store_abs (o := ⟨none, .store 29 (.tmp 2) (.tmp 33), _, _, _, none⟩) rfl _ _ _ rfl (w.heap.size + 1) 29 (encC 0 0) (encC (Im.word i) 0) ?_ ?_ z1 (enc_sz _ _) (enc_len _ _ _ _) (enc_one _ _) ?_); rfl; (refine congrArg (fun x => Value.agg #[.int .u32 x, .int .i64 0]) ?_; unfold Im.word; have H7 := H6.out; omega); intro w2 y2 o2))
      exact bodyPost_ret (v := .agg #[.int .u32 (Im.word i), .int .i64 0]) (enc_ret Tryd.results10 _ (w.heap.size + 1) _ _ _ rfl y2) rfl ⟨rfl, Below.only l1 o2 (by omega)⟩
  · rw [if_neg hr, if_neg hr]
    rw [decide_eq_false hr] at HR
    clear hr
    go_enter Tryd.func10, Tryd.ntmps10
    go_wp2_with (first
      | (go_at_call 12; refine (HR.out _).mono ?_; rintro e w1 ⟨rfl, h1⟩; have l1 := Later.trans_ ((later1 w _).alloc (by simp) _) h1; have z1 : Blk w1 (w.heap.size + 1) 29 (encC 0 0) := (Blk.new' _ _ _ _ _ (by simp) rfl).keep h1)
      | ((with_reducible refine wpList_store_abs (o := ⟨none, .store 29 (.tmp 2) (.tmp 7), _, _, _, none⟩) rfl _ _ _ rfl (w.heap.size + 1) 29 (encC 0 0) (encC 0 1) ?_ ?_ z1 (enc_sz _ _) (enc_len _ _ _ _) (enc_one _ _) ?_); rfl; rfl; intro w2 y2 o2))
    exact bodyPost_ret (v := .agg #[.int .u32 0, .int .i64 1]) (enc_ret Tryd.results10 _ (w.heap.size + 1) _ _ _ rfl y2) rfl ⟨rfl, Below.only l1 o2 (by omega)⟩
end Go.Proofs.YtbnlpkjjdijfmabDoor
