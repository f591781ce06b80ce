/-
  THE STATEMENT IsaDecodesAsSpecified, walked.
-/
import Derived.Test.YtbnlpkjjdijfmabDoorIsaRi
namespace Go.Proofs.YtbnlpkjjdijfmabDoor
open Go.RowKit Go.ChangeShapes Go.WideShapes Go.ChangeAt

set_option maxRecDepth 100000 in
set_option maxHeartbeats 4000000 in
theorem lawDecodes_any (W : Int) (h : 0 ≤ W ∧ W < 4294967296) (w : World) (tab : Tab w) :
    Calls Tryd.prog 4 #[.int .u32 W] w fun e w' => e = .returned (.bool true) ∧ Later w w' := by
  have SA := Lib.hid (fun w' (hl : Later w w') => sanity_any w' (tab.keep hl))
  have D1 := decode_any W h w tab
  have D2 := fun w' => refDecode_any W h w'
  obtain ⟨X, hX⟩ : ∃ X, X = decI W := ⟨_, rfl⟩
  obtain ⟨b, hb⟩ : ∃ b, b = decide (Im.Legal W) := ⟨_, rfl⟩
  rw [← hX, ← hb] at D1
  simp only [← hX, ← hb] at D2
  have H1 := Lib.hid D1; have H2 := Lib.hid D2
  have hXX : ∀ w, (Op.equalIn 10000 23 (.agg #[.int .i64 X.op, .int .i64 X.a, .int .i64 X.b, .int .i64 X.c, .int .i64 X.imm]) (.agg #[.int .i64 X.op, .int .i64 X.a, .int .i64 X.b, .int .i64 X.c, .int .i64 X.imm])).run Tryd.prog w = .ok true w := fun w => by
    have h1 := ins_eq X X w
    rw [decide_eq_true rfl] at h1
    exact h1
  have hgd : Tryd.prog.eqGuardType Tryd.prog.depth 23 = false := by kernel_rfl
  have hbb : (b == b) = true := beq_self_eq_true b
  clear D1 D2 hX hb tab h
  go_enter Tryd.func4, Tryd.ntmps4
  go_wp2_with (first
    | (go_at_call 21; refine (H1.out).mono ?_; rintro e w1 ⟨rfl, l1⟩)
    | ((with_reducible refine wpList_store_abs (o := ⟨none, .store 23 (.tmp 3) (.tmp 9), _, _, _, none⟩) rfl _ _ _ rfl w1.heap.size 23 (Im.I.cells ⟨0, 0, 0, 0, 0⟩) X.cells ?_ ?_ ?_ (ins_sz _) (ins_len _ _) (ins_one _) ?_); rfl; rfl; exact Blk.new _ _ _ _ rfl; intro w2 x2 o2; have l2 : Later w w2 := Below.only (l1.alloc l1.size _) o2 l1.size; clear o2)
    | (go_at_call 22; refine (H2.out _).mono ?_; rintro e w3 ⟨rfl, h3⟩; have l3 := Later.trans_ l2 h3; have x3 := x2.keep h3)
    | ((with_reducible refine wpList_store_abs (o := ⟨none, .store 46 (.tmp 5) (.tmp 12), _, _, _, none⟩) rfl _ _ _ rfl w3.heap.size 46 (decC ⟨0, 0, 0, 0, 0⟩ false) (decC X b) ?_ ?_ ?_ (dec_sz _ _) (dec_len _ _ _ _) (dec_one _ _) ?_); rfl; rfl; exact Blk.new _ _ _ _ rfl; intro w4 y4 o4; have l4 : Later w w4 := Below.only (l3.alloc l3.size _) o4 l3.size; have x4 := (x3.alloc _).only o4 (Nat.ne_of_lt x3.lt); clear o4)
    | (go_at_call 13; refine (SA.out w4 l4).mono ?_; rintro e w5 ⟨rfl, h5⟩; have l5 := Later.trans_ l4 h5; obtain ⟨c0, c1, c2, c3, c4⟩ := (x4.keep h5).box; have y5 := y4.keep h5; have d0 := y5.cell (j := 0) rfl; have d1 := y5.cell (j := 1) rfl; have d2 := y5.cell (j := 2) rfl; have d3 := y5.cell (j := 3) rfl; have d4 := y5.cell (j := 4) rfl; have d5 := y5.cell (j := 5) rfl; clear y5))
  go_ret
  exact ⟨rfl, l5⟩
end Go.Proofs.YtbnlpkjjdijfmabDoor
