/-
  THE REFERENCE's Right, of a processor and a memory.
-/
import Derived.Test.YtidhodalnikhlaaGreatDoorWx
namespace Go.Proofs.YtidhodalnikhlaaGreatDoor
open Go.RowKit Go.ChangeShapes Go.WideShapes Go.ChangeAt

theorem wpList_load_g {P : Program} {ops : Array Oper} {rest : List Oper} {o : Oper} {a : Act} {w : World} {Q : Exit → Act → World → Prop} (ty : TypeId) (x : Operand) (ho : o.op = .load ty x)
    (g : Nat) (t : TypeId) (cs : List Value) (d : TypeDesc) (hw : Region.wanted o (yielded ops a.tmps) = true) (hx : a.eval x = .pointer (some ⟨g, 0, none⟩)) (hg : Blk w g t cs)
    (hu : P.underlying ty = some d) (hd : (match d with | .struct _ | .array _ _ => true | _ => false) = true) (hi : (P.info? ty).map (·.size) = some cs.length)
    (h : wpList P ops Q rest (a.put o.dst (.agg cs.toArray)) w) : wpList P ops Q (o :: rest) a w :=
  wpList_step fun K hK => by
    rw [hw, if_pos rfl]
    exact wp_load_row ty x ho g hx t cs.toArray (0, 0) d hg hu hd (by rw [List.size_toArray]; exact hi) (hK _ _ h)

/-- A processor and a memory that are right. -/
def RightB (x : Cpu) (n : Nat) : Bool := okC x.r0 x.c5 x.c7 x.c8 x.wt x.hl x.cn && (decide (x.cn < 1099511627776) && decide (1 ≤ n ∧ n ≤ 64))
set_option maxRecDepth 100000 in
set_option maxHeartbeats 2000000 in
theorem cright_any (x : Cpu) (A : Option Addr) (n c : Nat) (w : World) : Calls Tryz.prog 10 #[.agg x.cells.toArray, .agg #[.slice A n c]] w fun e w' => e = .returned (.bool (RightB x n)) ∧ Later w w' := by
  have KV := Lib.hid fun w' => rvalid_any_T x w'
  have KM := Lib.hid fun w' => rvalid_any A n c w'
  have b2 := (Blk.new w 26 x.cells.toArray x.cells rfl).alloc (.cells #[.slice A n c] 29)
  have b3 := Blk.new' (w.alloc (.cells x.cells.toArray 26)) (w.heap.size + 1) 29 #[.slice A n c] [.slice A n c] (by simp) rfl
  have lw := (later1 w (.cells x.cells.toArray 26)).alloc (by simp) (.cells #[.slice A n c] 29)
  obtain ⟨u0, hu⟩ : ∃ u0, (w.alloc (.cells x.cells.toArray 26)).alloc (.cells #[.slice A n c] 29) = u0 := ⟨_, rfl⟩
  rw [hu] at b2 b3 lw
  unfold RightB
  obtain ⟨k, hk⟩ : ∃ k, k = okC x.r0 x.c5 x.c7 x.c8 x.wt x.hl x.cn := ⟨_, rfl⟩
  obtain ⟨m, hm⟩ : ∃ m, m = decide (1 ≤ n ∧ n ≤ 64) := ⟨_, rfl⟩
  rw [← hk] at KV ⊢
  rw [← hm] at KM ⊢
  clear hk hm
  have e29 := b2.cell (j := 29) (v := .int .i64 x.cn) rfl
  cases k with
  | false =>
    go_enter Tryz.func10, Tryz.ntmps10
    go_upto_region 1 with fail
    clear hu
    go_wp2_with (first
      | ((with_reducible refine wpList_load_blk (o := ⟨some 6, .load 26 (.tmp 2), _, _, _, none⟩) rfl _ _ rfl w.heap.size 26 x.cells _ ?_ ?_ Tryz.underlying26 rfl (cpu_sz _) ?_); rfl; exact b2)
      | (go_at_call 29; (with_reducible refine (KV.out _).mono ?_); rintro e w1 ⟨rfl, l1⟩; replace lw := Later.trans_ lw l1; clear e29))
    go_ret
    exact ⟨rfl, lw⟩
  | true =>
    by_cases hc : x.cn < 1099511627776
    · rw [decide_eq_true hc]
      go_enter Tryz.func10, Tryz.ntmps10
      go_upto_region 1 with fail
      clear hu
      go_wp2_with (first
        | ((with_reducible refine wpList_load_blk (o := ⟨some 6, .load 26 (.tmp 2), _, _, _, none⟩) rfl _ _ rfl w.heap.size 26 x.cells _ ?_ ?_ Tryz.underlying26 rfl (cpu_sz _) ?_); rfl; exact b2)
        | (go_at_call 29; (with_reducible refine (KV.out _).mono ?_); rintro e w1 ⟨rfl, l1⟩; replace b2 := b2.keep l1; replace b3 := b3.keep l1; replace lw := Later.trans_ lw l1; clear e29; have e29 := b2.cell (j := 29) (v := .int .i64 x.cn) rfl)
        | ((with_reducible refine wpList_load_g (o := ⟨some 15, .load 29 (.tmp 3), _, _, _, _⟩) _ _ rfl (w.heap.size + 1) 29 [.slice A n c] _ ?_ ?_ ?_ Tryz.underlying29 ?_ mem_sz ?_); rfl; rfl; exact b3; rfl)
        | (go_at_call 30; clear e29; (with_reducible refine (KM.out _).mono ?_); rintro e w2 ⟨rfl, l2⟩; replace lw := Later.trans_ lw l2))
      go_ret
      exact ⟨rfl, lw⟩
    · rw [decide_eq_false hc]
      have dc : decide (x.cn < 1099511627776) = false := decide_eq_false hc
      go_enter Tryz.func10, Tryz.ntmps10
      go_upto_region 1 with fail
      clear hu
      go_wp2_with (first
        | ((with_reducible refine wpList_load_blk (o := ⟨some 6, .load 26 (.tmp 2), _, _, _, none⟩) rfl _ _ rfl w.heap.size 26 x.cells _ ?_ ?_ Tryz.underlying26 rfl (cpu_sz _) ?_); rfl; exact b2)
        | (go_at_call 29; (with_reducible refine (KV.out _).mono ?_); rintro e w1 ⟨rfl, l1⟩; replace b2 := b2.keep l1; replace lw := Later.trans_ lw l1; clear e29; have e29 := b2.cell (j := 29) (v := .int .i64 x.cn) rfl))
      go_ret
      exact ⟨rfl, lw⟩
end Go.Proofs.YtidhodalnikhlaaGreatDoor
