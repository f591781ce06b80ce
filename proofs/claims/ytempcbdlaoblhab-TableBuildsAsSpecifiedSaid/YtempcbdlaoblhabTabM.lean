/-
  THE ITERATOR OF steps: its contract.
-/
import Derived.Test.YtempcbdlaoblhabTabK2
import Derived.Test.YtempcbdlaoblhabTabLoop
import Derived.OwnWalkIn
import Derived.TacticsInMore
import Derived.LoopNIn
import Derived.LoopIn
import Derived.Shelf.Abstract
import Derived.Shelf.RegionOpen
namespace Go.Proofs.Ytempcbdlaoblhab
open Go.RowKit Go.ChangeShapes Go.WideShapes Go.ChangeAt
attribute [local go_sem] Oper.semAt_some

theorem later_grown {w w' : World} (h : Later w w') : w.grownBy w' none := ⟨h.os, h.tape, h.output, h.size, fun k hk _ => h.block k hk⟩
theorem own_later {β : Type} {B : Nat} {J : β → World → Prop} (hJ : OwnFrom B J) {s : β} {w w' : World} (h : J s w) (l : Later w w') : J s w' :=
  hJ s w w' none h (later_grown l) (fun r e => by cases e)
/-- Two boxes of words lie as they lay. -/
def Kb (b2 b3 : Nat) (W W' : World) : Prop := (∀ v, Boxed W b2 25 v → Boxed W' b2 25 v) ∧ ∀ v, Boxed W b3 25 v → Boxed W' b3 25 v
theorem Kb.trans {b2 b3 : Nat} {X Y Z : World} (h : Kb b2 b3 X Y) (k : Kb b2 b3 Y Z) : Kb b2 b3 X Z := ⟨fun v hv => k.1 v (h.1 v hv), fun v hv => k.2 v (h.2 v hv)⟩
theorem Kb.put {b2 b3 : Nat} (W : World) (l : Nat) (o o' : Obj) (h : W.heap[l]? = some o) (hc : o.isCells = false) : Kb b2 b3 W (W.putObj l o') :=
  ⟨fun v hv => hv.kept (grownBy_putObj' W l o') (fun e => by cases e; rw [show W.heap[b2]? = _ from hv] at h; cases h; cases hc), fun v hv => hv.kept (grownBy_putObj' W l o') (fun e => by cases e; rw [show W.heap[b3]? = _ from hv] at h; cases h; cases hc)⟩
def stepE (fr d : Int) (i : Fin 32) : Array Value := #[.int .u32 (fr + d * (i.1 : Int))]
theorem fin_take (k : Nat) (h : k < 32) : (List.finRange 32).take (k + 1) = (List.finRange 32).take k ++ [⟨k, h⟩] := by
  rw [List.take_succ_eq_append_getElem (by rw [List.length_finRange]; exact h), List.getElem_finRange]
  rfl
set_option maxRecDepth 100000 in
set_option maxHeartbeats 4000000 in
theorem steps1_in (m : Nat) (l b1 b2 b3 : Nat) (fr d : Int) (J Jx : List (Fin 32) → World → Prop) (hfr : 0 ≤ fr) (hd : 0 < d) (hlt : fr + d * 32 < 4294967296)
    (hY : ∀ pre x W, J pre W → pre.length < 32 → YieldAt Fence.wide (m - 1) Try.prog l (stepE fr d x) W fun e W' =>
      (e = .returned (.bool true) ∧ J (pre ++ [x]) W' ∧ Kb b2 b3 W W') ∨ (e = .returned (.bool false) ∧ Jx (pre ++ [x]) W'))
    (W : World) (k1 : Boxed W b1 25 (.int .u32 fr)) (k2 : Boxed W b2 25 (.int .u32 (fr + d * 32))) (k3 : Boxed W b3 25 (.int .u32 d)) (h0 : J [] W) :
    CallsIn Fence.wide m Try.prog 88 #[.func (.yield l) #[] #[], .pointer (some ⟨b1, 0, none⟩), .pointer (some ⟨b2, 0, none⟩), .pointer (some ⟨b3, 0, none⟩)] W fun e W' => (∃ v, e = .returned v) ∧
      ((∃ ys, ys = List.finRange 32 ∧ J ys W') ∨ (∃ pre, pre <+: List.finRange 32 ∧ Jx pre W')) := by
  have HY := Lib.hid hY
  have c1 := k1.cell
  have c2 := k2.cell
  clear hY
  refine callsIn_of_wp Try.func88 rfl trivial ?_ rfl
  simp only [Try.ntmps88, List.size_toArray, List.length_cons, List.length_nil, Nat.reduceAdd, Nat.reduceSub, Array.replicate_succ, Array.replicate_zero, List.push_toArray, List.append_toArray, List.nil_append, List.cons_append]
  gi_wp2
  clear c1 c2
  gi_loopw [5] (fun i wr => ∃ k : Nat, k ≤ 32 ∧ i = .int .u32 (fr + d * (k : Int)) ∧ J ((List.finRange 32).take k) wr ∧ Boxed wr b2 25 (.int .u32 (fr + d * 32)) ∧ Boxed wr b3 25 (.int .u32 d)) (fun i _ => (fr + d * 32 - intOf i).toNat)
  case atStart => exact ⟨0, by omega, by simp, h0, k2, k3⟩
  case round =>
    rename_i wr
    obtain ⟨k, hk, rfl, hJk, x2, x3⟩ := hrel
    have c2 := x2.cell
    by_cases hl : k < 32
    · have hdk : d * ((k : Int) + 1) ≤ d * 32 := Int.mul_le_mul_of_nonneg_left (by omega) (by omega)
      have hdk0 : 0 ≤ d * (k : Int) := Int.mul_nonneg (by omega) (by omega)
      have hdk1 : d * ((k : Int) + 1) = d * (k : Int) + d := by rw [Int.mul_add, Int.mul_one]
      obtain ⟨q, hq⟩ : ∃ q, q = d * (k : Int) := ⟨_, rfl⟩
      obtain ⟨fn, tmps, assign, body, hy, hR⟩ := HY.out ((List.finRange 32).take k) ⟨k, hl⟩ wr hJk (by rw [List.length_take, List.length_finRange]; omega)
      unfold stepE at hy
      dsimp only at hy
      rw [← hq] at hy hdk0 hdk1 ⊢
      obtain ⟨e32, he32⟩ : ∃ e32, e32 = fr + d * 32 := ⟨_, rfl⟩
      have lt1 : decide (fr + q < e32) = true := decide_eq_true (by omega)
      have le2 : fr + q + d ≤ e32 := by omega
      have le3 : e32 < 4294967296 := by omega
      rw [← he32] at c2 x2 ⊢
      have HQ := Lib.hid hq
      have HD := Lib.hid hdk1
      have HE := Lib.hid he32
      have HT := Lib.hid (fin_take k hl)
      clear hq hdk hdk1 he32
      gi_wp2_with (first
        | (refine ⟨fun h => (by cases h), ?_⟩; refine hR.mono ?_; rintro e w4 (⟨rfl, hJ4, hk4⟩ | ⟨rfl, hJx4⟩); have x3b := hk4.2 _ x3; have x2b := hk4.1 _ x2; have c3 := x3b.cell))
      · go_roundw
        case rel => exact ⟨k + 1, by omega, by rw [show ((k + 1 : Nat) : Int) = (k : Int) + 1 by omega, HD.out]; congr 1; omega, by rw [HT.out]; exact hJ4, x2b, x3b⟩
        case measure => simp [intOf]; omega
      · refine bodyPost_ret (results_none rfl _ _ _) rfl ?_
        exact ⟨⟨_, rfl⟩, .inr ⟨_, by rw [← HT.out]; exact List.take_prefix _ _, hJx4⟩⟩
    · obtain rfl : k = 32 := by omega
      have lt1 : decide (fr + d * ((32 : Nat) : Int) < fr + d * 32) = false := decide_eq_false (by omega)
      gi_wp2
      go_end0
      exact ⟨⟨_, rfl⟩, .inl ⟨_, List.take_of_length_le (by rw [List.length_finRange]; omega), hJk⟩⟩
theorem steps_stops (m b1 b2 b3 : Nat) (fr d : Int) (w : World) (hfr : 0 ≤ fr) (hd : 0 < d) (hlt : fr + d * 32 < 4294967296)
    (k1 : Boxed w b1 25 (.int .u32 fr)) (k2 : Boxed w b2 25 (.int .u32 (fr + d * 32))) (k3 : Boxed w b3 25 (.int .u32 d)) :
    SeqStopsK Fence.wide m Try.prog 88 #[.pointer (some ⟨b1, 0, none⟩), .pointer (some ⟨b2, 0, none⟩), .pointer (some ⟨b3, 0, none⟩)] (stepE fr d) (Kb b2 b3) (fun ys => ys = List.finRange 32) (fun pre => pre <+: List.finRange 32) 32 w := fun l J Jx W hW _ _ hY h0 =>
  steps1_in m l b1 b2 b3 fr d J Jx hfr hd hlt hY W ((hW.block b1 k1.lt).trans k1) ((hW.block b2 k2.lt).trans k2) ((hW.block b3 k3.lt).trans k3) h0
theorem steps_any (a b d : Int) (w : World) : Calls Try.prog 79 #[.int .u32 a, .int .u32 b, .int .u32 d] w fun e w' => e = .returned (.func (.func 88) #[] #[.pointer (some ⟨w.heap.size, 0, none⟩), .pointer (some ⟨w.heap.size + 1, 0, none⟩), .pointer (some ⟨w.heap.size + 2, 0, none⟩)]) ∧
    w' = ((w.alloc (.cells #[.int .u32 a] 25)).alloc (.cells #[.int .u32 b] 25)).alloc (.cells #[.int .u32 d] 25) := by
  have hmf : ∀ (fn : Fn) (first cap : Array Value) (w : World), (Instr.makeFunc fn first cap).run Try.prog w = .ok (.func fn first cap) w := fun _ _ _ _ => rfl
  go_enter Try.func79, Try.ntmps79
  go_wp2
  go_ret
  exact ⟨rfl, rfl⟩
end Go.Proofs.Ytempcbdlaoblhab
