/-
  THE WALKS OF THE DECODERS of lists of integers and of strings, wire's and the reference's.
-/
import Derived.Test.YtkhgaikfomcjeaaTwE
namespace Go.Proofs.Ytkhgaikfomcjeaa
open Go.RowKit

theorem int_info : (Try.prog.info? 3).map (fun i => (i.zero, i.size, i.bytes)) = some (some (.int .i64 0), 1, 8) := by kernel_rfl
theorem str_info : (Try.prog.info? 9).map (fun i => (i.zero, i.size, i.bytes)) = some (some (.string ⟨#[]⟩), 1, 16) := by kernel_rfl

/-- b[u:], whatever the capacity. -/
theorem cut_run {A : Option Addr} {n c u : Nat} {b : Wm.Bs} (hu : u ≤ n) (hnc : n ≤ c) :
    ∃ A', (∀ w : World, (Instr.slice 29 (.slice A n c) (some (.int .i64 u)) none none).run Try.prog w = .ok (.slice A' (n - u) (c - u)) w) ∧ ∀ w : World, Sl w 1 A n (U b) → Sl w 1 A' (n - u) (U (b.drop u)) := by
  refine ⟨if c = u then A else A.map (·.add u), fun w => ?_, fun w h => ?_⟩
  · have h1 := run_slice_l (P := Try.prog) (w := w) 29 A n c Try.underlying29 .i64 u (by omega) (by omega)
    have h2 : (sizeOf (Try.prog.elem 29)).run Try.prog w = .ok 1 w := by kernel_rfl
    rw [h1, h2]
    simp [Result.andThen, sliced]
  · by_cases hc : c = u
    · rw [if_pos hc]; exact h.cutEnd hu hnc hc
    · rw [if_neg hc]; exact h.cutB hu hnc hc

theorem isBs_drop {b : Wm.Bs} (h : Wm.isBs b) (p : Nat) : Wm.isBs (b.drop p) := fun x hx => h x (List.mem_of_mem_drop hx)
theorem own_snoc64 {w : World} {B : Nat} {e : TypeId} {v : Value} {a : List Int} {x : Int} (h : w.ownsRow B e 1 v (a.length + 1) (N64 a ++ [Value.int .i64 x])) : w.ownsRow B e 1 v (a ++ [x]).length (N64 (a ++ [x])) := by
  have e1 : (a ++ [x]).length = a.length + 1 := by simp
  have e2 : N64 (a ++ [x]) = N64 a ++ [Value.int .i64 x] := by simp [N64]
  rw [e1, e2]
  exact h

/-- What a decoder of a list answers. -/
def GotInts (r : List Int × Nat × Int) (w : World) (e : Ending) (w' : World) : Prop :=
  ∃ A n c, e = .returned (.tuple #[.slice A n c, .int .i64 r.2.1, .int .i64 r.2.2]) ∧ n ≤ c ∧ c ≤ maxLen ∧ Sl w' 1 A n (N64 r.1) ∧ Later w w'

theorem Calls.outB {P : Program} {f : FuncId} {args : Array Value} {w : World} {r : Wm.Bs × Nat × Int} {z : Wm.Bs} {u : Nat} {e : Int} (h : Calls P f args w fun x w' => x = .returned (ansB r) ∧ w = w') (hr : r = (z, u, e)) :
    Calls P f args w fun x w' => x = .returned (.tuple #[.string (strOfNums z), .int .i64 u, .int .i64 e]) ∧ w = w' := by subst hr; exact h
/-- Byte strings as cells. -/
def T64 (l : List Wm.Bs) : List Value := l.map fun b => Value.string (strOfNums b)
theorem own_snocT {w : World} {B : Nat} {e : TypeId} {v : Value} {a : List Wm.Bs} {x : Wm.Bs} (h : w.ownsRow B e 1 v (a.length + 1) (T64 a ++ [Value.string (strOfNums x)])) : w.ownsRow B e 1 v (a ++ [x]).length (T64 (a ++ [x])) := by
  have e1 : (a ++ [x]).length = a.length + 1 := by simp
  have e2 : T64 (a ++ [x]) = T64 a ++ [Value.string (strOfNums x)] := by simp [T64]
  rw [e1, e2]
  exact h
theorem one_str (s : ByteArray) : ∀ u ∈ [Value.string s], u.oneCell' = true := by
  intro u hu
  obtain rfl : u = .string s := by simpa using hu
  rfl
def GotStrs (r : List Wm.Bs × Nat × Int) (w : World) (e : Ending) (w' : World) : Prop :=
  ∃ A n c, e = .returned (.tuple #[.slice A n c, .int .i64 r.2.1, .int .i64 r.2.2]) ∧ n ≤ c ∧ c ≤ maxLen ∧ Sl w' 1 A n (T64 r.1) ∧ Later w w'

end Go.Proofs.Ytkhgaikfomcjeaa
