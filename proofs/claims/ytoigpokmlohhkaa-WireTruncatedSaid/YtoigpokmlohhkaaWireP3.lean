/-
  For every byte sequence (of at most 2000 bytes) the decoders answer as the specification does: the statement WireDecodeMatchesSpec.
-/
import Derived.Test.YtoigpokmlohhkaaWireM
import Derived.Test.YtoigpokmlohhkaaWireDig
namespace Go.Proofs.Ytoigpokmlohhkaa
open Go.RowKit Go.ChangeShapes Go.WideShapes Go.ChangeAt

theorem T64_strs (l : List Wm.Bs) : T64 l = Strs (l.map strOfNums) := by simp [T64, Strs]
theorem Calls.gotInts {f : FuncId} {args : Array Value} {w : World} {r : List Int × Nat × Int} {l : List Int} {u : Nat} {e : Int} (h : Calls Try.prog f args w (GotInts r w)) (hr : r = (l, u, e)) :
    Calls Try.prog f args w fun x w' => ∃ A n c, x = .returned (.tuple #[.slice A n c, .int .i64 u, .int .i64 e]) ∧ n ≤ c ∧ c ≤ maxLen ∧ Sl w' 1 A n (N64 l) ∧ Later w w' := by subst hr; exact h
theorem Calls.gotStrs {f : FuncId} {args : Array Value} {w : World} {r : List Wm.Bs × Nat × Int} {l : List Wm.Bs} {u : Nat} {e : Int} (h : Calls Try.prog f args w (GotStrs r w)) (hr : r = (l, u, e)) :
    Calls Try.prog f args w fun x w' => ∃ A n c, x = .returned (.tuple #[.slice A n c, .int .i64 u, .int .i64 e]) ∧ n ≤ c ∧ c ≤ maxLen ∧ Sl w' 1 A n (Strs (l.map strOfNums)) ∧ Later w w' := by subst hr; rw [← T64_strs]; exact h
theorem Calls.gotDigs {f : FuncId} {args : Array Value} {w : World} {r : List Wm.Bs × Nat × Int} {l : List Wm.Bs} {u : Nat} {e : Int} (h : Calls Try.prog f args w (GotDigs r w)) (hr : r = (l, u, e)) :
    Calls Try.prog f args w fun x w' => ∃ A n c, x = .returned (.tuple #[.slice A n c, .int .i64 u, .int .i64 e]) ∧ n ≤ c ∧ c ≤ maxLen ∧ Sl w' 16 A n (Ds l) ∧ Later w w' := by subst hr; exact h
theorem ibne (x : Int) : (x != x) = false := by simp
theorem ibeq (x : Int) : (x == x) = true := by simp

end Go.Proofs.Ytoigpokmlohhkaa
