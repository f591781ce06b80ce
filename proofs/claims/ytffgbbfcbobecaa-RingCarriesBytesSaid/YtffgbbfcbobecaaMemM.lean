/-
  THE WALK OF the reference's SameInts.
-/
import Derived.Test.YtffgbbfcbobecaaMemL2
namespace Go.Proofs.Ytffgbbfcbobecaa
open Go.RowKit Go.ChangeShapes Go.WideShapes Go.ChangeAt

theorem Ni_get (l : List Nat) (k : Nat) (h : k < l.length) : (Ni l)[k]? = some (.int .i64 ((l.getD k 0 : Nat) : Int)) := by
  unfold Ni
  rw [List.getElem?_map, List.getD_eq_getElem?_getD, List.getElem?_eq_getElem h]
  rfl
theorem take_same {l1 l2 : List Nat} {k : Nat} (h1 : k < l1.length) (h2 : k < l2.length) (h : l1.take k = l2.take k) (e : l1.getD k 0 = l2.getD k 0) : l1.take (k + 1) = l2.take (k + 1) := by
  rw [List.getD_eq_getElem?_getD, List.getD_eq_getElem?_getD, List.getElem?_eq_getElem h1, List.getElem?_eq_getElem h2] at e
  rw [List.take_succ_eq_append_getElem h1, List.take_succ_eq_append_getElem h2, h]
  simp at e
  rw [e]
end Go.Proofs.Ytffgbbfcbobecaa
