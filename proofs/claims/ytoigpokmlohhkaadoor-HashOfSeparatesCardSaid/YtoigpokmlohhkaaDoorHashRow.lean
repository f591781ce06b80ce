/-
  STRINGS AND BYTES laid anew, as slices that read as the string's bytes.
-/
import Derived.Test.YtoigpokmlohhkaaDoorHashS
import Derived.Laws.IdiomStrings
namespace Go.Proofs.YtoigpokmlohhkaaDoor
open Go.RowKit Go.ChangeShapes Go.WideShapes Go.ChangeAt

theorem sb_ofN {b : Wm.Bs} (h : Wm.isBs b) : sb (strOfNums b) = b := by
  unfold sb strOfNums
  show ((b.map fun x => UInt8.ofNat x.toNat).toArray.toList).map _ = b
  rw [List.toList_toArray, List.map_map]
  conv => rhs; rw [← List.map_id b]
  apply List.map_congr_left
  intro x hx
  have hx2 := h x hx
  show (((UInt8.ofNat x.toNat).toNat : Nat) : Int) = x
  rw [UInt8.toNat_ofNat']
  show ((x.toNat % 256 : Nat) : Int) = x
  omega
/-- The bytes of a string, laid anew. -/
theorem sl_row (w : World) (s : ByteArray) (cap : Nat) (e : TypeId) (fr : Nat × Nat) : Sl (w.drew.alloc (.cells (bytesRow s cap) e fr)) 1 (some ⟨w.heap.size, 0, none⟩) s.size (U (sb s)) := by
  have h := heap_alloc_new w.drew (.cells (bytesRow s cap) e fr)
  refine ⟨by rw [U_length, sb_len, Nat.mul_one], fun _ => ⟨_, rfl, Nat.lt_of_lt_of_eq (Nat.lt_succ_self _) (Eq.symm (by simp)), fun j u hu => ?_⟩⟩
  rw [Addr.add_mid]
  unfold World.cell?
  show (match (w.drew.alloc _).heap[w.drew.heap.size]? with | some (.cells c _ _) => c[0 + j]? | _ => none) = some u
  rw [h, Nat.zero_add]
  show (bytesRow s cap)[j]? = some u
  have e1 : U (sb s) = (s.data.map fun b => Value.int .u8 b.toNat).toList := by simp [U, sb]
  rw [e1, Array.getElem?_toList] at hu
  obtain ⟨hj, _⟩ := Array.getElem?_eq_some_iff.1 hu
  unfold bytesRow
  rw [Array.getElem?_append_left hj, hu]

theorem sl_row2 (w : World) (s : ByteArray) (cap : Nat) (e : TypeId) (fr : Nat × Nat) : Sl (w.alloc (.cells (bytesRow s cap) e fr)).drew.drew 1 (some ⟨w.heap.size, 0, none⟩) s.size (U (sb s)) := sl_row w.drew s cap e fr
end Go.Proofs.YtoigpokmlohhkaaDoor
