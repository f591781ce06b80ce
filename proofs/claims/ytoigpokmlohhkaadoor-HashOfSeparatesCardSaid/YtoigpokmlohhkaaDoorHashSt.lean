/-
  TOWARDS THE STATEMENT HashCrcStreams: a check's state as a string's.
-/
import Derived.Test.YtoigpokmlohhkaaDoorHashFe
import Derived.Test.YtoigpokmlohhkaaDoorHashRow
namespace Go.Proofs.YtoigpokmlohhkaaDoor
open Go.RowKit

/-- The state after a string. -/
def regS (s : ByteArray) : Int := q40 (Hm.bytes Hm.ones (bv (sb s)))
theorem sb_app (s t : ByteArray) : sb (s ++ t) = sb s ++ sb t := by
  unfold sb
  rw [← List.map_append, ByteArray.data_append, Array.toList_append]
theorem begin_reg (w : World) : Calls Tryd.prog 16 #[] w fun e w' => e = .returned (.agg #[.int .u64 (regS ⟨#[]⟩)]) ∧ Later w w' := begin_any w
theorem add_reg (s t : ByteArray) (w : World) (hn : t.size ≤ maxLen) :
    Calls Tryd.prog 17 #[.agg #[.int .u64 (regS s)], .string t] w fun e w' => e = .returned (.agg #[.int .u64 (regS (s ++ t))]) ∧ Later w w' := by
  have h := add_any (Hm.bytes Hm.ones (bv (sb s))) t w hn
  unfold regS
  rw [sb_app, bv_append, Hm.bytes_append]
  exact h
theorem value_reg (s : ByteArray) (w : World) :
    Calls Tryd.prog 19 #[.agg #[.int .u64 (regS s)]] w fun e w' => e = .returned (.int .i64 (crcI (sb s))) ∧ Later w w' := value_any _ w
/-- The check of a string's bytes, laid anew. -/
theorem crc_row (s : ByteArray) (w : World) (cap : Nat) (fr : Nat × Nat) (hn : s.size ≤ maxLen) :
    Calls Tryd.prog 20 #[.slice (some ⟨w.heap.size, 0, none⟩) s.size cap] (w.drew.alloc (.cells (bytesRow s cap) 5 fr)) fun e w' => e = .returned (.int .i64 (crcI (sb s))) ∧ Later (w.drew.alloc (.cells (bytesRow s cap) 5 fr)) w' :=
  crc40_any _ s.size cap (sb s) _ (sl_row w s cap _ fr) (sb_bs s) hn
theorem crc_row' (s : ByteArray) (w : World) (cap : Nat) (fr : Nat × Nat) (hn : s.size ≤ maxLen) :
    Calls Tryd.prog 20 #[.slice (some ⟨w.heap.size, 0, none⟩) s.size cap] (w.alloc (.cells (bytesRow s cap) 5 fr)).drew fun e w' => e = .returned (.int .i64 (crcI (sb s))) ∧ Later (w.alloc (.cells (bytesRow s cap) 5 fr)).drew w' :=
  crc_row s w cap fr hn
end Go.Proofs.YtoigpokmlohhkaaDoor
