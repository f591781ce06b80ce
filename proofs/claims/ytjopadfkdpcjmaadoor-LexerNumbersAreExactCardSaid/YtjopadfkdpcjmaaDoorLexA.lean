/-
  THE WALKS OF lexer.in, plain, ignored, value, word; strings as lists of bytes.
-/
import Derived.Test.YtjopadfkdpcjmaaDoorLexMath
import Derived.Test.YtjopadfkdpcjmaaDoorArgs
import Derived.Test.YtjopadfkdpcjmaaDoorShelf
import Derived.Shelf.Strings.SlTrimAscii
import Derived.Lib.Hide
import Derived.WalkKit
namespace Go.Proofs.YtjopadfkdpcjmaaDoor
open Go.RowKit Go.ChangeShapes Go.WideShapes Go.ChangeAt

/-- A string's bytes. -/
abbrev L (s : ByteArray) : Lx.Str := s.data.toList
theorem L_len (s : ByteArray) : (L s).length = s.size := by rw [Lib.size_eq]
theorem L_get (s : ByteArray) (p : Nat) (h : p < s.size) : s[p]'h = (L s)[p]'(by rw [L_len]; exact h) := by
  have h1 := Lib.data_getElem? s p h
  rw [List.getElem?_eq_getElem (by rw [L_len]; exact h)] at h1
  exact (Option.some.inj h1).symm
theorem L_drop (s : ByteArray) (p : Nat) : L (s.extract p s.size) = (L s).drop p := by
  have h : (L s).length = s.size := L_len s
  simp only [L, ByteArray.data_extract, Array.toList_extract, List.extract_eq_take_drop]
  rw [List.take_of_length_le]
  rw [List.length_drop, h]
  exact Nat.le_refl _
theorem L_take (s : ByteArray) (q : Nat) : L (s.extract 0 q) = (L s).take q := by
  simp [L, ByteArray.data_extract]
theorem L_mk (l : Lx.Str) : L ⟨l.toArray⟩ = l := by simp [L]
theorem mk_L (s : ByteArray) : (⟨(L s).toArray⟩ : ByteArray) = s := by simp [L]
theorem L_inj {a b : ByteArray} (h : L a = L b) : a = b := by rw [← mk_L a, ← mk_L b, h]
theorem L_nil {s : ByteArray} (h : s.size = 0) : L s = [] := List.eq_nil_of_length_eq_zero (by rw [L_len]; exact h)
theorem L_cons (s : ByteArray) (h : 0 < s.size) : L s = s[0] :: (L s).drop 1 := by
  rw [L_get]
  exact (List.drop_eq_getElem_cons (i := 0) (by rw [L_len]; exact h))
theorem u8_back (b : UInt8) : ((b.toNat : Int)).toNat.toUInt8 = b := by simp
theorem idx_contains (l : Lx.Str) (b : UInt8) : decide (0 ≤ Lib.indexByte l b) = l.contains b := by
  induction l with
  | nil => rfl
  | cons x r ih =>
    have hge := Lib.indexByte_ge r b
    rw [List.contains_cons]
    unfold Lib.indexByte
    by_cases h : x = b
    · subst h; simp
    · have h1 : (x == b) = false := by simpa using h
      have h2 : (b == x) = false := by simpa using fun e => h e.symm
      rw [h1, h2, Bool.false_or, ← ih]
      simp only [Bool.false_eq_true, if_false, beq_iff_eq]
      by_cases h3 : Lib.indexByte r b = -1
      · rw [if_pos h3, h3]
      · rw [if_neg h3, decide_eq_decide]; omega
theorem later1 (w : World) (o : Obj) : Later w (w.alloc o) := (Below.refl _ _).alloc (Nat.le_refl _) o
theorem later0 (w : World) : Later w w := Below.refl _ _

set_option maxRecDepth 100000 in
theorem in_any (s : ByteArray) (b : UInt8) (w : World) : Calls Tryd.prog 28 #[.string s, .int .u8 b.toNat] w fun e w' => e = .returned (.bool ((L s).contains b)) ∧ w' = w := by
  have H := Lib.hid (Tryd.strings_IndexByte s b.toNat w)
  rw [u8_back] at H
  go_enter Tryd.func28, Tryd.ntmps28
  go_wp2_with (go_at_call 48; refine (H.out).mono ?_; rintro e w' ⟨rfl, rfl⟩)
  go_ret
  exact ⟨ret_bool (idx_contains _ _), rfl⟩

set_option maxRecDepth 100000 in
theorem plain_any (b : UInt8) (w : World) : Calls Tryd.prog 77 #[.int .u8 b.toNat] w fun e w' => e = .returned (.bool (Lx.plainB b)) ∧ w' = w := by
  by_cases h1 : (32 : Int) ≤ (b.toNat : Int)
  · have d1 : decide ((32 : Int) ≤ (b.toNat : Int)) = true := decide_eq_true h1
    go_enter Tryd.func77, Tryd.ntmps77
    go_wp2
    go_ret
    exact ⟨ret_bool (by unfold Lx.plainB; rw [decide_eq_decide]; omega), rfl⟩
  · have d1 : decide ((32 : Int) ≤ (b.toNat : Int)) = false := decide_eq_false h1
    go_enter Tryd.func77, Tryd.ntmps77
    go_wp2
    go_ret
    exact ⟨ret_bool (by unfold Lx.plainB; symm; rw [decide_eq_false_iff_not]; omega), rfl⟩
end Go.Proofs.YtjopadfkdpcjmaaDoor
