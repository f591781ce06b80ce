/-
  THE WALK OF the statements' sanity check: the document's examples; and arrays of bytes compared.
-/
import Derived.Test.YtoigpokmlohhkaaDoorHashP
import Derived.ChangeKeysEq
namespace Go.Proofs.YtoigpokmlohhkaaDoor
open Go.RowKit

/-- Two digests compared. -/
theorem items_eq (d : Nat) (x y : Wm.Bs) (w : World) : ∀ is : List Nat, (∀ i ∈ is, i < x.length ∧ i < y.length) →
    (Op.eqItems (d + 1) 5 1 (U x).toArray (U y).toArray is).run Tryd.prog w = .ok (is.all fun i => x.getD i 0 == y.getD i 0) w := by
  have hag : (isAgg 5).run Tryd.prog w = .ok false w := by kernel_rfl
  intro is
  induction is with
  | nil => intro _; simp [Op.eqItems]
  | cons i r ih =>
    intro h
    have hi := h i (List.mem_cons_self)
    have px : (part 5 (U x).toArray (i * 1)).run Tryd.prog w = .ok (.int .u8 (x.getD i 0)) w := by
      unfold part
      rw [Sem.run_bind, hag]
      have := U_get x i hi.1
      simp [Result.andThen, this]
    have py : (part 5 (U y).toArray (i * 1)).run Tryd.prog w = .ok (.int .u8 (y.getD i 0)) w := by
      unfold part
      rw [Sem.run_bind, hag]
      have := U_get y i hi.2
      simp [Result.andThen, this]
    have he := run_equalIn_int (P := Tryd.prog) w d 5 .u8 .u8 (x.getD i 0) (y.getD i 0) Tryd.underlying5
    have hr := ih (fun j hj => h j (List.mem_cons_of_mem _ hj))
    simp only [Op.eqItems, Sem.run_bind, px, py, he, Result.andThen_ok, List.all_cons]
    cases hb : (x.getD i 0 == y.getD i 0)
    · simp
    · simpa using hr
theorem range_eq {n : Nat} {x y : Wm.Bs} (hx : x.length = n) (hy : y.length = n) : ((List.range n).all fun i => x.getD i 0 == y.getD i 0) = decide (x = y) := by
  by_cases h : x = y
  · subst h; simp
  · rw [decide_eq_false h, Bool.eq_false_iff]
    intro hall
    apply h
    apply List.ext_getElem?
    intro j
    rcases Nat.lt_or_ge j n with hj | hj
    · have := List.all_eq_true.1 hall j (List.mem_range.2 hj)
      rw [List.getD_eq_getElem?_getD, List.getD_eq_getElem?_getD, List.getElem?_eq_getElem (by omega), List.getElem?_eq_getElem (by omega)] at this
      rw [List.getElem?_eq_getElem (by omega), List.getElem?_eq_getElem (by omega)]
      simpa using this
    · rw [List.getElem?_eq_none (by omega), List.getElem?_eq_none (by omega)]
theorem sum_eq {x y : Wm.Bs} (hx : x.length = 32) (hy : y.length = 32) (w : World) : (Op.equalIn 10000 35 (.agg (U x).toArray) (.agg (U y).toArray)).run Tryd.prog w = .ok (decide (x = y)) w := by
  obtain ⟨i0, hi, _, _, _⟩ := info_parts u8_info
  have hc : Tryd.prog.cellsOf 5 = 1 := by kernel_rfl
  rw [run_equalIn_array w 9999 _ _ Tryd.underlying35 hi, hc, items_eq 9998 x y w _ (fun i hi => by rw [hx, hy]; have := List.mem_range.1 hi; omega), range_eq hx hy]
theorem dig_eq {x y : Wm.Bs} (hx : x.length = 16) (hy : y.length = 16) (w : World) : (Op.equalIn 10000 47 (.agg (U x).toArray) (.agg (U y).toArray)).run Tryd.prog w = .ok (decide (x = y)) w := by
  obtain ⟨i0, hi, _, _, _⟩ := info_parts u8_info
  have hc : Tryd.prog.cellsOf 5 = 1 := by kernel_rfl
  rw [run_equalIn_array w 9999 _ _ Tryd.underlying47 hi, hc, items_eq 9998 x y w _ (fun i hi => by rw [hx, hy]; have := List.mem_range.1 hi; omega), range_eq hx hy]

/-- The examples, by the kernel. -/
def abc : Wm.Bs := iv8 (Hs.sha (bv [97, 98, 99]))
def one : Wm.Bs := (iv8 (Hs.sha (bv (inputB 1 [])))).take 16
def lit1 : ByteArray := ⟨#[98, 97, 55, 56, 49, 54, 98, 102, 56, 102, 48, 49, 99, 102, 101, 97, 52, 49, 52, 49, 52, 48, 100, 101, 53, 100, 97, 101, 50, 50, 50, 51, 98, 48, 48, 51, 54, 49, 97, 51, 57, 54, 49, 55, 55, 97, 57, 99, 98, 52, 49, 48, 102, 102, 54, 49, 102, 50, 48, 48, 49, 53, 97, 100]⟩
def lit2 : ByteArray := ⟨#[52, 98, 102, 53, 49, 50, 50, 102, 51, 52, 52, 53, 53, 52, 99, 53, 51, 98, 100, 101, 50, 101, 98, 98, 56, 99, 100, 50, 98, 55, 101, 51]⟩
theorem ex_abc : strOfNums (hexB (sb (strOfNums abc))) = lit1 := by kernel_rfl
theorem ex_one : strOfNums (hexB (sb (strOfNums one))) = lit2 := by kernel_rfl
theorem ex_crc : crcI [254] = 75628790 := by decide +kernel
theorem ex_two : q40 (Hm.bytes (Hm.bytes Hm.ones (bv (sb ⟨#[255]⟩))) (bv (sb ⟨#[255]⟩)) ^^^ Hm.ones) = 65535 := by decide +kernel
theorem ex_words : crcI (fives [1099511627774]) = 1099435999222 := by decide +kernel
theorem ex_j1 : joinR 255 255 1 = 65535 := by decide +kernel
theorem ex_j2 : joinR 255 0 1 = 65280 := by decide +kernel
theorem ex_j3 : joinR 7 9 0 = 14 := by decide +kernel
end Go.Proofs.YtoigpokmlohhkaaDoor
