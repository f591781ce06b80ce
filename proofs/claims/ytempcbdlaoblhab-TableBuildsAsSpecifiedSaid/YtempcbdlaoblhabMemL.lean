/-
  THE WALK OF Diff.
-/
import Derived.Test.YtempcbdlaoblhabMemK3
import Derived.ChangeKeysEq
namespace Go.Proofs.Ytempcbdlaoblhab
open Go.RowKit Go.ChangeShapes Go.WideShapes Go.ChangeAt

theorem int_info : (Try.prog.info? 3).map (fun i => (i.zero, i.size, i.bytes)) = some (some (.int .i64 0), 1, 8) := by kernel_rfl
/-- Numbers as cells. -/
def Ni (l : List Nat) : List Value := l.map fun i : Nat => Value.int .i64 (i : Int)
theorem ni_app {w : World} {B : Nat} {e : TypeId} {v : Value} {l : List Nat} {x : Nat} (h : w.ownsRow B e 1 v (l.length + 1) (Ni l ++ [.int .i64 (x : Int)])) : w.ownsRow B e 1 v (l ++ [x]).length (Ni (l ++ [x])) := by
  rw [List.length_append, show Ni (l ++ [x]) = Ni l ++ [.int .i64 (x : Int)] by unfold Ni; simp]
  exact h
/-- What hands back a list of numbers. -/
def GotI (l : List Nat) (w : World) (e : Ending) (w' : World) : Prop := ∃ A c, e = .returned (.slice A l.length c) ∧ l.length ≤ c ∧ c ≤ maxLen ∧ Sl w' 1 A l.length (Ni l) ∧ Later w w'
theorem page_sz {x : Wm.Bs} (h : x.length = 128) : (Try.prog.info? 120).map (·.size) = some (U x).length := by rw [U_length, h]; kernel_rfl
theorem items_eq (d : Nat) (x y : Wm.Bs) (w : World) : ∀ is : List Nat, (∀ i ∈ is, i < x.length ∧ i < y.length) →
    (Op.eqItems (d + 1) 5 1 (U x).toArray (U y).toArray is).run Try.prog w = .ok (is.all fun i => x.getD i 0 == y.getD i 0) w := by
  have hag : (isAgg 5).run Try.prog w = .ok false w := by kernel_rfl
  intro is
  induction is with
  | nil => intro _; simp [Op.eqItems]
  | cons i r ih =>
    intro h
    have hi := h i (List.mem_cons_self)
    have px : (part 5 (U x).toArray (i * 1)).run Try.prog w = .ok (.int .u8 (x.getD i 0)) w := by
      unfold part
      rw [Sem.run_bind, hag]
      have := U_get x i hi.1
      simp [Result.andThen, this]
    have py : (part 5 (U y).toArray (i * 1)).run Try.prog w = .ok (.int .u8 (y.getD i 0)) w := by
      unfold part
      rw [Sem.run_bind, hag]
      have := U_get y i hi.2
      simp [Result.andThen, this]
    have he := run_equalIn_int (P := Try.prog) w d 5 .u8 .u8 (x.getD i 0) (y.getD i 0) Try.underlying5
    have hr := ih (fun j hj => h j (List.mem_cons_of_mem _ hj))
    simp only [Op.eqItems, Sem.run_bind, px, py, he, Result.andThen_ok, List.all_cons]
    cases hb : (x.getD i 0 == y.getD i 0)
    · simp
    · simpa using hr
theorem range_eq {n : Nat} {x y : Wm.Bs} (hx : x.length = n) (hy : y.length = n) : ((List.range n).all fun i => x.getD i 0 == y.getD i 0) = decide (x = y) := by
  by_cases h : x = y
  · subst h; simp
  · rw [decide_eq_false h, Bool.eq_false_iff]
    intro hall
    apply h
    apply List.ext_getElem?
    intro j
    rcases Nat.lt_or_ge j n with hj | hj
    · have := List.all_eq_true.1 hall j (List.mem_range.2 hj)
      rw [List.getD_eq_getElem?_getD, List.getD_eq_getElem?_getD, List.getElem?_eq_getElem (by omega), List.getElem?_eq_getElem (by omega)] at this
      rw [List.getElem?_eq_getElem (by omega), List.getElem?_eq_getElem (by omega)]
      simpa using this
    · rw [List.getElem?_eq_none (by omega), List.getElem?_eq_none (by omega)]
theorem page_eq {x y : Wm.Bs} (hx : x.length = 128) (hy : y.length = 128) (w : World) : (Op.equalIn 10000 120 (.agg (U x).toArray) (.agg (U y).toArray)).run Try.prog w = .ok (decide (x = y)) w := by
  obtain ⟨i0, hi, _, _, _⟩ := info_parts u8_info
  have hc : Try.prog.cellsOf 5 = 1 := by kernel_rfl
  rw [run_equalIn_array w 9999 _ _ Try.underlying120 hi, hc, items_eq 9998 x y w _ (fun i hi => by rw [hx, hy]; have := List.mem_range.1 hi; omega), range_eq hx hy]
theorem page_neq {x y : Wm.Bs} (hx : x.length = 128) (hy : y.length = 128) (w : World) : (binOp .neq 120 (.agg (U x).toArray) (.agg (U y).toArray)).run Try.prog w = .ok (.bool (!decide (x = y))) w := by
  have h := page_eq hx hy w
  have h2 : (Op.equal 120 (.agg (U x).toArray) (.agg (U y).toArray)).run Try.prog w = .ok (decide (x = y)) w := h
  simp [binOp, h2]
theorem min_int (x y m : Nat) (h : m = min x y) : min (x : Int) (y : Int) = (m : Int) := by omega
theorem max_int (x y m : Nat) (h : m = max x y) : max (x : Int) (y : Int) = (m : Int) := by omega

end Go.Proofs.Ytempcbdlaoblhab
