/-
  WORDS FOR MEMORY, OF NO PROGRAM: a block that is known whole, and what a store makes of it.
-/
import Derived.Test.YtffgbbfcbobecaaWireMem
import Derived.Laws.Rows
import Derived.Laws.IdiomCopy
import Derived.Deep.MidRow
import Derived.Deep.WholeRow
import Derived.Laws.Tables
import Derived.Laws.CopyOwn
namespace Go.Proofs.Ytffgbbfcbobecaa
open Go.RowKit

/-- THE BLOCK B HOLDS THE CELLS cs, and may be written. -/
def Blk (w : World) (B : Nat) (t : TypeId) (cs : List Value) : Prop := w.heap[B]? = some (.cells cs.toArray t (0, 0))

section
variable {w w' : World} {B : Nat} {t : TypeId} {cs : List Value}
theorem Blk.new (w : World) (t : TypeId) (c : Array Value) (cs : List Value) (h : c = cs.toArray) : Blk (w.alloc (.cells c t)) w.heap.size t cs := by
  subst h; exact heap_alloc_new w _
theorem Blk.lt (h : Blk w B t cs) : B < w.heap.size := by
  rcases Nat.lt_or_ge B w.heap.size with h1 | h1
  · exact h1
  · unfold Blk at h; rw [Array.getElem?_eq_none h1] at h; cases h
theorem Blk.cell (h : Blk w B t cs) {j : Nat} {v : Value} (hj : cs[j]? = some v) : w.cell? ⟨B, j, none⟩ = some v := by
  unfold World.cell?
  rw [show w.heap[B]? = _ from h]
  simpa using hj
theorem Blk.there1 (h : Blk w B t cs) {j : Nat} (hj : j < cs.length) : (w.cell? ⟨B, j, none⟩).isSome = true := by
  rw [h.cell (List.getElem?_eq_getElem hj)]; rfl
theorem Blk.frz (h : Blk w B t cs) (j : Nat) : w.frozen? ⟨B, j, none⟩ = false := frozen_of_row w B j _ t h
theorem Blk.set (h : Blk w B t cs) (j : Nat) (v : Value) : Blk (w.setCell ⟨B, j, none⟩ v) B t (cs.set j v) := by
  have := heap_setCell_same w B j cs.toArray t v h
  unfold Blk
  rw [this]
  congr 2
  simp
theorem Blk.set_other (h : Blk w B t cs) (a : Addr) (v : Value) (hne : B ≠ a.block) : Blk (w.setCell a v) B t cs := by
  unfold Blk
  rw [heap_setCell_other w a B v hne]; exact h
theorem Blk.alloc (h : Blk w B t cs) (o : Obj) : Blk (w.alloc o) B t cs := by
  unfold Blk
  rw [Below.heap_alloc w o B h.lt]; exact h
theorem Blk.drew (h : Blk w B t cs) : Blk w.drew B t cs := h
theorem Blk.later {B' : Nat} (h : Blk w B t cs) (hb : Below B' w w') (hB : B < B') : Blk w' B t cs := by
  unfold Blk
  rw [hb.block B hB]; exact h
theorem Blk.keep (h : Blk w B t cs) (hb : Later w w') : Blk w' B t cs := h.later hb h.lt
theorem Blk.sets (h : Blk w B t cs) (o : Nat) (vs : List Value) (hl : o + vs.length ≤ cs.length) : Blk (w.setCells B o vs) B t (cs.take o ++ vs ++ cs.drop (o + vs.length)) := by
  induction vs generalizing w cs o with
  | nil => simpa [World.setCells] using h
  | cons v r ih =>
    have h1 := h.set o v
    have h2 := ih h1 (o + 1) (by simp at hl ⊢; omega)
    simp only [World.setCells]
    have e : (cs.set o v).take (o + 1) ++ r ++ (cs.set o v).drop (o + 1 + r.length) = cs.take o ++ (v :: r) ++ cs.drop (o + (v :: r).length) := by
      simp only [List.length_cons] at hl ⊢
      rw [List.take_set, List.drop_set_of_lt (by omega), show o + (r.length + 1) = o + 1 + r.length by omega]
      have e2 : (cs.take (o + 1)).set o v = cs.take o ++ [v] := by
        rw [List.take_succ_eq_append_getElem (by omega), List.set_append_right _ _ (by rw [List.length_take]; omega)]
        rw [List.length_take, Nat.min_eq_left (by omega), Nat.sub_self]
        rfl
      rw [e2]
      simp
    rw [e] at h2
    exact h2
theorem Below.setCells {B' : Nat} {a : World} (h : Below B' a w) {b : Nat} (hb : B' ≤ b) (o : Nat) (vs : List Value) : Below B' a (w.setCells b o vs) := by
  induction vs generalizing w o with
  | nil => exact h
  | cons v r ih => exact ih (h.setCell hb v) (o + 1)
theorem Blk.range (h : Blk w B t cs) (o n : Nat) : w.rangeAt B o ((cs.drop o).take n) := fun j v hv => by
  apply h.cell
  rw [List.getElem?_take] at hv
  split at hv
  · rwa [List.getElem?_drop] at hv
  · cases hv
theorem Blk.there (h : Blk w B t cs) (o n : Nat) (hl : o + n ≤ cs.length) : w.there B o n := fun j hj => ⟨h.there1 (by omega), h.frz _⟩
/-- A block as a slice. -/
theorem Blk.sl (h : Blk w B t cs) (o n : Nat) (hl : o + n ≤ cs.length) : Sl w 1 (Option.some ⟨B, o, none⟩) n ((cs.drop o).take n) := by
  refine ⟨by rw [List.length_take, List.length_drop]; omega, fun _ => ⟨_, rfl, h.lt, fun j u hu => ?_⟩⟩
  rw [Addr.add_mid]
  exact h.range o n j u hu
end


theorem Blk.new' (w : World) (B : Nat) (t : TypeId) (c : Array Value) (cs : List Value) (hB : w.heap.size = B) (h : c = cs.toArray) : Blk (w.alloc (.cells c t)) B t cs := by
  subst hB; exact Blk.new w t c cs h
theorem Blk.row {w : World} {B : Nat} {t : TypeId} {cs : List Value} (h : Blk w B t cs) (vs : List Value) : Blk (w.setRow B vs.toArray) B t vs := setRow_heap w B _ _ _ _ h
theorem Blk.row_other {w : World} {B : Nat} {t : TypeId} {cs : List Value} (h : Blk w B t cs) (g : Nat) (vs : Array Value) (hne : B ≠ g) : Blk (w.setRow g vs) B t cs := by
  unfold Blk; rw [setRow_other w g B vs hne]; exact h

theorem wpList_load_blk {P : Program} {ops : Array Oper} {rest : List Oper} {o : Oper} {a : Act} {w : World} {Q : Exit → Act → World → Prop} (hgd : o.guard = none) (ty : TypeId) (x : Operand) (ho : o.op = .load ty x)
    (g : Nat) (t : TypeId) (cs : List Value) (d : TypeDesc) (hx : a.eval x = .pointer (some ⟨g, 0, none⟩)) (hg : Blk w g t cs)
    (hu : P.underlying ty = some d) (hd : (match d with | .struct _ | .array _ _ => true | _ => false) = true) (hi : (P.info? ty).map (·.size) = some cs.length)
    (h : wpList P ops Q rest (a.put o.dst (.agg cs.toArray)) w) : wpList P ops Q (o :: rest) a w :=
  wpList_load_row hgd ty x ho g hx t cs.toArray (0, 0) d hg hu hd (by rw [List.size_toArray]; exact hi) h

theorem wpList_store_blk {P : Program} {ops : Array Oper} {rest : List Oper} {o : Oper} {a : Act} {w : World} {Q : Exit → Act → World → Prop} (hgd : o.guard = none) (ty : TypeId) (x y : Operand) (ho : o.op = .store ty x y)
    (g : Nat) (t : TypeId) (old cs : List Value) (hx : a.eval x = .pointer (some ⟨g, 0, none⟩)) (hy : a.eval y = .agg cs.toArray) (hg : Blk w g t old)
    (hi : (P.info? ty).map (·.size) = some cs.length) (hold : old.length = cs.length) (h1 : ∀ v ∈ cs, v.oneCell' = true)
    (h : wpList P ops Q rest (a.put o.dst undef) (w.setRow g cs.toArray)) : wpList P ops Q (o :: rest) a w :=
  wpList_store_row hgd ty x y ho g cs.toArray hx hy t old.toArray hg (by rw [List.size_toArray]; exact hi) (by simpa using hold) (all_oneCell_toArray h1) h

/-- w' is w, but for the block g. -/
def Only (g : Nat) (w w' : World) : Prop := w'.os = w.os ∧ w'.tape = w.tape ∧ w'.output = w.output ∧ w'.heap.size = w.heap.size ∧ ∀ k, k ≠ g → w'.heap[k]? = w.heap[k]?
theorem Only.row (w : World) (g : Nat) (cs : Array Value) : Only g w (w.setRow g cs) := ⟨rfl, rfl, rfl, by simp [World.setRow], fun k hk => setRow_other w g k cs hk⟩
theorem Blk.only {w w' : World} {B g : Nat} {t : TypeId} {cs : List Value} (h : Blk w B t cs) (ho : Only g w w') (hne : B ≠ g) : Blk w' B t cs := by
  unfold Blk; rw [ho.2.2.2.2 B hne]; exact h
theorem Below.only {a w w' : World} {B g : Nat} (h : Below B a w) (ho : Only g w w') (hg : B ≤ g) : Below B a w' :=
  h.trans ⟨ho.1, ho.2.1, ho.2.2.1, Nat.le_of_eq ho.2.2.2.1.symm, fun k hk => ho.2.2.2.2 k (by omega)⟩
theorem Only.size {w w' : World} {g : Nat} (ho : Only g w w') : w'.heap.size = w.heap.size := ho.2.2.2.1
theorem Only.set (w : World) (g j : Nat) (v : Value) : Only g w (w.setCell ⟨g, j, none⟩ v) := ⟨rfl, rfl, rfl, by simp, fun k hk => heap_setCell_other w ⟨g, j, none⟩ k v hk⟩
theorem Only.sets (w : World) (g o : Nat) (vs : List Value) : Only g w (w.setCells g o vs) := by
  induction vs generalizing w o with
  | nil => exact ⟨rfl, rfl, rfl, rfl, fun _ _ => rfl⟩
  | cons v r ih =>
    have h1 := Only.set w g o v
    have h2 := ih (w.setCell ⟨g, o, none⟩ v) (o + 1)
    exact ⟨h2.1.trans h1.1, h2.2.1.trans h1.2.1, h2.2.2.1.trans h1.2.2.1, h2.2.2.2.1.trans h1.2.2.2.1, fun k hk => (h2.2.2.2.2 k hk).trans (h1.2.2.2.2 k hk)⟩

theorem wpList_store_abs {P : Program} {ops : Array Oper} {rest : List Oper} {o : Oper} {a : Act} {w : World} {Q : Exit → Act → World → Prop} (hgd : o.guard = none) (ty : TypeId) (x y : Operand) (ho : o.op = .store ty x y)
    (g : Nat) (t : TypeId) (old cs : List Value) (hx : a.eval x = .pointer (some ⟨g, 0, none⟩)) (hy : a.eval y = .agg cs.toArray) (hg : Blk w g t old)
    (hi : (P.info? ty).map (·.size) = some cs.length) (hold : old.length = cs.length) (h1 : ∀ v ∈ cs, v.oneCell' = true)
    (h : ∀ w', Blk w' g t cs → Only g w w' → wpList P ops Q rest (a.put o.dst undef) w') : wpList P ops Q (o :: rest) a w :=
  wpList_store_blk hgd ty x y ho g t old cs hx hy hg hi hold h1 (h _ (hg.row cs) (Only.row _ _ _))

/-- A store of an array into the midst of a block. -/
theorem wpList_store_at {P : Program} {ops : Array Oper} {rest : List Oper} {o : Oper} {a : Act} {w : World} {Q : Exit → Act → World → Prop} (hgd : o.guard = none) (ty : TypeId) (x y : Operand) (ho : o.op = .store ty x y) (hdn : o.dst = none)
    (g off : Nat) (t : TypeId) (old cs : List Value) (hx : a.eval x = .pointer (some ⟨g, off, none⟩)) (hy : a.eval y = .agg cs.toArray) (hg : Blk w g t old)
    (hi : (P.info? ty).map (·.size) = some cs.length) (hold : off + cs.length ≤ old.length) (h1 : ∀ v ∈ cs, v.oneCell' = true)
    (h : ∀ w', Blk w' g t (old.take off ++ cs ++ old.drop (off + cs.length)) → Only g w w' → wpList P ops Q rest a w') : wpList P ops Q (o :: rest) a w := by
  refine wpList_store_mid hgd ty x y ho g off cs.toArray hx hy (hg.there off _ (by simpa using hold)) (by rw [List.size_toArray]; exact hi) (all_oneCell_toArray h1) ?_
  rw [hdn]
  exact h _ (hg.sets off cs hold) (Only.sets _ _ _ _)
/-- A load of an array out of the midst of a block. -/
theorem wpList_load_at {P : Program} {ops : Array Oper} {rest : List Oper} {o : Oper} {a : Act} {w : World} {Q : Exit → Act → World → Prop} (hgd : o.guard = none) (ty : TypeId) (x : Operand) (ho : o.op = .load ty x)
    (g off n : Nat) (t : TypeId) (all cs : List Value) (d : TypeDesc) (hx : a.eval x = .pointer (some ⟨g, off, none⟩)) (hg : Blk w g t all) (hcs : (all.drop off).take n = cs)
    (hu : P.underlying ty = some d) (hd : d.isRow = true) (hi : (P.info? ty).map (·.size) = some cs.length)
    (h : wpList P ops Q rest (a.put o.dst (.agg cs.toArray)) w) : wpList P ops Q (o :: rest) a w :=
  wpList_load_mid hgd ty x ho g off hx cs d (by rw [← hcs]; exact hg.range off n) hu hd hi h

theorem results_blk {P : Program} {fn : Func} {p : Tmp} {ty : TypeId} (h : fn.results = #[.cell p ty]) (tmps : Array Value) (w : World) (g : Nat) (t : TypeId) (cs : List Value) (d : TypeDesc)
    (hp : tmps.getD p undef = .pointer (some ⟨g, 0, none⟩)) (hg : Blk w g t cs)
    (hu : P.underlying ty = some d) (hd : (match d with | .struct _ | .array _ _ => true | _ => false) = true) (hi : (P.info? ty).map (·.size) = some cs.length) :
    (results fn tmps).run P w = .ok (.agg cs.toArray) w :=
  results_cell_row h tmps w g t cs.toArray (0, 0) d hp hg hu hd (by rw [List.size_toArray]; exact hi)

end Go.Proofs.Ytffgbbfcbobecaa
