/-
  PLAIN FACTS, OF NO PROGRAM: the encoding of integers in base 128, and of lists, as functions on lists of bytes; decoding what was encoded gives it back; what is decoded was encoded; a proper beginning is cut off.
-/
import Derived.Laws.BytesArg
import Derived.WalkKit
import Derived.WalkSpells
import Derived.WalkLawsBesides
import Derived.Maps.AppendAt
import Derived.Deep.AppendLies
import Derived.Deep.Draws
import Derived.Lib.Hide
import Derived.Laws.Rows
import Derived.Laws.IdiomCopy
import Derived.Deep.MidRow
import Derived.Deep.WholeRow
import Derived.Laws.Tables
import Derived.Laws.CopyOwn
namespace Go.Proofs.YtidhodalnikhlaaGreatDoor.Wm

abbrev Bs := List Int
set_option maxRecDepth 100000 in
def isBs (b : Bs) : Prop := ∀ x ∈ b, 0 ≤ x ∧ x < 256

set_option maxRecDepth 100000 in
def zig (n : Int) : Nat := if 0 ≤ n then (2 * n).toNat else (-2 * n - 1).toNat
set_option maxRecDepth 100000 in
def zag (z : Nat) : Int := if z % 2 = 1 then -1 - ((z / 2 : Nat) : Int) else ((z / 2 : Nat) : Int)

set_option maxRecDepth 100000 in
/-- THE ENCODING OF A NUMBER: base 128, the least first; every digit but the last bears 128. -/
def encN (z : Nat) : Bs := if h : z < 128 then [(z : Int)] else ((z % 128 + 128 : Nat) : Int) :: encN (z / 128)
termination_by z
decreasing_by omega

set_option maxRecDepth 100000 in
/-- HOW MANY BYTES OF AT LEAST 128 STAND AHEAD, at most f of them. -/
def lead : Nat → Bs → Nat
  | 0, _ => 0
  | _ + 1, [] => 0
  | f + 1, b :: r => if 128 ≤ b then lead f r + 1 else 0
set_option maxRecDepth 100000 in
/-- THE NUMBER THAT THE FIRST k BYTES GIVE. -/
def low : Nat → Bs → Nat
  | 0, _ => 0
  | _ + 1, [] => 0
  | k + 1, b :: r => (b % 128).toNat + 128 * low k r

set_option maxRecDepth 100000 in
/-- WHAT GetInt ANSWERS. -/
def decI (b : Bs) : Int × Nat × Int :=
  if lead 10 b = 10 then (0, 0, 11)
  else if lead 10 b = b.length then (0, 0, 10)
  else if (lead 10 b = 9 ∧ 1 < b.getD 9 0) ∨ (0 < lead 10 b ∧ b.getD (lead 10 b) 0 = 0) then (0, 0, 11)
  else (zag (low (lead 10 b + 1) b), lead 10 b + 1, 0)

set_option maxRecDepth 100000 in
def encI (n : Int) : Bs := encN (zig n)

end Go.Proofs.YtidhodalnikhlaaGreatDoor.Wm

/-
  WORDS FOR MEMORY, OF NO PROGRAM: a slice that reads as a list of values; a slice that the call owns; worlds that came later.
-/
namespace Go.Proofs.YtidhodalnikhlaaGreatDoor
open Go.RowKit

set_option maxRecDepth 100000 in
/-- Bytes as cells. -/
def U (b : Wm.Bs) : List Value := b.map (Value.int .u8)
set_option maxRecDepth 100000 in
theorem U_length (b : Wm.Bs) : (U b).length = b.length := by simp [U]
set_option maxRecDepth 100000 in
theorem U_append (a b : Wm.Bs) : U (a ++ b) = U a ++ U b := by simp [U]
set_option maxRecDepth 100000 in
theorem U_one (b : Wm.Bs) : ∀ u ∈ U b, u.oneCell' = true := by
  intro u hu
  obtain ⟨x, _, rfl⟩ := List.mem_map.1 hu
  rfl
set_option maxRecDepth 100000 in
theorem U_get (b : Wm.Bs) (j : Nat) (h : j < b.length) : (U b)[j]? = some (.int .u8 (b.getD j 0)) := by
  simp [U, h]

set_option maxRecDepth 100000 in
/-- Everything that was there is there. -/
abbrev Later (w w' : World) : Prop := Below w.heap.size w w'
set_option maxRecDepth 100000 in
theorem Later.trans_ {a b c : World} (h : Later a b) (k : Later b c) : Later a c := Below.trans h (k.mono h.size)

set_option maxRecDepth 100000 in
/-- THE SLICE OF n ELEMENTS AT A READS AS THE CELLS xs (size of them an element). -/
def Sl (w : World) (size : Nat) (A : Option Addr) (n : Nat) (xs : List Value) : Prop :=
  xs.length = n * size ∧ (0 < n → ∃ ad, A = some ad ∧ ad.block < w.heap.size ∧ ∀ j u, xs[j]? = some u → w.cell? (ad.add j) = some u)

set_option maxRecDepth 100000 in
theorem addr_add_block (a : Addr) (n : Nat) : (a.add n).block = a.block := by unfold Addr.add; split <;> rfl
set_option maxRecDepth 100000 in
theorem addr_add_add (a : Addr) (i j : Nat) : (a.add i).add j = a.add (i + j) := by
  unfold Addr.add
  by_cases hi : i = 0 <;> by_cases hj : j = 0 <;> simp [hi, hj, Nat.add_assoc]

section
variable {w w' : World} {size n : Nat} {A : Option Addr} {xs : List Value}
set_option maxRecDepth 100000 in
theorem Sl.nil (w : World) (size : Nat) (A : Option Addr) : Sl w size A 0 [] := ⟨by simp, fun h => absurd h (by omega)⟩
set_option maxRecDepth 100000 in
theorem Sl.later {B : Nat} (h : Sl w size A n xs) (hb : Below B w w') (hB : ∀ ad, A = some ad → ad.block < w.heap.size → ad.block < B) : Sl w' size A n xs :=
  ⟨h.1, fun hn => by
    obtain ⟨ad, e, hl, hc⟩ := h.2 hn
    refine ⟨ad, e, Nat.lt_of_lt_of_le hl hb.size, fun j u hu => ?_⟩
    rw [hb.cell (by rw [addr_add_block]; exact hB ad e hl)]
    exact hc j u hu⟩
set_option maxRecDepth 100000 in
theorem Sl.keep (h : Sl w size A n xs) (hb : Later w w') : Sl w' size A n xs := h.later hb fun _ _ hl => hl
set_option maxRecDepth 100000 in
theorem Sl.alloc (h : Sl w size A n xs) (o : Obj) : Sl (w.alloc o) size A n xs := h.keep ((Below.refl _ _).alloc (Nat.le_refl _) o)
set_option maxRecDepth 100000 in
theorem Sl.drew (h : Sl w size A n xs) : Sl w.drew size A n xs := h
set_option maxRecDepth 100000 in
theorem Sl.at1 {k : Nat} (h : Sl w 1 A n xs) (hk : k < n) : ∃ ad u, A = some ad ∧ ad.block < w.heap.size ∧ xs[k]? = some u ∧ w.cell? (ad.add k) = some u := by
  obtain ⟨ad, e, hb, hc⟩ := h.2 (by omega)
  have hl : k < xs.length := by rw [h.1]; omega
  exact ⟨ad, xs[k], e, hb, List.getElem?_eq_getElem hl, hc k _ (List.getElem?_eq_getElem hl)⟩
set_option maxRecDepth 100000 in
theorem Sl.cut (h : Sl w size A n xs) {k cap : Nat} (hk : k ≤ n) (hc : n ≤ cap) :
    Sl w size (if cap = k then A else A.map (·.add (k * size))) (n - k) (xs.drop (k * size)) := by
  refine ⟨by rw [List.length_drop, h.1, Nat.sub_mul], fun hn => ?_⟩
  obtain ⟨ad, rfl, hb, hcell⟩ := h.2 (by omega)
  rw [if_neg (by omega)]
  refine ⟨ad.add (k * size), rfl, by rw [addr_add_block]; exact hb, fun j u hu => ?_⟩
  rw [addr_add_add]
  exact hcell _ u (by rw [← hu, List.getElem?_drop])
set_option maxRecDepth 100000 in
theorem Sl.own {base : Nat} {e : TypeId} {c : Nat} (h : w.ownsRow base e size (.slice A n c) n xs) : Sl w size A n xs := by
  refine ⟨h.1, fun hn => ?_⟩
  obtain ⟨g, cap, hv, _, hlt⟩ := h.form hn
  have hA : A = some ⟨g, 0, none⟩ := by injection hv
  subst hA
  exact ⟨_, rfl, hlt, h.cells (g := g) rfl⟩
end

set_option maxRecDepth 100000 in
theorem own_below {w w' : World} {base : Nat} {e : TypeId} {size n : Nat} {v : Value} {xs : List Value} (h : w.ownsRow base e size v n xs) (hb : Later w w') : w'.ownsRow base e size v n xs :=
  h.kept (row := none) ⟨hb.os, hb.tape, hb.output, hb.size, fun k hk _ => hb.block k hk⟩ (by
    cases e : v.ownBlock with
    | none => exact .inl rfl
    | some g => exact .inr (by simp))

section
variable {w : World} {n : Nat} {A : Option Addr} {b : Wm.Bs}
end

set_option maxRecDepth 100000 in
theorem ret_int {k : IntKind} {a b : Int} (h : a = b) : Ending.returned (.int k a) = .returned (.int k b) := by rw [h]

end Go.Proofs.YtidhodalnikhlaaGreatDoor

/-
  WORDS FOR MEMORY, OF NO PROGRAM: a block that is known whole, and what a store makes of it.
-/
namespace Go.Proofs.YtidhodalnikhlaaGreatDoor
open Go.RowKit

set_option maxRecDepth 100000 in
/-- THE BLOCK B HOLDS THE CELLS cs, and may be written. -/
def Blk (w : World) (B : Nat) (t : TypeId) (cs : List Value) : Prop := w.heap[B]? = some (.cells cs.toArray t (0, 0))

section
variable {w w' : World} {B : Nat} {t : TypeId} {cs : List Value}
set_option maxRecDepth 100000 in
theorem Blk.new (w : World) (t : TypeId) (c : Array Value) (cs : List Value) (h : c = cs.toArray) : Blk (w.alloc (.cells c t)) w.heap.size t cs := by
  subst h; exact heap_alloc_new w _
set_option maxRecDepth 100000 in
theorem Blk.lt (h : Blk w B t cs) : B < w.heap.size := by
  rcases Nat.lt_or_ge B w.heap.size with h1 | h1
  · exact h1
  · unfold Blk at h; rw [Array.getElem?_eq_none h1] at h; cases h
set_option maxRecDepth 100000 in
theorem Blk.cell (h : Blk w B t cs) {j : Nat} {v : Value} (hj : cs[j]? = some v) : w.cell? ⟨B, j, none⟩ = some v := by
  unfold World.cell?
  rw [show w.heap[B]? = _ from h]
  simpa using hj
set_option maxRecDepth 100000 in
theorem Blk.there1 (h : Blk w B t cs) {j : Nat} (hj : j < cs.length) : (w.cell? ⟨B, j, none⟩).isSome = true := by
  rw [h.cell (List.getElem?_eq_getElem hj)]; rfl
set_option maxRecDepth 100000 in
theorem Blk.frz (h : Blk w B t cs) (j : Nat) : w.frozen? ⟨B, j, none⟩ = false := frozen_of_row w B j _ t h
set_option maxRecDepth 100000 in
theorem Blk.set (h : Blk w B t cs) (j : Nat) (v : Value) : Blk (w.setCell ⟨B, j, none⟩ v) B t (cs.set j v) := by
  have := heap_setCell_same w B j cs.toArray t v h
  unfold Blk
  rw [this]
  congr 2
  simp
set_option maxRecDepth 100000 in
theorem Blk.set_other (h : Blk w B t cs) (a : Addr) (v : Value) (hne : B ≠ a.block) : Blk (w.setCell a v) B t cs := by
  unfold Blk
  rw [heap_setCell_other w a B v hne]; exact h
set_option maxRecDepth 100000 in
theorem Blk.alloc (h : Blk w B t cs) (o : Obj) : Blk (w.alloc o) B t cs := by
  unfold Blk
  rw [Below.heap_alloc w o B h.lt]; exact h
set_option maxRecDepth 100000 in
theorem Blk.drew (h : Blk w B t cs) : Blk w.drew B t cs := h
set_option maxRecDepth 100000 in
theorem Blk.later {B' : Nat} (h : Blk w B t cs) (hb : Below B' w w') (hB : B < B') : Blk w' B t cs := by
  unfold Blk
  rw [hb.block B hB]; exact h
set_option maxRecDepth 100000 in
theorem Blk.keep (h : Blk w B t cs) (hb : Later w w') : Blk w' B t cs := h.later hb h.lt
set_option maxRecDepth 100000 in
theorem Blk.sets (h : Blk w B t cs) (o : Nat) (vs : List Value) (hl : o + vs.length ≤ cs.length) : Blk (w.setCells B o vs) B t (cs.take o ++ vs ++ cs.drop (o + vs.length)) := by
  induction vs generalizing w cs o with
  | nil => simpa [World.setCells] using h
  | cons v r ih =>
    have h1 := h.set o v
    have h2 := ih h1 (o + 1) (by simp at hl ⊢; omega)
    simp only [World.setCells]
    have e : (cs.set o v).take (o + 1) ++ r ++ (cs.set o v).drop (o + 1 + r.length) = cs.take o ++ (v :: r) ++ cs.drop (o + (v :: r).length) := by
      simp only [List.length_cons] at hl ⊢
      rw [List.take_set, List.drop_set_of_lt (by omega), show o + (r.length + 1) = o + 1 + r.length by omega]
      have e2 : (cs.take (o + 1)).set o v = cs.take o ++ [v] := by
        rw [List.take_succ_eq_append_getElem (by omega), List.set_append_right _ _ (by rw [List.length_take]; omega)]
        rw [List.length_take, Nat.min_eq_left (by omega), Nat.sub_self]
        rfl
      rw [e2]
      simp
    rw [e] at h2
    exact h2
set_option maxRecDepth 100000 in
theorem Below.setCells {B' : Nat} {a : World} (h : Below B' a w) {b : Nat} (hb : B' ≤ b) (o : Nat) (vs : List Value) : Below B' a (w.setCells b o vs) := by
  induction vs generalizing w o with
  | nil => exact h
  | cons v r ih => exact ih (h.setCell hb v) (o + 1)
set_option maxRecDepth 100000 in
theorem Blk.range (h : Blk w B t cs) (o n : Nat) : w.rangeAt B o ((cs.drop o).take n) := fun j v hv => by
  apply h.cell
  rw [List.getElem?_take] at hv
  split at hv
  · rwa [List.getElem?_drop] at hv
  · cases hv
set_option maxRecDepth 100000 in
theorem Blk.there (h : Blk w B t cs) (o n : Nat) (hl : o + n ≤ cs.length) : w.there B o n := fun j hj => ⟨h.there1 (by omega), h.frz _⟩
set_option maxRecDepth 100000 in
/-- A block as a slice. -/
theorem Blk.sl (h : Blk w B t cs) (o n : Nat) (hl : o + n ≤ cs.length) : Sl w 1 (Option.some ⟨B, o, none⟩) n ((cs.drop o).take n) := by
  refine ⟨by rw [List.length_take, List.length_drop]; omega, fun _ => ⟨_, rfl, h.lt, fun j u hu => ?_⟩⟩
  rw [Addr.add_mid]
  exact h.range o n j u hu
end

set_option maxRecDepth 100000 in
theorem Blk.new' (w : World) (B : Nat) (t : TypeId) (c : Array Value) (cs : List Value) (hB : w.heap.size = B) (h : c = cs.toArray) : Blk (w.alloc (.cells c t)) B t cs := by
  subst hB; exact Blk.new w t c cs h
set_option maxRecDepth 100000 in
theorem Blk.row {w : World} {B : Nat} {t : TypeId} {cs : List Value} (h : Blk w B t cs) (vs : List Value) : Blk (w.setRow B vs.toArray) B t vs := setRow_heap w B _ _ _ _ h
set_option maxRecDepth 100000 in
theorem wpList_load_blk {P : Program} {ops : Array Oper} {rest : List Oper} {o : Oper} {a : Act} {w : World} {Q : Exit → Act → World → Prop} (hgd : o.guard = none) (ty : TypeId) (x : Operand) (ho : o.op = .load ty x)
    (g : Nat) (t : TypeId) (cs : List Value) (d : TypeDesc) (hx : a.eval x = .pointer (some ⟨g, 0, none⟩)) (hg : Blk w g t cs)
    (hu : P.underlying ty = some d) (hd : (match d with | .struct _ | .array _ _ => true | _ => false) = true) (hi : (P.info? ty).map (·.size) = some cs.length)
    (h : wpList P ops Q rest (a.put o.dst (.agg cs.toArray)) w) : wpList P ops Q (o :: rest) a w :=
  wpList_load_row hgd ty x ho g hx t cs.toArray (0, 0) d hg hu hd (by rw [List.size_toArray]; exact hi) h

set_option maxRecDepth 100000 in
theorem wpList_store_blk {P : Program} {ops : Array Oper} {rest : List Oper} {o : Oper} {a : Act} {w : World} {Q : Exit → Act → World → Prop} (hgd : o.guard = none) (ty : TypeId) (x y : Operand) (ho : o.op = .store ty x y)
    (g : Nat) (t : TypeId) (old cs : List Value) (hx : a.eval x = .pointer (some ⟨g, 0, none⟩)) (hy : a.eval y = .agg cs.toArray) (hg : Blk w g t old)
    (hi : (P.info? ty).map (·.size) = some cs.length) (hold : old.length = cs.length) (h1 : ∀ v ∈ cs, v.oneCell' = true)
    (h : wpList P ops Q rest (a.put o.dst undef) (w.setRow g cs.toArray)) : wpList P ops Q (o :: rest) a w :=
  wpList_store_row hgd ty x y ho g cs.toArray hx hy t old.toArray hg (by rw [List.size_toArray]; exact hi) (by simpa using hold) (all_oneCell_toArray h1) h

set_option maxRecDepth 100000 in
/-- w' is w, but for the block g. -/
def Only (g : Nat) (w w' : World) : Prop := w'.os = w.os ∧ w'.tape = w.tape ∧ w'.output = w.output ∧ w'.heap.size = w.heap.size ∧ ∀ k, k ≠ g → w'.heap[k]? = w.heap[k]?
set_option maxRecDepth 100000 in
theorem Only.row (w : World) (g : Nat) (cs : Array Value) : Only g w (w.setRow g cs) := ⟨rfl, rfl, rfl, by simp [World.setRow], fun k hk => setRow_other w g k cs hk⟩
set_option maxRecDepth 100000 in
theorem Blk.only {w w' : World} {B g : Nat} {t : TypeId} {cs : List Value} (h : Blk w B t cs) (ho : Only g w w') (hne : B ≠ g) : Blk w' B t cs := by
  unfold Blk; rw [ho.2.2.2.2 B hne]; exact h
set_option maxRecDepth 100000 in
theorem Below.only {a w w' : World} {B g : Nat} (h : Below B a w) (ho : Only g w w') (hg : B ≤ g) : Below B a w' :=
  h.trans ⟨ho.1, ho.2.1, ho.2.2.1, Nat.le_of_eq ho.2.2.2.1.symm, fun k hk => ho.2.2.2.2 k (by omega)⟩
set_option maxRecDepth 100000 in
theorem Only.size {w w' : World} {g : Nat} (ho : Only g w w') : w'.heap.size = w.heap.size := ho.2.2.2.1
set_option maxRecDepth 100000 in
theorem Only.set (w : World) (g j : Nat) (v : Value) : Only g w (w.setCell ⟨g, j, none⟩ v) := ⟨rfl, rfl, rfl, by simp, fun k hk => heap_setCell_other w ⟨g, j, none⟩ k v hk⟩
set_option maxRecDepth 100000 in
theorem Only.sets (w : World) (g o : Nat) (vs : List Value) : Only g w (w.setCells g o vs) := by
  induction vs generalizing w o with
  | nil => exact ⟨rfl, rfl, rfl, rfl, fun _ _ => rfl⟩
  | cons v r ih =>
    have h1 := Only.set w g o v
    have h2 := ih (w.setCell ⟨g, o, none⟩ v) (o + 1)
    exact ⟨h2.1.trans h1.1, h2.2.1.trans h1.2.1, h2.2.2.1.trans h1.2.2.1, h2.2.2.2.1.trans h1.2.2.2.1, fun k hk => (h2.2.2.2.2 k hk).trans (h1.2.2.2.2 k hk)⟩

set_option maxRecDepth 100000 in
theorem wpList_store_abs {P : Program} {ops : Array Oper} {rest : List Oper} {o : Oper} {a : Act} {w : World} {Q : Exit → Act → World → Prop} (hgd : o.guard = none) (ty : TypeId) (x y : Operand) (ho : o.op = .store ty x y)
    (g : Nat) (t : TypeId) (old cs : List Value) (hx : a.eval x = .pointer (some ⟨g, 0, none⟩)) (hy : a.eval y = .agg cs.toArray) (hg : Blk w g t old)
    (hi : (P.info? ty).map (·.size) = some cs.length) (hold : old.length = cs.length) (h1 : ∀ v ∈ cs, v.oneCell' = true)
    (h : ∀ w', Blk w' g t cs → Only g w w' → wpList P ops Q rest (a.put o.dst undef) w') : wpList P ops Q (o :: rest) a w :=
  wpList_store_blk hgd ty x y ho g t old cs hx hy hg hi hold h1 (h _ (hg.row cs) (Only.row _ _ _))

set_option maxRecDepth 100000 in
/-- A store of an array into the midst of a block. -/
theorem wpList_store_at {P : Program} {ops : Array Oper} {rest : List Oper} {o : Oper} {a : Act} {w : World} {Q : Exit → Act → World → Prop} (hgd : o.guard = none) (ty : TypeId) (x y : Operand) (ho : o.op = .store ty x y) (hdn : o.dst = none)
    (g off : Nat) (t : TypeId) (old cs : List Value) (hx : a.eval x = .pointer (some ⟨g, off, none⟩)) (hy : a.eval y = .agg cs.toArray) (hg : Blk w g t old)
    (hi : (P.info? ty).map (·.size) = some cs.length) (hold : off + cs.length ≤ old.length) (h1 : ∀ v ∈ cs, v.oneCell' = true)
    (h : ∀ w', Blk w' g t (old.take off ++ cs ++ old.drop (off + cs.length)) → Only g w w' → wpList P ops Q rest a w') : wpList P ops Q (o :: rest) a w := by
  refine wpList_store_mid hgd ty x y ho g off cs.toArray hx hy (hg.there off _ (by simpa using hold)) (by rw [List.size_toArray]; exact hi) (all_oneCell_toArray h1) ?_
  rw [hdn]
  exact h _ (hg.sets off cs hold) (Only.sets _ _ _ _)
set_option maxRecDepth 100000 in
/-- A load of an array out of the midst of a block. -/
theorem wpList_load_at {P : Program} {ops : Array Oper} {rest : List Oper} {o : Oper} {a : Act} {w : World} {Q : Exit → Act → World → Prop} (hgd : o.guard = none) (ty : TypeId) (x : Operand) (ho : o.op = .load ty x)
    (g off n : Nat) (t : TypeId) (all cs : List Value) (d : TypeDesc) (hx : a.eval x = .pointer (some ⟨g, off, none⟩)) (hg : Blk w g t all) (hcs : (all.drop off).take n = cs)
    (hu : P.underlying ty = some d) (hd : d.isRow = true) (hi : (P.info? ty).map (·.size) = some cs.length)
    (h : wpList P ops Q rest (a.put o.dst (.agg cs.toArray)) w) : wpList P ops Q (o :: rest) a w :=
  wpList_load_mid hgd ty x ho g off hx cs d (by rw [← hcs]; exact hg.range off n) hu hd hi h

set_option maxRecDepth 100000 in
theorem results_blk {P : Program} {fn : Func} {p : Tmp} {ty : TypeId} (h : fn.results = #[.cell p ty]) (tmps : Array Value) (w : World) (g : Nat) (t : TypeId) (cs : List Value) (d : TypeDesc)
    (hp : tmps.getD p undef = .pointer (some ⟨g, 0, none⟩)) (hg : Blk w g t cs)
    (hu : P.underlying ty = some d) (hd : (match d with | .struct _ | .array _ _ => true | _ => false) = true) (hi : (P.info? ty).map (·.size) = some cs.length) :
    (results fn tmps).run P w = .ok (.agg cs.toArray) w :=
  results_cell_row h tmps w g t cs.toArray (0, 0) d hp hg hu hd (by rw [List.size_toArray]; exact hi)

end Go.Proofs.YtidhodalnikhlaaGreatDoor

/-
  PLAIN FACTS, OF NO PROGRAM: lengths, byte strings and lists in the canonical encoding.
-/
namespace Go.Proofs.YtidhodalnikhlaaGreatDoor.Wm

set_option maxRecDepth 100000 in
/-- A LENGTH of elements of at least so many bytes each. -/
def decLen (b : Bs) (least : Nat) : Int × Nat × Int :=
  if (decI b).2.2 ≠ 0 then (0, 0, (decI b).2.2)
  else if (decI b).1 < 0 then (0, 0, 11)
  else if (((b.length - (decI b).2.1) / least : Nat) : Int) < (decI b).1 then (0, 0, 10)
  else ((decI b).1, (decI b).2.1, 0)

set_option maxRecDepth 100000 in
/-- A byte string. -/
def encB (s : Bs) : Bs := encI s.length ++ s
set_option maxRecDepth 100000 in
def decB (b : Bs) : Bs × Nat × Int :=
  if (decLen b 1).2.2 ≠ 0 then ([], 0, (decLen b 1).2.2)
  else ((b.drop (decLen b 1).2.1).take (decLen b 1).1.toNat, (decLen b 1).2.1 + (decLen b 1).1.toNat, 0)

set_option maxRecDepth 100000 in
/-- A string's bytes. -/
def ofS (s : ByteArray) : Bs := s.data.toList.map fun b => (b.toNat : Int)
set_option maxRecDepth 100000 in
/-- A list. -/
def encL {α : Type} (enc : α → Bs) (l : List α) : Bs := encI l.length ++ l.flatMap enc

set_option maxRecDepth 100000 in
/-- n ELEMENTS, one after the other. -/
def decE {α : Type} (get : Bs → α × Nat × Int) : Nat → Bs → List α × Nat × Int
  | 0, _ => ([], 0, 0)
  | n + 1, b =>
    if (get b).2.2 ≠ 0 then ([], 0, (get b).2.2)
    else if (decE get n (b.drop (get b).2.1)).2.2 ≠ 0 then ([], 0, (decE get n (b.drop (get b).2.1)).2.2)
    else ((get b).1 :: (decE get n (b.drop (get b).2.1)).1, (get b).2.1 + (decE get n (b.drop (get b).2.1)).2.1, 0)
set_option maxRecDepth 100000 in
def decL {α : Type} (get : Bs → α × Nat × Int) (least : Nat) (b : Bs) : List α × Nat × Int :=
  if (decLen b least).2.2 ≠ 0 then ([], 0, (decLen b least).2.2)
  else if (decE get (decLen b least).1.toNat (b.drop (decLen b least).2.1)).2.2 ≠ 0 then ([], 0, (decE get (decLen b least).1.toNat (b.drop (decLen b least).2.1)).2.2)
  else ((decE get (decLen b least).1.toNat (b.drop (decLen b least).2.1)).1, (decLen b least).2.1 + (decE get (decLen b least).1.toNat (b.drop (decLen b least).2.1)).2.1, 0)

set_option maxRecDepth 100000 in
/-- HOW FAR A DECODER OF A LIST HAS COME: i of m elements, acc, at the place p; what it will answer. -/
def Going {α : Type} (get : Bs → α × Nat × Int) (b : Bs) (m i : Nat) (acc : List α) (p : Nat) (fin : List α × Nat × Int) : Prop :=
  fin = if (decE get (m - i) (b.drop p)).2.2 ≠ 0 then ([], 0, (decE get (m - i) (b.drop p)).2.2) else (acc ++ (decE get (m - i) (b.drop p)).1, p + (decE get (m - i) (b.drop p)).2.1, 0)

section
variable {α : Type} {get : Bs → α × Nat × Int} {b : Bs} {m i : Nat} {acc : List α} {p : Nat} {fin : List α × Nat × Int}
set_option maxRecDepth 100000 in
theorem Going.start {least u : Nat} (h : decLen b least = ((m : Int), u, 0)) : Going get b m 0 [] u (decL get least b) := by
  unfold Going decL
  rw [h]
  simp
set_option maxRecDepth 100000 in
theorem Going.next {x : α} {k : Nat} (h : Going get b m i acc p fin) (hi : i < m) (hg : get (b.drop p) = (x, k, 0)) : Going get b m (i + 1) (acc ++ [x]) (p + k) fin := by
  unfold Going at h ⊢
  have hj : m - i = (m - (i + 1)) + 1 := by omega
  rw [h, hj]
  generalize m - (i + 1) = j
  rw [decE]
  rw [hg]
  simp only [List.drop_drop]
  simp only [ne_eq, not_true_eq_false, if_false, List.append_assoc, List.singleton_append]
  by_cases h0 : (decE get j (b.drop (p + k))).2.2 = 0
  · simp [h0, Nat.add_assoc]
  · simp [h0]
end

end Go.Proofs.YtidhodalnikhlaaGreatDoor.Wm

/-
  PLAIN MATHEMATICS: bytes of a memory, numbers of bytes, what a store changes; of no program.
-/
namespace Go.Proofs.YtidhodalnikhlaaGreatDoor
namespace Mm
open Wm (Bs isBs)

set_option maxRecDepth 100000 in
/-- The number that bytes have, the least one first. -/
def le : Bs → Int | [] => 0 | b :: r => b + 256 * le r
set_option maxRecDepth 100000 in
/-- The lowest bytes of a number, the least one first. -/
def el : Nat → Int → Bs | 0, _ => [] | k + 1, v => (v % 256) :: el k (v / 256)
set_option maxRecDepth 100000 in
theorem el_len (k : Nat) : ∀ v, (el k v).length = k := by induction k with | zero => intro v; rfl | succ k ih => intro v; simp [el, ih]
set_option maxRecDepth 100000 in
theorem el_bs (k : Nat) : ∀ v, isBs (el k v) := by
  induction k with
  | zero => intro v x hx; cases hx
  | succ k ih =>
    intro v x hx
    rcases List.mem_cons.1 hx with rfl | h
    · omega
    · exact ih _ x h
set_option maxRecDepth 100000 in
theorem el_get (k : Nat) : ∀ v i, i < k → (el k v)[i]? = some (v / 256 ^ i % 256) := by
  induction k with
  | zero => intro v i h; omega
  | succ k ih =>
    intro v i h
    cases i with
    | zero => simp [el]
    | succ i => rw [el, List.getElem?_cons_succ, ih _ _ (by omega), Int.pow_succ, Int.mul_comm, Int.ediv_ediv_of_nonneg (by omega : (0 : Int) ≤ 256)]
set_option maxRecDepth 100000 in
theorem le_nn {b : Bs} (h : isBs b) : 0 ≤ le b := by
  induction b with
  | nil => exact Int.le_refl _
  | cons x r ih =>
    have h1 := h x List.mem_cons_self
    have h2 := ih fun y hy => h y (List.mem_cons_of_mem _ hy)
    show 0 ≤ x + 256 * le r
    omega
set_option maxRecDepth 100000 in
theorem le_lt {b : Bs} (h : isBs b) : le b < 256 ^ b.length := by
  induction b with
  | nil => decide
  | cons x r ih =>
    have h1 := h x List.mem_cons_self
    have h2 := ih fun y hy => h y (List.mem_cons_of_mem _ hy)
    show x + 256 * le r < 256 ^ (r.length + 1)
    rw [Int.pow_succ]
    omega
set_option maxRecDepth 100000 in
theorem emod_split (v M : Int) (hM : 0 < M) : v % (256 * M) = v % 256 + 256 * (v / 256 % M) := by
  have h1 := Int.emod_add_mul_ediv v 256
  have h2 := Int.emod_add_mul_ediv (v / 256) M
  have l0 := Int.emod_nonneg (v / 256) (Int.ne_of_gt hM)
  have l1 := Int.emod_lt_of_pos (v / 256) hM
  have m0 := Int.emod_nonneg v (by omega : (256 : Int) ≠ 0)
  have m1 := Int.emod_lt_of_pos v (by omega : (0 : Int) < 256)
  have e : v = (v % 256 + 256 * (v / 256 % M)) + (256 * M) * (v / 256 / M) := by
    rw [Int.mul_assoc]
    generalize M * (v / 256 / M) = X at *
    generalize v / 256 % M = R at *
    omega
  refine (congrArg (· % (256 * M)) e).trans ?_
  refine (Int.add_mul_emod_self_left _ _ _).trans (Int.emod_eq_of_lt (by omega) ?_)
  generalize v / 256 % M = R at *
  omega
set_option maxRecDepth 100000 in
theorem le_el (k : Nat) : ∀ v, le (el k v) = v % 256 ^ k := by
  induction k with
  | zero => intro v; show (0 : Int) = v % 1; omega
  | succ k ih =>
    intro v
    show v % 256 + 256 * le (el k (v / 256)) = _
    rw [ih, Int.pow_succ, Int.mul_comm (256 ^ k) 256]
    rw [emod_split v _ (Int.pow_pos (by omega))]
set_option maxRecDepth 100000 in
/-- Bytes laid over others from a place on. -/
def put (m : Bs) (o : Nat) (d : Bs) : Bs := m.take o ++ d ++ m.drop (o + d.length)
set_option maxRecDepth 100000 in
theorem put_len {m : Bs} {o : Nat} {d : Bs} (h : o + d.length ≤ m.length) : (put m o d).length = m.length := by
  unfold put; simp; omega
set_option maxRecDepth 100000 in
theorem put_bs {m : Bs} {o : Nat} {d : Bs} (hm : isBs m) (hd : isBs d) : isBs (put m o d) := by
  intro x hx
  unfold put at hx
  rcases List.mem_append.1 hx with h | h
  · rcases List.mem_append.1 h with h | h
    · exact hm x (List.mem_of_mem_take h)
    · exact hd x h
  · exact hm x (List.mem_of_mem_drop h)
set_option maxRecDepth 100000 in
theorem put_get {m : Bs} {o : Nat} {d : Bs} (h : o + d.length ≤ m.length) (i : Nat) : (put m o d)[i]? = if i < o then m[i]? else if i < o + d.length then d[i - o]? else m[i]? := by
  unfold put
  have h1 : (m.take o).length = o := by rw [List.length_take]; omega
  rw [List.append_assoc]
  by_cases a : i < o
  · rw [if_pos a, List.getElem?_append_left (by omega), List.getElem?_take, if_pos a]
  · rw [if_neg a, List.getElem?_append_right (by omega), h1]
    by_cases b : i < o + d.length
    · rw [if_pos b, List.getElem?_append_left (by omega)]
    · rw [if_neg b, List.getElem?_append_right (by omega), List.getElem?_drop]
      congr 1
      omega
set_option maxRecDepth 100000 in
theorem put_nil (m : Bs) (o : Nat) : put m o [] = m := by unfold put; simp
set_option maxRecDepth 100000 in
theorem put_app (m : Bs) (o : Nat) (d e : Bs) (h : o + (d.length + e.length) ≤ m.length) : put (put m o d) (o + d.length) e = put m o (d ++ e) := by
  have hl : (put m o d).length = m.length := put_len (by omega)
  apply List.ext_getElem?
  intro i
  rw [put_get (by omega), put_get (by omega), put_get (by simp; omega)]
  simp only [List.length_append]
  by_cases a : i < o
  · rw [if_pos a, if_pos a, if_pos (by omega)]
  · rw [if_neg a, if_neg a]
    by_cases b : i < o + d.length
    · rw [if_pos b, if_pos b, if_pos (by omega), List.getElem?_append_left (by omega)]
    · rw [if_neg b, if_neg b]
      by_cases c : i < o + d.length + e.length
      · rw [if_pos c, if_pos (by omega), List.getElem?_append_right (by omega)]
        congr 1
        omega
      · rw [if_neg c, if_neg (by omega)]
set_option maxRecDepth 100000 in
theorem put_same {m : Bs} {o : Nat} {d : Bs} (h : o + d.length ≤ m.length) : ((put m o d).drop o).take d.length = d := by
  apply List.ext_getElem?
  intro i
  rw [List.getElem?_take]
  by_cases a : i < d.length
  · rw [if_pos a, List.getElem?_drop, put_get h, if_neg (by omega), if_pos (by omega)]
    congr 1
    omega
  · rw [if_neg a, List.getElem?_eq_none (by omega)]
set_option maxRecDepth 100000 in
theorem put_set (m : Bs) (o : Nat) (x : Int) (h : o < m.length) : put m o [x] = m.set o x := by
  apply List.ext_getElem?
  intro i
  rw [put_get (by simp; omega), List.getElem?_set]
  simp only [List.length_singleton]
  by_cases a : i < o
  · rw [if_pos a, if_neg (by omega)]
  · rw [if_neg a]
    by_cases b : i = o
    · subst b; rw [if_pos (by omega), if_pos rfl, if_pos h]; simp
    · rw [if_neg (by omega), if_neg (by omega)]
set_option maxRecDepth 100000 in
/-- Whether a place is there, in a memory of L bytes. -/
def There (L : Nat) (a s : Int) : Prop := (s = 1 ∨ s = 4 ∧ a % 4 = 0) ∧ 0 ≤ a ∧ s ≤ (L : Int) - a
instance (L : Nat) (a s : Int) : Decidable (There L a s) := by unfold There; exact inferInstance
set_option maxRecDepth 100000 in
/-- Whether n bytes are all inside. -/
def Inside (L : Nat) (a n : Int) : Prop := 0 ≤ a ∧ 0 ≤ n ∧ n ≤ (L : Int) - a
instance (L : Nat) (a n : Int) : Decidable (Inside L a n) := by unfold Inside; exact inferInstance
set_option maxRecDepth 100000 in
/-- What is loaded. -/
def ld (m : Bs) (a s : Int) : Int := if There m.length a s then le ((m.drop a.toNat).take s.toNat) else 0
set_option maxRecDepth 100000 in
/-- What a store makes. -/
def st (m : Bs) (a s v : Int) : Bs := if There m.length a s then put m a.toNat (el s.toNat v) else m
set_option maxRecDepth 100000 in
/-- Stores, one after the other. -/
def ap : Bs → List (Int × Int × Int) → Option Bs
  | m, [] => some m
  | m, w :: r => if There m.length w.1 w.2.1 then ap (put m w.1.toNat (el w.2.1.toNat w.2.2)) r else none
set_option maxRecDepth 100000 in
theorem ap_cons (m : Bs) (w : Int × Int × Int) (r : List (Int × Int × Int)) : ap m (w :: r) = if There m.length w.1 w.2.1 then ap (put m w.1.toNat (el w.2.1.toNat w.2.2)) r else none := rfl
set_option maxRecDepth 100000 in
theorem ap_ok : ∀ (l : List (Int × Int × Int)) {m x : Bs}, isBs m → ap m l = some x → x.length = m.length ∧ isBs x := by
  intro l
  induction l with
  | nil => intro m x hm h; obtain rfl : m = x := by injection h
           exact ⟨rfl, hm⟩
  | cons w r ih =>
    intro m x hm h
    rw [ap_cons] at h
    split at h
    · rename_i ht
      obtain ⟨h1, h2, h3⟩ := ht
      have := ih (put_bs hm (el_bs _ _)) h
      exact ⟨this.1.trans (put_len (by rw [el_len]; omega)), this.2⟩
    · cases h
set_option maxRecDepth 100000 in
theorem ap_snoc : ∀ (l : List (Int × Int × Int)) (w : Int × Int × Int) (m : Bs), ap m (l ++ [w]) = (ap m l).bind fun x => if There x.length w.1 w.2.1 then some (put x w.1.toNat (el w.2.1.toNat w.2.2)) else none := by
  intro l
  induction l with
  | nil => intro w m; rfl
  | cons u r ih =>
    intro w m
    rw [List.cons_append, ap_cons, ap_cons]
    split
    · exact ih w _
    · rfl
set_option maxRecDepth 100000 in
theorem ap_app : ∀ (l r : List (Int × Int × Int)) (m : Bs), ap m (l ++ r) = (ap m l).bind fun x => ap x r := by
  intro l
  induction l with
  | nil => intro r m; rfl
  | cons u t ih =>
    intro r m
    rw [List.cons_append, ap_cons, ap_cons]
    split
    · exact ih r _
    · rfl

set_option maxRecDepth 100000 in
/-- What Write makes. -/
def wr (m : Bs) (a : Int) (d : Bs) : Bs := if Inside m.length a d.length then put m a.toNat d else m
set_option maxRecDepth 100000 in
/-- What Read gives. -/
def rd (m : Bs) (a n : Int) : Bs := if Inside m.length a n then (m.drop a.toNat).take n.toNat else []

set_option maxRecDepth 100000 in
/-- A page. -/
def pg (m : Bs) (i : Nat) : Bs := (m.drop (i * 128)).take 128
set_option maxRecDepth 100000 in
/-- Whether two memories differ at a page. -/
def dif (a b : Bs) (na nb i : Nat) : Bool := decide (na ≤ i) || decide (nb ≤ i) || !decide (pg a i = pg b i)
set_option maxRecDepth 100000 in
/-- The pages that differ. -/
def diff (a b : Bs) (na nb : Nat) : List Nat := (List.range (max na nb)).filter (dif a b na nb)
set_option maxRecDepth 100000 in
def diffTo (a b : Bs) (na nb k : Nat) : List Nat := (List.range k).filter (dif a b na nb)
end Mm
end Go.Proofs.YtidhodalnikhlaaGreatDoor

/-
  PLAIN MATHEMATICS: the bits of an entry of a page table, as the program's operations on words make and ask them.
-/
namespace Go.Proofs.YtidhodalnikhlaaGreatDoor
open Go.RowKit

set_option maxRecDepth 100000 in
theorem and32 (x m : Nat) (hx : x < 4294967296) (hm : m < 4294967296) : bits .and .u32 (x : Int) (m : Int) = ((x &&& m : Nat) : Int) := by
  show IntKind.u32.wrap ((BitVec.ofInt 32 (x : Int) &&& BitVec.ofInt 32 (m : Int)).toNat : Int) = _
  rw [BitVec.ofInt_natCast, BitVec.ofInt_natCast, BitVec.toNat_and, BitVec.toNat_ofNat, BitVec.toNat_ofNat, Nat.mod_eq_of_lt hx, Nat.mod_eq_of_lt hm, IntKind.wrap_u32]
  have : x &&& m ≤ x := Nat.and_le_left
  omega
set_option maxRecDepth 100000 in
theorem or32 (x m : Nat) (hx : x < 4294967296) (hm : m < 4294967296) : bits .or .u32 (x : Int) (m : Int) = ((x ||| m : Nat) : Int) := by
  show IntKind.u32.wrap ((BitVec.ofInt 32 (x : Int) ||| BitVec.ofInt 32 (m : Int)).toNat : Int) = _
  rw [BitVec.ofInt_natCast, BitVec.ofInt_natCast, BitVec.toNat_or, BitVec.toNat_ofNat, BitVec.toNat_ofNat, Nat.mod_eq_of_lt hx, Nat.mod_eq_of_lt hm, IntKind.wrap_u32]
  have : x ||| m < 2 ^ 32 := Nat.or_lt_two_pow hx hm
  omega
set_option maxRecDepth 100000 in
theorem and_two_pow (x k : Nat) : x &&& 2 ^ k = if x / 2 ^ k % 2 = 1 then 2 ^ k else 0 := by
  refine Nat.eq_of_testBit_eq fun i => ?_
  rw [Nat.testBit_and, Nat.testBit_two_pow]
  by_cases hi : k = i
  · subst hi
    rw [Nat.testBit_eq_decide_div_mod_eq]
    by_cases h : x / 2 ^ k % 2 = 1
    · rw [if_pos h, Nat.testBit_two_pow]
      simp [h]
    · rw [if_neg h, Nat.zero_testBit]
      simp [h]
  · split
    · rw [Nat.testBit_two_pow]
      simp [hi]
    · rw [Nat.zero_testBit]
      simp [hi]
set_option maxRecDepth 100000 in
theorem and_pow (x k : Nat) (hx : x < 4294967296) (hk : k < 32) : bits .and .u32 (x : Int) ((2 ^ k : Nat) : Int) = if x / 2 ^ k % 2 = 1 then ((2 ^ k : Nat) : Int) else 0 := by
  have h2 : 2 ^ k < 4294967296 := Nat.lt_of_lt_of_le (Nat.pow_lt_pow_right (by omega) hk) (Nat.le_refl _)
  rw [and32 x _ hx h2, and_two_pow]
  split <;> rfl
set_option maxRecDepth 100000 in
theorem and_low (x m : Nat) (hm : m < 128) : x &&& m = x % 128 &&& m := by
  have h := Nat.and_mod_two_pow (a := x) (b := m) (n := 7)
  rw [show (2 : Nat) ^ 7 = 128 from rfl, Nat.mod_eq_of_lt hm] at h
  rw [← h]
  exact (Nat.mod_eq_of_lt (Nat.lt_of_le_of_lt Nat.and_le_right hm)).symm
set_option maxRecDepth 100000 in
theorem or_low (x m : Nat) (hm : m < 128) : x ||| m = x / 128 * 128 + (x % 128 ||| m) := by
  have h := Nat.or_mod_two_pow (a := x) (b := m) (n := 7)
  have h2 := Nat.or_div_two_pow (a := x) (b := m) (n := 7)
  rw [show (2 : Nat) ^ 7 = 128 from rfl] at h h2
  rw [Nat.mod_eq_of_lt hm] at h
  rw [Nat.div_eq_of_lt hm, Nat.or_zero] at h2
  omega
set_option maxRecDepth 100000 in
theorem low62 (r : Nat) (h : r < 128) : (r &&& 62 = 0) ↔ r / 2 % 32 = 0 := by
  have : ∀ r : Fin 128, (r.1 &&& 62 = 0) ↔ r.1 / 2 % 32 = 0 := by decide +kernel
  exact this ⟨r, h⟩
set_option maxRecDepth 100000 in
theorem or16 (r : Nat) (h : r < 128) : (r ||| 16) = if r / 16 % 2 = 1 then r else r + 16 := by
  have : ∀ r : Fin 128, (r.1 ||| 16) = if r.1 / 16 % 2 = 1 then r.1 else r.1 + 16 := by decide +kernel
  exact this ⟨r, h⟩
set_option maxRecDepth 100000 in
theorem or32_ (r : Nat) (h : r < 128) : (r ||| 32) = if r / 32 % 2 = 1 then r else r + 32 := by
  have : ∀ r : Fin 128, (r.1 ||| 32) = if r.1 / 32 % 2 = 1 then r.1 else r.1 + 32 := by decide +kernel
  exact this ⟨r, h⟩

namespace Tm
open Wm (Bs isBs)
set_option maxRecDepth 100000 in
/-- Whether an entry has a bit. -/
def has (e b : Int) : Bool := decide (e / b % 2 = 1)
set_option maxRecDepth 100000 in
/-- The address of an entry. -/
def adr (e : Int) : Int := e / 128 * 128
set_option maxRecDepth 100000 in
def isE (e : Int) : Prop := 0 ≤ e ∧ e < 4294967296
end Tm
set_option maxRecDepth 100000 in
theorem has_bits {e : Int} (h : Tm.isE e) (k : Nat) (M : Int) (hM : M = ((2 ^ k : Nat) : Int)) (hk : k < 32) : (!(bits .and .u32 e M == 0)) = Tm.has e M := by
  obtain ⟨x, rfl⟩ := Int.eq_ofNat_of_zero_le h.1
  have hx : x < 4294967296 := by have := h.2; omega
  subst hM
  rw [and_pow x k hx hk]
  have hp : 0 < 2 ^ k := Nat.two_pow_pos k
  have hq : ((x : Int) / ((2 ^ k : Nat) : Int) % 2 = 1) ↔ (x / 2 ^ k % 2 = 1) := by
    generalize 2 ^ k = D at hp
    constructor <;> intro h <;> (have := Int.natCast_ediv x D; omega)
  unfold Tm.has
  by_cases hb : x / 2 ^ k % 2 = 1
  · rw [if_pos hb, decide_eq_true (hq.2 hb)]
    generalize 2 ^ k = D at hp
    have : (((D : Nat) : Int) == 0) = false := by rw [beq_eq_false_iff_ne]; omega
    rw [this]
    rfl
  · rw [if_neg hb, decide_eq_false (fun h => hb (hq.1 h))]
    rfl
set_option maxRecDepth 100000 in
theorem has62 {e : Int} (h : Tm.isE e) : (!(bits .and .u32 e 62 == 0)) = !decide (e / 2 % 32 = 0) := by
  obtain ⟨x, rfl⟩ := Int.eq_ofNat_of_zero_le h.1
  have hx : x < 4294967296 := by have := h.2; omega
  rw [show (62 : Int) = ((62 : Nat) : Int) from rfl, and32 x 62 hx (by omega), and_low x 62 (by omega)]
  have hr := low62 (x % 128) (by omega)
  congr 1
  rw [Bool.eq_iff_iff]
  simp only [beq_iff_eq, decide_eq_true_eq]
  constructor
  · intro h
    have := hr.1 (by exact_mod_cast h)
    omega
  · intro h
    have := hr.2 (by omega)
    exact_mod_cast this
set_option maxRecDepth 100000 in
theorem andn127 {e : Int} (h : Tm.isE e) : bits .andNot .u32 e 127 = Tm.adr e := by
  obtain ⟨x, rfl⟩ := Int.eq_ofNat_of_zero_le h.1
  have hx : x < 4294967296 := by have := h.2; omega
  show IntKind.u32.wrap ((BitVec.ofInt 32 (x : Int) &&& ~~~ BitVec.ofInt 32 (127 : Int)).toNat : Int) = _
  have e1 : BitVec.ofInt 32 (x : Int) &&& ~~~ BitVec.ofInt 32 (127 : Int) = (BitVec.ofNat 32 x >>> 7) <<< 7 := by
    rw [BitVec.ofInt_natCast]
    refine BitVec.eq_of_getLsbD_eq fun i hi => ?_
    rw [BitVec.getLsbD_and, BitVec.getLsbD_shiftLeft, BitVec.getLsbD_ushiftRight]
    have hm : (~~~ BitVec.ofInt 32 (127 : Int)).getLsbD i = !decide (i < 7) := by
      have : ∀ j : Fin 32, (~~~ BitVec.ofInt 32 (127 : Int)).getLsbD j.1 = !decide (j.1 < 7) := by decide +kernel
      exact this ⟨i, hi⟩
    rw [hm]
    by_cases h7 : i < 7
    · simp [h7]
    · rw [show 7 + (i - 7) = i by omega]
      simp [h7, hi]
  rw [e1, BitVec.toNat_shiftLeft, BitVec.toNat_ushiftRight, BitVec.toNat_ofNat, Nat.mod_eq_of_lt hx, Nat.shiftRight_eq_div_pow, Nat.shiftLeft_eq, IntKind.wrap_u32]
  unfold Tm.adr
  rw [show (2 : Nat) ^ 7 = 128 from rfl, show (2 : Nat) ^ 32 = 4294967296 from rfl]
  omega
namespace Tm
set_option maxRecDepth 100000 in
/-- An entry with a bit. -/
def wi (e b : Int) : Int := if has e b then e else e + b
end Tm
set_option maxRecDepth 100000 in
theorem or_16 {e : Int} (h : Tm.isE e) : bits .or .u32 e 16 = Tm.wi e 16 := by
  obtain ⟨x, rfl⟩ := Int.eq_ofNat_of_zero_le h.1
  have hx : x < 4294967296 := by have := h.2; omega
  rw [show (16 : Int) = ((16 : Nat) : Int) from rfl, or32 x 16 hx (by omega), or_low x 16 (by omega), or16 _ (by omega)]
  unfold Tm.wi Tm.has
  by_cases hb : x % 128 / 16 % 2 = 1
  · rw [if_pos hb, if_pos (by simp; omega)]
    omega
  · rw [if_neg hb, if_neg (by simp; omega)]
    omega
set_option maxRecDepth 100000 in
theorem or_32 {e : Int} (h : Tm.isE e) : bits .or .u32 e 32 = Tm.wi e 32 := by
  obtain ⟨x, rfl⟩ := Int.eq_ofNat_of_zero_le h.1
  have hx : x < 4294967296 := by have := h.2; omega
  rw [show (32 : Int) = ((32 : Nat) : Int) from rfl, or32 x 32 hx (by omega), or_low x 32 (by omega), or32_ _ (by omega)]
  unfold Tm.wi Tm.has
  by_cases hb : x % 128 / 32 % 2 = 1
  · rw [if_pos hb, if_pos (by simp; omega)]
    omega
  · rw [if_neg hb, if_neg (by simp; omega)]
    omega
set_option maxRecDepth 100000 in
theorem wi_e {e b : Int} (h : Tm.isE e) (hb : b = 16 ∨ b = 32) : Tm.isE (Tm.wi e b) := by
  obtain ⟨h0, h1⟩ := h
  unfold Tm.wi Tm.has
  split
  · exact ⟨h0, h1⟩
  · rename_i hn
    have hn : ¬ (e / b % 2 = 1) := by simpa using hn
    rcases hb with rfl | rfl <;> exact ⟨by omega, by omega⟩
end Go.Proofs.YtidhodalnikhlaaGreatDoor
