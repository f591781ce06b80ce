/-
  WORDS FOR MEMORY, OF NO PROGRAM: a slice that reads as a list of values; a slice that the call owns; worlds that came later.
-/
import Derived.WalkKit
import Derived.WalkSpells
import Derived.WalkLawsBesides
import Derived.Maps.AppendAt
import Derived.Deep.AppendLies
import Derived.Deep.Draws
import Derived.Lib.Hide
import Derived.Laws.BytesArg
import Derived.Test.YtffgbbfcbobecaaWireMath
namespace Go.Proofs.Ytffgbbfcbobecaa
open Go.RowKit

/-- Bytes as cells. -/
def U (b : Wm.Bs) : List Value := b.map (Value.int .u8)
theorem U_length (b : Wm.Bs) : (U b).length = b.length := by simp [U]
theorem U_append (a b : Wm.Bs) : U (a ++ b) = U a ++ U b := by simp [U]
theorem U_one (b : Wm.Bs) : ∀ u ∈ U b, u.oneCell' = true := by
  intro u hu
  obtain ⟨x, _, rfl⟩ := List.mem_map.1 hu
  rfl
theorem one_int (k : IntKind) (x : Int) : ∀ u ∈ [Value.int k x], u.oneCell' = true := by
  intro u hu
  obtain rfl : u = .int k x := by simpa using hu
  rfl
theorem U_get (b : Wm.Bs) (j : Nat) (h : j < b.length) : (U b)[j]? = some (.int .u8 (b.getD j 0)) := by
  simp [U, h]

/-- Everything that was there is there. -/
abbrev Later (w w' : World) : Prop := Below w.heap.size w w'
theorem Later.trans_ {a b c : World} (h : Later a b) (k : Later b c) : Later a c := Below.trans h (k.mono h.size)

/-- THE SLICE OF n ELEMENTS AT A READS AS THE CELLS xs (size of them an element). -/
def Sl (w : World) (size : Nat) (A : Option Addr) (n : Nat) (xs : List Value) : Prop :=
  xs.length = n * size ∧ (0 < n → ∃ ad, A = some ad ∧ ad.block < w.heap.size ∧ ∀ j u, xs[j]? = some u → w.cell? (ad.add j) = some u)

theorem addr_add_block (a : Addr) (n : Nat) : (a.add n).block = a.block := by unfold Addr.add; split <;> rfl
theorem addr_add_add (a : Addr) (i j : Nat) : (a.add i).add j = a.add (i + j) := by
  unfold Addr.add
  by_cases hi : i = 0 <;> by_cases hj : j = 0 <;> simp [hi, hj, Nat.add_assoc]

section
variable {w w' : World} {size n : Nat} {A : Option Addr} {xs : List Value}
theorem Sl.nil (w : World) (size : Nat) (A : Option Addr) : Sl w size A 0 [] := ⟨by simp, fun h => absurd h (by omega)⟩
theorem Sl.later {B : Nat} (h : Sl w size A n xs) (hb : Below B w w') (hB : ∀ ad, A = some ad → ad.block < w.heap.size → ad.block < B) : Sl w' size A n xs :=
  ⟨h.1, fun hn => by
    obtain ⟨ad, e, hl, hc⟩ := h.2 hn
    refine ⟨ad, e, Nat.lt_of_lt_of_le hl hb.size, fun j u hu => ?_⟩
    rw [hb.cell (by rw [addr_add_block]; exact hB ad e hl)]
    exact hc j u hu⟩
theorem Sl.keep (h : Sl w size A n xs) (hb : Later w w') : Sl w' size A n xs := h.later hb fun _ _ hl => hl
theorem Sl.alloc (h : Sl w size A n xs) (o : Obj) : Sl (w.alloc o) size A n xs := h.keep ((Below.refl _ _).alloc (Nat.le_refl _) o)
theorem Sl.drew (h : Sl w size A n xs) : Sl w.drew size A n xs := h
theorem Sl.at1 {k : Nat} (h : Sl w 1 A n xs) (hk : k < n) : ∃ ad u, A = some ad ∧ ad.block < w.heap.size ∧ xs[k]? = some u ∧ w.cell? (ad.add k) = some u := by
  obtain ⟨ad, e, hb, hc⟩ := h.2 (by omega)
  have hl : k < xs.length := by rw [h.1]; omega
  exact ⟨ad, xs[k], e, hb, List.getElem?_eq_getElem hl, hc k _ (List.getElem?_eq_getElem hl)⟩
theorem Sl.cut (h : Sl w size A n xs) {k cap : Nat} (hk : k ≤ n) (hc : n ≤ cap) :
    Sl w size (if cap = k then A else A.map (·.add (k * size))) (n - k) (xs.drop (k * size)) := by
  refine ⟨by rw [List.length_drop, h.1, Nat.sub_mul], fun hn => ?_⟩
  obtain ⟨ad, rfl, hb, hcell⟩ := h.2 (by omega)
  rw [if_neg (by omega)]
  refine ⟨ad.add (k * size), rfl, by rw [addr_add_block]; exact hb, fun j u hu => ?_⟩
  rw [addr_add_add]
  exact hcell _ u (by rw [← hu, List.getElem?_drop])
theorem Sl.front (h : Sl w size A n xs) {k : Nat} (hk : k ≤ n) : Sl w size A k (xs.take (k * size)) := by
  refine ⟨by rw [List.length_take, h.1]; exact Nat.min_eq_left (Nat.mul_le_mul_right _ hk), fun hn => ?_⟩
  obtain ⟨ad, rfl, hb, hcell⟩ := h.2 (by omega)
  refine ⟨ad, rfl, hb, fun j u hu => hcell j u ?_⟩
  rw [List.getElem?_take] at hu
  split at hu
  · exact hu
  · cases hu
theorem Sl.own {base : Nat} {e : TypeId} {c : Nat} (h : w.ownsRow base e size (.slice A n c) n xs) : Sl w size A n xs := by
  refine ⟨h.1, fun hn => ?_⟩
  obtain ⟨g, cap, hv, _, hlt⟩ := h.form hn
  have hA : A = some ⟨g, 0, none⟩ := by injection hv
  subst hA
  exact ⟨_, rfl, hlt, h.cells (g := g) rfl⟩
end

/-- A value that is owned is a slice of its length, within its capacity. -/
theorem own_form {w : World} {base : Nat} {e : TypeId} {size n : Nat} {v : Value} {xs : List Value} (h : w.ownsRow base e size v n xs) :
    ∃ A c, v = .slice A n c ∧ n ≤ c ∧ c ≤ maxLen ∧ Sl w size A n xs ∧ (∀ ad, A = some ad → base ≤ ad.block ∧ ad.block < w.heap.size) := by
  rcases h.2 with ⟨rfl, rfl⟩ | ⟨g, cap, cur, rfl, hb, hg, hn, hm, _, _⟩
  · refine ⟨none, 0, rfl, Nat.le_refl _, Nat.zero_le _, Sl.own h, by simp⟩
  · refine ⟨_, cap, rfl, hn, hm, Sl.own h, fun ad e => ?_⟩
    injection e with e
    subst e
    refine ⟨hb, ?_⟩
    rcases Nat.lt_or_ge g w.heap.size with hlt | hge
    · exact hlt
    · rw [Array.getElem?_eq_none hge] at hg; cases hg

theorem own_below {w w' : World} {base : Nat} {e : TypeId} {size n : Nat} {v : Value} {xs : List Value} (h : w.ownsRow base e size v n xs) (hb : Later w w') : w'.ownsRow base e size v n xs :=
  h.kept (row := none) ⟨hb.os, hb.tape, hb.output, hb.size, fun k hk _ => hb.block k hk⟩ (by
    cases e : v.ownBlock with
    | none => exact .inl rfl
    | some g => exact .inr (by simp))

section
variable {w : World} {n : Nat} {A : Option Addr} {b : Wm.Bs}
theorem Sl.blen (h : Sl w 1 A n (U b)) : b.length = n := by have := h.1; rw [U_length] at this; omega
theorem Sl.cutB (h : Sl w 1 A n (U b)) {k cap : Nat} (hk : k ≤ n) (hc : n ≤ cap) (hne : cap ≠ k) : Sl w 1 (A.map (·.add k)) (n - k) (U (b.drop k)) := by
  have h1 := h.cut hk hc
  rw [if_neg hne, Nat.mul_one] at h1
  rw [show U (b.drop k) = (U b).drop k by simp [U]]
  exact h1
theorem Sl.cutEnd (h : Sl w 1 A n (U b)) {k cap : Nat} (hk : k ≤ n) (hc : n ≤ cap) (hne : cap = k) : Sl w 1 A (n - k) (U (b.drop k)) := by
  have h1 := h.cut hk hc
  rw [if_pos hne, Nat.mul_one] at h1
  rw [show U (b.drop k) = (U b).drop k by simp [U]]
  exact h1
theorem Sl.frontB (h : Sl w 1 A n (U b)) {k : Nat} (hk : k ≤ n) : Sl w 1 A k (U (b.take k)) := by
  have h1 := h.front hk
  rw [Nat.mul_one] at h1
  rw [show U (b.take k) = (U b).take k by simp [U]]
  exact h1
/-- A slice of bytes made a string. -/
theorem run_str {P : Program} (src dst e : TypeId) (hs : P.underlying src = some (.slice e)) (he : P.underlying e = some (.int .u8)) (hd : P.underlying dst = some .string)
    (h : Sl w 1 A n (U b)) (c : Nat) : (convert src dst (.slice A n c)).run P w = .ok (.string (strOfNums b)) w := by
  have hl := h.blen
  rw [run_convert_bytes_string w src dst e A n c hs he hd]
  cases A with
  | none =>
    have hn : n = 0 := by
      rcases Nat.eq_zero_or_pos n with h0 | h0
      · exact h0
      · obtain ⟨ad, e, _⟩ := h.2 h0; cases e
    subst hn
    obtain rfl : b = [] := List.eq_nil_of_length_eq_zero hl
    simp [Conv.bytesToString, Sem.run_pure, strOfNums, ByteArray.empty, ByteArray.emptyWithCapacity]
    rfl
  | some ad =>
    have hcells : ∀ j u, (U b)[j]? = some u → w.cell? (ad.add j) = some u := by
      intro j u hu
      rcases Nat.eq_zero_or_pos n with h0 | h0
      · rw [h0] at hl
        obtain rfl : b = [] := List.eq_nil_of_length_eq_zero hl
        simp [U] at hu
      · obtain ⟨ad', e, _, hc⟩ := h.2 h0
        cases e
        exact hc j u hu
    have hload := run_loadCells_list (P := P) w ad (U b) hcells
    rw [U_length, hl] at hload
    rw [run_bytesToString w ad n c b hload, foldl_push_bytes]
    simp [strOfNums, ByteArray.empty, ByteArray.emptyWithCapacity]
    rfl
end

/-- append, onto a slice that the call owns, of whatever slice that reads as cells, nil too. -/
theorem run_app {P : Program} (w : World) (base : Nat) (t ty e : TypeId) (i : TypeInfo) (z : Value) (size bytes : Nat) (ht : P.underlying t = some (.slice e)) (hi : P.info? e = some i) (hz : i.zero = some z)
    (hsize : i.size = size) (hby : i.bytes = bytes) (hzs : z.cells.size = size) (hsz : 0 < size)
    (v : Value) (n : Nat) (xs : List Value) (hown : w.ownsRow base e size v n xs)
    (A : Option Addr) (m c : Nat) (news : List Value) (hs : Sl w size A m news) (h1 : ∀ u ∈ news, u.oneCell' = true)
    (h63 : n + m ≤ maxLen) (hbytes : (n + m) * bytes ≤ 140737488355328) (hbase : base ≤ w.heap.size) :
    ∃ v' w', (Builtin.append_ #[t, t] ty #[v, .slice A m c]).run P w = .ok v' w' ∧ w'.ownsRow base e size v' (n + m) (xs ++ news) ∧ w.grownBy w' v.ownBlock := by
  cases A with
  | none =>
    have hm : m = 0 := by
      rcases Nat.eq_zero_or_pos m with h0 | h0
      · exact h0
      · obtain ⟨ad, e, _⟩ := hs.2 h0; cases e
    subst hm
    obtain rfl : news = [] := List.eq_nil_of_length_eq_zero (by have := hs.1; simpa using this)
    refine ⟨v, w, ?_, by simpa using hown, ⟨rfl, rfl, rfl, Nat.le_refl _, fun _ _ _ => rfl⟩⟩
    rcases hown.2 with ⟨rfl, rfl⟩ | ⟨g, cap, cur, rfl, _, _, hnc, _⟩
    · simp [Builtin.append_, run_underlying ht, sizeOf, typeInfo, hi, Builtin.lenOf, Builtin.firstCells]
    · simp [Builtin.append_, run_underlying ht, sizeOf, typeInfo, hi, Builtin.lenOf, Builtin.firstCells, hnc, storeCells]
  | some ad =>
    have hcells : ∀ j u, news[j]? = some u → w.cell? (ad.add j) = some u := by
      intro j u hu
      rcases Nat.eq_zero_or_pos m with h0 | h0
      · have hl := hs.1
        rw [h0, Nat.zero_mul] at hl
        obtain rfl : news = [] := List.eq_nil_of_length_eq_zero hl
        simp at hu
      · obtain ⟨ad', e, _, hc⟩ := hs.2 h0
        cases e
        exact hc j u hu
    obtain ⟨v', w', hr, h2, h3, _⟩ := run_append_own (P := P) w base t ty e i z size bytes ht hi hz hsize hby hzs hsz v n xs hown ad m c news hs.1 hcells h1 h63 hbytes hbase
    exact ⟨v', w', hr, h2, h3⟩

theorem wpList_app {P : Program} (w : World) {ops : Array Oper} {rest : List Oper} {o : Oper} {a : Act} {Q : Exit → Act → World → Prop} (hgd : o.guard = none) (s x : Operand) (t : TypeId)
    (ho : o.op = .call { callee := .builtin .append, args := #[s, x], argTypes := #[t, t] })
    (base : Nat) (e : TypeId) (i : TypeInfo) (z : Value) (size bytes : Nat) (ht : P.underlying t = some (.slice e)) (hi : P.info? e = some i) (hz : i.zero = some z)
    (hsize : i.size = size) (hby : i.bytes = bytes) (hzs : z.cells.size = size) (hsz : 0 < size)
    (v : Value) (n : Nat) (xs : List Value) (hsv : a.eval s = v) (hown : w.ownsRow base e size v n xs)
    (A : Option Addr) (m c : Nat) (news : List Value) (hx : a.eval x = .slice A m c) (hs : Sl w size A m news) (h1 : ∀ u ∈ news, u.oneCell' = true)
    (h63 : n + m ≤ maxLen) (hbytes : (n + m) * bytes ≤ 140737488355328) (hbase : base ≤ w.heap.size)
    (h : ∀ v' w', w'.ownsRow base e size v' (n + m) (xs ++ news) → w.grownBy w' v.ownBlock → wpList P ops Q rest (a.put o.dst v') w') : wpList P ops Q (o :: rest) a w := by
  refine wpList_plain hgd fun K hK => ?_
  obtain ⟨v', w', hr, h2, h3⟩ := run_app (P := P) w base t o.type e i z size bytes ht hi hz hsize hby hzs hsz v n xs hown A m c news hs h1 h63 hbytes hbase
  unfold Oper.wp execOp
  simp only [ho, resolve, invoke, builtin, Sem.run_bind, Sem.run_pure, Result.andThen_ok, List.map_toArray, List.map_cons, List.map_nil, hsv, hx, hr]
  exact hK _ _ (h v' w' h2 h3)

theorem ret_int {k : IntKind} {a b : Int} (h : a = b) : Ending.returned (.int k a) = .returned (.int k b) := by rw [h]

end Go.Proofs.Ytffgbbfcbobecaa
