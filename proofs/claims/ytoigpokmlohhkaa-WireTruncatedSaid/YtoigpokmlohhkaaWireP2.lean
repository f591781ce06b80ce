/-
  For every string and list of integers, of at most 2000 bytes and elements in all, their encodings, one behind the other, are decoded one behind the other: the statement WireConcat.
-/
import Derived.Test.YtoigpokmlohhkaaWireM
namespace Go.Proofs.Ytoigpokmlohhkaa
open Go.RowKit Go.ChangeShapes Go.WideShapes Go.ChangeAt

/-- append, onto a slice that the call owns, of whatever slice; the new slice written out. -/
theorem wpList_app_as {P : Program} (w : World) {ops : Array Oper} {rest : List Oper} {o : Oper} {a : Act} {Q : Exit → Act → World → Prop} (hgd : o.guard = none) (s x : Operand) (t : TypeId)
    (ho : o.op = .call { callee := .builtin .append, args := #[s, x], argTypes := #[t, t] })
    (base : Nat) (e : TypeId) (i : TypeInfo) (z : Value) (size bytes : Nat) (ht : P.underlying t = some (.slice e)) (hi : P.info? e = some i) (hz : i.zero = some z)
    (hsize : i.size = size) (hby : i.bytes = bytes) (hzs : z.cells.size = size) (hsz : 0 < size)
    (v : Value) (n : Nat) (xs : List Value) (hsv : a.eval s = v) (hown : w.ownsRow base e size v n xs)
    (A : Option Addr) (m c : Nat) (news : List Value) (hx : a.eval x = .slice A m c) (hs : Sl w size A m news) (h1 : ∀ u ∈ news, u.oneCell' = true)
    (h63 : n + m ≤ maxLen) (hbytes : (n + m) * bytes ≤ 140737488355328) (hbase : base ≤ w.heap.size)
    (h : ∀ A' c' w', n + m ≤ c' → c' ≤ maxLen → Sl w' size A' (n + m) (xs ++ news) → Below base w w' → wpList P ops Q rest (a.put o.dst (.slice A' (n + m) c')) w') : wpList P ops Q (o :: rest) a w := by
  refine wpList_app w hgd s x t ho base e i z size bytes ht hi hz hsize hby hzs hsz v n xs hsv hown A m c news hx hs h1 h63 hbytes hbase fun v' w' h2 h3 => ?_
  obtain ⟨A', c', rfl, g1, g2, g3, _⟩ := own_form h2
  exact h A' c' w' g1 g2 g3 ((Below.refl _ _).grown h3 hbase (fun k hk => (hown.lt k hk).1))

theorem ints_len {l : List Int} (h : inR l) : (Wm.encL Wm.encI l).length ≤ 10 + 10 * l.length ∨ 9223372036854775807 < l.length := by
  rcases Nat.lt_or_ge 9223372036854775807 l.length with hb | hb
  · exact .inr hb
  · refine .inl ?_
    unfold Wm.encL
    rw [List.length_append]
    have h1 := Wm.encI_len (n := (l.length : Int)) (by omega) (by omega)
    have h2 : (l.flatMap Wm.encI).length ≤ 10 * l.length := by
      clear h1 hb
      induction l with
      | nil => simp
      | cons x r ih =>
        rw [List.flatMap_cons, List.length_append, List.length_cons]
        have h3 := Wm.encI_len (h x (List.mem_cons_self)).1 (h x (List.mem_cons_self)).2
        have h4 := ih (fun y hy => h y (List.mem_cons_of_mem _ hy))
        omega
    omega
theorem ints_bytes (l : List Int) : Wm.isBs (Wm.encL Wm.encI l) := fun x hx => by
  rcases List.mem_append.1 hx with hx | hx
  · exact Wm.encI_bytes _ x hx
  · obtain ⟨y, _, hy⟩ := List.mem_flatMap.1 hx
    exact Wm.encI_bytes y x hy

/-- What a maker of bytes answers, its length named, and whose it is. -/
def MadeOwn (k : Nat) (bs : Wm.Bs) (w : World) (e : Ending) (w' : World) : Prop := ∃ A c, e = .returned (.slice A k c) ∧ k ≤ c ∧ c ≤ maxLen ∧ w'.ownsRow w.heap.size 5 1 (.slice A k c) k (U bs) ∧ Sl w' 1 A k (U bs) ∧ Later w w'
theorem made_own {f : FuncId} {args : Array Value} {bs : Wm.Bs} {w : World} {k : Nat} (h : Calls Try.prog f args w (Made bs w)) (hk : k = bs.length) : Calls Try.prog f args w (MadeOwn k bs w) := by
  subst hk
  exact (made_as h).mono fun _ _ ⟨A, c, he, h1, h2, ho, h3, h4⟩ => ⟨A, c, he, h1, h2, ho, h3, h4⟩

end Go.Proofs.Ytoigpokmlohhkaa
