/-
  For every integer, decoding its encoding, with whatever bytes behind it, gives the integer and the length, from 1 to 10: the statement WireIntRoundTrip, for every integer and every tail.
-/
import Derived.Test.YtoigpokmlohhkaaWireL
namespace Go.Proofs.Ytoigpokmlohhkaa
open Go.RowKit Go.ChangeShapes Go.WideShapes Go.ChangeAt

/-- append, onto a slice without spare places, of whatever slice. -/
theorem run_app_full {P : Program} (w : World) (t ty e : TypeId) (i : TypeInfo) (z : Value) (size bytes : Nat) (ht : P.underlying t = some (.slice e)) (hi : P.info? e = some i) (hz : i.zero = some z)
    (hsize : i.size = size) (hby : i.bytes = bytes) (hzs : z.cells.size = size) (hsz : 0 < size)
    (A : Option Addr) (n : Nat) (olds : List Value) (hn : 0 < n) (hs : Sl w size A n olds) (hnm : n ≤ maxLen)
    (A2 : Option Addr) (m c2 : Nat) (news : List Value) (hs2 : Sl w size A2 m news)
    (h63 : n + m ≤ maxLen) (hbytes : (n + m) * bytes ≤ 140737488355328) :
    ∃ A' c' w', (Builtin.append_ #[t, t] ty #[.slice A n n, .slice A2 m c2]).run P w = .ok (.slice A' (n + m) c') w' ∧ n + m ≤ c' ∧ c' ≤ maxLen ∧ Sl w' size A' (n + m) (olds ++ news) ∧ Later w w' := by
  obtain ⟨b, rfl, hbl, hcb⟩ := hs.2 hn
  rcases Nat.eq_zero_or_pos m with h0 | h0
  · subst h0
    obtain rfl : news = [] := List.eq_nil_of_length_eq_zero (by have := hs2.1; simpa using this)
    refine ⟨some b, n, w, ?_, Nat.le_refl _, hnm, by simpa using hs, Below.refl _ _⟩
    cases A2 with
    | none => simp [Builtin.append_, run_underlying ht, sizeOf, typeInfo, hi, Builtin.lenOf, Builtin.firstCells, storeCells]
    | some a2 => simp [Builtin.append_, run_underlying ht, sizeOf, typeInfo, hi, Builtin.lenOf, Builtin.firstCells, storeCells, loadCells, loadCellsFrom]
  · obtain ⟨ad, rfl, _, hc⟩ := hs2.2 h0
    obtain ⟨v', w', hrun, r1, r2⟩ := run_append_arg_grows (P := P) w t ty e i z size bytes ht hi hz hsize hby hzs hsz b n n olds hs.1 hcb ad m c2 news hs2.1 hc (by omega) h63 hbytes
    obtain ⟨A', c', rfl, g1, g2, g3, _⟩ := own_form r1
    exact ⟨A', c', w', hrun, g1, g2, g3, (Below.refl _ _).grown r2 (Nat.le_refl _) (fun k hk => by cases hk)⟩

theorem wpList_app_full {P : Program} (w : World) {ops : Array Oper} {rest : List Oper} {o : Oper} {a : Act} {Q : Exit → Act → World → Prop} (hgd : o.guard = none) (s x : Operand) (t : TypeId)
    (ho : o.op = .call { callee := .builtin .append, args := #[s, x], argTypes := #[t, t] })
    (e : TypeId) (i : TypeInfo) (z : Value) (size bytes : Nat) (ht : P.underlying t = some (.slice e)) (hi : P.info? e = some i) (hz : i.zero = some z)
    (hsize : i.size = size) (hby : i.bytes = bytes) (hzs : z.cells.size = size) (hsz : 0 < size)
    (A : Option Addr) (n : Nat) (olds : List Value) (hsv : a.eval s = .slice A n n) (hn : 0 < n) (hs : Sl w size A n olds) (hnm : n ≤ maxLen)
    (A2 : Option Addr) (m c2 : Nat) (news : List Value) (hx : a.eval x = .slice A2 m c2) (hs2 : Sl w size A2 m news)
    (h63 : n + m ≤ maxLen) (hbytes : (n + m) * bytes ≤ 140737488355328)
    (h : ∀ A' c' w', n + m ≤ c' → c' ≤ maxLen → Sl w' size A' (n + m) (olds ++ news) → Later w w' → wpList P ops Q rest (a.put o.dst (.slice A' (n + m) c')) w') : wpList P ops Q (o :: rest) a w := by
  refine wpList_plain hgd fun K hK => ?_
  obtain ⟨A', c', w', hr, h1, h2, h3, h4⟩ := run_app_full (P := P) w t o.type e i z size bytes ht hi hz hsize hby hzs hsz A n olds hn hs hnm A2 m c2 news hs2 h63 hbytes
  unfold Oper.wp execOp
  simp only [ho, resolve, invoke, builtin, Sem.run_bind, Sem.run_pure, Result.andThen_ok, List.map_toArray, List.map_cons, List.map_nil, hsv, hx, hr]
  exact hK _ _ (h A' c' w' h1 h2 h3 h4)

/-- What a maker of bytes answers, its length named. -/
def MadeLen (k : Nat) (bs : Wm.Bs) (w : World) (e : Ending) (w' : World) : Prop := ∃ A c, e = .returned (.slice A k c) ∧ k ≤ c ∧ c ≤ maxLen ∧ Sl w' 1 A k (U bs) ∧ Later w w'
theorem made_len {f : FuncId} {args : Array Value} {bs : Wm.Bs} {w : World} {k : Nat} (h : Calls Try.prog f args w (Made bs w)) (hk : k = bs.length) : Calls Try.prog f args w (MadeLen k bs w) := by
  subst hk
  exact (made_as h).mono fun _ _ ⟨A, c, he, h1, h2, _, h3, h4⟩ => ⟨A, c, he, h1, h2, h3, h4⟩

theorem bs_append {a b : Wm.Bs} (ha : Wm.isBs a) (hb : Wm.isBs b) : Wm.isBs (a ++ b) := fun x hx => by
  rcases List.mem_append.1 hx with h | h
  · exact ha x h
  · exact hb x h

end Go.Proofs.Ytoigpokmlohhkaa
