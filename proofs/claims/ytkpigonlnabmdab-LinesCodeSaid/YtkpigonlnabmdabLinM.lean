/-
  PLAIN MATHEMATICS: what an act changes of a control.
-/
import Derived.Test.YtkpigonlnabmdabLinL
namespace Go.Proofs.Ytkpigonlnabmdab
open Go.RowKit Go.ChangeShapes Go.WideShapes Go.ChangeAt

theorem dif_or {x : Int} {l : Nat} (hx : is5 x) (hl : l < 5) : (bits .andNot .u32 (orB x l) x = 0 ∨ bits .andNot .u32 (orB x l) x = bt l) ∧ bits .andNot .u32 x (orB x l) = 0 := by
  obtain ⟨y, rfl⟩ := hx.fin
  have : ∀ y : Fin 32, ∀ l : Fin 5, (bits .andNot .u32 (orB ((y.1 : Nat) : Int) l.1) ((y.1 : Nat) : Int) = 0 ∨ bits .andNot .u32 (orB ((y.1 : Nat) : Int) l.1) ((y.1 : Nat) : Int) = bt l.1) ∧ bits .andNot .u32 ((y.1 : Nat) : Int) (orB ((y.1 : Nat) : Int) l.1) = 0 := by decide +kernel
  exact this y ⟨l, hl⟩
theorem dif_an {x : Int} {l : Nat} (hx : is5 x) (hl : l < 5) : (bits .andNot .u32 x (anB x l) = 0 ∨ bits .andNot .u32 x (anB x l) = bt l) ∧ bits .andNot .u32 (anB x l) x = 0 := by
  obtain ⟨y, rfl⟩ := hx.fin
  have : ∀ y : Fin 32, ∀ l : Fin 5, (bits .andNot .u32 ((y.1 : Nat) : Int) (anB ((y.1 : Nat) : Int) l.1) = 0 ∨ bits .andNot .u32 ((y.1 : Nat) : Int) (anB ((y.1 : Nat) : Int) l.1) = bt l.1) ∧ bits .andNot .u32 (anB ((y.1 : Nat) : Int) l.1) ((y.1 : Nat) : Int) = 0 := by decide +kernel
  exact this y ⟨l, hl⟩
theorem dif_self {x : Int} (hx : is5 x) : bits .andNot .u32 x x = 0 := by
  obtain ⟨y, rfl⟩ := hx.fin
  have : ∀ y : Fin 32, bits .andNot .u32 ((y.1 : Nat) : Int) ((y.1 : Nat) : Int) = 0 := by decide +kernel
  exact this y
theorem one_bit {l : Nat} (hl : l < 5) : bits .and .u32 (bt l) (IntKind.u32.wrap (bt l - 1)) = 0 := by
  have : ∀ l : Fin 5, bits .and .u32 (bt l.1) (IntKind.u32.wrap (bt l.1 - 1)) = 0 := by decide +kernel
  exact this ⟨l, hl⟩
section
variable {x : Ctl} (hx : x.Ok) (hw : x.wf) {k : Nat} (hk : (k : Int) < x.n) {a : Ac} (ha : a.wf)
include hx hw hk ha
theorem act_ok : (actC x a k).Ok ∧ (actC x a k).wf := by
  unfold actC
  split
  · exact hx.raised hw hk
  · exact hx.ported hw hk ha.v
omit hw in
theorem act_shape : (actC x a k).n = x.n ∧
    (∃ j : Nat, (j : Int) < x.n ∧ ∃ u, (actC x a k).r = upd x.r j u ∧
      (u = x.r j ∨ (∃ l, l < 5 ∧ u = orB (x.r j) l ∧ (a.rs = false → a.inn = false ∧ a.p = 3 ∧ a.v = (j : Int) ∧ l = 4)) ∨
        ∃ l : Nat, l < 5 ∧ u = anB (x.r j) l ∧ j = k ∧ a.rs = false ∧ a.inn = false ∧ a.p = 2 ∧ a.v = (l : Int))) ∧
    ((actC x a k).m = x.m ∨ (a.rs = false ∧ ∃ u, (actC x a k).m = upd x.m k u)) ∧ (a.rs = true → (actC x a k).m = x.m ∧ (actC x a k).t = x.t) := by
  have hv0 := ha.v.1
  have same : ∃ j : Nat, (j : Int) < x.n ∧ ∃ u, x.r = upd x.r j u ∧
      (u = x.r j ∨ (∃ l, l < 5 ∧ u = orB (x.r j) l ∧ (a.rs = false → a.inn = false ∧ a.p = 3 ∧ a.v = (j : Int) ∧ l = 4)) ∨
        ∃ l : Nat, l < 5 ∧ u = anB (x.r j) l ∧ j = k ∧ a.rs = false ∧ a.inn = false ∧ a.p = 2 ∧ a.v = (l : Int)) :=
    ⟨k, hk, x.r k, (upd_same _ _).symm, Or.inl rfl⟩
  unfold actC
  cases hr : a.rs with
  | true =>
    rw [if_pos rfl]
    unfold Ctl.raise
    split
    · rename_i hl
      have hat := hx.at4 hl hk
      exact ⟨rfl, ⟨x.at a.ln k, hat.2, _, rfl, Or.inr (Or.inl ⟨a.ln.toNat, by omega, rfl, fun h => by cases h⟩)⟩, Or.inl rfl, fun _ => ⟨rfl, rfl⟩⟩
    · rw [hr] at same
      exact ⟨rfl, same, Or.inl rfl, fun _ => ⟨rfl, rfl⟩⟩
  | false =>
    rw [if_neg (by decide)]
    rw [hr] at same
    cases hi : a.inn with
    | true =>
      rw [hi] at same
      exact ⟨rfl, same, Or.inl rfl, fun h => by cases h⟩
    | false =>
      rw [hi] at same
      show (x.out k a.p a.v).n = x.n ∧ _
      show (x.out k a.p a.v).n = x.n ∧ (∃ j : Nat, (j : Int) < x.n ∧ ∃ u, (x.out k a.p a.v).r = upd x.r j u ∧ _) ∧ ((x.out k a.p a.v).m = x.m ∨ _ ∧ ∃ u, (x.out k a.p a.v).m = upd x.m k u) ∧ _
      unfold Ctl.out
      split
      · exact ⟨rfl, same, Or.inr ⟨rfl, _, rfl⟩, fun h => by cases h⟩
      split
      · rename_i h2
        split
        · rename_i h5
          exact ⟨rfl, ⟨k, hk, _, rfl, Or.inr (Or.inr ⟨a.v.toNat, by omega, rfl, rfl, rfl, rfl, h2, by omega⟩)⟩, Or.inl rfl, fun h => by cases h⟩
        · exact ⟨rfl, same, Or.inl rfl, fun h => by cases h⟩
      split
      · rename_i h3
        split
        · rename_i hlt
          exact ⟨rfl, ⟨a.v.toNat, by omega, _, rfl, Or.inr (Or.inl ⟨4, by decide, rfl, fun _ => ⟨rfl, h3, by omega, rfl⟩⟩)⟩, Or.inl rfl, fun h => by cases h⟩
        · exact ⟨rfl, same, Or.inl rfl, fun h => by cases h⟩
      split
      · split
        · exact ⟨rfl, same, Or.inl rfl, fun h => by cases h⟩
        · exact ⟨rfl, same, Or.inl rfl, fun h => by cases h⟩
      · exact ⟨rfl, same, Or.inl rfl, fun h => by cases h⟩
/-- What comes at a processor. -/
theorem act_came : ∃ j : Nat, ∀ p : Nat, (p : Int) < x.n →
    (p ≠ j → bits .andNot .u32 ((actC x a k).r p) (x.r p) = 0) ∧
    bits .and .u32 (bits .andNot .u32 ((actC x a k).r p) (x.r p)) (IntKind.u32.wrap (bits .andNot .u32 ((actC x a k).r p) (x.r p) - 1)) = 0 ∧
    (p ≠ k → a.rs = false → (actC x a k).m p = x.m p ∧ bits .andNot .u32 (x.r p) ((actC x a k).r p) = 0 ∧
      (bits .andNot .u32 ((actC x a k).r p) (x.r p) ≠ 0 → a.inn = false ∧ a.p = 3 ∧ a.v = (p : Int) ∧ bits .andNot .u32 ((actC x a k).r p) (x.r p) = 16)) ∧
    (bits .andNot .u32 (x.r p) ((actC x a k).r p) ≠ 0 → a.rs = false ∧ a.inn = false ∧ a.p = 2 ∧ p = k ∧ ∃ l : Nat, l < 5 ∧ a.v = (l : Int) ∧ bits .andNot .u32 (x.r p) ((actC x a k).r p) = bt l) := by
  obtain ⟨_, ⟨j, hj, u, hr, hu⟩, hm, _⟩ := act_shape hx hk ha
  have hn4 := hx.n4
  refine ⟨j, fun p hp => ?_⟩
  have h5 := hx.r5 hw (k := p) (by omega)
  have z0 := dif_self h5
  have one0 : bits .and .u32 0 (IntKind.u32.wrap (0 - 1)) = 0 := by decide +kernel
  have hmp : p ≠ k → (actC x a k).m p = x.m p := by
    intro hne
    rcases hm with h | ⟨_, v, h⟩
    · rw [h]
    · rw [h, upd_ne _ _ hne]
  rw [hr]
  by_cases e : p = j
  · subst e
    rw [upd_at]
    rcases hu with rfl | ⟨l, hl, rfl, hs⟩ | ⟨l, hl, rfl, hjk, h1, h2, h3, h4⟩
    · rw [z0]
      exact ⟨fun h => absurd rfl h, one0, fun hne _ => ⟨hmp hne, rfl, fun h => absurd rfl h⟩, fun h => absurd rfl h⟩
    · obtain ⟨d1, d2⟩ := dif_or h5 hl
      rw [d2]
      refine ⟨fun h => absurd rfl h, ?_, fun hne hf => ⟨hmp hne, rfl, fun hz => ?_⟩, fun h => absurd rfl h⟩
      · rcases d1 with d | d
        · rw [d]; exact one0
        · rw [d]; exact one_bit hl
      · obtain ⟨g1, g2, g3, g4⟩ := hs hf
        rcases d1 with d | d
        · exact absurd d hz
        · refine ⟨g1, g2, g3, ?_⟩
          rw [d, g4]
          decide
    · obtain ⟨d1, d2⟩ := dif_an h5 hl
      rw [d2]
      refine ⟨fun h => absurd rfl h, one0, fun hne _ => absurd hjk hne, fun hz => ?_⟩
      rcases d1 with d | d
      · exact absurd d hz
      · exact ⟨h1, h2, h3, hjk, l, hl, h4, d⟩
  · rw [upd_ne _ _ e, z0]
    exact ⟨fun _ => rfl, one0, fun hne _ => ⟨hmp hne, rfl, fun h => absurd rfl h⟩, fun h => absurd rfl h⟩
end
/-- At how many of the first processors something came. -/
def cnt (f : Nat → Int) : Nat → Nat
  | 0 => 0
  | p + 1 => if f p = 0 then cnt f p else cnt f p + 1
theorem cnt_le {f : Nat → Int} {j m : Nat} (h : ∀ p, p < m → p ≠ j → f p = 0) : ∀ p, p ≤ m → cnt f p ≤ if j < p then 1 else 0
  | 0, _ => by simp [cnt]
  | p + 1, hp => by
    have ih := cnt_le h p (by omega)
    unfold cnt
    by_cases e : p = j
    · subst e
      rw [if_neg (Nat.lt_irrefl _)] at ih
      rw [if_pos (Nat.lt_succ_self _)]
      split <;> omega
    · rw [if_pos (h p (by omega) e)]
      by_cases hl : j < p
      · rw [if_pos hl] at ih; rw [if_pos (by omega)]; exact ih
      · rw [if_neg hl] at ih; rw [if_neg (by omega)]; exact ih
theorem cnt_one {f : Nat → Int} {j m : Nat} (h : ∀ p, p < m → p ≠ j → f p = 0) : cnt f m ≤ 1 := by
  have := cnt_le h m (Nat.le_refl _)
  split at this <;> omega
end Go.Proofs.Ytkpigonlnabmdab
