/-
  PLAIN MATHEMATICS of hash trees over lists: roots, proofs, what checks make of them, peaks.
-/
import Derived.Test.YtaihfkcoiagdaabDoorGe
import Derived.Test.YtaihfkcoiagdaabDoorProg
import Derived.Deep.MidRow
import Derived.Deep.WholeRow
import Derived.StillTailTactics
import Derived.Shelf.Small.Bits
import Derived.Shelf.Strconv.Itoa0
import Derived.Ground.Names2Prog
import Derived.Shelf.Slices.SearchI
import Derived.Shelf.Slices.Empties
import Derived.BigQuiet
import Derived.Deep.QuietTactic
namespace Go.Proofs.YtaihfkcoiagdaabDoor.Mk

/-- The greatest power of 2 that is less than n. -/
def sp (n : Nat) : Nat := 2 ^ Nat.log2 (n - 1)
theorem sp_pos (n : Nat) : 1 ≤ sp n := Nat.one_le_two_pow
theorem sp_lt {n : Nat} (h : 2 ≤ n) : sp n < n := by
  have h1 := Nat.log2_self_le (n := n - 1) (by omega)
  unfold sp; omega
theorem sp_ge {n : Nat} (h : 2 ≤ n) : n ≤ 2 * sp n := by
  have h1 := Nat.lt_log2_self (n := n - 1)
  rw [Nat.pow_succ] at h1
  unfold sp; omega
theorem sp_is {n j : Nat} (h1 : 2 ^ j < n) (h2 : n ≤ 2 * 2 ^ j) : sp n = 2 ^ j := by
  have p := Nat.one_le_two_pow (n := j)
  unfold sp
  congr 1
  have a1 := Nat.log2_self_le (n := n - 1) (by omega)
  have a2 := Nat.lt_log2_self (n := n - 1)
  rw [Nat.pow_succ] at a2
  rcases Nat.lt_trichotomy (Nat.log2 (n - 1)) j with h | h | h
  · have := Nat.pow_le_pow_right (n := 2) (by decide) (show Nat.log2 (n - 1) + 1 ≤ j from h)
    rw [Nat.pow_succ] at this; omega
  · exact h
  · have := Nat.pow_le_pow_right (n := 2) (by decide) (show j + 1 ≤ Nat.log2 (n - 1) from h)
    rw [Nat.pow_succ] at this; omega

section
variable {D : Type} (node : D → D → D) (z : D)

/-- The root of a list; z that of the empty one. -/
def root (l : List D) : D :=
  if _h : 2 ≤ l.length then node (root (l.take (sp l.length))) (root (l.drop (sp l.length))) else l.headD z
termination_by l.length
decreasing_by
  · have := sp_lt _h; simp only [List.length_take]; omega
  · have := sp_pos l.length; simp only [List.length_drop]; omega
theorem root_nil : root node z [] = z := by rw [root]; rfl
theorem root_one (d : D) : root node z [d] = d := by rw [root]; rfl
theorem root_two (l : List D) (h : 2 ≤ l.length) : root node z l = node (root node z (l.take (sp l.length))) (root node z (l.drop (sp l.length))) := by
  conv => lhs; rw [root]
  rw [dif_pos h]

/-- The proof that a list has its element at i. -/
def incl (l : List D) (i : Nat) : List D :=
  if _h : 2 ≤ l.length then
    if i < sp l.length then incl (l.take (sp l.length)) i ++ [root node z (l.drop (sp l.length))]
    else incl (l.drop (sp l.length)) (i - sp l.length) ++ [root node z (l.take (sp l.length))]
  else []
termination_by l.length
decreasing_by
  · have := sp_lt _h; simp only [List.length_take]; omega
  · have := sp_pos l.length; simp only [List.length_drop]; omega
theorem incl_small (l : List D) (i : Nat) (h : l.length < 2) : incl node z l i = [] := by rw [incl, dif_neg (by omega)]
theorem incl_left (l : List D) (i : Nat) (h : 2 ≤ l.length) (hi : i < sp l.length) : incl node z l i = incl node z (l.take (sp l.length)) i ++ [root node z (l.drop (sp l.length))] := by
  conv => lhs; rw [incl]
  rw [dif_pos h, if_pos hi]
theorem incl_right (l : List D) (i : Nat) (h : 2 ≤ l.length) (hi : ¬ i < sp l.length) : incl node z l i = incl node z (l.drop (sp l.length)) (i - sp l.length) ++ [root node z (l.take (sp l.length))] := by
  conv => lhs; rw [incl]
  rw [dif_pos h, if_neg hi]

/-- The proof for the first m elements, with a mark. -/
def cons (l : List D) (m : Nat) (mark : Bool) : List D :=
  if m = l.length then (if mark then [] else [root node z l])
  else if _h : 2 ≤ l.length then
    if m ≤ sp l.length then cons (l.take (sp l.length)) m mark ++ [root node z (l.drop (sp l.length))]
    else cons (l.drop (sp l.length)) (m - sp l.length) false ++ [root node z (l.take (sp l.length))]
  else []
termination_by l.length
decreasing_by
  · have := sp_lt _h; simp only [List.length_take]; omega
  · have := sp_pos l.length; simp only [List.length_drop]; omega
theorem cons_all (l : List D) (mark : Bool) : cons node z l l.length mark = if mark then [] else [root node z l] := by rw [cons, if_pos rfl]
theorem cons_left (l : List D) (m : Nat) (mark : Bool) (h : 2 ≤ l.length) (h1 : m ≠ l.length) (hi : m ≤ sp l.length) : cons node z l m mark = cons node z (l.take (sp l.length)) m mark ++ [root node z (l.drop (sp l.length))] := by
  conv => lhs; rw [cons]
  rw [if_neg h1, dif_pos h, if_pos hi]
theorem cons_right (l : List D) (m : Nat) (mark : Bool) (h : 2 ≤ l.length) (h1 : m ≠ l.length) (hi : ¬ m ≤ sp l.length) : cons node z l m mark = cons node z (l.drop (sp l.length)) (m - sp l.length) false ++ [root node z (l.take (sp l.length))] := by
  conv => lhs; rw [cons]
  rw [if_neg h1, dif_pos h, if_neg hi]

/-- What a check has not used yet of a path; whether it has asked for more. -/
structure Tr (D : Type) where
  rest : List D
  short : Bool
def nxt (t : Tr D) : D × Tr D := match t.rest with
  | [] => (z, ⟨[], true⟩)
  | d :: r => (d, ⟨r, t.short⟩)
def climb (leaf : D) (i n : Nat) (t : Tr D) : D × Tr D :=
  if _h : 2 ≤ n then
    if i < sp n then (node (climb leaf i (sp n) t).1 (nxt z (climb leaf i (sp n) t).2).1, (nxt z (climb leaf i (sp n) t).2).2)
    else (node (nxt z (climb leaf (i - sp n) (n - sp n) t).2).1 (climb leaf (i - sp n) (n - sp n) t).1, (nxt z (climb leaf (i - sp n) (n - sp n) t).2).2)
  else (leaf, t)
termination_by n
decreasing_by
  all_goals first | exact sp_lt _h | (have := sp_pos n; omega)
theorem climb_small (leaf : D) (i n : Nat) (t : Tr D) (h : n < 2) : climb node z leaf i n t = (leaf, t) := by rw [climb, dif_neg (by omega)]
theorem climb_left (leaf : D) (i n : Nat) (t : Tr D) (h : 2 ≤ n) (hi : i < sp n) : climb node z leaf i n t = (node (climb node z leaf i (sp n) t).1 (nxt z (climb node z leaf i (sp n) t).2).1, (nxt z (climb node z leaf i (sp n) t).2).2) := by
  conv => lhs; rw [climb]
  rw [dif_pos h, if_pos hi]
theorem climb_right (leaf : D) (i n : Nat) (t : Tr D) (h : 2 ≤ n) (hi : ¬ i < sp n) : climb node z leaf i n t = (node (nxt z (climb node z leaf (i - sp n) (n - sp n) t).2).1 (climb node z leaf (i - sp n) (n - sp n) t).1, (nxt z (climb node z leaf (i - sp n) (n - sp n) t).2).2) := by
  conv => lhs; rw [climb]
  rw [dif_pos h, if_neg hi]

/-- A proof leads from the element to the root. -/
theorem climb_incl (e : D) (n : Nat) : ∀ (l : List D) (i : Nat) (d : D) (r : List D) (s : Bool), l.length ≤ n → l[i]? = some d →
    climb node z d i l.length ⟨incl node e l i ++ r, s⟩ = (root node e l, ⟨r, s⟩) := by
  induction n with
  | zero => intro l i d r s hl hi; rw [List.eq_nil_of_length_eq_zero (by omega : l.length = 0)] at hi; simp at hi
  | succ n ih =>
    intro l i d r s hl hi
    have hil : i < l.length := (List.getElem?_eq_some_iff.1 hi).1
    rcases Nat.lt_or_ge l.length 2 with h | h
    · have h1 : l.length = 1 := by omega
      obtain ⟨x, rfl⟩ := List.length_eq_one_iff.1 h1
      obtain rfl : i = 0 := by simp at hil; exact hil
      simp at hi; subst hi
      rw [climb_small _ _ _ _ _ _ h, incl_small _ _ _ _ h, root_one]; rfl
    · have a := sp_lt h
      have b := sp_pos l.length
      by_cases c : i < sp l.length
      · have h1 := ih (l.take (sp l.length)) i d ([root node e (l.drop (sp l.length))] ++ r) s (by rw [List.length_take]; omega) (by rw [List.getElem?_take_of_lt c]; exact hi)
        rw [List.length_take, Nat.min_eq_left (by omega)] at h1
        rw [climb_left _ _ _ _ _ _ h c, incl_left _ _ _ _ h c, List.append_assoc, h1, root_two _ _ l h]; rfl
      · have h1 := ih (l.drop (sp l.length)) (i - sp l.length) d ([root node e (l.take (sp l.length))] ++ r) s (by rw [List.length_drop]; omega) (by rw [List.getElem?_drop, show sp l.length + (i - sp l.length) = i by omega]; exact hi)
        rw [List.length_drop] at h1
        rw [climb_right _ _ _ _ _ _ h c, incl_right _ _ _ _ h c, List.append_assoc, h1, root_two _ _ l h]; rfl

/-- The roots of the first m elements, and of all. -/
def grow (old : D) (m n : Nat) (known : Bool) (t : Tr D) : (D × D) × Tr D :=
  if m = n then (if known then ((old, old), t) else (((nxt z t).1, (nxt z t).1), (nxt z t).2))
  else if _h : 2 ≤ n then
    if m ≤ sp n then (((grow old m (sp n) known t).1.1, node (grow old m (sp n) known t).1.2 (nxt z (grow old m (sp n) known t).2).1), (nxt z (grow old m (sp n) known t).2).2)
    else ((node (nxt z (grow old (m - sp n) (n - sp n) false t).2).1 (grow old (m - sp n) (n - sp n) false t).1.1, node (nxt z (grow old (m - sp n) (n - sp n) false t).2).1 (grow old (m - sp n) (n - sp n) false t).1.2), (nxt z (grow old (m - sp n) (n - sp n) false t).2).2)
  else ((old, old), t)
termination_by n
decreasing_by
  all_goals first | exact sp_lt _h | (have := sp_pos n; omega)
theorem grow_all (old : D) (n : Nat) (known : Bool) (t : Tr D) : grow node z old n n known t = (if known then ((old, old), t) else (((nxt z t).1, (nxt z t).1), (nxt z t).2)) := by rw [grow, if_pos rfl]
theorem grow_left (old : D) (m n : Nat) (known : Bool) (t : Tr D) (h : 2 ≤ n) (h1 : m ≠ n) (hi : m ≤ sp n) : grow node z old m n known t = (((grow node z old m (sp n) known t).1.1, node (grow node z old m (sp n) known t).1.2 (nxt z (grow node z old m (sp n) known t).2).1), (nxt z (grow node z old m (sp n) known t).2).2) := by
  conv => lhs; rw [grow]
  rw [if_neg h1, dif_pos h, if_pos hi]
theorem grow_right (old : D) (m n : Nat) (known : Bool) (t : Tr D) (h : 2 ≤ n) (h1 : m ≠ n) (hi : ¬ m ≤ sp n) : grow node z old m n known t = ((node (nxt z (grow node z old (m - sp n) (n - sp n) false t).2).1 (grow node z old (m - sp n) (n - sp n) false t).1.1, node (nxt z (grow node z old (m - sp n) (n - sp n) false t).2).1 (grow node z old (m - sp n) (n - sp n) false t).1.2), (nxt z (grow node z old (m - sp n) (n - sp n) false t).2).2) := by
  conv => lhs; rw [grow]
  rw [if_neg h1, dif_pos h, if_neg hi]

/-- A proof leads to both roots; with the mark, from the root of the first elements. -/
theorem grow_cons (e : D) (n : Nat) : ∀ (l : List D) (m : Nat) (known : Bool) (old : D) (r : List D) (s : Bool), l.length ≤ n → 1 ≤ m → m ≤ l.length → (known = true → old = root node e (l.take m)) →
    grow node z old m l.length known ⟨cons node e l m known ++ r, s⟩ = ((root node e (l.take m), root node e l), ⟨r, s⟩) := by
  induction n with
  | zero => intro l m known old r s hl h1 h2 _; omega
  | succ n ih =>
    intro l m known old r s hl hm1 hm2 hk
    by_cases hmn : m = l.length
    · subst hmn
      rw [grow_all, cons_all]
      cases known with
      | true => simp only [if_true, List.nil_append]; rw [hk rfl, List.take_of_length_le (Nat.le_refl _)]
      | false => simp [nxt]
    · have h : 2 ≤ l.length := by omega
      have a := sp_lt h
      have b := sp_pos l.length
      by_cases c : m ≤ sp l.length
      · have ht : (l.take (sp l.length)).take m = l.take m := by rw [List.take_take, Nat.min_eq_left c]
        have h1 := ih (l.take (sp l.length)) m known old ([root node e (l.drop (sp l.length))] ++ r) s (by rw [List.length_take]; omega) hm1 (by rw [List.length_take]; omega) (by rw [ht]; exact hk)
        rw [List.length_take, Nat.min_eq_left (by omega), ht] at h1
        rw [grow_left _ _ _ _ _ _ _ h hmn c, cons_left _ _ _ _ _ h hmn c, List.append_assoc, h1, root_two _ _ l h]; rfl
      · have h1 := ih (l.drop (sp l.length)) (m - sp l.length) false old ([root node e (l.take (sp l.length))] ++ r) s (by rw [List.length_drop]; omega) (by omega) (by rw [List.length_drop]; omega) (by intro h; cases h)
        rw [List.length_drop] at h1
        have hsp : sp m = sp l.length := sp_is (j := Nat.log2 (l.length - 1)) (Nat.lt_of_not_le c) (Nat.le_trans hm2 (sp_ge h))
        have hr : root node e (l.take m) = node (root node e (l.take (sp l.length))) (root node e ((l.drop (sp l.length)).take (m - sp l.length))) := by
          have hml : (l.take m).length = m := by rw [List.length_take]; omega
          rw [root_two _ _ (l.take m) (by rw [hml]; omega), hml, hsp, List.take_take, Nat.min_eq_left (by omega), List.drop_take]
        rw [grow_right _ _ _ _ _ _ _ h hmn c, cons_right _ _ _ _ _ h hmn c, List.append_assoc, h1, hr, root_two _ _ l h]; rfl
end
end Go.Proofs.YtaihfkcoiagdaabDoor.Mk

/-
  PLAIN MATHEMATICS of peaks: what appending makes of them, and their top.
-/
namespace Go.Proofs.YtaihfkcoiagdaabDoor.Mk

/-- The greatest power of 2 that is at most n (at least 1). -/
def gp (n : Nat) : Nat := 2 ^ Nat.log2 n
theorem gp_pos (n : Nat) : 1 ≤ gp n := Nat.one_le_two_pow
theorem gp_le {n : Nat} (h : 1 ≤ n) : gp n ≤ n := Nat.log2_self_le (by omega)
theorem gp_lt (n : Nat) : n < 2 * gp n := by
  have h1 := Nat.lt_log2_self (n := n)
  rw [Nat.pow_succ] at h1
  unfold gp; omega
theorem pow_between {i j n : Nat} (h1 : 2 ^ i ≤ n) (h2 : n < 2 * 2 ^ i) (h3 : 2 ^ j ≤ n) (h4 : n < 2 * 2 ^ j) : i = j := by
  rcases Nat.lt_trichotomy i j with h | h | h
  · have := Nat.pow_le_pow_right (n := 2) (by decide) (show i + 1 ≤ j from h)
    rw [Nat.pow_succ] at this; omega
  · exact h
  · have := Nat.pow_le_pow_right (n := 2) (by decide) (show j + 1 ≤ i from h)
    rw [Nat.pow_succ] at this; omega
theorem gp_is {n j : Nat} (h1 : 2 ^ j ≤ n) (h2 : n < 2 * 2 ^ j) : gp n = 2 ^ j := by
  have p := Nat.one_le_two_pow (n := j)
  unfold gp
  rw [pow_between (gp_le (n := n) (by omega)) (gp_lt n) h1 h2]
theorem sp_gp {n : Nat} (h1 : 1 ≤ n) (h2 : gp n ≠ n) : sp n = gp n := by
  have h3 := gp_le h1
  have h4 := gp_lt n
  exact sp_is (by unfold gp at *; omega) (by unfold gp at *; omega)

/-- How many binary digits of n are 1. -/
def ones (n : Nat) : Nat := if _h : n = 0 then 0 else n % 2 + ones (n / 2)
termination_by n
decreasing_by omega
theorem ones_zero : ones 0 = 0 := by rw [ones]; rfl
theorem ones_step (n : Nat) (h : n ≠ 0) : ones n = n % 2 + ones (n / 2) := by
  conv => lhs; rw [ones]
  rw [dif_neg h]
theorem ones_add (j : Nat) : ∀ r, r < 2 ^ j → ones (2 ^ j + r) = 1 + ones r := by
  induction j with
  | zero =>
    intro r hr
    obtain rfl : r = 0 := by simp at hr; exact hr
    rw [ones_zero]; rw [ones_step 1 (by decide), ones_zero]
  | succ j ih =>
    intro r hr
    have p := Nat.one_le_two_pow (n := j)
    rw [Nat.pow_succ] at hr ⊢
    have h1 := ih (r / 2) (by omega)
    rw [ones_step _ (by omega), show (2 ^ j * 2 + r) / 2 = 2 ^ j + r / 2 by omega, h1, show (2 ^ j * 2 + r) % 2 = r % 2 by omega]
    by_cases h0 : r = 0
    · subst h0; rw [show 0 / 2 = 0 from rfl, ones_zero]
    · rw [ones_step r h0]; omega

section
variable {D : Type} (node : D → D → D) (z : D)

/-- The peaks of a list. -/
def pk (l : List D) : List D := if _h : l.length = 0 then [] else root node z (l.take (gp l.length)) :: pk (l.drop (gp l.length))
termination_by l.length
decreasing_by have := gp_pos l.length; simp only [List.length_drop]; omega
theorem pk_nil : pk node z [] = [] := by rw [pk]; rfl
theorem pk_some (l : List D) (h : l.length ≠ 0) : pk node z l = root node z (l.take (gp l.length)) :: pk node z (l.drop (gp l.length)) := by
  conv => lhs; rw [pk]
  rw [dif_neg h]
theorem pk_pow (l : List D) (h : l.length ≠ 0) (hg : gp l.length = l.length) : pk node z l = [root node z l] := by
  rw [pk_some _ _ l h, hg, List.take_of_length_le (Nat.le_refl _), List.drop_of_length_le (Nat.le_refl _), pk_nil]
theorem pk_len (n : Nat) : ∀ l : List D, l.length ≤ n → (pk node z l).length = ones l.length := by
  induction n with
  | zero => intro l hl; rw [List.eq_nil_of_length_eq_zero (by omega : l.length = 0), pk_nil]; exact ones_zero.symm
  | succ n ih =>
    intro l hl
    by_cases h0 : l.length = 0
    · rw [List.eq_nil_of_length_eq_zero h0, pk_nil]; exact ones_zero.symm
    · have g1 := gp_pos l.length
      have g2 := gp_le (n := l.length) (by omega)
      have g3 := gp_lt l.length
      rw [pk_some _ _ l h0, List.length_cons, ih _ (by rw [List.length_drop]; omega), List.length_drop]
      have h1 := ones_add (Nat.log2 l.length) (l.length - gp l.length) (by unfold gp at *; omega)
      rw [show 2 ^ Nat.log2 l.length + (l.length - gp l.length) = l.length by unfold gp at *; omega] at h1
      omega

/-- The root that peaks stand for. -/
def topOf : List D → D
  | [] => z
  | [d] => d
  | d :: e :: r => node d (topOf (e :: r))
theorem topOf_cons (d : D) (r : List D) (h : r ≠ []) : topOf node z (d :: r) = node d (topOf node z r) := by
  cases r with
  | nil => exact absurd rfl h
  | cons e r => rfl
theorem top_root (n : Nat) : ∀ l : List D, l.length ≤ n → topOf node z (pk node z l) = root node z l := by
  induction n with
  | zero => intro l hl; rw [List.eq_nil_of_length_eq_zero (by omega : l.length = 0), pk_nil, root_nil]; rfl
  | succ n ih =>
    intro l hl
    by_cases h0 : l.length = 0
    · rw [List.eq_nil_of_length_eq_zero h0, pk_nil, root_nil]; rfl
    · have g1 := gp_pos l.length
      have g2 := gp_le (n := l.length) (by omega)
      by_cases hg : gp l.length = l.length
      · rw [pk_pow _ _ l h0 hg]; rfl
      · have hs := sp_gp (by omega) hg
        have hd : (l.drop (gp l.length)).length ≠ 0 := by rw [List.length_drop]; omega
        rw [pk_some _ _ l h0, topOf_cons _ _ _ _ (by rw [pk_some _ _ _ hd]; exact List.cons_ne_nil _ _), ih _ (by rw [List.length_drop]; omega), root_two _ _ l (by omega), hs]

/-- Appending: the last parts are as large as what has come, and become one. -/
def app (n : Nat) (ts : List D) (x : D) : List D := if _h : n % 2 = 1 then app (n / 2) ts.dropLast (node (ts.getLastD z) x) else ts ++ [x]
termination_by n
decreasing_by omega
theorem app_odd (n : Nat) (ts : List D) (x : D) (h : n % 2 = 1) : app node z n ts x = app node z (n / 2) ts.dropLast (node (ts.getLastD z) x) := by
  conv => lhs; rw [app]
  rw [dif_pos h]
theorem app_even (n : Nat) (ts : List D) (x : D) (h : ¬ n % 2 = 1) : app node z n ts x = ts ++ [x] := by rw [app, dif_neg h]

theorem gp_mul {s i : Nat} (h : 1 ≤ s) : gp (s * 2 ^ i) = gp s * 2 ^ i := by
  have p := Nat.one_le_two_pow (n := i)
  have h1 := gp_le h
  have h2 := gp_lt s
  have e : gp s * 2 ^ i = 2 ^ (Nat.log2 s + i) := by unfold gp; rw [Nat.pow_add]
  rw [e]
  apply gp_is
  · rw [← e]; exact Nat.mul_le_mul_right _ h1
  · rw [← e, ← Nat.mul_assoc]; exact Nat.mul_lt_mul_of_pos_right h2 (by omega)

/-- The last peak of a list of s times 2^i elements, s odd. -/
theorem pk_last (i n : Nat) : ∀ (s : Nat) (l : List D), s ≤ n → s % 2 = 1 → l.length = s * 2 ^ i → pk node z l = pk node z (l.take ((s - 1) * 2 ^ i)) ++ [root node z (l.drop ((s - 1) * 2 ^ i))] := by
  have p := Nat.one_le_two_pow (n := i)
  induction n with
  | zero => intro s l h1 h2; omega
  | succ n ih =>
    intro s l h1 h2 hl
    have hs1 : 1 ≤ s := by omega
    have hlp : 1 ≤ s * 2 ^ i := Nat.mul_pos hs1 p
    by_cases h3 : s = 1
    · subst h3
      rw [Nat.one_mul] at hl
      rw [Nat.sub_self, Nat.zero_mul, List.take_zero, List.drop_zero, pk_nil, List.nil_append]
      exact pk_pow _ _ l (by omega) (by rw [hl]; exact gp_is (Nat.le_refl _) (by omega))
    · have g1 := gp_le hs1
      have g2 := gp_lt s
      have gpe : gp s % 2 = 0 := by
        unfold gp
        have : Nat.log2 s ≠ 0 := fun h => by unfold gp at g2; rw [h] at g2; omega
        obtain ⟨j, hj⟩ := Nat.exists_eq_succ_of_ne_zero this
        rw [hj, Nat.pow_succ]; omega
      have gp1 := gp_pos s
      have hgl : gp l.length = gp s * 2 ^ i := by rw [hl, gp_mul hs1]
      have hlt : (s - 1) * 2 ^ i ≤ l.length := by rw [hl]; exact Nat.mul_le_mul_right _ (by omega)
      have hgs : gp s * 2 ^ i ≤ (s - 1) * 2 ^ i := Nat.mul_le_mul_right _ (by omega)
      have hgp2 : gp ((s - 1) * 2 ^ i) = gp s * 2 ^ i := by
        rw [gp_mul (by omega)]
        congr 1
        unfold gp
        exact gp_is (by unfold gp at *; omega) (by unfold gp at *; omega)
      have e1 : (s - gp s) * 2 ^ i = s * 2 ^ i - gp s * 2 ^ i := Nat.sub_mul _ _ _
      have e2 : (s - gp s - 1) * 2 ^ i = (s - 1) * 2 ^ i - gp s * 2 ^ i := by rw [← Nat.sub_mul]; congr 1; omega
      have h4 := ih (s - gp s) (l.drop (gp s * 2 ^ i)) (by omega) (by omega) (by rw [List.length_drop, hl, e1])
      have hne : (l.take ((s - 1) * 2 ^ i)).length ≠ 0 := by
        rw [List.length_take, Nat.min_eq_left hlt]
        have : 0 < (s - 1) * 2 ^ i := Nat.mul_pos (by omega) p
        omega
      rw [pk_some _ _ l (by omega), hgl, h4, pk_some _ _ (l.take ((s - 1) * 2 ^ i)) hne, List.length_take, Nat.min_eq_left hlt, hgp2, List.take_take, Nat.min_eq_left hgs, e2, List.drop_take, List.drop_drop, show gp s * 2 ^ i + ((s - 1) * 2 ^ i - gp s * 2 ^ i) = (s - 1) * 2 ^ i by omega, List.cons_append]

theorem app_pk (n : Nat) : ∀ (s i : Nat) (l1 l2 : List D), s ≤ n → l1.length = s * 2 ^ i → l2.length = 2 ^ i → app node z s (pk node z l1) (root node z l2) = pk node z (l1 ++ l2) := by
  induction n with
  | zero =>
    intro s i l1 l2 hs h1 h2
    obtain rfl : s = 0 := by omega
    rw [Nat.zero_mul] at h1
    have p := Nat.one_le_two_pow (n := i)
    rw [List.eq_nil_of_length_eq_zero h1, pk_nil, app_even _ _ _ _ _ (by decide), List.nil_append, List.nil_append, pk_pow _ _ l2 (by omega) (by rw [h2]; exact gp_is (Nat.le_refl _) (by omega))]
  | succ n ih =>
    intro s i l1 l2 hs h1 h2
    have p := Nat.one_le_two_pow (n := i)
    by_cases ho : s % 2 = 1
    · have hlt : (s - 1) * 2 ^ i ≤ l1.length := by rw [h1]; exact Nat.mul_le_mul_right _ (by omega)
      have hd : (l1.drop ((s - 1) * 2 ^ i)).length = 2 ^ i := by
        rw [List.length_drop, h1, ← Nat.sub_mul, show s - (s - 1) = 1 by omega, Nat.one_mul]
      rw [app_odd _ _ _ _ _ ho, pk_last node z i s s l1 (Nat.le_refl _) ho h1, List.dropLast_concat]
      have hg : (pk node z (l1.take ((s - 1) * 2 ^ i)) ++ [root node z (l1.drop ((s - 1) * 2 ^ i))]).getLastD z = root node z (l1.drop ((s - 1) * 2 ^ i)) := by simp
      have hr : node (root node z (l1.drop ((s - 1) * 2 ^ i))) (root node z l2) = root node z (l1.drop ((s - 1) * 2 ^ i) ++ l2) := by
        have hlen : (l1.drop ((s - 1) * 2 ^ i) ++ l2).length = 2 * 2 ^ i := by rw [List.length_append, hd, h2]; omega
        have hsp : sp (l1.drop ((s - 1) * 2 ^ i) ++ l2).length = 2 ^ i := by rw [hlen]; exact sp_is (by omega) (Nat.le_refl _)
        rw [root_two _ _ (l1.drop ((s - 1) * 2 ^ i) ++ l2) (by omega), hsp, List.take_left' hd, List.drop_left' hd]
      rw [hg, hr, ih (s / 2) (i + 1) _ _ (by omega) ?_ ?_, ← List.append_assoc, List.take_append_drop]
      · rw [List.length_take, Nat.min_eq_left hlt, Nat.pow_succ, Nat.mul_comm (2 ^ i) 2, ← Nat.mul_assoc]; congr 1; omega
      · rw [List.length_append, hd, h2, Nat.pow_succ]; omega
    · have hlen : (l1 ++ l2).length = (s + 1) * 2 ^ i := by rw [List.length_append, h1, h2, Nat.add_mul, Nat.one_mul]
      rw [app_even _ _ _ _ _ ho, pk_last node z i (s + 1) (s + 1) (l1 ++ l2) (Nat.le_refl _) (by omega) hlen, Nat.add_sub_cancel, List.take_left' h1, List.drop_left' h1]
theorem app_snoc (l : List D) (x : D) : app node z l.length (pk node z l) x = pk node z (l ++ [x]) := by
  have h := app_pk node z l.length l.length 0 l [x] (Nat.le_refl _) (by simp) rfl
  rwa [root_one] at h
end
end Go.Proofs.YtaihfkcoiagdaabDoor.Mk

/-
  PLAIN MATHEMATICS of proofs for several places.
-/
namespace Go.Proofs.YtaihfkcoiagdaabDoor.Mk

/-- How many places are less than x. -/
def cnt (ps : List Int) (x : Int) : Nat := ps.countP (· < x)
theorem cnt_le (ps : List Int) (x : Int) : cnt ps x ≤ ps.length := List.countP_le_length
theorem cnt_parts (ps : List Int) (x : Int) (h : ps.Pairwise (· < ·)) : (∀ p ∈ ps.take (cnt ps x), p < x) ∧ (∀ p ∈ ps.drop (cnt ps x), x ≤ p) := by
  induction ps with
  | nil => exact ⟨fun p hp => by simp at hp, fun p hp => by simp at hp⟩
  | cons a r ih =>
    rw [List.pairwise_cons] at h
    by_cases ha : a < x
    · have e : cnt (a :: r) x = cnt r x + 1 := by unfold cnt; rw [List.countP_cons, if_pos (by simpa using ha)]
      rw [e, List.take_succ_cons, List.drop_succ_cons]
      refine ⟨fun p hp => ?_, (ih h.2).2⟩
      rcases List.mem_cons.1 hp with rfl | hp
      · exact ha
      · exact (ih h.2).1 p hp
    · have e0 : cnt r x = 0 := by
        unfold cnt
        rw [List.countP_eq_zero]
        intro p hp
        have := h.1 p hp
        simp; omega
      have e : cnt (a :: r) x = 0 := by
        have : cnt (a :: r) x = cnt r x := by unfold cnt; rw [List.countP_cons, if_neg (by simpa using ha)]; rfl
        rw [this, e0]
      rw [e]
      refine ⟨fun p hp => by simp at hp, fun p hp => ?_⟩
      rw [List.drop_zero] at hp
      rcases List.mem_cons.1 hp with rfl | hp
      · omega
      · have := h.1 p hp; omega

section
variable {D : Type} (node : D → D → D) (z : D)

/-- The proof for several places; the part begins at the place b. -/
def many (l : List D) (b : Int) (ps : List Int) : List D :=
  if ps = [] then [root node z l]
  else if _h : 2 ≤ l.length then many (l.take (sp l.length)) b (ps.take (cnt ps (b + sp l.length))) ++ many (l.drop (sp l.length)) (b + sp l.length) (ps.drop (cnt ps (b + sp l.length)))
  else []
termination_by l.length
decreasing_by
  · have := sp_lt _h; simp only [List.length_take]; omega
  · have := sp_pos l.length; simp only [List.length_drop]; omega
theorem many_none (l : List D) (b : Int) : many node z l b [] = [root node z l] := by rw [many, if_pos rfl]
theorem many_two (l : List D) (b : Int) (ps : List Int) (h0 : ps ≠ []) (h : 2 ≤ l.length) : many node z l b ps = many node z (l.take (sp l.length)) b (ps.take (cnt ps (b + sp l.length))) ++ many node z (l.drop (sp l.length)) (b + sp l.length) (ps.drop (cnt ps (b + sp l.length))) := by
  conv => lhs; rw [many]
  rw [if_neg h0, dif_pos h]
theorem many_small (l : List D) (b : Int) (ps : List Int) (h0 : ps ≠ []) (h : ¬ 2 ≤ l.length) : many node z l b ps = [] := by rw [many, if_neg h0, dif_neg h]

/-- What a check makes of places, of what is found there, and of a path. -/
def gather (b : Int) (n : Nat) (ps : List Int) (fs : List D) (t : Tr D) : D × Tr D :=
  if ps = [] then nxt z t
  else if _h : 2 ≤ n then
    (node (gather b (sp n) (ps.take (cnt ps (b + sp n))) (fs.take (cnt ps (b + sp n))) t).1
      (gather (b + sp n) (n - sp n) (ps.drop (cnt ps (b + sp n))) (fs.drop (cnt ps (b + sp n))) (gather b (sp n) (ps.take (cnt ps (b + sp n))) (fs.take (cnt ps (b + sp n))) t).2).1,
     (gather (b + sp n) (n - sp n) (ps.drop (cnt ps (b + sp n))) (fs.drop (cnt ps (b + sp n))) (gather b (sp n) (ps.take (cnt ps (b + sp n))) (fs.take (cnt ps (b + sp n))) t).2).2)
  else (fs.headD z, t)
termination_by n
decreasing_by
  all_goals first | exact sp_lt _h | (have := sp_pos n; omega)
theorem gather_none (b : Int) (n : Nat) (fs : List D) (t : Tr D) : gather node z b n [] fs t = nxt z t := by rw [gather, if_pos rfl]
theorem gather_one (b : Int) (n : Nat) (ps : List Int) (fs : List D) (t : Tr D) (h0 : ps ≠ []) (h : ¬ 2 ≤ n) : gather node z b n ps fs t = (fs.headD z, t) := by rw [gather, if_neg h0, dif_neg h]
theorem gather_two (b : Int) (n : Nat) (ps : List Int) (fs : List D) (t : Tr D) (h0 : ps ≠ []) (h : 2 ≤ n) : gather node z b n ps fs t =
    (node (gather node z b (sp n) (ps.take (cnt ps (b + sp n))) (fs.take (cnt ps (b + sp n))) t).1
      (gather node z (b + sp n) (n - sp n) (ps.drop (cnt ps (b + sp n))) (fs.drop (cnt ps (b + sp n))) (gather node z b (sp n) (ps.take (cnt ps (b + sp n))) (fs.take (cnt ps (b + sp n))) t).2).1,
     (gather node z (b + sp n) (n - sp n) (ps.drop (cnt ps (b + sp n))) (fs.drop (cnt ps (b + sp n))) (gather node z b (sp n) (ps.take (cnt ps (b + sp n))) (fs.take (cnt ps (b + sp n))) t).2).2) := by
  conv => lhs; rw [gather]
  rw [if_neg h0, dif_pos h]

/-- A proof for several places leads from what is found there to the root. -/
theorem gather_many (e : D) (N : Nat) : ∀ (l : List D) (b : Int) (ps : List Int) (r : List D) (s : Bool), l.length ≤ N → 1 ≤ l.length → ps.Pairwise (· < ·) → (∀ p ∈ ps, b ≤ p ∧ p < b + l.length) →
    gather node z b l.length ps (ps.map fun p => l.getD (p - b).toNat z) ⟨many node e l b ps ++ r, s⟩ = (root node e l, ⟨r, s⟩) := by
  induction N with
  | zero => intro l b ps r s h1 h2; omega
  | succ N ih =>
    intro l b ps r s hl h1 hp hin
    by_cases h0 : ps = []
    · subst h0
      rw [gather_none, many_none]; rfl
    · by_cases h : 2 ≤ l.length
      · have a1 := sp_lt h
        have a0 := sp_pos l.length
        have hc := cnt_parts ps (b + sp l.length) hp
        have i1 := ih (l.take (sp l.length)) b (ps.take (cnt ps (b + sp l.length))) (many node e (l.drop (sp l.length)) (b + sp l.length) (ps.drop (cnt ps (b + sp l.length))) ++ r) s
          (by rw [List.length_take]; omega) (by rw [List.length_take]; omega) (hp.sublist (List.take_sublist _ _))
          (fun p hq => ⟨(hin p (List.mem_of_mem_take hq)).1, by have := hc.1 p hq; rw [List.length_take]; omega⟩)
        have i2 := ih (l.drop (sp l.length)) (b + sp l.length) (ps.drop (cnt ps (b + sp l.length))) r s
          (by rw [List.length_drop]; omega) (by rw [List.length_drop]; omega) (hp.sublist (List.drop_sublist _ _))
          (fun p hq => ⟨hc.2 p hq, by have := (hin p (List.mem_of_mem_drop hq)).2; rw [List.length_drop]; omega⟩)
        have m1 : (ps.take (cnt ps (b + sp l.length))).map (fun p => (l.take (sp l.length)).getD (p - b).toNat z) = (ps.take (cnt ps (b + sp l.length))).map (fun p => l.getD (p - b).toNat z) := by
          apply List.map_congr_left
          intro p hq
          have := hc.1 p hq
          have := (hin p (List.mem_of_mem_take hq)).1
          rw [List.getD_eq_getElem?_getD, List.getD_eq_getElem?_getD, List.getElem?_take_of_lt (by omega)]
        have m2 : (ps.drop (cnt ps (b + sp l.length))).map (fun p => (l.drop (sp l.length)).getD (p - (b + sp l.length)).toNat z) = (ps.drop (cnt ps (b + sp l.length))).map (fun p => l.getD (p - b).toNat z) := by
          apply List.map_congr_left
          intro p hq
          have := hc.2 p hq
          rw [List.getD_eq_getElem?_getD, List.getD_eq_getElem?_getD, List.getElem?_drop, show sp l.length + (p - (b + sp l.length)).toNat = (p - b).toNat by omega]
        rw [m1, List.length_take, Nat.min_eq_left (by omega)] at i1
        rw [m2, List.length_drop] at i2
        rw [gather_two _ _ _ _ _ _ _ h0 h, many_two _ _ _ _ _ h0 h, ← List.map_take, ← List.map_drop, List.append_assoc, i1, i2, root_two _ _ l h]
      · rw [gather_one _ _ _ _ _ _ _ h0 h, many_small _ _ _ _ _ h0 h]
        obtain ⟨x, rfl⟩ := List.length_eq_one_iff.1 (show l.length = 1 by omega)
        match ps, h0, hin with
        | p :: q, _, hin =>
          have := hin p List.mem_cons_self
          simp only [List.length_singleton] at this
          rw [root_one, List.map_cons, show (p - b).toNat = 0 by omega]; rfl
end
end Go.Proofs.YtaihfkcoiagdaabDoor.Mk

/-
  DIGESTS IN MEMORY: whole arrays read at an address; slices of digests; arguments of digests opened.
-/
namespace Go.Proofs.YtaihfkcoiagdaabDoor
open Go.RowKit Go.ChangeShapes Go.WideShapes Go.ChangeAt

/-- A whole array read at an address. -/
theorem run_loadAt_addr {P : Program} (w : World) (ad : Addr) (ty : TypeId) (cs : List Value) (d : TypeDesc) (hc : ∀ j v, cs[j]? = some v → w.cell? (ad.add j) = some v)
    (hu : P.underlying ty = some d) (hd : d.isRow = true) (hi : (P.info? ty).map (·.size) = some cs.length) :
    (Instr.loadAt ty (.pointer (some ad))).run P w = .ok (.agg cs.toArray) w := by
  have hl : (loadCells ad cs.length).run P w = .ok cs.toArray w := run_loadCells_list (P := P) w ad cs hc
  cases hq : P.info? ty with
  | none => simp [hq] at hi
  | some i =>
    have hs : i.size = cs.length := by simpa [hq] using hi
    have hagg : (isAgg ty).run P w = .ok true w := by
      unfold isAgg
      rw [Sem.run_bind, run_underlying hu w]
      cases d <;> simp_all
    simp [Instr.loadAt, Instr.sureAddr, loadVar, Sem.run_bind, hagg, sizeOf, typeInfo, hq, hs, hl]

/-- At the operation. -/
theorem wpList_load_addr {P : Program} {ops : Array Oper} {rest : List Oper} {o : Oper} {a : Act} {w : World} {Q : Exit → Act → World → Prop} (hgd : o.guard = none) (ty : TypeId) (x : Operand) (ho : o.op = .load ty x)
    (ad : Addr) (cs : List Value) (d : TypeDesc) (hx : a.eval x = .pointer (some ad)) (hc : ∀ j v, cs[j]? = some v → w.cell? (ad.add j) = some v)
    (hu : P.underlying ty = some d) (hd : d.isRow = true) (hi : (P.info? ty).map (·.size) = some cs.length)
    (h : wpList P ops Q rest (a.put o.dst (.agg cs.toArray)) w) : wpList P ops Q (o :: rest) a w := by
  refine wpList_plain hgd fun K hK => ?_
  have hrun := run_loadAt_addr (P := P) w ad ty cs d hc hu hd hi
  unfold Oper.wp execOp
  simp only [ho, hx, Sem.run_bind, hrun, Sem.run_pure, Result.andThen_ok]
  exact hK _ _ h

/-- A whole array stored into the block that was made last. -/
theorem wpList_store_new {P : Program} {ops : Array Oper} {rest : List Oper} {o : Oper} {a : Act} {w0 : World} {Q : Exit → Act → World → Prop} (hgd : o.guard = none) (ty : TypeId) (x y : Operand) (ho : o.op = .store ty x y)
    (c c' : Array Value) (hx : a.eval x = .pointer (some ⟨w0.heap.size, 0, none⟩)) (hy : a.eval y = .agg c') (hi : (P.info? ty).map (·.size) = some c'.size) (hc : c.size = c'.size) (h1 : c'.all (·.oneCell') = true)
    (h : wpList P ops Q rest (a.put o.dst undef) (w0.alloc (.cells c' ty))) : wpList P ops Q (o :: rest) a (w0.alloc (.cells c ty)) := by
  refine wpList_plain hgd fun K hK => ?_
  have hrun := run_storeAt_new (P := P) w0 ty c c' hi hc h1
  unfold Oper.wp execOp
  simp only [ho, hx, hy, Sem.run_bind, hrun, Sem.run_pure, Result.andThen_ok]
  exact hK _ _ h

/-- Digests: lists of 16 bytes; their cells. -/
def isD (l : List Wm.Bs) : Prop := ∀ d ∈ l, d.length = 16 ∧ Wm.isBs d
def Ds (l : List Wm.Bs) : List Value := U l.flatten
theorem flat_len {l : List Wm.Bs} (h : isD l) : l.flatten.length = l.length * 16 := by
  induction l with
  | nil => rfl
  | cons d r ih =>
    rw [List.flatten_cons, List.length_append, ih (fun x hx => h x (List.mem_cons_of_mem _ hx)), (h d (List.mem_cons_self)).1, List.length_cons]
    omega
theorem flat_at {l : List Wm.Bs} (h : isD l) : ∀ (k : Nat) (hk : k < l.length) (j : Nat), j < 16 → l.flatten[k * 16 + j]? = l[k][j]? := by
  induction l with
  | nil => intro k hk; simp at hk
  | cons d r ih =>
    intro k hk j hj
    have hd := (h d (List.mem_cons_self)).1
    cases k with
    | zero => rw [List.flatten_cons, List.getElem?_append_left (by omega)]; simp
    | succ k =>
      rw [List.flatten_cons, List.getElem?_append_right (by omega), hd, show (k + 1) * 16 + j - 16 = k * 16 + j by omega]
      exact ih (fun x hx => h x (List.mem_cons_of_mem _ hx)) k (by simpa using hk) j hj
theorem Sl.digest {w : World} {A : Option Addr} {n : Nat} {l : List Wm.Bs} (h : Sl w 16 A n (Ds l)) (hl : isD l) {k : Nat} (hk : k < n) :
    ∃ ad, A = some ad ∧ ad.block < w.heap.size ∧ ∃ hkl : k < l.length, ∀ j v, (U l[k])[j]? = some v → w.cell? ((ad.add (k * 16)).add j) = some v := by
  obtain ⟨ad, e, hb, hc⟩ := h.2 (by omega)
  have hn : l.length = n := by have := h.1; unfold Ds at this; rw [U_length, flat_len hl] at this; omega
  have hkl : k < l.length := by omega
  refine ⟨ad, e, hb, hkl, fun j v hv => ?_⟩
  rw [addr_add_add]
  apply hc
  have hj : j < 16 := by
    have h16 := (hl _ (List.getElem_mem hkl)).1
    rcases Nat.lt_or_ge j 16 with h | h
    · exact h
    · rw [List.getElem?_eq_none (by rw [U_length]; omega)] at hv; cases hv
  have hf := flat_at hl k hkl j hj
  unfold Ds U at *
  rw [List.getElem?_map] at hv ⊢
  rw [hf]; exact hv
theorem Sl.dlen {w : World} {A : Option Addr} {n : Nat} {l : List Wm.Bs} (h : Sl w 16 A n (Ds l)) (hl : isD l) : l.length = n := by
  have := h.1; unfold Ds at this; rw [U_length, flat_len hl] at this; omega

theorem dig_info : (Tryd.prog.info? 31).map (fun i => (i.zero, i.size, i.bytes)) = some (some (.agg (Array.replicate 16 (.int .u8 0))), 16, 16) := by kernel_rfl
theorem dig_size : (Tryd.prog.info? 31).map (·.size) = some 16 := by kernel_rfl
theorem dig_under : Tryd.prog.underlying 31 = some (.array 16 5) := by kernel_rfl

section
variable {H : Type} {enc : TypeId × Value → H} {P : Program} {W : World} {r : Reach} {b0 : Nat} {v : Value} {d : DataW H} {p : List MemPlace}

theorem cells_at {w : World} {base : Nat} {a : Addr} {n : Nat} {cs : List Value} (h : w.cells? base a n = some cs) : cs.length = n ∧ ∀ j, j < n → w.cell? (a.add j) = cs[j]? := by
  unfold World.cells? at h
  split at h
  · refine ⟨by simpa using mapM_some_length h, fun j hj => mapM_some_get h j j (by simp [hj])⟩
  · cases h

theorem digest_open {w : World} {base fuel : Nat} {sp : Nat → Bool} {held : Bool} {t e : TypeId} {cs : List Value} {x : DataW H × List MemPlace} (ht : P.underlying t = some (.array 16 e)) (he : P.underlying e = some (.int .u8)) (hc : P.cellsOf e = 1) (hc2 : P.cellsOf t = 16)
    (h : DataW.trod enc P w base sp held fuel t cs = some x) : ∃ b : Wm.Bs, b.length = 16 ∧ Wm.isBs b ∧ cs = U b := by
  obtain ⟨xs, m, _, _, hlen, hxs, hel⟩ := DataW.trod_array ht h
  rw [hc2] at hlen
  rw [hc] at hel
  have each : ∀ i, i < 16 → ∃ z : Int, cs[i]? = some (.int .u8 z) ∧ 0 ≤ z ∧ z < 256 := by
    intro i hi
    have h1 := hel i hi
    rw [List.getElem?_eq_getElem (by omega)] at h1
    obtain ⟨z, hz, _, hw⟩ := DataW.trod_int he h1
    have h2 : cs[i]? = some (.int .u8 z) := by
      have h3 := congrArg (fun l : List Value => l[0]?) hz
      simpa using h3
    have h3 : IntKind.u8.min = 0 := rfl
    have h4 : IntKind.u8.max = 255 := rfl
    simp only [Lit.wf, Bool.and_eq_true, decide_eq_true_eq] at hw
    exact ⟨z, h2, by omega, by omega⟩
  obtain ⟨f, hf⟩ := Deep.choose_lt each
  refine ⟨(List.range 16).map f, by simp, fun y hy => ?_, ?_⟩
  · obtain ⟨i, hi, rfl⟩ := List.mem_map.1 hy
    exact (hf i (by simpa using hi)).2
  · apply List.ext_getElem?
    intro i
    rcases Nat.lt_or_ge i 16 with hi | hi
    · rw [(hf i hi).1]; simp [U, hi]
    · rw [List.getElem?_eq_none (by omega), List.getElem?_eq_none (by simp [U]; omega)]

theorem digs_arg {t e u : TypeId} (ht : P.underlying t = some (.slice e)) (he : P.underlying e = some (.array 16 u)) (hu : P.underlying u = some (.int .u8)) (hc : P.cellsOf e = 16) (hcu : P.cellsOf u = 1) (hv : Value.okWide P W r b0 t v) (h : DataW.Trod enc P W 0 (fun _ => true) true t v d p) :
    ∃ A n c l, v = .slice A n c ∧ n ≤ c ∧ c ≤ maxLen ∧ Sl W 16 A n (Ds l) ∧ isD l := by
  obtain ⟨a0, len, cap, rfl⟩ := okWide_slice ht hv
  obtain ⟨fuel, hf⟩ := h
  rcases Deep.open_slice ht hf with ⟨hcs, hx⟩ | ⟨a, len', cap', m, n, D, Pl, hcs, _, hl, hm, hmm, hx, hel⟩
  · simp [Value.cells] at hcs
    obtain ⟨rfl, rfl, rfl⟩ := hcs
    exact ⟨none, 0, 0, [], rfl, Nat.le_refl _, Nat.zero_le _, Sl.nil _ _ _, fun x hx => by cases hx⟩
  · simp [Value.cells] at hcs
    obtain ⟨rfl, rfl, rfl⟩ := hcs
    simp only [if_true] at hmm
    have each : ∀ i, i < len → ∃ b : Wm.Bs, b.length = 16 ∧ Wm.isBs b ∧ ∀ j, j < 16 → W.cell? ((a.add (i * 16)).add j) = (U b)[j]? := by
      intro i hi
      obtain ⟨cs', h1, h2⟩ := hel i (by omega)
      rw [hc] at h1
      obtain ⟨b, h3, h4, rfl⟩ := digest_open he hu hcu hc h2
      exact ⟨b, h3, h4, (cells_at h1).2⟩
    obtain ⟨f, hfl⟩ := Deep.choose_lt each
    have hD : isD ((List.range len).map f) := fun y hy => by
      obtain ⟨i, hi, rfl⟩ := List.mem_map.1 hy
      exact ⟨(hfl i (by simpa using hi)).1, (hfl i (by simpa using hi)).2.1⟩
    refine ⟨some a, len, cap, (List.range len).map f, rfl, hl, hm, ⟨by unfold Ds; rw [U_length, flat_len hD]; simp, fun hn => ⟨a, rfl, ?_, ?_⟩⟩, hD⟩
    · have h0 := (hfl 0 hn).2.2 0 (by omega)
      rw [U_get _ 0 (by rw [(hfl 0 hn).1]; omega)] at h0
      have h1 := World.block_lt_of_cell? W _ h0
      rwa [addr_add_block, addr_add_block] at h1
    · intro j y hy
      have hj : j < len * 16 := by
        rcases Nat.lt_or_ge j (len * 16) with h | h
        · exact h
        · rw [List.getElem?_eq_none (by unfold Ds; rw [U_length, flat_len hD]; simpa using h)] at hy; cases hy
      have hk : j / 16 < len := by omega
      have h1 := (hfl (j / 16) hk).2.2 (j % 16) (by omega)
      rw [addr_add_add, show j / 16 * 16 + j % 16 = j by omega] at h1
      rw [h1]
      have h2 := flat_at hD (j / 16) (by simpa using hk) (j % 16) (by omega)
      rw [show j / 16 * 16 + j % 16 = j by omega] at h2
      unfold Ds U at hy
      unfold U
      rw [List.getElem?_map, h2] at hy
      rw [List.getElem?_map, ← hy]
      simp
end

end Go.Proofs.YtaihfkcoiagdaabDoor

/-
  DERIVED: THE SHELF's CONTRACTS AT THIS DUMP, IN PLAIN WORDS (tools/lay-plain.mjs out of 'TrydShelf.lean', which tools/lay-shelf.mjs wrote): THE SAME DECLARATIONS UNDER THE SAME NAMES: 'import', 'namespace', 'open', 'def', 'theorem' AND NOTHING ELSE: no command of the shelf's: FOR A HAND-IN. Each laying: the table of numbers ('.._ren') and one theorem, a field a fact of the dump's own or the kernel's comparison; each contract: ONE APPLICATION.
-/
namespace Go.Proofs
open Go.Shelf
def Tryd.lays128_ren : Go.Shelf.Ren := ⟨fun | 128 => 77 | n => n, fun | 51 => 95 | 3 => 3 | 4 => 4 | 46 => 107 | 5 => 5 | 9 => 9 | n => n, fun | n => n⟩
theorem Tryd.lays128 : Go.Proofs.Lays.n128 Tryd.prog Tryd.lays128_ren := {
  mixed := by kernel_rfl
  f128 := Tryd.func77.trans (congrArg some (by kernel_rfl))
  t3 := Tryd.underlying3
  a3 := Tryd.isAgg3
  z3 := Tryd.sizeOf3
  v3 := Tryd.zeroValue3
  t4 := Tryd.underlying4
  a4 := Tryd.isAgg4
  z4 := Tryd.sizeOf4
  v4 := Tryd.zeroValue4
  t5 := Tryd.underlying5
  a5 := Tryd.isAgg5
  z5 := Tryd.sizeOf5
  v5 := Tryd.zeroValue5
  t9 := Tryd.underlying9
  a9 := Tryd.isAgg9
  z9 := Tryd.sizeOf9
  v9 := Tryd.zeroValue9
  t46 := Tryd.underlying107
  a46 := Tryd.isAgg107
  z46 := Tryd.sizeOf107
  v46 := Tryd.zeroValue107
  t51 := Tryd.underlying95
  a51 := Tryd.isAgg95
  z51 := Tryd.sizeOf95
  v51 := Tryd.zeroValue95 }
/-- bits.Len32: "Len32 returns the minimum number of bits required to represent x; the result is 0 for x == 0.": IT RETURNS 'Lib.bitLen x'; the world is as it was. ('h0', 'h1': x is a uint32.) (LAID: no walk: one application.) -/
theorem Tryd.bits_Len32 (x : Int) (w : World) (h0 : 0 ≤ x) (h1 : x ≤ 4294967295) :
    Calls Tryd.prog 77 #[.int .u32 x] w fun e w' => e = .returned (.int .i64 (Lib.bitLen x.toNat)) ∧ w' = w := Any.bits_Len32 Tryd.lays128 x w h0 h1
def Tryd.lays125_ren : Go.Shelf.Ren := ⟨fun | 125 => 68 | 128 => 77 | 129 => 78 | n => n, fun | 46 => 107 | 3 => 3 | 51 => 95 | 53 => 55 | 4 => 4 | 5 => 5 | 9 => 9 | n => n, fun | n => n⟩
theorem Tryd.lays125 : Go.Proofs.Lays.n125 Tryd.prog Tryd.lays125_ren := {
  mixed := by kernel_rfl
  f125 := Tryd.func68.trans (congrArg some (by kernel_rfl))
  f128 := Tryd.func77.trans (congrArg some (by kernel_rfl))
  f129 := Tryd.func78.trans (congrArg some (by kernel_rfl))
  t3 := Tryd.underlying3
  a3 := Tryd.isAgg3
  z3 := Tryd.sizeOf3
  v3 := Tryd.zeroValue3
  t4 := Tryd.underlying4
  a4 := Tryd.isAgg4
  z4 := Tryd.sizeOf4
  v4 := Tryd.zeroValue4
  t5 := Tryd.underlying5
  a5 := Tryd.isAgg5
  z5 := Tryd.sizeOf5
  v5 := Tryd.zeroValue5
  t9 := Tryd.underlying9
  a9 := Tryd.isAgg9
  z9 := Tryd.sizeOf9
  v9 := Tryd.zeroValue9
  t46 := Tryd.underlying107
  a46 := Tryd.isAgg107
  z46 := Tryd.sizeOf107
  v46 := Tryd.zeroValue107
  t51 := Tryd.underlying95
  a51 := Tryd.isAgg95
  z51 := Tryd.sizeOf95
  v51 := Tryd.zeroValue95
  t53 := Tryd.underlying55
  a53 := Tryd.isAgg55
  z53 := Tryd.sizeOf55
  v53 := Tryd.zeroValue55 }
/-- bits.Len: "Len returns the minimum number of bits required to represent x; the result is 0 for x == 0.": IT RETURNS 'Lib.bitLen x'; the world is as it was. (A uint has 64 bits in the model.) ITS CALLEE bits.Len64 IS MET BY ITS OWN CONTRACT OFF THE SHELF (lay that first). (LAID: no walk: one application.) -/
theorem Tryd.bits_Len (x : Int) (w : World) (h0 : 0 ≤ x) (h1 : x ≤ 18446744073709551615) :
    Calls Tryd.prog 68 #[.int .u64 x] w fun e w' => e = .returned (.int .i64 (Lib.bitLen x.toNat)) ∧ w' = w := Any.bits_Len Tryd.lays125 x w h0 h1
def Tryd.lays129_ren : Go.Shelf.Ren := ⟨fun | 129 => 78 | n => n, fun | 53 => 55 | 3 => 3 | 4 => 4 | 46 => 107 | 5 => 5 | 9 => 9 | n => n, fun | n => n⟩
theorem Tryd.lays129 : Go.Proofs.Lays.n129 Tryd.prog Tryd.lays129_ren := {
  mixed := by kernel_rfl
  f129 := Tryd.func78.trans (congrArg some (by kernel_rfl))
  t3 := Tryd.underlying3
  a3 := Tryd.isAgg3
  z3 := Tryd.sizeOf3
  v3 := Tryd.zeroValue3
  t4 := Tryd.underlying4
  a4 := Tryd.isAgg4
  z4 := Tryd.sizeOf4
  v4 := Tryd.zeroValue4
  t5 := Tryd.underlying5
  a5 := Tryd.isAgg5
  z5 := Tryd.sizeOf5
  v5 := Tryd.zeroValue5
  t9 := Tryd.underlying9
  a9 := Tryd.isAgg9
  z9 := Tryd.sizeOf9
  v9 := Tryd.zeroValue9
  t46 := Tryd.underlying107
  a46 := Tryd.isAgg107
  z46 := Tryd.sizeOf107
  v46 := Tryd.zeroValue107
  t53 := Tryd.underlying55
  a53 := Tryd.isAgg55
  z53 := Tryd.sizeOf55
  v53 := Tryd.zeroValue55 }
/-- bits.Len64: "Len64 returns the minimum number of bits required to represent x; the result is 0 for x == 0.": IT RETURNS 'Lib.bitLen x'; the world is as it was. ('h0', 'h1': x is a uint64.) (LAID: no walk: one application.) -/
theorem Tryd.bits_Len64 (x : Int) (w : World) (h0 : 0 ≤ x) (h1 : x ≤ 18446744073709551615) :
    Calls Tryd.prog 78 #[.int .u64 x] w fun e w' => e = .returned (.int .i64 (Lib.bitLen x.toNat)) ∧ w' = w := Any.bits_Len64 Tryd.lays129 x w h0 h1
def Tryd.laysNm237_ren : Go.Shelf.Ren := ⟨fun | 37 => 74 | n => n, fun | 3 => 3 | 4 => 4 | n => n, fun | n => n⟩
theorem Tryd.laysNm237 : Go.Proofs.Lays2.n37 Tryd.prog Tryd.laysNm237_ren := {
  mixed := by kernel_rfl
  f37 := Tryd.func74.trans (congrArg some (by kernel_rfl))
  t3 := Tryd.underlying3
  a3 := Tryd.isAgg3
  z3 := Tryd.sizeOf3
  v3 := Tryd.zeroValue3
  t4 := Tryd.underlying4
  a4 := Tryd.isAgg4
  z4 := Tryd.sizeOf4
  v4 := Tryd.zeroValue4 }
open Go.RowKit Go.Lib in
/-- cmp.isNaN[int]: 'x != x': false. (LAID: no walk: one application.) -/
theorem Tryd.cmp_isNaN_int2 (x : Int) (w : World) :
    Calls Tryd.prog 74 #[.int .i64 x] w fun e w' => e = .returned (.bool false) ∧ w' = w := Any.cmp_isNaN_int2 Tryd.laysNm237 x w
def Tryd.laysNm232_ren : Go.Shelf.Ren := ⟨fun | 32 => 63 | n => n, fun | 3 => 3 | 4 => 4 | n => n, fun | n => n⟩
theorem Tryd.laysNm232 : Go.Proofs.Lays2.n32 Tryd.prog Tryd.laysNm232_ren := {
  mixed := by kernel_rfl
  f32 := Tryd.func63.trans (congrArg some (by kernel_rfl))
  t3 := Tryd.underlying3
  a3 := Tryd.isAgg3
  z3 := Tryd.sizeOf3
  v3 := Tryd.zeroValue3
  t4 := Tryd.underlying4
  a4 := Tryd.isAgg4
  z4 := Tryd.sizeOf4
  v4 := Tryd.zeroValue4 }
open Go.RowKit Go.Lib in
/-- slices.isNaN[int]: 'x != x': false. (LAID: no walk: one application.) -/
theorem Tryd.slices_isNaN_int2 (x : Int) (w : World) :
    Calls Tryd.prog 63 #[.int .i64 x] w fun e w' => e = .returned (.bool false) ∧ w' = w := Any.slices_isNaN_int2 Tryd.laysNm232 x w
def Tryd.laysNm231_ren : Go.Shelf.Ren := ⟨fun | 31 => 62 | 37 => 74 | n => n, fun | 3 => 3 | 4 => 4 | n => n, fun | n => n⟩
theorem Tryd.laysNm231 : Go.Proofs.Lays2.n31 Tryd.prog Tryd.laysNm231_ren := {
  mixed := by kernel_rfl
  f31 := Tryd.func62.trans (congrArg some (by kernel_rfl))
  f37 := Tryd.func74.trans (congrArg some (by kernel_rfl))
  t3 := Tryd.underlying3
  a3 := Tryd.isAgg3
  z3 := Tryd.sizeOf3
  v3 := Tryd.zeroValue3
  t4 := Tryd.underlying4
  a4 := Tryd.isAgg4
  z4 := Tryd.sizeOf4
  v4 := Tryd.zeroValue4 }
open Go.RowKit Go.Lib in
/-- cmp.Less[int]: "Less reports whether x is less than y.": 'x < y'; the world is as it was. (LAID: no walk: one application.) -/
theorem Tryd.cmp_Less_int2 (x y : Int) (w : World) :
    Calls Tryd.prog 62 #[.int .i64 x, .int .i64 y] w fun e w' => e = .returned (.bool (decide (x < y))) ∧ w' = w := Any.cmp_Less_int2 Tryd.laysNm231 x y w
def Tryd.laysNm225_ren : Go.Shelf.Ren := ⟨fun | 25 => 44 | 31 => 62 | 32 => 63 | 37 => 74 | n => n, fun | 22 => 37 | 3 => 3 | 4 => 4 | 40 => 107 | 0 => 0 | n => n, fun | n => n⟩
theorem Tryd.laysNm225 : Go.Proofs.Lays2.n25 Tryd.prog Tryd.laysNm225_ren := {
  mixed := by kernel_rfl
  f25 := Tryd.func44.trans (congrArg some (by kernel_rfl))
  f31 := Tryd.func62.trans (congrArg some (by kernel_rfl))
  f32 := Tryd.func63.trans (congrArg some (by kernel_rfl))
  f37 := Tryd.func74.trans (congrArg some (by kernel_rfl))
  t0 := Tryd.underlying0
  a0 := Tryd.isAgg0
  z0 := Tryd.sizeOf0
  v0 := Tryd.zeroValue0
  t3 := Tryd.underlying3
  a3 := Tryd.isAgg3
  z3 := Tryd.sizeOf3
  v3 := Tryd.zeroValue3
  t4 := Tryd.underlying4
  a4 := Tryd.isAgg4
  z4 := Tryd.sizeOf4
  v4 := Tryd.zeroValue4
  t22 := Tryd.underlying37
  a22 := Tryd.isAgg37
  z22 := Tryd.sizeOf37
  v22 := Tryd.zeroValue37
  t40 := Tryd.underlying107
  a40 := Tryd.isAgg107
  z40 := Tryd.sizeOf107
  v40 := Tryd.zeroValue107 }
open Go.RowKit Go.Lib in
/-- slices.BinarySearch at []int: "BinarySearch searches for target in a sorted slice and returns the earliest position where target is found, or the position where target would appear in the sort order; it also returns a bool saying whether the target is really found in the slice. The slice must be sorted in increasing order.": OF A SORTED SLICE IT RETURNS how many elements are less than the target, and whether the target is among the elements; the world is as it was but for the count of draws. 'zs': what the cells behind the slice's address hold; 'zs.take n': its elements. (Of a slice that is not sorted: no contract here.) (LAID: no walk: one application.) -/
theorem Tryd.slices_BinarySearch_int (b off n c : Nat) (zs : List Int) (x : Int) (w : World) (hz : n ≤ zs.length) (hbig : n < 4611686018427387904) (hc : ∀ j, j < zs.length → w.cell? ⟨b, off + j, none⟩ = some (.int .i64 (zs.getD j 0))) (hs : (zs.take n).Pairwise (· ≤ ·)) :
    Calls Tryd.prog 44 #[.slice (some ⟨b, off, none⟩) n c, .int .i64 x] w fun e w' => e = .returned (.tuple #[.int .i64 ((zs.take n).countP (· < x) : Nat), .bool ((zs.take n).contains x)]) ∧ ∃ q, w' = w.drewN q := Any.slices_BinarySearch_int Tryd.laysNm225 b off n c zs x w hz hbig hc hs
open Go.RowKit Go.Lib in
/-- slices.BinarySearch at []int of no element: position 0, not found; the world is as it was. (LAID: no walk: one application.) -/
theorem Tryd.slices_BinarySearch_int_empty (a : Option Addr) (c : Nat) (x : Int) (w : World) :
    Calls Tryd.prog 44 #[.slice a 0 c, .int .i64 x] w fun e w' => e = .returned (.tuple #[.int .i64 0, .bool false]) ∧ w' = w := Any.slices_BinarySearch_int_empty Tryd.laysNm225 a c x w
end Go.Proofs

/-
  THE WALKS OF merkle.Leaf, Node, emptyRoot, split, parts.
-/
namespace Go.Proofs.YtaihfkcoiagdaabDoor
open Go.RowKit Go.ChangeShapes Go.WideShapes Go.ChangeAt

/-- Digests of leaves, of nodes, of the empty list. -/
def leafD (s : ByteArray) : Wm.Bs := digOf (inputB 30 [s])
def nodeD (a b : Wm.Bs) : Wm.Bs := digOf (inputB 31 [strOfNums a, strOfNums b])
def emptyD : Wm.Bs := digOf (inputB 32 [])
theorem strOf_size (b : Wm.Bs) : (strOfNums b).size = b.length := by
  show ((b.map fun x => UInt8.ofNat x.toNat).toArray).size = _
  simp
theorem dig_sz {F : Wm.Bs} (h : F.length = 16) : (Tryd.prog.info? 31).map (·.size) = some (U F).length := by rw [U_length, h]; kernel_rfl
theorem dig_ret {F : Wm.Bs} {w : World} {fn : Func} {p : Tmp} (h : fn.results = #[.cell p 31]) (tmps : Array Value) (g : Nat) (t : TypeId) (hF : F.length = 16)
    (hp : tmps.getD p undef = .pointer (some ⟨g, 0, none⟩)) (hg : Blk w g t (U F)) : (results fn tmps).run Tryd.prog w = .ok (.agg (U F).toArray) w :=
  results_blk h tmps w g t (U F) _ hp hg Tryd.underlying31 rfl (dig_sz hF)
theorem dig_z {F : Wm.Bs} (h : F.length = 16) : (PartB [] 16).length = (U F).length := by rw [U_length, h]; rfl
theorem blk_strs {w : World} {B n : Nat} {l : List ByteArray} (h : Blk w B 9 (Strs l)) (hn : l.length = n) : Sl w 1 (some ⟨B, 0, none⟩) n (Strs l) := by
  have h1 := h.sl 0 n (by simp [Strs]; omega)
  rwa [List.drop_zero, List.take_of_length_le (by simp [Strs]; omega)] at h1
/-- A slice of bytes made a string, in a region that draws its order. -/
theorem wpStill_str {P : Program} {ops : Array Oper} {rest : List Oper} {o : Oper} {a : Act} {w : World} {Q : Act → Prop} (src dst e : TypeId) (x : Operand) (ho : o.op = .convert src dst x)
    (hw : Region.wanted o (yielded ops a.tmps) = true) (A : Option Addr) (n c : Nat) (b : Wm.Bs) (hx : a.eval x = .slice A n c)
    (hs : P.underlying src = some (.slice e)) (he : P.underlying e = some (.int .u8)) (hd : P.underlying dst = some .string) (h : Sl w 1 A n (U b))
    (hk : wpStill P ops w Q rest (a.put o.dst (.string (strOfNums b)))) : wpStill P ops w Q (o :: rest) a := by
  refine wpStill_step (fun K hK => ?_)
  rw [hw, if_pos rfl]
  unfold Oper.still execOp
  simp only [ho, hx, Sem.run_bind, Sem.run_pure, Result.andThen_ok, run_str src dst e hs he hd h c, Oper.stillUpon]
  exact ⟨trivial, hK _ hk⟩

set_option maxRecDepth 100000 in
set_option maxHeartbeats 1000000 in
theorem leaf_any (s : ByteArray) (w : World) (h4 : s.size ≤ 400) (tab : Tab w) :
    Calls Tryd.prog 14 #[.string s] w fun e w' => e = .returned (.agg (U (leafD s)).toArray) ∧ Later w w' := by
  obtain ⟨F, hF⟩ : ∃ F, F = leafD s := ⟨_, rfl⟩
  have hl : F.length = 16 := by rw [hF]; exact digOf_len _
  have HO := Lib.hid fun (w' : World) (B : Nat) (hB : Blk w' B 9 (Strs [s])) (hw : Later w w') => by
    have h := of_any 30 (some ⟨B, 0, none⟩) 1 1 [s] w' (blk_strs hB rfl) (fun x hx => by rw [List.mem_singleton.1 hx]; exact h4) (by omega) (tab.keep hw)
    rw [← U_digOf, show digOf (inputB 30 [s]) = F from hF.symm] at h; exact h
  have HL := Lib.hid hl
  rw [← hF]
  clear hF hl tab
  go_enter Tryd.func14, Tryd.ntmps14
  go_wp2_with (first
    | (go_at_call 37; refine (HO.out _ (w.heap.size + 1) (Blk.new' _ _ _ _ _ (by simp) rfl) (((Below.refl _ _).alloc (Nat.le_refl _) _).alloc (by simp) _)).mono ?_; rintro e w1 ⟨rfl, l1⟩)
    | ((with_reducible refine wpList_store_abs (o := ⟨none, .store 31 (.tmp 2) (.tmp 5), _, _, _, none⟩) rfl _ _ _ rfl w.heap.size 31 (PartB [] 16) (U F) ?_ ?_ ?_ (dig_sz HL.out) (dig_z HL.out) (U_one _) ?_); rfl; rfl; exact ((Blk.new w _ _ _ rfl).alloc _).keep l1; intro w5 z1 z2))
  exact bodyPost_ret (v := .agg (U F).toArray) (dig_ret Tryd.results14 _ w.heap.size _ HL.out rfl z1) rfl ⟨rfl, Below.only (Later.trans_ (((Below.refl _ _).alloc (Nat.le_refl _) _).alloc (by simp) _) l1) z2 (Nat.le_refl _)⟩

set_option maxRecDepth 100000 in
set_option maxHeartbeats 1000000 in
theorem empty_any (w : World) (tab : Tab w) :
    Calls Tryd.prog 38 #[] w fun e w' => e = .returned (.agg (U emptyD).toArray) ∧ Later w w' := by
  obtain ⟨F, hF⟩ : ∃ F, F = emptyD := ⟨_, rfl⟩
  have hl : F.length = 16 := by rw [hF]; exact digOf_len _
  have HO := Lib.hid fun (w' : World) (hw : Later w w') => by
    have h := of_any 32 none 0 0 [] w' (Sl.nil _ _ _) (fun x hx => by cases hx) (by omega) (tab.keep hw)
    rw [← U_digOf, show digOf (inputB 32 []) = F from hF.symm] at h; exact h
  have HL := Lib.hid hl
  rw [← hF]
  clear hF hl tab
  go_enter Tryd.func38, Tryd.ntmps38
  go_wp2_with (first
    | (go_at_call 37; refine (HO.out _ ((Below.refl _ _).alloc (Nat.le_refl _) _)).mono ?_; rintro e w1 ⟨rfl, l1⟩)
    | ((with_reducible refine wpList_store_abs (o := ⟨none, .store 31 (.tmp 0) (.tmp 1), _, _, _, none⟩) rfl _ _ _ rfl w.heap.size 31 (PartB [] 16) (U F) ?_ ?_ ?_ (dig_sz HL.out) (dig_z HL.out) (U_one _) ?_); rfl; rfl; exact (Blk.new w _ _ _ rfl).keep l1; intro w5 z1 z2))
  exact bodyPost_ret (v := .agg (U F).toArray) (dig_ret Tryd.results38 _ w.heap.size _ HL.out rfl z1) rfl ⟨rfl, Below.only (Later.trans_ ((Below.refl _ _).alloc (Nat.le_refl _) _) l1) z2 (Nat.le_refl _)⟩

set_option maxRecDepth 100000 in
set_option maxHeartbeats 1000000 in
theorem node_any (a b : Wm.Bs) (w : World) (ha : a.length = 16) (hb : b.length = 16) (tab : Tab w) :
    Calls Tryd.prog 19 #[.agg (U a).toArray, .agg (U b).toArray] w fun e w' => e = .returned (.agg (U (nodeD a b)).toArray) ∧ Later w w' := by
  obtain ⟨F, hF⟩ : ∃ F, F = nodeD a b := ⟨_, rfl⟩
  have hl : F.length = 16 := by rw [hF]; exact digOf_len _
  obtain ⟨X, hX⟩ : ∃ X, X = (U a).toArray := ⟨_, rfl⟩
  obtain ⟨Y, hY⟩ : ∃ Y, Y = (U b).toArray := ⟨_, rfl⟩
  obtain ⟨sa, hsa⟩ : ∃ sa, sa = strOfNums a := ⟨_, rfl⟩
  obtain ⟨sc, hsc⟩ : ∃ sc, sc = strOfNums b := ⟨_, rfl⟩
  have HO := Lib.hid fun (w' : World) (B : Nat) (hB : Blk w' B 9 (Strs [sa, sc])) (hw : Later w w') => by
    have h := of_any 31 (some ⟨B, 0, none⟩) 2 2 [sa, sc] w' (blk_strs hB rfl) (fun x hx => by
      simp only [List.mem_cons, List.not_mem_nil, or_false] at hx
      rcases hx with rfl | rfl
      · rw [hsa, strOf_size]; omega
      · rw [hsc, strOf_size]; omega) (by omega) (tab.keep hw)
    rw [← U_digOf, show digOf (inputB 31 [sa, sc]) = F from by rw [hsa, hsc]; exact hF.symm] at h; exact h
  have HL := Lib.hid hl
  rw [← hF, ← hX, ← hY]
  have HX := Lib.hid hX; have HY := Lib.hid hY; have HSA := Lib.hid hsa; have HSC := Lib.hid hsc
  have s1 : ∀ w' B t, Blk w' B t (U a) → Sl w' 1 (some ⟨B, 0, none⟩) 16 (U a) := fun w' B t h => by
    have h1 := h.sl 0 16 (by rw [U_length]; omega)
    rwa [List.drop_zero, List.take_of_length_le (by rw [U_length]; omega)] at h1
  have s2 : ∀ w' B t, Blk w' B t (U b) → Sl w' 1 (some ⟨B, 0, none⟩) 16 (U b) := fun w' B t h => by
    have h1 := h.sl 0 16 (by rw [U_length]; omega)
    rwa [List.drop_zero, List.take_of_length_le (by rw [U_length]; omega)] at h1
  have S1 := Lib.hid s1; have S2 := Lib.hid s2
  clear hF hl tab hX hY hsa hsc s1 s2
  go_enter Tryd.func19, Tryd.ntmps19
  go_wp2_with fail
  refine wp_region_still_tail 4 (by kernel_rfl) (by kernel_rfl) ?_
  simp only [List.take_succ_cons, List.take_zero, List.drop_succ_cons, List.drop_zero]
  still_step
  refine wpStill_str (o := ⟨some 6, .convert 75 9 (.tmp 5), _, _, _, none⟩) _ _ 5 _ rfl (by rfl) (some ⟨w.heap.size, 0, none⟩) 16 16 a (by rfl) Tryd.underlying75 Tryd.underlying5 Tryd.underlying9 (S1.out _ _ 31 ((((Blk.new w 31 X (U a) HX.out).alloc _).alloc _).drew)) ?_
  simp only [Act.put, List.setIfInBounds_toArray, List.set_cons_zero, List.set_cons_succ]
  still_step
  refine wpStill_str (o := ⟨some 8, .convert 75 9 (.tmp 7), _, _, _, none⟩) _ _ 5 _ rfl (by rfl) (some ⟨w.heap.size + 1, 0, none⟩) 16 16 b (by rfl) Tryd.underlying75 Tryd.underlying5 Tryd.underlying9 (S2.out _ _ 31 ((Blk.new' _ _ 31 Y (U b) (by simp) HY.out).alloc _).drew) ?_
  simp only [Act.put, List.setIfInBounds_toArray, List.set_cons_zero, List.set_cons_succ]
  refine wpStill_nil ?_
  rw [← HSA.out, ← HSC.out]
  change wpList _ _ _ _ _ ((((w.alloc (.cells X 31)).alloc (.cells Y 31)).alloc (.cells (PartB [] 16).toArray 31)).drew)
  have g4 : Blk ((((w.alloc (.cells X 31)).alloc (.cells Y 31)).alloc (.cells (PartB [] 16).toArray 31)).drew) (w.heap.size + 1 + 1) 31 (PartB [] 16) := (Blk.new' _ _ _ _ _ (by simp) rfl).drew
  have g0 : Later w ((((w.alloc (.cells X 31)).alloc (.cells Y 31)).alloc (.cells (PartB [] 16).toArray 31)).drew) := ((((Below.refl _ _).alloc (Nat.le_refl _) _).alloc (by simp) _).alloc (by simp; omega) _).drew
  generalize ((((w.alloc (.cells X 31)).alloc (.cells Y 31)).alloc (.cells (PartB [] 16).toArray 31)).drew) = w3 at g4 g0 ⊢
  clear HX HY S1 S2
  go_wp2_with (first
    | (go_at_call 37; refine (HO.out _ w3.heap.size (Blk.new _ _ _ _ rfl) (g0.alloc g0.size _)).mono ?_; rintro e w4 ⟨rfl, l4⟩)
    | ((with_reducible refine wpList_store_abs (o := ⟨none, .store 31 (.tmp 4) (.tmp 10), _, _, _, none⟩) rfl _ _ _ rfl (w.heap.size + 1 + 1) 31 (PartB [] 16) (U F) ?_ ?_ ((g4.alloc _).keep l4) (dig_sz HL.out) (dig_z HL.out) (U_one _) ?_); rfl; rfl; intro w5 z1 z2))
  exact bodyPost_ret (v := .agg (U F).toArray) (dig_ret Tryd.results19 _ (w.heap.size + 1 + 1) _ HL.out rfl z1) rfl ⟨rfl, Below.only (Later.trans_ (g0.alloc g0.size _) l4) z2 (by omega)⟩

theorem bitLen_log {x : Nat} (h0 : 1 ≤ x) (h : x < 2 ^ 64) : Lib.bitLen x = Nat.log2 x + 1 := by
  have a1 := Nat.log2_self_le (n := x) (by omega)
  have a2 := Nat.lt_log2_self (n := x)
  rw [Nat.pow_succ] at a2
  rw [Lib.bitLen_shift (Nat.log2 x) x a1 h, Nat.div_eq_of_lt_le (k := 1) (by omega) (by omega)]
  rfl
theorem sp_le48 {n : Nat} (h : 2 ≤ n) (hn : n ≤ 4611686018427387904) : Mk.sp n < 4611686018427387904 := by have := Mk.sp_lt h; omega

set_option maxRecDepth 100000 in
set_option maxHeartbeats 1000000 in
theorem split_any (n : Nat) (w : World) (h2 : 2 ≤ n) (hn : n ≤ 4611686018427387904) :
    Calls Tryd.prog 54 #[.int .i64 n] w fun e w' => e = .returned (.int .i64 (Mk.sp n)) ∧ w' = w := by
  obtain ⟨j, hj⟩ : ∃ j, j = Nat.log2 (n - 1) := ⟨_, rfl⟩
  have hL : ((Lib.bitLen ((n : Int) - 1).toNat : Nat) : Int) = (j : Int) + 1 := by
    rw [show ((n : Int) - 1).toNat = n - 1 by omega, bitLen_log (by omega) (by omega), ← hj]; rfl
  have hB := Lib.hid (by have h := Tryd.bits_Len ((n : Int) - 1) w (by omega) (by omega); rw [hL] at h; exact h)
  have hsp : (2 : Int) ^ j = (Mk.sp n : Nat) := by unfold Mk.sp; rw [← hj, Int.natCast_pow]; rfl
  have hsl := sp_le48 h2 hn
  have hj6 : j ≤ 62 := by
    rcases Nat.lt_or_ge 62 j with h | h
    · have h1 := Nat.pow_le_pow_right (n := 2) (by decide) (show 63 ≤ j from h)
      have h3 : (2 : Nat) ^ j = Mk.sp n := by unfold Mk.sp; rw [hj]
      omega
    · exact h
  obtain ⟨K, hK⟩ : ∃ K, K = Mk.sp n := ⟨_, rfl⟩
  rw [← hK] at hsp hsl ⊢
  have hw : IntKind.i64.wrap (K : Int) = (K : Int) := IntWalk.i64_in _ (by omega)
  clear hj hL hK
  go_enter Tryd.func54, Tryd.ntmps54
  go_wp2_with (go_at_call 68; refine hB.out.mono ?_; rintro e w' ⟨rfl, rfl⟩)
  go_ret
  exact ⟨rfl, rfl⟩

set_option maxRecDepth 100000 in
set_option maxHeartbeats 1000000 in
theorem parts_any (ad : Addr) (n c : Nat) (w : World) (h2 : 2 ≤ n) (hn : n ≤ 4611686018427387904) (hnc : n ≤ c) (_hc : c ≤ 9223372036854775807) :
    Calls Tryd.prog 33 #[.slice (some ad) n c] w fun e w' => e = .returned (.tuple #[.slice (some ad) (Mk.sp n) (Mk.sp n), .slice (some (ad.add (Mk.sp n * 16))) (n - Mk.sp n) (n - Mk.sp n)]) ∧ Later w w' := by
  have hs := Lib.hid (split_any n w h2 (by omega))
  have h1 := Mk.sp_lt h2
  have h0 := Mk.sp_pos n
  obtain ⟨K, hK⟩ : ∃ K, K = Mk.sp n := ⟨_, rfl⟩
  rw [← hK] at hs h1 h0 ⊢
  clear hK
  have k0 : (0 : Int) ≤ (K : Int) := by omega
  have k1 : (K : Int) ≤ (n : Int) := by omega
  have k2 : (n : Int) ≤ (c : Int) := by omega
  have k3 : (K : Int) ≤ (c : Int) := by omega
  have k4 : ¬ n = K := by omega
  go_enter Tryd.func33, Tryd.ntmps33
  go_wp2_with (go_at_call 54; refine hs.out.mono ?_; rintro e w' ⟨rfl, rfl⟩)
  go_quiet (fail)
  go_wp2
  go_ret2
  exact ⟨rfl, ⟨rfl, rfl, rfl, Nat.le_refl _, fun _ _ => rfl⟩⟩
end Go.Proofs.YtaihfkcoiagdaabDoor

/-
  THE WALK OF merkle.Root.
-/
namespace Go.Proofs.YtaihfkcoiagdaabDoor
open Go.RowKit Go.ChangeShapes Go.WideShapes Go.ChangeAt

theorem Ds_take {l : List Wm.Bs} (h : isD l) : ∀ k, (Ds l).take (k * 16) = Ds (l.take k) := by
  induction l with
  | nil => intro k; simp [Ds, U]
  | cons d r ih =>
    intro k
    have hd := (h d List.mem_cons_self).1
    cases k with
    | zero => simp [Ds, U]
    | succ k =>
      have h1 := ih (fun x hx => h x (List.mem_cons_of_mem _ hx)) k
      unfold Ds at *
      rw [List.flatten_cons, U_append, List.take_succ_cons, List.flatten_cons, U_append, List.take_append, U_length, hd, List.take_of_length_le (by rw [U_length]; omega), show (k + 1) * 16 - 16 = k * 16 by omega, h1]
theorem Ds_drop {l : List Wm.Bs} (h : isD l) : ∀ k, (Ds l).drop (k * 16) = Ds (l.drop k) := by
  induction l with
  | nil => intro k; simp [Ds, U]
  | cons d r ih =>
    intro k
    have hd := (h d List.mem_cons_self).1
    cases k with
    | zero => simp
    | succ k =>
      have h1 := ih (fun x hx => h x (List.mem_cons_of_mem _ hx)) k
      unfold Ds at *
      rw [List.flatten_cons, U_append, List.drop_succ_cons, List.drop_append, U_length, hd, List.drop_eq_nil_of_le (by rw [U_length]; omega), show (k + 1) * 16 - 16 = k * 16 by omega, h1, List.nil_append]
theorem isD_take {l : List Wm.Bs} (h : isD l) (k : Nat) : isD (l.take k) := fun x hx => h x (List.mem_of_mem_take hx)
theorem isD_drop {l : List Wm.Bs} (h : isD l) (k : Nat) : isD (l.drop k) := fun x hx => h x (List.mem_of_mem_drop hx)
theorem Sl.dfront {w : World} {A : Option Addr} {n k : Nat} {l : List Wm.Bs} (h : Sl w 16 A n (Ds l)) (hl : isD l) (hk : k ≤ n) : Sl w 16 A k (Ds (l.take k)) := by
  have h1 := h.front hk
  rwa [Ds_take hl] at h1
theorem Sl.dcut {w : World} {ad : Addr} {n k : Nat} {l : List Wm.Bs} (h : Sl w 16 (some ad) n (Ds l)) (hl : isD l) (hk : k < n) : Sl w 16 (some (ad.add (k * 16))) (n - k) (Ds (l.drop k)) := by
  have h1 := h.cut (k := k) (cap := n) (by omega) (Nat.le_refl _)
  rw [if_neg (by omega), Ds_drop hl] at h1
  exact h1

def rootD (l : List Wm.Bs) : Wm.Bs := Mk.root nodeD emptyD l
theorem nodeD_len (a b : Wm.Bs) : (nodeD a b).length = 16 := digOf_len _
theorem nodeD_bs (a b : Wm.Bs) : Wm.isBs (nodeD a b) := digOf_bs _
theorem rootD_dig {l : List Wm.Bs} (h : isD l) : (rootD l).length = 16 ∧ Wm.isBs (rootD l) := by
  unfold rootD
  match l, h with
  | [], _ => rw [Mk.root_nil]; exact ⟨digOf_len _, digOf_bs _⟩
  | [d], h => rw [Mk.root_one]; exact h d List.mem_cons_self
  | a :: b :: r, _ => rw [Mk.root_two _ _ _ (by simp)]; exact ⟨nodeD_len _ _, nodeD_bs _ _⟩

set_option maxRecDepth 100000 in
set_option maxHeartbeats 1000000 in
theorem root_any (N : Nat) : ∀ (A : Option Addr) (n c : Nat) (l : List Wm.Bs) (w : World), n ≤ N → Sl w 16 A n (Ds l) → isD l → n ≤ 4611686018427387904 → n ≤ c → c ≤ 9223372036854775807 → Tab w →
    Calls Tryd.prog 15 #[.slice A n c] w fun e w' => e = .returned (.agg (U (rootD l)).toArray) ∧ Later w w' := by
  induction N with
  | zero =>
    intro A n c l w hn hs hl _ hnc hc tab
    obtain rfl : n = 0 := by omega
    have hll : l = [] := List.eq_nil_of_length_eq_zero (hs.dlen hl)
    subst hll
    have e : rootD [] = emptyD := Mk.root_nil _ _
    obtain ⟨F, hF⟩ : ∃ F, F = emptyD := ⟨_, rfl⟩
    have HE := Lib.hid fun (w' : World) (hw : Later w w') => by have h := empty_any w' (tab.keep hw); rw [← hF] at h; exact h
    have HL := Lib.hid (show F.length = 16 by rw [hF]; exact digOf_len _)
    rw [e, ← hF]
    clear e hF tab hs hl
    go_enter Tryd.func15, Tryd.ntmps15
    go_wp2_with (first
      | (go_at_call 38; refine (HE.out _ ((Below.refl _ _).alloc (Nat.le_refl _) _)).mono ?_; rintro e w1 ⟨rfl, l1⟩)
      | ((with_reducible refine wpList_store_abs (o := ⟨none, .store 31 (.tmp 2) (.tmp 9), _, _, _, none⟩) rfl _ _ _ rfl w.heap.size 31 (PartB [] 16) (U F) ?_ ?_ ?_ (dig_sz HL.out) (dig_z HL.out) (U_one _) ?_); rfl; rfl; exact (Blk.new w _ _ _ rfl).keep l1; intro w5 z1 z2))
    exact bodyPost_ret (v := .agg (U F).toArray) (dig_ret Tryd.results15 _ w.heap.size _ HL.out rfl z1) rfl ⟨rfl, Below.only (Later.trans_ ((Below.refl _ _).alloc (Nat.le_refl _) _) l1) z2 (Nat.le_refl _)⟩
  | succ N ih =>
    intro A n c l w hn hs hl hbig hnc hc tab
    by_cases hsm : n ≤ 1
    · by_cases h0 : n = 0
      · exact ih A n c l w (by omega) hs hl hbig hnc hc tab
      · obtain rfl : n = 1 := by omega
        obtain ⟨d, rfl⟩ := List.length_eq_one_iff.1 (hs.dlen hl)
        have e : rootD [d] = d := Mk.root_one _ _ _
        rw [e]
        have hd := (hl d List.mem_cons_self).1
        have HL := Lib.hid hd
        have HSL := Lib.hid fun (w' : World) (hw : Later w w') => (hs.keep hw).digest hl (k := 0) (by decide)
        obtain ⟨ad, rfl, _, _⟩ := hs.2 (by decide)
        clear e hs hl hd tab ih
        go_enter Tryd.func15, Tryd.ntmps15
        go_wp2_with (first
          | ((with_reducible refine wpList_load_addr (o := ⟨some 14, .load 31 (.tmp 13), _, _, _, none⟩) rfl _ _ rfl ad (U d) _ ?_ ?_ Tryd.underlying31 rfl (dig_sz HL.out) ?_); rfl; (obtain ⟨ad', e', _, _, hc'⟩ := HSL.out _ ((Below.refl _ _).alloc (Nat.le_refl _) _); cases e'; intro j v hv; have h9 := hc' j v hv; rwa [Nat.zero_mul, addr_add_add, Nat.zero_add] at h9))
          | ((with_reducible refine wpList_store_abs (o := ⟨none, .store 31 (.tmp 2) (.tmp 14), _, _, _, none⟩) rfl _ _ _ rfl w.heap.size 31 (PartB [] 16) (U d) ?_ ?_ ?_ (dig_sz HL.out) (dig_z HL.out) (U_one _) ?_); rfl; rfl; exact Blk.new w _ _ _ rfl; intro w5 z1 z2))
        exact bodyPost_ret (v := .agg (U d).toArray) (dig_ret Tryd.results15 _ w.heap.size _ HL.out rfl z1) rfl ⟨rfl, Below.only ((Below.refl _ _).alloc (Nat.le_refl _) _) z2 (Nat.le_refl _)⟩
    · have h2 : 2 ≤ n := by omega
      have hll := hs.dlen hl
      obtain ⟨ad, rfl, _, _⟩ := hs.2 (by omega)
      have k1 := Mk.sp_lt h2
      have k0 := Mk.sp_pos n
      have hP := Lib.hid fun w' => parts_any ad n c w' h2 hbig hnc hc
      have e : rootD l = nodeD (rootD (l.take (Mk.sp n))) (rootD (l.drop (Mk.sp n))) := by unfold rootD; rw [Mk.root_two _ _ l (by omega), hll]
      have H1 := Lib.hid fun (w' : World) (hw : Later w w') => ih (some ad) (Mk.sp n) (Mk.sp n) (l.take (Mk.sp n)) w' (by omega) ((hs.keep hw).dfront hl (by omega)) (isD_take hl _) (by omega) (Nat.le_refl _) (by omega) (tab.keep hw)
      have H2 := Lib.hid fun (w' : World) (hw : Later w w') => ih (some (ad.add (Mk.sp n * 16))) (n - Mk.sp n) (n - Mk.sp n) (l.drop (Mk.sp n)) w' (by omega) ((hs.keep hw).dcut hl (by omega)) (isD_drop hl _) (by omega) (Nat.le_refl _) (by omega) (tab.keep hw)
      have d1 := rootD_dig (isD_take hl (Mk.sp n))
      have d2 := rootD_dig (isD_drop hl (Mk.sp n))
      obtain ⟨X, hX⟩ : ∃ X, X = rootD (l.take (Mk.sp n)) := ⟨_, rfl⟩
      obtain ⟨Y, hY⟩ : ∃ Y, Y = rootD (l.drop (Mk.sp n)) := ⟨_, rfl⟩
      obtain ⟨K, hK⟩ : ∃ K, K = Mk.sp n := ⟨_, rfl⟩
      rw [← hX] at H1 e d1
      rw [← hY] at H2 e d2
      rw [← hK] at H1 H2 hP
      have HN := Lib.hid fun (w' : World) (hw : Later w w') => node_any X Y w' d1.1 d2.1 (tab.keep hw)
      obtain ⟨F, hF⟩ : ∃ F, F = nodeD X Y := ⟨_, rfl⟩
      rw [← hF] at HN e
      have HL := Lib.hid (show F.length = 16 by rw [hF]; exact nodeD_len _ _)
      rw [e]
      clear e hF hX hY hK ih tab hs hl hll k1 k0 d1 d2
      have hn1 : ((n : Int) == 1) = false := by rw [beq_eq_false_iff_ne]; omega
      have hn0 : ((n : Int) == 0) = false := by rw [beq_eq_false_iff_ne]; omega
      go_enter Tryd.func15, Tryd.ntmps15
      go_wp2_with (first
        | (go_at_call 33; (with_reducible refine (hP.out _).mono ?_); rintro e w1 ⟨rfl, l1⟩; have m1 := Later.trans_ ((Below.refl _ _).alloc (Nat.le_refl _) _) l1)
        | (go_at_call 19; (with_reducible refine (HN.out _ m3).mono ?_); rintro e w4 ⟨rfl, l4⟩; have m4 := Later.trans_ m3 l4)
        | (go_at_call 15; (with_reducible refine (H2.out _ m2).mono ?_); rintro e w3 ⟨rfl, l3⟩; have m3 := Later.trans_ m2 l3)
        | (go_at_call 15; (with_reducible refine (H1.out _ m1).mono ?_); rintro e w2 ⟨rfl, l2⟩; have m2 := Later.trans_ m1 l2)
        | ((with_reducible refine wpList_store_abs (o := ⟨none, .store 31 (.tmp 2) (.tmp 24), _, _, _, none⟩) rfl _ _ _ rfl w.heap.size 31 (PartB [] 16) (U F) ?_ ?_ ?_ (dig_sz HL.out) (dig_z HL.out) (U_one _) ?_); rfl; rfl; exact ((((Blk.new w _ _ _ rfl).keep l1).keep l2).keep l3).keep l4; intro w5 z1 z2))
      exact bodyPost_ret (v := .agg (U F).toArray) (dig_ret Tryd.results15 _ w.heap.size _ HL.out rfl z1) rfl ⟨rfl, Below.only m4 z2 (Nat.le_refl _)⟩
end Go.Proofs.YtaihfkcoiagdaabDoor

/-
  THE WALKS OF A TRAIL: next.
-/
namespace Go.Proofs.YtaihfkcoiagdaabDoor
open Go.RowKit Go.ChangeShapes Go.WideShapes Go.ChangeAt

/-- w' is w with more in it, but for the block B. -/
def Lx (B : Nat) (w w' : World) : Prop := w'.os = w.os ∧ w'.tape = w.tape ∧ w'.output = w.output ∧ w.heap.size ≤ w'.heap.size ∧ ∀ k, k < w.heap.size → k ≠ B → w'.heap[k]? = w.heap[k]?
theorem Lx.size {B : Nat} {w w' : World} (h : Lx B w w') : w.heap.size ≤ w'.heap.size := h.2.2.2.1
theorem Lx.trans_ {B : Nat} {a b c : World} (h : Lx B a b) (k : Lx B b c) : Lx B a c :=
  ⟨k.1.trans h.1, k.2.1.trans h.2.1, k.2.2.1.trans h.2.2.1, Nat.le_trans h.size k.size, fun j hj hne => (k.2.2.2.2 j (Nat.lt_of_lt_of_le hj h.size) hne).trans (h.2.2.2.2 j hj hne)⟩
theorem Lx.of {B : Nat} {w w' : World} (h : Later w w') : Lx B w w' := ⟨h.os, h.tape, h.output, h.size, fun k hk _ => h.block k hk⟩
theorem Lx.only {B : Nat} {w w' : World} (h : Only B w w') : Lx B w w' := ⟨h.1, h.2.1, h.2.2.1, Nat.le_of_eq h.size.symm, fun k _ hne => h.2.2.2.2 k hne⟩
/-- A block made since may change as well. -/
theorem Lx.new {B g : Nat} {a w w' : World} (h : Lx B a w) (k : Only g w w') (hg : a.heap.size ≤ g) : Lx B a w' :=
  ⟨k.1.trans h.1, k.2.1.trans h.2.1, k.2.2.1.trans h.2.2.1, by rw [k.size]; exact h.size, fun j hj hne => (k.2.2.2.2 j (by omega)).trans (h.2.2.2.2 j hj hne)⟩
theorem Lx.later {B : Nat} {a w w' : World} (h : Lx B a w) (k : Later w w') : Lx B a w' := h.trans_ (Lx.of k)
theorem Lx.same {B : Nat} {a w w' : World} (h : Lx B a w) (k : Lx B w w') : Lx B a w' := h.trans_ k
theorem Blk.lx {B g : Nat} {w w' : World} {t : TypeId} {cs : List Value} (h : Blk w B t cs) (k : Lx g w w') (hne : B ≠ g) : Blk w' B t cs := by
  unfold Blk; rw [k.2.2.2.2 B h.lt hne]; exact h
theorem Lx.cell {B : Nat} {w w' : World} (k : Lx B w w') {a : Addr} (hl : a.block < w.heap.size) (hne : a.block ≠ B) : w'.cell? a = w.cell? a := by
  unfold World.cell?
  rw [k.2.2.2.2 a.block hl hne]
theorem Sl.lx {B size n : Nat} {w w' : World} {A : Option Addr} {xs : List Value} (h : Sl w size A n xs) (k : Lx B w w') (hne : 0 < n → ∀ ad, A = some ad → ad.block ≠ B) : Sl w' size A n xs :=
  ⟨h.1, fun hn => by
    obtain ⟨ad, e, hl, hc⟩ := h.2 hn
    refine ⟨ad, e, Nat.lt_of_lt_of_le hl k.size, fun j u hu => ?_⟩
    rw [k.cell (by rw [addr_add_block]; exact hl) (by rw [addr_add_block]; exact hne hn ad e)]
    exact hc j u hu⟩
theorem Tab.lx {B : Nat} {w w' : World} (h : Tab w) (k : Lx B w w') (hB : B ≠ 0) : Tab w' := fun j hj => by
  have h1 := h j hj
  have h2 := World.block_lt_of_cell? w _ h1
  rw [k.cell h2 (fun e => hB e.symm)]; exact h1
/-- What was below a later world's blocks is later, if the changed block was new. -/
theorem Lx.back {B : Nat} {a w w' : World} (h : Later a w) (k : Lx B w w') (hB : a.heap.size ≤ B) : Later a w' :=
  ⟨k.1.trans h.os, k.2.1.trans h.tape, k.2.2.1.trans h.output, Nat.le_trans h.size k.size, fun j hj => (k.2.2.2.2 j (Nat.lt_of_lt_of_le hj h.size) (by omega)).trans (h.block j hj)⟩

def zD : Wm.Bs := List.replicate 16 0
theorem zD_len : zD.length = 16 := rfl
theorem zD_bs : Wm.isBs zD := fun x hx => by rw [List.eq_of_mem_replicate hx]; decide

theorem part16 : (PartB [] 16).toArray = #[.int .u8 0, .int .u8 0, .int .u8 0, .int .u8 0, .int .u8 0, .int .u8 0, .int .u8 0, .int .u8 0, .int .u8 0, .int .u8 0, .int .u8 0, .int .u8 0, .int .u8 0, .int .u8 0, .int .u8 0, .int .u8 0] := rfl
/-- The trail in the block B. -/
def TrC (A : Option Addr) (n c : Nat) (s : Bool) : List Value := [.slice A n c, .bool s]
def Trl (w : World) (p B : Nat) (t : Mk.Tr Wm.Bs) : Prop :=
  ∃ A n c, Blk w B 82 (TrC A n c t.short) ∧ Sl w 16 A n (Ds t.rest) ∧ isD t.rest ∧ n ≤ c ∧ c ≤ maxLen ∧ (0 < n → ∀ ad, A = some ad → ad.block < p ∧ ad.block ≠ B)
theorem Trl.later {w w' : World} {p B : Nat} {t : Mk.Tr Wm.Bs} (h : Trl w p B t) (k : Later w w') : Trl w' p B t := by
  obtain ⟨A, n, c, h1, h2, h3, h4, h5, h6⟩ := h
  exact ⟨A, n, c, h1.keep k, h2.keep k, h3, h4, h5, h6⟩
/-- Another block than the trail's changes, that the path does not lie in. -/
theorem Trl.only {w w' : World} {p B g : Nat} {t : Mk.Tr Wm.Bs} (h : Trl w p B t) (k : Only g w w') (hg : p ≤ g) (hB : g ≠ B) : Trl w' p B t := by
  obtain ⟨A, n, c, h1, h2, h3, h4, h5, h6⟩ := h
  exact ⟨A, n, c, h1.only k (fun e => hB e.symm), h2.lx (Lx.only k) (fun hn ad e => by have := (h6 hn ad e).1; omega), h3, h4, h5, h6⟩
theorem Trl.lt {w : World} {p B : Nat} {t : Mk.Tr Wm.Bs} (h : Trl w p B t) : B < w.heap.size := by
  obtain ⟨A, n, c, h1, _⟩ := h
  exact h1.lt

set_option maxRecDepth 100000 in
set_option maxHeartbeats 1000000 in
theorem next_nil (B : Nat) (A : Option Addr) (c : Nat) (s : Bool) (w : World) (hb : Blk w B 82 (TrC A 0 c s)) :
    Calls Tryd.prog 65 #[.pointer (some ⟨B, 0, none⟩)] w fun e w' => e = .returned (.agg (U zD).toArray) ∧ Blk w' B 82 (TrC A 0 c true) ∧ Lx B w w' := by
  have hlt := hb.lt
  have k1 : Blk (w.alloc (.cells (PartB [] 16).toArray 31)) B 82 (TrC A 0 c s) := hb.alloc _
  have c0 := k1.cell (j := 0) (v := .slice A 0 c) rfl
  have c1 := k1.cell (j := 1) (v := .bool s) rfl
  have f1 := k1.frz 1
  have g0 : Blk (w.alloc (.cells (PartB [] 16).toArray 31)) w.heap.size 31 (PartB [] 16) := Blk.new w _ _ _ rfl
  have L0 : Lx B w (w.alloc (.cells (PartB [] 16).toArray 31)) := Lx.of ((Below.refl _ _).alloc (Nat.le_refl _) _)
  rw [part16] at c0 c1 f1
  go_enter Tryd.func65, Tryd.ntmps65
  go_wp2
  exact bodyPost_ret (v := .agg (U zD).toArray) (dig_ret Tryd.results65 _ w.heap.size _ zD_len rfl (by have h := Blk.new (w.setCell ⟨B, 1, none⟩ (.bool true)) 31 _ (U zD) part16.symm; rwa [(Only.set w B 1 (.bool true)).size] at h)) rfl ⟨rfl, (hb.set 1 (.bool true)).alloc _, (Lx.only (Only.set _ _ _ _)).later ((Below.refl _ _).alloc (Nat.le_refl _) _)⟩

set_option maxRecDepth 100000 in
set_option maxHeartbeats 1000000 in
theorem next_some (B : Nat) (ad : Addr) (n c : Nat) (s : Bool) (d : Wm.Bs) (w : World) (hb : Blk w B 82 (TrC (some ad) (n + 1) c s)) (hd : d.length = 16) (hv : ad.block < w.heap.size) (hc : ∀ j v, (U d)[j]? = some v → w.cell? (ad.add j) = some v) (hnc : n + 1 ≤ c) (_hc2 : c ≤ maxLen) :
    Calls Tryd.prog 65 #[.pointer (some ⟨B, 0, none⟩)] w fun e w' => e = .returned (.agg (U d).toArray) ∧ Lx B w w' ∧ Blk w' B 82 (TrC (if c = 1 then some ad else some (ad.add 16)) n (c - 1) s) := by
  have hlt := hb.lt
  have k1 : Blk (w.alloc (.cells (PartB [] 16).toArray 31)) B 82 (TrC (some ad) (n + 1) c s) := hb.alloc _
  have c0 := k1.cell (j := 0) (v := .slice (some ad) (n + 1) c) rfl
  have f1 := k1.frz 0
  have L0 : Lx B w (w.alloc (.cells (PartB [] 16).toArray 31)) := Lx.of ((Below.refl _ _).alloc (Nat.le_refl _) _)
  have HC : Hid (∀ j v, (U d)[j]? = some v → (w.alloc (.cells (PartB [] 16).toArray 31)).cell? (ad.add j) = some v) := Lib.hid fun j v h => by rw [World.cell?_alloc_lt _ _ _ (by rw [addr_add_block]; exact hv)]; exact hc j v h
  have HL := Lib.hid hd
  clear hc hd
  rw [part16] at c0 f1 HC
  go_enter Tryd.func65, Tryd.ntmps65
  have m0 : w.heap.size < (w.alloc (.cells #[.int .u8 0, .int .u8 0, .int .u8 0, .int .u8 0, .int .u8 0, .int .u8 0, .int .u8 0, .int .u8 0, .int .u8 0, .int .u8 0, .int .u8 0, .int .u8 0, .int .u8 0, .int .u8 0, .int .u8 0, .int .u8 0] 31)).heap.size := by simp
  have K1 := Lib.hid k1
  have h10 : ((n : Int) + 1 == 0) = false := by rw [beq_eq_false_iff_ne]; omega
  have q0 : (1 : Int) ≤ (n : Int) + 1 := by omega
  have q1 : (n : Int) + 1 ≤ (c : Int) := by omega
  have L0 := Lib.hid L0
  clear hb k1
  by_cases hc1 : c = 1
  · rw [if_pos hc1, show c - 1 = 0 by omega]
    go_wp2_with (first
      | ((with_reducible refine wpList_load_addr (o := ⟨some 19, .load 31 (.tmp 18), _, _, _, none⟩) rfl _ _ rfl ad (U d) _ ?_ HC.out Tryd.underlying31 rfl (dig_sz HL.out) ?_); rfl)
      | ((with_reducible refine wpList_store_abs (o := ⟨none, .store 31 (.tmp 3) (.tmp 19), _, _, _, none⟩) rfl _ _ _ rfl (w.heap.size + 1) 31 (PartB [] 16) (U d) ?_ ?_ ?_ (dig_sz HL.out) (dig_z HL.out) (U_one _) ?_); rfl; rfl; exact Blk.new' _ _ _ _ _ (by simp) rfl; intro w5 z1 z2; have k5 := (K1.out.alloc _).only z2 (by omega); have d0 := k5.cell (j := 0) (v := .slice (some ad) (n + 1) c) rfl; have g0 := k5.frz 0; have K5 := Lib.hid k5; clear k5; have K6 := Lib.hid ((((Blk.new w 31 _ _ part16.symm).alloc (.cells #[.int .u8 0, .int .u8 0, .int .u8 0, .int .u8 0, .int .u8 0, .int .u8 0, .int .u8 0, .int .u8 0, .int .u8 0, .int .u8 0, .int .u8 0, .int .u8 0, .int .u8 0, .int .u8 0, .int .u8 0, .int .u8 0] 31)).only z2 (by omega))))
      | ((with_reducible refine wpList_load_blk (o := ⟨some 28, .load 31 (.tmp 3), _, _, _, none⟩) rfl _ _ rfl (w.heap.size + 1) 31 (U d) _ ?_ (z1.set_other _ _ (by show w.heap.size + 1 ≠ B; omega)) Tryd.underlying31 rfl (dig_sz HL.out) ?_); rfl)
      | ((with_reducible refine wpList_store_abs (o := ⟨none, .store 31 (.tmp 2) (.tmp 28), _, _, _, none⟩) rfl _ _ _ rfl w.heap.size 31 (PartB [] 16) (U d) ?_ ?_ (K6.out.set_other _ _ (by show w.heap.size ≠ B; omega)) (dig_sz HL.out) (dig_z HL.out) (U_one _) ?_); rfl; rfl; intro w7 y1 y2))
    exact bodyPost_ret (v := .agg (U d).toArray) (dig_ret Tryd.results65 _ w.heap.size _ HL.out rfl y1) rfl ⟨rfl, ((((L0.out.later ((Below.refl _ _).alloc (Nat.le_refl _) _)).new z2 (by omega)).same (Lx.only (Only.set _ _ _ _))).new y2 (Nat.le_refl _)), (K5.out.set 0 _).only y2 (by omega)⟩
  · rw [if_neg hc1]
    go_wp2_with (first
      | ((with_reducible refine wpList_load_addr (o := ⟨some 19, .load 31 (.tmp 18), _, _, _, none⟩) rfl _ _ rfl ad (U d) _ ?_ HC.out Tryd.underlying31 rfl (dig_sz HL.out) ?_); rfl)
      | ((with_reducible refine wpList_store_abs (o := ⟨none, .store 31 (.tmp 3) (.tmp 19), _, _, _, none⟩) rfl _ _ _ rfl (w.heap.size + 1) 31 (PartB [] 16) (U d) ?_ ?_ ?_ (dig_sz HL.out) (dig_z HL.out) (U_one _) ?_); rfl; rfl; exact Blk.new' _ _ _ _ _ (by simp) rfl; intro w5 z1 z2; have k5 := (K1.out.alloc _).only z2 (by omega); have d0 := k5.cell (j := 0) (v := .slice (some ad) (n + 1) c) rfl; have g0 := k5.frz 0; have K5 := Lib.hid k5; clear k5; have K6 := Lib.hid ((((Blk.new w 31 _ _ part16.symm).alloc (.cells #[.int .u8 0, .int .u8 0, .int .u8 0, .int .u8 0, .int .u8 0, .int .u8 0, .int .u8 0, .int .u8 0, .int .u8 0, .int .u8 0, .int .u8 0, .int .u8 0, .int .u8 0, .int .u8 0, .int .u8 0, .int .u8 0] 31)).only z2 (by omega))))
      | ((with_reducible refine wpList_load_blk (o := ⟨some 28, .load 31 (.tmp 3), _, _, _, none⟩) rfl _ _ rfl (w.heap.size + 1) 31 (U d) _ ?_ (z1.set_other _ _ (by show w.heap.size + 1 ≠ B; omega)) Tryd.underlying31 rfl (dig_sz HL.out) ?_); rfl)
      | ((with_reducible refine wpList_store_abs (o := ⟨none, .store 31 (.tmp 2) (.tmp 28), _, _, _, none⟩) rfl _ _ _ rfl w.heap.size 31 (PartB [] 16) (U d) ?_ ?_ (K6.out.set_other _ _ (by show w.heap.size ≠ B; omega)) (dig_sz HL.out) (dig_z HL.out) (U_one _) ?_); rfl; rfl; intro w7 y1 y2))
    exact bodyPost_ret (v := .agg (U d).toArray) (dig_ret Tryd.results65 _ w.heap.size _ HL.out rfl y1) rfl ⟨rfl, ((((L0.out.later ((Below.refl _ _).alloc (Nat.le_refl _) _)).new z2 (by omega)).same (Lx.only (Only.set _ _ _ _))).new y2 (Nat.le_refl _)), (K5.out.set 0 _).only y2 (by omega)⟩

/-- next, of a trail. -/
theorem next_any (p B : Nat) (t : Mk.Tr Wm.Bs) (w : World) (h : Trl w p B t) :
    Calls Tryd.prog 65 #[.pointer (some ⟨B, 0, none⟩)] w fun e w' => e = .returned (.agg (U (Mk.nxt zD t).1).toArray) ∧ Lx B w w' ∧ Trl w' p B (Mk.nxt zD t).2 := by
  obtain ⟨A, n, c, hb, hs, hD, hnc, hc, hA⟩ := h
  have hl := hs.dlen hD
  match t, hb, hs, hD, hl with
  | ⟨[], s⟩, hb, hs, hD, hl =>
    obtain rfl : n = 0 := by simpa using hl.symm
    refine (next_nil B A c s w hb).mono ?_
    rintro e w' ⟨rfl, h1, h2⟩
    exact ⟨rfl, h2, A, 0, c, h1, ⟨by simp [Ds, Mk.nxt, U], fun h => absurd h (by omega)⟩, (fun x hx => by cases hx), Nat.zero_le _, hc, fun h => absurd h (by omega)⟩
  | ⟨d :: r, s⟩, hb, hs, hD, hl =>
    obtain ⟨m, rfl⟩ : ∃ m, n = m + 1 := ⟨n - 1, by simp at hl; omega⟩
    obtain ⟨ad, rfl, hv, hkl, hcc⟩ := hs.digest hD (k := 0) (by omega)
    have hne := (hA (by omega) ad rfl).2
    have hpl := (hA (by omega) ad rfl).1
    have hdr : Sl w 16 (if c = 1 then some ad else some (ad.add 16)) m (Ds r) := by
      by_cases hc1 : c = 1
      · obtain rfl : m = 0 := by omega
        have hr : r = [] := by simpa using hl
        subst hr
        exact ⟨by simp [Ds, U], fun h => absurd h (by omega)⟩
      · rw [if_neg hc1]
        rcases Nat.eq_zero_or_pos m with h0 | h0
        · subst h0
          have hr : r = [] := by simpa using hl
          subst hr
          exact ⟨by simp [Ds, U], fun h => absurd h (by omega)⟩
        · have h1 := hs.dcut hD (k := 1) (by omega)
          simpa using h1
    refine (next_some B ad m c s d w hb (hD d List.mem_cons_self).1 hv (fun j v hj => by have h9 := hcc j v hj; rwa [addr_add_add, Nat.zero_mul, Nat.zero_add] at h9) hnc hc).mono ?_
    rintro e w' ⟨rfl, h1, h2⟩
    have hq : 0 < m → ∀ a, (if c = 1 then some ad else some (ad.add 16)) = some a → a.block < p ∧ a.block ≠ B := fun _ a ha => by
      split at ha
      · cases ha; exact ⟨hpl, hne⟩
      · cases ha; rw [addr_add_block]; exact ⟨hpl, hne⟩
    exact ⟨rfl, h1, _, m, c - 1, h2, hdr.lx h1 (fun h a e => (hq h a e).2), fun x hx => hD x (List.mem_cons_of_mem _ hx), by omega, by omega, hq⟩
end Go.Proofs.YtaihfkcoiagdaabDoor

/-
  THE WALK OF A TRAIL: climb.
-/
namespace Go.Proofs.YtaihfkcoiagdaabDoor
open Go.RowKit Go.ChangeShapes Go.WideShapes Go.ChangeAt

/-- A store of a whole block, at the operation. -/
theorem wp_store_whole {P : Program} {op : Oper} {a : Act} {w : World} {K : Act → World → Prop} {Q : Exit → Act → World → Prop} (ty : TypeId) (x y : Operand) (ho : op.op = .store ty x y)
    (g : Nat) (t : TypeId) (old cs : List Value) (hx : a.eval x = .pointer (some ⟨g, 0, none⟩)) (hy : a.eval y = .agg cs.toArray) (hg : Blk w g t old)
    (hi : (P.info? ty).map (·.size) = some cs.length) (hold : old.length = cs.length) (h1 : ∀ v ∈ cs, v.oneCell' = true)
    (h : ∀ w', Blk w' g t cs → Only g w w' → K (a.put op.dst undef) w') : op.wp P a w K Q := by
  refine wp_store_mid ty x y ho g 0 cs.toArray hx hy (hg.there 0 _ (by simp [hold])) (by rw [List.size_toArray]; exact hi) (all_oneCell_toArray h1) ?_
  have h2 := hg.sets 0 cs (by omega)
  rw [List.take_zero, List.nil_append, List.drop_eq_nil_of_le (by omega), List.append_nil] at h2
  exact h _ h2 (Only.sets _ _ _ _)
theorem blk_at {w : World} {B : Nat} {t : TypeId} {cs : List Value} (h : Blk w B t cs) : w.rangeAt B 0 cs := by
  have h1 := h.range 0 cs.length
  rwa [List.drop_zero, List.take_length] at h1

theorem nxt_dig {w : World} {p B : Nat} {t : Mk.Tr Wm.Bs} (h : Trl w p B t) : (Mk.nxt zD t).1.length = 16 ∧ Wm.isBs (Mk.nxt zD t).1 := by
  obtain ⟨A, n, c, _, _, hD, _⟩ := h
  match t, hD with
  | ⟨[], s⟩, _ => exact ⟨zD_len, zD_bs⟩
  | ⟨d :: r, s⟩, hD => exact hD d List.mem_cons_self
theorem climb_dig (leaf : Wm.Bs) (h : leaf.length = 16 ∧ Wm.isBs leaf) (i n : Nat) (t : Mk.Tr Wm.Bs) : (Mk.climb nodeD zD leaf i n t).1.length = 16 ∧ Wm.isBs (Mk.climb nodeD zD leaf i n t).1 := by
  by_cases h2 : 2 ≤ n
  · by_cases hi : i < Mk.sp n
    · rw [Mk.climb_left _ _ _ _ _ _ h2 hi]; exact ⟨nodeD_len _ _, nodeD_bs _ _⟩
    · rw [Mk.climb_right _ _ _ _ _ _ h2 hi]; exact ⟨nodeD_len _ _, nodeD_bs _ _⟩
  · rw [Mk.climb_small _ _ _ _ _ _ (by omega)]; exact h

set_option maxRecDepth 100000 in
set_option maxHeartbeats 1000000 in
theorem climb_any (p : Nat) (N : Nat) : ∀ (B : Nat) (leaf : Wm.Bs) (i n : Nat) (t : Mk.Tr Wm.Bs) (w : World), n ≤ N → 1 ≤ n → n ≤ 4611686018427387904 → i < n → leaf.length = 16 ∧ Wm.isBs leaf → Trl w p B t → p ≤ w.heap.size → Tab w → B ≠ 0 →
    Calls Tryd.prog 52 #[.pointer (some ⟨B, 0, none⟩), .agg (U leaf).toArray, .int .i64 i, .int .i64 n] w fun e w' => e = .returned (.agg (U (Mk.climb nodeD zD leaf i n t).1).toArray) ∧ Lx B w w' ∧ Trl w' p B (Mk.climb nodeD zD leaf i n t).2 := by
  induction N with
  | zero => intro B leaf i n t w h1 h2; omega
  | succ N ih =>
    intro B leaf i n t w hN h1 hbig hi hd ht hp tab hB
    obtain ⟨X, hX⟩ : ∃ X, X = (U leaf).toArray := ⟨_, rfl⟩
    have HX := Lib.hid hX
    have HDG := Lib.hid hd
    by_cases hn1 : n = 1
    · rw [Mk.climb_small _ _ _ _ _ _ (by omega), ← hX]
      have HT := Lib.hid ht
      clear hX hd ih tab ht
      subst hn1
      go_enter Tryd.func52, Tryd.ntmps52
      go_wp2_with (first
        | ((with_reducible refine wpList_load_blk (o := ⟨some 14, .load 31 (.tmp 5), _, _, _, none⟩) rfl _ _ rfl w.heap.size 31 (U leaf) _ ?_ ((Blk.new w _ _ _ HX.out).alloc _) Tryd.underlying31 rfl (dig_sz HDG.out.1) ?_); rfl)
        | ((with_reducible refine wpList_store_abs (o := ⟨none, .store 31 (.tmp 8) (.tmp 14), _, _, _, none⟩) rfl _ _ _ rfl (w.heap.size + 1) 31 (PartB [] 16) (U leaf) ?_ ?_ ?_ (dig_sz HDG.out.1) (dig_z HDG.out.1) (U_one _) ?_); rfl; rfl; exact Blk.new' _ _ _ _ _ (by simp) rfl; intro w5 z1 z2))
      have l5 : Later w w5 := Below.only (((Below.refl _ _).alloc (Nat.le_refl _) _).alloc (by simp) _) z2 (by omega)
      exact bodyPost_ret (v := .agg (U leaf).toArray) (dig_ret Tryd.results52 _ (w.heap.size + 1) _ HDG.out.1 rfl z1) rfl ⟨by rw [HX.out], Lx.of l5, HT.out.later l5⟩
    · have h2 : 2 ≤ n := by omega
      have a1 := Mk.sp_lt h2
      have a0 := Mk.sp_pos n
      have hS := Lib.hid fun w' => split_any n w' h2 hbig
      by_cases hlt : i < Mk.sp n
      · rw [Mk.climb_left _ _ _ _ _ _ h2 hlt]
        have HR := Lib.hid fun (w' : World) (hw : Later w w') => ih B leaf i (Mk.sp n) t w' (by omega) a0 (by omega) hlt hd (ht.later hw) (Nat.le_trans hp hw.size) (tab.keep hw) hB
        have hcd := climb_dig leaf hd i (Mk.sp n) t
        obtain ⟨C, hC⟩ : ∃ C, C = Mk.climb nodeD zD leaf i (Mk.sp n) t := ⟨_, rfl⟩
        rw [← hC] at HR hcd ⊢
        obtain ⟨K, hK⟩ : ∃ K, K = Mk.sp n := ⟨_, rfl⟩
        rw [← hK] at HR hlt a1 a0 hS
        rw [← hX] at HR ⊢
        have HCD := Lib.hid hcd
        have HTb := Lib.hid tab
        have HM := Lib.hid ht.lt
        obtain ⟨M, hM⟩ : ∃ M, M = Mk.nxt zD C.2 := ⟨_, rfl⟩
        have HMD := Lib.hid fun (w' : World) (h : Trl w' p B C.2) => nxt_dig h
        have HN := Lib.hid fun (w' : World) (h : Trl w' p B C.2) => next_any p B C.2 w' h
        rw [← hM] at HN HMD ⊢
        have HO := Lib.hid fun (w' : World) (hm : M.1.length = 16 ∧ Wm.isBs M.1) (tb : Tab w') => node_any C.1 M.1 w' HCD.out.1 hm.1 tb
        obtain ⟨F, hF⟩ : ∃ F, F = nodeD C.1 M.1 := ⟨_, rfl⟩
        rw [← hF] at HO ⊢
        have HF := Lib.hid (show F.length = 16 by rw [hF]; exact nodeD_len _ _)
        clear hF hM hC hK hX hd ih tab ht hcd
        have hn1' : ((n : Int) == 1) = false := by rw [beq_eq_false_iff_ne]; omega
        go_enter Tryd.func52, Tryd.ntmps52
        go_wp2_with (first
          | (go_at_call 54; refine (hS.out _).mono ?_; rintro e w' ⟨rfl, rfl⟩)
          | ((with_reducible refine wpList_load_blk (o := ⟨some 21, .load 31 (.tmp 5), _, _, _, none⟩) rfl _ _ rfl w.heap.size 31 (U leaf) _ ?_ ((Blk.new w _ _ _ HX.out).alloc _) Tryd.underlying31 rfl (dig_sz HDG.out.1) ?_); rfl)
          | (go_at_call 52; rw [← HX.out]; refine (HR.out _ (((Below.refl _ _).alloc (Nat.le_refl _) _).alloc (by simp) _)).mono ?_; rintro e w2 ⟨rfl, x2, t2⟩)
          | ((with_reducible refine wpList_store_abs (o := ⟨none, .store 31 (.tmp 10) (.tmp 24), _, _, _, none⟩) rfl _ _ _ rfl w2.heap.size 31 (PartB [] 16) (U C.1) ?_ ?_ ?_ (dig_sz HCD.out.1) (dig_z HCD.out.1) (U_one _) ?_); rfl; rfl; exact Blk.new w2 _ _ _ rfl; intro w3 z1 z2))
        have hsz : w.heap.size + 1 + 1 ≤ w2.heap.size := by have := x2.size; simpa using this
        have l3 : Lx B w w3 := (((Lx.of (((Below.refl _ _).alloc (Nat.le_refl _) _).alloc (by simp) _)).same x2).later ((Below.refl _ _).alloc (Nat.le_refl _) _)).new z2 (by omega)
        have g8 : Blk w3 (w.heap.size + 1) 31 (PartB [] 16) := ((((Blk.new' (w.alloc (.cells X 31)) _ 31 _ _ (by simp) part16.symm).lx x2 (by have := HM.out; omega)).alloc _).only z2 (by omega))
        have t3 : Trl w3 p B C.2 := (t2.later ((Below.refl _ _).alloc (Nat.le_refl _) _)).only z2 (by omega) (by have := HM.out; omega)
        clear x2 t2 z2
        obtain ⟨G, hG⟩ : ∃ G, G = w2.heap.size := ⟨_, rfl⟩
        rw [← hG] at z1 hsz ⊢
        clear hG
        have hBG : G ≠ B := by have := HM.out; omega
        have hB8 : w.heap.size + 1 ≠ B := by have := HM.out; omega
        have hMD := HMD.out _ t3
        have TB3 := Lib.hid fun (w' : World) (x : Lx B w3 w') => HTb.out.lx (l3.same x) hB
        have t3' : Hid (Trl w3.drew p B C.2) := Lib.hid t3
        clear t3
        refine wp_region_held_drew (S := fun w' => w'.rangeAt G 0 (U C.1)) (by kernel_rfl) (blk_at z1.drew) (fun hHeld => ?_)
        simp only [Act.put]
        refine wpAnyH_take (i := 0) (oi := ⟨some 25, .load 31 (.tmp 10), _, _, _, none⟩) (v := .agg (U C.1).toArray) rfl (by kernel_rfl) (by kernel_rfl) (by kernel_rfl) (fun _ _ _ h => h) (yieldsIf_load_mid (by rfl) _ _ rfl _ _ rfl _ _ (fun w h => h) Tryd.underlying31 rfl (dig_sz HCD.out.1)) hHeld ?_
        simp only [Act.put, List.setIfInBounds_toArray, List.set_cons_zero, List.set_cons_succ]
        refine wpAnyH_take (i := 1) (oi := ⟨some 26, .move (.tmp 0), _, _, _, none⟩) (v := .pointer (some ⟨B, 0, none⟩)) rfl (by kernel_rfl) (by kernel_rfl) (by kernel_rfl) (fun _ _ _ h => h) (Or.inl ⟨by rfl, fun _ _ => rfl⟩) hHeld ?_
        simp only [Act.put, List.setIfInBounds_toArray, List.set_cons_zero, List.set_cons_succ]
        refine wpAnyH_ready (rs := [2]) (by kernel_rfl) (by simp) (AllReadyH.cons (o := ⟨some 27, .call { callee := .value (.func 65), args := #[.tmp 26], argTypes := #[111] }, _, _, _, none⟩) rfl (fun K' hK => ?_) AllReadyH.nil)
        go_simp
        refine (HN.out _ t3'.out).mono ?_
        rintro e w4 ⟨rfl, x4, t4⟩
        have z4 := (z1.drew).lx x4 hBG
        refine hK.out _ _ (blk_at z4) (fun hHeld => ?_)
        clear hK K'
        try simp only [Act.put, List.setIfInBounds_toArray, List.set_cons_zero, List.set_cons_succ]
        refine wpAnyH_ready (rs := [3]) (by kernel_rfl) (by simp) (AllReadyH.cons (o := ⟨some 28, .call { callee := .value (.func 19), args := #[.tmp 25, .tmp 27], argTypes := #[31, 31] }, _, _, _, none⟩) rfl (fun K' hK => ?_) AllReadyH.nil)
        go_simp
        refine (HO.out w4 hMD (TB3.out w4 x4)).mono ?_
        rintro e w5 ⟨rfl, l5⟩
        refine hK.out _ _ (blk_at (z4.keep l5)) (fun hHeld => ?_)
        clear hK K'
        try simp only [Act.put, List.setIfInBounds_toArray, List.set_cons_zero, List.set_cons_succ]
        refine wpAnyH_ready (rs := [4]) (by kernel_rfl) (by simp) (AllReadyH.cons (o := ⟨none, .store 31 (.tmp 8) (.tmp 28), _, _, _, none⟩) rfl (fun K' hK => ?_) AllReadyH.nil)
        refine wp_store_whole _ _ _ rfl (w.heap.size + 1) 31 (PartB [] 16) (U F) rfl rfl ((g8.drew.lx x4 hB8).keep l5) (dig_sz HF.out) (dig_z HF.out) (U_one _) ?_
        intro w6 y1 y2
        refine hK.out _ _ (blk_at ((z4.keep l5).only y2 (by omega))) (fun hHeld => ?_)
        clear hK K' hHeld
        try simp only [Act.put]
        refine wpAnyH_done (by kernel_rfl) ?_ _
        go_wp2
        exact bodyPost_ret (v := .agg (U F).toArray) (dig_ret Tryd.results52 _ (w.heap.size + 1) _ HF.out rfl y1) rfl ⟨rfl, (((l3.same x4).later l5).new y2 (by omega)), (t4.later l5).only y2 (by omega) hB8⟩
      · rw [Mk.climb_right _ _ _ _ _ _ h2 hlt]
        have HR := Lib.hid fun (w' : World) (hw : Later w w') => ih B leaf (i - Mk.sp n) (n - Mk.sp n) t w' (by omega) (by omega) (by omega) (by omega) hd (ht.later hw) (Nat.le_trans hp hw.size) (tab.keep hw) hB
        have hcd := climb_dig leaf hd (i - Mk.sp n) (n - Mk.sp n) t
        obtain ⟨C, hC⟩ : ∃ C, C = Mk.climb nodeD zD leaf (i - Mk.sp n) (n - Mk.sp n) t := ⟨_, rfl⟩
        rw [← hC] at HR hcd ⊢
        obtain ⟨K, hK⟩ : ∃ K, K = Mk.sp n := ⟨_, rfl⟩
        rw [← hK] at HR hlt a1 a0 hS
        rw [← hX, show ((i - K : Nat) : Int) = (i : Int) - (K : Int) by omega, show ((n - K : Nat) : Int) = (n : Int) - (K : Int) by omega] at HR
        rw [← hX]
        have b0 : (K : Int) ≤ (i : Int) := by omega
        have b1 : (i : Int) - (K : Int) ≤ 4611686018427387904 := by omega
        have b2 : (0 : Int) ≤ (i : Int) - (K : Int) := by omega
        have b3 : (n : Int) - (K : Int) ≤ 4611686018427387904 := by omega
        have b4 : (0 : Int) ≤ (n : Int) - (K : Int) := by omega
        have nlt : ¬ ((i : Int) < (K : Int)) := by omega
        have HCD := Lib.hid hcd
        have HTb := Lib.hid tab
        have HM := Lib.hid ht.lt
        obtain ⟨M, hM⟩ : ∃ M, M = Mk.nxt zD C.2 := ⟨_, rfl⟩
        have HMD := Lib.hid fun (w' : World) (h : Trl w' p B C.2) => nxt_dig h
        have HN := Lib.hid fun (w' : World) (h : Trl w' p B C.2) => next_any p B C.2 w' h
        rw [← hM] at HN HMD ⊢
        have HO := Lib.hid fun (w' : World) (hm : M.1.length = 16 ∧ Wm.isBs M.1) (tb : Tab w') => node_any M.1 C.1 w' hm.1 HCD.out.1 tb
        obtain ⟨F, hF⟩ : ∃ F, F = nodeD M.1 C.1 := ⟨_, rfl⟩
        rw [← hF] at HO ⊢
        have HF := Lib.hid (show F.length = 16 by rw [hF]; exact nodeD_len _ _)
        clear hF hM hC hK hX hd ih tab ht hcd
        have hn1' : ((n : Int) == 1) = false := by rw [beq_eq_false_iff_ne]; omega
        go_enter Tryd.func52, Tryd.ntmps52
        go_wp2_with (first
          | (go_at_call 54; refine (hS.out _).mono ?_; rintro e w' ⟨rfl, rfl⟩)
          | ((with_reducible refine wpList_load_blk (o := ⟨some 30, .load 31 (.tmp 5), _, _, _, none⟩) rfl _ _ rfl w.heap.size 31 (U leaf) _ ?_ ((Blk.new w _ _ _ HX.out).alloc _) Tryd.underlying31 rfl (dig_sz HDG.out.1) ?_); rfl)
          | (go_at_call 52; rw [← HX.out]; refine (HR.out _ (((Below.refl _ _).alloc (Nat.le_refl _) _).alloc (by simp) _)).mono ?_; rintro e w2 ⟨rfl, x2, t2⟩)
          | ((with_reducible refine wpList_store_abs (o := ⟨none, .store 31 (.tmp 11) (.tmp 37), _, _, _, none⟩) rfl _ _ _ rfl w2.heap.size 31 (PartB [] 16) (U C.1) ?_ ?_ ?_ (dig_sz HCD.out.1) (dig_z HCD.out.1) (U_one _) ?_); rfl; rfl; exact Blk.new w2 _ _ _ rfl; intro w3 z1 z2))
        have hsz : w.heap.size + 1 + 1 ≤ w2.heap.size := by have := x2.size; simpa using this
        have l3 : Lx B w w3 := (((Lx.of (((Below.refl _ _).alloc (Nat.le_refl _) _).alloc (by simp) _)).same x2).later ((Below.refl _ _).alloc (Nat.le_refl _) _)).new z2 (by omega)
        have g8 : Blk w3 (w.heap.size + 1) 31 (PartB [] 16) := ((((Blk.new' (w.alloc (.cells X 31)) _ 31 _ _ (by simp) part16.symm).lx x2 (by have := HM.out; omega)).alloc _).only z2 (by omega))
        have t3 : Trl w3 p B C.2 := (t2.later ((Below.refl _ _).alloc (Nat.le_refl _) _)).only z2 (by omega) (by have := HM.out; omega)
        clear x2 t2 z2
        obtain ⟨G, hG⟩ : ∃ G, G = w2.heap.size := ⟨_, rfl⟩
        rw [← hG] at z1 hsz ⊢
        clear hG
        have hBG : G ≠ B := by have := HM.out; omega
        have hB8 : w.heap.size + 1 ≠ B := by have := HM.out; omega
        have hMD := HMD.out _ t3
        have TB3 := Lib.hid fun (w' : World) (x : Lx B w3 w') => HTb.out.lx (l3.same x) hB
        have t3' : Hid (Trl w3.drew p B C.2) := Lib.hid t3
        clear t3
        refine wp_region_held_drew (S := fun w' => w'.rangeAt G 0 (U C.1)) (by kernel_rfl) (blk_at z1.drew) (fun hHeld => ?_)
        simp only [Act.put]
        refine wpAnyH_take (i := 2) (oi := ⟨some 40, .load 31 (.tmp 11), _, _, _, none⟩) (v := .agg (U C.1).toArray) rfl (by kernel_rfl) (by kernel_rfl) (by kernel_rfl) (fun _ _ _ h => h) (yieldsIf_load_mid (by rfl) _ _ rfl _ _ rfl _ _ (fun w h => h) Tryd.underlying31 rfl (dig_sz HCD.out.1)) hHeld ?_
        simp only [Act.put, List.setIfInBounds_toArray, List.set_cons_zero, List.set_cons_succ]
        refine wpAnyH_take (i := 0) (oi := ⟨some 38, .move (.tmp 0), _, _, _, none⟩) (v := .pointer (some ⟨B, 0, none⟩)) rfl (by kernel_rfl) (by kernel_rfl) (by kernel_rfl) (fun _ _ _ h => h) (Or.inl ⟨by rfl, fun _ _ => rfl⟩) hHeld ?_
        simp only [Act.put, List.setIfInBounds_toArray, List.set_cons_zero, List.set_cons_succ]
        refine wpAnyH_ready (rs := [1]) (by kernel_rfl) (by simp) (AllReadyH.cons (o := ⟨some 39, .call { callee := .value (.func 65), args := #[.tmp 38], argTypes := #[111] }, _, _, _, none⟩) rfl (fun K' hK => ?_) AllReadyH.nil)
        go_simp
        refine (HN.out _ t3'.out).mono ?_
        rintro e w4 ⟨rfl, x4, t4⟩
        have z4 := (z1.drew).lx x4 hBG
        refine hK.out _ _ (blk_at z4) (fun hHeld => ?_)
        clear hK K'
        try simp only [Act.put, List.setIfInBounds_toArray, List.set_cons_zero, List.set_cons_succ]
        refine wpAnyH_ready (rs := [3]) (by kernel_rfl) (by simp) (AllReadyH.cons (o := ⟨some 41, .call { callee := .value (.func 19), args := #[.tmp 39, .tmp 40], argTypes := #[31, 31] }, _, _, _, none⟩) rfl (fun K' hK => ?_) AllReadyH.nil)
        go_simp
        refine (HO.out w4 hMD (TB3.out w4 x4)).mono ?_
        rintro e w5 ⟨rfl, l5⟩
        refine hK.out _ _ (blk_at (z4.keep l5)) (fun hHeld => ?_)
        clear hK K'
        try simp only [Act.put, List.setIfInBounds_toArray, List.set_cons_zero, List.set_cons_succ]
        refine wpAnyH_ready (rs := [4]) (by kernel_rfl) (by simp) (AllReadyH.cons (o := ⟨none, .store 31 (.tmp 8) (.tmp 41), _, _, _, none⟩) rfl (fun K' hK => ?_) AllReadyH.nil)
        refine wp_store_whole _ _ _ rfl (w.heap.size + 1) 31 (PartB [] 16) (U F) rfl rfl ((g8.drew.lx x4 hB8).keep l5) (dig_sz HF.out) (dig_z HF.out) (U_one _) ?_
        intro w6 y1 y2
        refine hK.out _ _ (blk_at ((z4.keep l5).only y2 (by omega))) (fun hHeld => ?_)
        clear hK K' hHeld
        try simp only [Act.put]
        refine wpAnyH_done (by kernel_rfl) ?_ _
        go_wp2
        exact bodyPost_ret (v := .agg (U F).toArray) (dig_ret Tryd.results52 _ (w.heap.size + 1) _ HF.out rfl y1) rfl ⟨rfl, (((l3.same x4).later l5).new y2 (by omega)), (t4.later l5).only y2 (by omega) hB8⟩
end Go.Proofs.YtaihfkcoiagdaabDoor

/-
  THE WALK OF A TRAIL: grow.
-/
namespace Go.Proofs.YtaihfkcoiagdaabDoor
open Go.RowKit Go.ChangeShapes Go.WideShapes Go.ChangeAt

theorem results_two {P : Program} {fn : Func} {p q : Tmp} {ty : TypeId} (h : fn.results = #[.cell p ty, .cell q ty]) (tmps : Array Value) (w : World) (g k : Nat) (t : TypeId) (cs ds : List Value) (d : TypeDesc)
    (hp : tmps.getD p undef = .pointer (some ⟨g, 0, none⟩)) (hq : tmps.getD q undef = .pointer (some ⟨k, 0, none⟩)) (hg : Blk w g t cs) (hk : Blk w k t ds)
    (hu : P.underlying ty = some d) (hd : (match d with | .struct _ | .array _ _ => true | _ => false) = true) (hi : (P.info? ty).map (·.size) = some cs.length) (hj : (P.info? ty).map (·.size) = some ds.length) :
    (results fn tmps).run P w = .ok (.tuple #[.agg cs.toArray, .agg ds.toArray]) w := by
  have hp' : tmps[p]?.getD undef = .pointer (some ⟨g, 0, none⟩) := by simpa using hp
  have hq' : tmps[q]?.getD undef = .pointer (some ⟨k, 0, none⟩) := by simpa using hq
  simp [results, h, hp', hq', asAddr, run_loadVar_row w g t ty cs.toArray (0, 0) d hg hu hd (by rw [List.size_toArray]; exact hi), run_loadVar_row w k t ty ds.toArray (0, 0) d hk hu hd (by rw [List.size_toArray]; exact hj)]

theorem isD_nxt {t : Mk.Tr Wm.Bs} (h : isD t.rest) : (Mk.nxt zD t).1.length = 16 ∧ Wm.isBs (Mk.nxt zD t).1 := by
  match t, h with
  | ⟨[], s⟩, _ => exact ⟨zD_len, zD_bs⟩
  | ⟨d :: r, s⟩, hD => exact hD d List.mem_cons_self
theorem Trl.isD {w : World} {p B : Nat} {t : Mk.Tr Wm.Bs} (h : Trl w p B t) : isD t.rest := by
  obtain ⟨A, n, c, _, _, hD, _⟩ := h
  exact hD
theorem grow_dig (old : Wm.Bs) (h : old.length = 16 ∧ Wm.isBs old) (t : Mk.Tr Wm.Bs) (ht : isD t.rest) (N : Nat) : ∀ (m n : Nat) (known : Bool), n ≤ N →
    ((Mk.grow nodeD zD old m n known t).1.1.length = 16 ∧ Wm.isBs (Mk.grow nodeD zD old m n known t).1.1) ∧ ((Mk.grow nodeD zD old m n known t).1.2.length = 16 ∧ Wm.isBs (Mk.grow nodeD zD old m n known t).1.2) := by
  induction N with
  | zero =>
    intro m n known hn
    obtain rfl : n = 0 := by omega
    by_cases h1 : m = 0
    · subst h1; rw [Mk.grow_all]; cases known <;> simp [h, isD_nxt ht]
    · rw [Mk.grow, if_neg h1, dif_neg (by omega)]; exact ⟨h, h⟩
  | succ N ih =>
    intro m n known hn
    by_cases h1 : m = n
    · subst h1; rw [Mk.grow_all]; cases known <;> simp [h, isD_nxt ht]
    · by_cases h2 : 2 ≤ n
      · have a1 := Mk.sp_lt h2
        have a0 := Mk.sp_pos n
        by_cases h3 : m ≤ Mk.sp n
        · rw [Mk.grow_left _ _ _ _ _ _ _ h2 h1 h3]
          exact ⟨(ih m (Mk.sp n) known (by omega)).1, nodeD_len _ _, nodeD_bs _ _⟩
        · rw [Mk.grow_right _ _ _ _ _ _ _ h2 h1 h3]
          exact ⟨⟨nodeD_len _ _, nodeD_bs _ _⟩, nodeD_len _ _, nodeD_bs _ _⟩
      · rw [Mk.grow, if_neg h1, dif_neg h2]; exact ⟨h, h⟩

set_option maxRecDepth 100000 in
set_option maxHeartbeats 1000000 in
theorem grow_eq (p B : Nat) (old : Wm.Bs) (n : Nat) (t : Mk.Tr Wm.Bs) (w : World) (hd : old.length = 16 ∧ Wm.isBs old) (ht : Trl w p B t) :
    Calls Tryd.prog 53 #[.pointer (some ⟨B, 0, none⟩), .agg (U old).toArray, .int .i64 n, .int .i64 n, .bool true] w fun e w' => e = .returned (.tuple #[.agg (U old).toArray, .agg (U old).toArray]) ∧ Lx B w w' ∧ Trl w' p B t := by
  obtain ⟨X, hX⟩ : ∃ X, X = (U old).toArray := ⟨_, rfl⟩
  have HX := Lib.hid hX
  have HDG := Lib.hid hd
  have HT := Lib.hid ht
  have HM := Lib.hid ht.lt
  rw [← hX]
  clear hX hd ht
  go_enter Tryd.func53, Tryd.ntmps53
  go_wp2_with fail
  have g6 : Blk (((w.alloc (.cells X 31)).alloc (.cells (PartB [] 16).toArray 31)).alloc (.cells (PartB [] 16).toArray 31)) w.heap.size 31 (U old) := ((Blk.new w 31 X (U old) HX.out).alloc _).alloc _
  have g10 : Blk (((w.alloc (.cells X 31)).alloc (.cells (PartB [] 16).toArray 31)).alloc (.cells (PartB [] 16).toArray 31)) (w.heap.size + 1) 31 (PartB [] 16) := (Blk.new' _ _ _ _ _ (by simp) rfl).alloc _
  have g11 : Blk (((w.alloc (.cells X 31)).alloc (.cells (PartB [] 16).toArray 31)).alloc (.cells (PartB [] 16).toArray 31)) (w.heap.size + 1 + 1) 31 (PartB [] 16) := Blk.new' _ _ _ _ _ (by simp) rfl
  have l3 : Later w (((w.alloc (.cells X 31)).alloc (.cells (PartB [] 16).toArray 31)).alloc (.cells (PartB [] 16).toArray 31)) := (((Below.refl _ _).alloc (Nat.le_refl _) _).alloc (by simp) _).alloc (by simp; omega) _
  change Code.wp _ _ _ _ (((w.alloc (.cells X 31)).alloc (.cells (PartB [] 16).toArray 31)).alloc (.cells (PartB [] 16).toArray 31))
  generalize (((w.alloc (.cells X 31)).alloc (.cells (PartB [] 16).toArray 31)).alloc (.cells (PartB [] 16).toArray 31)) = w3 at g6 g10 g11 l3 ⊢
  refine wp_region_held_drew (S := fun w' => w'.rangeAt w.heap.size 0 (U old)) (by kernel_rfl) (blk_at g6.drew) (fun hHeld => ?_)
  refine wpAnyH_take (i := 0) (oi := ⟨some 21, .load 31 (.tmp 6), _, _, _, none⟩) (v := .agg (U old).toArray) rfl (by kernel_rfl) (by kernel_rfl) (by kernel_rfl) (fun _ _ _ h => h) (yieldsIf_load_mid (by rfl) _ _ rfl _ _ rfl _ _ (fun w h => h) Tryd.underlying31 rfl (dig_sz HDG.out.1)) hHeld ?_
  simp only [Act.put, List.setIfInBounds_toArray, List.set_cons_zero, List.set_cons_succ]
  refine wpAnyH_take (i := 1) (oi := ⟨some 22, .load 31 (.tmp 6), _, _, _, none⟩) (v := .agg (U old).toArray) rfl (by kernel_rfl) (by kernel_rfl) (by kernel_rfl) (fun _ _ _ h => h) (yieldsIf_load_mid (by rfl) _ _ rfl _ _ rfl _ _ (fun w h => h) Tryd.underlying31 rfl (dig_sz HDG.out.1)) hHeld ?_
  simp only [Act.put, List.setIfInBounds_toArray, List.set_cons_zero, List.set_cons_succ]
  refine wpAnyH_ready (rs := [2]) (by kernel_rfl) (by simp) (AllReadyH.cons (o := ⟨none, .store 31 (.tmp 10) (.tmp 21), _, _, _, none⟩) rfl (fun K' hK => ?_) AllReadyH.nil)
  refine wp_store_whole _ _ _ rfl (w.heap.size + 1) 31 (PartB [] 16) (U old) rfl rfl g10.drew (dig_sz HDG.out.1) (dig_z HDG.out.1) (U_one _) ?_
  intro w6 y1 y2
  refine hK.out _ _ (blk_at (g6.drew.only y2 (by omega))) (fun hHeld => ?_)
  clear hK K'
  simp only [Act.put]
  refine wpAnyH_ready (rs := [3]) (by kernel_rfl) (by simp) (AllReadyH.cons (o := ⟨none, .store 31 (.tmp 11) (.tmp 22), _, _, _, none⟩) rfl (fun K' hK => ?_) AllReadyH.nil)
  refine wp_store_whole _ _ _ rfl (w.heap.size + 1 + 1) 31 (PartB [] 16) (U old) rfl rfl (g11.drew.only y2 (by omega)) (dig_sz HDG.out.1) (dig_z HDG.out.1) (U_one _) ?_
  intro w7 x1 x2
  refine hK.out _ _ (blk_at ((g6.drew.only y2 (by omega)).only x2 (by omega))) (fun hHeld => ?_)
  clear hK K'
  simp only [Act.put]
  refine wpAnyH_done (by kernel_rfl) ?_ _
  go_wp2
  have l7 : Later w w7 := Below.only (Below.only l3.drew y2 (by omega)) x2 (by omega)
  exact bodyPost_ret (v := .tuple #[.agg (U old).toArray, .agg (U old).toArray]) (results_two Tryd.results53 _ _ (w.heap.size + 1) (w.heap.size + 1 + 1) 31 _ _ _ rfl rfl (y1.only x2 (by omega)) x1 Tryd.underlying31 rfl (dig_sz HDG.out.1) (dig_sz HDG.out.1)) rfl ⟨by rw [HX.out], Lx.of l7, HT.out.later l7⟩
set_option maxRecDepth 100000 in
set_option maxHeartbeats 1000000 in
theorem grow_new (p B : Nat) (old : Wm.Bs) (n : Nat) (t : Mk.Tr Wm.Bs) (w : World) (hd : old.length = 16 ∧ Wm.isBs old) (ht : Trl w p B t) (hp : p ≤ w.heap.size) :
    Calls Tryd.prog 53 #[.pointer (some ⟨B, 0, none⟩), .agg (U old).toArray, .int .i64 n, .int .i64 n, .bool false] w fun e w' => e = .returned (.tuple #[.agg (U (Mk.nxt zD t).1).toArray, .agg (U (Mk.nxt zD t).1).toArray]) ∧ Lx B w w' ∧ Trl w' p B (Mk.nxt zD t).2 := by
  obtain ⟨X, hX⟩ : ∃ X, X = (U old).toArray := ⟨_, rfl⟩
  have HX := Lib.hid hX
  have HDG := Lib.hid hd
  have HT := Lib.hid ht
  have HM := Lib.hid ht.lt
  obtain ⟨M, hM⟩ : ∃ M, M = Mk.nxt zD t := ⟨_, rfl⟩
  have HMD := Lib.hid (nxt_dig ht)
  have HN := Lib.hid fun (w' : World) (h : Trl w' p B t) => next_any p B t w' h
  rw [← hM] at HN HMD ⊢
  rw [← hX]
  clear hX hd ht hM
  go_enter Tryd.func53, Tryd.ntmps53
  go_wp2_with (first
    | (go_at_call 65; refine (HN.out _ (((HT.out.later ((Below.refl _ _).alloc (Nat.le_refl _) _)).later ((Below.refl _ _).alloc (Nat.le_refl _) _)).later ((Below.refl _ _).alloc (Nat.le_refl _) _))).mono ?_; rintro e w2 ⟨rfl, x2, t2⟩)
    | ((with_reducible refine wpList_store_abs (o := ⟨none, .store 31 (.tmp 6) (.tmp 20), _, _, _, none⟩) rfl _ _ _ rfl w.heap.size 31 (U old) (U M.1) ?_ ?_ ((((Blk.new w _ _ _ HX.out).alloc _).alloc _).lx x2 (by have := HM.out; omega)) (dig_sz HMD.out.1) (by rw [U_length, U_length, HDG.out.1, HMD.out.1]) (U_one _) ?_); rfl; rfl; intro w3 g6 z2))
  have g10 : Blk w3 (w.heap.size + 1) 31 (PartB [] 16) := ((((Blk.new' (w.alloc (.cells X 31)) _ 31 _ _ (by simp) part16.symm).alloc _)).lx x2 (by have := HM.out; omega)).only z2 (by omega)
  have g11 : Blk w3 (w.heap.size + 1 + 1) 31 (PartB [] 16) := ((Blk.new' ((w.alloc (.cells X 31)).alloc (.cells (PartB [] 16).toArray 31)) _ 31 _ _ (by simp) part16.symm).lx x2 (by have := HM.out; omega)).only z2 (by omega)
  have l3 : Lx B w w3 := ((Lx.of ((((Below.refl _ _).alloc (Nat.le_refl _) _).alloc (by simp) _).alloc (by simp; omega) _)).same x2).new z2 (Nat.le_refl _)
  have t3 : Trl w3 p B M.2 := t2.only z2 hp (by have := HM.out; omega)
  clear x2 z2 t2
  refine wp_region_held_drew (S := fun w' => w'.rangeAt w.heap.size 0 (U M.1)) (by kernel_rfl) (blk_at g6.drew) (fun hHeld => ?_)
  refine wpAnyH_take (i := 0) (oi := ⟨some 21, .load 31 (.tmp 6), _, _, _, none⟩) (v := .agg (U M.1).toArray) rfl (by kernel_rfl) (by kernel_rfl) (by kernel_rfl) (fun _ _ _ h => h) (yieldsIf_load_mid (by rfl) _ _ rfl _ _ rfl _ _ (fun w h => h) Tryd.underlying31 rfl (dig_sz HMD.out.1)) hHeld ?_
  simp only [Act.put, List.setIfInBounds_toArray, List.set_cons_zero, List.set_cons_succ]
  refine wpAnyH_take (i := 1) (oi := ⟨some 22, .load 31 (.tmp 6), _, _, _, none⟩) (v := .agg (U M.1).toArray) rfl (by kernel_rfl) (by kernel_rfl) (by kernel_rfl) (fun _ _ _ h => h) (yieldsIf_load_mid (by rfl) _ _ rfl _ _ rfl _ _ (fun w h => h) Tryd.underlying31 rfl (dig_sz HMD.out.1)) hHeld ?_
  simp only [Act.put, List.setIfInBounds_toArray, List.set_cons_zero, List.set_cons_succ]
  refine wpAnyH_ready (rs := [2]) (by kernel_rfl) (by simp) (AllReadyH.cons (o := ⟨none, .store 31 (.tmp 10) (.tmp 21), _, _, _, none⟩) rfl (fun K' hK => ?_) AllReadyH.nil)
  refine wp_store_whole _ _ _ rfl (w.heap.size + 1) 31 (PartB [] 16) (U M.1) rfl rfl g10.drew (dig_sz HMD.out.1) (dig_z HMD.out.1) (U_one _) ?_
  intro w6 y1 y2
  refine hK.out _ _ (blk_at (g6.drew.only y2 (by omega))) (fun hHeld => ?_)
  clear hK K'
  simp only [Act.put]
  refine wpAnyH_ready (rs := [3]) (by kernel_rfl) (by simp) (AllReadyH.cons (o := ⟨none, .store 31 (.tmp 11) (.tmp 22), _, _, _, none⟩) rfl (fun K' hK => ?_) AllReadyH.nil)
  refine wp_store_whole _ _ _ rfl (w.heap.size + 1 + 1) 31 (PartB [] 16) (U M.1) rfl rfl (g11.drew.only y2 (by omega)) (dig_sz HMD.out.1) (dig_z HMD.out.1) (U_one _) ?_
  intro w7 x1 x2
  refine hK.out _ _ (blk_at ((g6.drew.only y2 (by omega)).only x2 (by omega))) (fun hHeld => ?_)
  clear hK K'
  simp only [Act.put]
  refine wpAnyH_done (by kernel_rfl) ?_ _
  go_wp2
  have l7 : Lx B w w7 := ((Lx.later l3 (Below.refl _ _).drew).new y2 (by omega)).new x2 (by omega)
  exact bodyPost_ret (v := .tuple #[.agg (U M.1).toArray, .agg (U M.1).toArray]) (results_two Tryd.results53 _ _ (w.heap.size + 1) (w.heap.size + 1 + 1) 31 _ _ _ rfl rfl (y1.only x2 (by omega)) x1 Tryd.underlying31 rfl (dig_sz HMD.out.1) (dig_sz HMD.out.1)) rfl ⟨rfl, l7, ((t3.later (Below.refl _ _).drew).only y2 (by omega) (by have := HM.out; omega)).only x2 (by omega) (by have := HM.out; omega)⟩
end Go.Proofs.YtaihfkcoiagdaabDoor
