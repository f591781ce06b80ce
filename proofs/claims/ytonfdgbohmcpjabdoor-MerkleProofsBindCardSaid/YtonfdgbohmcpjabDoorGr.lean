/-
  PLAIN MATHEMATICS: a check that takes its path from the end, against a trail that takes it from the front.
-/
import Derived.Test.YtonfdgbohmcpjabDoorGf
namespace Go.Proofs.YtonfdgbohmcpjabDoor.Mk

section
variable {D : Type} (node : D → D → D) (z : D)

/-- The reference's climb. -/
def rcl (leaf : D) (i n : Nat) (p : List D) : D × Bool :=
  if _h : 2 ≤ n then
    if p = [] then (z, false)
    else if i < sp n then (node (rcl leaf i (sp n) p.dropLast).1 (p.getLastD z), (rcl leaf i (sp n) p.dropLast).2)
    else (node (p.getLastD z) (rcl leaf (i - sp n) (n - sp n) p.dropLast).1, (rcl leaf (i - sp n) (n - sp n) p.dropLast).2)
  else (leaf, p.isEmpty)
termination_by n
decreasing_by
  all_goals first | exact sp_lt _h | (have := sp_pos n; omega)
theorem rcl_small (leaf : D) (i n : Nat) (p : List D) (h : ¬ 2 ≤ n) : rcl node z leaf i n p = (leaf, p.isEmpty) := by rw [rcl, dif_neg h]
theorem rcl_nil (leaf : D) (i n : Nat) (h : 2 ≤ n) : rcl node z leaf i n [] = (z, false) := by rw [rcl, dif_pos h, if_pos rfl]
theorem rcl_left (leaf : D) (i n : Nat) (p : List D) (x : D) (h : 2 ≤ n) (hi : i < sp n) : rcl node z leaf i n (p ++ [x]) = (node (rcl node z leaf i (sp n) p).1 x, (rcl node z leaf i (sp n) p).2) := by
  conv => lhs; rw [rcl]
  rw [dif_pos h, if_neg (by simp), if_pos hi, List.dropLast_concat, List.getLastD_concat]
theorem rcl_right (leaf : D) (i n : Nat) (p : List D) (x : D) (h : 2 ≤ n) (hi : ¬ i < sp n) : rcl node z leaf i n (p ++ [x]) = (node x (rcl node z leaf (i - sp n) (n - sp n) p).1, (rcl node z leaf (i - sp n) (n - sp n) p).2) := by
  conv => lhs; rw [rcl]
  rw [dif_pos h, if_neg (by simp), if_neg hi, List.dropLast_concat, List.getLastD_concat]

/-- How many elements a climb takes. -/
def dep (i n : Nat) : Nat :=
  if _h : 2 ≤ n then (if i < sp n then dep i (sp n) else dep (i - sp n) (n - sp n)) + 1 else 0
termination_by n
decreasing_by
  all_goals first | exact sp_lt _h | (have := sp_pos n; omega)
theorem dep_small (i n : Nat) (h : ¬ 2 ≤ n) : dep i n = 0 := by rw [dep, dif_neg h]
theorem dep_left (i n : Nat) (h : 2 ≤ n) (hi : i < sp n) : dep i n = dep i (sp n) + 1 := by
  conv => lhs; rw [dep]
  rw [dif_pos h, if_pos hi]
theorem dep_right (i n : Nat) (h : 2 ≤ n) (hi : ¬ i < sp n) : dep i n = dep (i - sp n) (n - sp n) + 1 := by
  conv => lhs; rw [dep]
  rw [dif_pos h, if_neg hi]

theorem snoc_of {l : List D} {k : Nat} (h : l.length = k + 1) : ∃ p x, l = p ++ [x] ∧ p.length = k := by
  have hne : l ≠ [] := fun e => by rw [e] at h; simp at h
  exact ⟨l.dropLast, l.getLast hne, (List.dropLast_concat_getLast hne).symm, by rw [List.length_dropLast]; omega⟩

/-- With as many as it takes: the same digest; it is right. -/
theorem climb_full (leaf : D) (N : Nat) : ∀ (i n : Nat) (p r : List D) (s : Bool), n ≤ N → p.length = dep i n → climb node z leaf i n ⟨p ++ r, s⟩ = ((rcl node z leaf i n p).1, ⟨r, s⟩) ∧ (rcl node z leaf i n p).2 = true := by
  induction N with
  | zero =>
    intro i n p r s hn hp
    rw [dep_small _ _ (by omega)] at hp
    have e : p = [] := List.eq_nil_of_length_eq_zero hp
    subst e
    rw [climb_small _ _ _ _ _ _ (by omega), rcl_small _ _ _ _ _ _ (by omega)]; exact ⟨rfl, rfl⟩
  | succ N ih =>
    intro i n p r s hn hp
    by_cases h : 2 ≤ n
    · have a1 := sp_lt h
      have a0 := sp_pos n
      by_cases hi : i < sp n
      · rw [dep_left _ _ h hi] at hp
        obtain ⟨q, x, rfl, hq⟩ := snoc_of hp
        obtain ⟨h1, h2⟩ := ih i (sp n) q ([x] ++ r) s (by omega) hq
        rw [climb_left _ _ _ _ _ _ h hi, rcl_left _ _ _ _ _ _ _ h hi, List.append_assoc, h1]
        exact ⟨rfl, h2⟩
      · rw [dep_right _ _ h hi] at hp
        obtain ⟨q, x, rfl, hq⟩ := snoc_of hp
        obtain ⟨h1, h2⟩ := ih (i - sp n) (n - sp n) q ([x] ++ r) s (by omega) hq
        rw [climb_right _ _ _ _ _ _ h hi, rcl_right _ _ _ _ _ _ _ h hi, List.append_assoc, h1]
        exact ⟨rfl, h2⟩
    · rw [dep_small _ _ h] at hp
      have e : p = [] := List.eq_nil_of_length_eq_zero hp
      subst e
      rw [climb_small _ _ _ _ _ _ (by omega), rcl_small _ _ _ _ _ _ h]; exact ⟨rfl, rfl⟩

theorem nxt_short {t : Tr D} (h : t.short = true) : (nxt z t).2.short = true := by
  match t, h with
  | ⟨[], _⟩, _ => rfl
  | ⟨_ :: _, _⟩, h => exact h
theorem climb_short (leaf : D) (N : Nat) : ∀ (i n : Nat) (p : List D), n ≤ N → p.length < dep i n → (climb node z leaf i n ⟨p, false⟩).2.short = true := by
  induction N with
  | zero => intro i n p hn hp; rw [dep_small _ _ (by omega)] at hp; omega
  | succ N ih =>
    intro i n p hn hp
    by_cases h : 2 ≤ n
    · have a1 := sp_lt h
      have a0 := sp_pos n
      by_cases hi : i < sp n
      · rw [dep_left _ _ h hi] at hp
        rw [climb_left _ _ _ _ _ _ h hi]
        by_cases he : p.length = dep i (sp n)
        · have h1 := (climb_full node z leaf _ i (sp n) p [] false (Nat.le_refl _) he).1
          rw [List.append_nil] at h1
          rw [h1]; rfl
        · exact nxt_short z (ih i (sp n) p (by omega) (by omega))
      · rw [dep_right _ _ h hi] at hp
        rw [climb_right _ _ _ _ _ _ h hi]
        by_cases he : p.length = dep (i - sp n) (n - sp n)
        · have h1 := (climb_full node z leaf _ (i - sp n) (n - sp n) p [] false (Nat.le_refl _) he).1
          rw [List.append_nil] at h1
          rw [h1]; rfl
        · exact nxt_short z (ih (i - sp n) (n - sp n) p (by omega) (by omega))
    · rw [dep_small _ _ h] at hp; omega
theorem rcl_not (leaf : D) (N : Nat) : ∀ (i n : Nat) (p : List D), n ≤ N → p.length ≠ dep i n → (rcl node z leaf i n p).2 = false := by
  induction N with
  | zero =>
    intro i n p hn hp
    rw [dep_small _ _ (by omega)] at hp
    rw [rcl_small _ _ _ _ _ _ (by omega)]
    cases p with
    | nil => simp at hp
    | cons a b => rfl
  | succ N ih =>
    intro i n p hn hp
    by_cases h : 2 ≤ n
    · have a1 := sp_lt h
      have a0 := sp_pos n
      cases hl : p.length with
      | zero => rw [List.eq_nil_of_length_eq_zero hl, rcl_nil _ _ _ _ _ h]
      | succ k =>
        obtain ⟨q, x, rfl, hq⟩ := snoc_of hl
        by_cases hi : i < sp n
        · rw [dep_left _ _ h hi] at hp
          rw [rcl_left _ _ _ _ _ _ _ h hi]
          exact ih i (sp n) q (by omega) (by rw [List.length_append, List.length_singleton] at hp; omega)
        · rw [dep_right _ _ h hi] at hp
          rw [rcl_right _ _ _ _ _ _ _ h hi]
          exact ih (i - sp n) (n - sp n) q (by omega) (by rw [List.length_append, List.length_singleton] at hp; omega)
    · rw [dep_small _ _ h] at hp
      rw [rcl_small _ _ _ _ _ _ h]
      cases p with
      | nil => simp at hp
      | cons a b => rfl

/-- The two checks agree. -/
theorem climb_rcl [DecidableEq D] (leaf root : D) (i n : Nat) (p : List D) :
    (decide ((climb node z leaf i n ⟨p, false⟩).1 = root) && !(climb node z leaf i n ⟨p, false⟩).2.short && (climb node z leaf i n ⟨p, false⟩).2.rest.isEmpty) = ((rcl node z leaf i n p).2 && decide ((rcl node z leaf i n p).1 = root)) := by
  by_cases he : p.length = dep i n
  · obtain ⟨h1, h2⟩ := climb_full node z leaf n i n p [] false (Nat.le_refl _) he
    rw [List.append_nil] at h1
    rw [h1, h2]; simp
  · rw [rcl_not node z leaf n i n p (Nat.le_refl _) he, Bool.false_and]
    rcases Nat.lt_or_gt_of_ne he with hlt | hgt
    · rw [climb_short node z leaf n i n p (Nat.le_refl _) hlt]; simp
    · have e : p = p.take (dep i n) ++ p.drop (dep i n) := (List.take_append_drop _ _).symm
      have h1 := (climb_full node z leaf n i n (p.take (dep i n)) (p.drop (dep i n)) false (Nat.le_refl _) (by rw [List.length_take]; omega)).1
      rw [← e] at h1
      rw [h1]
      have h3 : (p.drop (dep i n)).isEmpty = false := by
        cases hd : p.drop (dep i n) with
        | nil => have := congrArg List.length hd; rw [List.length_drop] at this; simp at this; omega
        | cons a b => rfl
      simp [h3]
end
end Go.Proofs.YtonfdgbohmcpjabDoor.Mk

/-
  PLAIN MATHEMATICS: both roots from a path taken from the end, against a trail.
-/
namespace Go.Proofs.YtonfdgbohmcpjabDoor.Mk

section
variable {D : Type} (node : D → D → D) (z : D)

/-- The reference's both. -/
def rbo (old : D) (m n : Nat) (mark : Bool) (p : List D) : (D × D) × Bool :=
  if m = n ∧ mark = true then ((old, old), p.isEmpty)
  else if p = [] then ((z, z), false)
  else if m = n then ((p.getLastD z, p.getLastD z), p.dropLast.isEmpty)
  else if _h : 2 ≤ n then
    if m ≤ sp n then (((rbo old m (sp n) mark p.dropLast).1.1, node (rbo old m (sp n) mark p.dropLast).1.2 (p.getLastD z)), (rbo old m (sp n) mark p.dropLast).2)
    else ((node (p.getLastD z) (rbo old (m - sp n) (n - sp n) false p.dropLast).1.1, node (p.getLastD z) (rbo old (m - sp n) (n - sp n) false p.dropLast).1.2), (rbo old (m - sp n) (n - sp n) false p.dropLast).2)
  else ((z, z), false)
termination_by n
decreasing_by
  all_goals first | exact sp_lt _h | (have := sp_pos n; omega)
theorem rbo_all (old : D) (n : Nat) (p : List D) : rbo node z old n n true p = ((old, old), p.isEmpty) := by rw [rbo, if_pos ⟨rfl, rfl⟩]
theorem rbo_nil (old : D) (m n : Nat) (mark : Bool) (h : ¬ (m = n ∧ mark = true)) : rbo node z old m n mark [] = ((z, z), false) := by rw [rbo, if_neg h, if_pos rfl]
theorem rbo_one (old : D) (n : Nat) (p : List D) (x : D) : rbo node z old n n false (p ++ [x]) = ((x, x), p.isEmpty) := by
  rw [rbo, if_neg (by simp), if_neg (by simp), if_pos rfl, List.dropLast_concat, List.getLastD_concat]
theorem rbo_left (old : D) (m n : Nat) (mark : Bool) (p : List D) (x : D) (h : 2 ≤ n) (h1 : m ≠ n) (hi : m ≤ sp n) : rbo node z old m n mark (p ++ [x]) = (((rbo node z old m (sp n) mark p).1.1, node (rbo node z old m (sp n) mark p).1.2 x), (rbo node z old m (sp n) mark p).2) := by
  conv => lhs; rw [rbo]
  rw [if_neg (fun e => h1 e.1), if_neg (by simp), if_neg h1, dif_pos h, if_pos hi, List.dropLast_concat, List.getLastD_concat]
theorem rbo_right (old : D) (m n : Nat) (mark : Bool) (p : List D) (x : D) (h : 2 ≤ n) (h1 : m ≠ n) (hi : ¬ m ≤ sp n) : rbo node z old m n mark (p ++ [x]) = ((node x (rbo node z old (m - sp n) (n - sp n) false p).1.1, node x (rbo node z old (m - sp n) (n - sp n) false p).1.2), (rbo node z old (m - sp n) (n - sp n) false p).2) := by
  conv => lhs; rw [rbo]
  rw [if_neg (fun e => h1 e.1), if_neg (by simp), if_neg h1, dif_pos h, if_neg hi, List.dropLast_concat, List.getLastD_concat]

/-- How many elements it takes. -/
def dpb (m n : Nat) (mark : Bool) : Nat :=
  if m = n then (if mark then 0 else 1)
  else if _h : 2 ≤ n then (if m ≤ sp n then dpb m (sp n) mark else dpb (m - sp n) (n - sp n) false) + 1 else 0
termination_by n
decreasing_by
  all_goals first | exact sp_lt _h | (have := sp_pos n; omega)
theorem dpb_all (n : Nat) (mark : Bool) : dpb n n mark = if mark then 0 else 1 := by rw [dpb, if_pos rfl]
theorem dpb_left (m n : Nat) (mark : Bool) (h : 2 ≤ n) (h1 : m ≠ n) (hi : m ≤ sp n) : dpb m n mark = dpb m (sp n) mark + 1 := by
  conv => lhs; rw [dpb]
  rw [if_neg h1, dif_pos h, if_pos hi]
theorem dpb_right (m n : Nat) (mark : Bool) (h : 2 ≤ n) (h1 : m ≠ n) (hi : ¬ m ≤ sp n) : dpb m n mark = dpb (m - sp n) (n - sp n) false + 1 := by
  conv => lhs; rw [dpb]
  rw [if_neg h1, dif_pos h, if_neg hi]

theorem grow_full (old : D) (N : Nat) : ∀ (m n : Nat) (mark : Bool) (p r : List D) (s : Bool), n ≤ N → 1 ≤ m → m ≤ n → p.length = dpb m n mark → grow node z old m n mark ⟨p ++ r, s⟩ = ((rbo node z old m n mark p).1, ⟨r, s⟩) ∧ (rbo node z old m n mark p).2 = true := by
  induction N with
  | zero => intro m n mark p r s hn h1 h2; omega
  | succ N ih =>
    intro m n mark p r s hn hm1 hmn hp
    by_cases he : m = n
    · subst he
      rw [dpb_all] at hp
      cases mark with
      | true =>
        have e : p = [] := List.eq_nil_of_length_eq_zero hp
        subst e
        rw [grow_all, rbo_all]; exact ⟨rfl, rfl⟩
      | false =>
        obtain ⟨q, x, rfl, hq⟩ := snoc_of (k := 0) hp
        have e : q = [] := List.eq_nil_of_length_eq_zero hq
        subst e
        rw [grow_all, rbo_one]; exact ⟨rfl, rfl⟩
    · have h : 2 ≤ n := by omega
      have a1 := sp_lt h
      have a0 := sp_pos n
      by_cases hi : m ≤ sp n
      · rw [dpb_left _ _ _ h he hi] at hp
        obtain ⟨q, x, rfl, hq⟩ := snoc_of hp
        obtain ⟨h1, h2⟩ := ih m (sp n) mark q ([x] ++ r) s (by omega) hm1 hi hq
        rw [grow_left _ _ _ _ _ _ _ h he hi, rbo_left _ _ _ _ _ _ _ _ h he hi, List.append_assoc, h1]
        exact ⟨rfl, h2⟩
      · rw [dpb_right _ _ _ h he hi] at hp
        obtain ⟨q, x, rfl, hq⟩ := snoc_of hp
        obtain ⟨h1, h2⟩ := ih (m - sp n) (n - sp n) false q ([x] ++ r) s (by omega) (by omega) (by omega) hq
        rw [grow_right _ _ _ _ _ _ _ h he hi, rbo_right _ _ _ _ _ _ _ _ h he hi, List.append_assoc, h1]
        exact ⟨rfl, h2⟩
theorem grow_short (old : D) (N : Nat) : ∀ (m n : Nat) (mark : Bool) (p : List D), n ≤ N → 1 ≤ m → m ≤ n → p.length < dpb m n mark → (grow node z old m n mark ⟨p, false⟩).2.short = true := by
  induction N with
  | zero => intro m n mark p hn h1 h2; omega
  | succ N ih =>
    intro m n mark p hn hm1 hmn hp
    by_cases he : m = n
    · subst he
      rw [dpb_all] at hp
      cases mark with
      | true => simp at hp
      | false =>
        have e : p = [] := List.eq_nil_of_length_eq_zero (by simp at hp; simpa using hp)
        subst e
        rw [grow_all]; rfl
    · have h : 2 ≤ n := by omega
      have a1 := sp_lt h
      have a0 := sp_pos n
      by_cases hi : m ≤ sp n
      · rw [dpb_left _ _ _ h he hi] at hp
        rw [grow_left _ _ _ _ _ _ _ h he hi]
        by_cases hq : p.length = dpb m (sp n) mark
        · have h1 := (grow_full node z old _ m (sp n) mark p [] false (Nat.le_refl _) hm1 hi hq).1
          rw [List.append_nil] at h1
          rw [h1]; rfl
        · exact nxt_short z (ih m (sp n) mark p (by omega) hm1 hi (by omega))
      · rw [dpb_right _ _ _ h he hi] at hp
        rw [grow_right _ _ _ _ _ _ _ h he hi]
        by_cases hq : p.length = dpb (m - sp n) (n - sp n) false
        · have h1 := (grow_full node z old _ (m - sp n) (n - sp n) false p [] false (Nat.le_refl _) (by omega) (by omega) hq).1
          rw [List.append_nil] at h1
          rw [h1]; rfl
        · exact nxt_short z (ih (m - sp n) (n - sp n) false p (by omega) (by omega) (by omega) (by omega))
theorem rbo_not (old : D) (N : Nat) : ∀ (m n : Nat) (mark : Bool) (p : List D), n ≤ N → 1 ≤ m → m ≤ n → p.length ≠ dpb m n mark → (rbo node z old m n mark p).2 = false := by
  induction N with
  | zero => intro m n mark p hn h1 h2; omega
  | succ N ih =>
    intro m n mark p hn hm1 hmn hp
    by_cases he : m = n
    · subst he
      rw [dpb_all] at hp
      cases mark with
      | true =>
        rw [rbo_all]
        cases p with
        | nil => simp at hp
        | cons a b => rfl
      | false =>
        cases hl : p.length with
        | zero => rw [List.eq_nil_of_length_eq_zero hl, rbo_nil _ _ _ _ _ _ (by simp)]
        | succ k =>
          obtain ⟨q, x, rfl, hq⟩ := snoc_of hl
          rw [rbo_one]
          cases q with
          | nil => simp at hp
          | cons a b => rfl
    · have h : 2 ≤ n := by omega
      have a1 := sp_lt h
      have a0 := sp_pos n
      cases hl : p.length with
      | zero => rw [List.eq_nil_of_length_eq_zero hl, rbo_nil _ _ _ _ _ _ (fun e => he e.1)]
      | succ k =>
        obtain ⟨q, x, rfl, hq⟩ := snoc_of hl
        by_cases hi : m ≤ sp n
        · rw [dpb_left _ _ _ h he hi] at hp
          rw [rbo_left _ _ _ _ _ _ _ _ h he hi]
          exact ih m (sp n) mark q (by omega) hm1 hi (by rw [List.length_append, List.length_singleton] at hp; omega)
        · rw [dpb_right _ _ _ h he hi] at hp
          rw [rbo_right _ _ _ _ _ _ _ _ h he hi]
          exact ih (m - sp n) (n - sp n) false q (by omega) (by omega) (by omega) (by rw [List.length_append, List.length_singleton] at hp; omega)

/-- The two checks agree. -/
theorem grow_rbo [DecidableEq D] (old root : D) (m n : Nat) (p : List D) (h1 : 1 ≤ m) (h2 : m ≤ n) :
    (decide ((grow node z old m n true ⟨p, false⟩).1.1 = old) && decide ((grow node z old m n true ⟨p, false⟩).1.2 = root) && !(grow node z old m n true ⟨p, false⟩).2.short && (grow node z old m n true ⟨p, false⟩).2.rest.isEmpty) = ((rbo node z old m n true p).2 && decide ((rbo node z old m n true p).1.1 = old) && decide ((rbo node z old m n true p).1.2 = root)) := by
  by_cases he : p.length = dpb m n true
  · obtain ⟨g1, g2⟩ := grow_full node z old n m n true p [] false (Nat.le_refl _) h1 h2 he
    rw [List.append_nil] at g1
    rw [g1, g2]; simp
  · rw [rbo_not node z old n m n true p (Nat.le_refl _) h1 h2 he, Bool.false_and, Bool.false_and]
    rcases Nat.lt_or_gt_of_ne he with hlt | hgt
    · rw [grow_short node z old n m n true p (Nat.le_refl _) h1 h2 hlt]; simp
    · have e : p = p.take (dpb m n true) ++ p.drop (dpb m n true) := (List.take_append_drop _ _).symm
      have g1 := (grow_full node z old n m n true (p.take (dpb m n true)) (p.drop (dpb m n true)) false (Nat.le_refl _) h1 h2 (by rw [List.length_take]; omega)).1
      rw [← e] at g1
      rw [g1]
      have h3 : (p.drop (dpb m n true)).isEmpty = false := by
        cases hd : p.drop (dpb m n true) with
        | nil => have := congrArg List.length hd; rw [List.length_drop] at this; simp at this; omega
        | cons a b => rfl
      simp [h3]
end
end Go.Proofs.YtonfdgbohmcpjabDoor.Mk
