/-
  PLAIN MATHEMATICS: bytes of a memory, numbers of bytes, what a store changes; of no program.
-/
import Derived.Test.YtffgbbfcbobecaaWireList
namespace Go.Proofs.Ytffgbbfcbobecaa
namespace Mm
open Wm (Bs isBs)

/-- The number that bytes have, the least one first. -/
def le : Bs → Int | [] => 0 | b :: r => b + 256 * le r
/-- The lowest bytes of a number, the least one first. -/
def el : Nat → Int → Bs | 0, _ => [] | k + 1, v => (v % 256) :: el k (v / 256)
theorem el_len (k : Nat) : ∀ v, (el k v).length = k := by induction k with | zero => intro v; rfl | succ k ih => intro v; simp [el, ih]
theorem el_bs (k : Nat) : ∀ v, isBs (el k v) := by
  induction k with
  | zero => intro v x hx; cases hx
  | succ k ih =>
    intro v x hx
    rcases List.mem_cons.1 hx with rfl | h
    · omega
    · exact ih _ x h
theorem el_get (k : Nat) : ∀ v i, i < k → (el k v)[i]? = some (v / 256 ^ i % 256) := by
  induction k with
  | zero => intro v i h; omega
  | succ k ih =>
    intro v i h
    cases i with
    | zero => simp [el]
    | succ i => rw [el, List.getElem?_cons_succ, ih _ _ (by omega), Int.pow_succ, Int.mul_comm, Int.ediv_ediv_of_nonneg (by omega : (0 : Int) ≤ 256)]
theorem le_nn {b : Bs} (h : isBs b) : 0 ≤ le b := by
  induction b with
  | nil => exact Int.le_refl _
  | cons x r ih =>
    have h1 := h x List.mem_cons_self
    have h2 := ih fun y hy => h y (List.mem_cons_of_mem _ hy)
    show 0 ≤ x + 256 * le r
    omega
theorem le_lt {b : Bs} (h : isBs b) : le b < 256 ^ b.length := by
  induction b with
  | nil => decide
  | cons x r ih =>
    have h1 := h x List.mem_cons_self
    have h2 := ih fun y hy => h y (List.mem_cons_of_mem _ hy)
    show x + 256 * le r < 256 ^ (r.length + 1)
    rw [Int.pow_succ]
    omega
theorem emod_split (v M : Int) (hM : 0 < M) : v % (256 * M) = v % 256 + 256 * (v / 256 % M) := by
  have h1 := Int.emod_add_mul_ediv v 256
  have h2 := Int.emod_add_mul_ediv (v / 256) M
  have l0 := Int.emod_nonneg (v / 256) (Int.ne_of_gt hM)
  have l1 := Int.emod_lt_of_pos (v / 256) hM
  have m0 := Int.emod_nonneg v (by omega : (256 : Int) ≠ 0)
  have m1 := Int.emod_lt_of_pos v (by omega : (0 : Int) < 256)
  have e : v = (v % 256 + 256 * (v / 256 % M)) + (256 * M) * (v / 256 / M) := by
    rw [Int.mul_assoc]
    generalize M * (v / 256 / M) = X at *
    generalize v / 256 % M = R at *
    omega
  refine (congrArg (· % (256 * M)) e).trans ?_
  refine (Int.add_mul_emod_self_left _ _ _).trans (Int.emod_eq_of_lt (by omega) ?_)
  generalize v / 256 % M = R at *
  omega
theorem le_el (k : Nat) : ∀ v, le (el k v) = v % 256 ^ k := by
  induction k with
  | zero => intro v; show (0 : Int) = v % 1; omega
  | succ k ih =>
    intro v
    show v % 256 + 256 * le (el k (v / 256)) = _
    rw [ih, Int.pow_succ, Int.mul_comm (256 ^ k) 256]
    rw [emod_split v _ (Int.pow_pos (by omega))]
theorem le_snoc (b : Bs) (x : Int) : le (b ++ [x]) = le b + 256 ^ b.length * x := by
  induction b with
  | nil => show x + 256 * 0 = 0 + 256 ^ 0 * x; omega
  | cons y r ih =>
    show y + 256 * le (r ++ [x]) = y + 256 * le r + 256 ^ (r.length + 1) * x
    rw [ih, Int.pow_succ, Int.mul_add, Int.mul_comm (256 ^ r.length) 256, Int.mul_assoc]
    omega

/-- Bytes laid over others from a place on. -/
def put (m : Bs) (o : Nat) (d : Bs) : Bs := m.take o ++ d ++ m.drop (o + d.length)
theorem put_len {m : Bs} {o : Nat} {d : Bs} (h : o + d.length ≤ m.length) : (put m o d).length = m.length := by
  unfold put; simp; omega
theorem put_bs {m : Bs} {o : Nat} {d : Bs} (hm : isBs m) (hd : isBs d) : isBs (put m o d) := by
  intro x hx
  unfold put at hx
  rcases List.mem_append.1 hx with h | h
  · rcases List.mem_append.1 h with h | h
    · exact hm x (List.mem_of_mem_take h)
    · exact hd x h
  · exact hm x (List.mem_of_mem_drop h)
theorem put_get {m : Bs} {o : Nat} {d : Bs} (h : o + d.length ≤ m.length) (i : Nat) : (put m o d)[i]? = if i < o then m[i]? else if i < o + d.length then d[i - o]? else m[i]? := by
  unfold put
  have h1 : (m.take o).length = o := by rw [List.length_take]; omega
  rw [List.append_assoc]
  by_cases a : i < o
  · rw [if_pos a, List.getElem?_append_left (by omega), List.getElem?_take, if_pos a]
  · rw [if_neg a, List.getElem?_append_right (by omega), h1]
    by_cases b : i < o + d.length
    · rw [if_pos b, List.getElem?_append_left (by omega)]
    · rw [if_neg b, List.getElem?_append_right (by omega), List.getElem?_drop]
      congr 1
      omega
theorem put_nil (m : Bs) (o : Nat) : put m o [] = m := by unfold put; simp
theorem put_app (m : Bs) (o : Nat) (d e : Bs) (h : o + (d.length + e.length) ≤ m.length) : put (put m o d) (o + d.length) e = put m o (d ++ e) := by
  have hl : (put m o d).length = m.length := put_len (by omega)
  apply List.ext_getElem?
  intro i
  rw [put_get (by omega), put_get (by omega), put_get (by simp; omega)]
  simp only [List.length_append]
  by_cases a : i < o
  · rw [if_pos a, if_pos a, if_pos (by omega)]
  · rw [if_neg a, if_neg a]
    by_cases b : i < o + d.length
    · rw [if_pos b, if_pos b, if_pos (by omega), List.getElem?_append_left (by omega)]
    · rw [if_neg b, if_neg b]
      by_cases c : i < o + d.length + e.length
      · rw [if_pos c, if_pos (by omega), List.getElem?_append_right (by omega)]
        congr 1
        omega
      · rw [if_neg c, if_neg (by omega)]
theorem put_same {m : Bs} {o : Nat} {d : Bs} (h : o + d.length ≤ m.length) : ((put m o d).drop o).take d.length = d := by
  apply List.ext_getElem?
  intro i
  rw [List.getElem?_take]
  by_cases a : i < d.length
  · rw [if_pos a, List.getElem?_drop, put_get h, if_neg (by omega), if_pos (by omega)]
    congr 1
    omega
  · rw [if_neg a, List.getElem?_eq_none (by omega)]
theorem put_other {m : Bs} {o : Nat} {d : Bs} (h : o + d.length ≤ m.length) {a s : Nat} (hs : a + s ≤ o ∨ o + d.length ≤ a) : ((put m o d).drop a).take s = (m.drop a).take s := by
  apply List.ext_getElem?
  intro i
  rw [List.getElem?_take, List.getElem?_take]
  by_cases c : i < s
  · rw [if_pos c, if_pos c, List.getElem?_drop, List.getElem?_drop, put_get h]
    by_cases e : a + i < o
    · rw [if_pos e]
    · rw [if_neg e, if_neg (by omega)]
  · rw [if_neg c, if_neg c]
theorem put_set (m : Bs) (o : Nat) (x : Int) (h : o < m.length) : put m o [x] = m.set o x := by
  apply List.ext_getElem?
  intro i
  rw [put_get (by simp; omega), List.getElem?_set]
  simp only [List.length_singleton]
  by_cases a : i < o
  · rw [if_pos a, if_neg (by omega)]
  · rw [if_neg a]
    by_cases b : i = o
    · subst b; rw [if_pos (by omega), if_pos rfl, if_pos h]; simp
    · rw [if_neg (by omega), if_neg (by omega)]
theorem put_self {m : Bs} {o k : Nat} (h : o + k ≤ m.length) : put m o ((m.drop o).take k) = m := by
  have hl : ((m.drop o).take k).length = k := by rw [List.length_take, List.length_drop]; omega
  apply List.ext_getElem?
  intro i
  rw [put_get (by omega), hl]
  by_cases a : i < o
  · rw [if_pos a]
  · rw [if_neg a]
    by_cases b : i < o + k
    · rw [if_pos b, List.getElem?_take, if_pos (by omega), List.getElem?_drop]
      congr 1
      omega
    · rw [if_neg b]

/-- Whether a place is there, in a memory of L bytes. -/
def There (L : Nat) (a s : Int) : Prop := (s = 1 ∨ s = 4 ∧ a % 4 = 0) ∧ 0 ≤ a ∧ s ≤ (L : Int) - a
instance (L : Nat) (a s : Int) : Decidable (There L a s) := by unfold There; exact inferInstance
/-- Whether n bytes are all inside. -/
def Inside (L : Nat) (a n : Int) : Prop := 0 ≤ a ∧ 0 ≤ n ∧ n ≤ (L : Int) - a
instance (L : Nat) (a n : Int) : Decidable (Inside L a n) := by unfold Inside; exact inferInstance
theorem There.inside {L : Nat} {a s : Int} (h : There L a s) : Inside L a s := by
  obtain ⟨h1, h2, h3⟩ := h
  exact ⟨h2, by omega, h3⟩

/-- What is loaded. -/
def ld (m : Bs) (a s : Int) : Int := if There m.length a s then le ((m.drop a.toNat).take s.toNat) else 0
/-- What a store makes. -/
def st (m : Bs) (a s v : Int) : Bs := if There m.length a s then put m a.toNat (el s.toNat v) else m
theorem st_len (m : Bs) (a s v : Int) : (st m a s v).length = m.length := by
  unfold st
  split
  · rename_i h
    obtain ⟨h1, h2, h3⟩ := h
    exact put_len (by rw [el_len]; omega)
  · rfl
theorem st_bs {m : Bs} (hm : isBs m) (a s v : Int) : isBs (st m a s v) := by
  unfold st
  split
  · exact put_bs hm (el_bs _ _)
  · exact hm
/-- Stores, one after the other. -/
def ap : Bs → List (Int × Int × Int) → Option Bs
  | m, [] => some m
  | m, w :: r => if There m.length w.1 w.2.1 then ap (put m w.1.toNat (el w.2.1.toNat w.2.2)) r else none
theorem ap_nil (m : Bs) : ap m [] = some m := rfl
theorem ap_cons (m : Bs) (w : Int × Int × Int) (r : List (Int × Int × Int)) : ap m (w :: r) = if There m.length w.1 w.2.1 then ap (put m w.1.toNat (el w.2.1.toNat w.2.2)) r else none := rfl
theorem ap_ok : ∀ (l : List (Int × Int × Int)) {m x : Bs}, isBs m → ap m l = some x → x.length = m.length ∧ isBs x := by
  intro l
  induction l with
  | nil => intro m x hm h; obtain rfl : m = x := by injection h
           exact ⟨rfl, hm⟩
  | cons w r ih =>
    intro m x hm h
    rw [ap_cons] at h
    split at h
    · rename_i ht
      obtain ⟨h1, h2, h3⟩ := ht
      have := ih (put_bs hm (el_bs _ _)) h
      exact ⟨this.1.trans (put_len (by rw [el_len]; omega)), this.2⟩
    · cases h
theorem ap_snoc : ∀ (l : List (Int × Int × Int)) (w : Int × Int × Int) (m : Bs), ap m (l ++ [w]) = (ap m l).bind fun x => if There x.length w.1 w.2.1 then some (put x w.1.toNat (el w.2.1.toNat w.2.2)) else none := by
  intro l
  induction l with
  | nil => intro w m; rfl
  | cons u r ih =>
    intro w m
    rw [List.cons_append, ap_cons, ap_cons]
    split
    · exact ih w _
    · rfl
theorem ap_app : ∀ (l r : List (Int × Int × Int)) (m : Bs), ap m (l ++ r) = (ap m l).bind fun x => ap x r := by
  intro l
  induction l with
  | nil => intro r m; rfl
  | cons u t ih =>
    intro r m
    rw [List.cons_append, ap_cons, ap_cons]
    split
    · exact ih r _
    · rfl

/-- What Write makes. -/
def wr (m : Bs) (a : Int) (d : Bs) : Bs := if Inside m.length a d.length then put m a.toNat d else m
/-- What Read gives. -/
def rd (m : Bs) (a n : Int) : Bs := if Inside m.length a n then (m.drop a.toNat).take n.toNat else []

/-- A page. -/
def pg (m : Bs) (i : Nat) : Bs := (m.drop (i * 128)).take 128
theorem pg_len {m : Bs} {n i : Nat} (h : m.length = n * 128) (hi : i < n) : (pg m i).length = 128 := by
  unfold pg; rw [List.length_take, List.length_drop]; omega
theorem pg_bs {m : Bs} (h : isBs m) (i : Nat) : isBs (pg m i) := fun x hx => h x (List.mem_of_mem_drop (List.mem_of_mem_take hx))
theorem pg_get {m : Bs} {i j : Nat} (hj : j < 128) : (pg m i)[j]? = m[i * 128 + j]? := by
  unfold pg; rw [List.getElem?_take, if_pos hj, List.getElem?_drop]
theorem pg_ext {x y : Bs} {n : Nat} (hx : x.length = n * 128) (hy : y.length = n * 128) (h : ∀ i, i < n → pg x i = pg y i) : x = y := by
  apply List.ext_getElem?
  intro j
  by_cases hj : j < n * 128
  · have h1 := congrArg (fun l : Bs => l[j % 128]?) (h (j / 128) (by omega))
    rw [pg_get (by omega), pg_get (by omega), show j / 128 * 128 + j % 128 = j by omega] at h1
    exact h1
  · rw [List.getElem?_eq_none (by omega), List.getElem?_eq_none (by omega)]

/-- Whether two memories differ at a page. -/
def dif (a b : Bs) (na nb i : Nat) : Bool := decide (na ≤ i) || decide (nb ≤ i) || !decide (pg a i = pg b i)
/-- The pages that differ. -/
def diff (a b : Bs) (na nb : Nat) : List Nat := (List.range (max na nb)).filter (dif a b na nb)
def diffTo (a b : Bs) (na nb k : Nat) : List Nat := (List.range k).filter (dif a b na nb)
theorem diffTo_succ (a b : Bs) (na nb k : Nat) : diffTo a b na nb (k + 1) = if dif a b na nb k then diffTo a b na nb k ++ [k] else diffTo a b na nb k := by
  unfold diffTo
  rw [List.range_succ, List.filter_append]
  cases h : dif a b na nb k <;> simp [h]
theorem diffTo_len (a b : Bs) (na nb k : Nat) : (diffTo a b na nb k).length ≤ k := by
  unfold diffTo
  exact Nat.le_trans (List.length_filter_le _ _) (by simp)
theorem diff_comm (a b : Bs) (na nb : Nat) : diff a b na nb = diff b a nb na := by
  unfold diff
  rw [Nat.max_comm]
  congr 1
  funext i
  unfold dif
  rw [Bool.or_comm (decide (na ≤ i)), show decide (pg a i = pg b i) = decide (pg b i = pg a i) from by rw [decide_eq_decide]; exact eq_comm]
theorem diff_nil {a b : Bs} {na nb : Nat} (ha : a.length = na * 128) (hb : b.length = nb * 128) : diff a b na nb = [] ↔ a = b := by
  unfold diff
  rw [List.filter_eq_nil_iff]
  constructor
  · intro h
    have hn : na = nb := by
      rcases Nat.lt_trichotomy na nb with h1 | h1 | h1
      · exact absurd (show dif a b na nb na = true by unfold dif; simp) (h na (List.mem_range.2 (by omega)))
      · exact h1
      · exact absurd (show dif a b na nb nb = true by unfold dif; simp) (h nb (List.mem_range.2 (by omega)))
    subst hn
    refine pg_ext ha hb fun i hi => ?_
    have h1 := h i (List.mem_range.2 (by omega))
    unfold dif at h1
    simp at h1
    exact h1.2
  · rintro rfl i hi
    have hn : na = nb := by omega
    subst hn
    have := List.mem_range.1 hi
    unfold dif
    simp
    omega
theorem diff_asc (a b : Bs) (na nb : Nat) : (diff a b na nb).Pairwise (· < ·) := by
  unfold diff
  exact List.Pairwise.filter _ List.pairwise_lt_range
theorem diff_lt (a b : Bs) (na nb : Nat) : ∀ i ∈ diff a b na nb, i < max na nb := fun _ hi => List.mem_range.1 (List.mem_filter.1 hi).1
/-- A list that is ascending and has one value alone. -/
theorem asc_one {l : List Nat} {k : Nat} (h : l.Pairwise (· < ·)) (hk : ∀ i ∈ l, i = k) : l = [] ∨ l = [k] := by
  cases l with
  | nil => exact .inl rfl
  | cons x r =>
    obtain rfl := hk x List.mem_cons_self
    cases r with
    | nil => exact .inr rfl
    | cons y t =>
      exfalso
      have h1 := hk y (List.mem_cons_of_mem _ List.mem_cons_self)
      have h2 := List.rel_of_pairwise_cons h (a' := y) List.mem_cons_self
      omega
theorem diff_st {m : Bs} {n : Nat} (hm : m.length = n * 128) {a s v : Int} (h : There m.length a s) : diff m (put m a.toNat (el s.toNat v)) n n = [] ∨ diff m (put m a.toNat (el s.toNat v)) n n = [a.toNat / 128] := by
  refine asc_one (diff_asc _ _ _ _) fun i hi => ?_
  have h1 := (List.mem_filter.1 hi).2
  have h2 := diff_lt _ _ _ _ i hi
  rw [Nat.max_self] at h2
  obtain ⟨h3, h4, h5⟩ := h
  apply Classical.byContradiction
  intro hne
  have hl : a.toNat + (el s.toNat v).length ≤ m.length := by rw [el_len]; omega
  have : pg m i = pg (put m a.toNat (el s.toNat v)) i := by
    unfold pg
    rw [put_other hl (by rw [el_len]; omega)]
  unfold dif at h1
  rw [decide_eq_true this, decide_eq_false (by omega)] at h1
  simp at h1

end Mm
end Go.Proofs.Ytffgbbfcbobecaa
