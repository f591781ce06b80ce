/-
  PLAIN FACTS, OF NO PROGRAM: the encoding of integers in base 128, and of lists, as functions on lists of bytes; decoding what was encoded gives it back; what is decoded was encoded; a proper beginning is cut off.
-/
import Derived.Laws.BytesArg
import Derived.WalkKit
import Derived.WalkSpells
import Derived.WalkLawsBesides
import Derived.Maps.AppendAt
import Derived.Deep.AppendLies
import Derived.Deep.Draws
import Derived.Lib.Hide
import Derived.Laws.Bits64
import Derived.Laws.Bits64b
import Derived.Laws.BitsLemmas
import Derived.Laws.Rows
import Derived.Laws.IdiomCopy
import Derived.Deep.MidRow
import Derived.Deep.WholeRow
import Derived.Laws.Tables
import Derived.Laws.CopyOwn
namespace Go.Proofs.YtaihfkcoiagdaabDoor.Wm

abbrev Bs := List Int
def isBs (b : Bs) : Prop := ∀ x ∈ b, 0 ≤ x ∧ x < 256

def zig (n : Int) : Nat := if 0 ≤ n then (2 * n).toNat else (-2 * n - 1).toNat
def zag (z : Nat) : Int := if z % 2 = 1 then -1 - ((z / 2 : Nat) : Int) else ((z / 2 : Nat) : Int)

theorem zag_zig (n : Int) : zag (zig n) = n := by
  unfold zag zig
  by_cases h : 0 ≤ n
  · rw [if_pos h, if_neg (by omega)]; omega
  · rw [if_neg h, if_pos (by omega)]; omega
theorem zig_zag (z : Nat) : zig (zag z) = z := by
  unfold zag zig
  by_cases h : z % 2 = 1
  · rw [if_pos h, if_neg (by omega)]; omega
  · rw [if_neg h, if_pos (by omega)]; omega
theorem zig_lt {n : Int} (h1 : -9223372036854775808 ≤ n) (h2 : n ≤ 9223372036854775807) : zig n < 18446744073709551616 := by
  unfold zig; split <;> omega
theorem zag_range {z : Nat} (h : z < 18446744073709551616) : -9223372036854775808 ≤ zag z ∧ zag z ≤ 9223372036854775807 := by
  unfold zag; split <;> omega

/-- THE ENCODING OF A NUMBER: base 128, the least first; every digit but the last bears 128. -/
def encN (z : Nat) : Bs := if h : z < 128 then [(z : Int)] else ((z % 128 + 128 : Nat) : Int) :: encN (z / 128)
termination_by z
decreasing_by omega

theorem encN_small {z : Nat} (h : z < 128) : encN z = [(z : Int)] := by rw [encN, dif_pos h]
theorem encN_big {z : Nat} (h : 128 ≤ z) : encN z = ((z % 128 + 128 : Nat) : Int) :: encN (z / 128) := by rw [encN, dif_neg (by omega)]
theorem encN_pos (z : Nat) : 1 ≤ (encN z).length := by
  by_cases h : z < 128
  · rw [encN_small h]; simp
  · rw [encN_big (by omega)]; simp

theorem encN_ind {P : Nat → Prop} (hs : ∀ z, z < 128 → P z) (hb : ∀ z, 128 ≤ z → P (z / 128) → P z) (z : Nat) : P z := by
  induction z using Nat.strongRecOn with
  | _ z ih =>
    by_cases h : z < 128
    · exact hs z h
    · exact hb z (by omega) (ih _ (by omega))

theorem encN_bytes (z : Nat) : isBs (encN z) := by
  refine encN_ind (P := fun z => isBs (encN z)) (fun z h x hx => ?_) (fun z h ih x hx => ?_) z
  · rw [encN_small h] at hx; simp at hx; omega
  · rw [encN_big h] at hx
    rcases List.mem_cons.1 hx with rfl | hx
    · omega
    · exact ih x hx

theorem encN_len (k : Nat) : ∀ z, z < 128 ^ (k + 1) → (encN z).length ≤ k + 1 := by
  induction k with
  | zero => intro z h; rw [encN_small (by simpa using h)]; simp
  | succ k ih =>
    intro z h
    by_cases hz : z < 128
    · rw [encN_small hz]; simp
    · rw [encN_big (by omega), List.length_cons]
      have := ih (z / 128) (by rw [Nat.pow_succ] at h; exact Nat.div_lt_of_lt_mul (by rw [Nat.mul_comm]; exact h))
      omega
theorem encN_len10 {z : Nat} (h : z < 18446744073709551616) : (encN z).length ≤ 10 := encN_len 9 z (Nat.lt_of_lt_of_le h (by decide))
theorem encN_one (z : Nat) : (encN z).length = 1 ↔ z < 128 := by
  constructor
  · intro h
    rcases Nat.lt_or_ge z 128 with hz | hz
    · exact hz
    · rw [encN_big hz, List.length_cons] at h; have := encN_pos (z / 128); omega
  · intro h; rw [encN_small h]; rfl
theorem encN_mono (a : Nat) : ∀ b, a ≤ b → (encN a).length ≤ (encN b).length := by
  refine encN_ind (P := fun a => ∀ b, a ≤ b → (encN a).length ≤ (encN b).length) (fun z h b _ => ?_) (fun z h ih b hb => ?_) a
  · rw [encN_small h]; exact encN_pos b
  · rw [encN_big h, encN_big (z := b) (by omega), List.length_cons, List.length_cons]
    have := ih (b / 128) (by omega)
    omega

/-- HOW MANY BYTES OF AT LEAST 128 STAND AHEAD, at most f of them. -/
def lead : Nat → Bs → Nat
  | 0, _ => 0
  | _ + 1, [] => 0
  | f + 1, b :: r => if 128 ≤ b then lead f r + 1 else 0
/-- THE NUMBER THAT THE FIRST k BYTES GIVE. -/
def low : Nat → Bs → Nat
  | 0, _ => 0
  | _ + 1, [] => 0
  | k + 1, b :: r => (b % 128).toNat + 128 * low k r

theorem lead_le (f : Nat) : ∀ b, lead f b ≤ f := by
  induction f with
  | zero => intro b; simp [lead]
  | succ f ih =>
    intro b
    cases b with
    | nil => simp [lead]
    | cons b r => unfold lead; have := ih r; split <;> omega
theorem lead_len (f : Nat) : ∀ b, lead f b ≤ b.length := by
  induction f with
  | zero => intro b; simp [lead]
  | succ f ih =>
    intro b
    cases b with
    | nil => simp [lead]
    | cons b r => unfold lead; have := ih r; simp only [List.length_cons]; split <;> omega

theorem low_lt (k : Nat) : ∀ b, low k b < 128 ^ k := by
  induction k with
  | zero => intro b; simp [low]
  | succ k ih =>
    intro b
    have h0 : 0 < 128 ^ k := Nat.pow_pos (by decide)
    cases b with
    | nil => simp only [low, Nat.pow_succ]; omega
    | cons b r => have := ih r; simp only [low, Nat.pow_succ]; omega

/-- ONE BYTE MORE AT THE TOP. -/
theorem low_snoc (k : Nat) : ∀ b, k < b.length → low (k + 1) b = low k b + 128 ^ k * (b.getD k 0 % 128).toNat := by
  induction k with
  | zero =>
    intro b h
    match b, h with
    | b :: r, _ => simp [low]
  | succ k ih =>
    intro b h
    match b, h with
    | b :: r, h =>
      have h' := ih r (by simpa using h)
      show (b % 128).toNat + 128 * low (k + 1) r = (b % 128).toNat + 128 * low k r + 128 ^ (k + 1) * _
      rw [h', Nat.pow_succ]
      simp only [List.getD_cons_succ]
      rw [Nat.mul_add, ← Nat.add_assoc, ← Nat.mul_assoc, Nat.mul_comm 128 (128 ^ k)]

/-- ONE BYTE MORE AT THE FOOT: as 'z = z * 128 + b' reads it. -/
theorem low_drop (k : Nat) (b : Bs) (i : Nat) (h : i < b.length) : low (k + 1) (b.drop i) = (b.getD i 0 % 128).toNat + 128 * low k (b.drop (i + 1)) := by
  rw [List.drop_eq_getElem_cons h]
  show (b[i] % 128).toNat + 128 * low k (b.drop (i + 1)) = _
  rw [List.getD_eq_getElem?_getD, List.getElem?_eq_getElem h]
  rfl

/-- WHAT GetInt ANSWERS. -/
def decI (b : Bs) : Int × Nat × Int :=
  if lead 10 b = 10 then (0, 0, 11)
  else if lead 10 b = b.length then (0, 0, 10)
  else if (lead 10 b = 9 ∧ 1 < b.getD 9 0) ∨ (0 < lead 10 b ∧ b.getD (lead 10 b) 0 = 0) then (0, 0, 11)
  else (zag (low (lead 10 b + 1) b), lead 10 b + 1, 0)

def encI (n : Int) : Bs := encN (zig n)

theorem getD_cons_pos (x : Int) (r : Bs) (k : Nat) (h : 0 < k) : (x :: r).getD k 0 = r.getD (k - 1) 0 := by
  obtain ⟨j, rfl⟩ : ∃ j, k = j + 1 := ⟨k - 1, by omega⟩
  simp

/-- WHAT AN ENCODING LOOKS LIKE: as many digits of at least 128 as it has bytes, but one; the last is less, and not 0 unless alone; the number is its own. -/
theorem encN_form (z : Nat) : ∀ (f : Nat) (t : Bs), (encN z).length ≤ f → lead f (encN z ++ t) + 1 = (encN z).length ∧ low (encN z).length (encN z ++ t) = z ∧
    (0 < lead f (encN z ++ t) → (encN z ++ t).getD (lead f (encN z ++ t)) 0 ≠ 0) := by
  refine encN_ind (P := fun z => ∀ (f : Nat) (t : Bs), (encN z).length ≤ f → lead f (encN z ++ t) + 1 = (encN z).length ∧ low (encN z).length (encN z ++ t) = z ∧
    (0 < lead f (encN z ++ t) → (encN z ++ t).getD (lead f (encN z ++ t)) 0 ≠ 0)) (fun z h f t hf => ?_) (fun z h ih f t hf => ?_) z
  · rw [encN_small h] at hf ⊢
    obtain ⟨g, rfl⟩ : ∃ g, f = g + 1 := ⟨f - 1, by simp at hf; omega⟩
    have hn : ¬ (128 : Int) ≤ (z : Int) := by omega
    refine ⟨by simp [lead, hn], ?_, by simp [lead, hn]⟩
    show ((z : Int) % 128).toNat + 128 * 0 = z
    omega
  · rw [encN_big h] at hf ⊢
    obtain ⟨g, rfl⟩ : ∃ g, f = g + 1 := ⟨f - 1, by simp at hf; omega⟩
    obtain ⟨h1, h2, h3⟩ := ih g t (by simpa using hf)
    have hp : (128 : Int) ≤ ((z % 128 + 128 : Nat) : Int) := by omega
    have e1 : lead (g + 1) (((z % 128 + 128 : Nat) : Int) :: encN (z / 128) ++ t) = lead g (encN (z / 128) ++ t) + 1 := by rw [List.cons_append]; simp only [lead, if_pos hp]
    rw [e1]
    refine ⟨by simp; omega, ?_, fun _ => ?_⟩
    · show (((z % 128 + 128 : Nat) : Int) % 128).toNat + 128 * low (encN (z / 128)).length (encN (z / 128) ++ t) = z
      rw [h2]; omega
    · rw [List.cons_append, getD_cons_pos _ _ _ (by omega), Nat.add_sub_cancel]
      rcases Nat.eq_zero_or_pos (lead g (encN (z / 128) ++ t)) with h0 | h0
      · rw [h0]
        by_cases hz : z / 128 < 128
        · rw [encN_small hz]; simp; omega
        · rw [encN_big (by omega)]; simp; omega
      · exact h3 h0

theorem low_top (z : Nat) (k : Nat) (b : Bs) (h : low (k + 1) b = z) (hk : k < b.length) : 128 ^ k * (b.getD k 0 % 128).toNat ≤ z := by
  rw [low_snoc k b hk] at h; omega

theorem last_lt (z : Nat) : ∀ k, k + 1 = (encN z).length → (encN z).getD k 0 < 128 := by
  refine encN_ind (P := fun z => ∀ k, k + 1 = (encN z).length → (encN z).getD k 0 < 128) (fun z h k hk => ?_) (fun z h ih k hk => ?_) z
  · rw [encN_small h] at hk ⊢
    obtain rfl : k = 0 := by simpa using hk
    simp; omega
  · rw [encN_big h] at hk ⊢
    have hp := encN_pos (z / 128)
    rw [List.length_cons] at hk
    rw [getD_cons_pos _ _ _ (by omega)]
    exact ih (k - 1) (by omega)

theorem decI_encI {n : Int} (h1 : -9223372036854775808 ≤ n) (h2 : n ≤ 9223372036854775807) (t : Bs) : decI (encI n ++ t) = (n, (encI n).length, 0) := by
  have hz := zig_lt h1 h2
  have hl := encN_len10 hz
  obtain ⟨f1, f2, f3⟩ := encN_form (zig n) 10 t hl
  have hp := encN_pos (zig n)
  have hle := List.length_append (as := encN (zig n)) (bs := t)
  have hle2 : (encI n ++ t).length = (encI n).length + t.length := List.length_append
  unfold encI at *
  unfold decI
  rw [if_neg (by omega), if_neg (by omega), if_neg]
  · rw [f1, f2, zag_zig]
  · rintro (⟨h9, hb⟩ | ⟨h0, hb⟩)
    · have ht := low_top (zig n) 9 (encN (zig n) ++ t) (by rw [show 9 + 1 = (encN (zig n)).length by omega]; exact f2) (by omega)
      have hb2 : (encN (zig n) ++ t).getD 9 0 < 128 := by
        have : (encN (zig n) ++ t).getD 9 0 = (encN (zig n)).getD 9 0 := by
          rw [List.getD_eq_getElem?_getD, List.getElem?_append_left (by omega), ← List.getD_eq_getElem?_getD]
        rw [this]
        clear this ht f2 f3 hb
        exact last_lt (zig n) 9 (by omega)
      omega
    · exact f3 h0 hb
/-- A PROPER BEGINNING OF AN ENCODING IS CUT OFF. -/
theorem lead_take (z : Nat) : ∀ (f i : Nat), (encN z).length ≤ f + 1 → i < (encN z).length → lead f ((encN z).take i) = i := by
  refine encN_ind (P := fun z => ∀ (f i : Nat), (encN z).length ≤ f + 1 → i < (encN z).length → lead f ((encN z).take i) = i) (fun z h f i _ hi => ?_) (fun z h ih f i hf hi => ?_) z
  · rw [encN_small h] at hi
    obtain rfl : i = 0 := by simpa using hi
    cases f <;> simp [lead]
  · rw [encN_big h] at hf hi ⊢
    rw [List.length_cons] at hf hi
    cases i with
    | zero => cases f <;> simp [lead]
    | succ i =>
      cases f with
      | zero => have := encN_pos (z / 128); omega
      | succ f =>
        have hp : (128 : Int) ≤ ((z % 128 + 128 : Nat) : Int) := by omega
        rw [List.take_succ_cons]
        simp only [lead, if_pos hp]
        rw [ih f i (by omega) (by omega)]
theorem decI_cut {n : Int} (h1 : -9223372036854775808 ≤ n) (h2 : n ≤ 9223372036854775807) {i : Nat} (hi : i < (encI n).length) : decI ((encI n).take i) = (0, 0, 10) := by
  have hl := encN_len10 (zig_lt h1 h2)
  unfold encI at *
  have h := lead_take (zig n) 10 i (by omega) hi
  unfold decI
  rw [h, if_neg (by omega), if_pos (by rw [List.length_take]; omega)]

/-- WHAT IS READ IS AN ENCODING: the digits, k of at least 128 and one less, not 0 unless alone, are those of their number. -/
theorem encN_low (k : Nat) : ∀ (b : Bs), isBs b → (∀ f, k ≤ f → lead f b = k ∨ f = k ∧ lead f b = k) → k < b.length → b.getD k 0 < 128 → (0 < k → b.getD k 0 ≠ 0) → encN (low (k + 1) b) = b.take (k + 1) := by
  induction k with
  | zero =>
    intro b hb _ hk hlt _
    match b, hk with
    | x :: r, _ =>
      have hx := hb x (by simp)
      have hx2 : x < 128 := by simpa using hlt
      have e : low (0 + 1) (x :: r) = x.toNat := by
        show (x % 128).toNat + 128 * low 0 r = _
        rw [low]; omega
      rw [e, encN_small (by omega)]
      simp; omega
  | succ k ih =>
    intro b hb hlead hk hlt hne
    match b, hk with
    | x :: r, hk =>
      have hx := hb x (by simp)
      have hx1 : 128 ≤ x := by
        rcases hlead (k + 1) (Nat.le_refl _) with h | ⟨_, h⟩
        all_goals
          unfold lead at h
          split at h
          · assumption
          · omega
      have hr : isBs r := fun y hy => hb y (List.mem_cons_of_mem _ hy)
      have hl2 : ∀ f, k ≤ f → lead f r = k ∨ f = k ∧ lead f r = k := fun f hf => by
        rcases hlead (f + 1) (by omega) with h | ⟨_, h⟩
        all_goals
          unfold lead at h
          rw [if_pos hx1] at h
          exact .inl (by omega)
      rw [getD_cons_pos _ _ _ (by omega), Nat.add_sub_cancel] at hlt hne
      have hk' : k < r.length := by simpa using hk
      have hpos : 0 < low (k + 1) r := by
        rw [low_snoc k r hk']
        have h0 : 0 < 128 ^ k := Nat.pow_pos (by decide)
        have hge : 0 ≤ r.getD k 0 := by
          rw [List.getD_eq_getElem?_getD, List.getElem?_eq_getElem hk']; exact (hr _ (List.getElem_mem hk')).1
        have hd : 0 < (r.getD k 0 % 128).toNat := by have := hne (by omega); omega
        have := Nat.mul_pos h0 hd
        omega
      have hi := ih r hr hl2 hk' hlt (fun _ => hne (by omega))
      have e : low (k + 1 + 1) (x :: r) = (x % 128).toNat + 128 * low (k + 1) r := rfl
      rw [e, encN_big (by omega), List.take_succ_cons]
      have d1 : ((x % 128).toNat + 128 * low (k + 1) r) % 128 = (x % 128).toNat := by omega
      have d2 : ((x % 128).toNat + 128 * low (k + 1) r) / 128 = low (k + 1) r := by omega
      rw [d1, d2, hi]
      congr 1
      omega

theorem lead_any (f : Nat) : ∀ (g : Nat) (b : Bs), lead f b < f → f ≤ g → lead g b = lead f b := by
  induction f with
  | zero => intro g b h; omega
  | succ f ih =>
    intro g b h hg
    obtain ⟨g, rfl⟩ : ∃ g', g = g' + 1 := ⟨g - 1, by omega⟩
    cases b with
    | nil => simp [lead]
    | cons b r =>
      unfold lead at h ⊢
      split at h
      · rename_i hb; rw [if_pos hb, if_pos hb, ih g r (by omega) (by omega)]
      · rename_i hb; rw [if_neg hb, if_neg hb]
theorem lead_less (f : Nat) : ∀ (g : Nat) (b : Bs), g ≤ lead f b → lead g b = g := by
  induction f with
  | zero => intro g b h; simp [lead] at h; subst h; simp [lead]
  | succ f ih =>
    intro g b h
    cases g with
    | zero => simp [lead]
    | succ g =>
      cases b with
      | nil => simp [lead] at h
      | cons b r =>
        unfold lead at h ⊢
        split at h
        · rename_i hb; rw [if_pos hb, ih g r (by omega)]
        · omega
theorem lead_stop (f : Nat) : ∀ (b : Bs), lead f b < f → lead f b < b.length → b.getD (lead f b) 0 < 128 := by
  induction f with
  | zero => intro b h; omega
  | succ f ih =>
    intro b h h2
    cases b with
    | nil => simp at h2
    | cons b r =>
      unfold lead at h h2 ⊢
      by_cases hb : 128 ≤ b
      · rw [if_pos hb] at h h2 ⊢
        rw [getD_cons_pos _ _ _ (by omega), Nat.add_sub_cancel]
        exact ih r (by omega) (by simpa using h2)
      · rw [if_neg hb]; simp; omega
/-- Ahead of that place every byte is at least 128. -/
theorem lead_ge (f : Nat) : ∀ (b : Bs) (i : Nat), i < lead f b → 128 ≤ b.getD i 0 := by
  induction f with
  | zero => intro b i h; simp [lead] at h
  | succ f ih =>
    intro b i h
    cases b with
    | nil => simp [lead] at h
    | cons b r =>
      unfold lead at h
      by_cases hb : 128 ≤ b
      · rw [if_pos hb] at h
        cases i with
        | zero => simpa using hb
        | succ i => rw [List.getD_cons_succ]; exact ih r i (by omega)
      · rw [if_neg hb] at h; omega
/-- THE PLACE BY ITS MARKS. -/
theorem lead_is (f : Nat) : ∀ (b : Bs) (k : Nat), (∀ i, i < k → 128 ≤ b.getD i 0) → k ≤ b.length → k ≤ f → (k = f ∨ k = b.length ∨ b.getD k 0 < 128) → lead f b = k := by
  induction f with
  | zero => intro b k _ _ h _; simp [lead]; omega
  | succ f ih =>
    intro b k h1 h2 h3 h4
    cases b with
    | nil => simp at h2; subst h2; simp [lead]
    | cons b r =>
      unfold lead
      cases k with
      | zero =>
        rcases h4 with h4 | h4 | h4
        · omega
        · simp at h4
        · rw [if_neg (by simp at h4; omega)]
      | succ k =>
        rw [if_pos (by simpa using h1 0 (by omega)), ih r k (fun i hi => by simpa using h1 (i + 1) (by omega)) (by simpa using h2) (by omega) ?_]
        rcases h4 with h4 | h4 | h4
        · exact .inl (by omega)
        · exact .inr (.inl (by simpa using h4))
        · exact .inr (.inr (by simpa using h4))

theorem low_cap {b : Bs} (hb : isBs b) {k : Nat} (hk : k < b.length) (h9 : k < 9 ∨ k = 9 ∧ b.getD 9 0 ≤ 1) : low (k + 1) b < 18446744073709551616 := by
  rcases h9 with h | ⟨rfl, h⟩
  · exact Nat.lt_of_lt_of_le (low_lt (k + 1) b) (Nat.le_trans (Nat.pow_le_pow_right (by decide) (show k + 1 ≤ 9 by omega)) (by decide))
  · rw [low_snoc 9 b hk]
    have h1 := low_lt 9 b
    have hge : 0 ≤ b.getD 9 0 := by
      rw [List.getD_eq_getElem?_getD, List.getElem?_eq_getElem hk]; exact (hb _ (List.getElem_mem hk)).1
    have h2 : (b.getD 9 0 % 128).toNat ≤ 1 := by omega
    have h3 := Nat.mul_le_mul_left (128 ^ 9) h2
    have e9 : (128 : Nat) ^ 9 = 9223372036854775808 := by decide
    rw [e9] at h1 h3 ⊢
    omega

/-- THE ANSWERS OF decI, ONE BY ONE. -/
theorem decI_ok {b : Bs} (hb : isBs b) {n : Int} {u : Nat} {e : Int} (h : decI b = (n, u, e)) : (e = 0 ∧ 1 ≤ u ∧ u ≤ 10 ∧ u ≤ b.length ∧ -9223372036854775808 ≤ n ∧ n ≤ 9223372036854775807 ∧ b.take u = encI n) ∨ (n = 0 ∧ u = 0 ∧ (e = 10 ∨ e = 11)) := by
  unfold decI at h
  split at h
  · cases h; exact .inr ⟨rfl, rfl, .inr rfl⟩
  split at h
  · cases h; exact .inr ⟨rfl, rfl, .inl rfl⟩
  split at h
  · cases h; exact .inr ⟨rfl, rfl, .inr rfl⟩
  rename_i g1 g2 g3
  have l1 := lead_le 10 b
  have l2 := lead_len 10 b
  have h9 : lead 10 b < 9 ∨ lead 10 b = 9 ∧ b.getD 9 0 ≤ 1 := by
    rcases Nat.lt_or_ge (lead 10 b) 9 with h | h
    · exact .inl h
    · refine .inr ⟨by omega, ?_⟩
      by_cases hg : 1 < b.getD 9 0
      · exact absurd (.inl ⟨by omega, hg⟩) g3
      · omega
  have hc := low_cap hb (show lead 10 b < b.length by omega) h9
  have hz := zag_range hc
  have hE : encN (low (lead 10 b + 1) b) = b.take (lead 10 b + 1) := by
    refine encN_low _ b hb (fun f hf => ?_) (by omega) (lead_stop 10 b (by omega) (by omega)) (fun h0 hb0 => g3 (.inr ⟨h0, hb0⟩))
    rcases Nat.lt_or_ge (lead 10 b) f with hlt | hge
    · refine .inl ?_
      rcases Nat.lt_or_ge f 10 with hf10 | hf10
      · refine lead_is f b _ (fun i hi => lead_ge 10 b i hi) l2 hf (.inr (.inr (lead_stop 10 b (by omega) (by omega))))
      · exact lead_any 10 f b (by omega) hf10
    · exact .inl (by rw [show f = lead 10 b by omega]; exact lead_less 10 _ b (Nat.le_refl _))
  cases h
  exact .inl ⟨rfl, by omega, by omega, by omega, hz.1, hz.2, by unfold encI; rw [zig_zag, hE]⟩

theorem encI_bytes (n : Int) : isBs (encI n) := encN_bytes _
theorem encI_pos (n : Int) : 1 ≤ (encI n).length := encN_pos _
theorem encI_len {n : Int} (h1 : -9223372036854775808 ≤ n) (h2 : n ≤ 9223372036854775807) : (encI n).length ≤ 10 := encN_len10 (zig_lt h1 h2)

end Go.Proofs.YtaihfkcoiagdaabDoor.Wm

/-
  PLAIN FACTS, OF NO PROGRAM: lengths, byte strings and lists in the canonical encoding.
-/
namespace Go.Proofs.YtaihfkcoiagdaabDoor.Wm

/-- A LENGTH of elements of at least so many bytes each. -/
def decLen (b : Bs) (least : Nat) : Int × Nat × Int :=
  if (decI b).2.2 ≠ 0 then (0, 0, (decI b).2.2)
  else if (decI b).1 < 0 then (0, 0, 11)
  else if (((b.length - (decI b).2.1) / least : Nat) : Int) < (decI b).1 then (0, 0, 10)
  else ((decI b).1, (decI b).2.1, 0)

theorem decLen_ok {b : Bs} (hb : isBs b) {least : Nat} (hl : 0 < least) {n : Int} {u : Nat} {e : Int} (h : decLen b least = (n, u, e)) :
    (e = 0 ∧ 0 ≤ n ∧ n ≤ 9223372036854775807 ∧ 1 ≤ u ∧ u ≤ 10 ∧ u + n.toNat * least ≤ b.length ∧ b.take u = encI n) ∨ (n = 0 ∧ u = 0 ∧ (e = 10 ∨ e = 11)) := by
  unfold decLen at h
  obtain ⟨n', u', e', hr⟩ : ∃ n' u' e', decI b = (n', u', e') := ⟨_, _, _, rfl⟩
  rw [hr] at h
  simp only at h
  rcases decI_ok hb hr with ⟨rfl, h1, h2, h3, h4, h5, h6⟩ | ⟨rfl, rfl, h7⟩
  · rw [if_neg (by simp)] at h
    split at h
    · cases h; exact .inr ⟨rfl, rfl, .inr rfl⟩
    split at h
    · cases h; exact .inr ⟨rfl, rfl, .inl rfl⟩
    rename_i g1 g2
    cases h
    refine .inl ⟨rfl, by omega, h5, h1, h2, ?_, h6⟩
    have g3 : n.toNat ≤ (b.length - u) / least := by omega
    have g4 := (Nat.le_div_iff_mul_le hl).1 g3
    omega
  · rw [if_pos (by rcases h7 with h7 | h7 <;> rw [h7] <;> decide)] at h
    cases h
    exact .inr ⟨rfl, rfl, h7⟩

theorem decLen_mk (n : Nat) (t : Bs) {least : Nat} (hl : 0 < least) (hn : n ≤ 9223372036854775807) (ht : n * least ≤ t.length) : decLen (encI n ++ t) least = ((n : Int), (encI n).length, 0) := by
  unfold decLen
  have h := decI_encI (n := (n : Int)) (by omega) (by omega) t
  rw [h]
  simp only
  rw [if_neg (by simp), if_neg (by omega), if_neg]
  have e : (encI (n : Int) ++ t).length - (encI (n : Int)).length = t.length := by rw [List.length_append]; omega
  rw [e]
  have := (Nat.le_div_iff_mul_le hl).2 ht
  omega

/-- A byte string. -/
def encB (s : Bs) : Bs := encI s.length ++ s
def decB (b : Bs) : Bs × Nat × Int :=
  if (decLen b 1).2.2 ≠ 0 then ([], 0, (decLen b 1).2.2)
  else ((b.drop (decLen b 1).2.1).take (decLen b 1).1.toNat, (decLen b 1).2.1 + (decLen b 1).1.toNat, 0)

/-- A string's bytes. -/
def ofS (s : ByteArray) : Bs := s.data.toList.map fun b => (b.toNat : Int)
theorem ofS_length (s : ByteArray) : (ofS s).length = s.size := by
  rw [ofS, List.length_map, Array.length_toList]; rfl
theorem ofS_bytes (s : ByteArray) : isBs (ofS s) := by
  intro x hx
  obtain ⟨b, _, rfl⟩ := List.mem_map.1 hx
  have := b.toNat_lt
  omega
theorem str_ofS (s : ByteArray) : strOfNums (ofS s) = s := by
  have h : (ofS s).map (fun n => UInt8.ofNat n.toNat) = s.data.toList := by
    rw [ofS, List.map_map]
    refine Eq.trans (List.map_congr_left (g := id) fun b _ => ?_) (List.map_id _)
    simp
  unfold strOfNums
  rw [h]
theorem ofS_str {b : Bs} (h : isBs b) : ofS (strOfNums b) = b := by
  unfold ofS
  rw [strOfNums_data, List.map_map]
  refine Eq.trans (List.map_congr_left (g := id) fun x hx => ?_) (List.map_id _)
  have := h x hx
  show ((UInt8.ofNat x.toNat).toNat : Int) = x
  rw [UInt8.toNat_ofNat_of_lt' (show x.toNat < 256 by omega)]
  omega

/-- A list. -/
def encL {α : Type} (enc : α → Bs) (l : List α) : Bs := encI l.length ++ l.flatMap enc

theorem decB_ok {b : Bs} (hb : isBs b) {x : Bs} {u : Nat} {e : Int} (h : decB b = (x, u, e)) :
    (e = 0 ∧ 1 ≤ u ∧ u ≤ b.length ∧ isBs x ∧ x.length + 1 ≤ u ∧ b.take u = encB x) ∨ (x = [] ∧ u = 0 ∧ (e = 10 ∨ e = 11)) := by
  unfold decB at h
  obtain ⟨n', u', e', hr⟩ : ∃ n' u' e', decLen b 1 = (n', u', e') := ⟨_, _, _, rfl⟩
  rw [hr] at h
  simp only at h
  rcases decLen_ok hb (by decide) hr with ⟨rfl, h1, h2, h3, h4, h5, h6⟩ | ⟨rfl, rfl, h7⟩
  · rw [if_neg (by simp)] at h
    cases h
    have hl : ((b.drop u').take n'.toNat).length = n'.toNat := by rw [List.length_take, List.length_drop]; omega
    refine .inl ⟨rfl, by omega, by omega, fun x hx => hb x (List.mem_of_mem_drop (List.mem_of_mem_take hx)), by omega, ?_⟩
    unfold encB
    rw [hl, List.take_add, h6, Int.toNat_of_nonneg h1]
  · rw [if_pos (by rcases h7 with h7 | h7 <;> rw [h7] <;> decide)] at h
    cases h
    exact .inr ⟨rfl, rfl, h7⟩

/-- n ELEMENTS, one after the other. -/
def decE {α : Type} (get : Bs → α × Nat × Int) : Nat → Bs → List α × Nat × Int
  | 0, _ => ([], 0, 0)
  | n + 1, b =>
    if (get b).2.2 ≠ 0 then ([], 0, (get b).2.2)
    else if (decE get n (b.drop (get b).2.1)).2.2 ≠ 0 then ([], 0, (decE get n (b.drop (get b).2.1)).2.2)
    else ((get b).1 :: (decE get n (b.drop (get b).2.1)).1, (get b).2.1 + (decE get n (b.drop (get b).2.1)).2.1, 0)
def decL {α : Type} (get : Bs → α × Nat × Int) (least : Nat) (b : Bs) : List α × Nat × Int :=
  if (decLen b least).2.2 ≠ 0 then ([], 0, (decLen b least).2.2)
  else if (decE get (decLen b least).1.toNat (b.drop (decLen b least).2.1)).2.2 ≠ 0 then ([], 0, (decE get (decLen b least).1.toNat (b.drop (decLen b least).2.1)).2.2)
  else ((decE get (decLen b least).1.toNat (b.drop (decLen b least).2.1)).1, (decLen b least).2.1 + (decE get (decLen b least).1.toNat (b.drop (decLen b least).2.1)).2.1, 0)

/-- HOW FAR A DECODER OF A LIST HAS COME: i of m elements, acc, at the place p; what it will answer. -/
def Going {α : Type} (get : Bs → α × Nat × Int) (b : Bs) (m i : Nat) (acc : List α) (p : Nat) (fin : List α × Nat × Int) : Prop :=
  fin = if (decE get (m - i) (b.drop p)).2.2 ≠ 0 then ([], 0, (decE get (m - i) (b.drop p)).2.2) else (acc ++ (decE get (m - i) (b.drop p)).1, p + (decE get (m - i) (b.drop p)).2.1, 0)

section
variable {α : Type} {get : Bs → α × Nat × Int} {b : Bs} {m i : Nat} {acc : List α} {p : Nat} {fin : List α × Nat × Int}
theorem Going.start {least u : Nat} (h : decLen b least = ((m : Int), u, 0)) : Going get b m 0 [] u (decL get least b) := by
  unfold Going decL
  rw [h]
  simp
theorem Going.end_ (h : Going get b m m acc p fin) : fin = (acc, p, 0) := by
  unfold Going at h
  rw [h, Nat.sub_self]
  simp [decE]
theorem Going.bad {x : α} {k : Nat} {e : Int} (h : Going get b m i acc p fin) (hi : i < m) (hg : get (b.drop p) = (x, k, e)) (he : e ≠ 0) : fin = ([], 0, e) := by
  unfold Going at h
  obtain ⟨j, hj⟩ : ∃ j, m - i = j + 1 := ⟨m - i - 1, by omega⟩
  rw [h, hj]
  unfold decE
  rw [hg]
  simp [he]
theorem Going.next {x : α} {k : Nat} (h : Going get b m i acc p fin) (hi : i < m) (hg : get (b.drop p) = (x, k, 0)) : Going get b m (i + 1) (acc ++ [x]) (p + k) fin := by
  unfold Going at h ⊢
  have hj : m - i = (m - (i + 1)) + 1 := by omega
  rw [h, hj]
  generalize m - (i + 1) = j
  rw [decE]
  rw [hg]
  simp only [List.drop_drop]
  simp only [ne_eq, not_true_eq_false, if_false, List.append_assoc, List.singleton_append]
  by_cases h0 : (decE get j (b.drop (p + k))).2.2 = 0
  · simp [h0, Nat.add_assoc]
  · simp [h0]
end

end Go.Proofs.YtaihfkcoiagdaabDoor.Wm

/-
  PLAIN FACTS, OF NO PROGRAM: what was encoded is decoded again, whatever follows it; what is decoded was encoded; a proper beginning is cut off: for byte strings and for lists.
-/
namespace Go.Proofs.YtaihfkcoiagdaabDoor.Wm

theorem encB_len (s : Bs) : (encB s).length = (encI s.length).length + s.length := by unfold encB; rw [List.length_append]
theorem encB_bytes {s : Bs} (h : isBs s) : isBs (encB s) := fun x hx => by
  rcases List.mem_append.1 hx with hx | hx
  · exact encI_bytes _ x hx
  · exact h x hx

theorem decB_encB (s t : Bs) (hs : s.length ≤ 9223372036854775807) : decB (encB s ++ t) = (s, (encB s).length, 0) := by
  have h := decLen_mk (least := 1) s.length (s ++ t) (by decide) hs (by rw [List.length_append]; omega)
  have e : encB s ++ t = encI s.length ++ (s ++ t) := by unfold encB; rw [List.append_assoc]
  unfold decB
  rw [e, h]
  simp only
  rw [if_neg (by simp), List.drop_left, Int.toNat_natCast, List.take_left, encB_len]

section
variable {α : Type} {get : Bs → α × Nat × Int} {enc : α → Bs}
theorem decE_mk (l : List α) : ∀ t : Bs, (∀ x ∈ l, ∀ t, get (enc x ++ t) = (x, (enc x).length, 0)) → decE get l.length (l.flatMap enc ++ t) = (l, (l.flatMap enc).length, 0) := by
  induction l with
  | nil => intro t _; rfl
  | cons x r ih =>
    intro t h
    have hx := h x (List.mem_cons_self) (r.flatMap enc ++ t)
    have hr := ih t (fun y hy => h y (List.mem_cons_of_mem _ hy))
    rw [List.length_cons, decE, List.flatMap_cons, List.append_assoc, hx]
    simp only
    rw [List.drop_left, hr]
    simp

theorem decL_encL (least : Nat) (l : List α) (t : Bs) (h0 : 0 < least) (hl : l.length ≤ 9223372036854775807) (hb : l.length * least ≤ (l.flatMap enc).length)
    (h : ∀ x ∈ l, ∀ t, get (enc x ++ t) = (x, (enc x).length, 0)) : decL get least (encL enc l ++ t) = (l, (encL enc l).length, 0) := by
  have hL := decLen_mk (least := least) l.length (l.flatMap enc ++ t) h0 hl (by rw [List.length_append]; omega)
  have e : encL enc l ++ t = encI l.length ++ (l.flatMap enc ++ t) := by unfold encL; rw [List.append_assoc]
  have hE := decE_mk (get := get) (enc := enc) l t h
  unfold decL
  rw [e, hL]
  simp only
  rw [if_neg (by simp), List.drop_left, Int.toNat_natCast, hE]
  simp [encL]

/-- What was decoded was encoded. -/
theorem decE_can (hg : ∀ b x k, isBs b → get b = (x, k, 0) → k ≤ b.length ∧ b.take k = enc x) (n : Nat) : ∀ (b : Bs) (l : List α) (u : Nat), isBs b → decE get n b = (l, u, 0) → l.length = n ∧ u ≤ b.length ∧ b.take u = l.flatMap enc := by
  induction n with
  | zero => intro b l u _ h; cases h; exact ⟨rfl, Nat.zero_le _, rfl⟩
  | succ n ih =>
    intro b l u hb h
    rw [decE] at h
    obtain ⟨x, k, e, hr⟩ : ∃ x k e, get b = (x, k, e) := ⟨_, _, _, rfl⟩
    rw [hr] at h
    simp only at h
    split at h
    · rename_i he; cases h; exact absurd rfl he
    rename_i he
    obtain rfl : e = 0 := by simpa using he
    obtain ⟨hk, htk⟩ := hg b x k hb hr
    obtain ⟨l', u', e', hr'⟩ : ∃ l' u' e', decE get n (b.drop k) = (l', u', e') := ⟨_, _, _, rfl⟩
    rw [hr'] at h
    simp only at h
    split at h
    · rename_i he'; cases h; exact absurd rfl he'
    rename_i he'
    obtain rfl : e' = 0 := by simpa using he'
    obtain ⟨h1, h2, h3⟩ := ih (b.drop k) l' u' (fun y hy => hb y (List.mem_of_mem_drop hy)) hr'
    cases h
    rw [List.length_drop] at h2
    exact ⟨by rw [List.length_cons, h1], by omega, by rw [List.take_add, htk, h3, List.flatMap_cons]⟩

theorem decL_can (hg : ∀ b x k, isBs b → get b = (x, k, 0) → k ≤ b.length ∧ b.take k = enc x) {least : Nat} (h0 : 0 < least) {b : Bs} {l : List α} {u : Nat} (hb : isBs b) (h : decL get least b = (l, u, 0)) : u ≤ b.length ∧ b.take u = encL enc l := by
  unfold decL at h
  obtain ⟨n, k, e, hr⟩ : ∃ n k e, decLen b least = (n, k, e) := ⟨_, _, _, rfl⟩
  have hok := decLen_ok hb h0 hr
  rw [hr] at h
  simp only at h
  split at h
  · rename_i he; cases h; exact absurd rfl he
  rename_i he
  obtain rfl : e = 0 := by simpa using he
  rcases hok with ⟨_, a1, a2, a3, a4, a5, a6⟩ | ⟨_, _, a⟩
  · obtain ⟨l', u', e', hr'⟩ : ∃ l' u' e', decE get n.toNat (b.drop k) = (l', u', e') := ⟨_, _, _, rfl⟩
    rw [hr'] at h
    simp only at h
    split at h
    · rename_i he'; cases h; exact absurd rfl he'
    rename_i he'
    obtain rfl : e' = 0 := by simpa using he'
    obtain ⟨h1, h2, h3⟩ := decE_can hg n.toNat (b.drop k) l' u' (fun y hy => hb y (List.mem_of_mem_drop hy)) hr'
    cases h
    rw [List.length_drop] at h2
    refine ⟨by omega, ?_⟩
    unfold encL
    rw [List.take_add, a6, h3, h1, Int.toNat_of_nonneg a1]
  · rcases a with a | a <;> cases a

/-- A proper beginning is cut off. -/
theorem decE_cut (l : List α) : ∀ j : Nat, j < (l.flatMap enc).length → (∀ x ∈ l, ∀ t, get (enc x ++ t) = (x, (enc x).length, 0)) → (∀ x ∈ l, ∀ i, i < (enc x).length → (get ((enc x).take i)).2.2 = 10) →
    decE get l.length ((l.flatMap enc).take j) = ([], 0, 10) := by
  induction l with
  | nil => intro j hj; simp at hj
  | cons x r ih =>
    intro j hj h hc
    rw [List.flatMap_cons, List.length_append] at hj
    rw [List.length_cons, decE, List.flatMap_cons]
    rcases Nat.lt_or_ge j (enc x).length with h1 | h1
    · rw [List.take_append_of_le_length (by omega), hc x (List.mem_cons_self) j h1]
      simp
    · rw [List.take_append, List.take_of_length_le h1, h x (List.mem_cons_self)]
      simp only
      rw [List.drop_left, ih (j - (enc x).length) (by omega) (fun y hy => h y (List.mem_cons_of_mem _ hy)) (fun y hy => hc y (List.mem_cons_of_mem _ hy))]
      simp

theorem decLen_cut (n : Nat) (least : Nat) (hn : n ≤ 9223372036854775807) {i : Nat} (hi : i < (encI n).length) : decLen ((encI n).take i) least = (0, 0, 10) := by
  have h := decI_cut (n := (n : Int)) (by omega) (by omega) hi
  unfold decLen
  rw [h]
  rfl
theorem decLen_short (n : Nat) (t : Bs) (least : Nat) (h0 : 0 < least) (hn : n ≤ 9223372036854775807) (ht : t.length < n * least) : decLen (encI n ++ t) least = (0, 0, 10) := by
  have h := decI_encI (n := (n : Int)) (by omega) (by omega) t
  unfold decLen
  rw [h]
  simp only
  rw [if_neg (by simp), if_neg (by omega), if_pos]
  have e : (encI (n : Int) ++ t).length - (encI (n : Int)).length = t.length := by rw [List.length_append]; omega
  rw [e]
  have h1 := (Nat.div_lt_iff_lt_mul h0).2 ht
  omega

theorem decL_cut (least : Nat) (h0 : 0 < least) (l : List α) (hl : l.length ≤ 9223372036854775807) (h : ∀ x ∈ l, ∀ t, get (enc x ++ t) = (x, (enc x).length, 0))
    (hc : (∀ x ∈ l, ∀ i, i < (enc x).length → (get ((enc x).take i)).2.2 = 10) ∨ (l.flatMap enc).length = l.length * least) {i : Nat} (hi : i < (encL enc l).length) : decL get least ((encL enc l).take i) = ([], 0, 10) := by
  unfold encL at hi ⊢
  rw [List.length_append] at hi
  rcases Nat.lt_or_ge i (encI l.length).length with h1 | h1
  · rw [List.take_append_of_le_length (by omega)]
    unfold decL
    rw [decLen_cut l.length least hl h1]
    rfl
  · rw [List.take_append, List.take_of_length_le h1]
    have hj : i - (encI l.length).length < (l.flatMap enc).length := by omega
    generalize i - (encI l.length).length = j at hj
    have htl : ((l.flatMap enc).take j).length = j := by rw [List.length_take]; omega
    rcases Nat.lt_or_ge j (l.length * least) with h2 | h2
    · unfold decL
      rw [decLen_short l.length _ least h0 hl (by rw [htl]; exact h2)]
      rfl
    · rcases hc with hc | hc
      · have hE := decE_cut (get := get) (enc := enc) l j hj h hc
        unfold decL
        rw [decLen_mk l.length _ h0 hl (by rw [htl]; exact h2)]
        simp only
        rw [List.drop_left, Int.toNat_natCast, hE]
        simp
      · omega
end

theorem decB_can (b : Bs) (x : Bs) (k : Nat) (hb : isBs b) (h : decB b = (x, k, 0)) : k ≤ b.length ∧ b.take k = encB x := by
  rcases decB_ok hb h with ⟨_, _, h2, _, _, h5⟩ | ⟨_, _, a⟩
  · exact ⟨h2, h5⟩
  · rcases a with a | a <;> cases a
theorem decI_can (b : Bs) (x : Int) (k : Nat) (hb : isBs b) (h : decI b = (x, k, 0)) : k ≤ b.length ∧ b.take k = encI x := by
  rcases decI_ok hb h with ⟨_, _, _, h2, _, _, h5⟩ | ⟨_, _, a⟩
  · exact ⟨h2, h5⟩
  · rcases a with a | a <;> cases a
theorem decB_cut (s : Bs) (hs : s.length ≤ 9223372036854775807) {i : Nat} (hi : i < (encB s).length) : decB ((encB s).take i) = ([], 0, 10) := by
  unfold encB at hi ⊢
  rw [List.length_append] at hi
  rcases Nat.lt_or_ge i (encI s.length).length with h1 | h1
  · rw [List.take_append_of_le_length (by omega)]
    unfold decB
    rw [decLen_cut s.length 1 hs h1]
    rfl
  · rw [List.take_append, List.take_of_length_le h1]
    unfold decB
    rw [decLen_short s.length _ 1 (by decide) hs (by rw [List.length_take]; omega)]
    rfl

/-- Integers. -/
theorem ints_back (l : List Int) (t : Bs) (h : ∀ x ∈ l, -9223372036854775808 ≤ x ∧ x ≤ 9223372036854775807) (hl : l.length ≤ 9223372036854775807) : decL decI 1 (encL encI l ++ t) = (l, (encL encI l).length, 0) := by
  refine decL_encL 1 l t (by decide) hl ?_ (fun x hx t => decI_encI (h x hx).1 (h x hx).2 t)
  rw [Nat.mul_one]
  clear h hl
  induction l with
  | nil => simp
  | cons x r ih => rw [List.flatMap_cons, List.length_append, List.length_cons]; have := encI_pos x; omega
theorem ints_cut (l : List Int) (h : ∀ x ∈ l, -9223372036854775808 ≤ x ∧ x ≤ 9223372036854775807) (hl : l.length ≤ 9223372036854775807) {i : Nat} (hi : i < (encL encI l).length) : decL decI 1 ((encL encI l).take i) = ([], 0, 10) :=
  decL_cut 1 (by decide) l hl (fun x hx t => decI_encI (h x hx).1 (h x hx).2 t) (.inl fun x hx i hi => by rw [decI_cut (h x hx).1 (h x hx).2 hi]) hi
theorem strs_back (l : List Bs) (t : Bs) (h : ∀ x ∈ l, x.length ≤ 9223372036854775807) (hl : l.length ≤ 9223372036854775807) : decL decB 1 (encL encB l ++ t) = (l, (encL encB l).length, 0) := by
  refine decL_encL 1 l t (by decide) hl ?_ (fun x hx t => decB_encB x t (h x hx))
  rw [Nat.mul_one]
  clear h hl
  induction l with
  | nil => simp
  | cons x r ih => rw [List.flatMap_cons, List.length_append, List.length_cons, encB_len]; have := encI_pos x.length; omega
theorem strs_cut (l : List Bs) (h : ∀ x ∈ l, x.length ≤ 9223372036854775807) (hl : l.length ≤ 9223372036854775807) {i : Nat} (hi : i < (encL encB l).length) : decL decB 1 ((encL encB l).take i) = ([], 0, 10) :=
  decL_cut 1 (by decide) l hl (fun x hx t => decB_encB x t (h x hx)) (.inl fun x hx i hi => by rw [decB_cut x (h x hx) hi]) hi

end Go.Proofs.YtaihfkcoiagdaabDoor.Wm

/-
  WORDS FOR MEMORY, OF NO PROGRAM: a slice that reads as a list of values; a slice that the call owns; worlds that came later.
-/
namespace Go.Proofs.YtaihfkcoiagdaabDoor
open Go.RowKit

/-- Bytes as cells. -/
def U (b : Wm.Bs) : List Value := b.map (Value.int .u8)
theorem U_length (b : Wm.Bs) : (U b).length = b.length := by simp [U]
theorem U_append (a b : Wm.Bs) : U (a ++ b) = U a ++ U b := by simp [U]
theorem U_one (b : Wm.Bs) : ∀ u ∈ U b, u.oneCell' = true := by
  intro u hu
  obtain ⟨x, _, rfl⟩ := List.mem_map.1 hu
  rfl
theorem one_int (k : IntKind) (x : Int) : ∀ u ∈ [Value.int k x], u.oneCell' = true := by
  intro u hu
  obtain rfl : u = .int k x := by simpa using hu
  rfl
theorem U_get (b : Wm.Bs) (j : Nat) (h : j < b.length) : (U b)[j]? = some (.int .u8 (b.getD j 0)) := by
  simp [U, h]

/-- Everything that was there is there. -/
abbrev Later (w w' : World) : Prop := Below w.heap.size w w'
theorem Later.trans_ {a b c : World} (h : Later a b) (k : Later b c) : Later a c := Below.trans h (k.mono h.size)

/-- THE SLICE OF n ELEMENTS AT A READS AS THE CELLS xs (size of them an element). -/
def Sl (w : World) (size : Nat) (A : Option Addr) (n : Nat) (xs : List Value) : Prop :=
  xs.length = n * size ∧ (0 < n → ∃ ad, A = some ad ∧ ad.block < w.heap.size ∧ ∀ j u, xs[j]? = some u → w.cell? (ad.add j) = some u)

theorem addr_add_block (a : Addr) (n : Nat) : (a.add n).block = a.block := by unfold Addr.add; split <;> rfl
theorem addr_add_add (a : Addr) (i j : Nat) : (a.add i).add j = a.add (i + j) := by
  unfold Addr.add
  by_cases hi : i = 0 <;> by_cases hj : j = 0 <;> simp [hi, hj, Nat.add_assoc]

section
variable {w w' : World} {size n : Nat} {A : Option Addr} {xs : List Value}
theorem Sl.nil (w : World) (size : Nat) (A : Option Addr) : Sl w size A 0 [] := ⟨by simp, fun h => absurd h (by omega)⟩
theorem Sl.later {B : Nat} (h : Sl w size A n xs) (hb : Below B w w') (hB : ∀ ad, A = some ad → ad.block < w.heap.size → ad.block < B) : Sl w' size A n xs :=
  ⟨h.1, fun hn => by
    obtain ⟨ad, e, hl, hc⟩ := h.2 hn
    refine ⟨ad, e, Nat.lt_of_lt_of_le hl hb.size, fun j u hu => ?_⟩
    rw [hb.cell (by rw [addr_add_block]; exact hB ad e hl)]
    exact hc j u hu⟩
theorem Sl.keep (h : Sl w size A n xs) (hb : Later w w') : Sl w' size A n xs := h.later hb fun _ _ hl => hl
theorem Sl.alloc (h : Sl w size A n xs) (o : Obj) : Sl (w.alloc o) size A n xs := h.keep ((Below.refl _ _).alloc (Nat.le_refl _) o)
theorem Sl.drew (h : Sl w size A n xs) : Sl w.drew size A n xs := h
theorem Sl.at1 {k : Nat} (h : Sl w 1 A n xs) (hk : k < n) : ∃ ad u, A = some ad ∧ ad.block < w.heap.size ∧ xs[k]? = some u ∧ w.cell? (ad.add k) = some u := by
  obtain ⟨ad, e, hb, hc⟩ := h.2 (by omega)
  have hl : k < xs.length := by rw [h.1]; omega
  exact ⟨ad, xs[k], e, hb, List.getElem?_eq_getElem hl, hc k _ (List.getElem?_eq_getElem hl)⟩
theorem Sl.cut (h : Sl w size A n xs) {k cap : Nat} (hk : k ≤ n) (hc : n ≤ cap) :
    Sl w size (if cap = k then A else A.map (·.add (k * size))) (n - k) (xs.drop (k * size)) := by
  refine ⟨by rw [List.length_drop, h.1, Nat.sub_mul], fun hn => ?_⟩
  obtain ⟨ad, rfl, hb, hcell⟩ := h.2 (by omega)
  rw [if_neg (by omega)]
  refine ⟨ad.add (k * size), rfl, by rw [addr_add_block]; exact hb, fun j u hu => ?_⟩
  rw [addr_add_add]
  exact hcell _ u (by rw [← hu, List.getElem?_drop])
theorem Sl.front (h : Sl w size A n xs) {k : Nat} (hk : k ≤ n) : Sl w size A k (xs.take (k * size)) := by
  refine ⟨by rw [List.length_take, h.1]; exact Nat.min_eq_left (Nat.mul_le_mul_right _ hk), fun hn => ?_⟩
  obtain ⟨ad, rfl, hb, hcell⟩ := h.2 (by omega)
  refine ⟨ad, rfl, hb, fun j u hu => hcell j u ?_⟩
  rw [List.getElem?_take] at hu
  split at hu
  · exact hu
  · cases hu
theorem Sl.own {base : Nat} {e : TypeId} {c : Nat} (h : w.ownsRow base e size (.slice A n c) n xs) : Sl w size A n xs := by
  refine ⟨h.1, fun hn => ?_⟩
  obtain ⟨g, cap, hv, _, hlt⟩ := h.form hn
  have hA : A = some ⟨g, 0, none⟩ := by injection hv
  subst hA
  exact ⟨_, rfl, hlt, h.cells (g := g) rfl⟩
end

/-- A value that is owned is a slice of its length, within its capacity. -/
theorem own_form {w : World} {base : Nat} {e : TypeId} {size n : Nat} {v : Value} {xs : List Value} (h : w.ownsRow base e size v n xs) :
    ∃ A c, v = .slice A n c ∧ n ≤ c ∧ c ≤ maxLen ∧ Sl w size A n xs ∧ (∀ ad, A = some ad → base ≤ ad.block ∧ ad.block < w.heap.size) := by
  rcases h.2 with ⟨rfl, rfl⟩ | ⟨g, cap, cur, rfl, hb, hg, hn, hm, _, _⟩
  · refine ⟨none, 0, rfl, Nat.le_refl _, Nat.zero_le _, Sl.own h, by simp⟩
  · refine ⟨_, cap, rfl, hn, hm, Sl.own h, fun ad e => ?_⟩
    injection e with e
    subst e
    refine ⟨hb, ?_⟩
    rcases Nat.lt_or_ge g w.heap.size with hlt | hge
    · exact hlt
    · rw [Array.getElem?_eq_none hge] at hg; cases hg

theorem own_below {w w' : World} {base : Nat} {e : TypeId} {size n : Nat} {v : Value} {xs : List Value} (h : w.ownsRow base e size v n xs) (hb : Later w w') : w'.ownsRow base e size v n xs :=
  h.kept (row := none) ⟨hb.os, hb.tape, hb.output, hb.size, fun k hk _ => hb.block k hk⟩ (by
    cases e : v.ownBlock with
    | none => exact .inl rfl
    | some g => exact .inr (by simp))

section
variable {w : World} {n : Nat} {A : Option Addr} {b : Wm.Bs}
theorem Sl.blen (h : Sl w 1 A n (U b)) : b.length = n := by have := h.1; rw [U_length] at this; omega
theorem Sl.cutB (h : Sl w 1 A n (U b)) {k cap : Nat} (hk : k ≤ n) (hc : n ≤ cap) (hne : cap ≠ k) : Sl w 1 (A.map (·.add k)) (n - k) (U (b.drop k)) := by
  have h1 := h.cut hk hc
  rw [if_neg hne, Nat.mul_one] at h1
  rw [show U (b.drop k) = (U b).drop k by simp [U]]
  exact h1
theorem Sl.cutEnd (h : Sl w 1 A n (U b)) {k cap : Nat} (hk : k ≤ n) (hc : n ≤ cap) (hne : cap = k) : Sl w 1 A (n - k) (U (b.drop k)) := by
  have h1 := h.cut hk hc
  rw [if_pos hne, Nat.mul_one] at h1
  rw [show U (b.drop k) = (U b).drop k by simp [U]]
  exact h1
theorem Sl.frontB (h : Sl w 1 A n (U b)) {k : Nat} (hk : k ≤ n) : Sl w 1 A k (U (b.take k)) := by
  have h1 := h.front hk
  rw [Nat.mul_one] at h1
  rw [show U (b.take k) = (U b).take k by simp [U]]
  exact h1
/-- A slice of bytes made a string. -/
theorem run_str {P : Program} (src dst e : TypeId) (hs : P.underlying src = some (.slice e)) (he : P.underlying e = some (.int .u8)) (hd : P.underlying dst = some .string)
    (h : Sl w 1 A n (U b)) (c : Nat) : (convert src dst (.slice A n c)).run P w = .ok (.string (strOfNums b)) w := by
  have hl := h.blen
  rw [run_convert_bytes_string w src dst e A n c hs he hd]
  cases A with
  | none =>
    have hn : n = 0 := by
      rcases Nat.eq_zero_or_pos n with h0 | h0
      · exact h0
      · obtain ⟨ad, e, _⟩ := h.2 h0; cases e
    subst hn
    obtain rfl : b = [] := List.eq_nil_of_length_eq_zero hl
    simp [Conv.bytesToString, Sem.run_pure, strOfNums, ByteArray.empty, ByteArray.emptyWithCapacity]
    rfl
  | some ad =>
    have hcells : ∀ j u, (U b)[j]? = some u → w.cell? (ad.add j) = some u := by
      intro j u hu
      rcases Nat.eq_zero_or_pos n with h0 | h0
      · rw [h0] at hl
        obtain rfl : b = [] := List.eq_nil_of_length_eq_zero hl
        simp [U] at hu
      · obtain ⟨ad', e, _, hc⟩ := h.2 h0
        cases e
        exact hc j u hu
    have hload := run_loadCells_list (P := P) w ad (U b) hcells
    rw [U_length, hl] at hload
    rw [run_bytesToString w ad n c b hload, foldl_push_bytes]
    simp [strOfNums, ByteArray.empty, ByteArray.emptyWithCapacity]
    rfl
end

/-- append, onto a slice that the call owns, of whatever slice that reads as cells, nil too. -/
theorem run_app {P : Program} (w : World) (base : Nat) (t ty e : TypeId) (i : TypeInfo) (z : Value) (size bytes : Nat) (ht : P.underlying t = some (.slice e)) (hi : P.info? e = some i) (hz : i.zero = some z)
    (hsize : i.size = size) (hby : i.bytes = bytes) (hzs : z.cells.size = size) (hsz : 0 < size)
    (v : Value) (n : Nat) (xs : List Value) (hown : w.ownsRow base e size v n xs)
    (A : Option Addr) (m c : Nat) (news : List Value) (hs : Sl w size A m news) (h1 : ∀ u ∈ news, u.oneCell' = true)
    (h63 : n + m ≤ maxLen) (hbytes : (n + m) * bytes ≤ 140737488355328) (hbase : base ≤ w.heap.size) :
    ∃ v' w', (Builtin.append_ #[t, t] ty #[v, .slice A m c]).run P w = .ok v' w' ∧ w'.ownsRow base e size v' (n + m) (xs ++ news) ∧ w.grownBy w' v.ownBlock := by
  cases A with
  | none =>
    have hm : m = 0 := by
      rcases Nat.eq_zero_or_pos m with h0 | h0
      · exact h0
      · obtain ⟨ad, e, _⟩ := hs.2 h0; cases e
    subst hm
    obtain rfl : news = [] := List.eq_nil_of_length_eq_zero (by have := hs.1; simpa using this)
    refine ⟨v, w, ?_, by simpa using hown, ⟨rfl, rfl, rfl, Nat.le_refl _, fun _ _ _ => rfl⟩⟩
    rcases hown.2 with ⟨rfl, rfl⟩ | ⟨g, cap, cur, rfl, _, _, hnc, _⟩
    · simp [Builtin.append_, run_underlying ht, sizeOf, typeInfo, hi, Builtin.lenOf, Builtin.firstCells]
    · simp [Builtin.append_, run_underlying ht, sizeOf, typeInfo, hi, Builtin.lenOf, Builtin.firstCells, hnc, storeCells]
  | some ad =>
    have hcells : ∀ j u, news[j]? = some u → w.cell? (ad.add j) = some u := by
      intro j u hu
      rcases Nat.eq_zero_or_pos m with h0 | h0
      · have hl := hs.1
        rw [h0, Nat.zero_mul] at hl
        obtain rfl : news = [] := List.eq_nil_of_length_eq_zero hl
        simp at hu
      · obtain ⟨ad', e, _, hc⟩ := hs.2 h0
        cases e
        exact hc j u hu
    obtain ⟨v', w', hr, h2, h3, _⟩ := run_append_own (P := P) w base t ty e i z size bytes ht hi hz hsize hby hzs hsz v n xs hown ad m c news hs.1 hcells h1 h63 hbytes hbase
    exact ⟨v', w', hr, h2, h3⟩

theorem wpList_app {P : Program} (w : World) {ops : Array Oper} {rest : List Oper} {o : Oper} {a : Act} {Q : Exit → Act → World → Prop} (hgd : o.guard = none) (s x : Operand) (t : TypeId)
    (ho : o.op = .call { callee := .builtin .append, args := #[s, x], argTypes := #[t, t] })
    (base : Nat) (e : TypeId) (i : TypeInfo) (z : Value) (size bytes : Nat) (ht : P.underlying t = some (.slice e)) (hi : P.info? e = some i) (hz : i.zero = some z)
    (hsize : i.size = size) (hby : i.bytes = bytes) (hzs : z.cells.size = size) (hsz : 0 < size)
    (v : Value) (n : Nat) (xs : List Value) (hsv : a.eval s = v) (hown : w.ownsRow base e size v n xs)
    (A : Option Addr) (m c : Nat) (news : List Value) (hx : a.eval x = .slice A m c) (hs : Sl w size A m news) (h1 : ∀ u ∈ news, u.oneCell' = true)
    (h63 : n + m ≤ maxLen) (hbytes : (n + m) * bytes ≤ 140737488355328) (hbase : base ≤ w.heap.size)
    (h : ∀ v' w', w'.ownsRow base e size v' (n + m) (xs ++ news) → w.grownBy w' v.ownBlock → wpList P ops Q rest (a.put o.dst v') w') : wpList P ops Q (o :: rest) a w := by
  refine wpList_plain hgd fun K hK => ?_
  obtain ⟨v', w', hr, h2, h3⟩ := run_app (P := P) w base t o.type e i z size bytes ht hi hz hsize hby hzs hsz v n xs hown A m c news hs h1 h63 hbytes hbase
  unfold Oper.wp execOp
  simp only [ho, resolve, invoke, builtin, Sem.run_bind, Sem.run_pure, Result.andThen_ok, List.map_toArray, List.map_cons, List.map_nil, hsv, hx, hr]
  exact hK _ _ (h v' w' h2 h3)

theorem ret_int {k : IntKind} {a b : Int} (h : a = b) : Ending.returned (.int k a) = .returned (.int k b) := by rw [h]

end Go.Proofs.YtaihfkcoiagdaabDoor

/-
  PLAIN MATHEMATICS of SHA-256: words of 32 bits as bit vectors, a block's words, rounds, blocks of a message, its padding.
-/
namespace Go.Proofs.YtaihfkcoiagdaabDoor.Hs

abbrev W := BitVec 32
abbrev By := BitVec 8

def rotr (x : W) (n : Nat) : W := (x >>> n) ||| (x <<< (32 - n))

/-- The round constants. -/
def K : List W := [
  0x428a2f98#32, 0x71374491#32, 0xb5c0fbcf#32, 0xe9b5dba5#32, 0x3956c25b#32, 0x59f111f1#32, 0x923f82a4#32, 0xab1c5ed5#32,
  0xd807aa98#32, 0x12835b01#32, 0x243185be#32, 0x550c7dc3#32, 0x72be5d74#32, 0x80deb1fe#32, 0x9bdc06a7#32, 0xc19bf174#32,
  0xe49b69c1#32, 0xefbe4786#32, 0x0fc19dc6#32, 0x240ca1cc#32, 0x2de92c6f#32, 0x4a7484aa#32, 0x5cb0a9dc#32, 0x76f988da#32,
  0x983e5152#32, 0xa831c66d#32, 0xb00327c8#32, 0xbf597fc7#32, 0xc6e00bf3#32, 0xd5a79147#32, 0x06ca6351#32, 0x14292967#32,
  0x27b70a85#32, 0x2e1b2138#32, 0x4d2c6dfc#32, 0x53380d13#32, 0x650a7354#32, 0x766a0abb#32, 0x81c2c92e#32, 0x92722c85#32,
  0xa2bfe8a1#32, 0xa81a664b#32, 0xc24b8b70#32, 0xc76c51a3#32, 0xd192e819#32, 0xd6990624#32, 0xf40e3585#32, 0x106aa070#32,
  0x19a4c116#32, 0x1e376c08#32, 0x2748774c#32, 0x34b0bcb5#32, 0x391c0cb3#32, 0x4ed8aa4a#32, 0x5b9cca4f#32, 0x682e6ff3#32,
  0x748f82ee#32, 0x78a5636f#32, 0x84c87814#32, 0x8cc70208#32, 0x90befffa#32, 0xa4506ceb#32, 0xbef9a3f7#32, 0xc67178f2#32]

def word (a b c d : By) : W := a.setWidth 32 <<< 24 ||| b.setWidth 32 <<< 16 ||| c.setWidth 32 <<< 8 ||| d.setWidth 32

/-- The t-th word of a block. -/
def wordAt (b : List By) (t : Nat) : W := word (b.getD (4 * t) 0) (b.getD (4 * t + 1) 0) (b.getD (4 * t + 2) 0) (b.getD (4 * t + 3) 0)
def firsts (b : List By) (n : Nat) : List W := (List.range n).map (wordAt b)
theorem firsts_succ (b : List By) (n : Nat) : firsts b (n + 1) = firsts b n ++ [wordAt b n] := by
  unfold firsts; rw [List.range_succ, List.map_append]; rfl
theorem firsts_len (b : List By) (n : Nat) : (firsts b n).length = n := by simp [firsts]

def s0 (x : W) : W := rotr x 7 ^^^ rotr x 18 ^^^ (x >>> 3)
def s1 (x : W) : W := rotr x 17 ^^^ rotr x 19 ^^^ (x >>> 10)
/-- The word behind t words. -/
def next (l : List W) (t : Nat) : W := l.getD (t - 16) 0 + s0 (l.getD (t - 15) 0) + l.getD (t - 7) 0 + s1 (l.getD (t - 2) 0)
def grow : Nat → List W → List W
  | 0, l => l
  | n + 1, l => grow n (l ++ [next l l.length])
def words (b : List By) : List W := grow 48 (firsts b 16)
theorem grow_len (n : Nat) (l : List W) : (grow n l).length = l.length + n := by
  induction n generalizing l with
  | zero => rfl
  | succ n ih => rw [grow, ih, List.length_append, List.length_singleton]; omega
theorem words_len (b : List By) : (words b).length = 64 := by unfold words; rw [grow_len, firsts_len]

/-- The variables a to h. -/
structure St where
  a : W
  b : W
  c : W
  d : W
  e : W
  f : W
  g : W
  h : W
def St.list (s : St) : List W := [s.a, s.b, s.c, s.d, s.e, s.f, s.g, s.h]
def St.add (s t : St) : St := ⟨s.a + t.a, s.b + t.b, s.c + t.c, s.d + t.d, s.e + t.e, s.f + t.f, s.g + t.g, s.h + t.h⟩
def tx (s : St) (k w : W) : W := s.h + (rotr s.e 6 ^^^ rotr s.e 11 ^^^ rotr s.e 25) + ((s.e &&& s.f) ^^^ (~~~s.e &&& s.g)) + k + w
def ty (s : St) : W := (rotr s.a 2 ^^^ rotr s.a 13 ^^^ rotr s.a 22) + ((s.a &&& s.b) ^^^ (s.a &&& s.c) ^^^ (s.b &&& s.c))
def round (s : St) (k w : W) : St := ⟨tx s k w + ty s, s.a, s.b, s.c, s.d + tx s k w, s.e, s.f, s.g⟩
/-- The rounds from t on, n of them. -/
def rounds (ws : List W) : Nat → Nat → St → St
  | 0, _, s => s
  | n + 1, t, s => rounds ws n (t + 1) (round s (K.getD t 0) (ws.getD t 0))
def compress (s : St) (b : List By) : St := s.add (rounds (words b) 64 0 s)

def iv : St := ⟨0x6a09e667#32, 0xbb67ae85#32, 0x3c6ef372#32, 0xa54ff53a#32, 0x510e527f#32, 0x9b05688c#32, 0x1f83d9ab#32, 0x5be0cd19#32⟩

/-- The value after n blocks of a message. -/
def blocks : Nat → St → List By → St
  | 0, s, _ => s
  | n + 1, s, m => blocks n (compress s (m.take 64)) (m.drop 64)
theorem blocks_append (k n : Nat) (s : St) (a b : List By) (h : a.length = 64 * k) : blocks (k + n) s (a ++ b) = blocks n (blocks k s a) b := by
  induction k generalizing s a with
  | zero => rw [List.eq_nil_of_length_eq_zero (by omega : a.length = 0)]; simp [blocks]
  | succ k ih =>
    rw [show k + 1 + n = (k + n) + 1 by omega, blocks, blocks, List.take_append_of_le_length (by omega), List.drop_append_of_le_length (by omega)]
    exact ih _ _ (by rw [List.length_drop]; omega)
theorem blocks_left (k : Nat) (s : St) (a b : List By) (h : 64 * k ≤ a.length) : blocks k s (a ++ b) = blocks k s a := by
  induction k generalizing s a with
  | zero => rfl
  | succ k ih =>
    rw [blocks, blocks, List.take_append_of_le_length (by omega), List.drop_append_of_le_length (by omega)]
    exact ih _ _ (by rw [List.length_drop]; omega)
theorem blocks_add (k n : Nat) (s : St) (m : List By) (h : 64 * k ≤ m.length) : blocks (k + n) s m = blocks n (blocks k s m) (m.drop (64 * k)) := by
  have e : m = m.take (64 * k) ++ m.drop (64 * k) := (List.take_append_drop _ _).symm
  have h1 := blocks_append k n s (m.take (64 * k)) (m.drop (64 * k)) (by rw [List.length_take]; omega)
  have h2 := blocks_left k s (m.take (64 * k)) (m.drop (64 * k)) (by rw [List.length_take]; omega)
  rw [← e] at h1 h2
  rw [h1, h2]

/-- The length in bits, as eight bytes. -/
def len8 (n : Nat) : List By := (List.range 8).map fun i => BitVec.ofNat 8 (8 * n / 2 ^ (56 - 8 * i))
theorem len8_len (n : Nat) : (len8 n).length = 8 := by simp [len8]
/-- The zero bytes of the padding. -/
def zs (n : Nat) : Nat := (119 - n % 64) % 64
def pad (m : List By) : List By := m ++ [128#8] ++ List.replicate (zs m.length) 0#8 ++ len8 m.length
theorem pad_len (m : List By) : (pad m).length = 64 * ((m.length + 72) / 64) := by
  unfold pad zs
  simp only [List.length_append, List.length_replicate, len8_len, List.length_singleton]
  omega
def bytesOf (s : St) : List By := (List.range 32).map fun i => ((s.list.getD (i / 4) 0) >>> (24 - 8 * (i % 4))).setWidth 8
def final (m : List By) : St := blocks ((m.length + 72) / 64) iv (pad m)
def sha (m : List By) : List By := bytesOf (final m)

/-- A stream: the value after the whole blocks of m, and at the beginning of its block the rest. -/
def whole (m : List By) : St := blocks (m.length / 64) iv m
def rest (m : List By) : List By := m.drop (64 * (m.length / 64))
theorem rest_len (m : List By) : (rest m).length = m.length % 64 := by unfold rest; rw [List.length_drop]; omega

/-- More bytes, within the block. -/
theorem rest_within (m t : List By) (h : m.length % 64 + t.length < 64) : whole (m ++ t) = whole m ∧ rest (m ++ t) = rest m ++ t := by
  have e : (m ++ t).length / 64 = m.length / 64 := by rw [List.length_append]; omega
  unfold whole rest
  rw [e, blocks_left _ _ _ _ (by omega), List.drop_append_of_le_length (by omega)]
  exact ⟨rfl, rfl⟩
/-- More bytes, that make the block full. -/
theorem rest_full (m t : List By) (h : m.length % 64 + t.length = 64) : whole (m ++ t) = compress (whole m) (rest m ++ t) ∧ rest (m ++ t) = [] := by
  have e : (m ++ t).length / 64 = m.length / 64 + 1 := by rw [List.length_append]; omega
  constructor
  · unfold whole
    rw [e, blocks_add _ _ _ _ (by rw [List.length_append]; omega), blocks_left _ _ _ _ (by omega), List.drop_append_of_le_length (by omega)]
    show compress _ (List.take 64 (rest m ++ t)) = _
    rw [List.take_of_length_le (by rw [List.length_append, rest_len]; omega)]
  · unfold rest
    rw [e]
    apply List.drop_eq_nil_of_le
    rw [List.length_append]; omega
/-- The end: one block. -/
theorem final_one (m : List By) (h : m.length % 64 ≤ 55) : final m = compress (whole m) (rest m ++ [128#8] ++ List.replicate (55 - m.length % 64) 0#8 ++ len8 m.length) := by
  have e : (m.length + 72) / 64 = m.length / 64 + 1 := by omega
  have hz : zs m.length = 55 - m.length % 64 := by unfold zs; omega
  unfold final
  rw [e, blocks_add _ _ _ _ (by rw [pad_len]; omega)]
  unfold pad
  rw [List.append_assoc, List.append_assoc, blocks_left _ _ _ _ (by omega), List.drop_append_of_le_length (by omega), hz]
  show compress _ (List.take 64 _) = _
  rw [List.take_of_length_le]
  · show compress (whole m) (rest m ++ _) = _
    simp only [List.append_assoc]
  · simp only [List.length_append, List.length_drop, List.length_replicate, len8_len, List.length_singleton]
    omega
/-- The end: two blocks. -/
theorem final_two (m : List By) (h : 55 < m.length % 64) : final m = compress (compress (whole m) (rest m ++ [128#8] ++ List.replicate (63 - m.length % 64) 0#8)) (List.replicate 56 0#8 ++ len8 m.length) := by
  have e : (m.length + 72) / 64 = m.length / 64 + 2 := by omega
  have hz : zs m.length = (63 - m.length % 64) + 56 := by unfold zs; omega
  unfold final
  rw [e, blocks_add _ _ _ _ (by rw [pad_len]; omega)]
  unfold pad
  rw [List.append_assoc, List.append_assoc, blocks_left _ _ _ _ (by omega), List.drop_append_of_le_length (by omega), hz]
  have hr : List.replicate (63 - m.length % 64 + 56) 0#8 = List.replicate (63 - m.length % 64) 0#8 ++ List.replicate 56 0#8 := by rw [List.replicate_append_replicate]
  rw [hr]
  have hb : List.drop (64 * (m.length / 64)) m ++ ([128#8] ++ (List.replicate (63 - m.length % 64) 0#8 ++ List.replicate 56 0#8 ++ len8 m.length)) = (rest m ++ [128#8] ++ List.replicate (63 - m.length % 64) 0#8) ++ (List.replicate 56 0#8 ++ len8 m.length) := by
    simp only [rest, List.append_assoc]
  rw [hb]
  have hl : (rest m ++ [128#8] ++ List.replicate (63 - m.length % 64) 0#8).length = 64 := by
    simp only [List.length_append, rest_len, List.length_replicate, List.length_singleton]; omega
  have hb1 := blocks_append 1 1 (whole m) _ (List.replicate 56 0#8 ++ len8 m.length) (by rw [hl])
  show blocks (1 + 1) (whole m) _ = _
  rw [hb1]
  simp only [blocks]
  rw [List.take_of_length_le (by omega), List.take_of_length_le (by simp [len8_len])]

example : (sha [97#8, 98#8, 99#8]).take 4 = [0xba#8, 0x78#8, 0x16#8, 0xbf#8] := by decide +kernel
end Go.Proofs.YtaihfkcoiagdaabDoor.Hs

/-
  PLAIN MATHEMATICS of a check of 40 bits: registers as bit vectors, the polynomial's step X, and what a product by a power of X is.
-/
namespace Go.Proofs.YtaihfkcoiagdaabDoor.Hm

abbrev R := BitVec 40

/-- The register times x, modulo the polynomial. -/
def X (r : R) : R := (r <<< 1) ^^^ (if r.getLsbD 39 then 0x0004820009#40 else 0#40)

/-- X, n times. -/
def Xn : Nat → R → R
  | 0, r => r
  | n + 1, r => Xn n (X r)

/-- One bit of a message. -/
def bit (r : R) (b : Bool) : R := X (r ^^^ (if b then 0x8000000000#40 else 0#40))
def bits (r : R) (l : List Bool) : R := l.foldl bit r

theorem ite_xor {n : Nat} (a b : Bool) (v : BitVec n) : (if (a ^^ b) then v else 0#n) = (if a then v else 0#n) ^^^ (if b then v else 0#n) := by
  cases a <;> cases b <;> simp

theorem X_xor (a b : R) : X (a ^^^ b) = X a ^^^ X b := by
  unfold X
  rw [BitVec.getLsbD_xor, ite_xor, BitVec.shiftLeft_xor_distrib]
  ac_rfl
theorem X_zero : X 0#40 = 0#40 := by decide
theorem Xn_xor (n : Nat) (a b : R) : Xn n (a ^^^ b) = Xn n a ^^^ Xn n b := by
  induction n generalizing a b with
  | zero => rfl
  | succ n ih => rw [Xn, X_xor, ih]; rfl
theorem Xn_zero (n : Nat) : Xn n 0#40 = 0#40 := by
  induction n with
  | zero => rfl
  | succ n ih => rw [Xn, X_zero, ih]
theorem Xn_add (m n : Nat) (r : R) : Xn (m + n) r = Xn n (Xn m r) := by
  induction m generalizing r with
  | zero => rw [Nat.zero_add]; rfl
  | succ m ih => rw [Nat.add_right_comm, Xn, ih]; rfl
theorem Xn_succ' (n : Nat) (r : R) : Xn (n + 1) r = X (Xn n r) := by rw [Xn_add]; rfl
theorem Xn_comm (m n : Nat) (r : R) : Xn m (Xn n r) = Xn n (Xn m r) := by rw [← Xn_add, ← Xn_add, Nat.add_comm]

/-- The i-th basis vector. -/
def e (i : Nat) : R := BitVec.twoPow 40 i

/-- Two additive functions that agree at the basis agree. -/
theorem lin_ext {w : Nat} (f g : R → BitVec w) (hf : ∀ a b, f (a ^^^ b) = f a ^^^ f b) (hg : ∀ a b, g (a ^^^ b) = g a ^^^ g b) (h : ∀ i, i < 40 → f (e i) = g (e i)) (r : R) : f r = g r := by
  have f0 : f 0#40 = 0#w := by have := hf 0#40 0#40; simpa using this
  have g0 : g 0#40 = 0#w := by have := hg 0#40 0#40; simpa using this
  have main : ∀ n, n ≤ 40 → ∀ r : R, r.toNat < 2 ^ n → f r = g r := by
    intro n
    induction n with
    | zero =>
      intro _ r hr
      have : r = 0#40 := BitVec.eq_of_toNat_eq (by simpa using hr)
      rw [this, f0, g0]
    | succ n ih =>
      intro hn r hr
      by_cases hb : r.getLsbD n = true
      · have hs : r = (r ^^^ e n) ^^^ e n := by rw [BitVec.xor_assoc, BitVec.xor_self, BitVec.xor_zero]
        have hlt : (r ^^^ e n).toNat < 2 ^ n := by
          apply Nat.lt_pow_two_of_testBit
          intro i hi
          rw [BitVec.testBit_toNat, BitVec.getLsbD_xor]
          unfold e
          rw [BitVec.getLsbD_twoPow]
          by_cases hin : i = n
          · subst hin; rw [hb]; simp; omega
          · have h1 : r.getLsbD i = false := by
              rw [← BitVec.testBit_toNat]
              exact Nat.testBit_lt_two_pow (Nat.lt_of_lt_of_le hr (Nat.pow_le_pow_right (by decide) (by omega)))
            rw [h1]
            simp; omega
        rw [hs, hf, hg, ih (by omega) _ hlt, h n (by omega)]
      · apply ih (by omega)
        apply Nat.lt_pow_two_of_testBit
        intro i hi
        rw [BitVec.testBit_toNat]
        by_cases hin : i = n
        · subst hin; simpa using hb
        · rw [← BitVec.testBit_toNat]
          exact Nat.testBit_lt_two_pow (Nat.lt_of_lt_of_le hr (Nat.pow_le_pow_right (by decide) (by omega)))
  exact main 40 (Nat.le_refl _) r r.isLt

theorem of_range {n : Nat} {p : Nat → Bool} (h : (List.range n).all p = true) (i : Nat) (hi : i < n) : p i = true :=
  List.all_eq_true.1 h i (List.mem_range.2 hi)

/-- Eight bits at once, as the program does. -/
def feed (f : R) : R := f <<< 26 ^^^ f <<< 23 ^^^ f <<< 17 ^^^ f <<< 3 ^^^ f
def byteAt (c : BitVec 8) : R := c.setWidth 40 <<< 32
theorem feed_xor (a b : R) : feed (a ^^^ b) = feed a ^^^ feed b := by
  unfold feed; simp only [BitVec.shiftLeft_xor_distrib]
  generalize a <<< 26 = a1; generalize a <<< 23 = a2; generalize a <<< 17 = a3; generalize a <<< 3 = a4
  generalize b <<< 26 = b1; generalize b <<< 23 = b2; generalize b <<< 17 = b3; generalize b <<< 3 = b4
  ac_rfl
theorem X8 (r : R) : Xn 8 r = (r <<< 8) ^^^ feed (r >>> 32) := by
  refine lin_ext (Xn 8) (fun r => (r <<< 8) ^^^ feed (r >>> 32)) (Xn_xor 8) (fun a b => ?_) (fun i hi => ?_) r
  · simp only [BitVec.shiftLeft_xor_distrib, BitVec.ushiftRight_xor_distrib, feed_xor]
    generalize feed (a >>> 32) = p
    generalize feed (b >>> 32) = q
    generalize a <<< 8 = s
    generalize b <<< 8 = t
    ac_rfl
  · have : (List.range 40).all (fun i => Xn 8 (e i) == (e i <<< 8) ^^^ feed (e i >>> 32)) = true := by decide +kernel
    exact eq_of_beq (of_range this i hi)

/-- The register after a byte. -/
def byte (r : R) (c : BitVec 8) : R := Xn 8 (r ^^^ byteAt c)
def bytes (r : R) (l : List (BitVec 8)) : R := l.foldl byte r

/-- The bits of a byte, the most significant one first. -/
def bitsOf (c : BitVec 8) : List Bool := [c.getLsbD 7, c.getLsbD 6, c.getLsbD 5, c.getLsbD 4, c.getLsbD 3, c.getLsbD 2, c.getLsbD 1, c.getLsbD 0]

/-- Bits behind a register. -/
theorem bits_xor (l : List Bool) (r s : R) (m : List Bool) (h : l.length = m.length) : bits (r ^^^ s) (List.zipWith (· ^^ ·) l m) = bits r l ^^^ bits s m := by
  induction l generalizing r s m with
  | nil => cases m <;> simp_all [bits]
  | cons a l ih =>
    cases m with
    | nil => simp at h
    | cons b m =>
      have hb : bit (r ^^^ s) (a ^^ b) = bit r a ^^^ bit s b := by
        unfold bit; rw [ite_xor, ← X_xor]; congr 1; ac_rfl
      simp only [bits, List.zipWith_cons_cons, List.foldl_cons, hb]
      exact ih _ _ _ (by simpa using h)

theorem bits_zero (l : List Bool) (r : R) : bits r l = Xn l.length r ^^^ bits 0#40 l := by
  induction l generalizing r with
  | nil => simp [bits, Xn]
  | cons a l ih =>
    have h1 : bits r (a :: l) = bits (bit r a) l := rfl
    have h2 : bits 0#40 (a :: l) = bits (bit 0#40 a) l := rfl
    rw [h1, h2, ih (bit r a), ih (bit 0#40 a)]
    have : bit r a = X r ^^^ bit 0#40 a := by unfold bit; rw [X_xor, X_xor, X_zero, BitVec.zero_xor]
    rw [this, Xn_xor, List.length_cons, Xn, BitVec.xor_assoc]

theorem byte_bits (r : R) (c : BitVec 8) : byte r c = bits r (bitsOf c) := by
  have hr : bits r (bitsOf c) = Xn 8 r ^^^ bits 0#40 (bitsOf c) := bits_zero (bitsOf c) r
  have : ∀ c : BitVec 8, Xn 8 (byteAt c) = bits 0#40 (bitsOf c) := by decide +kernel
  rw [hr, ← this, ← Xn_xor]; rfl

theorem bytes_append (r : R) (a b : List (BitVec 8)) : bytes r (a ++ b) = bytes (bytes r a) b := List.foldl_append
theorem bytes_zero (r : R) (l : List (BitVec 8)) : bytes r l = Xn (8 * l.length) r ^^^ bytes 0#40 l := by
  induction l generalizing r with
  | nil => simp [bytes, Xn]
  | cons a l ih =>
    have h1 : bytes r (a :: l) = bytes (byte r a) l := rfl
    have h2 : bytes 0#40 (a :: l) = bytes (byte 0#40 a) l := rfl
    rw [h1, h2, ih (byte r a), ih (byte 0#40 a)]
    have : byte r a = Xn 8 r ^^^ byte 0#40 a := by unfold byte; rw [Xn_xor, Xn_xor, Xn_zero, BitVec.zero_xor]
    rw [this, Xn_xor, List.length_cons, ← Xn_add, show 8 + 8 * l.length = 8 * (l.length + 1) by omega, BitVec.xor_assoc]

def ones : R := 0xffffffffff#40
/-- The check. -/
def crc (l : List (BitVec 8)) : R := bytes ones l ^^^ ones
theorem xor_cancel {n : Nat} (a b : BitVec n) : a ^^^ b ^^^ b = a := by rw [BitVec.xor_assoc, BitVec.xor_self, BitVec.xor_zero]
theorem crc_append (a b : List (BitVec 8)) : crc (a ++ b) = Xn (8 * b.length) (crc a) ^^^ crc b := by
  unfold crc
  rw [bytes_append, bytes_zero (bytes ones a) b, bytes_zero ones b, Xn_xor]
  generalize Xn (8 * b.length) (bytes ones a) = p
  generalize Xn (8 * b.length) ones = q
  generalize bytes 0#40 b = s
  have : p ^^^ q ^^^ (q ^^^ s ^^^ ones) = p ^^^ (q ^^^ q) ^^^ s ^^^ ones := by ac_rfl
  rw [this, BitVec.xor_self, BitVec.xor_zero]

/-- The product by a polynomial b of n bits. -/
def S : Nat → R → R → R
  | 0, _, _ => 0#40
  | n + 1, a, b => (if b.getLsbD 0 then a else 0#40) ^^^ S n (X a) (b >>> 1)
theorem S_left (n : Nat) (a a' b : R) : S n (a ^^^ a') b = S n a b ^^^ S n a' b := by
  induction n generalizing a a' b with
  | zero => simp [S]
  | succ n ih =>
    simp only [S, X_xor, ih]
    cases b.getLsbD 0 <;> simp <;> ac_rfl
theorem S_right (n : Nat) (a b b' : R) : S n a (b ^^^ b') = S n a b ^^^ S n a b' := by
  induction n generalizing a b b' with
  | zero => simp [S]
  | succ n ih =>
    simp only [S, BitVec.ushiftRight_xor_distrib, ih, BitVec.getLsbD_xor, ite_xor]
    ac_rfl
theorem S_X (a b : R) : S 40 a (X b) = X (S 40 a b) := by
  refine lin_ext (fun a => S 40 a (X b)) (fun a => X (S 40 a b)) (fun a a' => S_left _ _ _ _) (fun a a' => by simp only [S_left, X_xor]) (fun i hi => ?_) a
  refine lin_ext (fun b => S 40 (e i) (X b)) (fun b => X (S 40 (e i) b)) (fun b b' => by simp only [X_xor, S_right]) (fun b b' => by simp only [S_right, X_xor]) (fun j hj => ?_) b
  have : (List.range 40).all (fun i => (List.range 40).all (fun j => S 40 (e i) (X (e j)) == X (S 40 (e i) (e j)))) = true := by decide +kernel
  have h1 := of_range this i hi
  exact eq_of_beq (of_range h1 j hj)
theorem S_one (a : R) : S 40 a 1#40 = a := by
  refine lin_ext (fun a => S 40 a 1#40) id (fun a a' => S_left _ _ _ _) (fun _ _ => rfl) (fun i hi => ?_) a
  have : (List.range 40).all (fun i => S 40 (e i) 1#40 == id (e i)) = true := by decide +kernel
  exact eq_of_beq (of_range this i hi)
theorem S_Xn (m : Nat) (a : R) : S 40 a (Xn m 1#40) = Xn m a := by
  induction m with
  | zero => exact S_one a
  | succ m ih => rw [Xn_succ', Xn_succ', S_X, ih]

/-- X loses nothing. -/
def Y (r : R) : R := (r >>> 1) ^^^ (if r.getLsbD 0 then 0x8002410004#40 else 0#40)
theorem Y_xor (a b : R) : Y (a ^^^ b) = Y a ^^^ Y b := by
  unfold Y
  rw [BitVec.getLsbD_xor, ite_xor, BitVec.ushiftRight_xor_distrib]
  ac_rfl
theorem Y_X (r : R) : Y (X r) = r := by
  refine lin_ext (fun r => Y (X r)) id (fun a b => by simp only [X_xor, Y_xor]) (fun _ _ => rfl) (fun i hi => ?_) r
  have : (List.range 40).all (fun i => Y (X (e i)) == id (e i)) = true := by decide +kernel
  exact eq_of_beq (of_range this i hi)
theorem Xn_ne {n : Nat} {r : R} (h : r ≠ 0#40) : Xn n r ≠ 0#40 := by
  induction n generalizing r with
  | zero => exact h
  | succ n ih =>
    apply ih
    intro hx
    apply h
    have := Y_X r
    rw [hx] at this
    rw [← this]; decide

end Go.Proofs.YtaihfkcoiagdaabDoor.Hm

/-
  PLAIN FACTS, OF NO PROGRAM: Go's words of 64 and 32 bits as bit vectors.
-/
namespace Go.Proofs.YtaihfkcoiagdaabDoor
open Go.RowKit

def q64 (A : BitVec 64) : Int := (A.toNat : Int)
def q40 (A : BitVec 40) : Int := (A.toNat : Int)
def q32 (A : BitVec 32) : Int := (A.toNat : Int)
def q8 (A : BitVec 8) : Int := (A.toNat : Int)

theorem q64_bd (A : BitVec 64) : 0 ≤ q64 A ∧ q64 A < 18446744073709551616 := by
  have := A.isLt; unfold q64; omega
theorem q40_bd (A : BitVec 40) : 0 ≤ q40 A ∧ q40 A < 1099511627776 := by
  have := A.isLt; unfold q40; omega
theorem q32_bd (A : BitVec 32) : 0 ≤ q32 A ∧ q32 A < 4294967296 := by
  have := A.isLt; unfold q32; omega
theorem q8_bd (A : BitVec 8) : 0 ≤ q8 A ∧ q8 A < 256 := by
  have := A.isLt; unfold q8; omega
theorem q40_64 (A : BitVec 40) : q40 A = q64 (A.setWidth 64) := by
  unfold q40 q64; rw [BitVec.toNat_setWidth, Nat.mod_eq_of_lt (Nat.lt_trans A.isLt (by decide))]
theorem q40_inj {A B : BitVec 40} (h : q40 A = q40 B) : A = B := BitVec.eq_of_toNat_eq (by unfold q40 at h; omega)
theorem q32_inj {A B : BitVec 32} (h : q32 A = q32 B) : A = B := BitVec.eq_of_toNat_eq (by unfold q32 at h; omega)
theorem q8_64 (A : BitVec 8) : q8 A = q64 (A.setWidth 64) := by
  unfold q8 q64; rw [BitVec.toNat_setWidth, Nat.mod_eq_of_lt (Nat.lt_trans A.isLt (by decide))]
theorem q8_32 (A : BitVec 8) : q8 A = q32 (A.setWidth 32) := by
  unfold q8 q32; rw [BitVec.toNat_setWidth, Nat.mod_eq_of_lt (Nat.lt_trans A.isLt (by decide))]

theorem and_xor {n : Nat} (a b m : BitVec n) : (a ^^^ b) &&& m = (a &&& m) ^^^ (b &&& m) := by
  apply BitVec.eq_of_getLsbD_eq
  intro i hi
  simp only [BitVec.getLsbD_and, BitVec.getLsbD_xor]
  cases a.getLsbD i <;> cases b.getLsbD i <;> cases m.getLsbD i <;> rfl

/-- The byte of an integer. -/
def ob (x : Int) : BitVec 8 := BitVec.ofInt 8 x
theorem q8_ob {x : Int} (h : 0 ≤ x ∧ x < 256) : q8 (ob x) = x := by
  unfold q8 ob; rw [BitVec.toNat_ofInt]
  show (((x % 256).toNat : Nat) : Int) = x
  omega
theorem ob_q8 (A : BitVec 8) : ob (q8 A) = A := BitVec.eq_of_toNat_eq (by
  have := A.isLt
  unfold q8 ob; rw [BitVec.toNat_ofInt]
  show ((A.toNat : Int) % 256).toNat = _
  omega)

theorem xor64 (A B : BitVec 64) : bits .xor .u64 (q64 A) (q64 B) = q64 (A ^^^ B) := by
  unfold q64; rw [BitVec.toNat_xor]; exact bits_xor_u64_nat _ _ A.isLt B.isLt
theorem and64 (A B : BitVec 64) : bits .and .u64 (q64 A) (q64 B) = q64 (A &&& B) := by
  unfold q64; rw [BitVec.toNat_and]; exact bits_and_u64_nat _ _ A.isLt B.isLt
theorem shl64 (A : BitVec 64) (k : Nat) (m : Int) (h : m = ((2 ^ k : Nat) : Int)) : IntKind.u64.wrap (q64 A * m) = q64 (A <<< k) := by
  rw [IntKind.wrap_u64, h]
  unfold q64
  rw [BitVec.toNat_shiftLeft, Nat.shiftLeft_eq, ← Int.natCast_mul]
  omega
theorem shr64 (A : BitVec 64) (k : Nat) (m : Int) (h : m = ((2 ^ k : Nat) : Int)) : q64 A / m = q64 (A >>> k) := by
  rw [h]
  unfold q64
  rw [BitVec.toNat_ushiftRight, Nat.shiftRight_eq_div_pow]
  rfl
theorem add64 (A B : BitVec 64) : IntKind.u64.wrap (q64 A + q64 B) = q64 (A + B) := by
  rw [IntKind.wrap_u64]; unfold q64; rw [BitVec.toNat_add]; omega

theorem of32 (A : BitVec 32) : BitVec.ofInt 32 (q32 A) = A := by
  unfold q32; rw [BitVec.ofInt_natCast]; exact BitVec.eq_of_toNat_eq (by simp)
theorem wrap32 (A : BitVec 32) : IntKind.u32.wrap (A.toNat : Int) = q32 A := by
  have := A.isLt
  rw [IntKind.wrap_u32]; unfold q32; omega
theorem xor32 (A B : BitVec 32) : bits .xor .u32 (q32 A) (q32 B) = q32 (A ^^^ B) := by
  show IntKind.u32.wrap ((BitVec.ofInt 32 (q32 A) ^^^ BitVec.ofInt 32 (q32 B)).toNat : Int) = _
  rw [of32, of32, wrap32]
theorem and32 (A B : BitVec 32) : bits .and .u32 (q32 A) (q32 B) = q32 (A &&& B) := by
  show IntKind.u32.wrap ((BitVec.ofInt 32 (q32 A) &&& BitVec.ofInt 32 (q32 B)).toNat : Int) = _
  rw [of32, of32, wrap32]
theorem or32 (A B : BitVec 32) : bits .or .u32 (q32 A) (q32 B) = q32 (A ||| B) := by
  show IntKind.u32.wrap ((BitVec.ofInt 32 (q32 A) ||| BitVec.ofInt 32 (q32 B)).toNat : Int) = _
  rw [of32, of32, wrap32]
theorem add32 (A B : BitVec 32) : IntKind.u32.wrap (q32 A + q32 B) = q32 (A + B) := by
  rw [IntKind.wrap_u32]; unfold q32; rw [BitVec.toNat_add]; omega
theorem shl32 (A : BitVec 32) (k : Nat) (m : Int) (h : m = ((2 ^ k : Nat) : Int)) : IntKind.u32.wrap (q32 A * m) = q32 (A <<< k) := by
  rw [IntKind.wrap_u32, h]
  unfold q32
  rw [BitVec.toNat_shiftLeft, Nat.shiftLeft_eq, ← Int.natCast_mul]
  omega
theorem shr32 (A : BitVec 32) (k : Nat) (m : Int) (h : m = ((2 ^ k : Nat) : Int)) : q32 A / m = q32 (A >>> k) := by
  rw [h]
  unfold q32
  rw [BitVec.toNat_ushiftRight, Nat.shiftRight_eq_div_pow]
  rfl
theorem not32 (A : BitVec 32) : bits .xor .u32 (q32 A) 4294967295 = q32 (~~~A) := by
  have e : (4294967295 : Int) = q32 (BitVec.allOnes 32) := by decide
  rw [e, xor32, BitVec.xor_allOnes]
theorem not32' (A : BitVec 32) : bits .xor .u32 4294967295 (q32 A) = q32 (~~~A) := by
  have e : (4294967295 : Int) = q32 (BitVec.allOnes 32) := by decide
  rw [e, xor32, BitVec.allOnes_xor]

theorem of8 (A : BitVec 8) : BitVec.ofInt 8 (q8 A) = A := by
  unfold q8; rw [BitVec.ofInt_natCast]; exact BitVec.eq_of_toNat_eq (by simp)
theorem wrap8 (A : BitVec 8) : IntKind.u8.wrap (A.toNat : Int) = q8 A := by
  have := A.isLt
  rw [IntKind.wrap_u8]; unfold q8; omega
theorem xor8 (A B : BitVec 8) : bits .xor .u8 (q8 A) (q8 B) = q8 (A ^^^ B) := by
  show IntKind.u8.wrap ((BitVec.ofInt 8 (q8 A) ^^^ BitVec.ofInt 8 (q8 B)).toNat : Int) = _
  rw [of8, of8, wrap8]

/-- hash.shift, on words of 64 bits. -/
def shift64 (A C : BitVec 64) : BitVec 64 :=
  ((A <<< 8) &&& 1099511627775#64) ^^^ (((A >>> 32) ^^^ C) <<< 26) ^^^ (((A >>> 32) ^^^ C) <<< 23) ^^^ (((A >>> 32) ^^^ C) <<< 17) ^^^ (((A >>> 32) ^^^ C) <<< 3) ^^^ ((A >>> 32) ^^^ C)
theorem shift64_xor (A B C D : BitVec 64) : shift64 (A ^^^ B) (C ^^^ D) = shift64 A C ^^^ shift64 B D := by
  have hand : ((A ^^^ B) <<< 8) &&& 1099511627775#64 = ((A <<< 8) &&& 1099511627775#64) ^^^ ((B <<< 8) &&& 1099511627775#64) := by
    rw [BitVec.shiftLeft_xor_distrib, and_xor]
  have hf : ((A ^^^ B) >>> 32) ^^^ (C ^^^ D) = ((A >>> 32) ^^^ C) ^^^ ((B >>> 32) ^^^ D) := by
    rw [BitVec.ushiftRight_xor_distrib]
    generalize A >>> 32 = a; generalize B >>> 32 = b
    ac_rfl
  unfold shift64
  rw [hand, hf]
  generalize (A >>> 32) ^^^ C = f
  generalize (B >>> 32) ^^^ D = g
  simp only [BitVec.shiftLeft_xor_distrib]
  generalize (A <<< 8) &&& 1099511627775#64 = a0; generalize (B <<< 8) &&& 1099511627775#64 = b0
  generalize f <<< 26 = f1; generalize f <<< 23 = f2; generalize f <<< 17 = f3; generalize f <<< 3 = f4
  generalize g <<< 26 = g1; generalize g <<< 23 = g2; generalize g <<< 17 = g3; generalize g <<< 3 = g4
  ac_rfl
theorem shift64_is (r : Hm.R) (c : BitVec 8) : shift64 (r.setWidth 64) (c.setWidth 64) = (Hm.byte r c).setWidth 64 := by
  have h1 : shift64 (r.setWidth 64) 0#64 = (Hm.Xn 8 r).setWidth 64 := by
    refine Hm.lin_ext (fun r => shift64 (r.setWidth 64) 0#64) (fun r => (Hm.Xn 8 r).setWidth 64) (fun a b => ?_) (fun a b => ?_) (fun i hi => ?_) r
    · have := shift64_xor (a.setWidth 64) (b.setWidth 64) 0#64 0#64
      rw [BitVec.xor_self] at this
      simp only [BitVec.setWidth_xor, this]
    · simp only [Hm.Xn_xor, BitVec.setWidth_xor]
    · have : (List.range 40).all (fun i => shift64 ((Hm.e i).setWidth 64) 0#64 == (Hm.Xn 8 (Hm.e i)).setWidth 64) = true := by decide +kernel
      exact eq_of_beq (Hm.of_range this i hi)
  have h2 : ∀ c : BitVec 8, shift64 0#64 (c.setWidth 64) = (Hm.Xn 8 (Hm.byteAt c)).setWidth 64 := by decide +kernel
  have h3 := shift64_xor (r.setWidth 64) 0#64 0#64 (c.setWidth 64)
  rw [BitVec.xor_zero, BitVec.zero_xor] at h3
  rw [h3, h1, h2]
  unfold Hm.byte
  rw [Hm.Xn_xor, BitVec.setWidth_xor]

/-- The reference's step, on words of 64 bits. -/
def step64 (A C : BitVec 64) : BitVec 64 :=
  if ((A >>> 39) &&& 1#64) ^^^ C = 1#64 then ((A <<< 1) &&& 1099511627775#64) ^^^ 75628553#64 else (A <<< 1) &&& 1099511627775#64
def bv1 (b : Bool) : BitVec 64 := if b then 1#64 else 0#64
theorem top64 (r : Hm.R) : ((r.setWidth 64) >>> 39) &&& 1#64 = bv1 (r.getLsbD 39) := by
  refine Hm.lin_ext (fun r => ((r.setWidth 64) >>> 39) &&& 1#64) (fun r => bv1 (r.getLsbD 39)) (fun a b => ?_) (fun a b => ?_) (fun i hi => ?_) r
  · show (BitVec.setWidth 64 (a ^^^ b) >>> 39) &&& 1#64 = _
    rw [BitVec.setWidth_xor, BitVec.ushiftRight_xor_distrib, and_xor]
  · show bv1 ((a ^^^ b).getLsbD 39) = _
    rw [BitVec.getLsbD_xor]; unfold bv1; rw [Hm.ite_xor]
  · have : (List.range 40).all (fun i => (((Hm.e i).setWidth 64) >>> 39) &&& 1#64 == bv1 ((Hm.e i).getLsbD 39)) = true := by decide +kernel
    exact eq_of_beq (Hm.of_range this i hi)
theorem low64 (r : Hm.R) : ((r.setWidth 64) <<< 1) &&& 1099511627775#64 = (r <<< 1).setWidth 64 := by
  refine Hm.lin_ext (fun r => ((r.setWidth 64) <<< 1) &&& 1099511627775#64) (fun r => (r <<< 1).setWidth 64) (fun a b => ?_) (fun a b => ?_) (fun i hi => ?_) r
  · show (BitVec.setWidth 64 (a ^^^ b) <<< 1) &&& 1099511627775#64 = _
    rw [BitVec.setWidth_xor, BitVec.shiftLeft_xor_distrib, and_xor]
  · show BitVec.setWidth 64 ((a ^^^ b) <<< 1) = _
    rw [BitVec.shiftLeft_xor_distrib, BitVec.setWidth_xor]
  · have : (List.range 40).all (fun i => (((Hm.e i).setWidth 64) <<< 1) &&& 1099511627775#64 == ((Hm.e i) <<< 1).setWidth 64) = true := by decide +kernel
    exact eq_of_beq (Hm.of_range this i hi)
theorem step64_is (r : Hm.R) (b : Bool) : step64 (r.setWidth 64) (bv1 b) = (Hm.bit r b).setWidth 64 := by
  unfold step64
  rw [top64, low64]
  have hb : Hm.bit r b = (r <<< 1) ^^^ (if (r.getLsbD 39 ^^ b) then 0x0004820009#40 else 0#40) := by
    unfold Hm.bit
    rw [Hm.X_xor, Hm.ite_xor]
    unfold Hm.X
    cases b <;> simp [BitVec.xor_assoc] <;> rfl
  rw [hb]
  cases r.getLsbD 39 <;> cases b <;> simp [bv1, BitVec.setWidth_xor]
end Go.Proofs.YtaihfkcoiagdaabDoor

/-
  WORDS FOR MEMORY, OF NO PROGRAM: a block that is known whole, and what a store makes of it.
-/
namespace Go.Proofs.YtaihfkcoiagdaabDoor
open Go.RowKit

/-- THE BLOCK B HOLDS THE CELLS cs, and may be written. -/
def Blk (w : World) (B : Nat) (t : TypeId) (cs : List Value) : Prop := w.heap[B]? = some (.cells cs.toArray t (0, 0))

section
variable {w w' : World} {B : Nat} {t : TypeId} {cs : List Value}
theorem Blk.new (w : World) (t : TypeId) (c : Array Value) (cs : List Value) (h : c = cs.toArray) : Blk (w.alloc (.cells c t)) w.heap.size t cs := by
  subst h; exact heap_alloc_new w _
theorem Blk.lt (h : Blk w B t cs) : B < w.heap.size := by
  rcases Nat.lt_or_ge B w.heap.size with h1 | h1
  · exact h1
  · unfold Blk at h; rw [Array.getElem?_eq_none h1] at h; cases h
theorem Blk.cell (h : Blk w B t cs) {j : Nat} {v : Value} (hj : cs[j]? = some v) : w.cell? ⟨B, j, none⟩ = some v := by
  unfold World.cell?
  rw [show w.heap[B]? = _ from h]
  simpa using hj
theorem Blk.there1 (h : Blk w B t cs) {j : Nat} (hj : j < cs.length) : (w.cell? ⟨B, j, none⟩).isSome = true := by
  rw [h.cell (List.getElem?_eq_getElem hj)]; rfl
theorem Blk.frz (h : Blk w B t cs) (j : Nat) : w.frozen? ⟨B, j, none⟩ = false := frozen_of_row w B j _ t h
theorem Blk.set (h : Blk w B t cs) (j : Nat) (v : Value) : Blk (w.setCell ⟨B, j, none⟩ v) B t (cs.set j v) := by
  have := heap_setCell_same w B j cs.toArray t v h
  unfold Blk
  rw [this]
  congr 2
  simp
theorem Blk.set_other (h : Blk w B t cs) (a : Addr) (v : Value) (hne : B ≠ a.block) : Blk (w.setCell a v) B t cs := by
  unfold Blk
  rw [heap_setCell_other w a B v hne]; exact h
theorem Blk.alloc (h : Blk w B t cs) (o : Obj) : Blk (w.alloc o) B t cs := by
  unfold Blk
  rw [Below.heap_alloc w o B h.lt]; exact h
theorem Blk.drew (h : Blk w B t cs) : Blk w.drew B t cs := h
theorem Blk.later {B' : Nat} (h : Blk w B t cs) (hb : Below B' w w') (hB : B < B') : Blk w' B t cs := by
  unfold Blk
  rw [hb.block B hB]; exact h
theorem Blk.keep (h : Blk w B t cs) (hb : Later w w') : Blk w' B t cs := h.later hb h.lt
theorem Blk.sets (h : Blk w B t cs) (o : Nat) (vs : List Value) (hl : o + vs.length ≤ cs.length) : Blk (w.setCells B o vs) B t (cs.take o ++ vs ++ cs.drop (o + vs.length)) := by
  induction vs generalizing w cs o with
  | nil => simpa [World.setCells] using h
  | cons v r ih =>
    have h1 := h.set o v
    have h2 := ih h1 (o + 1) (by simp at hl ⊢; omega)
    simp only [World.setCells]
    have e : (cs.set o v).take (o + 1) ++ r ++ (cs.set o v).drop (o + 1 + r.length) = cs.take o ++ (v :: r) ++ cs.drop (o + (v :: r).length) := by
      simp only [List.length_cons] at hl ⊢
      rw [List.take_set, List.drop_set_of_lt (by omega), show o + (r.length + 1) = o + 1 + r.length by omega]
      have e2 : (cs.take (o + 1)).set o v = cs.take o ++ [v] := by
        rw [List.take_succ_eq_append_getElem (by omega), List.set_append_right _ _ (by rw [List.length_take]; omega)]
        rw [List.length_take, Nat.min_eq_left (by omega), Nat.sub_self]
        rfl
      rw [e2]
      simp
    rw [e] at h2
    exact h2
theorem Below.setCells {B' : Nat} {a : World} (h : Below B' a w) {b : Nat} (hb : B' ≤ b) (o : Nat) (vs : List Value) : Below B' a (w.setCells b o vs) := by
  induction vs generalizing w o with
  | nil => exact h
  | cons v r ih => exact ih (h.setCell hb v) (o + 1)
theorem Blk.range (h : Blk w B t cs) (o n : Nat) : w.rangeAt B o ((cs.drop o).take n) := fun j v hv => by
  apply h.cell
  rw [List.getElem?_take] at hv
  split at hv
  · rwa [List.getElem?_drop] at hv
  · cases hv
theorem Blk.there (h : Blk w B t cs) (o n : Nat) (hl : o + n ≤ cs.length) : w.there B o n := fun j hj => ⟨h.there1 (by omega), h.frz _⟩
/-- A block as a slice. -/
theorem Blk.sl (h : Blk w B t cs) (o n : Nat) (hl : o + n ≤ cs.length) : Sl w 1 (Option.some ⟨B, o, none⟩) n ((cs.drop o).take n) := by
  refine ⟨by rw [List.length_take, List.length_drop]; omega, fun _ => ⟨_, rfl, h.lt, fun j u hu => ?_⟩⟩
  rw [Addr.add_mid]
  exact h.range o n j u hu
end


theorem Blk.new' (w : World) (B : Nat) (t : TypeId) (c : Array Value) (cs : List Value) (hB : w.heap.size = B) (h : c = cs.toArray) : Blk (w.alloc (.cells c t)) B t cs := by
  subst hB; exact Blk.new w t c cs h
theorem Blk.row {w : World} {B : Nat} {t : TypeId} {cs : List Value} (h : Blk w B t cs) (vs : List Value) : Blk (w.setRow B vs.toArray) B t vs := setRow_heap w B _ _ _ _ h
theorem Blk.row_other {w : World} {B : Nat} {t : TypeId} {cs : List Value} (h : Blk w B t cs) (g : Nat) (vs : Array Value) (hne : B ≠ g) : Blk (w.setRow g vs) B t cs := by
  unfold Blk; rw [setRow_other w g B vs hne]; exact h

theorem wpList_load_blk {P : Program} {ops : Array Oper} {rest : List Oper} {o : Oper} {a : Act} {w : World} {Q : Exit → Act → World → Prop} (hgd : o.guard = none) (ty : TypeId) (x : Operand) (ho : o.op = .load ty x)
    (g : Nat) (t : TypeId) (cs : List Value) (d : TypeDesc) (hx : a.eval x = .pointer (some ⟨g, 0, none⟩)) (hg : Blk w g t cs)
    (hu : P.underlying ty = some d) (hd : (match d with | .struct _ | .array _ _ => true | _ => false) = true) (hi : (P.info? ty).map (·.size) = some cs.length)
    (h : wpList P ops Q rest (a.put o.dst (.agg cs.toArray)) w) : wpList P ops Q (o :: rest) a w :=
  wpList_load_row hgd ty x ho g hx t cs.toArray (0, 0) d hg hu hd (by rw [List.size_toArray]; exact hi) h

theorem wpList_store_blk {P : Program} {ops : Array Oper} {rest : List Oper} {o : Oper} {a : Act} {w : World} {Q : Exit → Act → World → Prop} (hgd : o.guard = none) (ty : TypeId) (x y : Operand) (ho : o.op = .store ty x y)
    (g : Nat) (t : TypeId) (old cs : List Value) (hx : a.eval x = .pointer (some ⟨g, 0, none⟩)) (hy : a.eval y = .agg cs.toArray) (hg : Blk w g t old)
    (hi : (P.info? ty).map (·.size) = some cs.length) (hold : old.length = cs.length) (h1 : ∀ v ∈ cs, v.oneCell' = true)
    (h : wpList P ops Q rest (a.put o.dst undef) (w.setRow g cs.toArray)) : wpList P ops Q (o :: rest) a w :=
  wpList_store_row hgd ty x y ho g cs.toArray hx hy t old.toArray hg (by rw [List.size_toArray]; exact hi) (by simpa using hold) (all_oneCell_toArray h1) h

/-- w' is w, but for the block g. -/
def Only (g : Nat) (w w' : World) : Prop := w'.os = w.os ∧ w'.tape = w.tape ∧ w'.output = w.output ∧ w'.heap.size = w.heap.size ∧ ∀ k, k ≠ g → w'.heap[k]? = w.heap[k]?
theorem Only.row (w : World) (g : Nat) (cs : Array Value) : Only g w (w.setRow g cs) := ⟨rfl, rfl, rfl, by simp [World.setRow], fun k hk => setRow_other w g k cs hk⟩
theorem Blk.only {w w' : World} {B g : Nat} {t : TypeId} {cs : List Value} (h : Blk w B t cs) (ho : Only g w w') (hne : B ≠ g) : Blk w' B t cs := by
  unfold Blk; rw [ho.2.2.2.2 B hne]; exact h
theorem Below.only {a w w' : World} {B g : Nat} (h : Below B a w) (ho : Only g w w') (hg : B ≤ g) : Below B a w' :=
  h.trans ⟨ho.1, ho.2.1, ho.2.2.1, Nat.le_of_eq ho.2.2.2.1.symm, fun k hk => ho.2.2.2.2 k (by omega)⟩
theorem Only.size {w w' : World} {g : Nat} (ho : Only g w w') : w'.heap.size = w.heap.size := ho.2.2.2.1
theorem Only.set (w : World) (g j : Nat) (v : Value) : Only g w (w.setCell ⟨g, j, none⟩ v) := ⟨rfl, rfl, rfl, by simp, fun k hk => heap_setCell_other w ⟨g, j, none⟩ k v hk⟩
theorem Only.sets (w : World) (g o : Nat) (vs : List Value) : Only g w (w.setCells g o vs) := by
  induction vs generalizing w o with
  | nil => exact ⟨rfl, rfl, rfl, rfl, fun _ _ => rfl⟩
  | cons v r ih =>
    have h1 := Only.set w g o v
    have h2 := ih (w.setCell ⟨g, o, none⟩ v) (o + 1)
    exact ⟨h2.1.trans h1.1, h2.2.1.trans h1.2.1, h2.2.2.1.trans h1.2.2.1, h2.2.2.2.1.trans h1.2.2.2.1, fun k hk => (h2.2.2.2.2 k hk).trans (h1.2.2.2.2 k hk)⟩

theorem wpList_store_abs {P : Program} {ops : Array Oper} {rest : List Oper} {o : Oper} {a : Act} {w : World} {Q : Exit → Act → World → Prop} (hgd : o.guard = none) (ty : TypeId) (x y : Operand) (ho : o.op = .store ty x y)
    (g : Nat) (t : TypeId) (old cs : List Value) (hx : a.eval x = .pointer (some ⟨g, 0, none⟩)) (hy : a.eval y = .agg cs.toArray) (hg : Blk w g t old)
    (hi : (P.info? ty).map (·.size) = some cs.length) (hold : old.length = cs.length) (h1 : ∀ v ∈ cs, v.oneCell' = true)
    (h : ∀ w', Blk w' g t cs → Only g w w' → wpList P ops Q rest (a.put o.dst undef) w') : wpList P ops Q (o :: rest) a w :=
  wpList_store_blk hgd ty x y ho g t old cs hx hy hg hi hold h1 (h _ (hg.row cs) (Only.row _ _ _))

/-- A store of an array into the midst of a block. -/
theorem wpList_store_at {P : Program} {ops : Array Oper} {rest : List Oper} {o : Oper} {a : Act} {w : World} {Q : Exit → Act → World → Prop} (hgd : o.guard = none) (ty : TypeId) (x y : Operand) (ho : o.op = .store ty x y) (hdn : o.dst = none)
    (g off : Nat) (t : TypeId) (old cs : List Value) (hx : a.eval x = .pointer (some ⟨g, off, none⟩)) (hy : a.eval y = .agg cs.toArray) (hg : Blk w g t old)
    (hi : (P.info? ty).map (·.size) = some cs.length) (hold : off + cs.length ≤ old.length) (h1 : ∀ v ∈ cs, v.oneCell' = true)
    (h : ∀ w', Blk w' g t (old.take off ++ cs ++ old.drop (off + cs.length)) → Only g w w' → wpList P ops Q rest a w') : wpList P ops Q (o :: rest) a w := by
  refine wpList_store_mid hgd ty x y ho g off cs.toArray hx hy (hg.there off _ (by simpa using hold)) (by rw [List.size_toArray]; exact hi) (all_oneCell_toArray h1) ?_
  rw [hdn]
  exact h _ (hg.sets off cs hold) (Only.sets _ _ _ _)
/-- A load of an array out of the midst of a block. -/
theorem wpList_load_at {P : Program} {ops : Array Oper} {rest : List Oper} {o : Oper} {a : Act} {w : World} {Q : Exit → Act → World → Prop} (hgd : o.guard = none) (ty : TypeId) (x : Operand) (ho : o.op = .load ty x)
    (g off n : Nat) (t : TypeId) (all cs : List Value) (d : TypeDesc) (hx : a.eval x = .pointer (some ⟨g, off, none⟩)) (hg : Blk w g t all) (hcs : (all.drop off).take n = cs)
    (hu : P.underlying ty = some d) (hd : d.isRow = true) (hi : (P.info? ty).map (·.size) = some cs.length)
    (h : wpList P ops Q rest (a.put o.dst (.agg cs.toArray)) w) : wpList P ops Q (o :: rest) a w :=
  wpList_load_mid hgd ty x ho g off hx cs d (by rw [← hcs]; exact hg.range off n) hu hd hi h

theorem results_blk {P : Program} {fn : Func} {p : Tmp} {ty : TypeId} (h : fn.results = #[.cell p ty]) (tmps : Array Value) (w : World) (g : Nat) (t : TypeId) (cs : List Value) (d : TypeDesc)
    (hp : tmps.getD p undef = .pointer (some ⟨g, 0, none⟩)) (hg : Blk w g t cs)
    (hu : P.underlying ty = some d) (hd : (match d with | .struct _ | .array _ _ => true | _ => false) = true) (hi : (P.info? ty).map (·.size) = some cs.length) :
    (results fn tmps).run P w = .ok (.agg cs.toArray) w :=
  results_cell_row h tmps w g t cs.toArray (0, 0) d hp hg hu hd (by rw [List.size_toArray]; exact hi)

end Go.Proofs.YtaihfkcoiagdaabDoor
