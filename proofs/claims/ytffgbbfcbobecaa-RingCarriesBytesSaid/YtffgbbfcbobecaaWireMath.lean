/-
  PLAIN FACTS, OF NO PROGRAM: the encoding of integers in base 128, and of lists, as functions on lists of bytes; decoding what was encoded gives it back; what is decoded was encoded; a proper beginning is cut off.
-/
import Derived.Laws.BytesArg
namespace Go.Proofs.Ytffgbbfcbobecaa.Wm

abbrev Bs := List Int
def isBs (b : Bs) : Prop := ∀ x ∈ b, 0 ≤ x ∧ x < 256

def zig (n : Int) : Nat := if 0 ≤ n then (2 * n).toNat else (-2 * n - 1).toNat
def zag (z : Nat) : Int := if z % 2 = 1 then -1 - ((z / 2 : Nat) : Int) else ((z / 2 : Nat) : Int)

theorem zag_zig (n : Int) : zag (zig n) = n := by
  unfold zag zig
  by_cases h : 0 ≤ n
  · rw [if_pos h, if_neg (by omega)]; omega
  · rw [if_neg h, if_pos (by omega)]; omega
theorem zig_zag (z : Nat) : zig (zag z) = z := by
  unfold zag zig
  by_cases h : z % 2 = 1
  · rw [if_pos h, if_neg (by omega)]; omega
  · rw [if_neg h, if_pos (by omega)]; omega
theorem zig_lt {n : Int} (h1 : -9223372036854775808 ≤ n) (h2 : n ≤ 9223372036854775807) : zig n < 18446744073709551616 := by
  unfold zig; split <;> omega
theorem zag_range {z : Nat} (h : z < 18446744073709551616) : -9223372036854775808 ≤ zag z ∧ zag z ≤ 9223372036854775807 := by
  unfold zag; split <;> omega

/-- THE ENCODING OF A NUMBER: base 128, the least first; every digit but the last bears 128. -/
def encN (z : Nat) : Bs := if h : z < 128 then [(z : Int)] else ((z % 128 + 128 : Nat) : Int) :: encN (z / 128)
termination_by z
decreasing_by omega

theorem encN_small {z : Nat} (h : z < 128) : encN z = [(z : Int)] := by rw [encN, dif_pos h]
theorem encN_big {z : Nat} (h : 128 ≤ z) : encN z = ((z % 128 + 128 : Nat) : Int) :: encN (z / 128) := by rw [encN, dif_neg (by omega)]
theorem encN_pos (z : Nat) : 1 ≤ (encN z).length := by
  by_cases h : z < 128
  · rw [encN_small h]; simp
  · rw [encN_big (by omega)]; simp

theorem encN_ind {P : Nat → Prop} (hs : ∀ z, z < 128 → P z) (hb : ∀ z, 128 ≤ z → P (z / 128) → P z) (z : Nat) : P z := by
  induction z using Nat.strongRecOn with
  | _ z ih =>
    by_cases h : z < 128
    · exact hs z h
    · exact hb z (by omega) (ih _ (by omega))

theorem encN_bytes (z : Nat) : isBs (encN z) := by
  refine encN_ind (P := fun z => isBs (encN z)) (fun z h x hx => ?_) (fun z h ih x hx => ?_) z
  · rw [encN_small h] at hx; simp at hx; omega
  · rw [encN_big h] at hx
    rcases List.mem_cons.1 hx with rfl | hx
    · omega
    · exact ih x hx

theorem encN_len (k : Nat) : ∀ z, z < 128 ^ (k + 1) → (encN z).length ≤ k + 1 := by
  induction k with
  | zero => intro z h; rw [encN_small (by simpa using h)]; simp
  | succ k ih =>
    intro z h
    by_cases hz : z < 128
    · rw [encN_small hz]; simp
    · rw [encN_big (by omega), List.length_cons]
      have := ih (z / 128) (by rw [Nat.pow_succ] at h; exact Nat.div_lt_of_lt_mul (by rw [Nat.mul_comm]; exact h))
      omega
theorem encN_len10 {z : Nat} (h : z < 18446744073709551616) : (encN z).length ≤ 10 := encN_len 9 z (Nat.lt_of_lt_of_le h (by decide))
theorem encN_one (z : Nat) : (encN z).length = 1 ↔ z < 128 := by
  constructor
  · intro h
    rcases Nat.lt_or_ge z 128 with hz | hz
    · exact hz
    · rw [encN_big hz, List.length_cons] at h; have := encN_pos (z / 128); omega
  · intro h; rw [encN_small h]; rfl
theorem encN_mono (a : Nat) : ∀ b, a ≤ b → (encN a).length ≤ (encN b).length := by
  refine encN_ind (P := fun a => ∀ b, a ≤ b → (encN a).length ≤ (encN b).length) (fun z h b _ => ?_) (fun z h ih b hb => ?_) a
  · rw [encN_small h]; exact encN_pos b
  · rw [encN_big h, encN_big (z := b) (by omega), List.length_cons, List.length_cons]
    have := ih (b / 128) (by omega)
    omega

/-- HOW MANY BYTES OF AT LEAST 128 STAND AHEAD, at most f of them. -/
def lead : Nat → Bs → Nat
  | 0, _ => 0
  | _ + 1, [] => 0
  | f + 1, b :: r => if 128 ≤ b then lead f r + 1 else 0
/-- THE NUMBER THAT THE FIRST k BYTES GIVE. -/
def low : Nat → Bs → Nat
  | 0, _ => 0
  | _ + 1, [] => 0
  | k + 1, b :: r => (b % 128).toNat + 128 * low k r

theorem lead_le (f : Nat) : ∀ b, lead f b ≤ f := by
  induction f with
  | zero => intro b; simp [lead]
  | succ f ih =>
    intro b
    cases b with
    | nil => simp [lead]
    | cons b r => unfold lead; have := ih r; split <;> omega
theorem lead_len (f : Nat) : ∀ b, lead f b ≤ b.length := by
  induction f with
  | zero => intro b; simp [lead]
  | succ f ih =>
    intro b
    cases b with
    | nil => simp [lead]
    | cons b r => unfold lead; have := ih r; simp only [List.length_cons]; split <;> omega

theorem low_lt (k : Nat) : ∀ b, low k b < 128 ^ k := by
  induction k with
  | zero => intro b; simp [low]
  | succ k ih =>
    intro b
    have h0 : 0 < 128 ^ k := Nat.pow_pos (by decide)
    cases b with
    | nil => simp only [low, Nat.pow_succ]; omega
    | cons b r => have := ih r; simp only [low, Nat.pow_succ]; omega

/-- ONE BYTE MORE AT THE TOP. -/
theorem low_snoc (k : Nat) : ∀ b, k < b.length → low (k + 1) b = low k b + 128 ^ k * (b.getD k 0 % 128).toNat := by
  induction k with
  | zero =>
    intro b h
    match b, h with
    | b :: r, _ => simp [low]
  | succ k ih =>
    intro b h
    match b, h with
    | b :: r, h =>
      have h' := ih r (by simpa using h)
      show (b % 128).toNat + 128 * low (k + 1) r = (b % 128).toNat + 128 * low k r + 128 ^ (k + 1) * _
      rw [h', Nat.pow_succ]
      simp only [List.getD_cons_succ]
      rw [Nat.mul_add, ← Nat.add_assoc, ← Nat.mul_assoc, Nat.mul_comm 128 (128 ^ k)]

/-- ONE BYTE MORE AT THE FOOT: as 'z = z * 128 + b' reads it. -/
theorem low_drop (k : Nat) (b : Bs) (i : Nat) (h : i < b.length) : low (k + 1) (b.drop i) = (b.getD i 0 % 128).toNat + 128 * low k (b.drop (i + 1)) := by
  rw [List.drop_eq_getElem_cons h]
  show (b[i] % 128).toNat + 128 * low k (b.drop (i + 1)) = _
  rw [List.getD_eq_getElem?_getD, List.getElem?_eq_getElem h]
  rfl

/-- WHAT GetInt ANSWERS. -/
def decI (b : Bs) : Int × Nat × Int :=
  if lead 10 b = 10 then (0, 0, 11)
  else if lead 10 b = b.length then (0, 0, 10)
  else if (lead 10 b = 9 ∧ 1 < b.getD 9 0) ∨ (0 < lead 10 b ∧ b.getD (lead 10 b) 0 = 0) then (0, 0, 11)
  else (zag (low (lead 10 b + 1) b), lead 10 b + 1, 0)

def encI (n : Int) : Bs := encN (zig n)

theorem getD_cons_pos (x : Int) (r : Bs) (k : Nat) (h : 0 < k) : (x :: r).getD k 0 = r.getD (k - 1) 0 := by
  obtain ⟨j, rfl⟩ : ∃ j, k = j + 1 := ⟨k - 1, by omega⟩
  simp

/-- WHAT AN ENCODING LOOKS LIKE: as many digits of at least 128 as it has bytes, but one; the last is less, and not 0 unless alone; the number is its own. -/
theorem encN_form (z : Nat) : ∀ (f : Nat) (t : Bs), (encN z).length ≤ f → lead f (encN z ++ t) + 1 = (encN z).length ∧ low (encN z).length (encN z ++ t) = z ∧
    (0 < lead f (encN z ++ t) → (encN z ++ t).getD (lead f (encN z ++ t)) 0 ≠ 0) := by
  refine encN_ind (P := fun z => ∀ (f : Nat) (t : Bs), (encN z).length ≤ f → lead f (encN z ++ t) + 1 = (encN z).length ∧ low (encN z).length (encN z ++ t) = z ∧
    (0 < lead f (encN z ++ t) → (encN z ++ t).getD (lead f (encN z ++ t)) 0 ≠ 0)) (fun z h f t hf => ?_) (fun z h ih f t hf => ?_) z
  · rw [encN_small h] at hf ⊢
    obtain ⟨g, rfl⟩ : ∃ g, f = g + 1 := ⟨f - 1, by simp at hf; omega⟩
    have hn : ¬ (128 : Int) ≤ (z : Int) := by omega
    refine ⟨by simp [lead, hn], ?_, by simp [lead, hn]⟩
    show ((z : Int) % 128).toNat + 128 * 0 = z
    omega
  · rw [encN_big h] at hf ⊢
    obtain ⟨g, rfl⟩ : ∃ g, f = g + 1 := ⟨f - 1, by simp at hf; omega⟩
    obtain ⟨h1, h2, h3⟩ := ih g t (by simpa using hf)
    have hp : (128 : Int) ≤ ((z % 128 + 128 : Nat) : Int) := by omega
    have e1 : lead (g + 1) (((z % 128 + 128 : Nat) : Int) :: encN (z / 128) ++ t) = lead g (encN (z / 128) ++ t) + 1 := by rw [List.cons_append]; simp only [lead, if_pos hp]
    rw [e1]
    refine ⟨by simp; omega, ?_, fun _ => ?_⟩
    · show (((z % 128 + 128 : Nat) : Int) % 128).toNat + 128 * low (encN (z / 128)).length (encN (z / 128) ++ t) = z
      rw [h2]; omega
    · rw [List.cons_append, getD_cons_pos _ _ _ (by omega), Nat.add_sub_cancel]
      rcases Nat.eq_zero_or_pos (lead g (encN (z / 128) ++ t)) with h0 | h0
      · rw [h0]
        by_cases hz : z / 128 < 128
        · rw [encN_small hz]; simp; omega
        · rw [encN_big (by omega)]; simp; omega
      · exact h3 h0

theorem low_top (z : Nat) (k : Nat) (b : Bs) (h : low (k + 1) b = z) (hk : k < b.length) : 128 ^ k * (b.getD k 0 % 128).toNat ≤ z := by
  rw [low_snoc k b hk] at h; omega

theorem last_lt (z : Nat) : ∀ k, k + 1 = (encN z).length → (encN z).getD k 0 < 128 := by
  refine encN_ind (P := fun z => ∀ k, k + 1 = (encN z).length → (encN z).getD k 0 < 128) (fun z h k hk => ?_) (fun z h ih k hk => ?_) z
  · rw [encN_small h] at hk ⊢
    obtain rfl : k = 0 := by simpa using hk
    simp; omega
  · rw [encN_big h] at hk ⊢
    have hp := encN_pos (z / 128)
    rw [List.length_cons] at hk
    rw [getD_cons_pos _ _ _ (by omega)]
    exact ih (k - 1) (by omega)

theorem decI_encI {n : Int} (h1 : -9223372036854775808 ≤ n) (h2 : n ≤ 9223372036854775807) (t : Bs) : decI (encI n ++ t) = (n, (encI n).length, 0) := by
  have hz := zig_lt h1 h2
  have hl := encN_len10 hz
  obtain ⟨f1, f2, f3⟩ := encN_form (zig n) 10 t hl
  have hp := encN_pos (zig n)
  have hle := List.length_append (as := encN (zig n)) (bs := t)
  have hle2 : (encI n ++ t).length = (encI n).length + t.length := List.length_append
  unfold encI at *
  unfold decI
  rw [if_neg (by omega), if_neg (by omega), if_neg]
  · rw [f1, f2, zag_zig]
  · rintro (⟨h9, hb⟩ | ⟨h0, hb⟩)
    · have ht := low_top (zig n) 9 (encN (zig n) ++ t) (by rw [show 9 + 1 = (encN (zig n)).length by omega]; exact f2) (by omega)
      have hb2 : (encN (zig n) ++ t).getD 9 0 < 128 := by
        have : (encN (zig n) ++ t).getD 9 0 = (encN (zig n)).getD 9 0 := by
          rw [List.getD_eq_getElem?_getD, List.getElem?_append_left (by omega), ← List.getD_eq_getElem?_getD]
        rw [this]
        clear this ht f2 f3 hb
        exact last_lt (zig n) 9 (by omega)
      omega
    · exact f3 h0 hb
/-- A PROPER BEGINNING OF AN ENCODING IS CUT OFF. -/
theorem lead_take (z : Nat) : ∀ (f i : Nat), (encN z).length ≤ f + 1 → i < (encN z).length → lead f ((encN z).take i) = i := by
  refine encN_ind (P := fun z => ∀ (f i : Nat), (encN z).length ≤ f + 1 → i < (encN z).length → lead f ((encN z).take i) = i) (fun z h f i _ hi => ?_) (fun z h ih f i hf hi => ?_) z
  · rw [encN_small h] at hi
    obtain rfl : i = 0 := by simpa using hi
    cases f <;> simp [lead]
  · rw [encN_big h] at hf hi ⊢
    rw [List.length_cons] at hf hi
    cases i with
    | zero => cases f <;> simp [lead]
    | succ i =>
      cases f with
      | zero => have := encN_pos (z / 128); omega
      | succ f =>
        have hp : (128 : Int) ≤ ((z % 128 + 128 : Nat) : Int) := by omega
        rw [List.take_succ_cons]
        simp only [lead, if_pos hp]
        rw [ih f i (by omega) (by omega)]
theorem decI_cut {n : Int} (h1 : -9223372036854775808 ≤ n) (h2 : n ≤ 9223372036854775807) {i : Nat} (hi : i < (encI n).length) : decI ((encI n).take i) = (0, 0, 10) := by
  have hl := encN_len10 (zig_lt h1 h2)
  unfold encI at *
  have h := lead_take (zig n) 10 i (by omega) hi
  unfold decI
  rw [h, if_neg (by omega), if_pos (by rw [List.length_take]; omega)]

/-- WHAT IS READ IS AN ENCODING: the digits, k of at least 128 and one less, not 0 unless alone, are those of their number. -/
theorem encN_low (k : Nat) : ∀ (b : Bs), isBs b → (∀ f, k ≤ f → lead f b = k ∨ f = k ∧ lead f b = k) → k < b.length → b.getD k 0 < 128 → (0 < k → b.getD k 0 ≠ 0) → encN (low (k + 1) b) = b.take (k + 1) := by
  induction k with
  | zero =>
    intro b hb _ hk hlt _
    match b, hk with
    | x :: r, _ =>
      have hx := hb x (by simp)
      have hx2 : x < 128 := by simpa using hlt
      have e : low (0 + 1) (x :: r) = x.toNat := by
        show (x % 128).toNat + 128 * low 0 r = _
        rw [low]; omega
      rw [e, encN_small (by omega)]
      simp; omega
  | succ k ih =>
    intro b hb hlead hk hlt hne
    match b, hk with
    | x :: r, hk =>
      have hx := hb x (by simp)
      have hx1 : 128 ≤ x := by
        rcases hlead (k + 1) (Nat.le_refl _) with h | ⟨_, h⟩
        all_goals
          unfold lead at h
          split at h
          · assumption
          · omega
      have hr : isBs r := fun y hy => hb y (List.mem_cons_of_mem _ hy)
      have hl2 : ∀ f, k ≤ f → lead f r = k ∨ f = k ∧ lead f r = k := fun f hf => by
        rcases hlead (f + 1) (by omega) with h | ⟨_, h⟩
        all_goals
          unfold lead at h
          rw [if_pos hx1] at h
          exact .inl (by omega)
      rw [getD_cons_pos _ _ _ (by omega), Nat.add_sub_cancel] at hlt hne
      have hk' : k < r.length := by simpa using hk
      have hpos : 0 < low (k + 1) r := by
        rw [low_snoc k r hk']
        have h0 : 0 < 128 ^ k := Nat.pow_pos (by decide)
        have hge : 0 ≤ r.getD k 0 := by
          rw [List.getD_eq_getElem?_getD, List.getElem?_eq_getElem hk']; exact (hr _ (List.getElem_mem hk')).1
        have hd : 0 < (r.getD k 0 % 128).toNat := by have := hne (by omega); omega
        have := Nat.mul_pos h0 hd
        omega
      have hi := ih r hr hl2 hk' hlt (fun _ => hne (by omega))
      have e : low (k + 1 + 1) (x :: r) = (x % 128).toNat + 128 * low (k + 1) r := rfl
      rw [e, encN_big (by omega), List.take_succ_cons]
      have d1 : ((x % 128).toNat + 128 * low (k + 1) r) % 128 = (x % 128).toNat := by omega
      have d2 : ((x % 128).toNat + 128 * low (k + 1) r) / 128 = low (k + 1) r := by omega
      rw [d1, d2, hi]
      congr 1
      omega

theorem lead_any (f : Nat) : ∀ (g : Nat) (b : Bs), lead f b < f → f ≤ g → lead g b = lead f b := by
  induction f with
  | zero => intro g b h; omega
  | succ f ih =>
    intro g b h hg
    obtain ⟨g, rfl⟩ : ∃ g', g = g' + 1 := ⟨g - 1, by omega⟩
    cases b with
    | nil => simp [lead]
    | cons b r =>
      unfold lead at h ⊢
      split at h
      · rename_i hb; rw [if_pos hb, if_pos hb, ih g r (by omega) (by omega)]
      · rename_i hb; rw [if_neg hb, if_neg hb]
theorem lead_less (f : Nat) : ∀ (g : Nat) (b : Bs), g ≤ lead f b → lead g b = g := by
  induction f with
  | zero => intro g b h; simp [lead] at h; subst h; simp [lead]
  | succ f ih =>
    intro g b h
    cases g with
    | zero => simp [lead]
    | succ g =>
      cases b with
      | nil => simp [lead] at h
      | cons b r =>
        unfold lead at h ⊢
        split at h
        · rename_i hb; rw [if_pos hb, ih g r (by omega)]
        · omega
theorem lead_stop (f : Nat) : ∀ (b : Bs), lead f b < f → lead f b < b.length → b.getD (lead f b) 0 < 128 := by
  induction f with
  | zero => intro b h; omega
  | succ f ih =>
    intro b h h2
    cases b with
    | nil => simp at h2
    | cons b r =>
      unfold lead at h h2 ⊢
      by_cases hb : 128 ≤ b
      · rw [if_pos hb] at h h2 ⊢
        rw [getD_cons_pos _ _ _ (by omega), Nat.add_sub_cancel]
        exact ih r (by omega) (by simpa using h2)
      · rw [if_neg hb]; simp; omega
/-- Ahead of that place every byte is at least 128. -/
theorem lead_ge (f : Nat) : ∀ (b : Bs) (i : Nat), i < lead f b → 128 ≤ b.getD i 0 := by
  induction f with
  | zero => intro b i h; simp [lead] at h
  | succ f ih =>
    intro b i h
    cases b with
    | nil => simp [lead] at h
    | cons b r =>
      unfold lead at h
      by_cases hb : 128 ≤ b
      · rw [if_pos hb] at h
        cases i with
        | zero => simpa using hb
        | succ i => rw [List.getD_cons_succ]; exact ih r i (by omega)
      · rw [if_neg hb] at h; omega
/-- THE PLACE BY ITS MARKS. -/
theorem lead_is (f : Nat) : ∀ (b : Bs) (k : Nat), (∀ i, i < k → 128 ≤ b.getD i 0) → k ≤ b.length → k ≤ f → (k = f ∨ k = b.length ∨ b.getD k 0 < 128) → lead f b = k := by
  induction f with
  | zero => intro b k _ _ h _; simp [lead]; omega
  | succ f ih =>
    intro b k h1 h2 h3 h4
    cases b with
    | nil => simp at h2; subst h2; simp [lead]
    | cons b r =>
      unfold lead
      cases k with
      | zero =>
        rcases h4 with h4 | h4 | h4
        · omega
        · simp at h4
        · rw [if_neg (by simp at h4; omega)]
      | succ k =>
        rw [if_pos (by simpa using h1 0 (by omega)), ih r k (fun i hi => by simpa using h1 (i + 1) (by omega)) (by simpa using h2) (by omega) ?_]
        rcases h4 with h4 | h4 | h4
        · exact .inl (by omega)
        · exact .inr (.inl (by simpa using h4))
        · exact .inr (.inr (by simpa using h4))

theorem low_cap {b : Bs} (hb : isBs b) {k : Nat} (hk : k < b.length) (h9 : k < 9 ∨ k = 9 ∧ b.getD 9 0 ≤ 1) : low (k + 1) b < 18446744073709551616 := by
  rcases h9 with h | ⟨rfl, h⟩
  · exact Nat.lt_of_lt_of_le (low_lt (k + 1) b) (Nat.le_trans (Nat.pow_le_pow_right (by decide) (show k + 1 ≤ 9 by omega)) (by decide))
  · rw [low_snoc 9 b hk]
    have h1 := low_lt 9 b
    have hge : 0 ≤ b.getD 9 0 := by
      rw [List.getD_eq_getElem?_getD, List.getElem?_eq_getElem hk]; exact (hb _ (List.getElem_mem hk)).1
    have h2 : (b.getD 9 0 % 128).toNat ≤ 1 := by omega
    have h3 := Nat.mul_le_mul_left (128 ^ 9) h2
    have e9 : (128 : Nat) ^ 9 = 9223372036854775808 := by decide
    rw [e9] at h1 h3 ⊢
    omega

/-- THE ANSWERS OF decI, ONE BY ONE. -/
theorem decI_ok {b : Bs} (hb : isBs b) {n : Int} {u : Nat} {e : Int} (h : decI b = (n, u, e)) : (e = 0 ∧ 1 ≤ u ∧ u ≤ 10 ∧ u ≤ b.length ∧ -9223372036854775808 ≤ n ∧ n ≤ 9223372036854775807 ∧ b.take u = encI n) ∨ (n = 0 ∧ u = 0 ∧ (e = 10 ∨ e = 11)) := by
  unfold decI at h
  split at h
  · cases h; exact .inr ⟨rfl, rfl, .inr rfl⟩
  split at h
  · cases h; exact .inr ⟨rfl, rfl, .inl rfl⟩
  split at h
  · cases h; exact .inr ⟨rfl, rfl, .inr rfl⟩
  rename_i g1 g2 g3
  have l1 := lead_le 10 b
  have l2 := lead_len 10 b
  have h9 : lead 10 b < 9 ∨ lead 10 b = 9 ∧ b.getD 9 0 ≤ 1 := by
    rcases Nat.lt_or_ge (lead 10 b) 9 with h | h
    · exact .inl h
    · refine .inr ⟨by omega, ?_⟩
      by_cases hg : 1 < b.getD 9 0
      · exact absurd (.inl ⟨by omega, hg⟩) g3
      · omega
  have hc := low_cap hb (show lead 10 b < b.length by omega) h9
  have hz := zag_range hc
  have hE : encN (low (lead 10 b + 1) b) = b.take (lead 10 b + 1) := by
    refine encN_low _ b hb (fun f hf => ?_) (by omega) (lead_stop 10 b (by omega) (by omega)) (fun h0 hb0 => g3 (.inr ⟨h0, hb0⟩))
    rcases Nat.lt_or_ge (lead 10 b) f with hlt | hge
    · refine .inl ?_
      rcases Nat.lt_or_ge f 10 with hf10 | hf10
      · refine lead_is f b _ (fun i hi => lead_ge 10 b i hi) l2 hf (.inr (.inr (lead_stop 10 b (by omega) (by omega))))
      · exact lead_any 10 f b (by omega) hf10
    · exact .inl (by rw [show f = lead 10 b by omega]; exact lead_less 10 _ b (Nat.le_refl _))
  cases h
  exact .inl ⟨rfl, by omega, by omega, by omega, hz.1, hz.2, by unfold encI; rw [zig_zag, hE]⟩

theorem encI_bytes (n : Int) : isBs (encI n) := encN_bytes _
theorem encI_pos (n : Int) : 1 ≤ (encI n).length := encN_pos _
theorem encI_len {n : Int} (h1 : -9223372036854775808 ≤ n) (h2 : n ≤ 9223372036854775807) : (encI n).length ≤ 10 := encN_len10 (zig_lt h1 h2)

end Go.Proofs.Ytffgbbfcbobecaa.Wm
