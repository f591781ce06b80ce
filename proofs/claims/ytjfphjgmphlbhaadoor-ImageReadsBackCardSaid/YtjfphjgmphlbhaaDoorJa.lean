/-
  PLAIN FACTS, OF NO PROGRAM: the encoding of integers in base 128, and of lists, as functions on lists of bytes; decoding what was encoded gives it back; what is decoded was encoded; a proper beginning is cut off.
-/
import Derived.Laws.BytesArg
namespace Go.Proofs.YtjfphjgmphlbhaaDoor.Wm

abbrev Bs := List Int
set_option maxRecDepth 100000 in
def isBs (b : Bs) : Prop := ∀ x ∈ b, 0 ≤ x ∧ x < 256

set_option maxRecDepth 100000 in
def zig (n : Int) : Nat := if 0 ≤ n then (2 * n).toNat else (-2 * n - 1).toNat
set_option maxRecDepth 100000 in
def zag (z : Nat) : Int := if z % 2 = 1 then -1 - ((z / 2 : Nat) : Int) else ((z / 2 : Nat) : Int)

set_option maxRecDepth 100000 in
theorem zag_zig (n : Int) : zag (zig n) = n := by
  unfold zag zig
  by_cases h : 0 ≤ n
  · rw [if_pos h, if_neg (by omega)]; omega
  · rw [if_neg h, if_pos (by omega)]; omega
set_option maxRecDepth 100000 in
theorem zig_zag (z : Nat) : zig (zag z) = z := by
  unfold zag zig
  by_cases h : z % 2 = 1
  · rw [if_pos h, if_neg (by omega)]; omega
  · rw [if_neg h, if_pos (by omega)]; omega
set_option maxRecDepth 100000 in
theorem zig_lt {n : Int} (h1 : -9223372036854775808 ≤ n) (h2 : n ≤ 9223372036854775807) : zig n < 18446744073709551616 := by
  unfold zig; split <;> omega
set_option maxRecDepth 100000 in
theorem zag_range {z : Nat} (h : z < 18446744073709551616) : -9223372036854775808 ≤ zag z ∧ zag z ≤ 9223372036854775807 := by
  unfold zag; split <;> omega

set_option maxRecDepth 100000 in
/-- THE ENCODING OF A NUMBER: base 128, the least first; every digit but the last bears 128. -/
def encN (z : Nat) : Bs := if h : z < 128 then [(z : Int)] else ((z % 128 + 128 : Nat) : Int) :: encN (z / 128)
termination_by z
decreasing_by omega

set_option maxRecDepth 100000 in
theorem encN_small {z : Nat} (h : z < 128) : encN z = [(z : Int)] := by rw [encN, dif_pos h]
set_option maxRecDepth 100000 in
theorem encN_big {z : Nat} (h : 128 ≤ z) : encN z = ((z % 128 + 128 : Nat) : Int) :: encN (z / 128) := by rw [encN, dif_neg (by omega)]
set_option maxRecDepth 100000 in
theorem encN_pos (z : Nat) : 1 ≤ (encN z).length := by
  by_cases h : z < 128
  · rw [encN_small h]; simp
  · rw [encN_big (by omega)]; simp

set_option maxRecDepth 100000 in
theorem encN_ind {P : Nat → Prop} (hs : ∀ z, z < 128 → P z) (hb : ∀ z, 128 ≤ z → P (z / 128) → P z) (z : Nat) : P z := by
  induction z using Nat.strongRecOn with
  | _ z ih =>
    by_cases h : z < 128
    · exact hs z h
    · exact hb z (by omega) (ih _ (by omega))

set_option maxRecDepth 100000 in
theorem encN_bytes (z : Nat) : isBs (encN z) := by
  refine encN_ind (P := fun z => isBs (encN z)) (fun z h x hx => ?_) (fun z h ih x hx => ?_) z
  · rw [encN_small h] at hx; simp at hx; omega
  · rw [encN_big h] at hx
    rcases List.mem_cons.1 hx with rfl | hx
    · omega
    · exact ih x hx

set_option maxRecDepth 100000 in
theorem encN_len (k : Nat) : ∀ z, z < 128 ^ (k + 1) → (encN z).length ≤ k + 1 := by
  induction k with
  | zero => intro z h; rw [encN_small (by simpa using h)]; simp
  | succ k ih =>
    intro z h
    by_cases hz : z < 128
    · rw [encN_small hz]; simp
    · rw [encN_big (by omega), List.length_cons]
      have := ih (z / 128) (by rw [Nat.pow_succ] at h; exact Nat.div_lt_of_lt_mul (by rw [Nat.mul_comm]; exact h))
      omega
set_option maxRecDepth 100000 in
theorem encN_len10 {z : Nat} (h : z < 18446744073709551616) : (encN z).length ≤ 10 := encN_len 9 z (Nat.lt_of_lt_of_le h (by decide))
set_option maxRecDepth 100000 in
theorem encN_one (z : Nat) : (encN z).length = 1 ↔ z < 128 := by
  constructor
  · intro h
    rcases Nat.lt_or_ge z 128 with hz | hz
    · exact hz
    · rw [encN_big hz, List.length_cons] at h; have := encN_pos (z / 128); omega
  · intro h; rw [encN_small h]; rfl
set_option maxRecDepth 100000 in
theorem encN_mono (a : Nat) : ∀ b, a ≤ b → (encN a).length ≤ (encN b).length := by
  refine encN_ind (P := fun a => ∀ b, a ≤ b → (encN a).length ≤ (encN b).length) (fun z h b _ => ?_) (fun z h ih b hb => ?_) a
  · rw [encN_small h]; exact encN_pos b
  · rw [encN_big h, encN_big (z := b) (by omega), List.length_cons, List.length_cons]
    have := ih (b / 128) (by omega)
    omega

set_option maxRecDepth 100000 in
/-- HOW MANY BYTES OF AT LEAST 128 STAND AHEAD, at most f of them. -/
def lead : Nat → Bs → Nat
  | 0, _ => 0
  | _ + 1, [] => 0
  | f + 1, b :: r => if 128 ≤ b then lead f r + 1 else 0
set_option maxRecDepth 100000 in
/-- THE NUMBER THAT THE FIRST k BYTES GIVE. -/
def low : Nat → Bs → Nat
  | 0, _ => 0
  | _ + 1, [] => 0
  | k + 1, b :: r => (b % 128).toNat + 128 * low k r

set_option maxRecDepth 100000 in
theorem lead_le (f : Nat) : ∀ b, lead f b ≤ f := by
  induction f with
  | zero => intro b; simp [lead]
  | succ f ih =>
    intro b
    cases b with
    | nil => simp [lead]
    | cons b r => unfold lead; have := ih r; split <;> omega
set_option maxRecDepth 100000 in
theorem lead_len (f : Nat) : ∀ b, lead f b ≤ b.length := by
  induction f with
  | zero => intro b; simp [lead]
  | succ f ih =>
    intro b
    cases b with
    | nil => simp [lead]
    | cons b r => unfold lead; have := ih r; simp only [List.length_cons]; split <;> omega

set_option maxRecDepth 100000 in
theorem low_lt (k : Nat) : ∀ b, low k b < 128 ^ k := by
  induction k with
  | zero => intro b; simp [low]
  | succ k ih =>
    intro b
    have h0 : 0 < 128 ^ k := Nat.pow_pos (by decide)
    cases b with
    | nil => simp only [low, Nat.pow_succ]; omega
    | cons b r => have := ih r; simp only [low, Nat.pow_succ]; omega

set_option maxRecDepth 100000 in
/-- ONE BYTE MORE AT THE TOP. -/
theorem low_snoc (k : Nat) : ∀ b, k < b.length → low (k + 1) b = low k b + 128 ^ k * (b.getD k 0 % 128).toNat := by
  induction k with
  | zero =>
    intro b h
    match b, h with
    | b :: r, _ => simp [low]
  | succ k ih =>
    intro b h
    match b, h with
    | b :: r, h =>
      have h' := ih r (by simpa using h)
      show (b % 128).toNat + 128 * low (k + 1) r = (b % 128).toNat + 128 * low k r + 128 ^ (k + 1) * _
      rw [h', Nat.pow_succ]
      simp only [List.getD_cons_succ]
      rw [Nat.mul_add, ← Nat.add_assoc, ← Nat.mul_assoc, Nat.mul_comm 128 (128 ^ k)]

set_option maxRecDepth 100000 in
/-- ONE BYTE MORE AT THE FOOT: as 'z = z * 128 + b' reads it. -/
theorem low_drop (k : Nat) (b : Bs) (i : Nat) (h : i < b.length) : low (k + 1) (b.drop i) = (b.getD i 0 % 128).toNat + 128 * low k (b.drop (i + 1)) := by
  rw [List.drop_eq_getElem_cons h]
  show (b[i] % 128).toNat + 128 * low k (b.drop (i + 1)) = _
  rw [List.getD_eq_getElem?_getD, List.getElem?_eq_getElem h]
  rfl

set_option maxRecDepth 100000 in
/-- WHAT GetInt ANSWERS. -/
def decI (b : Bs) : Int × Nat × Int :=
  if lead 10 b = 10 then (0, 0, 11)
  else if lead 10 b = b.length then (0, 0, 10)
  else if (lead 10 b = 9 ∧ 1 < b.getD 9 0) ∨ (0 < lead 10 b ∧ b.getD (lead 10 b) 0 = 0) then (0, 0, 11)
  else (zag (low (lead 10 b + 1) b), lead 10 b + 1, 0)

set_option maxRecDepth 100000 in
def encI (n : Int) : Bs := encN (zig n)

set_option maxRecDepth 100000 in
theorem getD_cons_pos (x : Int) (r : Bs) (k : Nat) (h : 0 < k) : (x :: r).getD k 0 = r.getD (k - 1) 0 := by
  obtain ⟨j, rfl⟩ : ∃ j, k = j + 1 := ⟨k - 1, by omega⟩
  simp

set_option maxRecDepth 100000 in
/-- WHAT AN ENCODING LOOKS LIKE: as many digits of at least 128 as it has bytes, but one; the last is less, and not 0 unless alone; the number is its own. -/
theorem encN_form (z : Nat) : ∀ (f : Nat) (t : Bs), (encN z).length ≤ f → lead f (encN z ++ t) + 1 = (encN z).length ∧ low (encN z).length (encN z ++ t) = z ∧
    (0 < lead f (encN z ++ t) → (encN z ++ t).getD (lead f (encN z ++ t)) 0 ≠ 0) := by
  refine encN_ind (P := fun z => ∀ (f : Nat) (t : Bs), (encN z).length ≤ f → lead f (encN z ++ t) + 1 = (encN z).length ∧ low (encN z).length (encN z ++ t) = z ∧
    (0 < lead f (encN z ++ t) → (encN z ++ t).getD (lead f (encN z ++ t)) 0 ≠ 0)) (fun z h f t hf => ?_) (fun z h ih f t hf => ?_) z
  · rw [encN_small h] at hf ⊢
    obtain ⟨g, rfl⟩ : ∃ g, f = g + 1 := ⟨f - 1, by simp at hf; omega⟩
    have hn : ¬ (128 : Int) ≤ (z : Int) := by omega
    refine ⟨by simp [lead, hn], ?_, by simp [lead, hn]⟩
    show ((z : Int) % 128).toNat + 128 * 0 = z
    omega
  · rw [encN_big h] at hf ⊢
    obtain ⟨g, rfl⟩ : ∃ g, f = g + 1 := ⟨f - 1, by simp at hf; omega⟩
    obtain ⟨h1, h2, h3⟩ := ih g t (by simpa using hf)
    have hp : (128 : Int) ≤ ((z % 128 + 128 : Nat) : Int) := by omega
    have e1 : lead (g + 1) (((z % 128 + 128 : Nat) : Int) :: encN (z / 128) ++ t) = lead g (encN (z / 128) ++ t) + 1 := by rw [List.cons_append]; simp only [lead, if_pos hp]
    rw [e1]
    refine ⟨by simp; omega, ?_, fun _ => ?_⟩
    · show (((z % 128 + 128 : Nat) : Int) % 128).toNat + 128 * low (encN (z / 128)).length (encN (z / 128) ++ t) = z
      rw [h2]; omega
    · rw [List.cons_append, getD_cons_pos _ _ _ (by omega), Nat.add_sub_cancel]
      rcases Nat.eq_zero_or_pos (lead g (encN (z / 128) ++ t)) with h0 | h0
      · rw [h0]
        by_cases hz : z / 128 < 128
        · rw [encN_small hz]; simp; omega
        · rw [encN_big (by omega)]; simp; omega
      · exact h3 h0

set_option maxRecDepth 100000 in
theorem low_top (z : Nat) (k : Nat) (b : Bs) (h : low (k + 1) b = z) (hk : k < b.length) : 128 ^ k * (b.getD k 0 % 128).toNat ≤ z := by
  rw [low_snoc k b hk] at h; omega

set_option maxRecDepth 100000 in
theorem last_lt (z : Nat) : ∀ k, k + 1 = (encN z).length → (encN z).getD k 0 < 128 := by
  refine encN_ind (P := fun z => ∀ k, k + 1 = (encN z).length → (encN z).getD k 0 < 128) (fun z h k hk => ?_) (fun z h ih k hk => ?_) z
  · rw [encN_small h] at hk ⊢
    obtain rfl : k = 0 := by simpa using hk
    simp; omega
  · rw [encN_big h] at hk ⊢
    have hp := encN_pos (z / 128)
    rw [List.length_cons] at hk
    rw [getD_cons_pos _ _ _ (by omega)]
    exact ih (k - 1) (by omega)

set_option maxRecDepth 100000 in
theorem decI_encI {n : Int} (h1 : -9223372036854775808 ≤ n) (h2 : n ≤ 9223372036854775807) (t : Bs) : decI (encI n ++ t) = (n, (encI n).length, 0) := by
  have hz := zig_lt h1 h2
  have hl := encN_len10 hz
  obtain ⟨f1, f2, f3⟩ := encN_form (zig n) 10 t hl
  have hp := encN_pos (zig n)
  have hle := List.length_append (as := encN (zig n)) (bs := t)
  have hle2 : (encI n ++ t).length = (encI n).length + t.length := List.length_append
  unfold encI at *
  unfold decI
  rw [if_neg (by omega), if_neg (by omega), if_neg]
  · rw [f1, f2, zag_zig]
  · rintro (⟨h9, hb⟩ | ⟨h0, hb⟩)
    · have ht := low_top (zig n) 9 (encN (zig n) ++ t) (by rw [show 9 + 1 = (encN (zig n)).length by omega]; exact f2) (by omega)
      have hb2 : (encN (zig n) ++ t).getD 9 0 < 128 := by
        have : (encN (zig n) ++ t).getD 9 0 = (encN (zig n)).getD 9 0 := by
          rw [List.getD_eq_getElem?_getD, List.getElem?_append_left (by omega), ← List.getD_eq_getElem?_getD]
        rw [this]
        clear this ht f2 f3 hb
        exact last_lt (zig n) 9 (by omega)
      omega
    · exact f3 h0 hb
set_option maxRecDepth 100000 in
/-- A PROPER BEGINNING OF AN ENCODING IS CUT OFF. -/
theorem lead_take (z : Nat) : ∀ (f i : Nat), (encN z).length ≤ f + 1 → i < (encN z).length → lead f ((encN z).take i) = i := by
  refine encN_ind (P := fun z => ∀ (f i : Nat), (encN z).length ≤ f + 1 → i < (encN z).length → lead f ((encN z).take i) = i) (fun z h f i _ hi => ?_) (fun z h ih f i hf hi => ?_) z
  · rw [encN_small h] at hi
    obtain rfl : i = 0 := by simpa using hi
    cases f <;> simp [lead]
  · rw [encN_big h] at hf hi ⊢
    rw [List.length_cons] at hf hi
    cases i with
    | zero => cases f <;> simp [lead]
    | succ i =>
      cases f with
      | zero => have := encN_pos (z / 128); omega
      | succ f =>
        have hp : (128 : Int) ≤ ((z % 128 + 128 : Nat) : Int) := by omega
        rw [List.take_succ_cons]
        simp only [lead, if_pos hp]
        rw [ih f i (by omega) (by omega)]
set_option maxRecDepth 100000 in
theorem decI_cut {n : Int} (h1 : -9223372036854775808 ≤ n) (h2 : n ≤ 9223372036854775807) {i : Nat} (hi : i < (encI n).length) : decI ((encI n).take i) = (0, 0, 10) := by
  have hl := encN_len10 (zig_lt h1 h2)
  unfold encI at *
  have h := lead_take (zig n) 10 i (by omega) hi
  unfold decI
  rw [h, if_neg (by omega), if_pos (by rw [List.length_take]; omega)]

set_option maxRecDepth 100000 in
/-- WHAT IS READ IS AN ENCODING: the digits, k of at least 128 and one less, not 0 unless alone, are those of their number. -/
theorem encN_low (k : Nat) : ∀ (b : Bs), isBs b → (∀ f, k ≤ f → lead f b = k ∨ f = k ∧ lead f b = k) → k < b.length → b.getD k 0 < 128 → (0 < k → b.getD k 0 ≠ 0) → encN (low (k + 1) b) = b.take (k + 1) := by
  induction k with
  | zero =>
    intro b hb _ hk hlt _
    match b, hk with
    | x :: r, _ =>
      have hx := hb x (by simp)
      have hx2 : x < 128 := by simpa using hlt
      have e : low (0 + 1) (x :: r) = x.toNat := by
        show (x % 128).toNat + 128 * low 0 r = _
        rw [low]; omega
      rw [e, encN_small (by omega)]
      simp; omega
  | succ k ih =>
    intro b hb hlead hk hlt hne
    match b, hk with
    | x :: r, hk =>
      have hx := hb x (by simp)
      have hx1 : 128 ≤ x := by
        rcases hlead (k + 1) (Nat.le_refl _) with h | ⟨_, h⟩
        all_goals
          unfold lead at h
          split at h
          · assumption
          · omega
      have hr : isBs r := fun y hy => hb y (List.mem_cons_of_mem _ hy)
      have hl2 : ∀ f, k ≤ f → lead f r = k ∨ f = k ∧ lead f r = k := fun f hf => by
        rcases hlead (f + 1) (by omega) with h | ⟨_, h⟩
        all_goals
          unfold lead at h
          rw [if_pos hx1] at h
          exact .inl (by omega)
      rw [getD_cons_pos _ _ _ (by omega), Nat.add_sub_cancel] at hlt hne
      have hk' : k < r.length := by simpa using hk
      have hpos : 0 < low (k + 1) r := by
        rw [low_snoc k r hk']
        have h0 : 0 < 128 ^ k := Nat.pow_pos (by decide)
        have hge : 0 ≤ r.getD k 0 := by
          rw [List.getD_eq_getElem?_getD, List.getElem?_eq_getElem hk']; exact (hr _ (List.getElem_mem hk')).1
        have hd : 0 < (r.getD k 0 % 128).toNat := by have := hne (by omega); omega
        have := Nat.mul_pos h0 hd
        omega
      have hi := ih r hr hl2 hk' hlt (fun _ => hne (by omega))
      have e : low (k + 1 + 1) (x :: r) = (x % 128).toNat + 128 * low (k + 1) r := rfl
      rw [e, encN_big (by omega), List.take_succ_cons]
      have d1 : ((x % 128).toNat + 128 * low (k + 1) r) % 128 = (x % 128).toNat := by omega
      have d2 : ((x % 128).toNat + 128 * low (k + 1) r) / 128 = low (k + 1) r := by omega
      rw [d1, d2, hi]
      congr 1
      omega

set_option maxRecDepth 100000 in
theorem lead_any (f : Nat) : ∀ (g : Nat) (b : Bs), lead f b < f → f ≤ g → lead g b = lead f b := by
  induction f with
  | zero => intro g b h; omega
  | succ f ih =>
    intro g b h hg
    obtain ⟨g, rfl⟩ : ∃ g', g = g' + 1 := ⟨g - 1, by omega⟩
    cases b with
    | nil => simp [lead]
    | cons b r =>
      unfold lead at h ⊢
      split at h
      · rename_i hb; rw [if_pos hb, if_pos hb, ih g r (by omega) (by omega)]
      · rename_i hb; rw [if_neg hb, if_neg hb]
set_option maxRecDepth 100000 in
theorem lead_less (f : Nat) : ∀ (g : Nat) (b : Bs), g ≤ lead f b → lead g b = g := by
  induction f with
  | zero => intro g b h; simp [lead] at h; subst h; simp [lead]
  | succ f ih =>
    intro g b h
    cases g with
    | zero => simp [lead]
    | succ g =>
      cases b with
      | nil => simp [lead] at h
      | cons b r =>
        unfold lead at h ⊢
        split at h
        · rename_i hb; rw [if_pos hb, ih g r (by omega)]
        · omega
set_option maxRecDepth 100000 in
theorem lead_stop (f : Nat) : ∀ (b : Bs), lead f b < f → lead f b < b.length → b.getD (lead f b) 0 < 128 := by
  induction f with
  | zero => intro b h; omega
  | succ f ih =>
    intro b h h2
    cases b with
    | nil => simp at h2
    | cons b r =>
      unfold lead at h h2 ⊢
      by_cases hb : 128 ≤ b
      · rw [if_pos hb] at h h2 ⊢
        rw [getD_cons_pos _ _ _ (by omega), Nat.add_sub_cancel]
        exact ih r (by omega) (by simpa using h2)
      · rw [if_neg hb]; simp; omega
set_option maxRecDepth 100000 in
/-- Ahead of that place every byte is at least 128. -/
theorem lead_ge (f : Nat) : ∀ (b : Bs) (i : Nat), i < lead f b → 128 ≤ b.getD i 0 := by
  induction f with
  | zero => intro b i h; simp [lead] at h
  | succ f ih =>
    intro b i h
    cases b with
    | nil => simp [lead] at h
    | cons b r =>
      unfold lead at h
      by_cases hb : 128 ≤ b
      · rw [if_pos hb] at h
        cases i with
        | zero => simpa using hb
        | succ i => rw [List.getD_cons_succ]; exact ih r i (by omega)
      · rw [if_neg hb] at h; omega
set_option maxRecDepth 100000 in
/-- THE PLACE BY ITS MARKS. -/
theorem lead_is (f : Nat) : ∀ (b : Bs) (k : Nat), (∀ i, i < k → 128 ≤ b.getD i 0) → k ≤ b.length → k ≤ f → (k = f ∨ k = b.length ∨ b.getD k 0 < 128) → lead f b = k := by
  induction f with
  | zero => intro b k _ _ h _; simp [lead]; omega
  | succ f ih =>
    intro b k h1 h2 h3 h4
    cases b with
    | nil => simp at h2; subst h2; simp [lead]
    | cons b r =>
      unfold lead
      cases k with
      | zero =>
        rcases h4 with h4 | h4 | h4
        · omega
        · simp at h4
        · rw [if_neg (by simp at h4; omega)]
      | succ k =>
        rw [if_pos (by simpa using h1 0 (by omega)), ih r k (fun i hi => by simpa using h1 (i + 1) (by omega)) (by simpa using h2) (by omega) ?_]
        rcases h4 with h4 | h4 | h4
        · exact .inl (by omega)
        · exact .inr (.inl (by simpa using h4))
        · exact .inr (.inr (by simpa using h4))

set_option maxRecDepth 100000 in
theorem low_cap {b : Bs} (hb : isBs b) {k : Nat} (hk : k < b.length) (h9 : k < 9 ∨ k = 9 ∧ b.getD 9 0 ≤ 1) : low (k + 1) b < 18446744073709551616 := by
  rcases h9 with h | ⟨rfl, h⟩
  · exact Nat.lt_of_lt_of_le (low_lt (k + 1) b) (Nat.le_trans (Nat.pow_le_pow_right (by decide) (show k + 1 ≤ 9 by omega)) (by decide))
  · rw [low_snoc 9 b hk]
    have h1 := low_lt 9 b
    have hge : 0 ≤ b.getD 9 0 := by
      rw [List.getD_eq_getElem?_getD, List.getElem?_eq_getElem hk]; exact (hb _ (List.getElem_mem hk)).1
    have h2 : (b.getD 9 0 % 128).toNat ≤ 1 := by omega
    have h3 := Nat.mul_le_mul_left (128 ^ 9) h2
    have e9 : (128 : Nat) ^ 9 = 9223372036854775808 := by decide
    rw [e9] at h1 h3 ⊢
    omega

set_option maxRecDepth 100000 in
/-- THE ANSWERS OF decI, ONE BY ONE. -/
theorem decI_ok {b : Bs} (hb : isBs b) {n : Int} {u : Nat} {e : Int} (h : decI b = (n, u, e)) : (e = 0 ∧ 1 ≤ u ∧ u ≤ 10 ∧ u ≤ b.length ∧ -9223372036854775808 ≤ n ∧ n ≤ 9223372036854775807 ∧ b.take u = encI n) ∨ (n = 0 ∧ u = 0 ∧ (e = 10 ∨ e = 11)) := by
  unfold decI at h
  split at h
  · cases h; exact .inr ⟨rfl, rfl, .inr rfl⟩
  split at h
  · cases h; exact .inr ⟨rfl, rfl, .inl rfl⟩
  split at h
  · cases h; exact .inr ⟨rfl, rfl, .inr rfl⟩
  rename_i g1 g2 g3
  have l1 := lead_le 10 b
  have l2 := lead_len 10 b
  have h9 : lead 10 b < 9 ∨ lead 10 b = 9 ∧ b.getD 9 0 ≤ 1 := by
    rcases Nat.lt_or_ge (lead 10 b) 9 with h | h
    · exact .inl h
    · refine .inr ⟨by omega, ?_⟩
      by_cases hg : 1 < b.getD 9 0
      · exact absurd (.inl ⟨by omega, hg⟩) g3
      · omega
  have hc := low_cap hb (show lead 10 b < b.length by omega) h9
  have hz := zag_range hc
  have hE : encN (low (lead 10 b + 1) b) = b.take (lead 10 b + 1) := by
    refine encN_low _ b hb (fun f hf => ?_) (by omega) (lead_stop 10 b (by omega) (by omega)) (fun h0 hb0 => g3 (.inr ⟨h0, hb0⟩))
    rcases Nat.lt_or_ge (lead 10 b) f with hlt | hge
    · refine .inl ?_
      rcases Nat.lt_or_ge f 10 with hf10 | hf10
      · refine lead_is f b _ (fun i hi => lead_ge 10 b i hi) l2 hf (.inr (.inr (lead_stop 10 b (by omega) (by omega))))
      · exact lead_any 10 f b (by omega) hf10
    · exact .inl (by rw [show f = lead 10 b by omega]; exact lead_less 10 _ b (Nat.le_refl _))
  cases h
  exact .inl ⟨rfl, by omega, by omega, by omega, hz.1, hz.2, by unfold encI; rw [zig_zag, hE]⟩

set_option maxRecDepth 100000 in
theorem encI_bytes (n : Int) : isBs (encI n) := encN_bytes _
set_option maxRecDepth 100000 in
theorem encI_pos (n : Int) : 1 ≤ (encI n).length := encN_pos _
set_option maxRecDepth 100000 in
theorem encI_len {n : Int} (h1 : -9223372036854775808 ≤ n) (h2 : n ≤ 9223372036854775807) : (encI n).length ≤ 10 := encN_len10 (zig_lt h1 h2)

end Go.Proofs.YtjfphjgmphlbhaaDoor.Wm

/-
  PLAIN FACTS, OF NO PROGRAM: lengths, byte strings and lists in the canonical encoding.
-/
namespace Go.Proofs.YtjfphjgmphlbhaaDoor.Wm

set_option maxRecDepth 100000 in
/-- A LENGTH of elements of at least so many bytes each. -/
def decLen (b : Bs) (least : Nat) : Int × Nat × Int :=
  if (decI b).2.2 ≠ 0 then (0, 0, (decI b).2.2)
  else if (decI b).1 < 0 then (0, 0, 11)
  else if (((b.length - (decI b).2.1) / least : Nat) : Int) < (decI b).1 then (0, 0, 10)
  else ((decI b).1, (decI b).2.1, 0)

set_option maxRecDepth 100000 in
theorem decLen_ok {b : Bs} (hb : isBs b) {least : Nat} (hl : 0 < least) {n : Int} {u : Nat} {e : Int} (h : decLen b least = (n, u, e)) :
    (e = 0 ∧ 0 ≤ n ∧ n ≤ 9223372036854775807 ∧ 1 ≤ u ∧ u ≤ 10 ∧ u + n.toNat * least ≤ b.length ∧ b.take u = encI n) ∨ (n = 0 ∧ u = 0 ∧ (e = 10 ∨ e = 11)) := by
  unfold decLen at h
  obtain ⟨n', u', e', hr⟩ : ∃ n' u' e', decI b = (n', u', e') := ⟨_, _, _, rfl⟩
  rw [hr] at h
  simp only at h
  rcases decI_ok hb hr with ⟨rfl, h1, h2, h3, h4, h5, h6⟩ | ⟨rfl, rfl, h7⟩
  · rw [if_neg (by simp)] at h
    split at h
    · cases h; exact .inr ⟨rfl, rfl, .inr rfl⟩
    split at h
    · cases h; exact .inr ⟨rfl, rfl, .inl rfl⟩
    rename_i g1 g2
    cases h
    refine .inl ⟨rfl, by omega, h5, h1, h2, ?_, h6⟩
    have g3 : n.toNat ≤ (b.length - u) / least := by omega
    have g4 := (Nat.le_div_iff_mul_le hl).1 g3
    omega
  · rw [if_pos (by rcases h7 with h7 | h7 <;> rw [h7] <;> decide)] at h
    cases h
    exact .inr ⟨rfl, rfl, h7⟩

set_option maxRecDepth 100000 in
theorem decLen_mk (n : Nat) (t : Bs) {least : Nat} (hl : 0 < least) (hn : n ≤ 9223372036854775807) (ht : n * least ≤ t.length) : decLen (encI n ++ t) least = ((n : Int), (encI n).length, 0) := by
  unfold decLen
  have h := decI_encI (n := (n : Int)) (by omega) (by omega) t
  rw [h]
  simp only
  rw [if_neg (by simp), if_neg (by omega), if_neg]
  have e : (encI (n : Int) ++ t).length - (encI (n : Int)).length = t.length := by rw [List.length_append]; omega
  rw [e]
  have := (Nat.le_div_iff_mul_le hl).2 ht
  omega

set_option maxRecDepth 100000 in
/-- A byte string. -/
def encB (s : Bs) : Bs := encI s.length ++ s
set_option maxRecDepth 100000 in
def decB (b : Bs) : Bs × Nat × Int :=
  if (decLen b 1).2.2 ≠ 0 then ([], 0, (decLen b 1).2.2)
  else ((b.drop (decLen b 1).2.1).take (decLen b 1).1.toNat, (decLen b 1).2.1 + (decLen b 1).1.toNat, 0)

set_option maxRecDepth 100000 in
/-- A string's bytes. -/
def ofS (s : ByteArray) : Bs := s.data.toList.map fun b => (b.toNat : Int)
set_option maxRecDepth 100000 in
theorem ofS_length (s : ByteArray) : (ofS s).length = s.size := by
  rw [ofS, List.length_map, Array.length_toList]; rfl
set_option maxRecDepth 100000 in
theorem ofS_bytes (s : ByteArray) : isBs (ofS s) := by
  intro x hx
  obtain ⟨b, _, rfl⟩ := List.mem_map.1 hx
  have := b.toNat_lt
  omega
set_option maxRecDepth 100000 in
theorem str_ofS (s : ByteArray) : strOfNums (ofS s) = s := by
  have h : (ofS s).map (fun n => UInt8.ofNat n.toNat) = s.data.toList := by
    rw [ofS, List.map_map]
    refine Eq.trans (List.map_congr_left (g := id) fun b _ => ?_) (List.map_id _)
    simp
  unfold strOfNums
  rw [h]
set_option maxRecDepth 100000 in
theorem ofS_str {b : Bs} (h : isBs b) : ofS (strOfNums b) = b := by
  unfold ofS
  rw [strOfNums_data, List.map_map]
  refine Eq.trans (List.map_congr_left (g := id) fun x hx => ?_) (List.map_id _)
  have := h x hx
  show ((UInt8.ofNat x.toNat).toNat : Int) = x
  rw [UInt8.toNat_ofNat_of_lt' (show x.toNat < 256 by omega)]
  omega

set_option maxRecDepth 100000 in
/-- A list. -/
def encL {α : Type} (enc : α → Bs) (l : List α) : Bs := encI l.length ++ l.flatMap enc

set_option maxRecDepth 100000 in
theorem decB_ok {b : Bs} (hb : isBs b) {x : Bs} {u : Nat} {e : Int} (h : decB b = (x, u, e)) :
    (e = 0 ∧ 1 ≤ u ∧ u ≤ b.length ∧ isBs x ∧ x.length + 1 ≤ u ∧ b.take u = encB x) ∨ (x = [] ∧ u = 0 ∧ (e = 10 ∨ e = 11)) := by
  unfold decB at h
  obtain ⟨n', u', e', hr⟩ : ∃ n' u' e', decLen b 1 = (n', u', e') := ⟨_, _, _, rfl⟩
  rw [hr] at h
  simp only at h
  rcases decLen_ok hb (by decide) hr with ⟨rfl, h1, h2, h3, h4, h5, h6⟩ | ⟨rfl, rfl, h7⟩
  · rw [if_neg (by simp)] at h
    cases h
    have hl : ((b.drop u').take n'.toNat).length = n'.toNat := by rw [List.length_take, List.length_drop]; omega
    refine .inl ⟨rfl, by omega, by omega, fun x hx => hb x (List.mem_of_mem_drop (List.mem_of_mem_take hx)), by omega, ?_⟩
    unfold encB
    rw [hl, List.take_add, h6, Int.toNat_of_nonneg h1]
  · rw [if_pos (by rcases h7 with h7 | h7 <;> rw [h7] <;> decide)] at h
    cases h
    exact .inr ⟨rfl, rfl, h7⟩

set_option maxRecDepth 100000 in
/-- n ELEMENTS, one after the other. -/
def decE {α : Type} (get : Bs → α × Nat × Int) : Nat → Bs → List α × Nat × Int
  | 0, _ => ([], 0, 0)
  | n + 1, b =>
    if (get b).2.2 ≠ 0 then ([], 0, (get b).2.2)
    else if (decE get n (b.drop (get b).2.1)).2.2 ≠ 0 then ([], 0, (decE get n (b.drop (get b).2.1)).2.2)
    else ((get b).1 :: (decE get n (b.drop (get b).2.1)).1, (get b).2.1 + (decE get n (b.drop (get b).2.1)).2.1, 0)
set_option maxRecDepth 100000 in
def decL {α : Type} (get : Bs → α × Nat × Int) (least : Nat) (b : Bs) : List α × Nat × Int :=
  if (decLen b least).2.2 ≠ 0 then ([], 0, (decLen b least).2.2)
  else if (decE get (decLen b least).1.toNat (b.drop (decLen b least).2.1)).2.2 ≠ 0 then ([], 0, (decE get (decLen b least).1.toNat (b.drop (decLen b least).2.1)).2.2)
  else ((decE get (decLen b least).1.toNat (b.drop (decLen b least).2.1)).1, (decLen b least).2.1 + (decE get (decLen b least).1.toNat (b.drop (decLen b least).2.1)).2.1, 0)

set_option maxRecDepth 100000 in
/-- HOW FAR A DECODER OF A LIST HAS COME: i of m elements, acc, at the place p; what it will answer. -/
def Going {α : Type} (get : Bs → α × Nat × Int) (b : Bs) (m i : Nat) (acc : List α) (p : Nat) (fin : List α × Nat × Int) : Prop :=
  fin = if (decE get (m - i) (b.drop p)).2.2 ≠ 0 then ([], 0, (decE get (m - i) (b.drop p)).2.2) else (acc ++ (decE get (m - i) (b.drop p)).1, p + (decE get (m - i) (b.drop p)).2.1, 0)

section
variable {α : Type} {get : Bs → α × Nat × Int} {b : Bs} {m i : Nat} {acc : List α} {p : Nat} {fin : List α × Nat × Int}
set_option maxRecDepth 100000 in
theorem Going.start {least u : Nat} (h : decLen b least = ((m : Int), u, 0)) : Going get b m 0 [] u (decL get least b) := by
  unfold Going decL
  rw [h]
  simp
set_option maxRecDepth 100000 in
theorem Going.end_ (h : Going get b m m acc p fin) : fin = (acc, p, 0) := by
  unfold Going at h
  rw [h, Nat.sub_self]
  simp [decE]
set_option maxRecDepth 100000 in
theorem Going.bad {x : α} {k : Nat} {e : Int} (h : Going get b m i acc p fin) (hi : i < m) (hg : get (b.drop p) = (x, k, e)) (he : e ≠ 0) : fin = ([], 0, e) := by
  unfold Going at h
  obtain ⟨j, hj⟩ : ∃ j, m - i = j + 1 := ⟨m - i - 1, by omega⟩
  rw [h, hj]
  unfold decE
  rw [hg]
  simp [he]
set_option maxRecDepth 100000 in
theorem Going.next {x : α} {k : Nat} (h : Going get b m i acc p fin) (hi : i < m) (hg : get (b.drop p) = (x, k, 0)) : Going get b m (i + 1) (acc ++ [x]) (p + k) fin := by
  unfold Going at h ⊢
  have hj : m - i = (m - (i + 1)) + 1 := by omega
  rw [h, hj]
  generalize m - (i + 1) = j
  rw [decE]
  rw [hg]
  simp only [List.drop_drop]
  simp only [ne_eq, not_true_eq_false, if_false, List.append_assoc, List.singleton_append]
  by_cases h0 : (decE get j (b.drop (p + k))).2.2 = 0
  · simp [h0, Nat.add_assoc]
  · simp [h0]
end

end Go.Proofs.YtjfphjgmphlbhaaDoor.Wm

/-
  PLAIN FACTS, OF NO PROGRAM: what was encoded is decoded again, whatever follows it; what is decoded was encoded; a proper beginning is cut off: for byte strings and for lists.
-/
namespace Go.Proofs.YtjfphjgmphlbhaaDoor.Wm

set_option maxRecDepth 100000 in
theorem encB_len (s : Bs) : (encB s).length = (encI s.length).length + s.length := by unfold encB; rw [List.length_append]
set_option maxRecDepth 100000 in
theorem encB_bytes {s : Bs} (h : isBs s) : isBs (encB s) := fun x hx => by
  rcases List.mem_append.1 hx with hx | hx
  · exact encI_bytes _ x hx
  · exact h x hx

set_option maxRecDepth 100000 in
theorem decB_encB (s t : Bs) (hs : s.length ≤ 9223372036854775807) : decB (encB s ++ t) = (s, (encB s).length, 0) := by
  have h := decLen_mk (least := 1) s.length (s ++ t) (by decide) hs (by rw [List.length_append]; omega)
  have e : encB s ++ t = encI s.length ++ (s ++ t) := by unfold encB; rw [List.append_assoc]
  unfold decB
  rw [e, h]
  simp only
  rw [if_neg (by simp), List.drop_left, Int.toNat_natCast, List.take_left, encB_len]

section
variable {α : Type} {get : Bs → α × Nat × Int} {enc : α → Bs}
set_option maxRecDepth 100000 in
theorem decE_mk (l : List α) : ∀ t : Bs, (∀ x ∈ l, ∀ t, get (enc x ++ t) = (x, (enc x).length, 0)) → decE get l.length (l.flatMap enc ++ t) = (l, (l.flatMap enc).length, 0) := by
  induction l with
  | nil => intro t _; rfl
  | cons x r ih =>
    intro t h
    have hx := h x (List.mem_cons_self) (r.flatMap enc ++ t)
    have hr := ih t (fun y hy => h y (List.mem_cons_of_mem _ hy))
    rw [List.length_cons, decE, List.flatMap_cons, List.append_assoc, hx]
    simp only
    rw [List.drop_left, hr]
    simp

set_option maxRecDepth 100000 in
theorem decL_encL (least : Nat) (l : List α) (t : Bs) (h0 : 0 < least) (hl : l.length ≤ 9223372036854775807) (hb : l.length * least ≤ (l.flatMap enc).length)
    (h : ∀ x ∈ l, ∀ t, get (enc x ++ t) = (x, (enc x).length, 0)) : decL get least (encL enc l ++ t) = (l, (encL enc l).length, 0) := by
  have hL := decLen_mk (least := least) l.length (l.flatMap enc ++ t) h0 hl (by rw [List.length_append]; omega)
  have e : encL enc l ++ t = encI l.length ++ (l.flatMap enc ++ t) := by unfold encL; rw [List.append_assoc]
  have hE := decE_mk (get := get) (enc := enc) l t h
  unfold decL
  rw [e, hL]
  simp only
  rw [if_neg (by simp), List.drop_left, Int.toNat_natCast, hE]
  simp [encL]

set_option maxRecDepth 100000 in
/-- What was decoded was encoded. -/
theorem decE_can (hg : ∀ b x k, isBs b → get b = (x, k, 0) → k ≤ b.length ∧ b.take k = enc x) (n : Nat) : ∀ (b : Bs) (l : List α) (u : Nat), isBs b → decE get n b = (l, u, 0) → l.length = n ∧ u ≤ b.length ∧ b.take u = l.flatMap enc := by
  induction n with
  | zero => intro b l u _ h; cases h; exact ⟨rfl, Nat.zero_le _, rfl⟩
  | succ n ih =>
    intro b l u hb h
    rw [decE] at h
    obtain ⟨x, k, e, hr⟩ : ∃ x k e, get b = (x, k, e) := ⟨_, _, _, rfl⟩
    rw [hr] at h
    simp only at h
    split at h
    · rename_i he; cases h; exact absurd rfl he
    rename_i he
    obtain rfl : e = 0 := by simpa using he
    obtain ⟨hk, htk⟩ := hg b x k hb hr
    obtain ⟨l', u', e', hr'⟩ : ∃ l' u' e', decE get n (b.drop k) = (l', u', e') := ⟨_, _, _, rfl⟩
    rw [hr'] at h
    simp only at h
    split at h
    · rename_i he'; cases h; exact absurd rfl he'
    rename_i he'
    obtain rfl : e' = 0 := by simpa using he'
    obtain ⟨h1, h2, h3⟩ := ih (b.drop k) l' u' (fun y hy => hb y (List.mem_of_mem_drop hy)) hr'
    cases h
    rw [List.length_drop] at h2
    exact ⟨by rw [List.length_cons, h1], by omega, by rw [List.take_add, htk, h3, List.flatMap_cons]⟩

set_option maxRecDepth 100000 in
theorem decL_can (hg : ∀ b x k, isBs b → get b = (x, k, 0) → k ≤ b.length ∧ b.take k = enc x) {least : Nat} (h0 : 0 < least) {b : Bs} {l : List α} {u : Nat} (hb : isBs b) (h : decL get least b = (l, u, 0)) : u ≤ b.length ∧ b.take u = encL enc l := by
  unfold decL at h
  obtain ⟨n, k, e, hr⟩ : ∃ n k e, decLen b least = (n, k, e) := ⟨_, _, _, rfl⟩
  have hok := decLen_ok hb h0 hr
  rw [hr] at h
  simp only at h
  split at h
  · rename_i he; cases h; exact absurd rfl he
  rename_i he
  obtain rfl : e = 0 := by simpa using he
  rcases hok with ⟨_, a1, a2, a3, a4, a5, a6⟩ | ⟨_, _, a⟩
  · obtain ⟨l', u', e', hr'⟩ : ∃ l' u' e', decE get n.toNat (b.drop k) = (l', u', e') := ⟨_, _, _, rfl⟩
    rw [hr'] at h
    simp only at h
    split at h
    · rename_i he'; cases h; exact absurd rfl he'
    rename_i he'
    obtain rfl : e' = 0 := by simpa using he'
    obtain ⟨h1, h2, h3⟩ := decE_can hg n.toNat (b.drop k) l' u' (fun y hy => hb y (List.mem_of_mem_drop hy)) hr'
    cases h
    rw [List.length_drop] at h2
    refine ⟨by omega, ?_⟩
    unfold encL
    rw [List.take_add, a6, h3, h1, Int.toNat_of_nonneg a1]
  · rcases a with a | a <;> cases a

set_option maxRecDepth 100000 in
/-- A proper beginning is cut off. -/
theorem decE_cut (l : List α) : ∀ j : Nat, j < (l.flatMap enc).length → (∀ x ∈ l, ∀ t, get (enc x ++ t) = (x, (enc x).length, 0)) → (∀ x ∈ l, ∀ i, i < (enc x).length → (get ((enc x).take i)).2.2 = 10) →
    decE get l.length ((l.flatMap enc).take j) = ([], 0, 10) := by
  induction l with
  | nil => intro j hj; simp at hj
  | cons x r ih =>
    intro j hj h hc
    rw [List.flatMap_cons, List.length_append] at hj
    rw [List.length_cons, decE, List.flatMap_cons]
    rcases Nat.lt_or_ge j (enc x).length with h1 | h1
    · rw [List.take_append_of_le_length (by omega), hc x (List.mem_cons_self) j h1]
      simp
    · rw [List.take_append, List.take_of_length_le h1, h x (List.mem_cons_self)]
      simp only
      rw [List.drop_left, ih (j - (enc x).length) (by omega) (fun y hy => h y (List.mem_cons_of_mem _ hy)) (fun y hy => hc y (List.mem_cons_of_mem _ hy))]
      simp

set_option maxRecDepth 100000 in
theorem decLen_cut (n : Nat) (least : Nat) (hn : n ≤ 9223372036854775807) {i : Nat} (hi : i < (encI n).length) : decLen ((encI n).take i) least = (0, 0, 10) := by
  have h := decI_cut (n := (n : Int)) (by omega) (by omega) hi
  unfold decLen
  rw [h]
  rfl
set_option maxRecDepth 100000 in
theorem decLen_short (n : Nat) (t : Bs) (least : Nat) (h0 : 0 < least) (hn : n ≤ 9223372036854775807) (ht : t.length < n * least) : decLen (encI n ++ t) least = (0, 0, 10) := by
  have h := decI_encI (n := (n : Int)) (by omega) (by omega) t
  unfold decLen
  rw [h]
  simp only
  rw [if_neg (by simp), if_neg (by omega), if_pos]
  have e : (encI (n : Int) ++ t).length - (encI (n : Int)).length = t.length := by rw [List.length_append]; omega
  rw [e]
  have h1 := (Nat.div_lt_iff_lt_mul h0).2 ht
  omega

set_option maxRecDepth 100000 in
theorem decL_cut (least : Nat) (h0 : 0 < least) (l : List α) (hl : l.length ≤ 9223372036854775807) (h : ∀ x ∈ l, ∀ t, get (enc x ++ t) = (x, (enc x).length, 0))
    (hc : (∀ x ∈ l, ∀ i, i < (enc x).length → (get ((enc x).take i)).2.2 = 10) ∨ (l.flatMap enc).length = l.length * least) {i : Nat} (hi : i < (encL enc l).length) : decL get least ((encL enc l).take i) = ([], 0, 10) := by
  unfold encL at hi ⊢
  rw [List.length_append] at hi
  rcases Nat.lt_or_ge i (encI l.length).length with h1 | h1
  · rw [List.take_append_of_le_length (by omega)]
    unfold decL
    rw [decLen_cut l.length least hl h1]
    rfl
  · rw [List.take_append, List.take_of_length_le h1]
    have hj : i - (encI l.length).length < (l.flatMap enc).length := by omega
    generalize i - (encI l.length).length = j at hj
    have htl : ((l.flatMap enc).take j).length = j := by rw [List.length_take]; omega
    rcases Nat.lt_or_ge j (l.length * least) with h2 | h2
    · unfold decL
      rw [decLen_short l.length _ least h0 hl (by rw [htl]; exact h2)]
      rfl
    · rcases hc with hc | hc
      · have hE := decE_cut (get := get) (enc := enc) l j hj h hc
        unfold decL
        rw [decLen_mk l.length _ h0 hl (by rw [htl]; exact h2)]
        simp only
        rw [List.drop_left, Int.toNat_natCast, hE]
        simp
      · omega
end

set_option maxRecDepth 100000 in
theorem decB_can (b : Bs) (x : Bs) (k : Nat) (hb : isBs b) (h : decB b = (x, k, 0)) : k ≤ b.length ∧ b.take k = encB x := by
  rcases decB_ok hb h with ⟨_, _, h2, _, _, h5⟩ | ⟨_, _, a⟩
  · exact ⟨h2, h5⟩
  · rcases a with a | a <;> cases a
set_option maxRecDepth 100000 in
theorem decI_can (b : Bs) (x : Int) (k : Nat) (hb : isBs b) (h : decI b = (x, k, 0)) : k ≤ b.length ∧ b.take k = encI x := by
  rcases decI_ok hb h with ⟨_, _, _, h2, _, _, h5⟩ | ⟨_, _, a⟩
  · exact ⟨h2, h5⟩
  · rcases a with a | a <;> cases a
set_option maxRecDepth 100000 in
theorem decB_cut (s : Bs) (hs : s.length ≤ 9223372036854775807) {i : Nat} (hi : i < (encB s).length) : decB ((encB s).take i) = ([], 0, 10) := by
  unfold encB at hi ⊢
  rw [List.length_append] at hi
  rcases Nat.lt_or_ge i (encI s.length).length with h1 | h1
  · rw [List.take_append_of_le_length (by omega)]
    unfold decB
    rw [decLen_cut s.length 1 hs h1]
    rfl
  · rw [List.take_append, List.take_of_length_le h1]
    unfold decB
    rw [decLen_short s.length _ 1 (by decide) hs (by rw [List.length_take]; omega)]
    rfl

set_option maxRecDepth 100000 in
/-- Integers. -/
theorem ints_back (l : List Int) (t : Bs) (h : ∀ x ∈ l, -9223372036854775808 ≤ x ∧ x ≤ 9223372036854775807) (hl : l.length ≤ 9223372036854775807) : decL decI 1 (encL encI l ++ t) = (l, (encL encI l).length, 0) := by
  refine decL_encL 1 l t (by decide) hl ?_ (fun x hx t => decI_encI (h x hx).1 (h x hx).2 t)
  rw [Nat.mul_one]
  clear h hl
  induction l with
  | nil => simp
  | cons x r ih => rw [List.flatMap_cons, List.length_append, List.length_cons]; have := encI_pos x; omega
set_option maxRecDepth 100000 in
theorem ints_cut (l : List Int) (h : ∀ x ∈ l, -9223372036854775808 ≤ x ∧ x ≤ 9223372036854775807) (hl : l.length ≤ 9223372036854775807) {i : Nat} (hi : i < (encL encI l).length) : decL decI 1 ((encL encI l).take i) = ([], 0, 10) :=
  decL_cut 1 (by decide) l hl (fun x hx t => decI_encI (h x hx).1 (h x hx).2 t) (.inl fun x hx i hi => by rw [decI_cut (h x hx).1 (h x hx).2 hi]) hi
set_option maxRecDepth 100000 in
theorem strs_back (l : List Bs) (t : Bs) (h : ∀ x ∈ l, x.length ≤ 9223372036854775807) (hl : l.length ≤ 9223372036854775807) : decL decB 1 (encL encB l ++ t) = (l, (encL encB l).length, 0) := by
  refine decL_encL 1 l t (by decide) hl ?_ (fun x hx t => decB_encB x t (h x hx))
  rw [Nat.mul_one]
  clear h hl
  induction l with
  | nil => simp
  | cons x r ih => rw [List.flatMap_cons, List.length_append, List.length_cons, encB_len]; have := encI_pos x.length; omega
set_option maxRecDepth 100000 in
theorem strs_cut (l : List Bs) (h : ∀ x ∈ l, x.length ≤ 9223372036854775807) (hl : l.length ≤ 9223372036854775807) {i : Nat} (hi : i < (encL encB l).length) : decL decB 1 ((encL encB l).take i) = ([], 0, 10) :=
  decL_cut 1 (by decide) l hl (fun x hx t => decB_encB x t (h x hx)) (.inl fun x hx i hi => by rw [decB_cut x (h x hx) hi]) hi

end Go.Proofs.YtjfphjgmphlbhaaDoor.Wm

/-
  PLAIN MATHEMATICS: bytes of a memory, numbers of bytes, what a store changes; of no program.
-/
namespace Go.Proofs.YtjfphjgmphlbhaaDoor
namespace Mm
open Wm (Bs isBs)

set_option maxRecDepth 100000 in
/-- The number that bytes have, the least one first. -/
def le : Bs → Int | [] => 0 | b :: r => b + 256 * le r
set_option maxRecDepth 100000 in
/-- The lowest bytes of a number, the least one first. -/
def el : Nat → Int → Bs | 0, _ => [] | k + 1, v => (v % 256) :: el k (v / 256)
set_option maxRecDepth 100000 in
theorem el_len (k : Nat) : ∀ v, (el k v).length = k := by induction k with | zero => intro v; rfl | succ k ih => intro v; simp [el, ih]
set_option maxRecDepth 100000 in
theorem el_bs (k : Nat) : ∀ v, isBs (el k v) := by
  induction k with
  | zero => intro v x hx; cases hx
  | succ k ih =>
    intro v x hx
    rcases List.mem_cons.1 hx with rfl | h
    · omega
    · exact ih _ x h
set_option maxRecDepth 100000 in
theorem el_get (k : Nat) : ∀ v i, i < k → (el k v)[i]? = some (v / 256 ^ i % 256) := by
  induction k with
  | zero => intro v i h; omega
  | succ k ih =>
    intro v i h
    cases i with
    | zero => simp [el]
    | succ i => rw [el, List.getElem?_cons_succ, ih _ _ (by omega), Int.pow_succ, Int.mul_comm, Int.ediv_ediv_of_nonneg (by omega : (0 : Int) ≤ 256)]
set_option maxRecDepth 100000 in
theorem le_nn {b : Bs} (h : isBs b) : 0 ≤ le b := by
  induction b with
  | nil => exact Int.le_refl _
  | cons x r ih =>
    have h1 := h x List.mem_cons_self
    have h2 := ih fun y hy => h y (List.mem_cons_of_mem _ hy)
    show 0 ≤ x + 256 * le r
    omega
set_option maxRecDepth 100000 in
theorem le_lt {b : Bs} (h : isBs b) : le b < 256 ^ b.length := by
  induction b with
  | nil => decide
  | cons x r ih =>
    have h1 := h x List.mem_cons_self
    have h2 := ih fun y hy => h y (List.mem_cons_of_mem _ hy)
    show x + 256 * le r < 256 ^ (r.length + 1)
    rw [Int.pow_succ]
    omega
set_option maxRecDepth 100000 in
theorem emod_split (v M : Int) (hM : 0 < M) : v % (256 * M) = v % 256 + 256 * (v / 256 % M) := by
  have h1 := Int.emod_add_mul_ediv v 256
  have h2 := Int.emod_add_mul_ediv (v / 256) M
  have l0 := Int.emod_nonneg (v / 256) (Int.ne_of_gt hM)
  have l1 := Int.emod_lt_of_pos (v / 256) hM
  have m0 := Int.emod_nonneg v (by omega : (256 : Int) ≠ 0)
  have m1 := Int.emod_lt_of_pos v (by omega : (0 : Int) < 256)
  have e : v = (v % 256 + 256 * (v / 256 % M)) + (256 * M) * (v / 256 / M) := by
    rw [Int.mul_assoc]
    generalize M * (v / 256 / M) = X at *
    generalize v / 256 % M = R at *
    omega
  refine (congrArg (· % (256 * M)) e).trans ?_
  refine (Int.add_mul_emod_self_left _ _ _).trans (Int.emod_eq_of_lt (by omega) ?_)
  generalize v / 256 % M = R at *
  omega
set_option maxRecDepth 100000 in
theorem le_el (k : Nat) : ∀ v, le (el k v) = v % 256 ^ k := by
  induction k with
  | zero => intro v; show (0 : Int) = v % 1; omega
  | succ k ih =>
    intro v
    show v % 256 + 256 * le (el k (v / 256)) = _
    rw [ih, Int.pow_succ, Int.mul_comm (256 ^ k) 256]
    rw [emod_split v _ (Int.pow_pos (by omega))]
set_option maxRecDepth 100000 in
theorem le_snoc (b : Bs) (x : Int) : le (b ++ [x]) = le b + 256 ^ b.length * x := by
  induction b with
  | nil => show x + 256 * 0 = 0 + 256 ^ 0 * x; omega
  | cons y r ih =>
    show y + 256 * le (r ++ [x]) = y + 256 * le r + 256 ^ (r.length + 1) * x
    rw [ih, Int.pow_succ, Int.mul_add, Int.mul_comm (256 ^ r.length) 256, Int.mul_assoc]
    omega

set_option maxRecDepth 100000 in
/-- Bytes laid over others from a place on. -/
def put (m : Bs) (o : Nat) (d : Bs) : Bs := m.take o ++ d ++ m.drop (o + d.length)
set_option maxRecDepth 100000 in
theorem put_len {m : Bs} {o : Nat} {d : Bs} (h : o + d.length ≤ m.length) : (put m o d).length = m.length := by
  unfold put; simp; omega
set_option maxRecDepth 100000 in
theorem put_bs {m : Bs} {o : Nat} {d : Bs} (hm : isBs m) (hd : isBs d) : isBs (put m o d) := by
  intro x hx
  unfold put at hx
  rcases List.mem_append.1 hx with h | h
  · rcases List.mem_append.1 h with h | h
    · exact hm x (List.mem_of_mem_take h)
    · exact hd x h
  · exact hm x (List.mem_of_mem_drop h)
set_option maxRecDepth 100000 in
theorem put_get {m : Bs} {o : Nat} {d : Bs} (h : o + d.length ≤ m.length) (i : Nat) : (put m o d)[i]? = if i < o then m[i]? else if i < o + d.length then d[i - o]? else m[i]? := by
  unfold put
  have h1 : (m.take o).length = o := by rw [List.length_take]; omega
  rw [List.append_assoc]
  by_cases a : i < o
  · rw [if_pos a, List.getElem?_append_left (by omega), List.getElem?_take, if_pos a]
  · rw [if_neg a, List.getElem?_append_right (by omega), h1]
    by_cases b : i < o + d.length
    · rw [if_pos b, List.getElem?_append_left (by omega)]
    · rw [if_neg b, List.getElem?_append_right (by omega), List.getElem?_drop]
      congr 1
      omega
set_option maxRecDepth 100000 in
theorem put_nil (m : Bs) (o : Nat) : put m o [] = m := by unfold put; simp
set_option maxRecDepth 100000 in
theorem put_app (m : Bs) (o : Nat) (d e : Bs) (h : o + (d.length + e.length) ≤ m.length) : put (put m o d) (o + d.length) e = put m o (d ++ e) := by
  have hl : (put m o d).length = m.length := put_len (by omega)
  apply List.ext_getElem?
  intro i
  rw [put_get (by omega), put_get (by omega), put_get (by simp; omega)]
  simp only [List.length_append]
  by_cases a : i < o
  · rw [if_pos a, if_pos a, if_pos (by omega)]
  · rw [if_neg a, if_neg a]
    by_cases b : i < o + d.length
    · rw [if_pos b, if_pos b, if_pos (by omega), List.getElem?_append_left (by omega)]
    · rw [if_neg b, if_neg b]
      by_cases c : i < o + d.length + e.length
      · rw [if_pos c, if_pos (by omega), List.getElem?_append_right (by omega)]
        congr 1
        omega
      · rw [if_neg c, if_neg (by omega)]
set_option maxRecDepth 100000 in
theorem put_same {m : Bs} {o : Nat} {d : Bs} (h : o + d.length ≤ m.length) : ((put m o d).drop o).take d.length = d := by
  apply List.ext_getElem?
  intro i
  rw [List.getElem?_take]
  by_cases a : i < d.length
  · rw [if_pos a, List.getElem?_drop, put_get h, if_neg (by omega), if_pos (by omega)]
    congr 1
    omega
  · rw [if_neg a, List.getElem?_eq_none (by omega)]
set_option maxRecDepth 100000 in
theorem put_other {m : Bs} {o : Nat} {d : Bs} (h : o + d.length ≤ m.length) {a s : Nat} (hs : a + s ≤ o ∨ o + d.length ≤ a) : ((put m o d).drop a).take s = (m.drop a).take s := by
  apply List.ext_getElem?
  intro i
  rw [List.getElem?_take, List.getElem?_take]
  by_cases c : i < s
  · rw [if_pos c, if_pos c, List.getElem?_drop, List.getElem?_drop, put_get h]
    by_cases e : a + i < o
    · rw [if_pos e]
    · rw [if_neg e, if_neg (by omega)]
  · rw [if_neg c, if_neg c]
set_option maxRecDepth 100000 in
theorem put_set (m : Bs) (o : Nat) (x : Int) (h : o < m.length) : put m o [x] = m.set o x := by
  apply List.ext_getElem?
  intro i
  rw [put_get (by simp; omega), List.getElem?_set]
  simp only [List.length_singleton]
  by_cases a : i < o
  · rw [if_pos a, if_neg (by omega)]
  · rw [if_neg a]
    by_cases b : i = o
    · subst b; rw [if_pos (by omega), if_pos rfl, if_pos h]; simp
    · rw [if_neg (by omega), if_neg (by omega)]
set_option maxRecDepth 100000 in
theorem put_self {m : Bs} {o k : Nat} (h : o + k ≤ m.length) : put m o ((m.drop o).take k) = m := by
  have hl : ((m.drop o).take k).length = k := by rw [List.length_take, List.length_drop]; omega
  apply List.ext_getElem?
  intro i
  rw [put_get (by omega), hl]
  by_cases a : i < o
  · rw [if_pos a]
  · rw [if_neg a]
    by_cases b : i < o + k
    · rw [if_pos b, List.getElem?_take, if_pos (by omega), List.getElem?_drop]
      congr 1
      omega
    · rw [if_neg b]

set_option maxRecDepth 100000 in
/-- Whether a place is there, in a memory of L bytes. -/
def There (L : Nat) (a s : Int) : Prop := (s = 1 ∨ s = 4 ∧ a % 4 = 0) ∧ 0 ≤ a ∧ s ≤ (L : Int) - a
instance (L : Nat) (a s : Int) : Decidable (There L a s) := by unfold There; exact inferInstance
set_option maxRecDepth 100000 in
/-- Whether n bytes are all inside. -/
def Inside (L : Nat) (a n : Int) : Prop := 0 ≤ a ∧ 0 ≤ n ∧ n ≤ (L : Int) - a
instance (L : Nat) (a n : Int) : Decidable (Inside L a n) := by unfold Inside; exact inferInstance
set_option maxRecDepth 100000 in
theorem There.inside {L : Nat} {a s : Int} (h : There L a s) : Inside L a s := by
  obtain ⟨h1, h2, h3⟩ := h
  exact ⟨h2, by omega, h3⟩

set_option maxRecDepth 100000 in
/-- What is loaded. -/
def ld (m : Bs) (a s : Int) : Int := if There m.length a s then le ((m.drop a.toNat).take s.toNat) else 0
set_option maxRecDepth 100000 in
/-- What a store makes. -/
def st (m : Bs) (a s v : Int) : Bs := if There m.length a s then put m a.toNat (el s.toNat v) else m
set_option maxRecDepth 100000 in
theorem st_len (m : Bs) (a s v : Int) : (st m a s v).length = m.length := by
  unfold st
  split
  · rename_i h
    obtain ⟨h1, h2, h3⟩ := h
    exact put_len (by rw [el_len]; omega)
  · rfl
set_option maxRecDepth 100000 in
theorem st_bs {m : Bs} (hm : isBs m) (a s v : Int) : isBs (st m a s v) := by
  unfold st
  split
  · exact put_bs hm (el_bs _ _)
  · exact hm
set_option maxRecDepth 100000 in
/-- Stores, one after the other. -/
def ap : Bs → List (Int × Int × Int) → Option Bs
  | m, [] => some m
  | m, w :: r => if There m.length w.1 w.2.1 then ap (put m w.1.toNat (el w.2.1.toNat w.2.2)) r else none
set_option maxRecDepth 100000 in
theorem ap_nil (m : Bs) : ap m [] = some m := rfl
set_option maxRecDepth 100000 in
theorem ap_cons (m : Bs) (w : Int × Int × Int) (r : List (Int × Int × Int)) : ap m (w :: r) = if There m.length w.1 w.2.1 then ap (put m w.1.toNat (el w.2.1.toNat w.2.2)) r else none := rfl
set_option maxRecDepth 100000 in
theorem ap_ok : ∀ (l : List (Int × Int × Int)) {m x : Bs}, isBs m → ap m l = some x → x.length = m.length ∧ isBs x := by
  intro l
  induction l with
  | nil => intro m x hm h; obtain rfl : m = x := by injection h
           exact ⟨rfl, hm⟩
  | cons w r ih =>
    intro m x hm h
    rw [ap_cons] at h
    split at h
    · rename_i ht
      obtain ⟨h1, h2, h3⟩ := ht
      have := ih (put_bs hm (el_bs _ _)) h
      exact ⟨this.1.trans (put_len (by rw [el_len]; omega)), this.2⟩
    · cases h
set_option maxRecDepth 100000 in
theorem ap_snoc : ∀ (l : List (Int × Int × Int)) (w : Int × Int × Int) (m : Bs), ap m (l ++ [w]) = (ap m l).bind fun x => if There x.length w.1 w.2.1 then some (put x w.1.toNat (el w.2.1.toNat w.2.2)) else none := by
  intro l
  induction l with
  | nil => intro w m; rfl
  | cons u r ih =>
    intro w m
    rw [List.cons_append, ap_cons, ap_cons]
    split
    · exact ih w _
    · rfl
set_option maxRecDepth 100000 in
theorem ap_app : ∀ (l r : List (Int × Int × Int)) (m : Bs), ap m (l ++ r) = (ap m l).bind fun x => ap x r := by
  intro l
  induction l with
  | nil => intro r m; rfl
  | cons u t ih =>
    intro r m
    rw [List.cons_append, ap_cons, ap_cons]
    split
    · exact ih r _
    · rfl

set_option maxRecDepth 100000 in
/-- What Write makes. -/
def wr (m : Bs) (a : Int) (d : Bs) : Bs := if Inside m.length a d.length then put m a.toNat d else m
set_option maxRecDepth 100000 in
/-- What Read gives. -/
def rd (m : Bs) (a n : Int) : Bs := if Inside m.length a n then (m.drop a.toNat).take n.toNat else []

set_option maxRecDepth 100000 in
/-- A page. -/
def pg (m : Bs) (i : Nat) : Bs := (m.drop (i * 128)).take 128
set_option maxRecDepth 100000 in
theorem pg_len {m : Bs} {n i : Nat} (h : m.length = n * 128) (hi : i < n) : (pg m i).length = 128 := by
  unfold pg; rw [List.length_take, List.length_drop]; omega
set_option maxRecDepth 100000 in
theorem pg_bs {m : Bs} (h : isBs m) (i : Nat) : isBs (pg m i) := fun x hx => h x (List.mem_of_mem_drop (List.mem_of_mem_take hx))
set_option maxRecDepth 100000 in
theorem pg_get {m : Bs} {i j : Nat} (hj : j < 128) : (pg m i)[j]? = m[i * 128 + j]? := by
  unfold pg; rw [List.getElem?_take, if_pos hj, List.getElem?_drop]
set_option maxRecDepth 100000 in
theorem pg_ext {x y : Bs} {n : Nat} (hx : x.length = n * 128) (hy : y.length = n * 128) (h : ∀ i, i < n → pg x i = pg y i) : x = y := by
  apply List.ext_getElem?
  intro j
  by_cases hj : j < n * 128
  · have h1 := congrArg (fun l : Bs => l[j % 128]?) (h (j / 128) (by omega))
    rw [pg_get (by omega), pg_get (by omega), show j / 128 * 128 + j % 128 = j by omega] at h1
    exact h1
  · rw [List.getElem?_eq_none (by omega), List.getElem?_eq_none (by omega)]

set_option maxRecDepth 100000 in
/-- Whether two memories differ at a page. -/
def dif (a b : Bs) (na nb i : Nat) : Bool := decide (na ≤ i) || decide (nb ≤ i) || !decide (pg a i = pg b i)
set_option maxRecDepth 100000 in
/-- The pages that differ. -/
def diff (a b : Bs) (na nb : Nat) : List Nat := (List.range (max na nb)).filter (dif a b na nb)
set_option maxRecDepth 100000 in
def diffTo (a b : Bs) (na nb k : Nat) : List Nat := (List.range k).filter (dif a b na nb)
set_option maxRecDepth 100000 in
theorem diffTo_succ (a b : Bs) (na nb k : Nat) : diffTo a b na nb (k + 1) = if dif a b na nb k then diffTo a b na nb k ++ [k] else diffTo a b na nb k := by
  unfold diffTo
  rw [List.range_succ, List.filter_append]
  cases h : dif a b na nb k <;> simp [h]
set_option maxRecDepth 100000 in
theorem diffTo_len (a b : Bs) (na nb k : Nat) : (diffTo a b na nb k).length ≤ k := by
  unfold diffTo
  exact Nat.le_trans (List.length_filter_le _ _) (by simp)
set_option maxRecDepth 100000 in
theorem diff_comm (a b : Bs) (na nb : Nat) : diff a b na nb = diff b a nb na := by
  unfold diff
  rw [Nat.max_comm]
  congr 1
  funext i
  unfold dif
  rw [Bool.or_comm (decide (na ≤ i)), show decide (pg a i = pg b i) = decide (pg b i = pg a i) from by rw [decide_eq_decide]; exact eq_comm]
set_option maxRecDepth 100000 in
theorem diff_nil {a b : Bs} {na nb : Nat} (ha : a.length = na * 128) (hb : b.length = nb * 128) : diff a b na nb = [] ↔ a = b := by
  unfold diff
  rw [List.filter_eq_nil_iff]
  constructor
  · intro h
    have hn : na = nb := by
      rcases Nat.lt_trichotomy na nb with h1 | h1 | h1
      · exact absurd (show dif a b na nb na = true by unfold dif; simp) (h na (List.mem_range.2 (by omega)))
      · exact h1
      · exact absurd (show dif a b na nb nb = true by unfold dif; simp) (h nb (List.mem_range.2 (by omega)))
    subst hn
    refine pg_ext ha hb fun i hi => ?_
    have h1 := h i (List.mem_range.2 (by omega))
    unfold dif at h1
    simp at h1
    exact h1.2
  · rintro rfl i hi
    have hn : na = nb := by omega
    subst hn
    have := List.mem_range.1 hi
    unfold dif
    simp
    omega
set_option maxRecDepth 100000 in
theorem diff_asc (a b : Bs) (na nb : Nat) : (diff a b na nb).Pairwise (· < ·) := by
  unfold diff
  exact List.Pairwise.filter _ List.pairwise_lt_range
set_option maxRecDepth 100000 in
theorem diff_lt (a b : Bs) (na nb : Nat) : ∀ i ∈ diff a b na nb, i < max na nb := fun _ hi => List.mem_range.1 (List.mem_filter.1 hi).1
set_option maxRecDepth 100000 in
/-- A list that is ascending and has one value alone. -/
theorem asc_one {l : List Nat} {k : Nat} (h : l.Pairwise (· < ·)) (hk : ∀ i ∈ l, i = k) : l = [] ∨ l = [k] := by
  cases l with
  | nil => exact .inl rfl
  | cons x r =>
    obtain rfl := hk x List.mem_cons_self
    cases r with
    | nil => exact .inr rfl
    | cons y t =>
      exfalso
      have h1 := hk y (List.mem_cons_of_mem _ List.mem_cons_self)
      have h2 := List.rel_of_pairwise_cons h (a' := y) List.mem_cons_self
      omega
set_option maxRecDepth 100000 in
theorem diff_st {m : Bs} {n : Nat} (hm : m.length = n * 128) {a s v : Int} (h : There m.length a s) : diff m (put m a.toNat (el s.toNat v)) n n = [] ∨ diff m (put m a.toNat (el s.toNat v)) n n = [a.toNat / 128] := by
  refine asc_one (diff_asc _ _ _ _) fun i hi => ?_
  have h1 := (List.mem_filter.1 hi).2
  have h2 := diff_lt _ _ _ _ i hi
  rw [Nat.max_self] at h2
  obtain ⟨h3, h4, h5⟩ := h
  apply Classical.byContradiction
  intro hne
  have hl : a.toNat + (el s.toNat v).length ≤ m.length := by rw [el_len]; omega
  have : pg m i = pg (put m a.toNat (el s.toNat v)) i := by
    unfold pg
    rw [put_other hl (by rw [el_len]; omega)]
  unfold dif at h1
  rw [decide_eq_true this, decide_eq_false (by omega)] at h1
  simp at h1

end Mm
end Go.Proofs.YtjfphjgmphlbhaaDoor

/-
  PLAIN MATHEMATICS OF IMAGES: their order, their memory, their encoding; of no program.
-/
namespace Go.Proofs.YtjfphjgmphlbhaaDoor
namespace Im
open Wm (Bs isBs)

abbrev Seg := Int × ByteArray
set_option maxRecDepth 100000 in
/-- Segments in order, from e on, in M bytes. -/
def ord (M : Int) : Int → List Seg → Bool
  | _, [] => true
  | e, x :: r => decide (0 < x.2.size ∧ e ≤ x.1 ∧ x.1 + x.2.size ≤ M) && ord M (x.1 + x.2.size) r
set_option maxRecDepth 100000 in
def entry (en M : Int) : Bool := decide (0 ≤ en ∧ en < M ∧ en % 4 = 0)
set_option maxRecDepth 100000 in
def chk (en p : Int) (L : List Seg) (m : Nat) : Int :=
  if 1 ≤ p ∧ p ≤ 64 ∧ entry en (p * 128) = true then (if 64 < L.length ∨ 64 < m then 2 else if ord (p * 128) 0 L = true then 0 else 3) else 7
set_option maxRecDepth 100000 in
theorem ord_cons {M e : Int} {x : Seg} {r : List Seg} : ord M e (x :: r) = true ↔ (0 < x.2.size ∧ e ≤ x.1 ∧ x.1 + x.2.size ≤ M) ∧ ord M (x.1 + x.2.size) r = true := by
  rw [ord, Bool.and_eq_true, decide_eq_true_eq]
set_option maxRecDepth 100000 in
theorem ord_bad {M e : Int} {x : Seg} {r : List Seg} (h : ¬ (0 < x.2.size ∧ e ≤ x.1 ∧ x.1 + x.2.size ≤ M)) : ord M e (x :: r) = false := by
  rw [ord, decide_eq_false h, Bool.false_and]
set_option maxRecDepth 100000 in
theorem chk_ok {en p : Int} {L : List Seg} {m : Nat} (h : chk en p L m = 0) : (1 ≤ p ∧ p ≤ 64) ∧ (0 ≤ en ∧ en < p * 128 ∧ en % 4 = 0) ∧ L.length ≤ 64 ∧ m ≤ 64 ∧ ord (p * 128) 0 L = true := by
  unfold chk at h
  split at h
  · rename_i h1
    obtain ⟨h1, h2, h3⟩ := h1
    split at h
    · omega
    · rename_i h4
      split at h
      · rename_i h5
        exact ⟨⟨h1, h2⟩, of_decide_eq_true h3, by omega, by omega, h5⟩
      · omega
  · omega
set_option maxRecDepth 100000 in
theorem chk_mk {en p : Int} {L : List Seg} {m : Nat} (h1 : 1 ≤ p ∧ p ≤ 64) (h2 : 0 ≤ en ∧ en < p * 128 ∧ en % 4 = 0) (h3 : L.length ≤ 64) (h4 : m ≤ 64) (h5 : ord (p * 128) 0 L = true) : chk en p L m = 0 := by
  unfold chk
  rw [if_pos ⟨h1.1, h1.2, decide_eq_true h2⟩, if_neg (by omega), if_pos h5]
set_option maxRecDepth 100000 in
theorem ord_mem {M e : Int} {L : List Seg} (h : ord M e L = true) : ∀ x ∈ L, 0 < x.2.size ∧ e ≤ x.1 ∧ x.1 + x.2.size ≤ M := by
  induction L generalizing e with
  | nil => intro x hx; cases hx
  | cons y r ih =>
    rw [ord_cons] at h
    intro x hx
    rcases List.mem_cons.1 hx with rfl | hx
    · exact h.1
    · have := ih h.2 x hx
      omega

set_option maxRecDepth 100000 in
/-- The bytes of the segments, laid over others. -/
def lay (b : Bs) (L : List Seg) : Bs := L.foldl (fun b x => Mm.put b x.1.toNat (Wm.ofS x.2)) b
set_option maxRecDepth 100000 in
theorem lay_nil (b : Bs) : lay b [] = b := rfl
set_option maxRecDepth 100000 in
theorem lay_snoc (b : Bs) (L : List Seg) (x : Seg) : lay b (L ++ [x]) = Mm.put (lay b L) x.1.toNat (Wm.ofS x.2) := by unfold lay; rw [List.foldl_append]; rfl
set_option maxRecDepth 100000 in
theorem lay_cons (b : Bs) (L : List Seg) (x : Seg) : lay b (x :: L) = lay (Mm.put b x.1.toNat (Wm.ofS x.2)) L := rfl
set_option maxRecDepth 100000 in
theorem lay_len {L : List Seg} {N : Nat} {e : Int} (he : 0 ≤ e) (h : ord (N : Int) e L = true) : ∀ {b : Bs}, b.length = N → (lay b L).length = N := by
  induction L generalizing e with
  | nil => intro b hb; exact hb
  | cons x r ih =>
    intro b hb
    rw [ord_cons] at h
    rw [lay_cons]
    refine ih (e := x.1 + x.2.size) (by omega) h.2 ?_
    rw [Mm.put_len (by rw [Wm.ofS_length, hb]; omega), hb]
set_option maxRecDepth 100000 in
theorem lay_bs {L : List Seg} : ∀ {b : Bs}, isBs b → isBs (lay b L) := by
  induction L with
  | nil => intro b hb; exact hb
  | cons x r ih => intro b hb; exact ih (Mm.put_bs hb (Wm.ofS_bytes _))

set_option maxRecDepth 100000 in
/-- What a scan of the segments finds for a place: the byte, and how many have it. -/
def scan (k : Int) (v h : Int) (L : List Seg) : Int × Int := L.foldl (fun q x => if x.1 ≤ k ∧ k < x.1 + x.2.size then ((Wm.ofS x.2).getD (k - x.1).toNat 0, q.2 + 1) else q) (v, h)
set_option maxRecDepth 100000 in
theorem scan_snoc (k v h : Int) (L : List Seg) (x : Seg) : scan k v h (L ++ [x]) = if x.1 ≤ k ∧ k < x.1 + x.2.size then ((Wm.ofS x.2).getD (k - x.1).toNat 0, (scan k v h L).2 + 1) else scan k v h L := by unfold scan; rw [List.foldl_append]; rfl
set_option maxRecDepth 100000 in
theorem scan_cons (k v h : Int) (L : List Seg) (x : Seg) : scan k v h (x :: L) = if x.1 ≤ k ∧ k < x.1 + x.2.size then scan k ((Wm.ofS x.2).getD (k - x.1).toNat 0) (h + 1) L else scan k v h L := by
  unfold scan; rw [List.foldl_cons]; split <;> rfl
set_option maxRecDepth 100000 in
theorem scan_none {M e k v h : Int} {L : List Seg} (ho : ord M e L = true) (hk : k < e) : scan k v h L = (v, h) := by
  induction L generalizing e with
  | nil => rfl
  | cons x r ih =>
    rw [ord_cons] at ho
    rw [scan_cons, if_neg (by omega)]
    exact ih ho.2 (by omega)
set_option maxRecDepth 100000 in
theorem lay_none {N : Nat} {e k : Int} {L : List Seg} (he : 0 ≤ e) (hk0 : 0 ≤ k) (ho : ord (N : Int) e L = true) (hk : k < e) : ∀ {b : Bs}, b.length = N → (lay b L).getD k.toNat 0 = b.getD k.toNat 0 := by
  induction L generalizing e with
  | nil => intro b _; rfl
  | cons x r ih =>
    intro b hb
    rw [ord_cons] at ho
    rw [lay_cons, ih (by omega) ho.2 (by omega) (by rw [Mm.put_len (by rw [Wm.ofS_length, hb]; omega), hb])]
    rw [List.getD_eq_getElem?_getD, List.getD_eq_getElem?_getD, Mm.put_get (by rw [Wm.ofS_length, hb]; omega), if_pos (by omega)]
set_option maxRecDepth 100000 in
theorem scan_lay {N : Nat} {e k : Int} {L : List Seg} (he : 0 ≤ e) (hk0 : 0 ≤ k) (ho : ord (N : Int) e L = true) : ∀ {b : Bs} (v h : Int), b.length = N →
    (scan k v h L = (v, h) ∧ (lay b L).getD k.toNat 0 = b.getD k.toNat 0) ∨ (scan k v h L = ((lay b L).getD k.toNat 0, h + 1)) := by
  induction L generalizing e with
  | nil => intro b v h _; exact .inl ⟨rfl, rfl⟩
  | cons x r ih =>
    intro b v h hb
    rw [ord_cons] at ho
    have hfit : x.1.toNat + (Wm.ofS x.2).length ≤ b.length := by rw [Wm.ofS_length, hb]; omega
    have hpl : (Mm.put b x.1.toNat (Wm.ofS x.2)).length = N := by rw [Mm.put_len hfit, hb]
    rw [scan_cons, lay_cons]
    by_cases hc : x.1 ≤ k ∧ k < x.1 + x.2.size
    · rw [if_pos hc]
      refine .inr ?_
      rw [scan_none ho.2 hc.2, lay_none (by omega) hk0 ho.2 hc.2 hpl]
      congr 1
      rw [List.getD_eq_getElem?_getD, List.getD_eq_getElem?_getD, Mm.put_get hfit, if_neg (by omega), if_pos (by rw [Wm.ofS_length]; omega)]
      congr 2
      omega
    · rw [if_neg hc]
      rcases ih (e := x.1 + x.2.size) (by omega) ho.2 (b := Mm.put b x.1.toNat (Wm.ofS x.2)) v h hpl with ⟨h1, h2⟩ | h1
      · refine .inl ⟨h1, h2.trans ?_⟩
        rw [List.getD_eq_getElem?_getD, List.getD_eq_getElem?_getD, Mm.put_get hfit]
        split
        · rfl
        · rename_i hq
          rw [if_neg (by rw [Wm.ofS_length]; omega)]
      · exact .inr h1

set_option maxRecDepth 100000 in
/-- Without the zeros at the end; at the beginning. -/
def rt (l : Bs) : Bs := (l.reverse.dropWhile (· == 0)).reverse
set_option maxRecDepth 100000 in
def lt (l : Bs) : Bs := l.dropWhile (· == 0)
set_option maxRecDepth 100000 in
def core (l : Bs) : Bs := lt (rt l)
set_option maxRecDepth 100000 in
def Zr (n : Nat) : Bs := List.replicate n 0
set_option maxRecDepth 100000 in
theorem lt_form (l : Bs) : l = Zr (l.length - (lt l).length) ++ lt l ∧ (lt l).length ≤ l.length := by
  induction l with
  | nil => exact ⟨rfl, Nat.le_refl _⟩
  | cons x r ih =>
    unfold lt at *
    by_cases hx : x = 0
    · subst hx
      rw [List.dropWhile_cons_of_pos (by rfl)]
      refine ⟨?_, by have := ih.2; simp only [List.length_cons]; omega⟩
      have e : (0 :: r).length - (r.dropWhile (· == 0)).length = (r.length - (r.dropWhile (· == 0)).length) + 1 := by have := ih.2; simp only [List.length_cons]; omega
      rw [e]
      show 0 :: r = List.replicate (_ + 1) 0 ++ _
      rw [List.replicate_succ, List.cons_append]
      congr 1
      exact ih.1
    · rw [List.dropWhile_cons_of_neg (by simpa using hx)]
      refine ⟨?_, Nat.le_refl _⟩
      rw [Nat.sub_self]; rfl
set_option maxRecDepth 100000 in
theorem lt_head (l : Bs) : ∀ x r, lt l = x :: r → x ≠ 0 := by
  induction l with
  | nil => intro x r h; cases h
  | cons y t ih =>
    intro x r h
    unfold lt at *
    by_cases hy : y = 0
    · subst hy; rw [List.dropWhile_cons_of_pos (by rfl)] at h; exact ih x r h
    · rw [List.dropWhile_cons_of_neg (by simpa using hy)] at h; injection h with h1 h2; rw [← h1]; exact hy
set_option maxRecDepth 100000 in
theorem rt_form (l : Bs) : l = rt l ++ Zr (l.length - (rt l).length) ∧ (rt l).length ≤ l.length := by
  have h := lt_form l.reverse
  unfold lt at h
  unfold rt
  rw [List.length_reverse] at h ⊢
  refine ⟨?_, h.2⟩
  have h1 := congrArg List.reverse h.1
  rw [List.reverse_reverse, List.reverse_append] at h1
  refine h1.trans ?_
  unfold Zr
  rw [List.reverse_replicate]
set_option maxRecDepth 100000 in
theorem rt_last (l : Bs) : ∀ x r, rt l = r ++ [x] → x ≠ 0 := by
  intro x r h
  refine lt_head l.reverse x r.reverse ?_
  unfold rt at h
  unfold lt
  have h1 := congrArg List.reverse h
  rwa [List.reverse_reverse, List.reverse_append] at h1
set_option maxRecDepth 100000 in
theorem core_len (l : Bs) : (core l).length ≤ (rt l).length ∧ (rt l).length ≤ l.length := ⟨(lt_form _).2, (rt_form l).2⟩
set_option maxRecDepth 100000 in
/-- Zeros, what is left, zeros. -/
theorem core_form (l : Bs) : l = Zr ((rt l).length - (core l).length) ++ core l ++ Zr (l.length - (rt l).length) := by
  conv => lhs; rw [(rt_form l).1]
  congr 1
  exact (lt_form (rt l)).1
set_option maxRecDepth 100000 in
theorem core_head (l : Bs) : ∀ x r, core l = x :: r → x ≠ 0 := lt_head _
set_option maxRecDepth 100000 in
theorem core_last (l : Bs) : ∀ x r, core l = r ++ [x] → x ≠ 0 := by
  intro x r h
  have h1 := (lt_form (rt l)).1
  have h2 : rt l = (Zr ((rt l).length - (lt (rt l)).length) ++ r) ++ [x] := by rw [List.append_assoc]; exact h1.trans (congrArg _ h)
  exact rt_last l _ _ h2
set_option maxRecDepth 100000 in
theorem core_bs {l : Bs} (h : isBs l) : isBs (core l) := by
  intro x hx
  refine h x ?_
  rw [core_form l]
  exact List.mem_append.2 (.inl (List.mem_append.2 (.inr hx)))
set_option maxRecDepth 100000 in
theorem rt_bs {l : Bs} (h : isBs l) : isBs (rt l) := by
  intro x hx
  refine h x ?_
  rw [(rt_form l).1]
  exact List.mem_append.2 (.inl hx)

set_option maxRecDepth 100000 in
/-- The page k. -/
def page (b : Bs) (k : Nat) : Bs := (b.drop (k * 128)).take 128
set_option maxRecDepth 100000 in
theorem page_len {b : Bs} {n k : Nat} (h : b.length = n * 128) (hk : k < n) : (page b k).length = 128 := by
  unfold page; rw [List.length_take, List.length_drop]; omega
set_option maxRecDepth 100000 in
theorem page_bs {b : Bs} (h : isBs b) (k : Nat) : isBs (page b k) := fun x hx => h x (List.mem_of_mem_drop (List.mem_of_mem_take hx))
set_option maxRecDepth 100000 in
def pseg (b : Bs) (k : Nat) : List Seg :=
  if core (page b k) = [] then [] else [(((k * 128 + ((rt (page b k)).length - (core (page b k)).length) : Nat) : Int), strOfNums (core (page b k)))]
set_option maxRecDepth 100000 in
/-- The segments of the first n pages. -/
def sgs (b : Bs) : Nat → List Seg
  | 0 => []
  | n + 1 => sgs b n ++ pseg b n
set_option maxRecDepth 100000 in
def fin (e : Int) (L : List Seg) : Int := L.foldl (fun _ x => x.1 + x.2.size) e
set_option maxRecDepth 100000 in
theorem ord_app {M : Int} {L R : List Seg} : ∀ {e : Int}, ord M e (L ++ R) = true ↔ ord M e L = true ∧ ord M (fin e L) R = true := by
  induction L with
  | nil => intro e; simp [ord, fin]
  | cons x r ih =>
    intro e
    rw [List.cons_append, ord_cons, ih, ord_cons]
    exact and_assoc.symm
set_option maxRecDepth 100000 in
theorem strN_size (b : Bs) : (strOfNums b).size = b.length := by
  unfold strOfNums ByteArray.size; simp
set_option maxRecDepth 100000 in
theorem sgs_fin {b : Bs} {n : Nat} (h : b.length = n * 128) (k : Nat) (hk : k ≤ n) : ord ((n * 128 : Nat) : Int) 0 (sgs b k) = true ∧ fin 0 (sgs b k) ≤ (k * 128 : Nat) ∧ (sgs b k).length ≤ k := by
  induction k with
  | zero => exact ⟨rfl, by show (0 : Int) ≤ ((0 * 128 : Nat) : Int); omega, Nat.le_refl _⟩
  | succ k ih =>
    obtain ⟨h1, h2, h3⟩ := ih (by omega)
    have hp := page_len h (show k < n by omega)
    have hc := core_len (page b k)
    rw [sgs, ord_app]
    unfold pseg
    split
    · rw [List.append_nil]; exact ⟨⟨h1, rfl⟩, by omega, by omega⟩
    · rename_i hne
      have hpos : 0 < (core (page b k)).length := List.length_pos_iff.2 hne
      have hkn : (k + 1) * 128 ≤ n * 128 := Nat.mul_le_mul_right _ hk
      refine ⟨⟨h1, ord_cons.2 ⟨⟨by simp only [strN_size]; exact hpos, by simp only; omega, by simp only [strN_size]; omega⟩, rfl⟩⟩, ?_, by rw [List.length_append, List.length_singleton]; omega⟩
      unfold fin
      rw [List.foldl_append]
      simp only [List.foldl_cons, List.foldl_nil, strN_size]
      omega
set_option maxRecDepth 100000 in
theorem put_mid {A Z R d : Bs} (h : Z.length = d.length) : Mm.put (A ++ (Z ++ R)) A.length d = A ++ (d ++ R) := by
  unfold Mm.put
  rw [List.take_left, ← h, List.append_assoc]
  congr 2
  rw [← List.length_append, ← List.append_assoc, List.drop_left]
set_option maxRecDepth 100000 in
theorem Zr_add (a b : Nat) : Zr (a + b) = Zr a ++ Zr b := List.replicate_append_replicate.symm
set_option maxRecDepth 100000 in
theorem take_page (b : Bs) (k : Nat) : b.take ((k + 1) * 128) = b.take (k * 128) ++ page b k := by
  unfold page
  rw [show (k + 1) * 128 = k * 128 + 128 by omega, List.take_add]
set_option maxRecDepth 100000 in
/-- The memory of the segments is the memory that they were made of. -/
theorem lay_sgs {b : Bs} {n : Nat} (hb : isBs b) (h : b.length = n * 128) (k : Nat) (hk : k ≤ n) : lay (Zr (n * 128)) (sgs b k) = b.take (k * 128) ++ Zr ((n - k) * 128) := by
  induction k with
  | zero => rw [Nat.zero_mul, List.take_zero]; rfl
  | succ k ih =>
    have ih := ih (by omega)
    have hp := page_len h (show k < n by omega)
    have hc := core_len (page b k)
    have hf := core_form (page b k)
    rw [hp] at hf hc
    have e0 : (n - k) * 128 = 128 + (n - (k + 1)) * 128 := by omega
    rw [take_page b k, sgs]
    unfold pseg
    split
    · rename_i hne
      rw [List.append_nil, ih, e0, Zr_add, ← List.append_assoc]
      congr 2
      rw [hne, List.append_nil, List.length_nil, ← Zr_add] at hf
      rw [hf]
      congr 1
      omega
    · rename_i hne
      rw [lay_snoc, ih]
      simp only [Int.toNat_natCast]
      rw [Wm.ofS_str (core_bs (page_bs hb k))]
      generalize hX : core (page b k) = X at *
      generalize hY : (rt (page b k)).length = Y at *
      have hkl : (b.take (k * 128)).length = k * 128 := by rw [List.length_take, h]; have := Nat.mul_le_mul_right 128 (show k ≤ n by omega); omega
      have e1 : (n - k) * 128 = (Y - X.length) + (X.length + ((128 - Y) + (n - (k + 1)) * 128)) := by omega
      rw [e1, Zr_add, Zr_add, Zr_add, ← List.append_assoc]
      have e2 : k * 128 + (Y - X.length) = (b.take (k * 128) ++ Zr (Y - X.length)).length := by rw [List.length_append, hkl]; unfold Zr; rw [List.length_replicate]
      rw [e2, put_mid (by unfold Zr; rw [List.length_replicate])]
      conv => rhs; rw [hf]
      simp only [List.append_assoc]
set_option maxRecDepth 100000 in
theorem lay_all {b : Bs} {n : Nat} (hb : isBs b) (h : b.length = n * 128) : lay (Zr (n * 128)) (sgs b n) = b := by
  rw [lay_sgs hb h n (Nat.le_refl _), Nat.sub_self, Nat.zero_mul, List.take_of_length_le (by omega)]
  exact List.append_nil _

set_option maxRecDepth 100000 in
/-- The encoding. -/
def nums (en p : Int) (L : List Seg) (m : Nat) : List Int := [en, p, (m : Int)] ++ L.map (·.1)
set_option maxRecDepth 100000 in
def secs (d : Bs) (m : Nat) : List Bs := (List.range m).map (page d)
set_option maxRecDepth 100000 in
def texts (L : List Seg) (d : Bs) (m : Nat) : List Bs := L.map (fun x => Wm.ofS x.2) ++ secs d m
set_option maxRecDepth 100000 in
def enc (en p : Int) (L : List Seg) (d : Bs) (m : Nat) : Bs := Wm.encL Wm.encI (nums en p L m) ++ Wm.encL Wm.encB (texts L d m)
end Im
end Go.Proofs.YtjfphjgmphlbhaaDoor

/-
  PLAIN MATHEMATICS OF IMAGES: decoding; of no program.
-/
namespace Go.Proofs.YtjfphjgmphlbhaaDoor
namespace Wm
section
variable {α : Type} {get : Bs → α × Nat × Int}
set_option maxRecDepth 100000 in
theorem decE_all {P : α → Prop} {N : Nat} (hg : ∀ b x k, isBs b → b.length ≤ N → get b = (x, k, 0) → P x) (n : Nat) : ∀ (b : Bs) (l : List α) (u : Nat), isBs b → b.length ≤ N → decE get n b = (l, u, 0) → ∀ x ∈ l, P x := by
  induction n with
  | zero => intro b l u _ _ h; cases h; intro x hx; cases hx
  | succ n ih =>
    intro b l u hb hN h
    unfold decE at h
    obtain ⟨x, k, e, hr⟩ : ∃ x k e, get b = (x, k, e) := ⟨_, _, _, rfl⟩
    rw [hr] at h
    simp only at h
    split at h
    · rename_i he; cases h; exact absurd rfl he
    rename_i he
    obtain rfl : e = 0 := by simpa using he
    obtain ⟨l', u', e', hr'⟩ : ∃ l' u' e', decE get n (b.drop k) = (l', u', e') := ⟨_, _, _, rfl⟩
    rw [hr'] at h
    simp only at h
    split at h
    · rename_i he'; cases h; exact absurd rfl he'
    rename_i he'
    obtain rfl : e' = 0 := by simpa using he'
    have h1 := ih (b.drop k) l' u' (fun y hy => hb y (List.mem_of_mem_drop hy)) (by rw [List.length_drop]; omega) hr'
    cases h
    intro y hy
    rcases List.mem_cons.1 hy with rfl | hy
    · exact hg b _ k hb hN hr
    · exact h1 y hy
set_option maxRecDepth 100000 in
theorem decL_all {P : α → Prop} {N : Nat} (hg : ∀ b x k, isBs b → b.length ≤ N → get b = (x, k, 0) → P x) {least : Nat} {b : Bs} {l : List α} {u : Nat} {e : Int} (hb : isBs b) (hN : b.length ≤ N) (h : decL get least b = (l, u, e)) : ∀ x ∈ l, P x := by
  unfold decL at h
  split at h
  · cases h; intro x hx; cases hx
  split at h
  · cases h; intro x hx; cases hx
  · rename_i h2
    obtain ⟨l', u', e', hr'⟩ : ∃ l' u' e', decE get (decLen b least).1.toNat (b.drop (decLen b least).2.1) = (l', u', e') := ⟨_, _, _, rfl⟩
    rw [hr'] at h h2
    obtain rfl : e' = 0 := by simpa using h2
    have h1 := decE_all hg _ _ l' u' (fun y hy => hb y (List.mem_of_mem_drop hy)) (by rw [List.length_drop]; omega) hr'
    cases h
    exact h1
set_option maxRecDepth 100000 in
theorem decL_err {least : Nat} {b : Bs} {l : List α} {u : Nat} {e : Int} (h : decL get least b = (l, u, e)) (he : e ≠ 0) : l = [] ∧ u = 0 := by
  unfold decL at h
  split at h
  · cases h; exact ⟨rfl, rfl⟩
  split at h
  · cases h; exact ⟨rfl, rfl⟩
  · cases h; exact absurd rfl he
end
set_option maxRecDepth 100000 in
theorem encI_list_len (l : List Int) : l.length ≤ (l.flatMap encI).length := by
  induction l with
  | nil => simp
  | cons x r ih => rw [List.flatMap_cons, List.length_append, List.length_cons]; have := encI_pos x; omega
set_option maxRecDepth 100000 in
theorem encB_list_len (l : List Bs) : l.length ≤ (l.flatMap encB).length := by
  induction l with
  | nil => simp
  | cons x r ih => rw [List.flatMap_cons, List.length_append, List.length_cons, encB_len]; have := encI_pos x.length; omega
set_option maxRecDepth 100000 in
/-- What a decoder of integers answers. -/
theorem ints_dec {b : Bs} (hb : isBs b) {l : List Int} {u : Nat} {e : Int} (h : decL decI 1 b = (l, u, e)) :
    u ≤ b.length ∧ l.length ≤ b.length ∧ (∀ x ∈ l, -9223372036854775808 ≤ x ∧ x ≤ 9223372036854775807) ∧ (e = 0 → b.take u = encL encI l) := by
  have hall := decL_all (P := fun x : Int => -9223372036854775808 ≤ x ∧ x ≤ 9223372036854775807) (N := b.length) (fun b x k hb _ h => by
    rcases decI_ok hb h with ⟨_, _, _, _, h3, h4, _⟩ | ⟨_, _, a⟩
    · exact ⟨h3, h4⟩
    · rcases a with a | a <;> cases a) hb (Nat.le_refl _) h
  by_cases he : e = 0
  · subst he
    obtain ⟨h1, h2⟩ := decL_can decI_can (by decide) hb h
    refine ⟨h1, ?_, hall, fun _ => h2⟩
    have h3 := congrArg List.length h2
    rw [List.length_take, Nat.min_eq_left h1] at h3
    unfold encL at h3
    rw [List.length_append] at h3
    have := encI_list_len l
    omega
  · obtain ⟨rfl, rfl⟩ := decL_err h he
    exact ⟨Nat.zero_le _, Nat.zero_le _, hall, fun h => absurd h he⟩
set_option maxRecDepth 100000 in
theorem strs_dec {b : Bs} (hb : isBs b) {l : List Bs} {u : Nat} {e : Int} (h : decL decB 1 b = (l, u, e)) :
    u ≤ b.length ∧ l.length ≤ b.length ∧ (∀ x ∈ l, isBs x ∧ x.length ≤ b.length) ∧ (e = 0 → b.take u = encL encB l) := by
  have hall := decL_all (P := fun x : Bs => isBs x ∧ x.length ≤ b.length) (N := b.length) (fun b' x k hb hN h => by
    obtain ⟨h1, h2⟩ := decB_can b' x k hb h
    have h3 := congrArg List.length h2
    rw [List.length_take, Nat.min_eq_left h1, encB_len] at h3
    refine ⟨fun y hy => ?_, by omega⟩
    have : y ∈ b'.take k := by rw [h2]; exact List.mem_append.2 (.inr hy)
    exact hb y (List.mem_of_mem_take this)) hb (Nat.le_refl _) h
  by_cases he : e = 0
  · subst he
    obtain ⟨h1, h2⟩ := decL_can decB_can (by decide) hb h
    refine ⟨h1, ?_, hall, fun _ => h2⟩
    have h3 := congrArg List.length h2
    rw [List.length_take, Nat.min_eq_left h1] at h3
    unfold encL at h3
    rw [List.length_append] at h3
    have := encB_list_len l
    omega
  · obtain ⟨rfl, rfl⟩ := decL_err h he
    exact ⟨Nat.zero_le _, Nat.zero_le _, hall, fun h => absurd h he⟩
end Wm
namespace Im
open Wm (Bs isBs)
set_option maxRecDepth 100000 in
/-- The segments that places and texts make. -/
def zS (pl : List Int) (ts : List Bs) (k : Nat) : List Seg := (List.range k).map fun j => (pl.getD j 0, strOfNums (ts.getD j []))
set_option maxRecDepth 100000 in
/-- The sectors, from text n on. -/
def dK (ts : List Bs) (n k : Nat) : Bs := (List.range k).flatMap fun j => ts.getD (n + j) []
set_option maxRecDepth 100000 in
theorem zS_succ (pl : List Int) (ts : List Bs) (k : Nat) : zS pl ts (k + 1) = zS pl ts k ++ [(pl.getD k 0, strOfNums (ts.getD k []))] := by unfold zS; rw [List.range_succ, List.map_append]; rfl
set_option maxRecDepth 100000 in
theorem dK_succ (ts : List Bs) (n k : Nat) : dK ts n (k + 1) = dK ts n k ++ ts.getD (n + k) [] := by unfold dK; rw [List.range_succ, List.flatMap_append]; simp
set_option maxRecDepth 100000 in
theorem zS_len (pl : List Int) (ts : List Bs) (k : Nat) : (zS pl ts k).length = k := by unfold zS; simp
end Im
end Go.Proofs.YtjfphjgmphlbhaaDoor
