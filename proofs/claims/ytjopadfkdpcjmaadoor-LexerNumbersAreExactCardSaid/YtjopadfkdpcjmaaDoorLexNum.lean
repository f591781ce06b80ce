/-
  PLAIN FACTS, OF NO PROGRAM: numbers as the lexer reads them: zeros before, hexadecimal digits, one digit too many.
-/
import Derived.Test.YtjopadfkdpcjmaaDoorLexMath
namespace Go.Proofs.YtjopadfkdpcjmaaDoor
namespace Lx

theorem val_zeros (k : Nat) (l : Str) : val 10 0 (List.replicate k 48 ++ l) = val 10 0 l := by
  induction k with
  | zero => rfl
  | succ k ih =>
    rw [List.replicate_succ, List.cons_append, val, if_pos (by decide), if_pos (by decide)]
    exact ih
/-- Zeros before a number change nothing. -/
theorem number_zeros (k n : Nat) (hn : n ≤ maxN) : number (List.replicate k 48 ++ dec n) = some n := by
  rw [number_digits, val_zeros, val_dec n n (Nat.le_refl _) hn]
  intro c hc
  rcases List.mem_append.1 hc with h | h
  · rw [List.eq_of_mem_replicate h]; decide
  · exact dec_digits n n (Nat.le_refl _) c h
theorem takeWhile_all {p : UInt8 → Bool} : ∀ {l : Str}, (∀ c ∈ l, p c = true) → l.takeWhile p = l := by
  intro l
  induction l with
  | nil => intro _; rfl
  | cons c r ih =>
    intro h
    rw [List.takeWhile_cons, if_pos (h c (by simp)), ih (fun x hx => h x (by simp [hx]))]
/-- A source that is one word, with a digit at its beginning. -/
theorem tokens_word {c : UInt8} {r : Str} (hd : digitB c = true) (hw : ∀ x ∈ c :: r, wordB x = true) (hl : (c :: r).length ≤ 16384) :
    Tokens (c :: r) = match number (c :: r) with | some n => ([⟨2, 0, (n : Int), []⟩], 0, 0) | none => ([], 0, 71) := by
  unfold Tokens
  rw [if_pos hl, toks_cons]
  have h1 : spaceB c = false ∧ c ≠ 59 ∧ letterB c = false := by
    have := all256 (p := fun c => !digitB c || (!spaceB c && (decide (c ≠ 59) && !letterB c))) (by decide +kernel) c
    simp only [hd, Bool.not_true, Bool.false_or, Bool.and_eq_true, Bool.not_eq_true', decide_eq_true_eq] at this
    exact ⟨this.1, this.2.1, this.2.2⟩
  have hword : word (c :: r) = c :: r := takeWhile_all hw
  have ht : tok1 (c :: r) = match number (c :: r) with | some n => (⟨2, 0, (n : Int), []⟩, (c :: r).length, 0) | none => (Tok.zero, 0, 71) := by
    rw [tok1_cons, h1.2.2, hd, hword, if_neg (by simp), if_pos rfl]
    cases number (c :: r) <;> rfl
  rw [h1.1, if_neg (by simp), if_neg h1.2.1, ht]
  cases number (c :: r) with
  | some n =>
    simp only
    rw [if_pos trivial, List.drop_length, toks_nil]
    rfl
  | none =>
    simp only
    rw [if_neg (by decide)]
theorem tokens_some {c : UInt8} {r : Str} {n : Nat} (hd : digitB c = true) (hw : ∀ x ∈ c :: r, wordB x = true) (hl : (c :: r).length ≤ 16384) (h : number (c :: r) = some n) : Tokens (c :: r) = ([⟨2, 0, (n : Int), []⟩], 0, 0) := by
  rw [tokens_word hd hw hl, h]
theorem tokens_none {c : UInt8} {r : Str} (hd : digitB c = true) (hw : ∀ x ∈ c :: r, wordB x = true) (hl : (c :: r).length ≤ 16384) (h : number (c :: r) = none) : Tokens (c :: r) = ([], 0, 71) := by
  rw [tokens_word hd hw hl, h]
/-- The greatest number, and a digit behind it. -/
def maxS : Str := [52, 50, 57, 52, 57, 54, 55, 50, 57, 53]
theorem number_more (d : UInt8) (hd : digitB d = true) : number (maxS ++ [d]) = none := by
  rw [number_digits (by
    intro c hc
    rcases List.mem_append.1 hc with h | h
    · exact List.all_eq_true.1 (by decide : (maxS.all digitB) = true) c h
    · rw [List.mem_singleton.1 h]; exact hd), val_app, show val 10 0 maxS = some 4294967295 by decide +kernel]
  simp only
  rw [val]
  split
  · rw [if_neg (by unfold maxN; omega)]
  · rfl
/-- The k hexadecimal digits of n. -/
def hexS : Nat → Nat → Str
  | 0, _ => []
  | k + 1, n => hexS k (n / 16) ++ [hexD (n % 16)]
theorem hexV_hexD (d : Nat) (h : d < 16) : hexV (hexD d) = d := by
  have : ∀ d : Fin 16, hexV (hexD d) = d := by decide +kernel
  exact this ⟨d, h⟩
theorem val_hex : ∀ (k n : Nat), n < 16 ^ k → n ≤ maxN → val 16 0 (hexS k n) = some n := by
  intro k
  induction k with
  | zero =>
    intro n h _
    obtain rfl : n = 0 := by simpa using h
    rfl
  | succ k ih =>
    intro n h hm
    rw [hexS, val_app, ih (n / 16) (by rw [Nat.div_lt_iff_lt_mul (by omega)]; rw [Nat.pow_succ] at h; exact h) (by omega)]
    simp only
    rw [val, hexV_hexD _ (by omega), if_pos (by omega), if_pos (by omega), val]
    congr 1
    omega
theorem hexS_len : ∀ (k n : Nat), (hexS k n).length = k := by
  intro k
  induction k with
  | zero => intro n; rfl
  | succ k ih => intro n; rw [hexS, List.length_append, ih]; rfl
theorem number_hex (n : Nat) (hn : n ≤ maxN) : number (48 :: 120 :: hexS 8 n) = some n := by
  unfold number
  rw [if_pos ⟨by rw [List.length_cons, List.length_cons, hexS_len]; omega, rfl⟩]
  exact val_hex 8 n (by unfold maxN at hn; omega) hn
end Lx
end Go.Proofs.YtjopadfkdpcjmaaDoor
