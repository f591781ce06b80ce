/-
  PLAIN FACTS, OF NO PROGRAM BUT ITS STRINGS: the sources of a number, as one token each.
-/
import Derived.Test.YtjopadfkdpcjmaaDoorLexNum
import Derived.Test.YtjopadfkdpcjmaaDoorLexY
import Derived.Lib.Repeat
namespace Go.Proofs.YtjopadfkdpcjmaaDoor
open Go.RowKit Go.ChangeShapes Go.WideShapes Go.ChangeAt

/-- The token of a number. -/
def numT (n : Nat) : Lx.Tok := ⟨2, 0, (n : Int), []⟩
theorem print_num {n : Nat} (hn : n ≤ 4294967295) : Lx.Print [numT n] = (Lx.dec n, 0) := by
  have hr : Lx.right (numT n) = true := by
    unfold Lx.right numT
    rw [if_neg (show ¬ (2 : Int) = 1 by decide), if_pos rfl]
    simp only [decide_true, Bool.true_and, decide_eq_true_eq]
    omega
  have hp : Lx.pr true [numT n] = Lx.dec n := by
    show ([] : Lx.Str) ++ (Lx.src (numT n) ++ []) = _
    rw [List.nil_append, List.append_nil]
    unfold Lx.src numT
    rw [if_pos rfl]
    simp only
    rw [Int.toNat_natCast]
  have hl := dec_len 9 n (by omega)
  unfold Lx.Print
  rw [if_pos (by rw [List.all_cons, hr]; rfl), hp, if_pos (by omega)]
theorem word_one {w : Lx.Str} {n : Nat} (hne : w ≠ []) (hd : Lx.digitB (w.headD 0) = true) (hw : ∀ x ∈ w, Lx.wordB x = true) (hl : w.length ≤ 16384) (h : Lx.number w = some n) : Lx.Tokens w = ([numT n], 0, 0) := by
  cases w with
  | nil => exact absurd rfl hne
  | cons c r => exact Lx.tokens_some hd hw hl h
theorem tokens_dec {n : Nat} (hn : n ≤ 4294967295) : Lx.Tokens (Lx.dec n) = ([numT n], 0, 0) := by
  have hd := Lx.dec_digits n n (Nat.le_refl _)
  have hl := dec_len 9 n (by omega)
  refine word_one (Lx.dec_ne n) ?_ (fun x hx => Lx.digit_word (hd x hx)) (by omega) (Lx.number_dec (by unfold Lx.maxN; omega))
  cases h : Lx.dec n with
  | nil => exact absurd h (Lx.dec_ne n)
  | cons c r => exact hd c (by rw [h]; simp)
theorem tokens_zeros {k n : Nat} (hk : k ≤ 8) (hn : n ≤ 4294967295) : Lx.Tokens (List.replicate k 48 ++ Lx.dec n) = ([numT n], 0, 0) := by
  have hd : ∀ c ∈ List.replicate k 48 ++ Lx.dec n, Lx.digitB c = true := by
    intro c hc
    rcases List.mem_append.1 hc with h | h
    · rw [List.eq_of_mem_replicate h]; decide
    · exact Lx.dec_digits n n (Nat.le_refl _) c h
  have hl := dec_len 9 n (by omega)
  have hne : List.replicate k 48 ++ Lx.dec n ≠ [] := by
    intro h
    exact Lx.dec_ne n (List.append_eq_nil_iff.1 h).2
  refine word_one hne ?_ (fun x hx => Lx.digit_word (hd x hx)) (by rw [List.length_append, List.length_replicate]; omega) (Lx.number_zeros k n (by unfold Lx.maxN; omega))
  cases h : List.replicate k 48 ++ Lx.dec n with
  | nil => exact absurd h hne
  | cons c r => exact hd c (by rw [h]; simp)
theorem hexD_word (d : Nat) (h : d < 16) : Lx.wordB (Lx.hexD d) = true := by
  have : ∀ d : Fin 16, Lx.wordB (Lx.hexD d) = true := by decide +kernel
  exact this ⟨d, h⟩
theorem hexS_word : ∀ (k n : Nat), ∀ c ∈ Lx.hexS k n, Lx.wordB c = true := by
  intro k
  induction k with
  | zero => intro n c hc; cases hc
  | succ k ih =>
    intro n c hc
    rw [Lx.hexS] at hc
    rcases List.mem_append.1 hc with h | h
    · exact ih _ c h
    · rw [List.mem_singleton.1 h]; exact hexD_word _ (by omega)
theorem tokens_hex {n : Nat} (hn : n ≤ 4294967295) : Lx.Tokens (48 :: 120 :: Lx.hexS 8 n) = ([numT n], 0, 0) := by
  refine word_one (by simp) (show Lx.digitB 48 = true by decide) ?_ (by rw [List.length_cons, List.length_cons, Lx.hexS_len]; omega) (Lx.number_hex n (by unfold Lx.maxN; omega))
  intro c hc
  rcases List.mem_cons.1 hc with rfl | hc
  · decide
  rcases List.mem_cons.1 hc with rfl | hc
  · decide
  exact hexS_word _ _ c hc
theorem tokens_more (d : Nat) (h : d < 10) : Lx.Tokens (Lx.maxS ++ [UInt8.ofNat (48 + d)]) = ([], 0, 71) := by
  have hd : Lx.digitB (UInt8.ofNat (48 + d)) = true := by
    have : ∀ d : Fin 10, Lx.digitB (UInt8.ofNat (48 + d.1)) = true := by decide +kernel
    exact this ⟨d, h⟩
  refine Lx.tokens_none (c := 52) (by decide) ?_ (by simp) (Lx.number_more _ hd)
  intro x hx
  have h2 : x ∈ Lx.maxS ++ [UInt8.ofNat (48 + d)] := hx
  rcases List.mem_append.1 h2 with h3 | h3
  · exact Lx.digit_word (List.all_eq_true.1 (by decide : (Lx.maxS.all Lx.digitB) = true) x h3)
  · rw [List.mem_singleton.1 h3]; exact Lx.digit_word hd
theorem dec_max : Lx.dec 4294967295 = Lx.maxS := by decide +kernel
theorem rep_zeros : ∀ k, Lib.repeatL [48] k = List.replicate k 48
  | 0 => rfl
  | k + 1 => by rw [Lib.repeatL, rep_zeros k, List.replicate_succ]; rfl
/-- The first j hexadecimal digits, of eight. -/
def hexP (n j : Nat) : Lx.Str := Lx.hexS j (n / 16 ^ (8 - j))
theorem hexP_zero (n : Nat) : hexP n 0 = [] := rfl
theorem hexP_all (n : Nat) : hexP n 8 = Lx.hexS 8 n := by unfold hexP; rw [Nat.sub_self, Nat.pow_zero, Nat.div_one]
theorem hexP_next (n j : Nat) (h : j < 8) : hexP n (j + 1) = hexP n j ++ [Lx.hexD (n / 16 ^ (7 - j) % 16)] := by
  unfold hexP
  rw [Lx.hexS, show 8 - (j + 1) = 7 - j by omega, Nat.div_div_eq_div_mul, ← Nat.pow_succ, show (7 - j).succ = 8 - j by omega]
end Go.Proofs.YtjopadfkdpcjmaaDoor
