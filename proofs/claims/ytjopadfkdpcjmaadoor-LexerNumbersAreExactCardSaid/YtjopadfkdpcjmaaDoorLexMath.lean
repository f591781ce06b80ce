/-
  PLAIN FACTS, OF NO PROGRAM: tokens of texts.
-/
namespace Go.Proofs.YtjopadfkdpcjmaaDoor
namespace Lx

abbrev Str := List UInt8

def letterB (c : UInt8) : Bool := decide (97 ≤ c.toNat ∧ c.toNat ≤ 122) || (decide (65 ≤ c.toNat ∧ c.toNat ≤ 90) || (decide (c.toNat = 95) || decide (c.toNat = 46)))
def digitB (c : UInt8) : Bool := decide (48 ≤ c.toNat ∧ c.toNat ≤ 57)
def wordB (c : UInt8) : Bool := letterB c || digitB c
def signL : Str := [44, 58, 40, 41, 91, 93, 123, 125, 61, 43, 45, 42, 47, 60, 62, 64, 124, 38, 33]
def signB (c : UInt8) : Bool := signL.contains c
def plainB (c : UInt8) : Bool := decide (32 ≤ c.toNat ∧ c.toNat ≤ 126)
def spaceB (c : UInt8) : Bool := decide (c.toNat = 32) || (decide (c.toNat = 9) || decide (c.toNat = 13))
/-- The value of a hexadecimal digit; 16 and more for another byte. -/
def hexV (c : UInt8) : Nat := if 48 ≤ c.toNat ∧ c.toNat ≤ 57 then c.toNat - 48 else if 97 ≤ c.toNat ∧ c.toNat ≤ 102 then c.toNat - 87 else 99
def maxN : Nat := 4294967295
def val (base : Nat) : Nat → Str → Option Nat
  | acc, [] => some acc
  | acc, c :: r => if hexV c < base then (if acc * base + hexV c ≤ maxN then val base (acc * base + hexV c) r else none) else none
def number (w : Str) : Option Nat := if 3 ≤ w.length ∧ w.take 2 = [48, 120] then val 16 0 (w.drop 2) else val 10 0 w
/-- The letters and digits at the beginning. -/
def word (l : Str) : Str := l.takeWhile wordB

structure Tok where
  kind : Int
  at_ : Int
  n : Int
  s : Str
  deriving DecidableEq
def Tok.zero : Tok := ⟨0, 0, 0, []⟩

/-- What an escape says: the source behind the backslash; 0 bytes if it is none. -/
def esc : Str → UInt8 × Nat
  | [] => (0, 0)
  | c :: r => if c = 110 then (10, 2) else if c = 34 ∨ c = 92 then (c, 2) else
    if c = 120 then (match r with
      | a :: b :: _ => if hexV a < 16 ∧ hexV b < 16 then (UInt8.ofNat (16 * hexV a + hexV b), 4) else (0, 0)
      | _ => (0, 0)) else (0, 0)
def part : Str → UInt8 × Nat
  | [] => (0, 0)
  | c :: r => if c = 92 then esc r else if plainB c then (c, 1) else (0, 0)
theorem esc_size (l : Str) : (esc l).2 = 0 ∧ (esc l).1 = 0 ∨ (esc l).2 = 2 ∧ 1 ≤ l.length ∨ (esc l).2 = 4 ∧ 3 ≤ l.length := by
  unfold esc
  split
  · exact .inl ⟨rfl, rfl⟩
  · split
    · exact .inr (.inl ⟨rfl, by simp⟩)
    split
    · exact .inr (.inl ⟨rfl, by simp⟩)
    split
    · split
      · split
        · exact .inr (.inr ⟨rfl, by simp⟩)
        · exact .inl ⟨rfl, rfl⟩
      · exact .inl ⟨rfl, rfl⟩
    · exact .inl ⟨rfl, rfl⟩
theorem part_size (l : Str) : (part l).2 = 0 ∧ (part l).1 = 0 ∨ 1 ≤ (part l).2 ∧ (part l).2 ≤ l.length := by
  unfold part
  split
  · exact .inl ⟨rfl, rfl⟩
  · rename_i c r
    split
    · rw [List.length_cons]
      rcases esc_size r with h | h | h
      · exact .inl h
      · exact .inr (by omega)
      · exact .inr (by omega)
    split
    · exact .inr ⟨by simp, by simp⟩
    · exact .inl ⟨rfl, rfl⟩
/-- A text: what it says, and how many bytes up to its end; 0 if it has none. -/
def textF : Nat → Str → Str × Nat
  | 0, _ => ([], 0)
  | _ + 1, [] => ([], 0)
  | f + 1, c :: r => if c = 34 then ([], 1) else if (part (c :: r)).2 = 0 then ([], 0) else
    if (textF f (r.drop ((part (c :: r)).2 - 1))).2 = 0 then ([], 0) else ((part (c :: r)).1 :: (textF f (r.drop ((part (c :: r)).2 - 1))).1, (part (c :: r)).2 + (textF f (r.drop ((part (c :: r)).2 - 1))).2)
theorem textF_fuel : ∀ (f g : Nat) (l : Str), l.length < f → l.length < g → textF f l = textF g l := by
  intro f
  induction f with
  | zero => intro g l h; omega
  | succ f ih =>
    intro g l h h2
    obtain ⟨g, rfl⟩ : ∃ k, g = k + 1 := ⟨g - 1, by omega⟩
    cases l with
    | nil => rfl
    | cons c r =>
      simp only [List.length_cons] at h h2
      unfold textF
      rw [ih g (r.drop ((part (c :: r)).2 - 1)) (by rw [List.length_drop]; omega) (by rw [List.length_drop]; omega)]
def text (l : Str) : Str × Nat := textF (l.length + 1) l
theorem text_nil : text [] = ([], 0) := rfl
theorem text_cons (c : UInt8) (r : Str) : text (c :: r) = if c = 34 then ([], 1) else if (part (c :: r)).2 = 0 then ([], 0) else
    if (text ((c :: r).drop (part (c :: r)).2)).2 = 0 then ([], 0) else ((part (c :: r)).1 :: (text ((c :: r).drop (part (c :: r)).2)).1, (part (c :: r)).2 + (text ((c :: r).drop (part (c :: r)).2)).2) := by
  unfold text
  rw [textF]
  by_cases h : c = 34
  · rw [if_pos h, if_pos h]
  rw [if_neg h, if_neg h]
  by_cases h0 : (part (c :: r)).2 = 0
  · rw [if_pos h0, if_pos h0]
  rw [if_neg h0, if_neg h0]
  have hd : (c :: r).drop (part (c :: r)).2 = r.drop ((part (c :: r)).2 - 1) := by
    obtain ⟨k, hk⟩ : ∃ k, (part (c :: r)).2 = k + 1 := ⟨(part (c :: r)).2 - 1, by omega⟩
    rw [hk]; rfl
  rw [hd]
  rw [textF_fuel (c :: r).length ((r.drop ((part (c :: r)).2 - 1)).length + 1) _ (by rw [List.length_drop, List.length_cons]; omega) (by omega)]
theorem text_le : ∀ (k : Nat) (l : Str), l.length ≤ k → (text l).2 ≤ l.length ∧ (text l).1.length ≤ l.length := by
  intro k
  induction k with
  | zero =>
    intro l h
    obtain rfl : l = [] := List.eq_nil_of_length_eq_zero (by omega)
    simp [text_nil]
  | succ k ih =>
    intro l h
    cases l with
    | nil => simp [text_nil]
    | cons c r =>
      rw [text_cons]
      simp only [List.length_cons] at h
      split
      · simp
      split
      · simp
      split
      · simp
      rename_i h1 h2 h3
      have hp := part_size (c :: r)
      have hi := ih ((c :: r).drop (part (c :: r)).2) (by rw [List.length_drop, List.length_cons]; omega)
      rw [List.length_drop] at hi
      simp only [List.length_cons] at hi hp ⊢
      omega

/-- A token at the beginning of a source that has one byte at least, and its length; or an error. -/
def tok1 : Str → Tok × Nat × Int
  | [] => (Tok.zero, 0, 70)
  | c :: r =>
    if letterB c then (if (word (c :: r)).length ≤ 32 then (⟨1, 0, 0, word (c :: r)⟩, (word (c :: r)).length, 0) else (Tok.zero, 0, 2))
    else if digitB c then (match number (word (c :: r)) with | some n => (⟨2, 0, (n : Int), []⟩, (word (c :: r)).length, 0) | none => (Tok.zero, 0, 71))
    else if c = 34 then (if (text r).2 = 0 then (Tok.zero, 0, 72) else (⟨3, 0, 0, (text r).1⟩, (text r).2 + 1, 0))
    else if signB c then (⟨4, 0, 0, [c]⟩, 1, 0)
    else if c = 10 then (⟨5, 0, 0, []⟩, 1, 0)
    else (Tok.zero, 0, 70)
theorem tok1_cons (c : UInt8) (r : Str) : tok1 (c :: r) =
    (if letterB c then (if (word (c :: r)).length ≤ 32 then (⟨1, 0, 0, word (c :: r)⟩, (word (c :: r)).length, 0) else (Tok.zero, 0, 2))
    else if digitB c then (match number (word (c :: r)) with | some n => (⟨2, 0, (n : Int), []⟩, (word (c :: r)).length, 0) | none => (Tok.zero, 0, 71))
    else if c = 34 then (if (text r).2 = 0 then (Tok.zero, 0, 72) else (⟨3, 0, 0, (text r).1⟩, (text r).2 + 1, 0))
    else if signB c then (⟨4, 0, 0, [c]⟩, 1, 0)
    else if c = 10 then (⟨5, 0, 0, []⟩, 1, 0)
    else (Tok.zero, 0, 70) : Tok × Nat × Int) := rfl
theorem word_le (l : Str) : (word l).length ≤ l.length := by
  unfold word
  exact List.Sublist.length_le (List.takeWhile_sublist _)
theorem word_pos {c : UInt8} {r : Str} (h : wordB c = true) : 1 ≤ (word (c :: r)).length := by
  unfold word
  rw [List.takeWhile_cons, if_pos h]
  simp
theorem tok1_ok (c : UInt8) (r : Str) : ((tok1 (c :: r)).2.2 = 0 ∧ 1 ≤ (tok1 (c :: r)).2.1 ∧ (tok1 (c :: r)).2.1 ≤ (c :: r).length) ∨
    ((tok1 (c :: r)).1 = Tok.zero ∧ (tok1 (c :: r)).2.1 = 0 ∧ ((tok1 (c :: r)).2.2 = 2 ∨ (tok1 (c :: r)).2.2 = 70 ∨ (tok1 (c :: r)).2.2 = 71 ∨ (tok1 (c :: r)).2.2 = 72)) := by
  rw [tok1_cons]
  have hw := word_le (c :: r)
  split
  · rename_i h
    have := word_pos (r := r) (show wordB c = true by unfold wordB; rw [h]; rfl)
    split
    · exact .inl ⟨rfl, this, hw⟩
    · exact .inr ⟨rfl, rfl, .inl rfl⟩
  split
  · rename_i h0 h
    have := word_pos (r := r) (show wordB c = true by unfold wordB; rw [h, Bool.or_true])
    split
    · exact .inl ⟨rfl, this, hw⟩
    · exact .inr ⟨rfl, rfl, by simp⟩
  split
  · have ht := (text_le r.length r (Nat.le_refl _)).1
    split
    · exact .inr ⟨rfl, rfl, by simp⟩
    · exact .inl ⟨rfl, by simp, by simp only [List.length_cons]; omega⟩
  split
  · exact .inl ⟨rfl, by simp, by simp⟩
  split
  · exact .inl ⟨rfl, by simp, by simp⟩
  · exact .inr ⟨rfl, rfl, by simp⟩

/-- The bytes before the next line feed. -/
def rest (r : Str) : Nat := (r.takeWhile (fun c => c != 10)).length
theorem rest_le (r : Str) : rest r ≤ r.length := List.Sublist.length_le (List.takeWhile_sublist _)
def cat (acc : List Tok) (r : List Tok × Nat × Int) : List Tok × Nat × Int := if r.2.2 = 0 then (acc ++ r.1, 0, 0) else ([], r.2.1, r.2.2)
/-- TOKENS, from a place on. -/
def toksF : Nat → Nat → Str → List Tok × Nat × Int
  | 0, _, _ => ([], 0, 0)
  | _ + 1, _, [] => ([], 0, 0)
  | f + 1, p, c :: r =>
    if spaceB c then toksF f (p + 1) r
    else if c = 59 then toksF f (p + (rest r + 1)) (r.drop (rest r))
    else if (tok1 (c :: r)).2.2 = 0 then cat [{ (tok1 (c :: r)).1 with at_ := (p : Int) }] (toksF f (p + (tok1 (c :: r)).2.1) (r.drop ((tok1 (c :: r)).2.1 - 1)))
    else ([], p, (tok1 (c :: r)).2.2)
theorem toksF_fuel : ∀ (f g p : Nat) (l : Str), l.length < f → l.length < g → toksF f p l = toksF g p l := by
  intro f
  induction f with
  | zero => intro g p l h; omega
  | succ f ih =>
    intro g p l h h2
    obtain ⟨g, rfl⟩ : ∃ k, g = k + 1 := ⟨g - 1, by omega⟩
    cases l with
    | nil => rfl
    | cons c r =>
      simp only [List.length_cons] at h h2
      unfold toksF
      rw [ih g (p + 1) r (by omega) (by omega), ih g (p + (rest r + 1)) (r.drop (rest r)) (by rw [List.length_drop]; omega) (by rw [List.length_drop]; omega),
        ih g (p + (tok1 (c :: r)).2.1) (r.drop ((tok1 (c :: r)).2.1 - 1)) (by rw [List.length_drop]; omega) (by rw [List.length_drop]; omega)]
def toks (p : Nat) (l : Str) : List Tok × Nat × Int := toksF (l.length + 1) p l
theorem toks_nil (p : Nat) : toks p [] = ([], 0, 0) := rfl
theorem toks_cons (p : Nat) (c : UInt8) (r : Str) : toks p (c :: r) =
    if spaceB c then toks (p + 1) r
    else if c = 59 then toks (p + (rest r + 1)) ((c :: r).drop (rest r + 1))
    else if (tok1 (c :: r)).2.2 = 0 then cat [{ (tok1 (c :: r)).1 with at_ := (p : Int) }] (toks (p + (tok1 (c :: r)).2.1) ((c :: r).drop (tok1 (c :: r)).2.1))
    else ([], p, (tok1 (c :: r)).2.2) := by
  unfold toks
  rw [toksF]
  have h1 : toksF (c :: r).length (p + 1) r = toksF (r.length + 1) (p + 1) r := rfl
  have h2 : toksF (c :: r).length (p + (rest r + 1)) (r.drop (rest r)) = toksF (((c :: r).drop (rest r + 1)).length + 1) (p + (rest r + 1)) ((c :: r).drop (rest r + 1)) := by
    rw [List.drop_succ_cons]
    exact toksF_fuel _ _ _ _ (by rw [List.length_drop, List.length_cons]; omega) (by omega)
  rw [h1, h2]
  by_cases h : (tok1 (c :: r)).2.2 = 0
  · have hp : 1 ≤ (tok1 (c :: r)).2.1 := by
      rcases tok1_ok c r with h3 | ⟨_, _, h3⟩
      · exact h3.2.1
      · omega
    have hd : (c :: r).drop (tok1 (c :: r)).2.1 = r.drop ((tok1 (c :: r)).2.1 - 1) := by
      obtain ⟨k, hk⟩ : ∃ k, (tok1 (c :: r)).2.1 = k + 1 := ⟨(tok1 (c :: r)).2.1 - 1, by omega⟩
      rw [hk]; rfl
    rw [hd, toksF_fuel (c :: r).length ((r.drop ((tok1 (c :: r)).2.1 - 1)).length + 1) _ _ (by rw [List.length_drop, List.length_cons]; omega) (by omega)]
  · rw [if_neg h, if_neg h]
def Tokens (l : Str) : List Tok × Nat × Int := if l.length ≤ 16384 then toks 0 l else ([], 16384, 2)

theorem cat_nil (r : List Tok × Nat × Int) (h : r.2.2 ≠ 0 → r.1 = []) (h0 : r.2.2 = 0 → r.2.1 = 0) : cat [] r = r := by
  obtain ⟨l, p, q⟩ := r
  unfold cat
  simp only at h h0 ⊢
  by_cases hq : q = 0
  · rw [if_pos hq, h0 hq, hq]; rfl
  · rw [if_neg hq, h hq]
theorem cat_cat (a b : List Tok) (r : List Tok × Nat × Int) : cat a (cat b r) = cat (a ++ b) r := by
  obtain ⟨l, p, q⟩ := r
  unfold cat
  by_cases hq : q = 0
  · simp [hq]
  · simp [hq]
theorem toks_form : ∀ (k p : Nat) (l : Str), l.length ≤ k → ((toks p l).2.2 ≠ 0 → (toks p l).1 = []) ∧ ((toks p l).2.2 = 0 → (toks p l).2.1 = 0) := by
  intro k
  induction k with
  | zero =>
    intro p l h
    obtain rfl : l = [] := List.eq_nil_of_length_eq_zero (by omega)
    simp [toks_nil]
  | succ k ih =>
    intro p l h
    cases l with
    | nil => simp [toks_nil]
    | cons c r =>
      rw [toks_cons]
      simp only [List.length_cons] at h
      split
      · exact ih _ _ (by omega)
      split
      · exact ih _ _ (by rw [List.length_drop, List.length_cons]; omega)
      split
      · unfold cat
        split
        · exact ⟨fun h => absurd rfl h, fun _ => rfl⟩
        · rename_i h1
          exact ⟨fun _ => rfl, fun h => absurd h h1⟩
      · rename_i h1
        exact ⟨fun _ => rfl, fun h => absurd h h1⟩
theorem cat_toks (p : Nat) (l : Str) : cat [] (toks p l) = toks p l :=
  cat_nil _ (toks_form _ p l (Nat.le_refl _)).1 (toks_form _ p l (Nat.le_refl _)).2

/-- HOW FAR A READER HAS COME: acc, at the place p of l; what it will answer. -/
def Going (l : Str) (p : Nat) (acc : List Tok) (fin : List Tok × Nat × Int) : Prop := p ≤ l.length ∧ fin = cat acc (toks p (l.drop p))
section
variable {l : Str} {p : Nat} {acc : List Tok} {fin : List Tok × Nat × Int}
theorem Going.start (l : Str) : Going l 0 [] (toks 0 l) := ⟨Nat.zero_le _, (cat_toks 0 l).symm⟩
theorem Going.end_ (h : Going l p acc fin) (hp : l.length ≤ p) : fin = (acc, 0, 0) := by
  rw [h.2, List.drop_eq_nil_of_le hp, toks_nil]
  simp [cat]
theorem drop_at {l : Str} {p : Nat} (hp : p < l.length) : l.drop p = l[p] :: l.drop (p + 1) := List.drop_eq_getElem_cons hp
theorem Going.space (h : Going l p acc fin) (hp : p < l.length) (hs : spaceB l[p] = true) : Going l (p + 1) acc fin := by
  refine ⟨by omega, ?_⟩
  rw [h.2, drop_at hp, toks_cons, if_pos hs]
theorem Going.note (h : Going l p acc fin) (hp : p < l.length) (hs : spaceB l[p] = false) (h9 : l[p] = 59) : Going l (p + (rest (l.drop (p + 1)) + 1)) acc fin := by
  have := rest_le (l.drop (p + 1))
  rw [List.length_drop] at this
  refine ⟨by omega, ?_⟩
  rw [h.2, drop_at hp, toks_cons, hs, if_neg (by simp), if_pos h9, ← drop_at hp, List.drop_drop]
theorem Going.bad (h : Going l p acc fin) (hp : p < l.length) (hs : spaceB l[p] = false) (h9 : l[p] ≠ 59) (he : (tok1 (l.drop p)).2.2 ≠ 0) : fin = ([], p, (tok1 (l.drop p)).2.2) := by
  rw [h.2]
  rw [drop_at hp] at he ⊢
  rw [toks_cons, hs, if_neg (by simp), if_neg h9, if_neg he]
  unfold cat
  rw [if_neg he]
theorem Going.next (h : Going l p acc fin) (hp : p < l.length) (hs : spaceB l[p] = false) (h9 : l[p] ≠ 59) (he : (tok1 (l.drop p)).2.2 = 0) :
    Going l (p + (tok1 (l.drop p)).2.1) (acc ++ [{ (tok1 (l.drop p)).1 with at_ := (p : Int) }]) fin := by
  have hk : (tok1 (l.drop p)).2.1 ≤ l.length - p := by
    rw [drop_at hp] at he ⊢
    have hl : (l[p] :: l.drop (p + 1)).length = l.length - p := by rw [List.length_cons, List.length_drop]; omega
    rcases tok1_ok l[p] (l.drop (p + 1)) with h3 | ⟨_, _, h3⟩
    · rw [hl] at h3; exact h3.2.2
    · omega
  refine ⟨by omega, ?_⟩
  rw [h.2, ← cat_cat]
  congr 1
  rw [drop_at hp] at he hk ⊢
  rw [toks_cons, hs, if_neg (by simp), if_neg h9, if_pos he]
  congr 1
  rw [← drop_at hp, List.drop_drop]
end

/-- The decimal digits of u. -/
def dec (u : Nat) : Str := if h : u < 10 then [UInt8.ofNat (48 + u)] else dec (u / 10) ++ [UInt8.ofNat (48 + u % 10)]
termination_by u
decreasing_by omega
def hexL : Str := [48, 49, 50, 51, 52, 53, 54, 55, 56, 57, 97, 98, 99, 100, 101, 102]
def hexD (n : Nat) : UInt8 := hexL.getD n 0
/-- What says a byte of a text. -/
def srcB (c : UInt8) : Str := if c = 10 then [92, 110] else if c = 34 ∨ c = 92 then [92, c] else if plainB c then [c] else [92, 120, hexD (c.toNat / 16), hexD (c.toNat % 16)]
def quoted (s : Str) : Str := 34 :: (s.flatMap srcB ++ [34])
def src (t : Tok) : Str := if t.kind = 2 then dec t.n.toNat else if t.kind = 3 then quoted t.s else if t.kind = 5 then [10] else t.s
def isName (s : Str) : Bool := decide (1 ≤ s.length ∧ s.length ≤ 32) && (letterB (s.headD 0) && decide (word s = s))
def right (t : Tok) : Bool :=
  if t.kind = 1 then decide (t.n = 0) && isName t.s
  else if t.kind = 2 then decide (t.s = []) && decide (0 ≤ t.n ∧ t.n ≤ 4294967295)
  else if t.kind = 3 then decide (t.n = 0) && decide (t.s.length ≤ 16384)
  else if t.kind = 4 then decide (t.n = 0) && (decide (t.s.length = 1) && signB (t.s.headD 0))
  else if t.kind = 5 then decide (t.n = 0) && decide (t.s = [])
  else false
/-- The source of tokens behind one that is a line end, or not. -/
def pr : Bool → List Tok → Str
  | _, [] => []
  | b, t :: r => (if b || decide (t.kind = 5) then [] else [32]) ++ (src t ++ pr (decide (t.kind = 5)) r)
def Print (l : List Tok) : Str × Int := if l.all right then (if (pr true l).length ≤ 16384 then (pr true l, 0) else ([], 2)) else ([], 1)
/-- Whether the last one is a line end; b if there is none. -/
def last5 : Bool → List Tok → Bool
  | b, [] => b
  | _, t :: r => last5 (decide (t.kind = 5)) r
theorem last5_get : ∀ (l : List Tok) (b : Bool) (h : 0 < l.length), last5 b l = decide (l[l.length - 1].kind = 5) := by
  intro l
  induction l with
  | nil => intro b h; simp at h
  | cons t r ih =>
    intro b h
    cases r with
    | nil => rfl
    | cons y r => rw [last5, ih _ (by simp)]; rfl
theorem pr_snoc (t : Tok) : ∀ (b : Bool) (l : List Tok), pr b (l ++ [t]) = pr b l ++ ((if last5 b l || decide (t.kind = 5) then [] else [32]) ++ src t) := by
  intro b l
  induction l generalizing b with
  | nil => simp [pr, last5]
  | cons x r ih => rw [List.cons_append, pr, ih, pr, List.append_assoc, List.append_assoc, last5]

/-! ### reading what was printed -/
/-- m cannot go on a word. -/
def Stop (m : Str) : Prop := ∀ c r, m = c :: r → wordB c = false
theorem word_app {s m : Str} (hs : ∀ c ∈ s, wordB c = true) (hm : Stop m) : word (s ++ m) = s := by
  unfold word
  induction s with
  | nil =>
    cases m with
    | nil => rfl
    | cons c r => rw [List.nil_append, List.takeWhile_cons, hm c r rfl]; rfl
  | cons c r ih =>
    rw [List.cons_append, List.takeWhile_cons, if_pos (hs c List.mem_cons_self), ih (fun x hx => hs x (List.mem_cons_of_mem _ hx))]
theorem word_all {s : Str} (h : word s = s) : ∀ c ∈ s, wordB c = true := by
  intro c hc
  rw [← h] at hc
  unfold word at hc
  clear h
  induction s with
  | nil => cases hc
  | cons x r ih =>
    rw [List.takeWhile_cons] at hc
    split at hc
    · rw [List.mem_cons] at hc
      rcases hc with rfl | hc
      · assumption
      · exact ih hc
    · cases hc
theorem dec_digits : ∀ (k u : Nat), u ≤ k → ∀ c ∈ dec u, digitB c = true := by
  intro k
  induction k with
  | zero =>
    intro u hu c hc
    obtain rfl : u = 0 := by omega
    rw [dec, dif_pos (by omega)] at hc
    simp at hc
    subst hc; decide
  | succ k ih =>
    intro u hu c hc
    have hd : ∀ x, x < 10 → digitB (UInt8.ofNat (48 + x)) = true := by decide
    rw [dec] at hc
    split at hc
    · rename_i h
      simp only [List.mem_singleton] at hc
      subst hc
      exact hd u h
    · rw [List.mem_append] at hc
      rcases hc with hc | hc
      · exact ih (u / 10) (by omega) c hc
      · simp only [List.mem_singleton] at hc
        subst hc
        exact hd (u % 10) (by omega)
theorem dec_ne (u : Nat) : dec u ≠ [] := by
  rw [dec]
  split <;> simp
theorem val_app (b : Nat) : ∀ (l m : Str) (a : Nat), val b a (l ++ m) = match val b a l with | some x => val b x m | none => none := by
  intro l
  induction l with
  | nil => intro m a; rfl
  | cons c r ih =>
    intro m a
    rw [List.cons_append]
    simp only [val]
    split
    · split
      · exact ih m _
      · rfl
    · rfl
theorem hexV_dig : ∀ x, x < 10 → hexV (UInt8.ofNat (48 + x)) = x := by decide
theorem val_dec : ∀ (k u : Nat), u ≤ k → u ≤ maxN → val 10 0 (dec u) = some u := by
  intro k
  induction k with
  | zero =>
    intro u hu hm
    obtain rfl : u = 0 := by omega
    rw [dec, dif_pos (by omega)]; rfl
  | succ k ih =>
    intro u hu hm
    rw [dec]
    split
    · rename_i h
      have := hexV_dig u h
      simp only [val, this, Nat.zero_mul, Nat.zero_add]
      rw [if_pos h, if_pos hm]
    · rename_i h
      rw [val_app, ih (u / 10) (by omega) (by omega)]
      have := hexV_dig (u % 10) (by omega)
      simp only [val, this]
      rw [if_pos (by omega), if_pos (by omega)]
      congr 1
      omega
theorem number_digits {w : Str} (h : ∀ c ∈ w, digitB c = true) : number w = val 10 0 w := by
  unfold number
  rw [if_neg]
  rintro ⟨h1, h2⟩
  match w, h1, h2 with
  | a :: b :: r, h1, h2 =>
    simp at h2
    have := h b (by simp)
    rw [h2.2] at this
    exact absurd this (by decide)
theorem number_dec {u : Nat} (h : u ≤ maxN) : number (dec u) = some u := by
  rw [number_digits (dec_digits u u (Nat.le_refl _)), val_dec u u (Nat.le_refl _) h]
theorem all256 {p : UInt8 → Bool} (h : ∀ x : Fin 256, p (UInt8.ofNat x.1) = true) (c : UInt8) : p c = true := by
  have := h ⟨c.toNat, c.toNat_lt⟩
  simpa using this
theorem digit_word {c : UInt8} (h : digitB c = true) : wordB c = true := by unfold wordB; rw [h, Bool.or_true]
theorem letter_word {c : UInt8} (h : letterB c = true) : wordB c = true := by unfold wordB; rw [h]; rfl
theorem digit_not (c : UInt8) (h : digitB c = true) : letterB c = false ∧ spaceB c = false ∧ c ≠ 59 := by
  have := all256 (p := fun c => !digitB c || (!letterB c && (!spaceB c && !decide (c = 59)))) (by decide +kernel) c
  simp [h] at this
  exact this
theorem letter_not (c : UInt8) (h : letterB c = true) : spaceB c = false ∧ c ≠ 59 := by
  have := all256 (p := fun c => !letterB c || (!spaceB c && !decide (c = 59))) (by decide +kernel) c
  simp [h] at this
  exact this
theorem sign_not (c : UInt8) (h : signB c = true) : letterB c = false ∧ digitB c = false ∧ spaceB c = false ∧ c ≠ 59 ∧ c ≠ 34 := by
  have := all256 (p := fun c => !signB c || (!letterB c && (!digitB c && (!spaceB c && (!decide (c = 59) && !decide (c = 34)))))) (by decide +kernel) c
  simp [h] at this
  exact this
theorem plain_not (c : UInt8) (h : plainB c = true) : c ≠ 10 := by
  have := all256 (p := fun c => !plainB c || !decide (c = 10)) (by decide +kernel) c
  simp [h] at this
  exact this
theorem part_src (c : UInt8) (m : Str) : part (srcB c ++ m) = (c, (srcB c).length) ∧ 1 ≤ (srcB c).length ∧ (srcB c).headD 0 ≠ 34 := by
  unfold srcB
  by_cases h1 : c = 10
  · rw [if_pos h1]; subst h1
    refine ⟨by simp [part, esc], by simp, by decide⟩
  rw [if_neg h1]
  by_cases h2 : c = 34 ∨ c = 92
  · rw [if_pos h2]
    refine ⟨?_, by simp, by show (92 : UInt8) ≠ 34; decide⟩
    rcases h2 with rfl | rfl <;> simp [part, esc]
  rw [if_neg h2]
  by_cases h3 : plainB c = true
  · rw [if_pos h3]
    refine ⟨?_, by simp, by simpa using fun h => h2 (.inl h)⟩
    simp only [List.cons_append, List.nil_append, part]
    rw [if_neg (fun h => h2 (.inr h)), if_pos h3]
    rfl
  · rw [if_neg h3]
    refine ⟨?_, by simp, by show (92 : UInt8) ≠ 34; decide⟩
    have ha := all256 (p := fun c => decide (hexV (hexD (c.toNat / 16)) < 16) && (decide (hexV (hexD (c.toNat % 16)) < 16) && decide (UInt8.ofNat (16 * hexV (hexD (c.toNat / 16)) + hexV (hexD (c.toNat % 16))) = c))) (by decide +kernel) c
    simp only [Bool.and_eq_true, decide_eq_true_eq] at ha
    simp only [List.cons_append, List.nil_append, part, esc]
    rw [if_pos trivial, if_neg (by decide), if_neg (by decide), if_pos trivial, if_pos ⟨ha.1, ha.2.1⟩, ha.2.2]
    rfl
theorem text_src : ∀ (s m : Str), text (s.flatMap srcB ++ 34 :: m) = (s, (s.flatMap srcB).length + 1) := by
  intro s
  induction s with
  | nil => intro m; rw [List.flatMap_nil, List.nil_append, text_cons, if_pos rfl]; rfl
  | cons c s ih =>
    intro m
    obtain ⟨h1, h2, h3⟩ := part_src c (s.flatMap srcB ++ 34 :: m)
    rw [List.flatMap_cons, List.append_assoc]
    obtain ⟨x, r, hx⟩ : ∃ x r, srcB c = x :: r := by
      cases hs : srcB c with
      | nil => rw [hs] at h2; simp at h2
      | cons x r => exact ⟨x, r, rfl⟩
    have hd : (srcB c ++ (s.flatMap srcB ++ 34 :: m)).drop (srcB c).length = s.flatMap srcB ++ 34 :: m := by simp
    obtain ⟨n, hn⟩ : ∃ n, (srcB c).length = n := ⟨_, rfl⟩
    rw [hn] at h1 h2 hd
    rw [hx] at h1 h3 hd ⊢
    rw [List.cons_append] at h1 hd ⊢
    rw [text_cons, h1, if_neg (by simpa using h3)]
    simp only
    rw [if_neg (by omega), hd, ih m, if_neg (by simp)]
    rw [← hx, List.length_append, hn, Nat.add_assoc]

/-- A RIGHT TOKEN IS READ BACK. -/
theorem tok1_src {t : Tok} (h : right t = true) (m : Str) (hm : t.kind = 1 ∨ t.kind = 2 → Stop m) :
    tok1 (src t ++ m) = ({ t with at_ := 0 }, (src t).length, 0) ∧ 1 ≤ (src t).length ∧ spaceB ((src t).headD 0) = false ∧ (src t).headD 0 ≠ 59 := by
  obtain ⟨k, a, n, s⟩ := t
  unfold right at h
  simp only at h hm
  unfold src
  simp only
  split at h
  · rename_i hk
    subst hk
    simp only [isName, Bool.and_eq_true, decide_eq_true_eq] at h
    obtain ⟨rfl, ⟨h1, h2⟩, h3, h4⟩ := h
    rw [if_neg (by decide), if_neg (by decide), if_neg (by decide)]
    cases s with
    | nil => simp at h1
    | cons c r =>
      have hl : letterB c = true := h3
      refine ⟨?_, h1, (letter_not c hl).1, (letter_not c hl).2⟩
      have hw : word (c :: r ++ m) = c :: r := word_app (word_all h4) (hm (.inl rfl))
      rw [List.cons_append] at hw ⊢
      rw [tok1_cons, if_pos hl, hw, if_pos h2]
  split at h
  · rename_i _ hk
    subst hk
    simp only [Bool.and_eq_true, decide_eq_true_eq] at h
    obtain ⟨rfl, h1, h2⟩ := h
    rw [if_pos rfl]
    have hd := dec_digits n.toNat n.toNat (Nat.le_refl _)
    have hn : number (dec n.toNat) = some n.toNat := number_dec (by unfold maxN; omega)
    have hne := dec_ne n.toNat
    have hw : word (dec n.toNat ++ m) = dec n.toNat := word_app (fun c hc => digit_word (hd c hc)) (hm (.inr rfl))
    obtain ⟨c, r, hx⟩ : ∃ c r, dec n.toNat = c :: r := by
      cases hs : dec n.toNat with
      | nil => exact absurd hs hne
      | cons x r => exact ⟨x, r, rfl⟩
    rw [hx] at hd hn hw ⊢
    have hc := hd c List.mem_cons_self
    refine ⟨?_, by simp, (digit_not c hc).2.1, (digit_not c hc).2.2⟩
    rw [List.cons_append] at hw ⊢
    rw [tok1_cons, if_neg (by rw [(digit_not c hc).1]; simp), if_pos hc, hw, hn]
    simp only
    rw [Int.toNat_of_nonneg h1]
  split at h
  · rename_i _ _ hk
    subst hk
    simp only [Bool.and_eq_true, decide_eq_true_eq] at h
    obtain ⟨rfl, h1⟩ := h
    rw [if_neg (by decide), if_pos rfl]
    unfold quoted
    refine ⟨?_, by simp, by show spaceB 34 = false; decide, by show (34 : UInt8) ≠ 59; decide⟩
    rw [List.cons_append, tok1_cons, if_neg (by decide), if_neg (by decide), if_pos rfl]
    rw [List.append_assoc, List.singleton_append, text_src, if_neg (by simp)]
    simp
  split at h
  · rename_i _ _ _ hk
    subst hk
    simp only [Bool.and_eq_true, decide_eq_true_eq] at h
    obtain ⟨rfl, h1, h2⟩ := h
    rw [if_neg (by decide), if_neg (by decide), if_neg (by decide)]
    match s, h1, h2 with
    | [c], _, h2 =>
      have hc : signB c = true := h2
      obtain ⟨g1, g2, g3, g4, g5⟩ := sign_not c hc
      refine ⟨?_, by simp, g3, g4⟩
      rw [List.singleton_append, tok1_cons, if_neg (by rw [g1]; simp), if_neg (by rw [g2]; simp), if_neg g5, if_pos hc]
      rfl
  split at h
  · rename_i _ _ _ _ hk
    subst hk
    simp only [Bool.and_eq_true, decide_eq_true_eq] at h
    obtain ⟨rfl, rfl⟩ := h
    rw [if_neg (by decide), if_neg (by decide), if_pos rfl]
    refine ⟨?_, by simp, by decide, by decide⟩
    rw [List.singleton_append, tok1_cons, if_neg (by decide), if_neg (by decide), if_neg (by decide), if_neg (by decide), if_pos rfl]
    rfl
  · cases h
theorem src_stop {t : Tok} (h : t.kind = 5) (m : Str) : Stop (src t ++ m) := by
  unfold src
  rw [if_neg (by rw [h]; decide), if_neg (by rw [h]; decide), if_pos h]
  intro c r e
  cases e
  decide

/-- Tokens, but for At. -/
def bare (t : Tok) : Tok := { t with at_ := 0 }
theorem toks_tok {t : Tok} (h : right t = true) (p : Nat) (m : Str) (hm : t.kind = 1 ∨ t.kind = 2 → Stop m) :
    toks p (src t ++ m) = cat [{ t with at_ := (p : Int) }] (toks (p + (src t).length) m) := by
  obtain ⟨h1, h2, h3, h4⟩ := tok1_src h m hm
  obtain ⟨c, r, hx⟩ : ∃ c r, src t = c :: r := by
    cases hs : src t with
    | nil => rw [hs] at h2; simp at h2
    | cons x r => exact ⟨x, r, rfl⟩
  have hd : (src t ++ m).drop (src t).length = m := by simp
  obtain ⟨n, hn⟩ : ∃ n, (src t).length = n := ⟨_, rfl⟩
  rw [hn] at h1 hd ⊢
  rw [hx] at h1 h3 h4 hd ⊢
  simp only [List.headD_cons] at h3 h4
  rw [List.cons_append] at h1 hd ⊢
  rw [toks_cons, h3, if_neg (by simp), if_neg h4, h1]
  simp only
  rw [if_pos trivial, hd]
theorem toks_space (c : UInt8) (h : spaceB c = true) (p : Nat) (m : Str) : toks p (c :: m) = toks (p + 1) m := by rw [toks_cons, if_pos h]

/-- THE SOURCE OF TOKENS, each behind a gap. -/
def gapped : List (Str × Tok) → Str
  | [] => []
  | (g, t) :: r => g ++ (src t ++ gapped r)
/-- What may stand before a token. -/
def GapOk (g : Str) (t : Tok) : Prop := ∀ p m, toks p (g ++ (src t ++ m)) = toks (p + g.length) (src t ++ m)
/-- The source behind a word. -/
def Parts (l : List (Str × Tok)) : Prop := ∀ k, (h : k + 1 < l.length) → (l[k].2.kind = 1 ∨ l[k].2.kind = 2) → ∀ m, Stop (l[k + 1].1 ++ (src l[k + 1].2 ++ m))
theorem Parts.tail {x : Str × Tok} {l : List (Str × Tok)} (h : Parts (x :: l)) : Parts l := fun k hk => h (k + 1) (by simpa using hk)
theorem toks_gapped : ∀ (l : List (Str × Tok)) (p : Nat), (∀ x ∈ l, right x.2 = true ∧ GapOk x.1 x.2) → Parts l →
    ∃ r, toks p (gapped l) = (r, 0, 0) ∧ r.map bare = l.map fun x => bare x.2 := by
  intro l
  induction l with
  | nil => intro p _ _; exact ⟨[], rfl, rfl⟩
  | cons x l ih =>
    intro p h hp
    obtain ⟨g, t⟩ := x
    obtain ⟨h1, h2⟩ := h _ List.mem_cons_self
    obtain ⟨r, hr, hb⟩ := ih (p + g.length + (src t).length) (fun x hx => h x (List.mem_cons_of_mem _ hx)) hp.tail
    refine ⟨{ t with at_ := ((p + g.length : Nat) : Int) } :: r, ?_, by simp [hb, bare]⟩
    rw [gapped, h2, toks_tok h1, hr]
    · rfl
    · intro hk
      cases l with
      | nil => intro c r e; cases e
      | cons y l =>
        obtain ⟨g2, t2⟩ := y
        rw [gapped]
        exact hp 0 (by simp) hk _
/-- P7.5: what is printed is read back. -/
def sep (b : Bool) (t : Tok) : Str := if b || decide (t.kind = 5) then [] else [32]
def prL : Bool → List Tok → List (Str × Tok)
  | _, [] => []
  | b, t :: r => (sep b t, t) :: prL (decide (t.kind = 5)) r
theorem prL_gapped : ∀ (l : List Tok) (b : Bool), gapped (prL b l) = pr b l := by
  intro l
  induction l with
  | nil => intro b; rfl
  | cons t r ih => intro b; rw [prL, gapped, ih, pr]; rfl
theorem prL_snd : ∀ (l : List Tok) (b : Bool), (prL b l).map (·.2) = l := by
  intro l
  induction l with
  | nil => intro b; rfl
  | cons t r ih => intro b; rw [prL, List.map_cons, ih]
theorem sep_ok (b : Bool) (t : Tok) : GapOk (sep b t) t := by
  intro p m
  unfold sep
  split
  · rfl
  · exact toks_space 32 (by decide) p _
theorem prL_parts : ∀ (l : List Tok) (b : Bool), Parts (prL b l) := by
  intro l
  induction l with
  | nil => intro b k hk; simp [prL] at hk
  | cons t r ih =>
    intro b k hk
    cases k with
    | zero =>
      intro hkind m
      cases r with
      | nil => simp [prL] at hk
      | cons t2 r =>
        simp only [prL, List.getElem_cons_zero, List.getElem_cons_succ] at hkind ⊢
        unfold sep
        have h5 : decide (t.kind = 5) = false := decide_eq_false (by omega)
        rw [h5, Bool.false_or]
        by_cases h : t2.kind = 5
        · rw [if_pos (decide_eq_true h)]; exact src_stop h m
        · rw [if_neg (by simpa using h)]
          intro c r e
          cases e
          decide
    | succ k => exact ih _ k (by simpa [prL] using hk)
theorem toks_pr (l : List Tok) (h : ∀ t ∈ l, right t = true) : ∃ r, toks 0 (pr true l) = (r, 0, 0) ∧ r.map bare = l.map bare := by
  obtain ⟨r, h1, h2⟩ := toks_gapped (prL true l) 0 (fun x hx => by
    have : ∀ (l : List Tok) (b : Bool), (∀ t ∈ l, right t = true) → ∀ x ∈ prL b l, right x.2 = true ∧ GapOk x.1 x.2 := by
      intro l
      induction l with
      | nil => intro b _ x hx; cases hx
      | cons t r ih =>
        intro b h x hx
        rw [prL, List.mem_cons] at hx
        rcases hx with rfl | hx
        · exact ⟨h t List.mem_cons_self, sep_ok b t⟩
        · exact ih _ (fun t ht => h t (List.mem_cons_of_mem _ ht)) x hx
    exact this l true h x hx) (prL_parts l true)
  rw [prL_gapped] at h1
  refine ⟨r, h1, ?_⟩
  rw [h2]
  have := congrArg (List.map bare) (prL_snd l true)
  rw [List.map_map] at this
  exact this
theorem tokens_print {l : List Tok} (h : (Print l).2 = 0) : ∃ r, Tokens (Print l).1 = (r, 0, 0) ∧ r.map bare = l.map bare := by
  unfold Print at h ⊢
  by_cases h1 : l.all right = true
  · rw [if_pos h1] at h ⊢
    by_cases h2 : (pr true l).length ≤ 16384
    · rw [if_pos h2] at h ⊢
      obtain ⟨r, h3, h4⟩ := toks_pr l (fun t ht => List.all_eq_true.1 h1 t ht)
      refine ⟨r, ?_, h4⟩
      unfold Tokens
      rw [if_pos h2]
      exact h3
    · rw [if_neg h2] at h; exact absurd h (by decide)
  · rw [if_neg h1] at h; exact absurd h (by decide)

/-! ### what is read is right -/
theorem word_word (l : Str) : word (word l) = word l := by
  unfold word
  induction l with
  | nil => rfl
  | cons c r ih =>
    by_cases h : wordB c = true
    · rw [List.takeWhile_cons, if_pos h, List.takeWhile_cons, if_pos h, ih]
    · rw [List.takeWhile_cons, if_neg h]; rfl
theorem val_le (b : Nat) : ∀ (l : Str) (a n : Nat), a ≤ maxN → val b a l = some n → n ≤ maxN := by
  intro l
  induction l with
  | nil => intro a n ha h; simp only [val] at h; cases h; exact ha
  | cons c r ih =>
    intro a n ha h
    simp only [val] at h
    split at h
    · split at h
      · rename_i h1; exact ih _ _ h1 h
      · cases h
    · cases h
theorem number_le {w : Str} {n : Nat} (h : number w = some n) : n ≤ maxN := by
  unfold number at h
  split at h
  · exact val_le _ _ _ _ (by unfold maxN; omega) h
  · exact val_le _ _ _ _ (by unfold maxN; omega) h
theorem tok1_right (l : Str) (hl : l.length ≤ 16384) (h : (tok1 l).2.2 = 0) (p : Int) : right { (tok1 l).1 with at_ := p } = true := by
  cases l with
  | nil => simp [tok1] at h
  | cons c r =>
    rw [tok1_cons] at h ⊢
    split at h
    · rename_i hl1
      rw [if_pos hl1]
      split at h
      · rename_i h32
        rw [if_pos h32]
        have h1 := word_pos (r := r) (letter_word hl1)
        obtain ⟨x, hx⟩ : ∃ x, word (c :: r) = c :: x := ⟨_, by unfold word; rw [List.takeWhile_cons, if_pos (letter_word hl1)]⟩
        have h3 := word_word (c :: r)
        rw [hx] at h1 h32 h3 ⊢
        simp only [List.length_cons] at h32
        simp [right, isName, h32, hl1, h3]
      · cases h
    rename_i hl1
    rw [if_neg hl1]
    split at h
    · rename_i hd
      rw [if_pos hd]
      cases hn : number (word (c :: r)) with
      | none => rw [hn] at h; cases h
      | some n =>
        have := number_le hn
        unfold maxN at this
        simp only [right]
        simp
        omega
    rename_i hd
    rw [if_neg hd]
    split at h
    · rename_i hq
      rw [if_pos hq]
      split at h
      · cases h
      · rename_i h0
        rw [if_neg h0]
        have := (text_le r.length r (Nat.le_refl _)).2
        simp only [List.length_cons] at hl
        simp [right]
        omega
    rename_i hq
    rw [if_neg hq]
    split at h
    · rename_i hs
      rw [if_pos hs]
      simp [right, hs]
    rename_i hs
    rw [if_neg hs]
    split at h
    · rename_i h10
      rw [if_pos h10]
      simp [right]
    · cases h
theorem toks_right : ∀ (k p : Nat) (l : Str), l.length ≤ k → l.length ≤ 16384 → ∀ t ∈ (toks p l).1, right t = true := by
  intro k
  induction k with
  | zero =>
    intro p l h _ t ht
    obtain rfl : l = [] := List.eq_nil_of_length_eq_zero (by omega)
    cases ht
  | succ k ih =>
    intro p l h h2 t ht
    cases l with
    | nil => cases ht
    | cons c r =>
      rw [toks_cons] at ht
      simp only [List.length_cons] at h
      split at ht
      · exact ih _ _ (by omega) (by simp only [List.length_cons] at h2; omega) t ht
      split at ht
      · exact ih _ _ (by rw [List.length_drop, List.length_cons]; omega) (by rw [List.length_drop]; omega) t ht
      split at ht
      · rename_i h0
        unfold cat at ht
        split at ht
        · rw [List.singleton_append, List.mem_cons] at ht
          rcases ht with rfl | ht
          · exact tok1_right _ h2 h0 _
          · have hp : 1 ≤ (tok1 (c :: r)).2.1 := by
              rcases tok1_ok c r with h3 | ⟨_, _, h3⟩
              · exact h3.2.1
              · omega
            exact ih _ _ (by rw [List.length_drop, List.length_cons]; omega) (by rw [List.length_drop]; omega) t ht
        · cases ht
      · cases ht
theorem tokens_right {l : Str} (hl : l.length ≤ 16384) : ((Tokens l).1).all right = true := by
  rw [List.all_eq_true]
  unfold Tokens
  rw [if_pos hl]
  exact toks_right _ 0 l (Nat.le_refl _) hl
/-- P7.5, the other way round. -/
theorem print_tokens {l : Str} (hl : l.length ≤ 16384) : (Print (Tokens l).1).2 = 0 ∨ (Print (Tokens l).1).2 = 2 := by
  unfold Print
  rw [if_pos (tokens_right hl)]
  split
  · exact .inl rfl
  · exact .inr rfl

/-! ### P7.7: local -/
theorem word_lf (l m : Str) : word (l ++ 10 :: m) = word l := by
  unfold word
  induction l with
  | nil => rw [List.nil_append, List.takeWhile_cons, if_neg (by decide)]; rfl
  | cons c r ih =>
    rw [List.cons_append, List.takeWhile_cons, List.takeWhile_cons, ih]
theorem rest_lf (l m : Str) : rest (l ++ 10 :: m) = rest l := by
  unfold rest
  congr 1
  induction l with
  | nil => rw [List.nil_append, List.takeWhile_cons, if_neg (by decide)]; rfl
  | cons c r ih =>
    rw [List.cons_append, List.takeWhile_cons, List.takeWhile_cons, ih]
theorem part_lf (c : UInt8) (r m : Str) : part (c :: r ++ 10 :: m) = part (c :: r) := by
  rw [List.cons_append]
  unfold part
  split
  · rename_i e; cases e
  · rename_i c' r' e
    cases e
    split
    · unfold esc
      match r with
      | [] => simp
      | [x] =>
        simp only [List.cons_append, List.nil_append]
        split
        · rfl
        split
        · rfl
        split
        · cases m with
          | nil => rfl
          | cons y m => simp only; rw [if_neg]; rintro ⟨h, _⟩; exact absurd h (by decide)
        · rfl
      | [x, y] =>
        simp only [List.cons_append, List.nil_append]
        split
        · rfl
        split
        · rfl
        split
        · rw [if_neg]; rintro ⟨_, h⟩; exact absurd h (by decide)
        · rfl
      | x :: y :: z :: r => rfl
    · rfl
theorem text_lf : ∀ (k : Nat) (l m : Str), l.length ≤ k → text (l ++ 10 :: m) = text l := by
  intro k
  induction k with
  | zero =>
    intro l m h
    obtain rfl : l = [] := List.eq_nil_of_length_eq_zero (by omega)
    rw [List.nil_append, text_cons, if_neg (by decide), if_pos (by rfl)]; rfl
  | succ k ih =>
    intro l m h
    cases l with
    | nil => rw [List.nil_append, text_cons, if_neg (by decide), if_pos (by rfl)]; rfl
    | cons c r =>
      have hp := part_lf c r m
      rw [List.cons_append] at hp ⊢
      rw [text_cons, text_cons, hp]
      split
      · rfl
      split
      · rfl
      rename_i h0 h1
      have hs := part_size (c :: r)
      have hd : (c :: (r ++ 10 :: m)).drop (part (c :: r)).2 = (c :: r).drop (part (c :: r)).2 ++ 10 :: m := by
        rw [← List.cons_append, List.drop_append_of_le_length (by omega)]
      rw [hd, ih _ _ (by rw [List.length_drop]; simp only [List.length_cons] at h hs ⊢; omega)]
theorem tok1_lf (c : UInt8) (r m : Str) : tok1 (c :: r ++ 10 :: m) = tok1 (c :: r) := by
  have hw := word_lf (c :: r) m
  rw [List.cons_append] at hw ⊢
  rw [tok1_cons, tok1_cons, hw, text_lf r.length r m (Nat.le_refl _)]
theorem toks_lf : ∀ (k p : Nat) (l m : Str), l.length ≤ k → toks p (l ++ 10 :: m) =
    if (toks p l).2.2 = 0 then cat ((toks p l).1 ++ [⟨5, ((p + l.length : Nat) : Int), 0, []⟩]) (toks (p + l.length + 1) m) else toks p l := by
  intro k
  induction k with
  | zero =>
    intro p l m h
    obtain rfl : l = [] := List.eq_nil_of_length_eq_zero (by omega)
    rw [List.nil_append, toks_cons, if_neg (by decide), if_neg (by decide), if_pos (by rfl), toks_nil, if_pos rfl]
    rfl
  | succ k ih =>
    intro p l m h
    cases l with
    | nil =>
      rw [List.nil_append, toks_cons, if_neg (by decide), if_neg (by decide), if_pos (by rfl), toks_nil, if_pos rfl]
      rfl
    | cons c r =>
      have ht := tok1_lf c r m
      simp only [List.length_cons] at h
      rw [List.cons_append] at ht ⊢
      rw [toks_cons, toks_cons, ht, rest_lf]
      split
      · rw [ih _ r m (by omega)]
        simp only [List.length_cons]
        rw [show p + 1 + r.length = p + (r.length + 1) by omega]
      split
      · have hr := rest_le r
        have hd : (c :: (r ++ 10 :: m)).drop (rest r + 1) = (c :: r).drop (rest r + 1) ++ 10 :: m := by
          rw [← List.cons_append, List.drop_append_of_le_length (by simp only [List.length_cons]; omega)]
        rw [hd, ih _ _ m (by rw [List.length_drop, List.length_cons]; omega)]
        rw [List.length_drop, List.length_cons, show p + (rest r + 1) + (r.length + 1 - (rest r + 1)) = p + (r.length + 1) by omega]
      split
      · rename_i h0
        have hk : 1 ≤ (tok1 (c :: r)).2.1 ∧ (tok1 (c :: r)).2.1 ≤ r.length + 1 := by
          rcases tok1_ok c r with h3 | ⟨_, _, h3⟩
          · rw [List.length_cons] at h3; exact h3.2
          · omega
        obtain ⟨n, hn⟩ : ∃ n, (tok1 (c :: r)).2.1 = n := ⟨_, rfl⟩
        rw [hn] at hk ⊢
        have hd : (c :: (r ++ 10 :: m)).drop n = (c :: r).drop n ++ 10 :: m := by
          rw [← List.cons_append, List.drop_append_of_le_length (by simp only [List.length_cons]; omega)]
        rw [hd, ih _ _ m (by rw [List.length_drop, List.length_cons]; omega)]
        rw [List.length_drop, List.length_cons, show p + n + (r.length + 1 - n) = p + (r.length + 1) by omega]
        by_cases hq : (toks (p + n) ((c :: r).drop n)).2.2 = 0
        · rw [if_pos hq, cat_cat]
          have e1 : cat [{ (tok1 (c :: r)).1 with at_ := (p : Int) }] (toks (p + n) ((c :: r).drop n)) = ({ (tok1 (c :: r)).1 with at_ := (p : Int) } :: (toks (p + n) ((c :: r).drop n)).1, 0, 0) := by
            unfold cat; rw [if_pos hq]; rfl
          rw [e1, if_pos rfl]
          rfl
        · rw [if_neg hq]
          have e1 : (cat [{ (tok1 (c :: r)).1 with at_ := (p : Int) }] (toks (p + n) ((c :: r).drop n))).2.2 ≠ 0 := by
            unfold cat; rw [if_neg hq]; exact hq
          rw [if_neg e1]
      · rfl
/-- The places alone turn. -/
def shift (q : Nat) (t : Tok) : Tok := { t with at_ := t.at_ + (q : Int) }
theorem toks_shift (q : Nat) : ∀ (k p : Nat) (l : Str), l.length ≤ k → toks (p + q) l = ((toks p l).1.map (shift q), if (toks p l).2.2 = 0 then 0 else (toks p l).2.1 + q, (toks p l).2.2) := by
  intro k
  induction k with
  | zero =>
    intro p l h
    obtain rfl : l = [] := List.eq_nil_of_length_eq_zero (by omega)
    rfl
  | succ k ih =>
    intro p l h
    cases l with
    | nil => rfl
    | cons c r =>
      simp only [List.length_cons] at h
      rw [toks_cons, toks_cons]
      split
      · rw [show p + q + 1 = p + 1 + q by omega, ih _ _ (by omega)]
      split
      · rw [show p + q + (rest r + 1) = p + (rest r + 1) + q by omega, ih _ _ (by rw [List.length_drop, List.length_cons]; omega)]
      split
      · rename_i h0
        have hk : 1 ≤ (tok1 (c :: r)).2.1 := by
          rcases tok1_ok c r with h3 | ⟨_, _, h3⟩
          · exact h3.2.1
          · omega
        rw [show p + q + (tok1 (c :: r)).2.1 = p + (tok1 (c :: r)).2.1 + q by omega, ih _ _ (by rw [List.length_drop, List.length_cons]; omega)]
        unfold cat
        by_cases hq : (toks (p + (tok1 (c :: r)).2.1) ((c :: r).drop (tok1 (c :: r)).2.1)).2.2 = 0
        · simp [hq, shift]
        · simp [hq]
      · simp
end Lx
end Go.Proofs.YtjopadfkdpcjmaaDoor
