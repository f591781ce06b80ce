/-
  PLAIN MATHEMATICS of SHA-256: words of 32 bits as bit vectors, a block's words, rounds, blocks of a message, its padding.
-/
namespace Go.Proofs.YtoigpokmlohhkaaDoor.Hs

abbrev W := BitVec 32
abbrev By := BitVec 8

def rotr (x : W) (n : Nat) : W := (x >>> n) ||| (x <<< (32 - n))

/-- The round constants. -/
def K : List W := [
  0x428a2f98#32, 0x71374491#32, 0xb5c0fbcf#32, 0xe9b5dba5#32, 0x3956c25b#32, 0x59f111f1#32, 0x923f82a4#32, 0xab1c5ed5#32,
  0xd807aa98#32, 0x12835b01#32, 0x243185be#32, 0x550c7dc3#32, 0x72be5d74#32, 0x80deb1fe#32, 0x9bdc06a7#32, 0xc19bf174#32,
  0xe49b69c1#32, 0xefbe4786#32, 0x0fc19dc6#32, 0x240ca1cc#32, 0x2de92c6f#32, 0x4a7484aa#32, 0x5cb0a9dc#32, 0x76f988da#32,
  0x983e5152#32, 0xa831c66d#32, 0xb00327c8#32, 0xbf597fc7#32, 0xc6e00bf3#32, 0xd5a79147#32, 0x06ca6351#32, 0x14292967#32,
  0x27b70a85#32, 0x2e1b2138#32, 0x4d2c6dfc#32, 0x53380d13#32, 0x650a7354#32, 0x766a0abb#32, 0x81c2c92e#32, 0x92722c85#32,
  0xa2bfe8a1#32, 0xa81a664b#32, 0xc24b8b70#32, 0xc76c51a3#32, 0xd192e819#32, 0xd6990624#32, 0xf40e3585#32, 0x106aa070#32,
  0x19a4c116#32, 0x1e376c08#32, 0x2748774c#32, 0x34b0bcb5#32, 0x391c0cb3#32, 0x4ed8aa4a#32, 0x5b9cca4f#32, 0x682e6ff3#32,
  0x748f82ee#32, 0x78a5636f#32, 0x84c87814#32, 0x8cc70208#32, 0x90befffa#32, 0xa4506ceb#32, 0xbef9a3f7#32, 0xc67178f2#32]

def word (a b c d : By) : W := a.setWidth 32 <<< 24 ||| b.setWidth 32 <<< 16 ||| c.setWidth 32 <<< 8 ||| d.setWidth 32

/-- The t-th word of a block. -/
def wordAt (b : List By) (t : Nat) : W := word (b.getD (4 * t) 0) (b.getD (4 * t + 1) 0) (b.getD (4 * t + 2) 0) (b.getD (4 * t + 3) 0)
def firsts (b : List By) (n : Nat) : List W := (List.range n).map (wordAt b)
theorem firsts_succ (b : List By) (n : Nat) : firsts b (n + 1) = firsts b n ++ [wordAt b n] := by
  unfold firsts; rw [List.range_succ, List.map_append]; rfl
theorem firsts_len (b : List By) (n : Nat) : (firsts b n).length = n := by simp [firsts]

def s0 (x : W) : W := rotr x 7 ^^^ rotr x 18 ^^^ (x >>> 3)
def s1 (x : W) : W := rotr x 17 ^^^ rotr x 19 ^^^ (x >>> 10)
/-- The word behind t words. -/
def next (l : List W) (t : Nat) : W := l.getD (t - 16) 0 + s0 (l.getD (t - 15) 0) + l.getD (t - 7) 0 + s1 (l.getD (t - 2) 0)
def grow : Nat → List W → List W
  | 0, l => l
  | n + 1, l => grow n (l ++ [next l l.length])
def words (b : List By) : List W := grow 48 (firsts b 16)
theorem grow_len (n : Nat) (l : List W) : (grow n l).length = l.length + n := by
  induction n generalizing l with
  | zero => rfl
  | succ n ih => rw [grow, ih, List.length_append, List.length_singleton]; omega
theorem words_len (b : List By) : (words b).length = 64 := by unfold words; rw [grow_len, firsts_len]

/-- The variables a to h. -/
structure St where
  a : W
  b : W
  c : W
  d : W
  e : W
  f : W
  g : W
  h : W
def St.list (s : St) : List W := [s.a, s.b, s.c, s.d, s.e, s.f, s.g, s.h]
def St.add (s t : St) : St := ⟨s.a + t.a, s.b + t.b, s.c + t.c, s.d + t.d, s.e + t.e, s.f + t.f, s.g + t.g, s.h + t.h⟩
def tx (s : St) (k w : W) : W := s.h + (rotr s.e 6 ^^^ rotr s.e 11 ^^^ rotr s.e 25) + ((s.e &&& s.f) ^^^ (~~~s.e &&& s.g)) + k + w
def ty (s : St) : W := (rotr s.a 2 ^^^ rotr s.a 13 ^^^ rotr s.a 22) + ((s.a &&& s.b) ^^^ (s.a &&& s.c) ^^^ (s.b &&& s.c))
def round (s : St) (k w : W) : St := ⟨tx s k w + ty s, s.a, s.b, s.c, s.d + tx s k w, s.e, s.f, s.g⟩
/-- The rounds from t on, n of them. -/
def rounds (ws : List W) : Nat → Nat → St → St
  | 0, _, s => s
  | n + 1, t, s => rounds ws n (t + 1) (round s (K.getD t 0) (ws.getD t 0))
def compress (s : St) (b : List By) : St := s.add (rounds (words b) 64 0 s)

def iv : St := ⟨0x6a09e667#32, 0xbb67ae85#32, 0x3c6ef372#32, 0xa54ff53a#32, 0x510e527f#32, 0x9b05688c#32, 0x1f83d9ab#32, 0x5be0cd19#32⟩

/-- The value after n blocks of a message. -/
def blocks : Nat → St → List By → St
  | 0, s, _ => s
  | n + 1, s, m => blocks n (compress s (m.take 64)) (m.drop 64)
theorem blocks_append (k n : Nat) (s : St) (a b : List By) (h : a.length = 64 * k) : blocks (k + n) s (a ++ b) = blocks n (blocks k s a) b := by
  induction k generalizing s a with
  | zero => rw [List.eq_nil_of_length_eq_zero (by omega : a.length = 0)]; simp [blocks]
  | succ k ih =>
    rw [show k + 1 + n = (k + n) + 1 by omega, blocks, blocks, List.take_append_of_le_length (by omega), List.drop_append_of_le_length (by omega)]
    exact ih _ _ (by rw [List.length_drop]; omega)
theorem blocks_left (k : Nat) (s : St) (a b : List By) (h : 64 * k ≤ a.length) : blocks k s (a ++ b) = blocks k s a := by
  induction k generalizing s a with
  | zero => rfl
  | succ k ih =>
    rw [blocks, blocks, List.take_append_of_le_length (by omega), List.drop_append_of_le_length (by omega)]
    exact ih _ _ (by rw [List.length_drop]; omega)
theorem blocks_add (k n : Nat) (s : St) (m : List By) (h : 64 * k ≤ m.length) : blocks (k + n) s m = blocks n (blocks k s m) (m.drop (64 * k)) := by
  have e : m = m.take (64 * k) ++ m.drop (64 * k) := (List.take_append_drop _ _).symm
  have h1 := blocks_append k n s (m.take (64 * k)) (m.drop (64 * k)) (by rw [List.length_take]; omega)
  have h2 := blocks_left k s (m.take (64 * k)) (m.drop (64 * k)) (by rw [List.length_take]; omega)
  rw [← e] at h1 h2
  rw [h1, h2]

/-- The length in bits, as eight bytes. -/
def len8 (n : Nat) : List By := (List.range 8).map fun i => BitVec.ofNat 8 (8 * n / 2 ^ (56 - 8 * i))
theorem len8_len (n : Nat) : (len8 n).length = 8 := by simp [len8]
/-- The zero bytes of the padding. -/
def zs (n : Nat) : Nat := (119 - n % 64) % 64
def pad (m : List By) : List By := m ++ [128#8] ++ List.replicate (zs m.length) 0#8 ++ len8 m.length
theorem pad_len (m : List By) : (pad m).length = 64 * ((m.length + 72) / 64) := by
  unfold pad zs
  simp only [List.length_append, List.length_replicate, len8_len, List.length_singleton]
  omega
def bytesOf (s : St) : List By := (List.range 32).map fun i => ((s.list.getD (i / 4) 0) >>> (24 - 8 * (i % 4))).setWidth 8
def final (m : List By) : St := blocks ((m.length + 72) / 64) iv (pad m)
def sha (m : List By) : List By := bytesOf (final m)

/-- A stream: the value after the whole blocks of m, and at the beginning of its block the rest. -/
def whole (m : List By) : St := blocks (m.length / 64) iv m
def rest (m : List By) : List By := m.drop (64 * (m.length / 64))
theorem rest_len (m : List By) : (rest m).length = m.length % 64 := by unfold rest; rw [List.length_drop]; omega

/-- More bytes, within the block. -/
theorem rest_within (m t : List By) (h : m.length % 64 + t.length < 64) : whole (m ++ t) = whole m ∧ rest (m ++ t) = rest m ++ t := by
  have e : (m ++ t).length / 64 = m.length / 64 := by rw [List.length_append]; omega
  unfold whole rest
  rw [e, blocks_left _ _ _ _ (by omega), List.drop_append_of_le_length (by omega)]
  exact ⟨rfl, rfl⟩
/-- More bytes, that make the block full. -/
theorem rest_full (m t : List By) (h : m.length % 64 + t.length = 64) : whole (m ++ t) = compress (whole m) (rest m ++ t) ∧ rest (m ++ t) = [] := by
  have e : (m ++ t).length / 64 = m.length / 64 + 1 := by rw [List.length_append]; omega
  constructor
  · unfold whole
    rw [e, blocks_add _ _ _ _ (by rw [List.length_append]; omega), blocks_left _ _ _ _ (by omega), List.drop_append_of_le_length (by omega)]
    show compress _ (List.take 64 (rest m ++ t)) = _
    rw [List.take_of_length_le (by rw [List.length_append, rest_len]; omega)]
  · unfold rest
    rw [e]
    apply List.drop_eq_nil_of_le
    rw [List.length_append]; omega
/-- The end: one block. -/
theorem final_one (m : List By) (h : m.length % 64 ≤ 55) : final m = compress (whole m) (rest m ++ [128#8] ++ List.replicate (55 - m.length % 64) 0#8 ++ len8 m.length) := by
  have e : (m.length + 72) / 64 = m.length / 64 + 1 := by omega
  have hz : zs m.length = 55 - m.length % 64 := by unfold zs; omega
  unfold final
  rw [e, blocks_add _ _ _ _ (by rw [pad_len]; omega)]
  unfold pad
  rw [List.append_assoc, List.append_assoc, blocks_left _ _ _ _ (by omega), List.drop_append_of_le_length (by omega), hz]
  show compress _ (List.take 64 _) = _
  rw [List.take_of_length_le]
  · show compress (whole m) (rest m ++ _) = _
    simp only [List.append_assoc]
  · simp only [List.length_append, List.length_drop, List.length_replicate, len8_len, List.length_singleton]
    omega
/-- The end: two blocks. -/
theorem final_two (m : List By) (h : 55 < m.length % 64) : final m = compress (compress (whole m) (rest m ++ [128#8] ++ List.replicate (63 - m.length % 64) 0#8)) (List.replicate 56 0#8 ++ len8 m.length) := by
  have e : (m.length + 72) / 64 = m.length / 64 + 2 := by omega
  have hz : zs m.length = (63 - m.length % 64) + 56 := by unfold zs; omega
  unfold final
  rw [e, blocks_add _ _ _ _ (by rw [pad_len]; omega)]
  unfold pad
  rw [List.append_assoc, List.append_assoc, blocks_left _ _ _ _ (by omega), List.drop_append_of_le_length (by omega), hz]
  have hr : List.replicate (63 - m.length % 64 + 56) 0#8 = List.replicate (63 - m.length % 64) 0#8 ++ List.replicate 56 0#8 := by rw [List.replicate_append_replicate]
  rw [hr]
  have hb : List.drop (64 * (m.length / 64)) m ++ ([128#8] ++ (List.replicate (63 - m.length % 64) 0#8 ++ List.replicate 56 0#8 ++ len8 m.length)) = (rest m ++ [128#8] ++ List.replicate (63 - m.length % 64) 0#8) ++ (List.replicate 56 0#8 ++ len8 m.length) := by
    simp only [rest, List.append_assoc]
  rw [hb]
  have hl : (rest m ++ [128#8] ++ List.replicate (63 - m.length % 64) 0#8).length = 64 := by
    simp only [List.length_append, rest_len, List.length_replicate, List.length_singleton]; omega
  have hb1 := blocks_append 1 1 (whole m) _ (List.replicate 56 0#8 ++ len8 m.length) (by rw [hl])
  show blocks (1 + 1) (whole m) _ = _
  rw [hb1]
  simp only [blocks]
  rw [List.take_of_length_le (by omega), List.take_of_length_le (by simp [len8_len])]

example : (sha [97#8, 98#8, 99#8]).take 4 = [0xba#8, 0x78#8, 0x16#8, 0xbf#8] := by decide +kernel
end Go.Proofs.YtoigpokmlohhkaaDoor.Hs
