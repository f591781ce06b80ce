/-
  PLAIN FACTS, OF NO PROGRAM: lengths, byte strings and lists in the canonical encoding.
-/
import Derived.Test.YtffgbbfcbobecaaWireMath
namespace Go.Proofs.Ytffgbbfcbobecaa.Wm

/-- A LENGTH of elements of at least so many bytes each. -/
def decLen (b : Bs) (least : Nat) : Int × Nat × Int :=
  if (decI b).2.2 ≠ 0 then (0, 0, (decI b).2.2)
  else if (decI b).1 < 0 then (0, 0, 11)
  else if (((b.length - (decI b).2.1) / least : Nat) : Int) < (decI b).1 then (0, 0, 10)
  else ((decI b).1, (decI b).2.1, 0)

theorem decLen_ok {b : Bs} (hb : isBs b) {least : Nat} (hl : 0 < least) {n : Int} {u : Nat} {e : Int} (h : decLen b least = (n, u, e)) :
    (e = 0 ∧ 0 ≤ n ∧ n ≤ 9223372036854775807 ∧ 1 ≤ u ∧ u ≤ 10 ∧ u + n.toNat * least ≤ b.length ∧ b.take u = encI n) ∨ (n = 0 ∧ u = 0 ∧ (e = 10 ∨ e = 11)) := by
  unfold decLen at h
  obtain ⟨n', u', e', hr⟩ : ∃ n' u' e', decI b = (n', u', e') := ⟨_, _, _, rfl⟩
  rw [hr] at h
  simp only at h
  rcases decI_ok hb hr with ⟨rfl, h1, h2, h3, h4, h5, h6⟩ | ⟨rfl, rfl, h7⟩
  · rw [if_neg (by simp)] at h
    split at h
    · cases h; exact .inr ⟨rfl, rfl, .inr rfl⟩
    split at h
    · cases h; exact .inr ⟨rfl, rfl, .inl rfl⟩
    rename_i g1 g2
    cases h
    refine .inl ⟨rfl, by omega, h5, h1, h2, ?_, h6⟩
    have g3 : n.toNat ≤ (b.length - u) / least := by omega
    have g4 := (Nat.le_div_iff_mul_le hl).1 g3
    omega
  · rw [if_pos (by rcases h7 with h7 | h7 <;> rw [h7] <;> decide)] at h
    cases h
    exact .inr ⟨rfl, rfl, h7⟩

theorem decLen_mk (n : Nat) (t : Bs) {least : Nat} (hl : 0 < least) (hn : n ≤ 9223372036854775807) (ht : n * least ≤ t.length) : decLen (encI n ++ t) least = ((n : Int), (encI n).length, 0) := by
  unfold decLen
  have h := decI_encI (n := (n : Int)) (by omega) (by omega) t
  rw [h]
  simp only
  rw [if_neg (by simp), if_neg (by omega), if_neg]
  have e : (encI (n : Int) ++ t).length - (encI (n : Int)).length = t.length := by rw [List.length_append]; omega
  rw [e]
  have := (Nat.le_div_iff_mul_le hl).2 ht
  omega

/-- A byte string. -/
def encB (s : Bs) : Bs := encI s.length ++ s
def decB (b : Bs) : Bs × Nat × Int :=
  if (decLen b 1).2.2 ≠ 0 then ([], 0, (decLen b 1).2.2)
  else ((b.drop (decLen b 1).2.1).take (decLen b 1).1.toNat, (decLen b 1).2.1 + (decLen b 1).1.toNat, 0)

/-- A string's bytes. -/
def ofS (s : ByteArray) : Bs := s.data.toList.map fun b => (b.toNat : Int)
theorem ofS_length (s : ByteArray) : (ofS s).length = s.size := by
  rw [ofS, List.length_map, Array.length_toList]; rfl
theorem ofS_bytes (s : ByteArray) : isBs (ofS s) := by
  intro x hx
  obtain ⟨b, _, rfl⟩ := List.mem_map.1 hx
  have := b.toNat_lt
  omega
theorem str_ofS (s : ByteArray) : strOfNums (ofS s) = s := by
  have h : (ofS s).map (fun n => UInt8.ofNat n.toNat) = s.data.toList := by
    rw [ofS, List.map_map]
    refine Eq.trans (List.map_congr_left (g := id) fun b _ => ?_) (List.map_id _)
    simp
  unfold strOfNums
  rw [h]
theorem ofS_str {b : Bs} (h : isBs b) : ofS (strOfNums b) = b := by
  unfold ofS
  rw [strOfNums_data, List.map_map]
  refine Eq.trans (List.map_congr_left (g := id) fun x hx => ?_) (List.map_id _)
  have := h x hx
  show ((UInt8.ofNat x.toNat).toNat : Int) = x
  rw [UInt8.toNat_ofNat_of_lt' (show x.toNat < 256 by omega)]
  omega

/-- A list. -/
def encL {α : Type} (enc : α → Bs) (l : List α) : Bs := encI l.length ++ l.flatMap enc

theorem decB_ok {b : Bs} (hb : isBs b) {x : Bs} {u : Nat} {e : Int} (h : decB b = (x, u, e)) :
    (e = 0 ∧ 1 ≤ u ∧ u ≤ b.length ∧ isBs x ∧ x.length + 1 ≤ u ∧ b.take u = encB x) ∨ (x = [] ∧ u = 0 ∧ (e = 10 ∨ e = 11)) := by
  unfold decB at h
  obtain ⟨n', u', e', hr⟩ : ∃ n' u' e', decLen b 1 = (n', u', e') := ⟨_, _, _, rfl⟩
  rw [hr] at h
  simp only at h
  rcases decLen_ok hb (by decide) hr with ⟨rfl, h1, h2, h3, h4, h5, h6⟩ | ⟨rfl, rfl, h7⟩
  · rw [if_neg (by simp)] at h
    cases h
    have hl : ((b.drop u').take n'.toNat).length = n'.toNat := by rw [List.length_take, List.length_drop]; omega
    refine .inl ⟨rfl, by omega, by omega, fun x hx => hb x (List.mem_of_mem_drop (List.mem_of_mem_take hx)), by omega, ?_⟩
    unfold encB
    rw [hl, List.take_add, h6, Int.toNat_of_nonneg h1]
  · rw [if_pos (by rcases h7 with h7 | h7 <;> rw [h7] <;> decide)] at h
    cases h
    exact .inr ⟨rfl, rfl, h7⟩

/-- n ELEMENTS, one after the other. -/
def decE {α : Type} (get : Bs → α × Nat × Int) : Nat → Bs → List α × Nat × Int
  | 0, _ => ([], 0, 0)
  | n + 1, b =>
    if (get b).2.2 ≠ 0 then ([], 0, (get b).2.2)
    else if (decE get n (b.drop (get b).2.1)).2.2 ≠ 0 then ([], 0, (decE get n (b.drop (get b).2.1)).2.2)
    else ((get b).1 :: (decE get n (b.drop (get b).2.1)).1, (get b).2.1 + (decE get n (b.drop (get b).2.1)).2.1, 0)
def decL {α : Type} (get : Bs → α × Nat × Int) (least : Nat) (b : Bs) : List α × Nat × Int :=
  if (decLen b least).2.2 ≠ 0 then ([], 0, (decLen b least).2.2)
  else if (decE get (decLen b least).1.toNat (b.drop (decLen b least).2.1)).2.2 ≠ 0 then ([], 0, (decE get (decLen b least).1.toNat (b.drop (decLen b least).2.1)).2.2)
  else ((decE get (decLen b least).1.toNat (b.drop (decLen b least).2.1)).1, (decLen b least).2.1 + (decE get (decLen b least).1.toNat (b.drop (decLen b least).2.1)).2.1, 0)

/-- HOW FAR A DECODER OF A LIST HAS COME: i of m elements, acc, at the place p; what it will answer. -/
def Going {α : Type} (get : Bs → α × Nat × Int) (b : Bs) (m i : Nat) (acc : List α) (p : Nat) (fin : List α × Nat × Int) : Prop :=
  fin = if (decE get (m - i) (b.drop p)).2.2 ≠ 0 then ([], 0, (decE get (m - i) (b.drop p)).2.2) else (acc ++ (decE get (m - i) (b.drop p)).1, p + (decE get (m - i) (b.drop p)).2.1, 0)

section
variable {α : Type} {get : Bs → α × Nat × Int} {b : Bs} {m i : Nat} {acc : List α} {p : Nat} {fin : List α × Nat × Int}
theorem Going.start {least u : Nat} (h : decLen b least = ((m : Int), u, 0)) : Going get b m 0 [] u (decL get least b) := by
  unfold Going decL
  rw [h]
  simp
theorem Going.end_ (h : Going get b m m acc p fin) : fin = (acc, p, 0) := by
  unfold Going at h
  rw [h, Nat.sub_self]
  simp [decE]
theorem Going.bad {x : α} {k : Nat} {e : Int} (h : Going get b m i acc p fin) (hi : i < m) (hg : get (b.drop p) = (x, k, e)) (he : e ≠ 0) : fin = ([], 0, e) := by
  unfold Going at h
  obtain ⟨j, hj⟩ : ∃ j, m - i = j + 1 := ⟨m - i - 1, by omega⟩
  rw [h, hj]
  unfold decE
  rw [hg]
  simp [he]
theorem Going.next {x : α} {k : Nat} (h : Going get b m i acc p fin) (hi : i < m) (hg : get (b.drop p) = (x, k, 0)) : Going get b m (i + 1) (acc ++ [x]) (p + k) fin := by
  unfold Going at h ⊢
  have hj : m - i = (m - (i + 1)) + 1 := by omega
  rw [h, hj]
  generalize m - (i + 1) = j
  rw [decE]
  rw [hg]
  simp only [List.drop_drop]
  simp only [ne_eq, not_true_eq_false, if_false, List.append_assoc, List.singleton_append]
  by_cases h0 : (decE get j (b.drop (p + k))).2.2 = 0
  · simp [h0, Nat.add_assoc]
  · simp [h0]
end

end Go.Proofs.Ytffgbbfcbobecaa.Wm
