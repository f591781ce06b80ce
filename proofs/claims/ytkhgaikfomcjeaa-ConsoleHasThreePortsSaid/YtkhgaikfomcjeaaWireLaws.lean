/-
  PLAIN FACTS, OF NO PROGRAM: what was encoded is decoded again, whatever follows it; what is decoded was encoded; a proper beginning is cut off: for byte strings and for lists.
-/
import Derived.Test.YtkhgaikfomcjeaaWireList
namespace Go.Proofs.Ytkhgaikfomcjeaa.Wm

theorem encB_len (s : Bs) : (encB s).length = (encI s.length).length + s.length := by unfold encB; rw [List.length_append]
theorem encB_bytes {s : Bs} (h : isBs s) : isBs (encB s) := fun x hx => by
  rcases List.mem_append.1 hx with hx | hx
  · exact encI_bytes _ x hx
  · exact h x hx

theorem decB_encB (s t : Bs) (hs : s.length ≤ 9223372036854775807) : decB (encB s ++ t) = (s, (encB s).length, 0) := by
  have h := decLen_mk (least := 1) s.length (s ++ t) (by decide) hs (by rw [List.length_append]; omega)
  have e : encB s ++ t = encI s.length ++ (s ++ t) := by unfold encB; rw [List.append_assoc]
  unfold decB
  rw [e, h]
  simp only
  rw [if_neg (by simp), List.drop_left, Int.toNat_natCast, List.take_left, encB_len]

section
variable {α : Type} {get : Bs → α × Nat × Int} {enc : α → Bs}
theorem decE_mk (l : List α) : ∀ t : Bs, (∀ x ∈ l, ∀ t, get (enc x ++ t) = (x, (enc x).length, 0)) → decE get l.length (l.flatMap enc ++ t) = (l, (l.flatMap enc).length, 0) := by
  induction l with
  | nil => intro t _; rfl
  | cons x r ih =>
    intro t h
    have hx := h x (List.mem_cons_self) (r.flatMap enc ++ t)
    have hr := ih t (fun y hy => h y (List.mem_cons_of_mem _ hy))
    rw [List.length_cons, decE, List.flatMap_cons, List.append_assoc, hx]
    simp only
    rw [List.drop_left, hr]
    simp

theorem decL_encL (least : Nat) (l : List α) (t : Bs) (h0 : 0 < least) (hl : l.length ≤ 9223372036854775807) (hb : l.length * least ≤ (l.flatMap enc).length)
    (h : ∀ x ∈ l, ∀ t, get (enc x ++ t) = (x, (enc x).length, 0)) : decL get least (encL enc l ++ t) = (l, (encL enc l).length, 0) := by
  have hL := decLen_mk (least := least) l.length (l.flatMap enc ++ t) h0 hl (by rw [List.length_append]; omega)
  have e : encL enc l ++ t = encI l.length ++ (l.flatMap enc ++ t) := by unfold encL; rw [List.append_assoc]
  have hE := decE_mk (get := get) (enc := enc) l t h
  unfold decL
  rw [e, hL]
  simp only
  rw [if_neg (by simp), List.drop_left, Int.toNat_natCast, hE]
  simp [encL]

/-- What was decoded was encoded. -/
theorem decE_can (hg : ∀ b x k, isBs b → get b = (x, k, 0) → k ≤ b.length ∧ b.take k = enc x) (n : Nat) : ∀ (b : Bs) (l : List α) (u : Nat), isBs b → decE get n b = (l, u, 0) → l.length = n ∧ u ≤ b.length ∧ b.take u = l.flatMap enc := by
  induction n with
  | zero => intro b l u _ h; cases h; exact ⟨rfl, Nat.zero_le _, rfl⟩
  | succ n ih =>
    intro b l u hb h
    rw [decE] at h
    obtain ⟨x, k, e, hr⟩ : ∃ x k e, get b = (x, k, e) := ⟨_, _, _, rfl⟩
    rw [hr] at h
    simp only at h
    split at h
    · rename_i he; cases h; exact absurd rfl he
    rename_i he
    obtain rfl : e = 0 := by simpa using he
    obtain ⟨hk, htk⟩ := hg b x k hb hr
    obtain ⟨l', u', e', hr'⟩ : ∃ l' u' e', decE get n (b.drop k) = (l', u', e') := ⟨_, _, _, rfl⟩
    rw [hr'] at h
    simp only at h
    split at h
    · rename_i he'; cases h; exact absurd rfl he'
    rename_i he'
    obtain rfl : e' = 0 := by simpa using he'
    obtain ⟨h1, h2, h3⟩ := ih (b.drop k) l' u' (fun y hy => hb y (List.mem_of_mem_drop hy)) hr'
    cases h
    rw [List.length_drop] at h2
    exact ⟨by rw [List.length_cons, h1], by omega, by rw [List.take_add, htk, h3, List.flatMap_cons]⟩

theorem decL_can (hg : ∀ b x k, isBs b → get b = (x, k, 0) → k ≤ b.length ∧ b.take k = enc x) {least : Nat} (h0 : 0 < least) {b : Bs} {l : List α} {u : Nat} (hb : isBs b) (h : decL get least b = (l, u, 0)) : u ≤ b.length ∧ b.take u = encL enc l := by
  unfold decL at h
  obtain ⟨n, k, e, hr⟩ : ∃ n k e, decLen b least = (n, k, e) := ⟨_, _, _, rfl⟩
  have hok := decLen_ok hb h0 hr
  rw [hr] at h
  simp only at h
  split at h
  · rename_i he; cases h; exact absurd rfl he
  rename_i he
  obtain rfl : e = 0 := by simpa using he
  rcases hok with ⟨_, a1, a2, a3, a4, a5, a6⟩ | ⟨_, _, a⟩
  · obtain ⟨l', u', e', hr'⟩ : ∃ l' u' e', decE get n.toNat (b.drop k) = (l', u', e') := ⟨_, _, _, rfl⟩
    rw [hr'] at h
    simp only at h
    split at h
    · rename_i he'; cases h; exact absurd rfl he'
    rename_i he'
    obtain rfl : e' = 0 := by simpa using he'
    obtain ⟨h1, h2, h3⟩ := decE_can hg n.toNat (b.drop k) l' u' (fun y hy => hb y (List.mem_of_mem_drop hy)) hr'
    cases h
    rw [List.length_drop] at h2
    refine ⟨by omega, ?_⟩
    unfold encL
    rw [List.take_add, a6, h3, h1, Int.toNat_of_nonneg a1]
  · rcases a with a | a <;> cases a

/-- A proper beginning is cut off. -/
theorem decE_cut (l : List α) : ∀ j : Nat, j < (l.flatMap enc).length → (∀ x ∈ l, ∀ t, get (enc x ++ t) = (x, (enc x).length, 0)) → (∀ x ∈ l, ∀ i, i < (enc x).length → (get ((enc x).take i)).2.2 = 10) →
    decE get l.length ((l.flatMap enc).take j) = ([], 0, 10) := by
  induction l with
  | nil => intro j hj; simp at hj
  | cons x r ih =>
    intro j hj h hc
    rw [List.flatMap_cons, List.length_append] at hj
    rw [List.length_cons, decE, List.flatMap_cons]
    rcases Nat.lt_or_ge j (enc x).length with h1 | h1
    · rw [List.take_append_of_le_length (by omega), hc x (List.mem_cons_self) j h1]
      simp
    · rw [List.take_append, List.take_of_length_le h1, h x (List.mem_cons_self)]
      simp only
      rw [List.drop_left, ih (j - (enc x).length) (by omega) (fun y hy => h y (List.mem_cons_of_mem _ hy)) (fun y hy => hc y (List.mem_cons_of_mem _ hy))]
      simp

theorem decLen_cut (n : Nat) (least : Nat) (hn : n ≤ 9223372036854775807) {i : Nat} (hi : i < (encI n).length) : decLen ((encI n).take i) least = (0, 0, 10) := by
  have h := decI_cut (n := (n : Int)) (by omega) (by omega) hi
  unfold decLen
  rw [h]
  rfl
theorem decLen_short (n : Nat) (t : Bs) (least : Nat) (h0 : 0 < least) (hn : n ≤ 9223372036854775807) (ht : t.length < n * least) : decLen (encI n ++ t) least = (0, 0, 10) := by
  have h := decI_encI (n := (n : Int)) (by omega) (by omega) t
  unfold decLen
  rw [h]
  simp only
  rw [if_neg (by simp), if_neg (by omega), if_pos]
  have e : (encI (n : Int) ++ t).length - (encI (n : Int)).length = t.length := by rw [List.length_append]; omega
  rw [e]
  have h1 := (Nat.div_lt_iff_lt_mul h0).2 ht
  omega

theorem decL_cut (least : Nat) (h0 : 0 < least) (l : List α) (hl : l.length ≤ 9223372036854775807) (h : ∀ x ∈ l, ∀ t, get (enc x ++ t) = (x, (enc x).length, 0))
    (hc : (∀ x ∈ l, ∀ i, i < (enc x).length → (get ((enc x).take i)).2.2 = 10) ∨ (l.flatMap enc).length = l.length * least) {i : Nat} (hi : i < (encL enc l).length) : decL get least ((encL enc l).take i) = ([], 0, 10) := by
  unfold encL at hi ⊢
  rw [List.length_append] at hi
  rcases Nat.lt_or_ge i (encI l.length).length with h1 | h1
  · rw [List.take_append_of_le_length (by omega)]
    unfold decL
    rw [decLen_cut l.length least hl h1]
    rfl
  · rw [List.take_append, List.take_of_length_le h1]
    have hj : i - (encI l.length).length < (l.flatMap enc).length := by omega
    generalize i - (encI l.length).length = j at hj
    have htl : ((l.flatMap enc).take j).length = j := by rw [List.length_take]; omega
    rcases Nat.lt_or_ge j (l.length * least) with h2 | h2
    · unfold decL
      rw [decLen_short l.length _ least h0 hl (by rw [htl]; exact h2)]
      rfl
    · rcases hc with hc | hc
      · have hE := decE_cut (get := get) (enc := enc) l j hj h hc
        unfold decL
        rw [decLen_mk l.length _ h0 hl (by rw [htl]; exact h2)]
        simp only
        rw [List.drop_left, Int.toNat_natCast, hE]
        simp
      · omega
end

theorem decB_can (b : Bs) (x : Bs) (k : Nat) (hb : isBs b) (h : decB b = (x, k, 0)) : k ≤ b.length ∧ b.take k = encB x := by
  rcases decB_ok hb h with ⟨_, _, h2, _, _, h5⟩ | ⟨_, _, a⟩
  · exact ⟨h2, h5⟩
  · rcases a with a | a <;> cases a
theorem decI_can (b : Bs) (x : Int) (k : Nat) (hb : isBs b) (h : decI b = (x, k, 0)) : k ≤ b.length ∧ b.take k = encI x := by
  rcases decI_ok hb h with ⟨_, _, _, h2, _, _, h5⟩ | ⟨_, _, a⟩
  · exact ⟨h2, h5⟩
  · rcases a with a | a <;> cases a
theorem decB_cut (s : Bs) (hs : s.length ≤ 9223372036854775807) {i : Nat} (hi : i < (encB s).length) : decB ((encB s).take i) = ([], 0, 10) := by
  unfold encB at hi ⊢
  rw [List.length_append] at hi
  rcases Nat.lt_or_ge i (encI s.length).length with h1 | h1
  · rw [List.take_append_of_le_length (by omega)]
    unfold decB
    rw [decLen_cut s.length 1 hs h1]
    rfl
  · rw [List.take_append, List.take_of_length_le h1]
    unfold decB
    rw [decLen_short s.length _ 1 (by decide) hs (by rw [List.length_take]; omega)]
    rfl

/-- Integers. -/
theorem ints_back (l : List Int) (t : Bs) (h : ∀ x ∈ l, -9223372036854775808 ≤ x ∧ x ≤ 9223372036854775807) (hl : l.length ≤ 9223372036854775807) : decL decI 1 (encL encI l ++ t) = (l, (encL encI l).length, 0) := by
  refine decL_encL 1 l t (by decide) hl ?_ (fun x hx t => decI_encI (h x hx).1 (h x hx).2 t)
  rw [Nat.mul_one]
  clear h hl
  induction l with
  | nil => simp
  | cons x r ih => rw [List.flatMap_cons, List.length_append, List.length_cons]; have := encI_pos x; omega
theorem ints_cut (l : List Int) (h : ∀ x ∈ l, -9223372036854775808 ≤ x ∧ x ≤ 9223372036854775807) (hl : l.length ≤ 9223372036854775807) {i : Nat} (hi : i < (encL encI l).length) : decL decI 1 ((encL encI l).take i) = ([], 0, 10) :=
  decL_cut 1 (by decide) l hl (fun x hx t => decI_encI (h x hx).1 (h x hx).2 t) (.inl fun x hx i hi => by rw [decI_cut (h x hx).1 (h x hx).2 hi]) hi
theorem strs_back (l : List Bs) (t : Bs) (h : ∀ x ∈ l, x.length ≤ 9223372036854775807) (hl : l.length ≤ 9223372036854775807) : decL decB 1 (encL encB l ++ t) = (l, (encL encB l).length, 0) := by
  refine decL_encL 1 l t (by decide) hl ?_ (fun x hx t => decB_encB x t (h x hx))
  rw [Nat.mul_one]
  clear h hl
  induction l with
  | nil => simp
  | cons x r ih => rw [List.flatMap_cons, List.length_append, List.length_cons, encB_len]; have := encI_pos x.length; omega
theorem strs_cut (l : List Bs) (h : ∀ x ∈ l, x.length ≤ 9223372036854775807) (hl : l.length ≤ 9223372036854775807) {i : Nat} (hi : i < (encL encB l).length) : decL decB 1 ((encL encB l).take i) = ([], 0, 10) :=
  decL_cut 1 (by decide) l hl (fun x hx t => decB_encB x t (h x hx)) (.inl fun x hx i hi => by rw [decB_cut x (h x hx) hi]) hi

end Go.Proofs.Ytkhgaikfomcjeaa.Wm
