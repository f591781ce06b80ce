/-
  DIGESTS: the sums of their lists' coding (plain mathematics).
-/
import Derived.Test.YtoigpokmlohhkaaWireH
import Derived.Test.YtoigpokmlohhkaaWireLaws
namespace Go.Proofs.Ytoigpokmlohhkaa

theorem digs_decE (n : Nat) : ∀ b : Wm.Bs, n * 16 ≤ b.length → Wm.isBs b → ∃ l, Wm.decE decD n b = (l, n * 16, 0) ∧ isD l ∧ l.length = n ∧ l.flatten = b.take (n * 16) := by
  induction n with
  | zero => intro b _ _; exact ⟨[], rfl, fun d hd => by simp at hd, rfl, by simp⟩
  | succ n ih =>
    intro b hb hbs
    obtain ⟨l, h1, h2, h3, h4⟩ := ih (b.drop 16) (by rw [List.length_drop]; omega) (fun x hx => hbs x (List.mem_of_mem_drop hx))
    refine ⟨b.take 16 :: l, ?_, ?_, by simp [h3], ?_⟩
    · unfold Wm.decE
      simp only [decD, h1]
      rw [if_neg (by simp), if_neg (by simp)]
      refine Prod.ext rfl (Prod.ext ?_ rfl)
      simp only
      omega
    · intro d hd
      rcases List.mem_cons.1 hd with rfl | hd
      · exact ⟨by rw [List.length_take]; omega, fun x hx => hbs x (List.mem_of_mem_take hx)⟩
      · exact h2 d hd
    · rw [List.flatten_cons, h4, show (n + 1) * 16 = 16 + n * 16 by omega, List.take_add]

theorem digs_ok {b : Wm.Bs} (hb : Wm.isBs b) {l : List Wm.Bs} {u : Nat} {e : Int} (h : Wm.decL decD 16 b = (l, u, e)) :
    isD l ∧ ((e = 0 ∧ u ≤ b.length ∧ b.take u = encD l ∧ l.length * 16 ≤ b.length) ∨ (l = [] ∧ u = 0 ∧ (e = 10 ∨ e = 11))) := by
  unfold Wm.decL at h
  obtain ⟨n', u', e', hr⟩ : ∃ n' u' e', Wm.decLen b 16 = (n', u', e') := ⟨_, _, _, rfl⟩
  rw [hr] at h
  simp only at h
  rcases Wm.decLen_ok hb (by decide) hr with ⟨he, h1, h2, h3, h4, h5, h6⟩ | ⟨hn, hu, he⟩
  · subst he
    obtain ⟨l2, g1, g2, g3, g4⟩ := digs_decE n'.toNat (b.drop u') (by rw [List.length_drop]; omega) (fun x hx => hb x (List.mem_of_mem_drop hx))
    rw [if_neg (by simp), g1, if_neg (by simp)] at h
    simp only [Prod.mk.injEq] at h
    obtain ⟨rfl, rfl, rfl⟩ := h
    refine ⟨g2, .inl ⟨rfl, h5, ?_, by omega⟩⟩
    unfold encD Wm.encL
    rw [List.take_add, h6, ← g4, g3, show (n'.toNat : Int) = n' by omega]
    simp [List.flatMap_id]
  · rw [if_pos (by omega)] at h
    simp only [Prod.mk.injEq] at h
    obtain ⟨rfl, rfl, rfl⟩ := h
    exact ⟨fun d hd => by simp at hd, .inr ⟨rfl, rfl, he⟩⟩

theorem flat_take (l : List Wm.Bs) (h : isD l) (t : Wm.Bs) : Wm.decE decD l.length (l.flatten ++ t) = (l, l.length * 16, 0) := by
  induction l with
  | nil => rfl
  | cons d r ih =>
    have hd := (h d (List.mem_cons_self)).1
    have hr := ih (fun x hx => h x (List.mem_cons_of_mem _ hx))
    rw [List.length_cons]
    unfold Wm.decE
    simp only [decD, List.flatten_cons, List.append_assoc]
    rw [List.drop_append_of_le_length (by omega), List.drop_of_length_le (by omega), List.nil_append, hr, List.take_append_of_le_length (by omega), List.take_of_length_le (by omega)]
    simp only [ne_eq, not_true_eq_false, if_false, Prod.mk.injEq, and_true, true_and]
    omega

theorem encD_len {l : List Wm.Bs} (h : isD l) : (encD l).length = (Wm.encI (l.length : Int)).length + l.length * 16 := by
  unfold encD Wm.encL
  rw [List.length_append, List.flatMap_id, flat_len h]
theorem encD_bytes {l : List Wm.Bs} (h : isD l) : Wm.isBs (encD l) := fun x hx => by
  unfold encD Wm.encL at hx
  rw [List.flatMap_id] at hx
  rcases List.mem_append.1 hx with hx | hx
  · exact Wm.encI_bytes _ x hx
  · obtain ⟨d, hd, hx⟩ := List.mem_flatten.1 hx
    exact (h d hd).2 x hx

theorem digs_back (l : List Wm.Bs) (h : isD l) (hl : l.length ≤ 9223372036854775807) (t : Wm.Bs) : Wm.decL decD 16 (encD l ++ t) = (l, (encD l).length, 0) := by
  have hlen := Wm.decLen_mk l.length (l.flatten ++ t) (least := 16) (by decide) hl (by rw [List.length_append, flat_len h]; omega)
  rw [encD_len h]
  unfold encD Wm.encL Wm.decL
  rw [List.flatMap_id, List.append_assoc, hlen]
  simp only [List.drop_left, Int.toNat_natCast, flat_take l h t]
  simp

theorem digs_cut (l : List Wm.Bs) (h : isD l) (hl : l.length ≤ 9223372036854775807) {i : Nat} (hi : i < (encD l).length) : Wm.decL decD 16 ((encD l).take i) = ([], 0, 10) := by
  have hq := encD_len h
  unfold Wm.decL
  rcases Nat.lt_or_ge i (Wm.encI (l.length : Int)).length with h0 | h0
  · have h1 := Wm.decLen_cut l.length 16 hl h0
    have h2 : (encD l).take i = (Wm.encI (l.length : Int)).take i := by
      unfold encD Wm.encL
      rw [List.take_append_of_le_length (by omega)]
    rw [h2, h1]
    simp
  · have h2 : (encD l).take i = Wm.encI (l.length : Int) ++ l.flatten.take (i - (Wm.encI (l.length : Int)).length) := by
      unfold encD Wm.encL
      rw [List.take_append, List.flatMap_id, List.take_of_length_le h0]
    rw [h2, Wm.decLen_short l.length _ 16 (by decide) hl (by rw [List.length_take, flat_len h]; omega)]
    simp

end Go.Proofs.Ytoigpokmlohhkaa
