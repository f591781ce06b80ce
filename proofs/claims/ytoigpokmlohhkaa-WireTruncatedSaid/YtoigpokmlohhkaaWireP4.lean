/-
  For every byte sequence (of at most 2000 bytes): what is decoded has consumed its encoding: the statement WireCanonical.
-/
import Derived.Test.YtoigpokmlohhkaaWireP3
namespace Go.Proofs.Ytoigpokmlohhkaa
open Go.RowKit Go.ChangeShapes Go.WideShapes Go.ChangeAt

theorem decE_all {α : Type} {get : Wm.Bs → α × Nat × Int} {P : α → Prop} {N : Nat} (hg : ∀ b x k, Wm.isBs b → b.length ≤ N → get b = (x, k, 0) → P x) (n : Nat) : ∀ (b : Wm.Bs) (l : List α) (u : Nat), Wm.isBs b → b.length ≤ N → Wm.decE get n b = (l, u, 0) → ∀ x ∈ l, P x := by
  induction n with
  | zero => intro b l u _ _ h x hx; cases h; cases hx
  | succ n ih =>
    intro b l u hb hN h x hx
    unfold Wm.decE at h
    obtain ⟨y, k, e, hr⟩ : ∃ y k e, get b = (y, k, e) := ⟨_, _, _, rfl⟩
    rw [hr] at h
    simp only at h
    by_cases he : e = 0
    · subst he
      rw [if_neg (by simp)] at h
      obtain ⟨l2, u2, e2, hr2⟩ : ∃ (y : List α) (k2 : Nat) (e : Int), Wm.decE get n (b.drop k) = (y, k2, e) := ⟨_, _, _, rfl⟩
      rw [hr2] at h
      simp only at h
      by_cases he2 : e2 = 0
      · subst he2
        rw [if_neg (by simp)] at h
        simp only [Prod.mk.injEq] at h
        obtain ⟨rfl, _, _⟩ := h
        rcases List.mem_cons.1 hx with rfl | hx
        · exact hg b _ k hb hN hr
        · exact ih (b.drop k) l2 u2 (fun z hz => hb z (List.mem_of_mem_drop hz)) (by rw [List.length_drop]; omega) hr2 x hx
      · rw [if_pos he2] at h
        simp only [Prod.mk.injEq] at h
        exact absurd h.2.2 he2
    · rw [if_pos he] at h
      simp only [Prod.mk.injEq] at h
      exact absurd h.2.2 he
theorem decL_all {α : Type} {get : Wm.Bs → α × Nat × Int} {P : α → Prop} {least : Nat} {b : Wm.Bs} (hg : ∀ b' x k, Wm.isBs b' → b'.length ≤ b.length → get b' = (x, k, 0) → P x) (hb : Wm.isBs b) {l : List α} {u : Nat} {e : Int} (h : Wm.decL get least b = (l, u, e)) :
    (e ≠ 0 ∧ l = []) ∨ (e = 0 ∧ ∀ x ∈ l, P x) := by
  unfold Wm.decL at h
  by_cases h1 : (Wm.decLen b least).2.2 = 0
  · rw [if_neg (by simpa using h1)] at h
    obtain ⟨l2, u2, e2, hr2⟩ : ∃ y k e, Wm.decE get (Wm.decLen b least).1.toNat (b.drop (Wm.decLen b least).2.1) = (y, k, e) := ⟨_, _, _, rfl⟩
    rw [hr2] at h
    simp only at h
    by_cases he2 : e2 = 0
    · subst he2
      rw [if_neg (by simp)] at h
      simp only [Prod.mk.injEq] at h
      obtain ⟨rfl, _, rfl⟩ := h
      exact .inr ⟨rfl, decE_all hg _ _ _ _ (fun z hz => hb z (List.mem_of_mem_drop hz)) (by rw [List.length_drop]; omega) hr2⟩
    · rw [if_pos he2] at h
      simp only [Prod.mk.injEq] at h
      obtain ⟨rfl, _, rfl⟩ := h
      exact .inl ⟨he2, rfl⟩
  · rw [if_pos h1] at h
    simp only [Prod.mk.injEq] at h
    obtain ⟨rfl, _, rfl⟩ := h
    exact .inl ⟨h1, rfl⟩

theorem enc_nil {α : Type} (enc : α → Wm.Bs) : (Wm.encL enc []).length = 1 := by
  unfold Wm.encL
  rw [List.length_append]
  simp
  unfold Wm.encI
  exact (Wm.encN_one _).2 (by decide)
theorem len_take {b x : Wm.Bs} {u : Nat} (h : b.take u = x) : x.length ≤ b.length := by
  rw [← h, List.length_take]; omega

/-- What the decoders give is small, and can be encoded again; where there was no error, it gives what was consumed. -/
theorem can_I {b : Wm.Bs} (hb : Wm.isBs b) {x : Int} {u : Nat} {e : Int} (h : Wm.decI b = (x, u, e)) : -9223372036854775808 ≤ x ∧ x ≤ 9223372036854775807 ∧ (e ≠ 0 ∨ (e = 0 ∧ u ≤ b.length ∧ b.take u = Wm.encI x)) := by
  rcases Wm.decI_ok hb h with ⟨he, _, _, h3, h4, h5, h6⟩ | ⟨rfl, rfl, he⟩
  · exact ⟨h4, h5, .inr ⟨he, h3, h6⟩⟩
  · exact ⟨by omega, by omega, .inl (by omega)⟩
theorem can_B {b : Wm.Bs} (hb : Wm.isBs b) {x : Wm.Bs} {u : Nat} {e : Int} (h : Wm.decB b = (x, u, e)) : Wm.isBs x ∧ x.length ≤ b.length ∧ (e ≠ 0 ∨ (e = 0 ∧ u ≤ b.length ∧ b.take u = Wm.encB x)) := by
  rcases Wm.decB_ok hb h with ⟨he, _, h3, h4, h5, h6⟩ | ⟨rfl, rfl, he⟩
  · exact ⟨h4, by omega, .inr ⟨he, h3, h6⟩⟩
  · exact ⟨(fun x hx => by cases hx), Nat.zero_le _, .inl (by omega)⟩
theorem can_LI {b : Wm.Bs} (hb : Wm.isBs b) {l : List Int} {u : Nat} {e : Int} (h : Wm.decL Wm.decI 1 b = (l, u, e)) : inR l ∧ (Wm.encL Wm.encI l).length ≤ b.length + 1 ∧ (e ≠ 0 ∨ (e = 0 ∧ u ≤ b.length ∧ b.take u = Wm.encL Wm.encI l)) := by
  rcases decL_all (P := fun x => -9223372036854775808 ≤ x ∧ x ≤ 9223372036854775807) (fun b' x k hb' _ hr => ⟨(can_I hb' hr).1, (can_I hb' hr).2.1⟩) hb h with ⟨he, rfl⟩ | ⟨rfl, hP⟩
  · exact ⟨(fun x hx => by cases hx), by rw [enc_nil]; omega, .inl he⟩
  · have h2 := Wm.decL_can Wm.decI_can (by decide) hb h
    exact ⟨hP, by have := len_take h2.2; omega, .inr ⟨rfl, h2⟩⟩
theorem can_LB {b : Wm.Bs} (hb : Wm.isBs b) {l : List Wm.Bs} {u : Nat} {e : Int} (h : Wm.decL Wm.decB 1 b = (l, u, e)) : (∀ x ∈ l, Wm.isBs x ∧ x.length ≤ b.length) ∧ (Wm.encL Wm.encB l).length ≤ b.length + 1 ∧ (e ≠ 0 ∨ (e = 0 ∧ u ≤ b.length ∧ b.take u = Wm.encL Wm.encB l)) := by
  rcases decL_all (P := fun x => Wm.isBs x ∧ x.length ≤ b.length) (fun b' x k hb' hN hr => ⟨(can_B hb' hr).1, Nat.le_trans (can_B hb' hr).2.1 hN⟩) hb h with ⟨he, rfl⟩ | ⟨rfl, hP⟩
  · exact ⟨(fun x hx => by cases hx), by rw [enc_nil]; omega, .inl he⟩
  · have h2 := Wm.decL_can Wm.decB_can (by decide) hb h
    exact ⟨hP, by have := len_take h2.2; omega, .inr ⟨rfl, h2⟩⟩
theorem can_LD {b : Wm.Bs} (hb : Wm.isBs b) {l : List Wm.Bs} {u : Nat} {e : Int} (h : Wm.decL decD 16 b = (l, u, e)) : isD l ∧ (encD l).length ≤ b.length + 1 ∧ (e ≠ 0 ∨ (e = 0 ∧ u ≤ b.length ∧ b.take u = encD l)) := by
  have h0 := digs_ok hb h
  refine ⟨h0.1, ?_, ?_⟩
  · rcases h0.2 with ⟨_, _, h2, _⟩ | ⟨rfl, _⟩
    · have := len_take h2; omega
    · unfold encD; rw [enc_nil]; omega
  · rcases h0.2 with ⟨he, h1, h2, _⟩ | ⟨_, _, he⟩
    · exact .inr ⟨he, h1, h2⟩
    · exact .inl (by omega)

theorem texts_back {l : List Wm.Bs} (h : ∀ x ∈ l, Wm.isBs x) : Wm.encL encT (l.map strOfNums) = Wm.encL Wm.encB l := by
  unfold Wm.encL
  rw [List.length_map, List.flatMap_map]
  congr 1
  induction l with
  | nil => rfl
  | cons x r ih =>
    rw [List.flatMap_cons, List.flatMap_cons, ih (fun y hy => h y (List.mem_cons_of_mem _ hy))]
    congr 1
    unfold encT
    rw [Wm.ofS_str (h x (List.mem_cons_self))]
theorem str_size {x : Wm.Bs} (h : Wm.isBs x) : (strOfNums x).size = x.length := by rw [← Wm.ofS_length, Wm.ofS_str h]
theorem encLB_bytes {l : List Wm.Bs} (h : ∀ x ∈ l, Wm.isBs x) : Wm.isBs (Wm.encL Wm.encB l) := fun x hx => by
  rcases List.mem_append.1 hx with hx | hx
  · exact Wm.encI_bytes _ x hx
  · obtain ⟨y, hy, hx⟩ := List.mem_flatMap.1 hx
    exact Wm.encB_bytes (h y hy) x hx

end Go.Proofs.Ytoigpokmlohhkaa
