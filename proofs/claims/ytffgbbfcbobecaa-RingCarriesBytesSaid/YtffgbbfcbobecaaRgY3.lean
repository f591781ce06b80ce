/-
  A RING: what is scattered is gathered: plain mathematics.
-/
import Derived.Test.YtffgbbfcbobecaaRgY2
namespace Go.Proofs.Ytffgbbfcbobecaa
open Go.RowKit Go.ChangeShapes Go.WideShapes Go.ChangeAt

def tos (l : List Rg.Pt) : List Rg.Pt := l.filter fun p => p.2.2.2
theorem tos_succ (l : List Rg.Pt) {k : Nat} (hk : k < l.length) : tos (l.take (k + 1)) = if l[k].2.2.2 then tos (l.take k) ++ [l[k]] else tos (l.take k) := by
  unfold tos
  rw [List.take_succ_eq_append_getElem hk, List.filter_append]
  cases h : l[k].2.2.2
  · simp [h]
  · simp [h]
/-- A part as one that is read. -/
def ro (p : Rg.Pt) : Rg.Pt := (p.1, p.2.1, p.2.2.1, false)
def gw (b : Wm.Bs) (L : List Rg.Pt) : Wm.Bs := L.flatMap fun p => Mm.rd b p.2.1 p.2.2.1
theorem gat_ro (b : Wm.Bs) (L : List Rg.Pt) : Rg.gat b (L.map ro) = gw b L := by
  unfold Rg.gat gw
  rw [List.flatMap_map]
  rfl
theorem gw_congr {X b : Wm.Bs} : ∀ {L : List Rg.Pt}, (∀ p ∈ L, Mm.rd X p.2.1 p.2.2.1 = Mm.rd b p.2.1 p.2.2.1) → gw X L = gw b L := by
  intro L
  induction L with
  | nil => intro _; rfl
  | cons p r ih =>
    intro h
    unfold gw at ih ⊢
    rw [List.flatMap_cons, List.flatMap_cons, h p List.mem_cons_self, ih (fun q hq => h q (List.mem_cons_of_mem _ hq))]
def Fits (L : Nat) (p : Rg.Pt) : Prop := 0 ≤ p.2.1 ∧ 1 ≤ p.2.2.1 ∧ p.2.1 + p.2.2.1 ≤ (L : Int)
def Dj (p q : Rg.Pt) : Prop := p.2.1 + p.2.2.1 ≤ q.2.1 ∨ q.2.1 + q.2.2.1 ≤ p.2.1
theorem wr_len {X d : Wm.Bs} {p : Rg.Pt} (hp : Fits X.length p) (hd : (d.length : Int) ≤ p.2.2.1) : (Mm.wr X p.2.1 d).length = X.length := by
  obtain ⟨h1, h2, h3⟩ := hp
  unfold Mm.wr
  rw [if_pos ⟨h1, by omega, by omega⟩, Mm.put_len (by omega)]
theorem rd_wr_other {X d : Wm.Bs} {p q : Rg.Pt} (hp : Fits X.length p) (hq : Fits X.length q) (hd : (d.length : Int) ≤ p.2.2.1) (h : Dj p q) : Mm.rd (Mm.wr X p.2.1 d) q.2.1 q.2.2.1 = Mm.rd X q.2.1 q.2.2.1 := by
  have e := wr_len hp hd
  obtain ⟨h1, h2, h3⟩ := hp
  obtain ⟨q1, q2, q3⟩ := hq
  unfold Dj at h
  unfold Mm.rd
  rw [e, if_pos ⟨q1, by omega, by omega⟩, if_pos ⟨q1, by omega, by omega⟩]
  unfold Mm.wr
  rw [if_pos ⟨h1, by omega, by omega⟩, Mm.put_other (by omega) (by omega)]
theorem rd_wr_self {X d : Wm.Bs} {p : Rg.Pt} (hp : Fits X.length p) (hd : (d.length : Int) ≤ p.2.2.1) : Mm.rd (Mm.wr X p.2.1 d) p.2.1 p.2.2.1 = d ++ (Mm.rd X p.2.1 p.2.2.1).drop d.length := by
  have e := wr_len hp hd
  obtain ⟨h1, h2, h3⟩ := hp
  unfold Mm.rd
  rw [e, if_pos ⟨h1, by omega, by omega⟩, if_pos ⟨h1, by omega, by omega⟩]
  unfold Mm.wr
  rw [if_pos ⟨h1, by omega, by omega⟩]
  unfold Mm.put
  have e1 : (X.take p.2.1.toNat).length = p.2.1.toNat := by rw [List.length_take]; omega
  rw [List.append_assoc, List.drop_append_of_le_length (by omega), List.drop_of_length_le (by omega), List.nil_append, List.take_append]
  rw [List.take_of_length_le (by omega : d.length ≤ p.2.2.1.toNat), List.drop_take, List.drop_drop]
theorem rd_len' {X : Wm.Bs} {p : Rg.Pt} (hp : Fits X.length p) : (Mm.rd X p.2.1 p.2.2.1).length = p.2.2.1.toNat := by
  obtain ⟨h1, h2, h3⟩ := hp
  unfold Mm.rd
  rw [if_pos ⟨h1, by omega, by omega⟩, List.length_take, List.length_drop]
  omega
/-- The room of the written parts. -/
def rm (l : List Rg.Pt) : Nat := ((tos l).map fun p => p.2.2.1.toNat).sum
theorem room_rm {l : List Rg.Pt} (h : ∀ p ∈ l, 1 ≤ p.2.2.1) : Rg.room l = (rm l : Int) := by
  unfold Rg.room rm tos
  induction l with
  | nil => rfl
  | cons p r ih =>
    have h1 := ih (fun q hq => h q (List.mem_cons_of_mem _ hq))
    have h2 := h p List.mem_cons_self
    rw [List.map_cons, List.sum_cons, List.filter_cons, h1]
    cases hw : p.2.2.2
    · simp
    · simp
      omega
theorem gw_snoc (b : Wm.Bs) (L : List Rg.Pt) (p : Rg.Pt) : gw b (L ++ [p]) = gw b L ++ Mm.rd b p.2.1 p.2.2.1 := by
  unfold gw
  rw [List.flatMap_append]
  simp
theorem carry (b D : Wm.Bs) (l : List Rg.Pt) (hl : ∀ p ∈ l, Fits b.length p) (hd : (tos l).Pairwise Dj) : ∀ k, k ≤ l.length →
    (scF b D (l.take k)).1.length = b.length ∧ (scF b D (l.take k)).2 = min D.length (rm (l.take k)) ∧
    (∀ q, Fits b.length q → (∀ p ∈ tos (l.take k), Dj p q) → Mm.rd (scF b D (l.take k)).1 q.2.1 q.2.2.1 = Mm.rd b q.2.1 q.2.2.1) ∧
    (gw b (tos (l.take k))).length = rm (l.take k) ∧
    gw (scF b D (l.take k)).1 (tos (l.take k)) = D.take (scF b D (l.take k)).2 ++ (gw b (tos (l.take k))).drop (scF b D (l.take k)).2 := by
  intro k
  induction k with
  | zero => intro _; exact ⟨rfl, (Nat.min_eq_right (Nat.zero_le _)).symm, fun _ _ _ => rfl, rfl, by rw [List.take_zero]; rfl⟩
  | succ k ih =>
    intro hk
    have hkl : k < l.length := by omega
    obtain ⟨h1, h2, h3, h4, h5⟩ := ih (by omega)
    have hs := scF_succ b D l hkl
    have ht := tos_succ l hkl
    have hf := hl _ (List.getElem_mem hkl)
    have hpw : (tos (l.take (k + 1))).Pairwise Dj := hd.sublist ((List.take_sublist _ _).filter _)
    obtain ⟨X, hX⟩ : ∃ X, X = (scF b D (l.take k)).1 := ⟨_, rfl⟩
    obtain ⟨K, hK⟩ : ∃ X, X = (scF b D (l.take k)).2 := ⟨_, rfl⟩
    have hst : scF b D (l.take k) = (X, K) := by rw [hX, hK]
    rw [hst] at h1 h2 h3 h5 hs
    obtain ⟨p, hp⟩ : ∃ p, p = l[k] := ⟨_, rfl⟩
    rw [← hp] at hs ht hf
    have h1' : X.length = b.length := h1
    have h2' : K = min D.length (rm (l.take k)) := h2
    have h5' : gw X (tos (l.take k)) = D.take K ++ (gw b (tos (l.take k))).drop K := h5
    have h3' : ∀ q, Fits b.length q → (∀ p ∈ tos (l.take k), Dj p q) → Mm.rd X q.2.1 q.2.2.1 = Mm.rd b q.2.1 q.2.2.1 := h3
    clear h1 h2 h5 h3 hst hX hK hp
    cases hw : p.2.2.2
    · have e1 : scF b D (l.take (k + 1)) = (X, K) := by rw [hs]; unfold scStep; rw [if_neg (by rw [hw]; decide)]
      have e2 : tos (l.take (k + 1)) = tos (l.take k) := by rw [ht, hw]; rfl
      have e3 : rm (l.take (k + 1)) = rm (l.take k) := by unfold rm; rw [e2]
      rw [e1, e2, e3]
      exact ⟨h1', h2', h3', h4, h5'⟩
    · have e1 : scF b D (l.take (k + 1)) = (Mm.wr X p.2.1 ((D.drop K).take p.2.2.1.toNat), K + min p.2.2.1.toNat (D.length - K)) := by rw [hs]; unfold scStep; rw [if_pos hw]
      have e2 : tos (l.take (k + 1)) = tos (l.take k) ++ [p] := by rw [ht, hw]; rfl
      have e3 : rm (l.take (k + 1)) = rm (l.take k) + p.2.2.1.toNat := by unfold rm; rw [e2, List.map_append, List.sum_append]; simp
      rw [e2, List.pairwise_append] at hpw
      have hdj : ∀ q ∈ tos (l.take k), Dj q p := fun q hq => hpw.2.2 q hq p (List.mem_singleton.2 rfl)
      have hfq : ∀ q ∈ tos (l.take k), Fits b.length q := fun q hq => hl q (List.mem_of_mem_take (List.mem_filter.1 hq).1)
      obtain ⟨d, hd'⟩ : ∃ d, d = (D.drop K).take p.2.2.1.toNat := ⟨_, rfl⟩
      have hdl : d.length = min p.2.2.1.toNat (D.length - K) := by rw [hd', List.length_take, List.length_drop]
      have hp1 := hf.2.1
      have hdn : (d.length : Int) ≤ p.2.2.1 := by omega
      have hfX : Fits X.length p := by rw [h1']; exact hf
      rw [e1, e2, e3, ← hd', ← hdl]
      refine ⟨(wr_len hfX hdn).trans h1', ?_, ?_, ?_, ?_⟩
      · show K + d.length = _; omega
      · intro q hq hall
        have hpq : Dj p q := hall p (List.mem_append_right _ (List.mem_singleton.2 rfl))
        show Mm.rd (Mm.wr X p.2.1 d) q.2.1 q.2.2.1 = _
        rw [rd_wr_other hfX (by rw [h1']; exact hq) hdn hpq]
        exact h3' q hq fun x hx => hall x (List.mem_append_left _ hx)
      · rw [gw_snoc, List.length_append, h4, rd_len' hf]
      · show gw (Mm.wr X p.2.1 d) (tos (l.take k) ++ [p]) = D.take (K + d.length) ++ (gw b (tos (l.take k) ++ [p])).drop (K + d.length)
        have g1 : gw (Mm.wr X p.2.1 d) (tos (l.take k)) = gw X (tos (l.take k)) := gw_congr fun q hq => by
          have := hdj q hq
          exact rd_wr_other hfX (by rw [h1']; exact hfq q hq) hdn (by unfold Dj at this ⊢; omega)
        rw [gw_snoc, gw_snoc, g1, h5', rd_wr_self hfX hdn, h3' p hf hdj]
        have hrl := rd_len' hf
        obtain ⟨Y, hY⟩ : ∃ Y, Y = Mm.rd b p.2.1 p.2.2.1 := ⟨_, rfl⟩
        obtain ⟨Q, hQ⟩ : ∃ Y, Y = gw b (tos (l.take k)) := ⟨_, rfl⟩
        rw [← hQ] at h4 ⊢
        rw [← hY] at hrl ⊢
        by_cases hc : K < rm (l.take k)
        · have hd0 : d = [] := List.length_eq_zero_iff.1 (by omega)
          rw [hd0, List.length_nil, Nat.add_zero, List.drop_zero, List.nil_append, List.append_assoc, List.drop_append_of_le_length (by omega)]
        · have hKr : K = rm (l.take k) := by omega
          have z1 : Q.drop K = [] := List.drop_of_length_le (by omega)
          have z2 : D.take (K + d.length) = D.take K ++ d := by
            rw [List.take_add]
            congr 1
            rw [hdl, hd', List.take_eq_take_iff, List.length_drop]
            omega
          have z3 : (Q ++ Y).drop (K + d.length) = Y.drop d.length := by
            rw [← List.drop_drop, List.drop_append_of_le_length (by omega), z1, List.nil_append]
          rw [z1, z2, z3, List.append_nil, List.append_assoc]
/-- What is gathered after a scattering. -/
theorem carried {b D : Wm.Bs} {l : List Rg.Pt} (hl : ∀ p ∈ l, Fits b.length p) (hd : (tos l).Pairwise Dj) :
    ((scF b D l).2 : Int) = min (D.length : Int) (Rg.room l) ∧ (scF b D l).2 ≤ D.length ∧ (scF b D l).2 ≤ (gw b (tos l)).length ∧
    gw (scF b D l).1 (tos l) = D.take (scF b D l).2 ++ (gw b (tos l)).drop (scF b D l).2 := by
  have h := carry b D l hl hd l.length (Nat.le_refl _)
  rw [List.take_length] at h
  obtain ⟨_, h2, _, h4, h5⟩ := h
  rw [room_rm (fun p hp => (hl p hp).2.1)]
  exact ⟨by omega, by omega, by omega, h5⟩
end Go.Proofs.Ytffgbbfcbobecaa
