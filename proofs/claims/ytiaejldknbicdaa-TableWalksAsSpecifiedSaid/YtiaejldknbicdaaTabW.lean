/-
  PLAIN FACTS, OF NO PROGRAM: what a walk stores keeps where it leads: the bits of a leaf.
-/
import Derived.Test.YtiaejldknbicdaaTabK2
namespace Go.Proofs.Ytiaejldknbicdaa
open Go.RowKit
namespace Tm

theorem wi_16 {e : Int} (h : isE e) : has (wi e 16) 16 = true ∧ has (wi e 16) 1 = has e 1 ∧ has (wi e 16) 2 = has e 2 ∧ has (wi e 16) 4 = has e 4 ∧ has (wi e 16) 8 = has e 8 ∧ has (wi e 16) 32 = has e 32 ∧ has (wi e 16) 64 = has e 64 ∧ adr (wi e 16) = adr e := by
  have h0 := h.1
  unfold wi
  by_cases hb : has e 16 = true
  · rw [if_pos hb]
    exact ⟨hb, rfl, rfl, rfl, rfl, rfl, rfl, rfl⟩
  · rw [if_neg hb]
    have h1 : e / 16 % 2 = 0 := by
      unfold has at hb
      simp only [decide_eq_true_eq] at hb
      omega
    unfold has adr
    refine ⟨decide_eq_true (by omega), ?_, ?_, ?_, ?_, ?_, ?_, by omega⟩
    all_goals rw [decide_eq_decide]; omega
theorem wi_32 {e : Int} (h : isE e) : has (wi e 32) 32 = true ∧ has (wi e 32) 1 = has e 1 ∧ has (wi e 32) 2 = has e 2 ∧ has (wi e 32) 4 = has e 4 ∧ has (wi e 32) 8 = has e 8 ∧ has (wi e 32) 16 = has e 16 ∧ has (wi e 32) 64 = has e 64 ∧ adr (wi e 32) = adr e := by
  have h0 := h.1
  unfold wi
  by_cases hb : has e 32 = true
  · rw [if_pos hb]
    exact ⟨hb, rfl, rfl, rfl, rfl, rfl, rfl, rfl⟩
  · rw [if_neg hb]
    have h1 : e / 32 % 2 = 0 := by
      unfold has at hb
      simp only [decide_eq_true_eq] at hb
      omega
    unfold has adr
    refine ⟨decide_eq_true (by omega), ?_, ?_, ?_, ?_, ?_, ?_, by omega⟩
    all_goals rw [decide_eq_decide]; omega
/-- What an access leaves of an entry. -/
theorem after_is {e : Int} (acc : Int) (h : isE e) : isE (after e acc) ∧ has (after e acc) 1 = has e 1 ∧ has (after e acc) 2 = has e 2 ∧ has (after e acc) 4 = has e 4 ∧ has (after e acc) 8 = has e 8 ∧ has (after e acc) 64 = has e 64 ∧ adr (after e acc) = adr e ∧ after (after e acc) acc = after e acc := by
  have h1 := wi_16 h
  have h2 := wi_e h (b := 16) (.inl rfl)
  unfold after
  cases isSt acc
  · simp only [Bool.false_eq_true, if_false]
    refine ⟨h2, h1.2.1, h1.2.2.1, h1.2.2.2.1, h1.2.2.2.2.1, h1.2.2.2.2.2.2.1, h1.2.2.2.2.2.2.2, ?_⟩
    rw [wi, if_pos h1.1]
  · simp only [if_true]
    have h3 := wi_32 h2
    refine ⟨wi_e h2 (.inr rfl), h3.2.1.trans h1.2.1, h3.2.2.1.trans h1.2.2.1, h3.2.2.2.1.trans h1.2.2.2.1, h3.2.2.2.2.1.trans h1.2.2.2.2.1, h3.2.2.2.2.2.2.1.trans h1.2.2.2.2.2.2.1, h3.2.2.2.2.2.2.2.trans h1.2.2.2.2.2.2.2, ?_⟩
    have h4 : wi (wi (wi e 16) 32) 16 = wi (wi e 16) 32 := by rw [wi, if_pos (h3.2.2.2.2.2.1.trans h1.1)]
    rw [h4, wi, if_pos h3.1]
theorem allows_after {e : Int} (acc : Int) (u : Bool) (h : isE e) : allows (after e acc) acc u = allows e acc u := by
  have h1 := after_is acc h
  unfold allows
  rw [h1.2.2.1, h1.2.2.2.1, h1.2.2.2.2.1]
theorem pgOf_after {e : Int} (acc va : Int) (h : isE e) : pgOf (after e acc) va = pgOf e va := by
  have h1 := after_is acc h
  unfold pgOf
  rw [h1.2.2.2.2.2.1, h1.2.2.2.2.2.2.1]
/-- A word stored, read again. -/
theorem wd_same {b : Wm.Bs} {a v : Int} (ht : Mm.There b.length a 4) (hv : isE v) : wd (Mm.put b a.toNat (Mm.el 4 v)) a = v := by
  have hl : a.toNat + (Mm.el 4 v).length ≤ b.length := by rw [Mm.el_len]; have := ht.2.1; have := ht.2.2; omega
  unfold wd Mm.ld
  rw [if_pos (by rw [Mm.put_len hl]; exact ht)]
  have h := Mm.put_same hl
  rw [Mm.el_len] at h
  show Mm.le (((Mm.put b a.toNat (Mm.el 4 v)).drop a.toNat).take 4) = v
  rw [h, Mm.le_el]
  have h0 := hv.1
  have h1 := hv.2
  exact Int.emod_eq_of_lt h0 h1
theorem wd_other {b : Wm.Bs} {a v c : Int} (ht : Mm.There b.length a 4) (hc0 : 0 ≤ c) (hne : c + 4 ≤ a ∨ a + 4 ≤ c) : wd (Mm.put b a.toNat (Mm.el 4 v)) c = wd b c := by
  have hl : a.toNat + (Mm.el 4 v).length ≤ b.length := by rw [Mm.el_len]; have := ht.2.1; have := ht.2.2; omega
  have ha := ht.2.1
  unfold wd Mm.ld
  rw [Mm.put_len hl]
  split
  · show Mm.le (((Mm.put b a.toNat (Mm.el 4 v)).drop c.toNat).take 4) = Mm.le ((b.drop c.toNat).take 4)
    rw [Mm.put_other hl (by rw [Mm.el_len]; omega)]
  · rfl
/-- A leaf found again, behind what the access stores there. -/
theorem find_after {n : Nat} {b : Wm.Bs} {root va acc : Int} (hb : Wm.isBs b) (hr0 : 0 ≤ root) (hrm : root % 4 = 0) (hv0 : 0 ≤ va) (h : (find n b root va).ok = true) (ht : Mm.There b.length (find n b root va).a 4) (hself : (find n b root va).r.length = 2 → fA root va ≠ (find n b root va).a) :
    find n (Mm.put b (find n b root va).a.toNat (Mm.el 4 (after (find n b root va).e acc))) root va = ⟨(find n b root va).a, after (find n b root va).e acc, (find n b root va).r, true⟩ := by
  have he := wd_e hb (fA root va)
  by_cases h1 : (has (wd b (fA root va)) 1 && rF n (wd b (fA root va))) = true
  · by_cases h2 : has (wd b (fA root va)) 64 = true
    · have hf : find n b root va = ⟨fA root va, wd b (fA root va), [fA root va], true⟩ := by unfold find; rw [if_pos h1, if_pos h2]
      rw [hf] at ht ⊢
      have hq := after_is acc he
      simp only at ht ⊢
      have hw := wd_same (v := after (wd b (fA root va)) acc) ht hq.1
      unfold find
      rw [hw]
      have hrf : rF n (after (wd b (fA root va)) acc) = rF n (wd b (fA root va)) := by
        unfold rF
        rw [hq.2.2.2.2.2.1, if_pos h2, if_pos h2, hq.2.2.2.2.2.2.1]
      rw [hq.2.1, hrf, if_pos h1, hq.2.2.2.2.2.1, if_pos h2]
    · have hf : find n b root va = ⟨sA (adr (wd b (fA root va))) va, wd b (sA (adr (wd b (fA root va))) va), [fA root va, sA (adr (wd b (fA root va))) va], has (wd b (sA (adr (wd b (fA root va))) va)) 1 && !has (wd b (sA (adr (wd b (fA root va))) va)) 64⟩ := by unfold find; rw [if_pos h1, if_neg h2]
      rw [hf] at ht h hself ⊢
      simp only at ht h hself ⊢
      obtain ⟨x, hx⟩ : ∃ x, x = wd b (fA root va) := ⟨_, rfl⟩
      obtain ⟨s, hs⟩ : ∃ s, s = sA (adr x) va := ⟨_, rfl⟩
      have hse := wd_e hb s
      have hq := after_is acc hse
      rw [← hx] at h1 h2 he ht h hself ⊢
      rw [← hs] at ht h hself ⊢
      have hne := hself rfl
      have hA0 : 0 ≤ fA root va := by unfold fA; omega
      have hAm : fA root va % 4 = 0 := by unfold fA; omega
      have hsm : s % 4 = 0 := by rcases ht.1 with h | h; exact absurd h (by decide); exact h.2
      have hw := wd_same (v := after (wd b s) acc) ht hq.1
      have hw1 : wd (Mm.put b s.toNat (Mm.el 4 (after (wd b s) acc))) (fA root va) = x := by
        rw [wd_other ht hA0 (by omega), hx]
      unfold find
      rw [hw1, if_pos h1, if_neg h2, ← hs, hw, hq.2.1, hq.2.2.2.2.2.1, h]
  · have hf : find n b root va = ⟨0, 0, [fA root va], false⟩ := by unfold find; rw [if_neg h1]
    rw [hf] at h
    cases h
end Tm
end Go.Proofs.Ytiaejldknbicdaa
