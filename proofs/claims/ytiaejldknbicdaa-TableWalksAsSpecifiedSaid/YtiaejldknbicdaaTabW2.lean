/-
  PLAIN FACTS, OF NO PROGRAM: a walk that leads somewhere: what it names, what it stores, and that it leads there again.
-/
import Derived.Test.YtiaejldknbicdaaTabW
namespace Go.Proofs.Ytiaejldknbicdaa
open Go.RowKit
namespace Tm

theorem bv_back (v : BitVec 32) : BitVec.ofInt 32 (IntKind.u32.wrap (v.toNat : Int)) = v := by
  have h := v.isLt
  rw [IntKind.wrap_u32, show ((v.toNat : Int) % 4294967296) = ((v.toNat : Nat) : Int) by omega, BitVec.ofInt_natCast]
  apply BitVec.eq_of_toNat_eq
  rw [BitVec.toNat_ofNat]
  exact Nat.mod_eq_of_lt h
theorem after_or {e : Int} (acc : Int) (h : isE e) : ∃ M : BitVec 32, (M = 16#32 ∨ M = 48#32) ∧ after e acc = IntKind.u32.wrap ((BitVec.ofInt 32 e ||| M).toNat : Int) := by
  have h1 : wi e 16 = IntKind.u32.wrap ((BitVec.ofInt 32 e ||| 16#32).toNat : Int) := (or_16 h).symm
  unfold after
  cases isSt acc
  · exact ⟨16#32, .inl rfl, h1⟩
  · refine ⟨48#32, .inr rfl, ?_⟩
    simp only [if_true]
    have h2 := wi_e h (b := 16) (.inl rfl)
    rw [← or_32 h2]
    show IntKind.u32.wrap ((BitVec.ofInt 32 (wi e 16) ||| 32#32).toNat : Int) = _
    rw [h1, bv_back, BitVec.or_assoc]
    rfl
/-- What an access turns of an entry: two bits, and they are set. -/
theorem after_bits {e : Int} (acc : Int) (h : isE e) : bits .andNot .u32 (bits .xor .u32 e (after e acc)) 48 = 0 ∧ bits .andNot .u32 e (after e acc) = 0 := by
  obtain ⟨M, hM, hA⟩ := after_or acc h
  rw [hA]
  have hm : ∀ i, i < 32 → M.getLsbD i = true → (48#32).getLsbD i = true := by
    intro i hi
    rcases hM with rfl | rfl
    · have : ∀ j : Fin 32, (16#32).getLsbD j.1 = true → (48#32).getLsbD j.1 = true := by decide +kernel
      exact this ⟨i, hi⟩
    · exact id
  constructor
  · show IntKind.u32.wrap ((BitVec.ofInt 32 (IntKind.u32.wrap ((BitVec.ofInt 32 e ^^^ BitVec.ofInt 32 (IntKind.u32.wrap ((BitVec.ofInt 32 e ||| M).toNat : Int))).toNat : Int)) &&& ~~~ BitVec.ofInt 32 (48 : Int)).toNat : Int) = 0
    rw [bv_back, bv_back]
    have hz : (BitVec.ofInt 32 e ^^^ (BitVec.ofInt 32 e ||| M)) &&& ~~~ BitVec.ofInt 32 (48 : Int) = 0#32 := by
      refine BitVec.eq_of_getLsbD_eq fun i hi => ?_
      rw [show BitVec.ofInt 32 (48 : Int) = 48#32 from rfl]
      have := hm i hi
      rw [BitVec.getLsbD_and, BitVec.getLsbD_xor, BitVec.getLsbD_or, BitVec.getLsbD_not, BitVec.getLsbD_zero]
      revert this
      cases (BitVec.ofInt 32 e).getLsbD i <;> cases M.getLsbD i <;> cases (48#32).getLsbD i <;> simp
    rw [hz]
    rfl
  · show IntKind.u32.wrap ((BitVec.ofInt 32 e &&& ~~~ BitVec.ofInt 32 (IntKind.u32.wrap ((BitVec.ofInt 32 e ||| M).toNat : Int))).toNat : Int) = 0
    rw [bv_back]
    have hz : BitVec.ofInt 32 e &&& ~~~ (BitVec.ofInt 32 e ||| M) = 0#32 := by
      refine BitVec.eq_of_getLsbD_eq fun i hi => ?_
      rw [BitVec.getLsbD_and, BitVec.getLsbD_not, BitVec.getLsbD_or, BitVec.getLsbD_zero]
      cases (BitVec.ofInt 32 e).getLsbD i <;> cases M.getLsbD i <;> simp
    rw [hz]
    rfl
theorem there_fA {n : Nat} {root va : Int} (hp : pageB n root = true) (hr : 0 ≤ root) (hv0 : 0 ≤ va) (hv : va < 131072) : Mm.There (n * 128) (fA root va) 4 := by
  have := pageB_lt hp
  unfold fA
  exact ⟨.inr ⟨rfl, by omega⟩, by omega, by omega⟩
theorem there_sA {n : Nat} {t va : Int} (hp : pageB n t = true) (hr : 0 ≤ t) (_hv0 : 0 ≤ va) (_hv : va < 131072) : Mm.There (n * 128) (sA t va) 4 := by
  have := pageB_lt hp
  unfold sA
  exact ⟨.inr ⟨rfl, by omega⟩, by omega, by omega⟩
/-- A leaf found: where it lies, what was read. -/
theorem find_shape {n : Nat} {b : Wm.Bs} {root va : Int} (hb : Wm.isBs b) (hp : pageB n root = true) (hr : 0 ≤ root) (hv0 : 0 ≤ va) (hv : va < 131072) (h : (find n b root va).ok = true) :
    Mm.There (n * 128) (find n b root va).a 4 ∧ isE (find n b root va).e ∧ wd b (find n b root va).a = (find n b root va).e ∧ ((find n b root va).r = [(find n b root va).a] ∨ (find n b root va).r = [fA root va, (find n b root va).a]) := by
  by_cases h1 : (has (wd b (fA root va)) 1 && rF n (wd b (fA root va))) = true
  · by_cases h2 : has (wd b (fA root va)) 64 = true
    · have hf : find n b root va = ⟨fA root va, wd b (fA root va), [fA root va], true⟩ := by unfold find; rw [if_pos h1, if_pos h2]
      rw [hf]
      exact ⟨there_fA hp hr hv0 hv, wd_e hb _, rfl, .inl rfl⟩
    · have hf : find n b root va = ⟨sA (adr (wd b (fA root va))) va, wd b (sA (adr (wd b (fA root va))) va), [fA root va, sA (adr (wd b (fA root va))) va], has (wd b (sA (adr (wd b (fA root va))) va)) 1 && !has (wd b (sA (adr (wd b (fA root va))) va)) 64⟩ := by unfold find; rw [if_pos h1, if_neg h2]
      rw [hf]
      rw [Bool.and_eq_true] at h1
      have hpg := rF_page h1.2 (by simpa using h2)
      exact ⟨there_sA hpg (adr_e (wd_e hb _)).1 hv0 hv, wd_e hb _, rfl, .inr rfl⟩
  · have hf : find n b root va = ⟨0, 0, [fA root va], false⟩ := by unfold find; rw [if_neg h1]
    rw [hf] at h
    cases h
/-- A walk that leads somewhere, in a root: what it names. -/
structure Leads (n : Nat) (b : Wm.Bs) (root va acc : Int) (u : Bool) (X : Wk) : Prop where
  a0 : 0 ≤ X.a
  a1 : X.a < (n : Int) * 128
  off : X.a % 128 = va % 128
  l0 : 0 ≤ X.l
  there : Mm.There b.length X.l 4
  reads : X.r = [X.l] ∨ ∃ f, X.r = [f, X.l]
  sets : X.s = [] ∨ ∃ v, X.s = [(X.l, 4, v)] ∧ isE v ∧ bits .andNot .u32 (bits .xor .u32 (wd b X.l) v) 48 = 0 ∧ bits .andNot .u32 (wd b X.l) v = 0 ∧ wd b X.l ≠ v ∧ ((∀ f, X.r = [f, X.l] → f ≠ X.l) → walk n (Mm.put b X.l.toNat (Mm.el 4 v)) root va acc u = ⟨true, X.a, X.l, [], X.r⟩)
theorem leads {n : Nat} {b : Wm.Bs} {root va acc : Int} {u : Bool} (hb : Wm.isBs b) (hlen : b.length = n * 128) (h0 : root ≠ 0) (hr : 0 ≤ root) (hv0 : 0 ≤ va) (h : (walk n b root va acc u).ok = true) : Leads n b root va acc u (walk n b root va acc u) := by
  have hw : walk n b root va acc u = trans n b root va acc u := by unfold walk; rw [if_neg h0]
  rw [hw] at h
  have hA : (decide (va < 131072) && pageB n root) = true := by
    by_cases hh : (decide (va < 131072) && pageB n root) = true
    · exact hh
    · unfold trans at h; rw [if_neg hh] at h; cases h
  have hB : ((find n b root va).ok && (pageB n (pgOf (find n b root va).e va) && allows (find n b root va).e acc u)) = true := by
    by_cases hh : ((find n b root va).ok && (pageB n (pgOf (find n b root va).e va) && allows (find n b root va).e acc u)) = true
    · exact hh
    · unfold trans at h; rw [if_pos hA, if_neg hh] at h; cases h
  have hX : walk n b root va acc u = wkOf (find n b root va) va acc := by rw [hw]; unfold trans; rw [if_pos hA, if_pos hB]
  rw [hX]
  have hA2 := hA
  have hB2 := hB
  rw [Bool.and_eq_true, decide_eq_true_eq] at hA2
  rw [Bool.and_eq_true, Bool.and_eq_true] at hB2
  obtain ⟨f1, f2, f3, f4⟩ := find_shape hb hA2.2 hr hv0 hA2.1 hB2.1
  have hpg := pageB_lt hB2.2.1
  have hnn := pgOf_nn f2 hv0 (va := va)
  have fa := find_after (acc := acc) hb hr (by have := (pageB_lt hA2.2).1; omega) hv0 hB2.1 (by rw [hlen]; exact f1)
  have hq := after_is acc f2
  have hbits := after_bits acc f2
  generalize find n b root va = F at *
  refine ⟨by show 0 ≤ pgOf F.e va + va % 128; omega, by show pgOf F.e va + va % 128 < _; omega, by show (pgOf F.e va + va % 128) % 128 = _; omega, f1.2.1, by rw [hlen]; exact f1, ?_, ?_⟩
  · rcases f4 with h | h
    · exact .inl h
    · exact .inr ⟨_, h⟩
  · by_cases he : after F.e acc = F.e
    · left
      show (if after F.e acc = F.e then [] else [(F.a, 4, after F.e acc)]) = []
      rw [if_pos he]
    · right
      refine ⟨after F.e acc, ?_, hq.1, ?_, ?_, ?_, fun hself => ?_⟩
      · show (if after F.e acc = F.e then [] else [(F.a, 4, after F.e acc)]) = _
        rw [if_neg he]
        rfl
      · show bits .andNot .u32 (bits .xor .u32 (wd b F.a) (after F.e acc)) 48 = 0
        rw [f3]; exact hbits.1
      · show bits .andNot .u32 (wd b F.a) (after F.e acc) = 0
        rw [f3]; exact hbits.2
      · show wd b F.a ≠ after F.e acc
        rw [f3]; exact fun h => he h.symm
      · have hF := fa (fun h2 => by
          rcases f4 with h | h
          · rw [h] at h2; cases h2
          · exact hself _ h)
        show walk n (Mm.put b F.a.toNat (Mm.el 4 (after F.e acc))) root va acc u = ⟨true, pgOf F.e va + va % 128, F.a, [], F.r⟩
        unfold walk trans
        rw [if_neg h0, if_pos hA, hF]
        simp only
        rw [pgOf_after acc va f2, allows_after acc u f2, hB2.2.1, hB2.2.2]
        unfold wkOf
        simp only [Bool.and_self, if_true]
        rw [pgOf_after acc va f2, hq.2.2.2.2.2.2.2, if_pos rfl]
theorem find_reads (n : Nat) (b : Wm.Bs) (root va : Int) : (find n b root va).r.length ≤ 2 := by
  unfold find
  split
  · split <;> simp
  · simp
/-- A walk that leads nowhere. -/
theorem leads_not {n : Nat} {b : Wm.Bs} {root va acc : Int} {u : Bool} (h : (walk n b root va acc u).ok = false) : (walk n b root va acc u).a = 0 ∧ (walk n b root va acc u).l = 0 ∧ (walk n b root va acc u).s = [] ∧ (walk n b root va acc u).r.length ≤ 2 := by
  by_cases h0 : root = 0
  · have hw : walk n b root va acc u = unt n va := by unfold walk; rw [if_pos h0]
    rw [hw] at h ⊢
    rw [unt_no h]
    exact ⟨rfl, rfl, rfl, by simp⟩
  · have hw : walk n b root va acc u = trans n b root va acc u := by unfold walk; rw [if_neg h0]
    rw [hw] at h ⊢
    unfold trans at h ⊢
    by_cases hA : (decide (va < 131072) && pageB n root) = true
    · rw [if_pos hA] at h ⊢
      by_cases hB : ((find n b root va).ok && (pageB n (pgOf (find n b root va).e va) && allows (find n b root va).e acc u)) = true
      · rw [if_pos hB] at h
        cases h
      · rw [if_neg hB]
        exact ⟨rfl, rfl, rfl, find_reads _ _ _ _⟩
    · rw [if_neg hA]
      exact ⟨rfl, rfl, rfl, by simp⟩
end Tm
end Go.Proofs.Ytiaejldknbicdaa
