/-
  PLAIN MATHEMATICS: what a user's step stores; a step as the law asks.
-/
import Derived.Test.YtidhodalnikhlaaGreatDoorZb
namespace Go.Proofs.YtidhodalnikhlaaGreatDoor
open Go.RowKit
namespace Tm

set_option maxRecDepth 100000 in
theorem wi_16 {e : Int} (h : isE e) : has (wi e 16) 16 = true ∧ has (wi e 16) 1 = has e 1 ∧ has (wi e 16) 2 = has e 2 ∧ has (wi e 16) 4 = has e 4 ∧ has (wi e 16) 8 = has e 8 ∧ has (wi e 16) 32 = has e 32 ∧ has (wi e 16) 64 = has e 64 ∧ adr (wi e 16) = adr e := by
  have h0 := h.1
  unfold wi
  by_cases hb : has e 16 = true
  · rw [if_pos hb]
    exact ⟨hb, rfl, rfl, rfl, rfl, rfl, rfl, rfl⟩
  · rw [if_neg hb]
    have h1 : e / 16 % 2 = 0 := by
      unfold has at hb
      simp only [decide_eq_true_eq] at hb
      omega
    unfold has adr
    refine ⟨decide_eq_true (by omega), ?_, ?_, ?_, ?_, ?_, ?_, by omega⟩
    all_goals rw [decide_eq_decide]; omega
set_option maxRecDepth 100000 in
theorem wi_32 {e : Int} (h : isE e) : has (wi e 32) 32 = true ∧ has (wi e 32) 1 = has e 1 ∧ has (wi e 32) 2 = has e 2 ∧ has (wi e 32) 4 = has e 4 ∧ has (wi e 32) 8 = has e 8 ∧ has (wi e 32) 16 = has e 16 ∧ has (wi e 32) 64 = has e 64 ∧ adr (wi e 32) = adr e := by
  have h0 := h.1
  unfold wi
  by_cases hb : has e 32 = true
  · rw [if_pos hb]
    exact ⟨hb, rfl, rfl, rfl, rfl, rfl, rfl, rfl⟩
  · rw [if_neg hb]
    have h1 : e / 32 % 2 = 0 := by
      unfold has at hb
      simp only [decide_eq_true_eq] at hb
      omega
    unfold has adr
    refine ⟨decide_eq_true (by omega), ?_, ?_, ?_, ?_, ?_, ?_, by omega⟩
    all_goals rw [decide_eq_decide]; omega
set_option maxRecDepth 100000 in
/-- What an access leaves of an entry. -/
theorem after_is {e : Int} (acc : Int) (h : isE e) : isE (after e acc) ∧ has (after e acc) 1 = has e 1 ∧ has (after e acc) 2 = has e 2 ∧ has (after e acc) 4 = has e 4 ∧ has (after e acc) 8 = has e 8 ∧ has (after e acc) 64 = has e 64 ∧ adr (after e acc) = adr e ∧ after (after e acc) acc = after e acc := by
  have h1 := wi_16 h
  have h2 := wi_e h (b := 16) (.inl rfl)
  unfold after
  cases isSt acc
  · simp only [Bool.false_eq_true, if_false]
    refine ⟨h2, h1.2.1, h1.2.2.1, h1.2.2.2.1, h1.2.2.2.2.1, h1.2.2.2.2.2.2.1, h1.2.2.2.2.2.2.2, ?_⟩
    rw [wi, if_pos h1.1]
  · simp only [if_true]
    have h3 := wi_32 h2
    refine ⟨wi_e h2 (.inr rfl), h3.2.1.trans h1.2.1, h3.2.2.1.trans h1.2.2.1, h3.2.2.2.1.trans h1.2.2.2.1, h3.2.2.2.2.1.trans h1.2.2.2.2.1, h3.2.2.2.2.2.2.1.trans h1.2.2.2.2.2.2.1, h3.2.2.2.2.2.2.2.trans h1.2.2.2.2.2.2.2, ?_⟩
    have h4 : wi (wi (wi e 16) 32) 16 = wi (wi e 16) 32 := by rw [wi, if_pos (h3.2.2.2.2.2.1.trans h1.1)]
    rw [h4, wi, if_pos h3.1]
set_option maxRecDepth 100000 in
/-- A word stored, read again. -/
theorem wd_same {b : Wm.Bs} {a v : Int} (ht : Mm.There b.length a 4) (hv : isE v) : wd (Mm.put b a.toNat (Mm.el 4 v)) a = v := by
  have hl : a.toNat + (Mm.el 4 v).length ≤ b.length := by rw [Mm.el_len]; have := ht.2.1; have := ht.2.2; omega
  unfold wd Mm.ld
  rw [if_pos (by rw [Mm.put_len hl]; exact ht)]
  have h := Mm.put_same hl
  rw [Mm.el_len] at h
  show Mm.le (((Mm.put b a.toNat (Mm.el 4 v)).drop a.toNat).take 4) = v
  rw [h, Mm.le_el]
  have h0 := hv.1
  have h1 := hv.2
  exact Int.emod_eq_of_lt h0 h1
set_option maxRecDepth 100000 in
theorem wd_other {b : Wm.Bs} {a v c : Int} (ht : Mm.There b.length a 4) (hc0 : 0 ≤ c) (hne : c + 4 ≤ a ∨ a + 4 ≤ c) : wd (Mm.put b a.toNat (Mm.el 4 v)) c = wd b c := by
  have hl : a.toNat + (Mm.el 4 v).length ≤ b.length := by rw [Mm.el_len]; have := ht.2.1; have := ht.2.2; omega
  have ha := ht.2.1
  unfold wd Mm.ld
  rw [Mm.put_len hl]
  split
  · show Mm.le (((Mm.put b a.toNat (Mm.el 4 v)).drop c.toNat).take 4) = Mm.le ((b.drop c.toNat).take 4)
    rw [Mm.put_other hl (by rw [Mm.el_len]; omega)]
  · rfl
end Tm
end Go.Proofs.YtidhodalnikhlaaGreatDoor
namespace Go.Proofs.YtidhodalnikhlaaGreatDoor
open Go.RowKit
namespace Tm

set_option maxRecDepth 100000 in
theorem there_fA {n : Nat} {root va : Int} (hp : pageB n root = true) (hr : 0 ≤ root) (hv0 : 0 ≤ va) (hv : va < 131072) : Mm.There (n * 128) (fA root va) 4 := by
  have := pageB_lt hp
  unfold fA
  exact ⟨.inr ⟨rfl, by omega⟩, by omega, by omega⟩
set_option maxRecDepth 100000 in
theorem there_sA {n : Nat} {t va : Int} (hp : pageB n t = true) (hr : 0 ≤ t) (_hv0 : 0 ≤ va) (_hv : va < 131072) : Mm.There (n * 128) (sA t va) 4 := by
  have := pageB_lt hp
  unfold sA
  exact ⟨.inr ⟨rfl, by omega⟩, by omega, by omega⟩
set_option maxRecDepth 100000 in
/-- A leaf found: where it lies, what was read. -/
theorem find_shape {n : Nat} {b : Wm.Bs} {root va : Int} (hb : Wm.isBs b) (hp : pageB n root = true) (hr : 0 ≤ root) (hv0 : 0 ≤ va) (hv : va < 131072) (h : (find n b root va).ok = true) :
    Mm.There (n * 128) (find n b root va).a 4 ∧ isE (find n b root va).e ∧ wd b (find n b root va).a = (find n b root va).e ∧ ((find n b root va).r = [(find n b root va).a] ∨ (find n b root va).r = [fA root va, (find n b root va).a]) := by
  by_cases h1 : (has (wd b (fA root va)) 1 && rF n (wd b (fA root va))) = true
  · by_cases h2 : has (wd b (fA root va)) 64 = true
    · have hf : find n b root va = ⟨fA root va, wd b (fA root va), [fA root va], true⟩ := by unfold find; rw [if_pos h1, if_pos h2]
      rw [hf]
      exact ⟨there_fA hp hr hv0 hv, wd_e hb _, rfl, .inl rfl⟩
    · have hf : find n b root va = ⟨sA (adr (wd b (fA root va))) va, wd b (sA (adr (wd b (fA root va))) va), [fA root va, sA (adr (wd b (fA root va))) va], has (wd b (sA (adr (wd b (fA root va))) va)) 1 && !has (wd b (sA (adr (wd b (fA root va))) va)) 64⟩ := by unfold find; rw [if_pos h1, if_neg h2]
      rw [hf]
      rw [Bool.and_eq_true] at h1
      have hpg := rF_page h1.2 (by simpa using h2)
      exact ⟨there_sA hpg (adr_e (wd_e hb _)).1 hv0 hv, wd_e hb _, rfl, .inr rfl⟩
  · have hf : find n b root va = ⟨0, 0, [fA root va], false⟩ := by unfold find; rw [if_neg h1]
    rw [hf] at h
    cases h
set_option maxRecDepth 100000 in
/-- A walk that leads somewhere, in a root: what it names. -/
structure Leads (n : Nat) (b : Wm.Bs) (root va acc : Int) (u : Bool) (X : Wk) : Prop where
  a0 : 0 ≤ X.a
  a1 : X.a < (n : Int) * 128
  off : X.a % 128 = va % 128
  l0 : 0 ≤ X.l
  there : Mm.There b.length X.l 4
  reads : X.r = [X.l] ∨ ∃ f, X.r = [f, X.l]
  sets : X.s = [] ∨ ∃ v, X.s = [(X.l, 4, v)] ∧ isE v ∧ bits .andNot .u32 (bits .xor .u32 (wd b X.l) v) 48 = 0 ∧ bits .andNot .u32 (wd b X.l) v = 0 ∧ wd b X.l ≠ v ∧ ((∀ f, X.r = [f, X.l] → f ≠ X.l) → walk n (Mm.put b X.l.toNat (Mm.el 4 v)) root va acc u = ⟨true, X.a, X.l, [], X.r⟩)
set_option maxRecDepth 100000 in
theorem find_reads (n : Nat) (b : Wm.Bs) (root va : Int) : (find n b root va).r.length ≤ 2 := by
  unfold find
  split
  · split <;> simp
  · simp
set_option maxRecDepth 100000 in
/-- A walk that leads nowhere. -/
theorem leads_not {n : Nat} {b : Wm.Bs} {root va acc : Int} {u : Bool} (h : (walk n b root va acc u).ok = false) : (walk n b root va acc u).a = 0 ∧ (walk n b root va acc u).l = 0 ∧ (walk n b root va acc u).s = [] ∧ (walk n b root va acc u).r.length ≤ 2 := by
  by_cases h0 : root = 0
  · have hw : walk n b root va acc u = unt n va := by unfold walk; rw [if_pos h0]
    rw [hw] at h ⊢
    rw [unt_no h]
    exact ⟨rfl, rfl, rfl, by simp⟩
  · have hw : walk n b root va acc u = trans n b root va acc u := by unfold walk; rw [if_neg h0]
    rw [hw] at h ⊢
    unfold trans at h ⊢
    by_cases hA : (decide (va < 131072) && pageB n root) = true
    · rw [if_pos hA] at h ⊢
      by_cases hB : ((find n b root va).ok && (pageB n (pgOf (find n b root va).e va) && allows (find n b root va).e acc u)) = true
      · rw [if_pos hB] at h
        cases h
      · rw [if_neg hB]
        exact ⟨rfl, rfl, rfl, find_reads _ _ _ _⟩
    · rw [if_neg hA]
      exact ⟨rfl, rfl, rfl, by simp⟩
end Tm
end Go.Proofs.YtidhodalnikhlaaGreatDoor
namespace Go.Proofs.YtidhodalnikhlaaGreatDoor
open Go.RowKit
namespace Tm

set_option maxRecDepth 100000 in
/-- How many bytes a mapping has. -/
def szM (x : Mg) : Int := if has x.1.2.2 64 then 4096 else 128
set_option maxRecDepth 100000 in
/-- A mapping that is as the chapter says. -/
def okM (x : Mg) : Prop := 0 ≤ x.1.1 ∧ x.1.1 < 131072 ∧ x.1.1 % szM x = 0 ∧ x.1.2.1 % szM x = 0 ∧ has x.1.2.2 1 = true ∧ 0 ≤ x.1.2.2 ∧ x.1.2.2 < 128
set_option maxRecDepth 100000 in
/-- Whether a mapping holds an address. -/
def hit (va : Int) (x : Mg) : Bool := decide (x.1.1 ≤ va) && decide (va - x.1.1 < szM x)
set_option maxRecDepth 100000 in
theorem has_mod {e : Int} (k : Nat) (M : Int) (hM : M = ((2 ^ k : Nat) : Int)) (hk : k < 7) : has (e % 128) M = has e M := by
  subst hM
  unfold has
  rw [decide_eq_decide]
  rcases (show k = 0 ∨ k = 1 ∨ k = 2 ∨ k = 3 ∨ k = 4 ∨ k = 5 ∨ k = 6 by omega) with rfl | rfl | rfl | rfl | rfl | rfl | rfl
  · show e % 128 / 1 % 2 = 1 ↔ e / 1 % 2 = 1; omega
  · show e % 128 / 2 % 2 = 1 ↔ e / 2 % 2 = 1; omega
  · show e % 128 / 4 % 2 = 1 ↔ e / 4 % 2 = 1; omega
  · show e % 128 / 8 % 2 = 1 ↔ e / 8 % 2 = 1; omega
  · show e % 128 / 16 % 2 = 1 ↔ e / 16 % 2 = 1; omega
  · show e % 128 / 32 % 2 = 1 ↔ e / 32 % 2 = 1; omega
  · show e % 128 / 64 % 2 = 1 ↔ e / 64 % 2 = 1; omega
set_option maxRecDepth 100000 in
theorem mk_pa {va e : Int} (h : isE e) : (mkM va e).1.2.1 = adr e := by
  have h2 := adr_e h
  exact Int.emod_eq_of_lt h2.1 h2.2
set_option maxRecDepth 100000 in
theorem mk_sz {va e : Int} : szM (mkM va e) = if has e 64 then 4096 else 128 := by
  unfold szM
  show (if has (e % 128) 64 = true then (4096 : Int) else 128) = _
  rw [has_mod 6 64 rfl (by omega)]
set_option maxRecDepth 100000 in
/-- The mappings of one entry of the first level. -/
theorem sec_mem {b : Wm.Bs} {ex va : Int} {i : Fin 32} {x : Mg} (h : x ∈ secAt b ex va i) : has (secY b ex va i) 1 = true ∧ has (secY b ex va i) 64 = false ∧ x = mkM (va + 128 * (i.1 : Int)) (secY b ex va i) := by
  unfold secAt at h
  split at h
  · rename_i h1
    rw [Bool.and_eq_true, Bool.not_eq_true'] at h1
    exact ⟨h1.1, h1.2, List.mem_singleton.1 h⟩
  · cases h
set_option maxRecDepth 100000 in
theorem top_mem {n : Nat} {b : Wm.Bs} {root : Int} (hb : Wm.isBs b) {i : Fin 32} {x : Mg} (h : x ∈ topAt n b root i) :
    okM x ∧ x.1.1 / 4096 = (i.1 : Int) ∧ pageB n x.1.2.1 = true ∧ has (topX b root i) 1 = true ∧ rF n (topX b root i) = true ∧
    ((has (topX b root i) 64 = true ∧ x = mkM (4096 * (i.1 : Int)) (topX b root i)) ∨ (has (topX b root i) 64 = false ∧ ∃ j : Fin 32, has (secY b (topX b root i) (4096 * (i.1 : Int)) j) 1 = true ∧ has (secY b (topX b root i) (4096 * (i.1 : Int)) j) 64 = false ∧ x = mkM (4096 * (i.1 : Int) + 128 * (j.1 : Int)) (secY b (topX b root i) (4096 * (i.1 : Int)) j))) := by
  have hi := i.2
  unfold topAt at h
  split at h
  · rename_i h1
    rw [Bool.and_eq_true] at h1
    obtain ⟨hx, hp⟩ := List.mem_filter.1 h
    have hE : isE (topX b root i) := wd_e hb _
    unfold blw at hx
    split at hx
    · rename_i h64
      obtain rfl := List.mem_singleton.1 hx
      have ha := rF_large h1.2 h64
      refine ⟨⟨?_, ?_, ?_, ?_, ?_, ?_, ?_⟩, ?_, hp, h1.1, h1.2, .inl ⟨h64, rfl⟩⟩
      · show 0 ≤ 4096 * (i.1 : Int); omega
      · show 4096 * (i.1 : Int) < 131072; omega
      · rw [mk_sz, if_pos h64]; show 4096 * (i.1 : Int) % 4096 = 0; omega
      · rw [mk_sz, if_pos h64, mk_pa hE]; exact ha
      · show has (topX b root i % 128) 1 = true; rw [has_mod 0 1 rfl (by omega)]; exact h1.1
      · show 0 ≤ topX b root i % 128; omega
      · show topX b root i % 128 < 128; omega
      · show 4096 * (i.1 : Int) / 4096 = _; omega
    · rename_i h64
      obtain ⟨j, _, hj⟩ := List.mem_flatMap.1 hx
      obtain ⟨s1, s2, rfl⟩ := sec_mem hj
      have hjl := j.2
      have hY : isE (secY b (topX b root i) (4096 * (i.1 : Int)) j) := wd_e hb _
      refine ⟨⟨?_, ?_, ?_, ?_, ?_, ?_, ?_⟩, ?_, hp, h1.1, h1.2, .inr ⟨by simpa using h64, j, s1, s2, rfl⟩⟩
      · show 0 ≤ 4096 * (i.1 : Int) + 128 * (j.1 : Int); omega
      · show 4096 * (i.1 : Int) + 128 * (j.1 : Int) < 131072; omega
      · rw [mk_sz, s2]; show (4096 * (i.1 : Int) + 128 * (j.1 : Int)) % 128 = 0; omega
      · rw [mk_sz, s2, mk_pa hY]; show adr _ % 128 = 0; unfold adr; omega
      · show has (secY b (topX b root i) (4096 * (i.1 : Int)) j % 128) 1 = true; rw [has_mod 0 1 rfl (by omega)]; exact s1
      · show 0 ≤ secY b (topX b root i) (4096 * (i.1 : Int)) j % 128; omega
      · show secY b (topX b root i) (4096 * (i.1 : Int)) j % 128 < 128; omega
      · show (4096 * (i.1 : Int) + 128 * (j.1 : Int)) / 4096 = _; omega
  · cases h
set_option maxRecDepth 100000 in
theorem lst_ok {n : Nat} {b : Wm.Bs} {root : Int} (hb : Wm.isBs b) : ∀ x ∈ lst n b root, okM x := by
  intro x hx
  unfold lst at hx
  split at hx
  · obtain ⟨i, _, h⟩ := List.mem_flatMap.1 hx
    exact (top_mem hb h).1
  · cases hx
end Tm
end Go.Proofs.YtidhodalnikhlaaGreatDoor
namespace Go.Proofs.YtidhodalnikhlaaGreatDoor
open Go.RowKit
namespace Tm

set_option maxRecDepth 100000 in
def i0 (va : Int) (h : 0 ≤ va ∧ va < 131072) : Fin 32 := ⟨(va / 4096).toNat, by omega⟩
set_option maxRecDepth 100000 in
def j0 (va : Int) (_h : 0 ≤ va ∧ va < 131072) : Fin 32 := ⟨(va % 4096 / 128).toNat, by omega⟩
set_option maxRecDepth 100000 in
theorem i0_v {va : Int} (h : 0 ≤ va ∧ va < 131072) : ((i0 va h).1 : Int) = va / 4096 := by unfold i0; show (((va / 4096).toNat : Nat) : Int) = _; omega
set_option maxRecDepth 100000 in
theorem j0_v {va : Int} (h : 0 ≤ va ∧ va < 131072) : ((j0 va h).1 : Int) = va % 4096 / 128 := by unfold j0; show (((va % 4096 / 128).toNat : Nat) : Int) = _; omega
set_option maxRecDepth 100000 in
theorem topX_va {b : Wm.Bs} {root va : Int} (h : 0 ≤ va ∧ va < 131072) : topX b root (i0 va h) = wd b (fA root va) := by
  unfold topX fA
  rw [i0_v h, show 4096 * (va / 4096) / 4096 = va / 4096 by omega]
set_option maxRecDepth 100000 in
theorem secY_va {b : Wm.Bs} {ex va : Int} (h : 0 ≤ va ∧ va < 131072) : secY b ex (4096 * ((i0 va h).1 : Int)) (j0 va h) = wd b (sA (adr ex) va) := by
  unfold secY sA
  rw [i0_v h, j0_v h, show (4096 * (va / 4096) + 128 * (va % 4096 / 128)) % 4096 / 128 = va % 4096 / 128 by omega]
set_option maxRecDepth 100000 in
/-- The last mapping that holds an address, and where it leads. -/
def atL (va : Int) : List Mg → Int → Int
  | [], a => a
  | x :: r, a => atL va r (if hit va x then x.1.2.1 + (va - x.1.1) else a)
end Tm
end Go.Proofs.YtidhodalnikhlaaGreatDoor
namespace Go.Proofs.YtidhodalnikhlaaGreatDoor
open Go.RowKit
namespace Tm
theorem find_a_mem {n : Nat} {b : Wm.Bs} {root va : Int} (h : (find n b root va).ok = true) : (find n b root va).a ∈ (find n b root va).r := by
  unfold find at h ⊢
  split
  · split
    · exact List.mem_singleton.2 rfl
    · exact List.mem_cons_of_mem _ (List.mem_singleton.2 rfl)
  · rename_i g
    rw [if_neg g] at h
    cases h
/-- A walk in a table that leads somewhere. -/
theorem walk_found {n : Nat} {b : Wm.Bs} {root va acc : Int} {u : Bool} (h : (walk n b root va acc u).ok = true) (h0 : root ≠ 0) :
    va < 131072 ∧ pageB n root = true ∧ (find n b root va).ok = true ∧ pageB n (pgOf (find n b root va).e va) = true ∧ allows (find n b root va).e acc u = true ∧ walk n b root va acc u = wkOf (find n b root va) va acc := by
  have hw : walk n b root va acc u = trans n b root va acc u := by unfold walk; rw [if_neg h0]
  rw [hw] at h ⊢
  have hA : (decide (va < 131072) && pageB n root) = true := by
    by_cases hh : (decide (va < 131072) && pageB n root) = true
    · exact hh
    · unfold trans at h; rw [if_neg hh] at h; cases h
  have hB : ((find n b root va).ok && (pageB n (pgOf (find n b root va).e va) && allows (find n b root va).e acc u)) = true := by
    by_cases hh : ((find n b root va).ok && (pageB n (pgOf (find n b root va).e va) && allows (find n b root va).e acc u)) = true
    · exact hh
    · unfold trans at h; rw [if_pos hA, if_neg hh] at h; cases h
  have hX : trans n b root va acc u = wkOf (find n b root va) va acc := by unfold trans; rw [if_pos hA, if_pos hB]
  rw [Bool.and_eq_true, decide_eq_true_eq] at hA
  rw [Bool.and_eq_true, Bool.and_eq_true] at hB
  exact ⟨hA.1, hA.2, hB.1, hB.2.1, hB.2.2, hX⟩
/-- What a walk stores is a word of an entry that it has read. -/
theorem walk_s_mem {n : Nat} {b : Wm.Bs} {root va acc : Int} {u : Bool} {y : Int × Int × Int} (h : y ∈ (walk n b root va acc u).s) : y.2.1 = 4 ∧ y.1 ∈ (walk n b root va acc u).r := by
  cases hk : (walk n b root va acc u).ok with
  | false =>
    rw [(leads_not hk).2.2.1] at h
    cases h
  | true =>
    by_cases h0 : root = 0
    · exfalso
      unfold walk unt at h
      rw [if_pos h0] at h
      split at h <;> cases h
    · obtain ⟨_, _, f, _, _, hX⟩ := walk_found hk h0
      rw [hX] at h ⊢
      have hm := find_a_mem f
      generalize find n b root va = F at *
      unfold wkOf at h ⊢
      dsimp only at h ⊢
      split at h
      · cases h
      · rw [List.mem_singleton.1 h]
        exact ⟨rfl, hm⟩
/-- Two memories whose words are the same, but that bit 16 of some is set. -/
def Sim (b b1 : Wm.Bs) : Prop := ∀ a : Int, 0 ≤ a → a % 4 = 0 → wd b1 a = wd b a ∨ wd b1 a = wi (wd b a) 16
theorem rF_wi {n : Nat} {e : Int} (he : isE e) (hl : has e 64 = false) : rF n (wi e 16) = false := by
  have h16 := wi_16 he
  unfold rF
  rw [h16.2.2.2.2.2.2.1, hl, if_neg (by decide)]
  have h1 : has (wi e 16) 16 = true := h16.1
  have h2 : ¬ (wi e 16 / 2 % 32 = 0) := by
    unfold has at h1
    rw [decide_eq_true_eq] at h1
    omega
  rw [decide_eq_false h2]
  rfl
/-- What is found behind such stores was found before. -/
theorem find_sim {n : Nat} {b b1 : Wm.Bs} {root va : Int} (hb : Wm.isBs b) (hs : Sim b b1) (hr : 0 ≤ root) (hp : pageB n root = true) (hv : 0 ≤ va) (h : (find n b1 root va).ok = true) :
    (find n b root va).ok = true ∧ isE (find n b root va).e ∧ ((find n b1 root va).e = (find n b root va).e ∨ (find n b1 root va).e = wi (find n b root va).e 16) := by
  have hp1 := (pageB_lt hp).1
  have hE := wd_e hb (fA root va)
  have s1 := hs (fA root va) (by unfold fA; omega) (by unfold fA; omega)
  unfold find at h ⊢
  obtain ⟨w, hw⟩ : ∃ w, w = wd b (fA root va) := ⟨_, rfl⟩
  obtain ⟨w1, hw1⟩ : ∃ w1, w1 = wd b1 (fA root va) := ⟨_, rfl⟩
  rw [← hw1, ← hw] at s1
  rw [← hw] at hE ⊢
  rw [← hw1] at h ⊢
  have h16 := wi_16 hE
  by_cases g1 : (has w1 1 && rF n w1) = true
  · rw [if_pos g1] at h ⊢
    rw [Bool.and_eq_true] at g1
    cases hl : has w 64 with
    | true =>
      have hl1 : has w1 64 = true := by rcases s1 with e | e <;> rw [e]; exact hl; rw [h16.2.2.2.2.2.2.1]; exact hl
      have hv1 : has w 1 = true := by rcases s1 with e | e <;> rw [e] at g1; exact g1.1; rw [h16.2.1] at g1; exact g1.1
      have hrf : rF n w = true := by
        rcases s1 with e | e
        · rw [e] at g1; exact g1.2
        · have g2 := g1.2
          rw [e] at g2
          unfold rF at g2 ⊢
          rw [h16.2.2.2.2.2.2.1, hl, if_pos rfl, h16.2.2.2.2.2.2.2] at g2
          rw [hl, if_pos rfl]
          exact g2
      rw [if_pos hl1, if_pos (show (has w 1 && rF n w) = true by rw [hv1, hrf]; rfl)]
      exact ⟨rfl, hE, s1⟩
    | false =>
      have e1 : w1 = w := by
        rcases s1 with e | e
        · exact e
        · have := g1.2
          rw [e, rF_wi hE hl] at this
          cases this
      rw [e1] at g1 h ⊢
      rw [if_pos (show (has w 1 && rF n w) = true by rw [g1.1, g1.2]; rfl)]
      simp only [hl, Bool.false_eq_true, if_false] at h ⊢
      have hA := adr_e hE
      have s2 := hs (sA (adr w) va) (by have := hA.1; unfold sA; omega) (by unfold sA adr; omega)
      have hY := wd_e hb (sA (adr w) va)
      generalize wd b (sA (adr w) va) = y at *
      generalize wd b1 (sA (adr w) va) = y1 at *
      have y16 := wi_16 hY
      refine ⟨?_, hY, s2⟩
      rcases s2 with e | e
      · rw [e] at h; exact h
      · rw [e, y16.2.1, y16.2.2.2.2.2.2.1] at h; exact h
  · rw [if_neg g1] at h
    cases h
/-- What the walk finds is in the list, with its bits. -/
theorem found_mk {n : Nat} {b : Wm.Bs} {root va : Int} (hb : Wm.isBs b) (hv : 0 ≤ va) (hlt : va < 131072) (hroot : rootB n root = true) (hok : (find n b root va).ok = true) (hpg : pageB n (pgOf (find n b root va).e va) = true) :
    ∃ V, mkM V (find n b root va).e ∈ lst n b root := by
  have hi := i0_v (va := va) ⟨hv, hlt⟩
  have hj := j0_v (va := va) ⟨hv, hlt⟩
  have hT := topX_va (b := b) (root := root) ⟨hv, hlt⟩
  have hE : isE (wd b (fA root va)) := wd_e hb _
  by_cases h1 : (has (wd b (fA root va)) 1 && rF n (wd b (fA root va))) = true
  · by_cases h2 : has (wd b (fA root va)) 64 = true
    · have hf : find n b root va = ⟨fA root va, wd b (fA root va), [fA root va], true⟩ := by unfold find; rw [if_pos h1, if_pos h2]
      rw [hf] at hpg ⊢
      refine ⟨4096 * ((i0 va ⟨hv, hlt⟩).1 : Int), ?_⟩
      unfold lst
      rw [if_pos hroot]
      refine List.mem_flatMap.2 ⟨i0 va ⟨hv, hlt⟩, List.mem_finRange _, ?_⟩
      unfold topAt
      rw [hT, if_pos h1]
      refine List.mem_filter.2 ⟨?_, ?_⟩
      · unfold blw
        rw [if_pos h2]
        exact List.mem_singleton.2 rfl
      · rw [mk_pa hE]
        have hp := pageB_lt hpg
        simp only at hp
        unfold pgOf at hp
        rw [if_pos h2] at hp
        unfold pageB
        rw [Bool.and_eq_true, decide_eq_true_eq, decide_eq_true_eq]
        exact ⟨by unfold adr; omega, by omega⟩
    · have hf : find n b root va = ⟨sA (adr (wd b (fA root va))) va, wd b (sA (adr (wd b (fA root va))) va), [fA root va, sA (adr (wd b (fA root va))) va], has (wd b (sA (adr (wd b (fA root va))) va)) 1 && !has (wd b (sA (adr (wd b (fA root va))) va)) 64⟩ := by unfold find; rw [if_pos h1, if_neg h2]
      rw [hf] at hpg hok ⊢
      simp only at hpg hok ⊢
      have hS := secY_va (b := b) (ex := wd b (fA root va)) (va := va) ⟨hv, hlt⟩
      have hY : isE (wd b (sA (adr (wd b (fA root va))) va)) := wd_e hb _
      have hok2 := hok
      rw [Bool.and_eq_true, Bool.not_eq_true'] at hok2
      refine ⟨4096 * ((i0 va ⟨hv, hlt⟩).1 : Int) + 128 * ((j0 va ⟨hv, hlt⟩).1 : Int), ?_⟩
      unfold lst
      rw [if_pos hroot]
      refine List.mem_flatMap.2 ⟨i0 va ⟨hv, hlt⟩, List.mem_finRange _, ?_⟩
      unfold topAt
      rw [hT, if_pos h1]
      refine List.mem_filter.2 ⟨?_, ?_⟩
      · unfold blw
        rw [if_neg h2]
        refine List.mem_flatMap.2 ⟨j0 va ⟨hv, hlt⟩, List.mem_finRange _, ?_⟩
        unfold secAt
        rw [hS, if_pos hok]
        exact List.mem_singleton.2 rfl
      · rw [mk_pa hY]
        unfold pgOf at hpg
        rw [hok2.2, if_neg Bool.false_ne_true] at hpg
        exact hpg
  · have hf : find n b root va = ⟨0, 0, [fA root va], false⟩ := by unfold find; rw [if_neg h1]
    rw [hf] at hok
    cases hok
/-- A place lies in a page that the list gives to users for writing. -/
def InL (L : List Mg) (A : Int) : Prop := ∃ m ∈ L, m.1.2.1 ≤ A ∧ A < m.1.2.1 + szM m ∧ has m.1.2.2 4 = true ∧ has m.1.2.2 2 = true
/-- Where a user's store is led, behind a fetch's store: a page of the list before it. -/
theorem store_in {n : Nat} {b b1 : Wm.Bs} {root va acc : Int} (hb : Wm.isBs b) (hs : Sim b b1) (hr : 0 ≤ root) (h0 : root ≠ 0) (hv : 0 ≤ va) (ha : isSt acc = true) (h : (walk n b1 root va acc true).ok = true) : InL (lst n b root) (walk n b1 root va acc true).a := by
  obtain ⟨hlt, hp, f, hpg, hal, hX⟩ := walk_found h h0
  rw [hX]
  obtain ⟨g1, g2, g3⟩ := find_sim hb hs hr hp hv f
  have k : has (find n b1 root va).e 64 = has (find n b root va).e 64 ∧ has (find n b1 root va).e 2 = has (find n b root va).e 2 ∧ has (find n b1 root va).e 4 = has (find n b root va).e 4 ∧ adr (find n b1 root va).e = adr (find n b root va).e := by
    have h16 := wi_16 g2
    rcases g3 with e | e <;> rw [e]
    · exact ⟨rfl, rfl, rfl, rfl⟩
    · exact ⟨h16.2.2.2.2.2.2.1, h16.2.2.1, h16.2.2.2.1, h16.2.2.2.2.2.2.2⟩
  have kp : pgOf (find n b1 root va).e va = pgOf (find n b root va).e va := by unfold pgOf; rw [k.1, k.2.2.2]
  have hroot : rootB n root = true := by unfold rootB; rw [hp]; simpa using h0
  obtain ⟨V, hV⟩ := found_mk hb hv hlt hroot g1 (by rw [← kp]; exact hpg)
  unfold allows at hal
  rw [ha, k.2.1, k.2.2.1] at hal
  refine ⟨_, hV, ?_⟩
  show _ ≤ pgOf (find n b1 root va).e va + va % 128 ∧ pgOf (find n b1 root va).e va + va % 128 < _ ∧ _
  rw [kp, mk_sz, mk_pa g2]
  generalize (find n b root va).e = E at *
  have b2 : has E 2 = true := by cases h2 : has E 2 <;> simp_all
  have b4 : has E 4 = true := by cases h4 : has E 4 <;> simp_all
  have m2 : has (mkM V E).1.2.2 2 = true := by show has (E % 128) 2 = true; rw [has_mod 1 2 rfl (by omega)]; exact b2
  have m4 : has (mkM V E).1.2.2 4 = true := by show has (E % 128) 4 = true; rw [has_mod 2 4 rfl (by omega)]; exact b4
  unfold pgOf
  split
  · exact ⟨by omega, by omega, m4, m2⟩
  · exact ⟨by omega, by omega, m4, m2⟩
/-- What a fetch's walk stores keeps the words, but for a bit. -/
theorem fetch_sim {n : Nat} {b : Wm.Bs} {root va : Int} {u : Bool} (hb : Wm.isBs b) (hl : b.length = n * 128) (hr : 0 ≤ root) (h0 : root ≠ 0) (hv : 0 ≤ va) (h : (walk n b root va 4 u).ok = true) : Sim b ((Mm.ap b (walk n b root va 4 u).s).getD b) := by
  obtain ⟨hlt, hp, f, _, _, hX⟩ := walk_found h h0
  rw [hX]
  obtain ⟨f1, f2, f3, _⟩ := find_shape hb hp hr hv hlt f
  generalize find n b root va = F at *
  intro a a0 a4
  unfold wkOf
  dsimp only
  split
  · exact .inl rfl
  · rw [Mm.ap_cons, hl, if_pos f1]
    show wd (Mm.put b F.a.toNat (Mm.el 4 (after F.e 4))) a = wd b a ∨ wd (Mm.put b F.a.toNat (Mm.el 4 (after F.e 4))) a = wi (wd b a) 16
    have ht : Mm.There b.length F.a 4 := by rw [hl]; exact f1
    have hm : F.a % 4 = 0 := by rcases f1.1 with h | h; exact absurd h (by decide); exact h.2
    by_cases he : a = F.a
    · rw [he, wd_same ht (after_is 4 f2).1, f3]
      exact .inr rfl
    · exact .inl (wd_other ht a0 (by omega))
end Tm
end Go.Proofs.YtidhodalnikhlaaGreatDoor
namespace Go.Proofs.YtidhodalnikhlaaGreatDoor
open Go.RowKit Go.ChangeShapes Go.WideShapes Go.ChangeAt
namespace Cm
def Ent (ac : List (Int × Int × Bool)) (x : Int × Int × Int) : Prop := x.2.1 = 4 ∧ ∃ y ∈ ac, y.2.2 = false ∧ y.1 = x.1
def FineX (L : List Mg) (ac : List (Int × Int × Bool)) (x : Int × Int × Int) : Prop := Ent ac x ∨ Tm.InL L x.1
def FineE (L : List Mg) (e : Eff) : Prop := ∀ x ∈ e.ws, FineX L e.ac x
theorem FineX.more {L : List Mg} {ac ac' : List (Int × Int × Bool)} {x : Int × Int × Int} (h : FineX L ac x) (hs : ∀ y ∈ ac, y ∈ ac') : FineX L ac' x := by
  rcases h with ⟨h1, y, h2, h3⟩ | h
  · exact .inl ⟨h1, y, hs y h2, h3⟩
  · exact .inr h
theorem place_ent {n : Nat} {b : Wm.Bs} {root : Int} {u : Bool} {va acc sz : Int} {x : Int × Int × Int} (h : x ∈ (place n b root u va acc sz).w) : Ent (place n b root u va acc sz).c x := by
  unfold place at h ⊢
  split at h
  · rename_i g
    rw [if_pos g]
    have hw : x ∈ (Tm.walk n b root va acc u).s := by unfold plOf at h; split at h <;> exact h
    obtain ⟨h1, h2⟩ := Tm.walk_s_mem hw
    have hc : (plOf (Tm.walk n b root va acc u) acc b).c = raL (Tm.walk n b root va acc u).r ++ saL (Tm.walk n b root va acc u).s := by unfold plOf; split <;> rfl
    rw [hc]
    exact ⟨h1, (x.1, 4, false), List.mem_append.2 (.inl (List.mem_map.2 ⟨x.1, h2, rfl⟩)), rfl, rfl⟩
  · cases h
theorem place_walk {n : Nat} {b : Wm.Bs} {root : Int} {u : Bool} {va acc sz : Int} (h : (place n b root u va acc sz).ok = true) : (Tm.walk n b root va acc u).ok = true ∧ (place n b root u va acc sz).a = (Tm.walk n b root va acc u).a ∧ (place n b root u va acc sz).b = (Mm.ap b (Tm.walk n b root va acc u).s).getD b := by
  unfold place at h ⊢
  split at h
  · rename_i g
    rw [if_pos g]
    unfold plOf at h ⊢
    split at h
    · rename_i k
      rw [if_pos k]
      exact ⟨k, rfl, rfl⟩
    · cases h
  · cases h
theorem acc_st {op : Int} (h : op = 21 ∨ op = 23 ∨ op = 24) : Tm.isSt (accA op) = true := by
  rcases h with rfl | rfl | rfl <;> decide
theorem va_nn (c : Cpu) (i : Im.I) : 0 ≤ va c i := Int.emod_nonneg _ (by decide)
/-- The premises of a user's instruction with translation. -/
structure Usr (n : Nat) (b b1 : Wm.Bs) (e : Eff) : Prop where
  bs : Wm.isBs b
  sim : Tm.Sim b b1
  r0 : 0 ≤ e.c.c0
  rn : e.c.c0 ≠ 0
  u : e.c.u = true
theorem pl_in {n : Nat} {b b1 : Wm.Bs} {i : Im.I} {e : Eff} (U : Usr n b b1 e) (hi : i.op = 21 ∨ i.op = 23 ∨ i.op = 24) (h : (pl n b1 i e).ok = true) : Tm.InL (Tm.lst n b e.c.c0) (pl n b1 i e).a := by
  unfold pl at h ⊢
  rw [U.u] at h ⊢
  obtain ⟨h1, h2, _⟩ := place_walk h
  rw [h2]
  exact Tm.store_in U.bs U.sim U.r0 U.rn (va_nn _ _) (acc_st hi) h1
theorem pl_ent {n : Nat} {b : Wm.Bs} {i : Im.I} {e : Eff} {x : Int × Int × Int} (h : x ∈ (pl n b i e).w) : Ent (pl n b i e).c x := place_ent h
theorem two_fine {L : List Mg} {ws pw : List (Int × Int × Int)} {ac pc : List (Int × Int × Bool)} (h : ∀ x ∈ ws, FineX L ac x) (hp : ∀ x ∈ pw, Ent pc x) (tl : List (Int × Int × Bool)) : ∀ x ∈ ws ++ pw, FineX L ((ac ++ pc) ++ tl) x := by
  intro x hx
  rcases List.mem_append.1 hx with h1 | h1
  · exact (h x h1).more fun y hy => List.mem_append.2 (.inl (List.mem_append.2 (.inl hy)))
  · exact FineX.more (ac := pc) (.inl (hp x h1)) fun y hy => List.mem_append.2 (.inl (List.mem_append.2 (.inr hy)))
theorem two_fine0 {L : List Mg} {ws pw : List (Int × Int × Int)} {ac pc : List (Int × Int × Bool)} (h : ∀ x ∈ ws, FineX L ac x) (hp : ∀ x ∈ pw, Ent pc x) : ∀ x ∈ ws ++ pw, FineX L (ac ++ pc) x := by
  have := two_fine h hp []
  rw [List.append_nil] at this
  exact this
theorem inst_fine {n : Nat} {b b1 : Wm.Bs} {pc p : Int} {i : Im.I} {e : Eff} (U : Usr n b b1 e) (h : FineE (Tm.lst n b e.c.c0) e) : FineE (Tm.lst n b e.c.c0) (inst n b1 pc p i e).1 := by
  refine inst_any (fun X => FineE (Tm.lst n b e.c.c0) X.1) n b1 pc p i e ?_ ?_ ?_ (fun _ _ => h) (fun _ => h) h h h (fun _ => h) (fun _ => h) (fun _ _ _ => h) (fun _ => h) (fun _ _ _ _ => h) (fun _ => h)
  · intro _
    unfold read
    dsimp only
    split
    · exact two_fine h (fun x hx => pl_ent hx) _
    · exact two_fine0 h (fun x hx => pl_ent hx)
  · intro ho
    unfold write
    dsimp only
    split
    · rename_i g
      intro x hx
      rcases List.mem_append.1 hx with h1 | h1
      · exact two_fine h (fun x hx => pl_ent hx) _ x h1
      · rw [List.mem_singleton.1 h1]
        exact .inr (pl_in U (by rcases ho with h | h; exact .inl h; exact .inr (.inl h)) g)
    · exact two_fine0 h (fun x hx => pl_ent hx)
  · intro ho
    unfold swap
    dsimp only
    split
    · rename_i g
      intro x hx
      rcases List.mem_append.1 hx with h1 | h1
      · exact (two_fine h (fun x hx => pl_ent hx) _ x h1).more fun y hy => List.mem_append.2 (.inl hy)
      · rw [List.mem_singleton.1 h1]
        exact .inr (pl_in U (.inr (.inr ho)) g)
    · exact two_fine0 h (fun x hx => pl_ent hx)
theorem next_fine {L : List Mg} {X : Out} (h : FineE L X.1) : FineE L (next X) := by
  unfold next
  split <;> exact h
/-- Each store of a user's step. -/
theorem run_fine {n : Nat} {b : Wm.Bs} {pc p : Int} {e : Eff} (hb : Wm.isBs b) (hl : b.length = n * 128) (r0 : 0 ≤ e.c.c0) (rn : e.c.c0 ≠ 0) (hu : e.c.u = true) (hpc : 0 ≤ e.c.pc) (hw : e.ws = []) : FineE (Tm.lst n b e.c.c0) (run n b pc p e) := by
  have hz : FineE (Tm.lst n b e.c.c0) e := fun x hx => by rw [hw] at hx; cases hx
  unfold run
  split
  · exact hz
  · split
    · rename_i g
      have he : ∀ tl, ∀ x ∈ (place n b e.c.c0 e.c.u e.c.pc 4 4).w, FineX (Tm.lst n b e.c.c0) ((place n b e.c.c0 e.c.u e.c.pc 4 4).c ++ tl) x := fun tl x hx => FineX.more (.inl (place_ent hx)) fun y hy => List.mem_append.2 (.inl hy)
      split
      · obtain ⟨g1, _, g3⟩ := place_walk g
        refine next_fine (inst_fine (e := goE (place n b e.c.c0 e.c.u e.c.pc 4 4) e) ⟨hb, ?_, r0, rn, hu⟩ (he _))
        rw [g3]
        exact Tm.fetch_sim hb hl r0 rn hpc g1
      · exact he _
    · exact fun x hx => .inl (place_ent hx)
end Cm
end Go.Proofs.YtidhodalnikhlaaGreatDoor
namespace Go.Proofs.YtidhodalnikhlaaGreatDoor
open Go.RowKit Go.ChangeShapes Go.WideShapes Go.ChangeAt

def Sp.res (s : Sp) (ws : List (Int × Int × Int)) (ac : List (Int × Int × Bool)) : Bool × Cpu × Cm.Eff := (s.dn, s.old, ⟨s.ec, s.wd, ws, ac, s.ak, s.ii, s.ip, s.iv, s.fl, s.fa, s.tr⟩)
def eff0 (x : Cpu) : Cm.Eff := ⟨{ x with cn := x.cn + 1, wt := false }, 0, [], [], false, false, 0, 0, 0, 0, 0⟩
def stepR (x : Cpu) (n : Nat) (b : Wm.Bs) (p : Int) : Bool × Cpu × Cm.Eff := if rdy x.hl x.wt p = true then (true, x, Cm.run n b x.pc p (eff0 x)) else (false, zC, ⟨x, 0, [], [], false, false, 0, 0, 0, 0, 0⟩)
def Kt (x : Cpu) (n : Nat) (b : Wm.Bs) (p : Int) (w : World) (e : Ending) (w' : World) : Prop :=
  ∃ (s : Sp) (AW AA : Option Addr) (cw ca : Nat) (ws : List (Int × Int × Int)) (ac : List (Int × Int × Bool)), e = .returned (.agg s.eff.toArray) ∧ (s.wv = .slice AW ws.length cw ∧ s.av = .slice AA ac.length ca ∧ Sl w' 3 AW ws.length (Ws ws) ∧ Sl w' 3 AA ac.length (Acs ac)) ∧
    s.res ws ac = stepR x n b p ∧ (Cm.Ac b.length ac ∧ ws.length ≤ 3 ∧ ac.length ≤ 9) ∧ Later w w'
theorem kt_step (x : Cpu) (A : Option Addr) (n c : Nat) (b : Wm.Bs) (p : Int) (w : World) (hs : Sl w 128 A n (U b)) (hb : Wm.isBs b) (hbl : b.length = n * 128) (hn1 : 1 ≤ n) (hn : n ≤ 64) (rv : x.Rv) (c0 : 0 ≤ x.c0 ∧ x.c0 ≤ 4294967295) (hpc : 0 ≤ x.pc ∧ x.pc ≤ 4294967295) (c5 : Tm.isE x.c5) (hp : Tm.isE p) (hcn : 0 ≤ x.cn ∧ x.cn < 1099511627776) (tab : Tab w) :
    Calls Tryz.prog 13 #[.agg x.cells.toArray, .agg #[.slice A n c], .int .u32 p] w (Kt x n b p w) := by
  cases hr : rdy x.hl x.wt p with
  | true =>
    refine (step_yes x A n c b p w hs hb hn1 hn rv c0 hpc c5 hp ⟨hcn.1, by omega⟩ tab (Nat.lt_of_le_of_lt (Nat.zero_le _) tab.lt) hr).mono ?_
    rintro e w' ⟨s2, ws2, ac2, rfl, ho, hd, hl, k1, k2, l⟩
    have ho2 : s2.out ws2 ac2 = Cm.run n b x.pc p (eff0 x) := ho
    have g4 := Cm.run_there (n := n) (b := b) x.pc p (e := eff0 x) hb hbl c0 hpc rfl
    have g6 := Cm.run_vs n (b := b) x.pc p (e := eff0 x) hb c0 hpc rv rfl rfl
    rw [← ho2] at g4 g6
    obtain ⟨AW, cw, e1, w1, _⟩ := own4Z k1
    obtain ⟨AA, ca, e2, w2, _⟩ := own4Z k2
    refine ⟨{ s2 with ec := s2.c }, AW, AA, cw, ca, ws2, ac2, rfl, ⟨e1, e2, w1, w2⟩, ?_, ⟨g4, g6.2.1, g6.2.2⟩, l⟩
    unfold stepR
    rw [if_pos hr, ← ho2, ← hd]
    show (s2.dn, s2.old, _) = _
    rw [hl]
    rfl
  | false =>
    refine (step_not x A n c p w hp hr).mono ?_
    rintro e w' ⟨rfl, l⟩
    refine ⟨{ zS with ec := x }, none, none, 0, 0, [], [], rfl, ⟨rfl, rfl, Sl.nil _ _ _, Sl.nil _ _ _⟩, ?_, ⟨fun x hx => by simp at hx, by decide, by decide⟩, l⟩
    unfold stepR
    rw [if_neg (by rw [hr]; decide)]
    rfl
set_option maxRecDepth 100000 in
theorem io_eqT (a : Bool) (b c : Int) (w : World) : (Op.equalIn 10000 36 (.agg #[.bool a, .int .i64 b, .int .u32 c]) (.agg #[.bool a, .int .i64 b, .int .u32 c])).run Tryz.prog w = .ok true w := by
  obtain ⟨fs, hfs, hu⟩ : ∃ fs, Tryz.prog.fieldsOf 36 = fs ∧ Tryz.prog.underlying 36 = some (.struct fs) := ⟨_, by kernel_rfl, Tryz.underlying36⟩
  rw [run_equalIn_struct w 9999 _ _ _ (by rw [hfs]; exact hu) (by kernel_rfl), hfs]
  have hfs2 := hu.symm.trans Tryz.underlying36
  injection hfs2 with h1
  injection h1 with h2
  subst h2
  refine fields_refl _ _ w _ fun f hf => ?_
  simp only [List.mem_cons, List.not_mem_nil, or_false] at hf
  rcases hf with rfl | rfl | rfl
  · exact ⟨by decide, .bool a, by kernel_rfl, by rw [run_equalIn_bool' w 9998 4 _ _ Tryz.underlying4]; simp⟩
  · exact ⟨by decide, .int .i64 b, by kernel_rfl, by rw [run_equalIn_int w 9998 3 .i64 .i64 _ _ Tryz.underlying3]; simp⟩
  · exact ⟨by decide, .int .u32 c, by kernel_rfl, by rw [run_equalIn_int w 9998 22 .u32 .u32 _ _ Tryz.underlying22]; simp⟩
theorem ioT_sz (a : Bool) (b c : Int) : (Tryz.prog.info? 36).map (·.size) = some [Value.bool a, .int .i64 b, .int .u32 c].length := by
  show _ = some 3
  kernel_rfl
theorem eT_io (s : Sp) : (s.eff.drop 65).take 3 = [.bool s.ii, .int .i64 s.ip, .int .u32 s.iv] := rfl
/-- What the law asks of a step of a user's processor. -/
def CfF (x : Cpu) (n : Nat) (b : Wm.Bs) (s : Sp) (ws : List (Int × Int × Int)) (ac : List (Int × Int × Bool)) : Prop :=
  (s.ak = false ∧ s.fl = 0 ∧ s.ii = false ∧ s.ip = 0 ∧ s.iv = 0) ∧
  (s.dn = true → s.tr = 0 → (s.ec.c0 = x.c0 ∧ s.ec.c1 = x.c1 ∧ s.ec.c2 = x.c2 ∧ s.ec.c3 = x.c3 ∧ s.ec.c4 = x.c4 ∧ s.ec.c5 = x.c5 ∧ s.ec.c6 = x.c6 ∧ s.ec.c7 = x.c7 ∧ s.ec.c8 = x.c8) ∧ s.ec.u = true ∧ s.ec.hl = x.hl ∧ s.ec.wt = false) ∧
  (x.c0 ≠ 0 → ∀ y ∈ ws, Cm.FineX (Tm.lst n b x.c0) ac y)
theorem cf_facts {x : Cpu} {n : Nat} {b : Wm.Bs} {p : Int} {s : Sp} {ws : List (Int × Int × Int)} {ac : List (Int × Int × Bool)} (h : s.res ws ac = stepR x n b p) (hu : x.u = true) (hb : Wm.isBs b) (hl : b.length = n * 128) (hc0 : 0 ≤ x.c0) (hpc : 0 ≤ x.pc) : CfF x n b s ws ac := by
  unfold stepR at h
  split at h
  · have e := (Prod.mk.inj (Prod.mk.inj h).2).2
    have k := Cm.run_user n b x.pc p (eff0 x) hu
    have f := fun h0 => Cm.run_fine (n := n) (pc := x.pc) (p := p) (e := eff0 x) hb hl hc0 h0 hu hpc rfl
    rw [← e] at k f
    obtain ⟨⟨k1, k2, k3, k4, k5, k6⟩, k7⟩ := k
    refine ⟨⟨k1, k5, k2, k3, k4⟩, fun _ h0 => ?_, fun h0 => f h0⟩
    obtain ⟨q0, q1, q2, q3, q4, q5, q6, q7, q8, q9, q10, q11, _⟩ := k7 h0
    exact ⟨⟨q0, q1, q2, q3, q4, q5, q6, q7, q8⟩, q9.trans hu, q10, q11⟩
  · unfold Sp.res at h
    simp only [Prod.mk.injEq, Cm.Eff.mk.injEq] at h
    obtain ⟨h1, h2, h3, h4, h5, h6, h7, h8, h9, h10, h11, h12, h13⟩ := h
    refine ⟨⟨h7, h11, h8, h9, h10⟩, fun hd => ?_, fun _ y hy => ?_⟩
    · rw [h1] at hd; cases hd
    · rw [h5] at hy; cases hy
/-- A step of a user's processor. -/
def Cf (x : Cpu) (n : Nat) (b : Wm.Bs) (w : World) (e : Ending) (w' : World) : Prop :=
  ∃ (s : Sp) (AW AA : Option Addr) (cw ca : Nat) (ws : List (Int × Int × Int)) (ac : List (Int × Int × Bool)), e = .returned (.agg s.eff.toArray) ∧ (s.wv = .slice AW ws.length cw ∧ s.av = .slice AA ac.length ca ∧ Sl w' 3 AW ws.length (Ws ws) ∧ Sl w' 3 AA ac.length (Acs ac)) ∧
    CfF x n b s ws ac ∧ (ws.length ≤ 3 ∧ ac.length ≤ 9) ∧ Later w w'
theorem cf_step (x : Cpu) (A : Option Addr) (n c : Nat) (b : Wm.Bs) (p : Int) (w : World) (hs : Sl w 128 A n (U b)) (hb : Wm.isBs b) (hbl : b.length = n * 128) (hn1 : 1 ≤ n) (hn : n ≤ 64) (rv : x.Rv) (c0 : 0 ≤ x.c0 ∧ x.c0 ≤ 4294967295) (hpc : 0 ≤ x.pc ∧ x.pc ≤ 4294967295) (c5 : Tm.isE x.c5) (hp : Tm.isE p) (hcn : 0 ≤ x.cn ∧ x.cn < 1099511627776) (tab : Tab w) (hu : x.u = true) :
    Calls Tryz.prog 13 #[.agg x.cells.toArray, .agg #[.slice A n c], .int .u32 p] w (Cf x n b w) := by
  refine (kt_step x A n c b p w hs hb hbl hn1 hn rv c0 hpc c5 hp hcn tab).mono ?_
  rintro e w' ⟨s, AW, AA, cw, ca, ws, ac, rfl, g, hr, ⟨_, h2, h3⟩, l⟩
  exact ⟨s, AW, AA, cw, ca, ws, ac, rfl, g, cf_facts hr hu hb hbl c0.1 hpc.1, ⟨h2, h3⟩, l⟩
/-- Control registers as cells. -/
def Cpu.ctls (x : Cpu) : List Value := [.int .u32 x.c0, .int .u32 x.c1, .int .u32 x.c2, .int .u32 x.c3, .int .u32 x.c4, .int .u32 x.c5, .int .u32 x.c6, .int .u32 x.c7, .int .u32 x.c8]
theorem ctls_of {c x : Cpu} (h : c.c0 = x.c0 ∧ c.c1 = x.c1 ∧ c.c2 = x.c2 ∧ c.c3 = x.c3 ∧ c.c4 = x.c4 ∧ c.c5 = x.c5 ∧ c.c6 = x.c6 ∧ c.c7 = x.c7 ∧ c.c8 = x.c8) (s : Sp) (hs : s.ec = c) : (s.eff.drop 18).take 9 = x.ctls := by
  obtain ⟨h0, h1, h2, h3, h4, h5, h6, h7, h8⟩ := h
  subst hs
  show s.ec.ctls = x.ctls
  unfold Cpu.ctls
  rw [h0, h1, h2, h3, h4, h5, h6, h7, h8]
theorem ctls_sz (x : Cpu) : (Tryz.prog.info? 24).map (·.size) = some x.ctls.length := by
  show _ = some 9
  kernel_rfl
set_option maxRecDepth 100000 in
theorem ctls_same (x : Cpu) (w : World) : (Op.equalIn 10000 24 (.agg x.ctls.toArray) (.agg x.ctls.toArray)).run Tryz.prog w = .ok true w :=
  arr_refl 9 24 [x.c0, x.c1, x.c2, x.c3, x.c4, x.c5, x.c6, x.c7, x.c8] 9998 w Tryz.underlying24 rfl
theorem run_io0 (w : World) : (Instr.build 36 #[]).run Tryz.prog w = .ok (.agg [Value.bool false, .int .i64 0, .int .u32 0].toArray) w := run_build w _ _ _ (by kernel_rfl)
theorem wpList_bldg {ops : Array Oper} {rest : List Oper} {o : Oper} {a : Act} {w : World} {Q : Exit → Act → World → Prop} (t : TypeId) (C : Array Value) (ho : o.op = .build t #[]) (hw : Region.wanted o (yielded ops a.tmps) = true) (hr : (Instr.build t #[]).run Tryz.prog w = .ok (.agg C) w)
    (h : wpList Tryz.prog ops Q rest (a.put o.dst (.agg C)) w) : wpList Tryz.prog ops Q (o :: rest) a w :=
  wpList_step fun K hK => by
    rw [hw, if_pos rfl]
    have e : (#[] : Array (Nat × Operand)).map (fun x => (x.1, a.eval x.2)) = #[] := by simp
    unfold Oper.wp execOp
    simp only [ho, e, Sem.run_bind, hr, Sem.run_pure, Result.andThen_ok]
    exact hK _ _ h
theorem ad_add2 (a : Addr) : a.add 2 = ⟨a.block, a.off + 2, none⟩ := by unfold Addr.add; simp
theorem wr3_sz (a b c : Int) : (Tryz.prog.info? 64).map (·.size) = some [Value.int .i64 a, .int .i64 b, .int .u32 c].length := by
  show _ = some 3
  kernel_rfl
theorem lst_len (n : Nat) (b : Wm.Bs) (root : Int) : (Tm.lst n b root).length ≤ 1024 := by
  unfold Tm.lst
  split
  · rw [Tm.outTo_all]
    exact Tm.outTo_len n b root 32
  · exact Nat.zero_le _
/-- A mapping's cells. -/
theorem Mgs_at (l : List Mg) : ∀ (k : Nat) (hk : k < l.length) (j : Nat), j < 3 → (Mgs l)[k * 3 + j]? = (mgC l[k])[j]? := by
  induction l with
  | nil => intro k hk; simp at hk
  | cons a l ih =>
    intro k hk j hj
    have e : Mgs (a :: l) = mgC a ++ Mgs l := rfl
    rw [e]
    match k, hk with
    | 0, _ =>
      rw [List.getElem?_append_left (by show _ < 3; omega), Nat.zero_mul, Nat.zero_add]
      rfl
    | k + 1, hk =>
      rw [List.getElem?_append_right (by show 3 ≤ _; omega), show (k + 1) * 3 + j - (mgC a).length = k * 3 + j from by show (k + 1) * 3 + j - 3 = _; omega, ih k (by simpa using hk) j hj]
      rfl
theorem Sl.mg {w : World} {m : Nat} {ad : Addr} {L : List Mg} (h : Sl w 3 (some ad) m (Mgs L)) {k : Nat} (hk : k < L.length) (hm : L.length = m) :
    ∀ j u, (mgC L[k])[j]? = some u → w.cell? ((ad.add (k * 3)).add j) = some u := by
  intro j u hu
  obtain ⟨_, e, _, hc⟩ := h.2 (by omega)
  cases e
  rw [addr_add_add]
  apply hc
  have hj : j < 3 := by
    rcases Nat.lt_or_ge j 3 with g | g
    · exact g
    · rw [List.getElem?_eq_none (by show 3 ≤ j; exact g)] at hu; cases hu
  rw [Mgs_at L k hk j hj]
  exact hu
/-- Whether an access is the word of an entry that was read. -/
def entB (a z : Int) (y : Int × Int × Bool) : Bool := !y.2.2 && (y.1 == a && z == 4)
/-- Whether a place lies in a mapping for users' stores. -/
def inB (a : Int) (m : Mg) : Bool := (decide (m.1.2.1 ≤ a) && decide (a < m.1.2.1 + Tm.szM m)) && (Tm.has m.1.2.2 4 && Tm.has m.1.2.2 2)
theorem fine_any {L : List Mg} {ac : List (Int × Int × Bool)} {y : Int × Int × Int} (h : Cm.FineX L ac y) : (ac.any (entB y.1 y.2.1) || L.any (inB y.1)) = true := by
  rcases h with ⟨h1, z, hz, h2, h3⟩ | ⟨m, hm, h1, h2, h3, h4⟩
  · have : ac.any (entB y.1 y.2.1) = true := List.any_eq_true.2 ⟨z, hz, by unfold entB; rw [h2, h3, h1]; simp⟩
    rw [this]; rfl
  · have : L.any (inB y.1) = true := List.any_eq_true.2 ⟨m, hm, by unfold inB; rw [h3, h4, decide_eq_true h1, decide_eq_true h2]; rfl⟩
    rw [this, Bool.or_true]
theorem any_succ {α : Type} (f : α → Bool) (l : List α) {k : Nat} (h : k < l.length) : (l.take (k + 1)).any f = ((l.take k).any f || f l[k]) := by
  rw [List.take_succ_eq_append_getElem h, List.any_append, List.any_cons, List.any_nil, Bool.or_false]
theorem Mgs_bits {n : Nat} {b : Wm.Bs} {root : Int} (hb : Wm.isBs b) {k : Nat} (h : k < (Tm.lst n b root).length) : 0 ≤ (Tm.lst n b root)[k].1.2.2 ∧ (Tm.lst n b root)[k].1.2.2 < 128 := (Tm.lst_ok hb _ (List.getElem_mem h)).2.2.2.2.2
/-- One operation of a drawn region, with its plain conditions found by computing. -/
theorem tk {P : Program} {ops : Array Oper} {Q : Exit → Act → World → Prop} {md : Region.Mode} {S : World → Prop} {i : Nat} {oi : Oper} {v : Value} {fuel : Nat} {listed : Array Bool} {a : Act} {w : World} (hi : ops[i]? = some oi) (hy : YieldsIf P ops S oi v a) (hS : S w)
    (h : wpAnyH P md ops Q S fuel (listed.setIfInBounds i true) (a.put oi.dst v) w) (hs : Region.noSelect ops = true := by kernel_rfl) (hf : Region.free md ops listed i = true := by kernel_rfl) (hr : (Region.ready md ops listed).contains i = true := by kernel_rfl)
    (hQ : ∀ c a w, Q (.panic c) (a.put oi.dst v) w → Q (.panic c) a w := by exact fun _ _ _ h => h) : wpAnyH P md ops Q S (fuel + 1) listed a w :=
  wpAnyH_take hi hs hf hr hQ hy hS h
theorem sz0 {α : Type} (l : List α) (i : Nat) (v : α) : l.toArray.setIfInBounds i v = (l.set i v).toArray := List.setIfInBounds_toArray ..
theorem sz1 {α : Type} (a b : α) (l : List α) : (a :: l).set 0 b = b :: l := rfl
theorem sz2 {α : Type} (a b : α) (l : List α) (n : Nat) : (a :: l).set (n + 1) b = a :: l.set n b := rfl
theorem band_has {q : Int} (h : 0 ≤ q ∧ q < 128) : bits .and .i64 q 64 = (if Tm.has q 64 then 64 else 0) ∧ bits .and .i64 q 4 = (if Tm.has q 4 then 4 else 0) ∧ bits .and .i64 q 2 = (if Tm.has q 2 then 2 else 0) := by
  have all : ∀ i : Fin 128, bits .and .i64 (i.1 : Int) 64 = (if Tm.has (i.1 : Int) 64 then 64 else 0) ∧ bits .and .i64 (i.1 : Int) 4 = (if Tm.has (i.1 : Int) 4 then 4 else 0) ∧ bits .and .i64 (i.1 : Int) 2 = (if Tm.has (i.1 : Int) 2 then 2 else 0) := by decide +kernel
  have := all ⟨q.toNat, by omega⟩
  have e : ((q.toNat : Nat) : Int) = q := by omega
  simp only [e] at this
  exact this
end Go.Proofs.YtidhodalnikhlaaGreatDoor
