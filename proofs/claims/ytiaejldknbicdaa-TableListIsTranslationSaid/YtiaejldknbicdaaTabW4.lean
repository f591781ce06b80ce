/-
  PLAIN FACTS, OF NO PROGRAM: a mapping of the list holds an address exactly if the walk of a load in kernel mode leads there.
-/
import Derived.Test.YtiaejldknbicdaaTabW3
namespace Go.Proofs.Ytiaejldknbicdaa
open Go.RowKit
namespace Tm

def i0 (va : Int) (h : 0 ≤ va ∧ va < 131072) : Fin 32 := ⟨(va / 4096).toNat, by omega⟩
def j0 (va : Int) (_h : 0 ≤ va ∧ va < 131072) : Fin 32 := ⟨(va % 4096 / 128).toNat, by omega⟩
theorem i0_v {va : Int} (h : 0 ≤ va ∧ va < 131072) : ((i0 va h).1 : Int) = va / 4096 := by unfold i0; show (((va / 4096).toNat : Nat) : Int) = _; omega
theorem j0_v {va : Int} (h : 0 ≤ va ∧ va < 131072) : ((j0 va h).1 : Int) = va % 4096 / 128 := by unfold j0; show (((va % 4096 / 128).toNat : Nat) : Int) = _; omega
theorem topX_va {b : Wm.Bs} {root va : Int} (h : 0 ≤ va ∧ va < 131072) : topX b root (i0 va h) = wd b (fA root va) := by
  unfold topX fA
  rw [i0_v h, show 4096 * (va / 4096) / 4096 = va / 4096 by omega]
theorem secY_va {b : Wm.Bs} {ex va : Int} (h : 0 ≤ va ∧ va < 131072) : secY b ex (4096 * ((i0 va h).1 : Int)) (j0 va h) = wd b (sA (adr ex) va) := by
  unfold secY sA
  rw [i0_v h, j0_v h, show (4096 * (va / 4096) + 128 * (va % 4096 / 128)) % 4096 / 128 = va % 4096 / 128 by omega]
theorem allows_load0 (e : Int) : allows e 1 false = true := by
  unfold allows
  rw [show isSt 1 = false from rfl, show decide ((1 : Int) = 4) = false from rfl]
  rfl
/-- A mapping that holds an address: its leaf is what is found, and it leads to the same place. -/
theorem hit_is {n : Nat} {b : Wm.Bs} {root va : Int} (hb : Wm.isBs b) (hv : 0 ≤ va) {x : Mg} (hx : x ∈ lst n b root) (hh : hit va x = true) :
    va < 131072 ∧ rootB n root = true ∧ (find n b root va).ok = true ∧ isE (find n b root va).e ∧ x.1.2.1 + (va - x.1.1) = pgOf (find n b root va).e va + va % 128 := by
  unfold hit at hh
  rw [Bool.and_eq_true, decide_eq_true_eq, decide_eq_true_eq] at hh
  unfold lst at hx
  split at hx
  · rename_i hroot
    obtain ⟨i, _, hxi⟩ := List.mem_flatMap.1 hx
    have hi := i.2
    obtain ⟨ok, hdiv, hpg, t1, t2, hcase⟩ := top_mem hb hxi
    have hE : isE (topX b root i) := wd_e hb _
    rcases hcase with ⟨h64, rfl⟩ | ⟨h64, j, s1, s2, rfl⟩
    · rw [mk_sz, if_pos h64] at hh
      have hh1 : 4096 * (i.1 : Int) ≤ va := hh.1
      have hh2 : va - 4096 * (i.1 : Int) < 4096 := hh.2
      have hlt : va < 131072 := by omega
      have hii : i = i0 va ⟨hv, hlt⟩ := Fin.ext (by have := i0_v (va := va) ⟨hv, hlt⟩; omega)
      have hT : wd b (fA root va) = topX b root i := by rw [hii]; exact (topX_va ⟨hv, hlt⟩).symm
      have hf : find n b root va = ⟨fA root va, topX b root i, [fA root va], true⟩ := by
        unfold find
        rw [hT, t1, t2, if_pos (show (true && true) = true from rfl), if_pos h64]
      refine ⟨hlt, hroot, by rw [hf], by rw [hf]; exact hE, ?_⟩
      rw [hf, mk_pa hE]
      show adr (topX b root i) + (va - 4096 * (i.1 : Int)) = pgOf (topX b root i) va + va % 128
      unfold pgOf
      rw [if_pos h64]
      omega
    · have hjl := j.2
      rw [mk_sz, s2] at hh
      have hh1 : 4096 * (i.1 : Int) + 128 * (j.1 : Int) ≤ va := hh.1
      have hh2 : va - (4096 * (i.1 : Int) + 128 * (j.1 : Int)) < 128 := hh.2
      have hlt : va < 131072 := by omega
      have hii : i = i0 va ⟨hv, hlt⟩ := Fin.ext (by have := i0_v (va := va) ⟨hv, hlt⟩; omega)
      have hjj : j = j0 va ⟨hv, hlt⟩ := Fin.ext (by have := j0_v (va := va) ⟨hv, hlt⟩; omega)
      have hT : wd b (fA root va) = topX b root i := by rw [hii]; exact (topX_va ⟨hv, hlt⟩).symm
      have hS : secY b (topX b root i) (4096 * (i.1 : Int)) j = wd b (sA (adr (topX b root i)) va) := by
        rw [hjj, ← secY_va (b := b) (ex := topX b root i) ⟨hv, hlt⟩, ← hii]
      have hY : isE (secY b (topX b root i) (4096 * (i.1 : Int)) j) := wd_e hb _
      rw [hS] at s1 s2 hY ⊢
      have hf : find n b root va = ⟨sA (adr (topX b root i)) va, wd b (sA (adr (topX b root i)) va), [fA root va, sA (adr (topX b root i)) va], true⟩ := by
        unfold find
        rw [hT, t1, t2, if_pos (show (true && true) = true from rfl), if_neg (by rw [h64]; exact Bool.false_ne_true), s1, s2]
        rfl
      refine ⟨hlt, hroot, by rw [hf], by rw [hf]; exact hY, ?_⟩
      rw [hf, mk_pa hY]
      show adr (wd b (sA (adr (topX b root i)) va)) + (va - (4096 * (i.1 : Int) + 128 * (j.1 : Int))) = pgOf (wd b (sA (adr (topX b root i)) va)) va + va % 128
      unfold pgOf
      rw [s2, if_neg Bool.false_ne_true]
      omega
  · cases hx
/-- What the walk finds is in the list. -/
theorem found_in {n : Nat} {b : Wm.Bs} {root va : Int} (hb : Wm.isBs b) (hv : 0 ≤ va) (hlt : va < 131072) (hroot : rootB n root = true) (hok : (find n b root va).ok = true) (hpg : pageB n (pgOf (find n b root va).e va) = true) :
    ∃ x ∈ lst n b root, hit va x = true := by
  have hi := i0_v (va := va) ⟨hv, hlt⟩
  have hj := j0_v (va := va) ⟨hv, hlt⟩
  have hT := topX_va (b := b) (root := root) ⟨hv, hlt⟩
  have hE : isE (wd b (fA root va)) := wd_e hb _
  by_cases h1 : (has (wd b (fA root va)) 1 && rF n (wd b (fA root va))) = true
  · by_cases h2 : has (wd b (fA root va)) 64 = true
    · have hf : find n b root va = ⟨fA root va, wd b (fA root va), [fA root va], true⟩ := by unfold find; rw [if_pos h1, if_pos h2]
      rw [hf] at hpg
      refine ⟨mkM (4096 * ((i0 va ⟨hv, hlt⟩).1 : Int)) (wd b (fA root va)), ?_, ?_⟩
      · unfold lst
        rw [if_pos hroot]
        refine List.mem_flatMap.2 ⟨i0 va ⟨hv, hlt⟩, List.mem_finRange _, ?_⟩
        unfold topAt
        rw [hT, if_pos h1]
        refine List.mem_filter.2 ⟨?_, ?_⟩
        · unfold blw
          rw [if_pos h2]
          exact List.mem_singleton.2 rfl
        · rw [mk_pa hE]
          have hp := pageB_lt hpg
          simp only at hp
          unfold pgOf at hp
          rw [if_pos h2] at hp
          unfold pageB
          rw [Bool.and_eq_true, decide_eq_true_eq, decide_eq_true_eq]
          exact ⟨by unfold adr; omega, by omega⟩
      · unfold hit
        rw [mk_sz, if_pos h2, Bool.and_eq_true, decide_eq_true_eq, decide_eq_true_eq]
        exact ⟨by show 4096 * ((i0 va ⟨hv, hlt⟩).1 : Int) ≤ va; omega, by show va - 4096 * ((i0 va ⟨hv, hlt⟩).1 : Int) < 4096; omega⟩
    · have hf : find n b root va = ⟨sA (adr (wd b (fA root va))) va, wd b (sA (adr (wd b (fA root va))) va), [fA root va, sA (adr (wd b (fA root va))) va], has (wd b (sA (adr (wd b (fA root va))) va)) 1 && !has (wd b (sA (adr (wd b (fA root va))) va)) 64⟩ := by unfold find; rw [if_pos h1, if_neg h2]
      rw [hf] at hpg hok
      simp only at hpg hok
      have hS := secY_va (b := b) (ex := wd b (fA root va)) (va := va) ⟨hv, hlt⟩
      have hY : isE (wd b (sA (adr (wd b (fA root va))) va)) := wd_e hb _
      have hok2 := hok
      rw [Bool.and_eq_true, Bool.not_eq_true'] at hok2
      refine ⟨mkM (4096 * ((i0 va ⟨hv, hlt⟩).1 : Int) + 128 * ((j0 va ⟨hv, hlt⟩).1 : Int)) (wd b (sA (adr (wd b (fA root va))) va)), ?_, ?_⟩
      · unfold lst
        rw [if_pos hroot]
        refine List.mem_flatMap.2 ⟨i0 va ⟨hv, hlt⟩, List.mem_finRange _, ?_⟩
        unfold topAt
        rw [hT, if_pos h1]
        refine List.mem_filter.2 ⟨?_, ?_⟩
        · unfold blw
          rw [if_neg h2]
          refine List.mem_flatMap.2 ⟨j0 va ⟨hv, hlt⟩, List.mem_finRange _, ?_⟩
          unfold secAt
          rw [hS, if_pos hok]
          exact List.mem_singleton.2 rfl
        · rw [mk_pa hY]
          unfold pgOf at hpg
          rw [hok2.2, if_neg Bool.false_ne_true] at hpg
          exact hpg
      · unfold hit
        rw [mk_sz, hok2.2, Bool.and_eq_true, decide_eq_true_eq, decide_eq_true_eq]
        exact ⟨by show 4096 * ((i0 va ⟨hv, hlt⟩).1 : Int) + 128 * ((j0 va ⟨hv, hlt⟩).1 : Int) ≤ va; omega, by show va - (4096 * ((i0 va ⟨hv, hlt⟩).1 : Int) + 128 * ((j0 va ⟨hv, hlt⟩).1 : Int)) < 128; omega⟩
  · have hf : find n b root va = ⟨0, 0, [fA root va], false⟩ := by unfold find; rw [if_neg h1]
    rw [hf] at hok
    cases hok
/-- The last mapping that holds an address, and where it leads. -/
def atL (va : Int) : List Mg → Int → Int
  | [], a => a
  | x :: r, a => atL va r (if hit va x then x.1.2.1 + (va - x.1.1) else a)
theorem atL_is (va V : Int) : ∀ (L : List Mg) (a : Int), (∀ x ∈ L, hit va x = true → x.1.2.1 + (va - x.1.1) = V) → (atL va L a = V ∧ ∃ x ∈ L, hit va x = true) ∨ (atL va L a = a ∧ ∀ x ∈ L, hit va x = false)
  | [], a, _ => .inr ⟨rfl, fun x hx => by cases hx⟩
  | x :: r, a, h => by
    unfold atL
    cases hx : hit va x with
    | true =>
      rw [if_pos rfl, h x (by simp) hx]
      left
      rcases atL_is va V r V (fun y hy => h y (by simp [hy])) with ⟨h1, _⟩ | ⟨h1, _⟩
      · exact ⟨h1, x, by simp, hx⟩
      · exact ⟨h1, x, by simp, hx⟩
    | false =>
      rw [if_neg Bool.false_ne_true]
      rcases atL_is va V r a (fun y hy => h y (by simp [hy])) with ⟨h1, y, hy, h2⟩ | ⟨h1, h2⟩
      · exact .inl ⟨h1, y, by simp [hy], h2⟩
      · refine .inr ⟨h1, fun y hy => ?_⟩
        rcases List.mem_cons.1 hy with rfl | hy
        · exact hx
        · exact h2 y hy
/-- THE LIST IS THE TRANSLATION. -/
theorem list_walk {n : Nat} {b : Wm.Bs} {root va : Int} (hb : Wm.isBs b) (h0 : root ≠ 0) (hv : 0 ≤ va) :
    ((walk n b root va 1 false).ok = true ∧ atL va (lst n b root) (-1) = (walk n b root va 1 false).a ∧ 0 ≤ atL va (lst n b root) (-1) ∧ atL va (lst n b root) (-1) < (n : Int) * 128) ∨
    ((walk n b root va 1 false).ok = false ∧ (atL va (lst n b root) (-1) = -1 ∨ (n : Int) * 128 ≤ atL va (lst n b root) (-1))) := by
  have hw : walk n b root va 1 false = trans n b root va 1 false := by unfold walk; rw [if_neg h0]
  rw [hw]
  have hV : ∀ x ∈ lst n b root, hit va x = true → x.1.2.1 + (va - x.1.1) = pgOf (find n b root va).e va + va % 128 := fun x hx hh => (hit_is hb hv hx hh).2.2.2.2
  have hrB : rootB n root = pageB n root := by
    unfold rootB
    rw [show (root == 0) = false by simpa using h0]
    rfl
  rcases atL_is va _ (lst n b root) (-1) hV with ⟨h1, x, hx, hh⟩ | ⟨h1, h2⟩
  · obtain ⟨a1, a2, a3, a4, _⟩ := hit_is hb hv hx hh
    have hA : (decide (va < 131072) && pageB n root) = true := by rw [← hrB, a2, decide_eq_true a1]; rfl
    have hnn := pgOf_nn a4 hv (va := va)
    have hm : pgOf (find n b root va).e va % 128 = 0 := by unfold pgOf adr; split <;> omega
    rw [h1]
    by_cases hp : pageB n (pgOf (find n b root va).e va) = true
    · left
      have ht : trans n b root va 1 false = wkOf (find n b root va) va 1 := by
        unfold trans
        rw [if_pos hA, a3, hp, allows_load0, if_pos (show (true && (true && true)) = true from rfl)]
      rw [ht]
      have := pageB_lt hp
      exact ⟨rfl, rfl, by omega, by omega⟩
    · right
      have ht : trans n b root va 1 false = ⟨false, 0, 0, [], (find n b root va).r⟩ := by
        unfold trans
        rw [if_pos hA, if_neg (by rw [Bool.and_eq_true, Bool.and_eq_true]; exact fun h => hp h.2.1)]
      rw [ht]
      refine ⟨rfl, .inr ?_⟩
      unfold pageB at hp
      rw [Bool.and_eq_true, decide_eq_true_eq, decide_eq_true_eq] at hp
      omega
  · right
    refine ⟨?_, .inl h1⟩
    unfold trans
    by_cases hA : (decide (va < 131072) && pageB n root) = true
    · rw [if_pos hA]
      by_cases hB : ((find n b root va).ok && (pageB n (pgOf (find n b root va).e va) && allows (find n b root va).e 1 false)) = true
      · rw [Bool.and_eq_true, decide_eq_true_eq] at hA
        rw [Bool.and_eq_true, Bool.and_eq_true] at hB
        obtain ⟨x, hx, hh⟩ := found_in hb hv hA.1 (by rw [hrB]; exact hA.2) hB.1 hB.2.1
        rw [h2 x hx] at hh
        cases hh
      · rw [if_neg hB]
    · rw [if_neg hA]
end Tm
end Go.Proofs.Ytiaejldknbicdaa
