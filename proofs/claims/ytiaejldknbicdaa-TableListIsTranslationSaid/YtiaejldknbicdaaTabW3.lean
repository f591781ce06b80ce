/-
  PLAIN FACTS, OF NO PROGRAM: the list of a root's mappings: each is right, they ascend, and one of them holds an address exactly if a load in kernel mode finds it.
-/
import Derived.Test.YtiaejldknbicdaaTabO
import Derived.Test.YtiaejldknbicdaaTabW2
namespace Go.Proofs.Ytiaejldknbicdaa
open Go.RowKit
namespace Tm

/-- How many bytes a mapping has. -/
def szM (x : Mg) : Int := if has x.1.2.2 64 then 4096 else 128
/-- A mapping that is as the chapter says. -/
def okM (x : Mg) : Prop := 0 ≤ x.1.1 ∧ x.1.1 < 131072 ∧ x.1.1 % szM x = 0 ∧ x.1.2.1 % szM x = 0 ∧ has x.1.2.2 1 = true ∧ 0 ≤ x.1.2.2 ∧ x.1.2.2 < 128
/-- Whether a mapping holds an address. -/
def hit (va : Int) (x : Mg) : Bool := decide (x.1.1 ≤ va) && decide (va - x.1.1 < szM x)
theorem has_mod {e : Int} (k : Nat) (M : Int) (hM : M = ((2 ^ k : Nat) : Int)) (hk : k < 7) : has (e % 128) M = has e M := by
  subst hM
  unfold has
  rw [decide_eq_decide]
  rcases (show k = 0 ∨ k = 1 ∨ k = 2 ∨ k = 3 ∨ k = 4 ∨ k = 5 ∨ k = 6 by omega) with rfl | rfl | rfl | rfl | rfl | rfl | rfl
  · show e % 128 / 1 % 2 = 1 ↔ e / 1 % 2 = 1; omega
  · show e % 128 / 2 % 2 = 1 ↔ e / 2 % 2 = 1; omega
  · show e % 128 / 4 % 2 = 1 ↔ e / 4 % 2 = 1; omega
  · show e % 128 / 8 % 2 = 1 ↔ e / 8 % 2 = 1; omega
  · show e % 128 / 16 % 2 = 1 ↔ e / 16 % 2 = 1; omega
  · show e % 128 / 32 % 2 = 1 ↔ e / 32 % 2 = 1; omega
  · show e % 128 / 64 % 2 = 1 ↔ e / 64 % 2 = 1; omega
theorem mk_pa {va e : Int} (h : isE e) : (mkM va e).1.2.1 = adr e := by
  have h2 := adr_e h
  exact Int.emod_eq_of_lt h2.1 h2.2
theorem mk_sz {va e : Int} : szM (mkM va e) = if has e 64 then 4096 else 128 := by
  unfold szM
  show (if has (e % 128) 64 = true then (4096 : Int) else 128) = _
  rw [has_mod 6 64 rfl (by omega)]
/-- The mappings of one entry of the first level. -/
theorem sec_mem {b : Wm.Bs} {ex va : Int} {i : Fin 32} {x : Mg} (h : x ∈ secAt b ex va i) : has (secY b ex va i) 1 = true ∧ has (secY b ex va i) 64 = false ∧ x = mkM (va + 128 * (i.1 : Int)) (secY b ex va i) := by
  unfold secAt at h
  split at h
  · rename_i h1
    rw [Bool.and_eq_true, Bool.not_eq_true'] at h1
    exact ⟨h1.1, h1.2, List.mem_singleton.1 h⟩
  · cases h
theorem top_mem {n : Nat} {b : Wm.Bs} {root : Int} (hb : Wm.isBs b) {i : Fin 32} {x : Mg} (h : x ∈ topAt n b root i) :
    okM x ∧ x.1.1 / 4096 = (i.1 : Int) ∧ pageB n x.1.2.1 = true ∧ has (topX b root i) 1 = true ∧ rF n (topX b root i) = true ∧
    ((has (topX b root i) 64 = true ∧ x = mkM (4096 * (i.1 : Int)) (topX b root i)) ∨ (has (topX b root i) 64 = false ∧ ∃ j : Fin 32, has (secY b (topX b root i) (4096 * (i.1 : Int)) j) 1 = true ∧ has (secY b (topX b root i) (4096 * (i.1 : Int)) j) 64 = false ∧ x = mkM (4096 * (i.1 : Int) + 128 * (j.1 : Int)) (secY b (topX b root i) (4096 * (i.1 : Int)) j))) := by
  have hi := i.2
  unfold topAt at h
  split at h
  · rename_i h1
    rw [Bool.and_eq_true] at h1
    obtain ⟨hx, hp⟩ := List.mem_filter.1 h
    have hE : isE (topX b root i) := wd_e hb _
    unfold blw at hx
    split at hx
    · rename_i h64
      obtain rfl := List.mem_singleton.1 hx
      have ha := rF_large h1.2 h64
      refine ⟨⟨?_, ?_, ?_, ?_, ?_, ?_, ?_⟩, ?_, hp, h1.1, h1.2, .inl ⟨h64, rfl⟩⟩
      · show 0 ≤ 4096 * (i.1 : Int); omega
      · show 4096 * (i.1 : Int) < 131072; omega
      · rw [mk_sz, if_pos h64]; show 4096 * (i.1 : Int) % 4096 = 0; omega
      · rw [mk_sz, if_pos h64, mk_pa hE]; exact ha
      · show has (topX b root i % 128) 1 = true; rw [has_mod 0 1 rfl (by omega)]; exact h1.1
      · show 0 ≤ topX b root i % 128; omega
      · show topX b root i % 128 < 128; omega
      · show 4096 * (i.1 : Int) / 4096 = _; omega
    · rename_i h64
      obtain ⟨j, _, hj⟩ := List.mem_flatMap.1 hx
      obtain ⟨s1, s2, rfl⟩ := sec_mem hj
      have hjl := j.2
      have hY : isE (secY b (topX b root i) (4096 * (i.1 : Int)) j) := wd_e hb _
      refine ⟨⟨?_, ?_, ?_, ?_, ?_, ?_, ?_⟩, ?_, hp, h1.1, h1.2, .inr ⟨by simpa using h64, j, s1, s2, rfl⟩⟩
      · show 0 ≤ 4096 * (i.1 : Int) + 128 * (j.1 : Int); omega
      · show 4096 * (i.1 : Int) + 128 * (j.1 : Int) < 131072; omega
      · rw [mk_sz, s2]; show (4096 * (i.1 : Int) + 128 * (j.1 : Int)) % 128 = 0; omega
      · rw [mk_sz, s2, mk_pa hY]; show adr _ % 128 = 0; unfold adr; omega
      · show has (secY b (topX b root i) (4096 * (i.1 : Int)) j % 128) 1 = true; rw [has_mod 0 1 rfl (by omega)]; exact s1
      · show 0 ≤ secY b (topX b root i) (4096 * (i.1 : Int)) j % 128; omega
      · show secY b (topX b root i) (4096 * (i.1 : Int)) j % 128 < 128; omega
      · show (4096 * (i.1 : Int) + 128 * (j.1 : Int)) / 4096 = _; omega
  · cases h
theorem lst_ok {n : Nat} {b : Wm.Bs} {root : Int} (hb : Wm.isBs b) : ∀ x ∈ lst n b root, okM x := by
  intro x hx
  unfold lst at hx
  split at hx
  · obtain ⟨i, _, h⟩ := List.mem_flatMap.1 hx
    exact (top_mem hb h).1
  · cases hx
/-- Lists made part by part ascend. -/
theorem flat_asc {α : Type} {f : Fin 32 → List α} {g : α → Int} (h1 : ∀ i, (f i).Pairwise (fun x y => g x < g y)) (h2 : ∀ i j : Fin 32, i.1 < j.1 → ∀ x ∈ f i, ∀ y ∈ f j, g x < g y) :
    ((List.finRange 32).flatMap f).Pairwise (fun x y => g x < g y) := by
  rw [List.pairwise_flatMap]
  refine ⟨fun i _ => h1 i, ?_⟩
  have := List.pairwise_lt_finRange 32
  exact this.imp (fun hij x hx y hy => h2 _ _ hij x hx y hy)
theorem sec_asc (b : Wm.Bs) (ex va : Int) : ((List.finRange 32).flatMap (secAt b ex va)).Pairwise (fun x y : Mg => x.1.1 < y.1.1) := by
  refine flat_asc (fun i => ?_) (fun i j hij x hx y hy => ?_)
  · unfold secAt
    split
    · exact List.pairwise_singleton _ _
    · exact List.Pairwise.nil
  · obtain ⟨_, _, rfl⟩ := sec_mem hx
    obtain ⟨_, _, rfl⟩ := sec_mem hy
    show va + 128 * (i.1 : Int) < va + 128 * (j.1 : Int)
    omega
theorem lst_asc {n : Nat} {b : Wm.Bs} {root : Int} (hb : Wm.isBs b) : (lst n b root).Pairwise (fun x y : Mg => x.1.1 < y.1.1) := by
  unfold lst
  split
  · refine flat_asc (fun i => ?_) (fun i j hij x hx y hy => ?_)
    · unfold topAt
      split
      · refine List.Pairwise.filter _ ?_
        unfold blw
        split
        · exact List.pairwise_singleton _ _
        · exact sec_asc _ _ _
      · exact List.Pairwise.nil
    · have a := (top_mem hb hx).2.1
      have c := (top_mem hb hy).2.1
      omega
  · exact List.Pairwise.nil
end Tm
end Go.Proofs.Ytiaejldknbicdaa
