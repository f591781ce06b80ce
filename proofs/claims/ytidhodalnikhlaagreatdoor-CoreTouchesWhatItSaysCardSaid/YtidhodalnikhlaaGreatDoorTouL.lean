/-
  PLAIN MATHEMATICS: a step depends on the bytes of its accesses alone.
-/
import Derived.Test.YtidhodalnikhlaaGreatDoorYa
namespace Go.Proofs.YtidhodalnikhlaaGreatDoor
open Go.RowKit Go.ChangeShapes Go.WideShapes Go.ChangeAt

/-- Two memories of one size that have the same bytes where S says so. -/
def AgrS (S : Nat → Prop) (b b' : Wm.Bs) : Prop := b.length = b'.length ∧ ∀ k, S k → b[k]? = b'[k]?
theorem AgrS.refl (S : Nat → Prop) (b : Wm.Bs) : AgrS S b b := ⟨rfl, fun _ _ => rfl⟩
/-- S holds of all that is touched. -/
def CovA (S : Nat → Prop) (a s : Int) : Prop := ∀ k : Nat, a ≤ k → (k : Int) < a + s → S k
def Cov (S : Nat → Prop) (ac : List (Int × Int × Bool)) : Prop := ∀ x ∈ ac, CovA S x.1 x.2.1
theorem Cov.nil (S : Nat → Prop) : Cov S [] := fun x hx => by simp at hx
theorem Cov.left {S : Nat → Prop} {a b : List (Int × Int × Bool)} (h : Cov S (a ++ b)) : Cov S a := fun x hx => h x (List.mem_append.2 (.inl hx))
theorem Cov.right {S : Nat → Prop} {a b : List (Int × Int × Bool)} (h : Cov S (a ++ b)) : Cov S b := fun x hx => h x (List.mem_append.2 (.inr hx))
theorem Cov.one {S : Nat → Prop} {a s : Int} {t : Bool} (h : Cov S [(a, s, t)]) : CovA S a s := h _ (List.mem_singleton.2 rfl)
theorem ld_dep {S : Nat → Prop} {b b' : Wm.Bs} {a s : Int} (h : AgrS S b b') (hc : CovA S a s) : Mm.ld b' a s = Mm.ld b a s := by
  unfold Mm.ld
  rw [← h.1]
  split
  · rename_i ht
    have h0 : 0 ≤ a := ht.2.1
    congr 1
    apply List.ext_getElem?
    intro i
    rw [List.getElem?_take, List.getElem?_take, List.getElem?_drop, List.getElem?_drop]
    split
    · rename_i hi
      exact (h.2 _ (hc _ (by omega) (by omega))).symm
    · rfl
  · rfl
theorem put_dep {S : Nat → Prop} {b b' : Wm.Bs} (h : AgrS S b b') (o : Nat) (d : Wm.Bs) (hd : o + d.length ≤ b.length) : AgrS S (Mm.put b o d) (Mm.put b' o d) := by
  refine ⟨by rw [Mm.put_len hd, Mm.put_len (by rw [← h.1]; exact hd)]; exact h.1, fun k hk => ?_⟩
  rw [Mm.put_get hd, Mm.put_get (by rw [← h.1]; exact hd), h.2 k hk]
theorem el_lenT (s : Nat) (v : Int) : (Mm.el s v).length = s := Mm.el_len s v
theorem ap_dep {S : Nat → Prop} : ∀ (l : List (Int × Int × Int)) {b b' : Wm.Bs}, AgrS S b b' → AgrS S ((Mm.ap b l).getD b) ((Mm.ap b' l).getD b') ∧ ((Mm.ap b l).isSome = (Mm.ap b' l).isSome) ∧ ∀ x x', Mm.ap b l = some x → Mm.ap b' l = some x' → AgrS S x x'
  | [], b, b', h => ⟨h, rfl, fun x x' h1 h2 => by cases h1; cases h2; exact h⟩
  | w :: r, b, b', h => by
    rw [Mm.ap_cons, Mm.ap_cons, ← h.1]
    by_cases ht : Mm.There b.length w.1 w.2.1
    · rw [if_pos ht, if_pos ht]
      have h1 := put_dep h w.1.toNat (Mm.el w.2.1.toNat w.2.2) (by rw [el_lenT]; obtain ⟨h1, h2, h3⟩ := ht; rcases h1 with h1 | h1 <;> omega)
      obtain ⟨_, h3, h4⟩ := ap_dep r h1
      refine ⟨?_, h3, h4⟩
      cases e1 : Mm.ap (Mm.put b w.1.toNat (Mm.el w.2.1.toNat w.2.2)) r with
      | none =>
        rw [e1] at h3
        cases e2 : Mm.ap (Mm.put b' w.1.toNat (Mm.el w.2.1.toNat w.2.2)) r with
        | none => exact h
        | some x' => rw [e2] at h3; cases h3
      | some x =>
        rw [e1] at h3
        cases e2 : Mm.ap (Mm.put b' w.1.toNat (Mm.el w.2.1.toNat w.2.2)) r with
        | none => rw [e2] at h3; cases h3
        | some x' => exact h4 x x' e1 e2
    · rw [if_neg ht, if_neg ht]
      exact ⟨h, rfl, fun x x' h1 => by cases h1⟩
namespace Tm
def CovR (S : Nat → Prop) (r : List Int) : Prop := ∀ a ∈ r, CovA S a 4
theorem find_dep {S : Nat → Prop} {n : Nat} {b b' : Wm.Bs} {root va : Int} (h : AgrS S b b') (hc : CovR S (find n b root va).r) : find n b' root va = find n b root va := by
  have h1 : wd b' (fA root va) = wd b (fA root va) := by
    refine ld_dep h (hc _ ?_)
    unfold find
    split
    · split <;> exact List.mem_cons_self ..
    · exact List.mem_cons_self ..
  unfold find at hc ⊢
  rw [h1]
  split
  · rename_i g1
    rw [if_pos g1] at hc
    split
    · rfl
    · rename_i g2
      rw [if_neg g2] at hc
      have h2 : wd b' (sA (adr (wd b (fA root va))) va) = wd b (sA (adr (wd b (fA root va))) va) := ld_dep h (hc _ (List.mem_cons_of_mem _ (List.mem_cons_self ..)))
      rw [h2]
  · rfl
theorem walk_dep {S : Nat → Prop} {n : Nat} {b b' : Wm.Bs} {root va acc : Int} {u : Bool} (h : AgrS S b b') (hc : CovR S (walk n b root va acc u).r) : walk n b' root va acc u = walk n b root va acc u := by
  unfold walk at hc ⊢
  split
  · rfl
  · rename_i g0
    rw [if_neg g0] at hc
    unfold trans at hc ⊢
    split
    · rename_i g1
      rw [if_pos g1] at hc
      have h1 : find n b' root va = find n b root va := by
        refine find_dep h ?_
        split at hc
        · exact hc
        · exact hc
      rw [h1]
    · rfl
end Tm
namespace Cm
theorem cov_ra {S : Nat → Prop} {r : List Int} (h : Cov S (raL r)) : Tm.CovR S r := fun a ha => h (a, 4, false) (by unfold raL; exact List.mem_map.2 ⟨a, ha, rfl⟩)
/-- Two places that differ in their memories alone. -/
def PlE (S : Nat → Prop) (P P' : Pl) : Prop := P'.ok = P.ok ∧ P'.ca = P.ca ∧ P'.a = P.a ∧ P'.w = P.w ∧ P'.c = P.c ∧ AgrS S P.b P'.b
theorem place_dep {S : Nat → Prop} {n : Nat} {b b' : Wm.Bs} {root : Int} {u : Bool} {va acc sz : Int} (h : AgrS S b b') (hc : Cov S (place n b root u va acc sz).c) : PlE S (place n b root u va acc sz) (place n b' root u va acc sz) := by
  unfold place at hc ⊢
  split
  · rename_i g
    rw [if_pos g] at hc
    have h1 : Tm.walk n b' root va acc u = Tm.walk n b root va acc u := by
      refine Tm.walk_dep h (cov_ra ?_)
      unfold plOf at hc
      split at hc <;> exact hc.left
    rw [h1]
    unfold plOf
    split
    · exact ⟨rfl, rfl, rfl, rfl, rfl, (ap_dep _ h).1⟩
    · exact ⟨rfl, rfl, rfl, rfl, rfl, h⟩
  · exact ⟨rfl, rfl, rfl, rfl, rfl, h⟩
theorem rws_cov {S : Nat → Prop} {n : Nat} {b : Wm.Bs} {pc : Int} {i : Im.I} {e : Eff} {X : Out} (hX : X = read n b pc i e ∨ X = write n b pc i e ∨ X = swap n b pc i e) (hc : Cov S X.1.ac) : Cov S (pl n b i e).c ∧ ((X = read n b pc i e ∨ X = swap n b pc i e) → (pl n b i e).ok = true → CovA S (pl n b i e).a (accS i.op)) := by
  rcases hX with rfl | rfl | rfl
  · unfold read at hc ⊢
    dsimp only at hc ⊢
    split at hc
    · exact ⟨hc.left.right, fun _ _ => hc.right.one⟩
    · rename_i g
      exact ⟨hc.right, fun _ g2 => absurd g2 g⟩
  · unfold write at hc ⊢
    dsimp only at hc ⊢
    split at hc
    · rename_i g
      refine ⟨hc.left.right, fun hq _ => ?_⟩
      exact hc.right.one
    · rename_i g
      exact ⟨hc.right, fun _ g2 => absurd g2 g⟩
  · unfold swap at hc ⊢
    dsimp only at hc ⊢
    split at hc
    · exact ⟨hc.left.left.right, fun _ _ => hc.left.right.one⟩
    · rename_i g
      exact ⟨hc.right, fun _ g2 => absurd g2 g⟩
theorem read_dep {S : Nat → Prop} {n : Nat} {b b' : Wm.Bs} {pc : Int} {i : Im.I} {e : Eff} (h : AgrS S b b') (hc : Cov S (read n b pc i e).1.ac) : read n b' pc i e = read n b pc i e := by
  obtain ⟨c1, c2⟩ := rws_cov (.inl rfl) hc
  obtain ⟨p1, p2, p3, p4, p5, p6⟩ := place_dep (n := n) h c1
  have q : PlE S (pl n b i e) (pl n b' i e) := ⟨p1, p2, p3, p4, p5, p6⟩
  obtain ⟨p1, p2, p3, p4, p5, p6⟩ := q
  unfold read
  dsimp only
  rw [p1, p2, p3, p4, p5]
  split
  · rename_i g
    rw [ld_dep p6 (c2 (.inl rfl) g)]
  · rfl
theorem write_dep {S : Nat → Prop} {n : Nat} {b b' : Wm.Bs} {pc : Int} {i : Im.I} {e : Eff} (h : AgrS S b b') (hc : Cov S (write n b pc i e).1.ac) : write n b' pc i e = write n b pc i e := by
  obtain ⟨c1, _⟩ := rws_cov (.inr (.inl rfl)) hc
  have q : PlE S (pl n b i e) (pl n b' i e) := place_dep (n := n) h c1
  obtain ⟨p1, p2, p3, p4, p5, p6⟩ := q
  unfold write
  dsimp only
  rw [p1, p2, p3, p4, p5]
theorem swap_dep {S : Nat → Prop} {n : Nat} {b b' : Wm.Bs} {pc : Int} {i : Im.I} {e : Eff} (h : AgrS S b b') (hc : Cov S (swap n b pc i e).1.ac) : swap n b' pc i e = swap n b pc i e := by
  obtain ⟨c1, c2⟩ := rws_cov (.inr (.inr rfl)) hc
  have q : PlE S (pl n b i e) (pl n b' i e) := place_dep (n := n) h c1
  obtain ⟨p1, p2, p3, p4, p5, p6⟩ := q
  unfold swap
  dsimp only
  rw [p1, p2, p3, p4, p5]
  split
  · rename_i g
    rw [ld_dep p6 (c2 (.inr rfl) g)]
  · rfl
theorem inst_dep {S : Nat → Prop} {n : Nat} {b b' : Wm.Bs} {pc p : Int} {i : Im.I} {e : Eff} (h : AgrS S b b') (hc : Cov S (inst n b pc p i e).1.ac) : inst n b' pc p i e = inst n b pc p i e := by
  by_cases o1 : i.op = 20 ∨ i.op = 22
  · rw [inst_20 _ _ _ _ _ _ o1] at hc ⊢
    rw [inst_20 _ _ _ _ _ _ o1]
    exact read_dep h hc
  by_cases o2 : i.op = 21 ∨ i.op = 23
  · rw [inst_21 _ _ _ _ _ _ o2] at hc ⊢
    rw [inst_21 _ _ _ _ _ _ o2]
    exact write_dep h hc
  by_cases o3 : i.op = 24
  · rw [inst_24 _ _ _ _ _ _ o3] at hc ⊢
    rw [inst_24 _ _ _ _ _ _ o3]
    exact swap_dep h hc
  unfold inst
  rw [if_neg o1, if_neg o2, if_neg o3, if_neg o1, if_neg o2, if_neg o3]
theorem inst_mono {S : Nat → Prop} {n : Nat} {b : Wm.Bs} {pc p : Int} {i : Im.I} {e : Eff} (hc : Cov S (inst n b pc p i e).1.ac) : Cov S e.ac := by
  revert hc
  refine inst_any (fun X => Cov S X.1.ac → Cov S e.ac) n b pc p i e (fun _ => ?_) (fun _ => ?_) (fun _ => ?_) (fun _ _ h => h) (fun _ h => h) (fun h => h) (fun h => h) (fun h => h) (fun _ h => h) (fun _ h => h) (fun _ _ _ h => h) (fun _ h => h) (fun _ _ _ _ h => h) (fun _ h => h)
  · unfold read
    dsimp only
    split
    · exact fun h => h.left.left
    · exact fun h => h.left
  · unfold write
    dsimp only
    split
    · exact fun h => h.left.left
    · exact fun h => h.left
  · unfold swap
    dsimp only
    split
    · exact fun h => h.left.left.left
    · exact fun h => h.left
theorem next_ac (X : Out) : (next X).ac = X.1.ac := by
  unfold next
  split <;> rfl
theorem run_dep {S : Nat → Prop} {n : Nat} {b b' : Wm.Bs} {pc p : Int} {e : Eff} (h : AgrS S b b') (hc : Cov S (run n b pc p e).ac) : run n b' pc p e = run n b pc p e := by
  cases hd : dueB (Tm.has e.c.c5 1) p with
  | true => rw [run_due hd, run_due hd]
  | false =>
    have key : Cov S (place n b e.c.c0 e.c.u e.c.pc 4 4).c ∧ ((place n b e.c.c0 e.c.u e.c.pc 4 4).ok = true → CovA S (place n b e.c.c0 e.c.u e.c.pc 4 4).a 4) := by
      unfold run at hc
      rw [if_neg (by rw [hd]; decide)] at hc
      split at hc
      · split at hc
        · rw [next_ac] at hc
          have h1 := inst_mono hc
          have h2 : Cov S ((place n b e.c.c0 e.c.u e.c.pc 4 4).c ++ [((place n b e.c.c0 e.c.u e.c.pc 4 4).a, 4, false)]) := h1
          exact ⟨h2.left, fun _ => h2.right.one⟩
        · have h2 : Cov S ((place n b e.c.c0 e.c.u e.c.pc 4 4).c ++ [((place n b e.c.c0 e.c.u e.c.pc 4 4).a, 4, false)]) := hc
          exact ⟨h2.left, fun _ => h2.right.one⟩
      · rename_i g
        exact ⟨hc, fun g2 => absurd g2 g⟩
    obtain ⟨p1, p2, p3, p4, p5, p6⟩ := place_dep (n := n) (root := e.c.c0) (u := e.c.u) (va := e.c.pc) (acc := 4) (sz := 4) h key.1
    have key2 := key.2
    obtain ⟨P, hP⟩ : ∃ P, P = place n b e.c.c0 e.c.u e.c.pc 4 4 := ⟨_, rfl⟩
    obtain ⟨P', hP'⟩ : ∃ P, P = place n b' e.c.c0 e.c.u e.c.pc 4 4 := ⟨_, rfl⟩
    rw [← hP, ← hP'] at p1 p2 p3 p4 p5 p6
    rw [← hP] at key2
    cases ho : P.ok with
    | false =>
      rw [run_bad hd hP.symm ho, run_bad hd hP'.symm (by rw [p1]; exact ho), p2, p4, p5]
    | true =>
      have hl : Mm.ld P'.b P'.a 4 = Mm.ld P.b P.a 4 := by rw [p3]; exact ld_dep p6 (key2 ho)
      have hw : wordE P' e = wordE P e := by
        unfold wordE
        rw [hl, p3, p4, p5]
      have hg : goE P' e = goE P e := by
        unfold goE
        rw [hw]
      cases hm : may e.c.u (Mm.ld P.b P.a 4) with
      | false => rw [run_ill hd hP.symm ho rfl hm, run_ill hd hP'.symm (by rw [p1]; exact ho) hl hm, hw]
      | true =>
        rw [run_ok hd hP.symm ho rfl hm] at hc ⊢
        rw [run_ok hd hP'.symm (by rw [p1]; exact ho) hl hm, hg]
        rw [next_ac] at hc
        rw [inst_dep p6 hc]
end Cm
end Go.Proofs.YtidhodalnikhlaaGreatDoor
