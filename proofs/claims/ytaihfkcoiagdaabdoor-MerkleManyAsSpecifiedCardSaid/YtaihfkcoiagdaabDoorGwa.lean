/-
  PLAIN MATHEMATICS for several places: the reference's way against many and gather.
-/
import Derived.Test.YtaihfkcoiagdaabDoorGf
import Derived.Test.YtaihfkcoiagdaabDoorGi
import Derived.Test.YtaihfkcoiagdaabDoorGj
namespace Go.Proofs.YtaihfkcoiagdaabDoor.Mk

/-- The places from a on, before b. -/
def wi (ps : List Int) (a b : Int) : List Int := ps.filter (fun p => decide (a ≤ p) && decide (p < b))
theorem wi_len (ps : List Int) (a b : Int) : (wi ps a b).length ≤ ps.length := List.length_filter_le _ _
theorem wi_asc {ps : List Int} (h : ps.Pairwise (· < ·)) (a b : Int) : (wi ps a b).Pairwise (· < ·) := h.sublist List.filter_sublist
theorem wi_in (ps : List Int) (a b : Int) : ∀ p ∈ wi ps a b, a ≤ p ∧ p < b := fun p hp => by
  have h := (List.mem_filter.1 hp).2
  simp only [Bool.and_eq_true, decide_eq_true_eq] at h
  exact h
theorem wi_all {ps : List Int} {a b : Int} (h : ∀ p ∈ ps, a ≤ p ∧ p < b) : wi ps a b = ps := by
  unfold wi
  rw [List.filter_eq_self]
  intro p hp
  have := h p hp
  simp only [Bool.and_eq_true, decide_eq_true_eq]
  exact this
theorem wi_none {ps : List Int} {a b : Int} (h : ∀ p ∈ ps, p < a ∨ b ≤ p) : wi ps a b = [] := by
  unfold wi
  rw [List.filter_eq_nil_iff]
  intro p hp
  have := h p hp
  simp only [Bool.and_eq_true, decide_eq_true_eq]
  omega
theorem wi_app (x y : List Int) (a b : Int) : wi (x ++ y) a b = wi x a b ++ wi y a b := List.filter_append _ _
theorem wi_left {ps : List Int} (hp : ps.Pairwise (· < ·)) {a x : Int} (h : ∀ p ∈ ps, a ≤ p) : wi ps a x = ps.take (cnt ps x) := by
  have hc := cnt_parts ps x hp
  have e : wi ps a x = wi (ps.take (cnt ps x) ++ ps.drop (cnt ps x)) a x := by rw [List.take_append_drop]
  rw [e, wi_app, wi_all (fun p hq => ⟨h p (List.mem_of_mem_take hq), hc.1 p hq⟩), wi_none (fun p hq => .inr (hc.2 p hq)), List.append_nil]
theorem wi_right {ps : List Int} (hp : ps.Pairwise (· < ·)) {x b : Int} (h : ∀ p ∈ ps, p < b) : wi ps x b = ps.drop (cnt ps x) := by
  have hc := cnt_parts ps x hp
  have e : wi ps x b = wi (ps.take (cnt ps x) ++ ps.drop (cnt ps x)) x b := by rw [List.take_append_drop]
  rw [e, wi_app, wi_none (fun p hq => .inl (hc.1 p hq)), wi_all (fun p hq => ⟨hc.2 p hq, h p (List.mem_of_mem_drop hq)⟩), List.nil_append]
theorem wi_next {ps : List Int} {a b : Int} {k : Nat} (h : k < ps.length) : wi (ps.take (k + 1)) a b = wi (ps.take k) a b ++ (if a ≤ ps.getD k 0 ∧ ps.getD k 0 < b then [ps.getD k 0] else []) := by
  rw [List.take_add_one, wi_app, List.getD_eq_getElem?_getD, List.getElem?_eq_getElem h]
  congr 1
  simp only [Option.toList_some, Option.getD_some]
  unfold wi
  by_cases c : a ≤ ps[k] ∧ ps[k] < b
  · rw [if_pos c, List.filter_cons, if_pos (by simpa using c)]; rfl
  · rw [if_neg c, List.filter_cons, if_neg (by simpa using c)]; rfl

section
variable {D : Type} (node : D → D → D) (z : D)
/-- What a check leaves of a path is an end of it. -/
theorem gather_rest (N : Nat) : ∀ (b : Int) (n : Nat) (ps : List Int) (fs : List D) (t : Tr D), n ≤ N → (gather node z b n ps fs t).2.short = false →
    t.short = false ∧ ∃ u, u ≤ t.rest.length ∧ (gather node z b n ps fs t).2 = ⟨t.rest.drop u, false⟩ := by
  induction N with
  | zero =>
    intro b n ps fs t hN h
    by_cases h0 : ps = []
    · subst h0
      rw [gather_none] at h ⊢
      obtain ⟨r, s⟩ := t
      cases r with
      | nil => cases h
      | cons d r => exact ⟨h, 1, by simp, by simp only [nxt] at h ⊢; rw [h]; rfl⟩
    · rw [gather_one _ _ _ _ _ _ _ h0 (by omega)] at h ⊢
      obtain ⟨r, s⟩ := t
      exact ⟨h, 0, Nat.zero_le _, by simp only at h ⊢; rw [h]; rfl⟩
  | succ N ih =>
    intro b n ps fs t hN h
    by_cases h0 : ps = []
    · subst h0
      rw [gather_none] at h ⊢
      obtain ⟨r, s⟩ := t
      cases r with
      | nil => cases h
      | cons d r => exact ⟨h, 1, by simp, by simp only [nxt] at h ⊢; rw [h]; rfl⟩
    · by_cases h2 : 2 ≤ n
      · have a1 := sp_lt h2
        have a0 := sp_pos n
        rw [gather_two _ _ _ _ _ _ _ h0 h2] at h ⊢
        have i2 := ih _ _ _ _ _ (by omega) h
        have i1 := ih _ _ _ _ _ (by omega) i2.1
        obtain ⟨j1, u1, k1, e1⟩ := i1
        obtain ⟨j2, u2, k2, e2⟩ := i2
        refine ⟨j1, u1 + u2, ?_, ?_⟩
        · rw [e1] at k2
          simp only [List.length_drop] at k2
          omega
        · show (gather node z (b + sp n) (n - sp n) _ _ _).2 = _
          rw [e2, e1, List.drop_drop]
      · rw [gather_one _ _ _ _ _ _ _ h0 h2] at h ⊢
        obtain ⟨r, s⟩ := t
        exact ⟨h, 0, Nat.zero_le _, by simp only at h ⊢; rw [h]; rfl⟩
/-- The first part asks for more than there is: so does the whole. -/
theorem gather_short {b : Int} {n : Nat} {ps : List Int} {fs : List D} {t : Tr D} (h : t.short = true) : (gather node z b n ps fs t).2.short = true := by
  cases hq : (gather node z b n ps fs t).2.short with
  | true => rfl
  | false => have := (gather_rest node z n b n ps fs t (Nat.le_refl _) hq).1; rw [h] at this; cases this
end
end Go.Proofs.YtaihfkcoiagdaabDoor.Mk

/-
  WALKS: the reference's Ascend and within.
-/
namespace Go.Proofs.YtaihfkcoiagdaabDoor
open Go.RowKit Go.ChangeShapes Go.WideShapes Go.ChangeAt

theorem int_cells {A : Option Addr} {k : Nat} {ps : List Int} {w : World} (hs : Sl w 1 A k (N64 ps)) : ∀ j, j < k → ∃ ad, A = some ad ∧ w.cell? (ad.add j) = some (.int .i64 (ps.getD j 0)) := fun j hj => by
  have hl := hs.ilen
  obtain ⟨b, off, e, _, hc⟩ := hs.icells (by omega)
  refine ⟨_, e, ?_⟩
  have h1 := hc j (by omega)
  have e2 : (⟨b, off, none⟩ : Addr).add j = ⟨b, off + j, none⟩ := by
    unfold Addr.add; split
    · rename_i h; subst h; rfl
    · rfl
  rw [e2]; exact h1

set_option maxRecDepth 100000 in
set_option maxHeartbeats 1000000 in
theorem refAscend_any (A : Option Addr) (k c : Nat) (ps : List Int) (n : Int) (w : World) (hs : Sl w 1 A k (N64 ps)) (hk : k ≤ 9223372036854775807) :
    Calls Tryd.prog 45 #[.slice A k c, .int .i64 n] w fun e w' => e = .returned (.bool (arePl (-1) ps n)) ∧ Later w w' := by
  have hl := hs.ilen
  obtain ⟨FL, hFL⟩ : ∃ FL, FL = arePl (-1) ps n := ⟨_, rfl⟩
  rw [← hFL]
  have HS := Lib.hid fun (w' : World) (h : Later w w') => int_cells (hs.keep h)
  have HFL := Lib.hid hFL
  have HL := Lib.hid hl
  have HS2 := Lib.hid fun (j : Nat) (_ : j < k) => Lib.hid fun (p : Int) (hp : p = ps.getD j 0) (h0 : -1 ≤ p) (h : FL = arePl p (ps.drop (j + 1)) n) => (Lib.hid ⟨p, h0, fun h => by omega, fun _ => by rw [hp, Nat.add_sub_cancel], h.symm⟩ : Hid (∃ x, -1 ≤ x ∧ (j + 1 = 0 → x = -1) ∧ (1 ≤ j + 1 → x = ps.getD (j + 1 - 1) 0) ∧ arePl x (ps.drop (j + 1)) n = FL))
  clear hs hl hFL
  go_enter Tryd.func45, Tryd.ntmps45
  go_wp2
  go_loopw [5] (fun i wr => ∃ (j : Nat), j ≤ k ∧ i = .int .i64 j ∧ Hid (∃ x, -1 ≤ x ∧ (j = 0 → x = -1) ∧ (1 ≤ j → x = ps.getD (j - 1) 0) ∧ arePl x (ps.drop j) n = FL) ∧ Later w wr) (fun i _ => k - (intOf i).toNat)
  case atStart => exact ⟨0, by omega, by go_num, Lib.hid ⟨-1, by omega, fun _ => rfl, fun h => by omega, by rw [List.drop_zero]; exact HFL.out.symm⟩, Below.refl _ _⟩
  case round =>
    obtain ⟨j, hj, rfl, hx, lr⟩ := hrel
    by_cases hlt : j < k
    · obtain ⟨ad, rfl, hc⟩ := HS.out _ lr j hlt
      obtain ⟨x, hx1, hx2, hx3, hx4⟩ := hx.out
      have hn := arePl_next (ps := ps) (x := x) (n := n) (k := j) (by rw [HL.out]; exact hlt)
      rw [hx4] at hn
      have hc2 : 1 ≤ j → wr.cell? (ad.add (j - 1)) = some (.int .i64 x) := fun h => by
        obtain ⟨ad', e, h2⟩ := HS.out _ lr (j - 1) (by omega)
        cases e
        rw [hx3 h]; exact h2
      obtain ⟨p, hp⟩ : ∃ p, p = ps.getD j 0 := ⟨_, rfl⟩
      have HPP := Lib.hid hp
      rw [← hp] at hn hc
      have k0 : (0 : Int) ≤ (j : Int) := by omega
      have kn : (j : Int) < (k : Int) := by omega
      have HX1 := Lib.hid hx1; have HX2 := Lib.hid hx2
      clear hp hx hx3 hx4 HS
      by_cases h1 : p < 0
      · rw [if_pos (.inl (by omega))] at hn
        have HN := Lib.hid hn
        clear hn hc2
        go_wp2
        refine wp_region_held_drew (S := fun w' => w'.cell? (ad.add j) = some (.int .i64 p)) (by kernel_rfl) hc (fun hHeld => ?_)
        refine wpAnyH_take (i := 0) (oi := ⟨some 12, .move (.tmp 0), _, _, _, none⟩) (v := .slice (some ad) k c) rfl (by kernel_rfl) (by kernel_rfl) (by kernel_rfl) (fun _ _ _ h => h) (Or.inl ⟨by rfl, fun _ _ => rfl⟩) hHeld ?_
        simp only [Act.put, List.setIfInBounds_toArray, List.set_cons_zero, List.set_cons_succ]
        refine wpAnyH_take (i := 1) (oi := ⟨some 13, .move (.tmp 5), _, _, _, none⟩) (v := .int .i64 j) rfl (by kernel_rfl) (by kernel_rfl) (by kernel_rfl) (fun _ _ _ h => h) (Or.inl ⟨by rfl, fun _ _ => rfl⟩) hHeld ?_
        simp only [Act.put, List.setIfInBounds_toArray, List.set_cons_zero, List.set_cons_succ]
        refine wpAnyH_take (i := 2) (oi := ⟨some 14, .indexAddr 37 (.tmp 12) (.tmp 13), _, _, _, none⟩) (v := .pointer (some (ad.add j))) rfl (by kernel_rfl) (by kernel_rfl) (by kernel_rfl) (fun _ _ _ h => h) (Or.inl ⟨by rfl, fun w _ => by go_simp <;> (first | omega | (intro h9; omega))⟩) hHeld ?_
        simp only [Act.put, List.setIfInBounds_toArray, List.set_cons_zero, List.set_cons_succ]
        refine wpAnyH_take (i := 3) (oi := ⟨some 15, .load 3 (.tmp 14), _, _, _, none⟩) (v := .int .i64 p) rfl (by kernel_rfl) (by kernel_rfl) (by kernel_rfl) (fun _ _ _ h => h) (Or.inl ⟨by rfl, fun w hSw => by have e1 := hSw; clear hSw; go_simp⟩) hHeld ?_
        simp only [Act.put, List.setIfInBounds_toArray, List.set_cons_zero, List.set_cons_succ]
        refine wpAnyH_take (i := 4) (oi := ⟨some 16, .binOp .lss 3 (.tmp 15) (.const (.int .i64 0)) 3, _, _, _, none⟩) (v := .bool true) rfl (by kernel_rfl) (by kernel_rfl) (by kernel_rfl) (fun _ _ _ h => h) (Or.inl ⟨by rfl, fun w _ => by go_simp <;> (first | omega | (intro h9; omega))⟩) hHeld ?_
        simp only [Act.put, List.setIfInBounds_toArray, List.set_cons_zero, List.set_cons_succ]
        refine wpAnyH_take (i := 5) (oi := ⟨some 17, .move (.tmp 16), _, _, _, none⟩) (v := .bool true) rfl (by kernel_rfl) (by kernel_rfl) (by kernel_rfl) (fun _ _ _ h => h) (Or.inl ⟨by rfl, fun _ _ => rfl⟩) hHeld ?_
        simp only [Act.put, List.setIfInBounds_toArray, List.set_cons_zero, List.set_cons_succ]
        refine wpAnyH_take (i := 6) (oi := ⟨some 18, .move (.tmp 0), _, _, _, _⟩) (v := undef) rfl (by kernel_rfl) (by kernel_rfl) (by kernel_rfl) (fun _ _ _ h => h) (Or.inr ⟨by rfl, rfl⟩) hHeld ?_
        simp only [Act.put, List.setIfInBounds_toArray, List.set_cons_zero, List.set_cons_succ]
        refine wpAnyH_take (i := 7) (oi := ⟨some 19, .move (.tmp 5), _, _, _, _⟩) (v := undef) rfl (by kernel_rfl) (by kernel_rfl) (by kernel_rfl) (fun _ _ _ h => h) (Or.inr ⟨by rfl, rfl⟩) hHeld ?_
        simp only [Act.put, List.setIfInBounds_toArray, List.set_cons_zero, List.set_cons_succ]
        refine wpAnyH_take (i := 8) (oi := ⟨some 20, .indexAddr 37 (.tmp 18) (.tmp 19), _, _, _, _⟩) (v := undef) rfl (by kernel_rfl) (by kernel_rfl) (by kernel_rfl) (fun _ _ _ h => h) (Or.inr ⟨by rfl, rfl⟩) hHeld ?_
        simp only [Act.put, List.setIfInBounds_toArray, List.set_cons_zero, List.set_cons_succ]
        refine wpAnyH_take (i := 9) (oi := ⟨some 21, .load 3 (.tmp 20), _, _, _, _⟩) (v := undef) rfl (by kernel_rfl) (by kernel_rfl) (by kernel_rfl) (fun _ _ _ h => h) (Or.inr ⟨by rfl, rfl⟩) hHeld ?_
        simp only [Act.put, List.setIfInBounds_toArray, List.set_cons_zero, List.set_cons_succ]
        refine wpAnyH_take (i := 10) (oi := ⟨some 22, .move (.tmp 1), _, _, _, _⟩) (v := undef) rfl (by kernel_rfl) (by kernel_rfl) (by kernel_rfl) (fun _ _ _ h => h) (Or.inr ⟨by rfl, rfl⟩) hHeld ?_
        simp only [Act.put, List.setIfInBounds_toArray, List.set_cons_zero, List.set_cons_succ]
        refine wpAnyH_take (i := 11) (oi := ⟨some 23, .binOp .geq 3 (.tmp 21) (.tmp 22) 3, _, _, _, _⟩) (v := undef) rfl (by kernel_rfl) (by kernel_rfl) (by kernel_rfl) (fun _ _ _ h => h) (Or.inr ⟨by rfl, rfl⟩) hHeld ?_
        simp only [Act.put, List.setIfInBounds_toArray, List.set_cons_zero, List.set_cons_succ]
        refine wpAnyH_take (i := 12) (oi := ⟨some 24, .pick (.tmp 17) (.const (.bool true)) (.tmp 23), _, _, _, none⟩) (v := .bool true) rfl (by kernel_rfl) (by kernel_rfl) (by kernel_rfl) (fun _ _ _ h => h) (Or.inl ⟨by rfl, fun w _ => by go_simp <;> (first | omega | (intro h9; omega))⟩) hHeld ?_
        simp only [Act.put, List.setIfInBounds_toArray, List.set_cons_zero, List.set_cons_succ]
        refine wpAnyH_take (i := 13) (oi := ⟨some 25, .move (.tmp 24), _, _, _, none⟩) (v := .bool true) rfl (by kernel_rfl) (by kernel_rfl) (by kernel_rfl) (fun _ _ _ h => h) (Or.inl ⟨by rfl, fun _ _ => rfl⟩) hHeld ?_
        simp only [Act.put, List.setIfInBounds_toArray, List.set_cons_zero, List.set_cons_succ]
        refine wpAnyH_take (i := 14) (oi := ⟨some 26, .move (.tmp 5), _, _, _, _⟩) (v := undef) rfl (by kernel_rfl) (by kernel_rfl) (by kernel_rfl) (fun _ _ _ h => h) (Or.inr ⟨by rfl, rfl⟩) hHeld ?_
        simp only [Act.put, List.setIfInBounds_toArray, List.set_cons_zero, List.set_cons_succ]
        refine wpAnyH_take (i := 15) (oi := ⟨some 27, .binOp .gtr 3 (.tmp 26) (.const (.int .i64 0)) 3, _, _, _, _⟩) (v := undef) rfl (by kernel_rfl) (by kernel_rfl) (by kernel_rfl) (fun _ _ _ h => h) (Or.inr ⟨by rfl, rfl⟩) hHeld ?_
        simp only [Act.put, List.setIfInBounds_toArray, List.set_cons_zero, List.set_cons_succ]
        refine wpAnyH_take (i := 16) (oi := ⟨some 28, .move (.tmp 27), _, _, _, _⟩) (v := undef) rfl (by kernel_rfl) (by kernel_rfl) (by kernel_rfl) (fun _ _ _ h => h) (Or.inr ⟨by rfl, rfl⟩) hHeld ?_
        simp only [Act.put, List.setIfInBounds_toArray, List.set_cons_zero, List.set_cons_succ]
        refine wpAnyH_take (i := 17) (oi := ⟨some 29, .move (.tmp 0), _, _, _, _⟩) (v := undef) rfl (by kernel_rfl) (by kernel_rfl) (by kernel_rfl) (fun _ _ _ h => h) (Or.inr ⟨by rfl, rfl⟩) hHeld ?_
        simp only [Act.put, List.setIfInBounds_toArray, List.set_cons_zero, List.set_cons_succ]
        refine wpAnyH_take (i := 18) (oi := ⟨some 30, .move (.tmp 5), _, _, _, _⟩) (v := undef) rfl (by kernel_rfl) (by kernel_rfl) (by kernel_rfl) (fun _ _ _ h => h) (Or.inr ⟨by rfl, rfl⟩) hHeld ?_
        simp only [Act.put, List.setIfInBounds_toArray, List.set_cons_zero, List.set_cons_succ]
        refine wpAnyH_take (i := 19) (oi := ⟨some 31, .indexAddr 37 (.tmp 29) (.tmp 30), _, _, _, _⟩) (v := undef) rfl (by kernel_rfl) (by kernel_rfl) (by kernel_rfl) (fun _ _ _ h => h) (Or.inr ⟨by rfl, rfl⟩) hHeld ?_
        simp only [Act.put, List.setIfInBounds_toArray, List.set_cons_zero, List.set_cons_succ]
        refine wpAnyH_take (i := 20) (oi := ⟨some 32, .load 3 (.tmp 31), _, _, _, _⟩) (v := undef) rfl (by kernel_rfl) (by kernel_rfl) (by kernel_rfl) (fun _ _ _ h => h) (Or.inr ⟨by rfl, rfl⟩) hHeld ?_
        simp only [Act.put, List.setIfInBounds_toArray, List.set_cons_zero, List.set_cons_succ]
        refine wpAnyH_take (i := 21) (oi := ⟨some 33, .move (.tmp 0), _, _, _, _⟩) (v := undef) rfl (by kernel_rfl) (by kernel_rfl) (by kernel_rfl) (fun _ _ _ h => h) (Or.inr ⟨by rfl, rfl⟩) hHeld ?_
        simp only [Act.put, List.setIfInBounds_toArray, List.set_cons_zero, List.set_cons_succ]
        refine wpAnyH_take (i := 22) (oi := ⟨some 34, .move (.tmp 5), _, _, _, _⟩) (v := undef) rfl (by kernel_rfl) (by kernel_rfl) (by kernel_rfl) (fun _ _ _ h => h) (Or.inr ⟨by rfl, rfl⟩) hHeld ?_
        simp only [Act.put, List.setIfInBounds_toArray, List.set_cons_zero, List.set_cons_succ]
        refine wpAnyH_take (i := 23) (oi := ⟨some 35, .binOp .sub 3 (.tmp 34) (.const (.int .i64 1)) 3, _, _, _, _⟩) (v := undef) rfl (by kernel_rfl) (by kernel_rfl) (by kernel_rfl) (fun _ _ _ h => h) (Or.inr ⟨by rfl, rfl⟩) hHeld ?_
        simp only [Act.put, List.setIfInBounds_toArray, List.set_cons_zero, List.set_cons_succ]
        refine wpAnyH_take (i := 24) (oi := ⟨some 36, .indexAddr 37 (.tmp 33) (.tmp 35), _, _, _, _⟩) (v := undef) rfl (by kernel_rfl) (by kernel_rfl) (by kernel_rfl) (fun _ _ _ h => h) (Or.inr ⟨by rfl, rfl⟩) hHeld ?_
        simp only [Act.put, List.setIfInBounds_toArray, List.set_cons_zero, List.set_cons_succ]
        refine wpAnyH_take (i := 25) (oi := ⟨some 37, .load 3 (.tmp 36), _, _, _, _⟩) (v := undef) rfl (by kernel_rfl) (by kernel_rfl) (by kernel_rfl) (fun _ _ _ h => h) (Or.inr ⟨by rfl, rfl⟩) hHeld ?_
        simp only [Act.put, List.setIfInBounds_toArray, List.set_cons_zero, List.set_cons_succ]
        refine wpAnyH_take (i := 26) (oi := ⟨some 38, .binOp .leq 3 (.tmp 32) (.tmp 37) 3, _, _, _, _⟩) (v := undef) rfl (by kernel_rfl) (by kernel_rfl) (by kernel_rfl) (fun _ _ _ h => h) (Or.inr ⟨by rfl, rfl⟩) hHeld ?_
        simp only [Act.put, List.setIfInBounds_toArray, List.set_cons_zero, List.set_cons_succ]
        refine wpAnyH_take (i := 27) (oi := ⟨some 39, .pick (.tmp 28) (.tmp 38) (.const (.bool false)), _, _, _, _⟩) (v := undef) rfl (by kernel_rfl) (by kernel_rfl) (by kernel_rfl) (fun _ _ _ h => h) (Or.inr ⟨by rfl, rfl⟩) hHeld ?_
        simp only [Act.put, List.setIfInBounds_toArray, List.set_cons_zero, List.set_cons_succ]
        refine wpAnyH_take (i := 28) (oi := ⟨some 40, .pick (.tmp 25) (.const (.bool true)) (.tmp 39), _, _, _, none⟩) (v := .bool true) rfl (by kernel_rfl) (by kernel_rfl) (by kernel_rfl) (fun _ _ _ h => h) (Or.inl ⟨by rfl, fun w _ => by go_simp <;> (first | omega | (intro h9; omega))⟩) hHeld ?_
        simp only [Act.put, List.setIfInBounds_toArray, List.set_cons_zero, List.set_cons_succ]
        refine wpAnyH_done (by kernel_rfl) ?_ _
        clear hHeld
        go_wp2
        go_ret
        exact ⟨by rw [HN.out]; rfl, lr.drew⟩
      · have h1' : 0 ≤ p := by omega
        by_cases h2 : n ≤ p
        · rw [if_pos (.inr h2)] at hn
          have HN := Lib.hid hn
          clear hn hc2
          go_wp2
          refine wp_region_held_drew (S := fun w' => w'.cell? (ad.add j) = some (.int .i64 p)) (by kernel_rfl) hc (fun hHeld => ?_)
          refine wpAnyH_take (i := 0) (oi := ⟨some 12, .move (.tmp 0), _, _, _, none⟩) (v := .slice (some ad) k c) rfl (by kernel_rfl) (by kernel_rfl) (by kernel_rfl) (fun _ _ _ h => h) (Or.inl ⟨by rfl, fun _ _ => rfl⟩) hHeld ?_
          simp only [Act.put, List.setIfInBounds_toArray, List.set_cons_zero, List.set_cons_succ]
          refine wpAnyH_take (i := 1) (oi := ⟨some 13, .move (.tmp 5), _, _, _, none⟩) (v := .int .i64 j) rfl (by kernel_rfl) (by kernel_rfl) (by kernel_rfl) (fun _ _ _ h => h) (Or.inl ⟨by rfl, fun _ _ => rfl⟩) hHeld ?_
          simp only [Act.put, List.setIfInBounds_toArray, List.set_cons_zero, List.set_cons_succ]
          refine wpAnyH_take (i := 2) (oi := ⟨some 14, .indexAddr 37 (.tmp 12) (.tmp 13), _, _, _, none⟩) (v := .pointer (some (ad.add j))) rfl (by kernel_rfl) (by kernel_rfl) (by kernel_rfl) (fun _ _ _ h => h) (Or.inl ⟨by rfl, fun w _ => by go_simp <;> (first | omega | (intro h9; omega))⟩) hHeld ?_
          simp only [Act.put, List.setIfInBounds_toArray, List.set_cons_zero, List.set_cons_succ]
          refine wpAnyH_take (i := 3) (oi := ⟨some 15, .load 3 (.tmp 14), _, _, _, none⟩) (v := .int .i64 p) rfl (by kernel_rfl) (by kernel_rfl) (by kernel_rfl) (fun _ _ _ h => h) (Or.inl ⟨by rfl, fun w hSw => by have e1 := hSw; clear hSw; go_simp⟩) hHeld ?_
          simp only [Act.put, List.setIfInBounds_toArray, List.set_cons_zero, List.set_cons_succ]
          refine wpAnyH_take (i := 4) (oi := ⟨some 16, .binOp .lss 3 (.tmp 15) (.const (.int .i64 0)) 3, _, _, _, none⟩) (v := .bool false) rfl (by kernel_rfl) (by kernel_rfl) (by kernel_rfl) (fun _ _ _ h => h) (Or.inl ⟨by rfl, fun w _ => by go_simp <;> (first | omega | (intro h9; omega))⟩) hHeld ?_
          simp only [Act.put, List.setIfInBounds_toArray, List.set_cons_zero, List.set_cons_succ]
          refine wpAnyH_take (i := 5) (oi := ⟨some 17, .move (.tmp 16), _, _, _, none⟩) (v := .bool false) rfl (by kernel_rfl) (by kernel_rfl) (by kernel_rfl) (fun _ _ _ h => h) (Or.inl ⟨by rfl, fun _ _ => rfl⟩) hHeld ?_
          simp only [Act.put, List.setIfInBounds_toArray, List.set_cons_zero, List.set_cons_succ]
          refine wpAnyH_take (i := 6) (oi := ⟨some 18, .move (.tmp 0), _, _, _, _⟩) (v := .slice (some ad) k c) rfl (by kernel_rfl) (by kernel_rfl) (by kernel_rfl) (fun _ _ _ h => h) (Or.inl ⟨by rfl, fun _ _ => rfl⟩) hHeld ?_
          simp only [Act.put, List.setIfInBounds_toArray, List.set_cons_zero, List.set_cons_succ]
          refine wpAnyH_take (i := 7) (oi := ⟨some 19, .move (.tmp 5), _, _, _, _⟩) (v := .int .i64 j) rfl (by kernel_rfl) (by kernel_rfl) (by kernel_rfl) (fun _ _ _ h => h) (Or.inl ⟨by rfl, fun _ _ => rfl⟩) hHeld ?_
          simp only [Act.put, List.setIfInBounds_toArray, List.set_cons_zero, List.set_cons_succ]
          refine wpAnyH_take (i := 8) (oi := ⟨some 20, .indexAddr 37 (.tmp 18) (.tmp 19), _, _, _, _⟩) (v := .pointer (some (ad.add j))) rfl (by kernel_rfl) (by kernel_rfl) (by kernel_rfl) (fun _ _ _ h => h) (Or.inl ⟨by rfl, fun w _ => by go_simp <;> (first | omega | (intro h9; omega))⟩) hHeld ?_
          simp only [Act.put, List.setIfInBounds_toArray, List.set_cons_zero, List.set_cons_succ]
          refine wpAnyH_take (i := 9) (oi := ⟨some 21, .load 3 (.tmp 20), _, _, _, _⟩) (v := .int .i64 p) rfl (by kernel_rfl) (by kernel_rfl) (by kernel_rfl) (fun _ _ _ h => h) (Or.inl ⟨by rfl, fun w hSw => by have e1 := hSw; clear hSw; go_simp⟩) hHeld ?_
          simp only [Act.put, List.setIfInBounds_toArray, List.set_cons_zero, List.set_cons_succ]
          refine wpAnyH_take (i := 10) (oi := ⟨some 22, .move (.tmp 1), _, _, _, _⟩) (v := .int .i64 n) rfl (by kernel_rfl) (by kernel_rfl) (by kernel_rfl) (fun _ _ _ h => h) (Or.inl ⟨by rfl, fun _ _ => rfl⟩) hHeld ?_
          simp only [Act.put, List.setIfInBounds_toArray, List.set_cons_zero, List.set_cons_succ]
          refine wpAnyH_take (i := 11) (oi := ⟨some 23, .binOp .geq 3 (.tmp 21) (.tmp 22) 3, _, _, _, _⟩) (v := .bool true) rfl (by kernel_rfl) (by kernel_rfl) (by kernel_rfl) (fun _ _ _ h => h) (Or.inl ⟨by rfl, fun w _ => by go_simp <;> (first | omega | (intro h9; omega))⟩) hHeld ?_
          simp only [Act.put, List.setIfInBounds_toArray, List.set_cons_zero, List.set_cons_succ]
          refine wpAnyH_take (i := 12) (oi := ⟨some 24, .pick (.tmp 17) (.const (.bool true)) (.tmp 23), _, _, _, none⟩) (v := .bool true) rfl (by kernel_rfl) (by kernel_rfl) (by kernel_rfl) (fun _ _ _ h => h) (Or.inl ⟨by rfl, fun w _ => by go_simp <;> (first | omega | (intro h9; omega))⟩) hHeld ?_
          simp only [Act.put, List.setIfInBounds_toArray, List.set_cons_zero, List.set_cons_succ]
          refine wpAnyH_take (i := 13) (oi := ⟨some 25, .move (.tmp 24), _, _, _, none⟩) (v := .bool true) rfl (by kernel_rfl) (by kernel_rfl) (by kernel_rfl) (fun _ _ _ h => h) (Or.inl ⟨by rfl, fun _ _ => rfl⟩) hHeld ?_
          simp only [Act.put, List.setIfInBounds_toArray, List.set_cons_zero, List.set_cons_succ]
          refine wpAnyH_take (i := 14) (oi := ⟨some 26, .move (.tmp 5), _, _, _, _⟩) (v := undef) rfl (by kernel_rfl) (by kernel_rfl) (by kernel_rfl) (fun _ _ _ h => h) (Or.inr ⟨by rfl, rfl⟩) hHeld ?_
          simp only [Act.put, List.setIfInBounds_toArray, List.set_cons_zero, List.set_cons_succ]
          refine wpAnyH_take (i := 15) (oi := ⟨some 27, .binOp .gtr 3 (.tmp 26) (.const (.int .i64 0)) 3, _, _, _, _⟩) (v := undef) rfl (by kernel_rfl) (by kernel_rfl) (by kernel_rfl) (fun _ _ _ h => h) (Or.inr ⟨by rfl, rfl⟩) hHeld ?_
          simp only [Act.put, List.setIfInBounds_toArray, List.set_cons_zero, List.set_cons_succ]
          refine wpAnyH_take (i := 16) (oi := ⟨some 28, .move (.tmp 27), _, _, _, _⟩) (v := undef) rfl (by kernel_rfl) (by kernel_rfl) (by kernel_rfl) (fun _ _ _ h => h) (Or.inr ⟨by rfl, rfl⟩) hHeld ?_
          simp only [Act.put, List.setIfInBounds_toArray, List.set_cons_zero, List.set_cons_succ]
          refine wpAnyH_take (i := 17) (oi := ⟨some 29, .move (.tmp 0), _, _, _, _⟩) (v := undef) rfl (by kernel_rfl) (by kernel_rfl) (by kernel_rfl) (fun _ _ _ h => h) (Or.inr ⟨by rfl, rfl⟩) hHeld ?_
          simp only [Act.put, List.setIfInBounds_toArray, List.set_cons_zero, List.set_cons_succ]
          refine wpAnyH_take (i := 18) (oi := ⟨some 30, .move (.tmp 5), _, _, _, _⟩) (v := undef) rfl (by kernel_rfl) (by kernel_rfl) (by kernel_rfl) (fun _ _ _ h => h) (Or.inr ⟨by rfl, rfl⟩) hHeld ?_
          simp only [Act.put, List.setIfInBounds_toArray, List.set_cons_zero, List.set_cons_succ]
          refine wpAnyH_take (i := 19) (oi := ⟨some 31, .indexAddr 37 (.tmp 29) (.tmp 30), _, _, _, _⟩) (v := undef) rfl (by kernel_rfl) (by kernel_rfl) (by kernel_rfl) (fun _ _ _ h => h) (Or.inr ⟨by rfl, rfl⟩) hHeld ?_
          simp only [Act.put, List.setIfInBounds_toArray, List.set_cons_zero, List.set_cons_succ]
          refine wpAnyH_take (i := 20) (oi := ⟨some 32, .load 3 (.tmp 31), _, _, _, _⟩) (v := undef) rfl (by kernel_rfl) (by kernel_rfl) (by kernel_rfl) (fun _ _ _ h => h) (Or.inr ⟨by rfl, rfl⟩) hHeld ?_
          simp only [Act.put, List.setIfInBounds_toArray, List.set_cons_zero, List.set_cons_succ]
          refine wpAnyH_take (i := 21) (oi := ⟨some 33, .move (.tmp 0), _, _, _, _⟩) (v := undef) rfl (by kernel_rfl) (by kernel_rfl) (by kernel_rfl) (fun _ _ _ h => h) (Or.inr ⟨by rfl, rfl⟩) hHeld ?_
          simp only [Act.put, List.setIfInBounds_toArray, List.set_cons_zero, List.set_cons_succ]
          refine wpAnyH_take (i := 22) (oi := ⟨some 34, .move (.tmp 5), _, _, _, _⟩) (v := undef) rfl (by kernel_rfl) (by kernel_rfl) (by kernel_rfl) (fun _ _ _ h => h) (Or.inr ⟨by rfl, rfl⟩) hHeld ?_
          simp only [Act.put, List.setIfInBounds_toArray, List.set_cons_zero, List.set_cons_succ]
          refine wpAnyH_take (i := 23) (oi := ⟨some 35, .binOp .sub 3 (.tmp 34) (.const (.int .i64 1)) 3, _, _, _, _⟩) (v := undef) rfl (by kernel_rfl) (by kernel_rfl) (by kernel_rfl) (fun _ _ _ h => h) (Or.inr ⟨by rfl, rfl⟩) hHeld ?_
          simp only [Act.put, List.setIfInBounds_toArray, List.set_cons_zero, List.set_cons_succ]
          refine wpAnyH_take (i := 24) (oi := ⟨some 36, .indexAddr 37 (.tmp 33) (.tmp 35), _, _, _, _⟩) (v := undef) rfl (by kernel_rfl) (by kernel_rfl) (by kernel_rfl) (fun _ _ _ h => h) (Or.inr ⟨by rfl, rfl⟩) hHeld ?_
          simp only [Act.put, List.setIfInBounds_toArray, List.set_cons_zero, List.set_cons_succ]
          refine wpAnyH_take (i := 25) (oi := ⟨some 37, .load 3 (.tmp 36), _, _, _, _⟩) (v := undef) rfl (by kernel_rfl) (by kernel_rfl) (by kernel_rfl) (fun _ _ _ h => h) (Or.inr ⟨by rfl, rfl⟩) hHeld ?_
          simp only [Act.put, List.setIfInBounds_toArray, List.set_cons_zero, List.set_cons_succ]
          refine wpAnyH_take (i := 26) (oi := ⟨some 38, .binOp .leq 3 (.tmp 32) (.tmp 37) 3, _, _, _, _⟩) (v := undef) rfl (by kernel_rfl) (by kernel_rfl) (by kernel_rfl) (fun _ _ _ h => h) (Or.inr ⟨by rfl, rfl⟩) hHeld ?_
          simp only [Act.put, List.setIfInBounds_toArray, List.set_cons_zero, List.set_cons_succ]
          refine wpAnyH_take (i := 27) (oi := ⟨some 39, .pick (.tmp 28) (.tmp 38) (.const (.bool false)), _, _, _, _⟩) (v := undef) rfl (by kernel_rfl) (by kernel_rfl) (by kernel_rfl) (fun _ _ _ h => h) (Or.inr ⟨by rfl, rfl⟩) hHeld ?_
          simp only [Act.put, List.setIfInBounds_toArray, List.set_cons_zero, List.set_cons_succ]
          refine wpAnyH_take (i := 28) (oi := ⟨some 40, .pick (.tmp 25) (.const (.bool true)) (.tmp 39), _, _, _, none⟩) (v := .bool true) rfl (by kernel_rfl) (by kernel_rfl) (by kernel_rfl) (fun _ _ _ h => h) (Or.inl ⟨by rfl, fun w _ => by go_simp <;> (first | omega | (intro h9; omega))⟩) hHeld ?_
          simp only [Act.put, List.setIfInBounds_toArray, List.set_cons_zero, List.set_cons_succ]
          refine wpAnyH_done (by kernel_rfl) ?_ _
          clear hHeld
          go_wp2
          go_ret
          exact ⟨by rw [HN.out]; rfl, lr.drew⟩
        · have h2' : p < n := by omega
          have HP2 := HS2.out j hlt
          by_cases hj0 : j = 0
          · have hx9 := hx2 hj0
            rw [if_neg (by omega)] at hn
            have HN := Lib.hid hn
            have hjz : ¬ (0 : Int) < (j : Int) := by omega
            have hjz2 : (j : Int) ≤ 0 := by omega
            have HJ0 := Lib.hid hj0
            clear hn hc2 hx1 hx2 hx9 hj0
            go_wp2
            refine wp_region_held_drew (S := fun w' => w'.cell? (ad.add j) = some (.int .i64 p)) (by kernel_rfl) hc (fun hHeld => ?_)
            refine wpAnyH_take (i := 0) (oi := ⟨some 12, .move (.tmp 0), _, _, _, none⟩) (v := .slice (some ad) k c) rfl (by kernel_rfl) (by kernel_rfl) (by kernel_rfl) (fun _ _ _ h => h) (Or.inl ⟨by rfl, fun _ _ => rfl⟩) hHeld ?_
            simp only [Act.put, List.setIfInBounds_toArray, List.set_cons_zero, List.set_cons_succ]
            refine wpAnyH_take (i := 1) (oi := ⟨some 13, .move (.tmp 5), _, _, _, none⟩) (v := .int .i64 j) rfl (by kernel_rfl) (by kernel_rfl) (by kernel_rfl) (fun _ _ _ h => h) (Or.inl ⟨by rfl, fun _ _ => rfl⟩) hHeld ?_
            simp only [Act.put, List.setIfInBounds_toArray, List.set_cons_zero, List.set_cons_succ]
            refine wpAnyH_take (i := 2) (oi := ⟨some 14, .indexAddr 37 (.tmp 12) (.tmp 13), _, _, _, none⟩) (v := .pointer (some (ad.add j))) rfl (by kernel_rfl) (by kernel_rfl) (by kernel_rfl) (fun _ _ _ h => h) (Or.inl ⟨by rfl, fun w _ => by go_simp <;> (first | omega | (intro h9; omega))⟩) hHeld ?_
            simp only [Act.put, List.setIfInBounds_toArray, List.set_cons_zero, List.set_cons_succ]
            refine wpAnyH_take (i := 3) (oi := ⟨some 15, .load 3 (.tmp 14), _, _, _, none⟩) (v := .int .i64 p) rfl (by kernel_rfl) (by kernel_rfl) (by kernel_rfl) (fun _ _ _ h => h) (Or.inl ⟨by rfl, fun w hSw => by have e1 := hSw; clear hSw; go_simp⟩) hHeld ?_
            simp only [Act.put, List.setIfInBounds_toArray, List.set_cons_zero, List.set_cons_succ]
            refine wpAnyH_take (i := 4) (oi := ⟨some 16, .binOp .lss 3 (.tmp 15) (.const (.int .i64 0)) 3, _, _, _, none⟩) (v := .bool false) rfl (by kernel_rfl) (by kernel_rfl) (by kernel_rfl) (fun _ _ _ h => h) (Or.inl ⟨by rfl, fun w _ => by go_simp <;> (first | omega | (intro h9; omega))⟩) hHeld ?_
            simp only [Act.put, List.setIfInBounds_toArray, List.set_cons_zero, List.set_cons_succ]
            refine wpAnyH_take (i := 5) (oi := ⟨some 17, .move (.tmp 16), _, _, _, none⟩) (v := .bool false) rfl (by kernel_rfl) (by kernel_rfl) (by kernel_rfl) (fun _ _ _ h => h) (Or.inl ⟨by rfl, fun _ _ => rfl⟩) hHeld ?_
            simp only [Act.put, List.setIfInBounds_toArray, List.set_cons_zero, List.set_cons_succ]
            refine wpAnyH_take (i := 6) (oi := ⟨some 18, .move (.tmp 0), _, _, _, _⟩) (v := .slice (some ad) k c) rfl (by kernel_rfl) (by kernel_rfl) (by kernel_rfl) (fun _ _ _ h => h) (Or.inl ⟨by rfl, fun _ _ => rfl⟩) hHeld ?_
            simp only [Act.put, List.setIfInBounds_toArray, List.set_cons_zero, List.set_cons_succ]
            refine wpAnyH_take (i := 7) (oi := ⟨some 19, .move (.tmp 5), _, _, _, _⟩) (v := .int .i64 j) rfl (by kernel_rfl) (by kernel_rfl) (by kernel_rfl) (fun _ _ _ h => h) (Or.inl ⟨by rfl, fun _ _ => rfl⟩) hHeld ?_
            simp only [Act.put, List.setIfInBounds_toArray, List.set_cons_zero, List.set_cons_succ]
            refine wpAnyH_take (i := 8) (oi := ⟨some 20, .indexAddr 37 (.tmp 18) (.tmp 19), _, _, _, _⟩) (v := .pointer (some (ad.add j))) rfl (by kernel_rfl) (by kernel_rfl) (by kernel_rfl) (fun _ _ _ h => h) (Or.inl ⟨by rfl, fun w _ => by go_simp <;> (first | omega | (intro h9; omega))⟩) hHeld ?_
            simp only [Act.put, List.setIfInBounds_toArray, List.set_cons_zero, List.set_cons_succ]
            refine wpAnyH_take (i := 9) (oi := ⟨some 21, .load 3 (.tmp 20), _, _, _, _⟩) (v := .int .i64 p) rfl (by kernel_rfl) (by kernel_rfl) (by kernel_rfl) (fun _ _ _ h => h) (Or.inl ⟨by rfl, fun w hSw => by have e1 := hSw; clear hSw; go_simp⟩) hHeld ?_
            simp only [Act.put, List.setIfInBounds_toArray, List.set_cons_zero, List.set_cons_succ]
            refine wpAnyH_take (i := 10) (oi := ⟨some 22, .move (.tmp 1), _, _, _, _⟩) (v := .int .i64 n) rfl (by kernel_rfl) (by kernel_rfl) (by kernel_rfl) (fun _ _ _ h => h) (Or.inl ⟨by rfl, fun _ _ => rfl⟩) hHeld ?_
            simp only [Act.put, List.setIfInBounds_toArray, List.set_cons_zero, List.set_cons_succ]
            refine wpAnyH_take (i := 11) (oi := ⟨some 23, .binOp .geq 3 (.tmp 21) (.tmp 22) 3, _, _, _, _⟩) (v := .bool false) rfl (by kernel_rfl) (by kernel_rfl) (by kernel_rfl) (fun _ _ _ h => h) (Or.inl ⟨by rfl, fun w _ => by go_simp <;> (first | omega | (intro h9; omega))⟩) hHeld ?_
            simp only [Act.put, List.setIfInBounds_toArray, List.set_cons_zero, List.set_cons_succ]
            refine wpAnyH_take (i := 12) (oi := ⟨some 24, .pick (.tmp 17) (.const (.bool true)) (.tmp 23), _, _, _, none⟩) (v := .bool false) rfl (by kernel_rfl) (by kernel_rfl) (by kernel_rfl) (fun _ _ _ h => h) (Or.inl ⟨by rfl, fun w _ => by go_simp <;> (first | omega | (intro h9; omega))⟩) hHeld ?_
            simp only [Act.put, List.setIfInBounds_toArray, List.set_cons_zero, List.set_cons_succ]
            refine wpAnyH_take (i := 13) (oi := ⟨some 25, .move (.tmp 24), _, _, _, none⟩) (v := .bool false) rfl (by kernel_rfl) (by kernel_rfl) (by kernel_rfl) (fun _ _ _ h => h) (Or.inl ⟨by rfl, fun _ _ => rfl⟩) hHeld ?_
            simp only [Act.put, List.setIfInBounds_toArray, List.set_cons_zero, List.set_cons_succ]
            refine wpAnyH_take (i := 14) (oi := ⟨some 26, .move (.tmp 5), _, _, _, _⟩) (v := .int .i64 j) rfl (by kernel_rfl) (by kernel_rfl) (by kernel_rfl) (fun _ _ _ h => h) (Or.inl ⟨by rfl, fun _ _ => rfl⟩) hHeld ?_
            simp only [Act.put, List.setIfInBounds_toArray, List.set_cons_zero, List.set_cons_succ]
            refine wpAnyH_take (i := 15) (oi := ⟨some 27, .binOp .gtr 3 (.tmp 26) (.const (.int .i64 0)) 3, _, _, _, _⟩) (v := .bool false) rfl (by kernel_rfl) (by kernel_rfl) (by kernel_rfl) (fun _ _ _ h => h) (Or.inl ⟨by rfl, fun w _ => by go_simp <;> (first | omega | (intro h9; omega))⟩) hHeld ?_
            simp only [Act.put, List.setIfInBounds_toArray, List.set_cons_zero, List.set_cons_succ]
            refine wpAnyH_take (i := 16) (oi := ⟨some 28, .move (.tmp 27), _, _, _, _⟩) (v := .bool false) rfl (by kernel_rfl) (by kernel_rfl) (by kernel_rfl) (fun _ _ _ h => h) (Or.inl ⟨by rfl, fun _ _ => rfl⟩) hHeld ?_
            simp only [Act.put, List.setIfInBounds_toArray, List.set_cons_zero, List.set_cons_succ]
            refine wpAnyH_take (i := 17) (oi := ⟨some 29, .move (.tmp 0), _, _, _, _⟩) (v := undef) rfl (by kernel_rfl) (by kernel_rfl) (by kernel_rfl) (fun _ _ _ h => h) (Or.inr ⟨by rfl, rfl⟩) hHeld ?_
            simp only [Act.put, List.setIfInBounds_toArray, List.set_cons_zero, List.set_cons_succ]
            refine wpAnyH_take (i := 18) (oi := ⟨some 30, .move (.tmp 5), _, _, _, _⟩) (v := undef) rfl (by kernel_rfl) (by kernel_rfl) (by kernel_rfl) (fun _ _ _ h => h) (Or.inr ⟨by rfl, rfl⟩) hHeld ?_
            simp only [Act.put, List.setIfInBounds_toArray, List.set_cons_zero, List.set_cons_succ]
            refine wpAnyH_take (i := 19) (oi := ⟨some 31, .indexAddr 37 (.tmp 29) (.tmp 30), _, _, _, _⟩) (v := undef) rfl (by kernel_rfl) (by kernel_rfl) (by kernel_rfl) (fun _ _ _ h => h) (Or.inr ⟨by rfl, rfl⟩) hHeld ?_
            simp only [Act.put, List.setIfInBounds_toArray, List.set_cons_zero, List.set_cons_succ]
            refine wpAnyH_take (i := 20) (oi := ⟨some 32, .load 3 (.tmp 31), _, _, _, _⟩) (v := undef) rfl (by kernel_rfl) (by kernel_rfl) (by kernel_rfl) (fun _ _ _ h => h) (Or.inr ⟨by rfl, rfl⟩) hHeld ?_
            simp only [Act.put, List.setIfInBounds_toArray, List.set_cons_zero, List.set_cons_succ]
            refine wpAnyH_take (i := 21) (oi := ⟨some 33, .move (.tmp 0), _, _, _, _⟩) (v := undef) rfl (by kernel_rfl) (by kernel_rfl) (by kernel_rfl) (fun _ _ _ h => h) (Or.inr ⟨by rfl, rfl⟩) hHeld ?_
            simp only [Act.put, List.setIfInBounds_toArray, List.set_cons_zero, List.set_cons_succ]
            refine wpAnyH_take (i := 22) (oi := ⟨some 34, .move (.tmp 5), _, _, _, _⟩) (v := undef) rfl (by kernel_rfl) (by kernel_rfl) (by kernel_rfl) (fun _ _ _ h => h) (Or.inr ⟨by rfl, rfl⟩) hHeld ?_
            simp only [Act.put, List.setIfInBounds_toArray, List.set_cons_zero, List.set_cons_succ]
            refine wpAnyH_take (i := 23) (oi := ⟨some 35, .binOp .sub 3 (.tmp 34) (.const (.int .i64 1)) 3, _, _, _, _⟩) (v := undef) rfl (by kernel_rfl) (by kernel_rfl) (by kernel_rfl) (fun _ _ _ h => h) (Or.inr ⟨by rfl, rfl⟩) hHeld ?_
            simp only [Act.put, List.setIfInBounds_toArray, List.set_cons_zero, List.set_cons_succ]
            refine wpAnyH_take (i := 24) (oi := ⟨some 36, .indexAddr 37 (.tmp 33) (.tmp 35), _, _, _, _⟩) (v := undef) rfl (by kernel_rfl) (by kernel_rfl) (by kernel_rfl) (fun _ _ _ h => h) (Or.inr ⟨by rfl, rfl⟩) hHeld ?_
            simp only [Act.put, List.setIfInBounds_toArray, List.set_cons_zero, List.set_cons_succ]
            refine wpAnyH_take (i := 25) (oi := ⟨some 37, .load 3 (.tmp 36), _, _, _, _⟩) (v := undef) rfl (by kernel_rfl) (by kernel_rfl) (by kernel_rfl) (fun _ _ _ h => h) (Or.inr ⟨by rfl, rfl⟩) hHeld ?_
            simp only [Act.put, List.setIfInBounds_toArray, List.set_cons_zero, List.set_cons_succ]
            refine wpAnyH_take (i := 26) (oi := ⟨some 38, .binOp .leq 3 (.tmp 32) (.tmp 37) 3, _, _, _, _⟩) (v := undef) rfl (by kernel_rfl) (by kernel_rfl) (by kernel_rfl) (fun _ _ _ h => h) (Or.inr ⟨by rfl, rfl⟩) hHeld ?_
            simp only [Act.put, List.setIfInBounds_toArray, List.set_cons_zero, List.set_cons_succ]
            refine wpAnyH_take (i := 27) (oi := ⟨some 39, .pick (.tmp 28) (.tmp 38) (.const (.bool false)), _, _, _, _⟩) (v := .bool false) rfl (by kernel_rfl) (by kernel_rfl) (by kernel_rfl) (fun _ _ _ h => h) (Or.inl ⟨by rfl, fun w _ => by go_simp <;> (first | omega | (intro h9; omega))⟩) hHeld ?_
            simp only [Act.put, List.setIfInBounds_toArray, List.set_cons_zero, List.set_cons_succ]
            refine wpAnyH_take (i := 28) (oi := ⟨some 40, .pick (.tmp 25) (.const (.bool true)) (.tmp 39), _, _, _, none⟩) (v := .bool false) rfl (by kernel_rfl) (by kernel_rfl) (by kernel_rfl) (fun _ _ _ h => h) (Or.inl ⟨by rfl, fun w _ => by go_simp <;> (first | omega | (intro h9; omega))⟩) hHeld ?_
            simp only [Act.put, List.setIfInBounds_toArray, List.set_cons_zero, List.set_cons_succ]
            refine wpAnyH_done (by kernel_rfl) ?_ _
            clear hHeld
            go_wp2
            go_roundw
            case rel => exact ⟨j + 1, by omega, by go_num, HP2.out p HPP.out (by omega) HN.out, lr.drew⟩
            case measure => simp [intOf]; omega
          · have hjz : (0 : Int) < (j : Int) := by omega
            replace hc2 := hc2 (by omega)
            have hw1 : IntKind.i64.wrap ((j : Int) - 1) = (j : Int) - 1 := IntWalk.i64_in _ (by omega)
            have hj1 : ((j : Int) - 1).toNat = j - 1 := by omega
            have hj2 : (0 : Int) ≤ (j : Int) - 1 := by omega
            have hj3 : (j : Int) - 1 < (k : Int) := by omega
            by_cases h3 : p ≤ x
            · rw [if_pos (.inl h3)] at hn
              have HN := Lib.hid hn
              clear hn hx1 hx2 hj0
              go_wp2
              refine wp_region_held_drew (S := fun w' => w'.cell? (ad.add j) = some (.int .i64 p) ∧ w'.cell? (ad.add (j - 1)) = some (.int .i64 x)) (by kernel_rfl) ⟨hc, hc2⟩ (fun hHeld => ?_)
              refine wpAnyH_take (i := 0) (oi := ⟨some 12, .move (.tmp 0), _, _, _, none⟩) (v := .slice (some ad) k c) rfl (by kernel_rfl) (by kernel_rfl) (by kernel_rfl) (fun _ _ _ h => h) (Or.inl ⟨by rfl, fun _ _ => rfl⟩) hHeld ?_
              simp only [Act.put, List.setIfInBounds_toArray, List.set_cons_zero, List.set_cons_succ]
              refine wpAnyH_take (i := 1) (oi := ⟨some 13, .move (.tmp 5), _, _, _, none⟩) (v := .int .i64 j) rfl (by kernel_rfl) (by kernel_rfl) (by kernel_rfl) (fun _ _ _ h => h) (Or.inl ⟨by rfl, fun _ _ => rfl⟩) hHeld ?_
              simp only [Act.put, List.setIfInBounds_toArray, List.set_cons_zero, List.set_cons_succ]
              refine wpAnyH_take (i := 2) (oi := ⟨some 14, .indexAddr 37 (.tmp 12) (.tmp 13), _, _, _, none⟩) (v := .pointer (some (ad.add j))) rfl (by kernel_rfl) (by kernel_rfl) (by kernel_rfl) (fun _ _ _ h => h) (Or.inl ⟨by rfl, fun w _ => by go_simp <;> (first | omega | (intro h9; omega))⟩) hHeld ?_
              simp only [Act.put, List.setIfInBounds_toArray, List.set_cons_zero, List.set_cons_succ]
              refine wpAnyH_take (i := 3) (oi := ⟨some 15, .load 3 (.tmp 14), _, _, _, none⟩) (v := .int .i64 p) rfl (by kernel_rfl) (by kernel_rfl) (by kernel_rfl) (fun _ _ _ h => h) (Or.inl ⟨by rfl, fun w hSw => by have e1 := hSw.1; clear hSw; go_simp⟩) hHeld ?_
              simp only [Act.put, List.setIfInBounds_toArray, List.set_cons_zero, List.set_cons_succ]
              refine wpAnyH_take (i := 4) (oi := ⟨some 16, .binOp .lss 3 (.tmp 15) (.const (.int .i64 0)) 3, _, _, _, none⟩) (v := .bool false) rfl (by kernel_rfl) (by kernel_rfl) (by kernel_rfl) (fun _ _ _ h => h) (Or.inl ⟨by rfl, fun w _ => by go_simp <;> (first | omega | (intro h9; omega))⟩) hHeld ?_
              simp only [Act.put, List.setIfInBounds_toArray, List.set_cons_zero, List.set_cons_succ]
              refine wpAnyH_take (i := 5) (oi := ⟨some 17, .move (.tmp 16), _, _, _, none⟩) (v := .bool false) rfl (by kernel_rfl) (by kernel_rfl) (by kernel_rfl) (fun _ _ _ h => h) (Or.inl ⟨by rfl, fun _ _ => rfl⟩) hHeld ?_
              simp only [Act.put, List.setIfInBounds_toArray, List.set_cons_zero, List.set_cons_succ]
              refine wpAnyH_take (i := 6) (oi := ⟨some 18, .move (.tmp 0), _, _, _, _⟩) (v := .slice (some ad) k c) rfl (by kernel_rfl) (by kernel_rfl) (by kernel_rfl) (fun _ _ _ h => h) (Or.inl ⟨by rfl, fun _ _ => rfl⟩) hHeld ?_
              simp only [Act.put, List.setIfInBounds_toArray, List.set_cons_zero, List.set_cons_succ]
              refine wpAnyH_take (i := 7) (oi := ⟨some 19, .move (.tmp 5), _, _, _, _⟩) (v := .int .i64 j) rfl (by kernel_rfl) (by kernel_rfl) (by kernel_rfl) (fun _ _ _ h => h) (Or.inl ⟨by rfl, fun _ _ => rfl⟩) hHeld ?_
              simp only [Act.put, List.setIfInBounds_toArray, List.set_cons_zero, List.set_cons_succ]
              refine wpAnyH_take (i := 8) (oi := ⟨some 20, .indexAddr 37 (.tmp 18) (.tmp 19), _, _, _, _⟩) (v := .pointer (some (ad.add j))) rfl (by kernel_rfl) (by kernel_rfl) (by kernel_rfl) (fun _ _ _ h => h) (Or.inl ⟨by rfl, fun w _ => by go_simp <;> (first | omega | (intro h9; omega))⟩) hHeld ?_
              simp only [Act.put, List.setIfInBounds_toArray, List.set_cons_zero, List.set_cons_succ]
              refine wpAnyH_take (i := 9) (oi := ⟨some 21, .load 3 (.tmp 20), _, _, _, _⟩) (v := .int .i64 p) rfl (by kernel_rfl) (by kernel_rfl) (by kernel_rfl) (fun _ _ _ h => h) (Or.inl ⟨by rfl, fun w hSw => by have e1 := hSw.1; clear hSw; go_simp⟩) hHeld ?_
              simp only [Act.put, List.setIfInBounds_toArray, List.set_cons_zero, List.set_cons_succ]
              refine wpAnyH_take (i := 10) (oi := ⟨some 22, .move (.tmp 1), _, _, _, _⟩) (v := .int .i64 n) rfl (by kernel_rfl) (by kernel_rfl) (by kernel_rfl) (fun _ _ _ h => h) (Or.inl ⟨by rfl, fun _ _ => rfl⟩) hHeld ?_
              simp only [Act.put, List.setIfInBounds_toArray, List.set_cons_zero, List.set_cons_succ]
              refine wpAnyH_take (i := 11) (oi := ⟨some 23, .binOp .geq 3 (.tmp 21) (.tmp 22) 3, _, _, _, _⟩) (v := .bool false) rfl (by kernel_rfl) (by kernel_rfl) (by kernel_rfl) (fun _ _ _ h => h) (Or.inl ⟨by rfl, fun w _ => by go_simp <;> (first | omega | (intro h9; omega))⟩) hHeld ?_
              simp only [Act.put, List.setIfInBounds_toArray, List.set_cons_zero, List.set_cons_succ]
              refine wpAnyH_take (i := 12) (oi := ⟨some 24, .pick (.tmp 17) (.const (.bool true)) (.tmp 23), _, _, _, none⟩) (v := .bool false) rfl (by kernel_rfl) (by kernel_rfl) (by kernel_rfl) (fun _ _ _ h => h) (Or.inl ⟨by rfl, fun w _ => by go_simp <;> (first | omega | (intro h9; omega))⟩) hHeld ?_
              simp only [Act.put, List.setIfInBounds_toArray, List.set_cons_zero, List.set_cons_succ]
              refine wpAnyH_take (i := 13) (oi := ⟨some 25, .move (.tmp 24), _, _, _, none⟩) (v := .bool false) rfl (by kernel_rfl) (by kernel_rfl) (by kernel_rfl) (fun _ _ _ h => h) (Or.inl ⟨by rfl, fun _ _ => rfl⟩) hHeld ?_
              simp only [Act.put, List.setIfInBounds_toArray, List.set_cons_zero, List.set_cons_succ]
              refine wpAnyH_take (i := 14) (oi := ⟨some 26, .move (.tmp 5), _, _, _, _⟩) (v := .int .i64 j) rfl (by kernel_rfl) (by kernel_rfl) (by kernel_rfl) (fun _ _ _ h => h) (Or.inl ⟨by rfl, fun _ _ => rfl⟩) hHeld ?_
              simp only [Act.put, List.setIfInBounds_toArray, List.set_cons_zero, List.set_cons_succ]
              refine wpAnyH_take (i := 15) (oi := ⟨some 27, .binOp .gtr 3 (.tmp 26) (.const (.int .i64 0)) 3, _, _, _, _⟩) (v := .bool true) rfl (by kernel_rfl) (by kernel_rfl) (by kernel_rfl) (fun _ _ _ h => h) (Or.inl ⟨by rfl, fun w _ => by go_simp <;> (first | omega | (intro h9; omega))⟩) hHeld ?_
              simp only [Act.put, List.setIfInBounds_toArray, List.set_cons_zero, List.set_cons_succ]
              refine wpAnyH_take (i := 16) (oi := ⟨some 28, .move (.tmp 27), _, _, _, _⟩) (v := .bool true) rfl (by kernel_rfl) (by kernel_rfl) (by kernel_rfl) (fun _ _ _ h => h) (Or.inl ⟨by rfl, fun _ _ => rfl⟩) hHeld ?_
              simp only [Act.put, List.setIfInBounds_toArray, List.set_cons_zero, List.set_cons_succ]
              refine wpAnyH_take (i := 17) (oi := ⟨some 29, .move (.tmp 0), _, _, _, _⟩) (v := .slice (some ad) k c) rfl (by kernel_rfl) (by kernel_rfl) (by kernel_rfl) (fun _ _ _ h => h) (Or.inl ⟨by rfl, fun _ _ => rfl⟩) hHeld ?_
              simp only [Act.put, List.setIfInBounds_toArray, List.set_cons_zero, List.set_cons_succ]
              refine wpAnyH_take (i := 18) (oi := ⟨some 30, .move (.tmp 5), _, _, _, _⟩) (v := .int .i64 j) rfl (by kernel_rfl) (by kernel_rfl) (by kernel_rfl) (fun _ _ _ h => h) (Or.inl ⟨by rfl, fun _ _ => rfl⟩) hHeld ?_
              simp only [Act.put, List.setIfInBounds_toArray, List.set_cons_zero, List.set_cons_succ]
              refine wpAnyH_take (i := 19) (oi := ⟨some 31, .indexAddr 37 (.tmp 29) (.tmp 30), _, _, _, _⟩) (v := .pointer (some (ad.add j))) rfl (by kernel_rfl) (by kernel_rfl) (by kernel_rfl) (fun _ _ _ h => h) (Or.inl ⟨by rfl, fun w _ => by go_simp <;> (first | omega | (intro h9; omega))⟩) hHeld ?_
              simp only [Act.put, List.setIfInBounds_toArray, List.set_cons_zero, List.set_cons_succ]
              refine wpAnyH_take (i := 20) (oi := ⟨some 32, .load 3 (.tmp 31), _, _, _, _⟩) (v := .int .i64 p) rfl (by kernel_rfl) (by kernel_rfl) (by kernel_rfl) (fun _ _ _ h => h) (Or.inl ⟨by rfl, fun w hSw => by have e1 := hSw.1; clear hSw; go_simp⟩) hHeld ?_
              simp only [Act.put, List.setIfInBounds_toArray, List.set_cons_zero, List.set_cons_succ]
              refine wpAnyH_take (i := 21) (oi := ⟨some 33, .move (.tmp 0), _, _, _, _⟩) (v := .slice (some ad) k c) rfl (by kernel_rfl) (by kernel_rfl) (by kernel_rfl) (fun _ _ _ h => h) (Or.inl ⟨by rfl, fun _ _ => rfl⟩) hHeld ?_
              simp only [Act.put, List.setIfInBounds_toArray, List.set_cons_zero, List.set_cons_succ]
              refine wpAnyH_take (i := 22) (oi := ⟨some 34, .move (.tmp 5), _, _, _, _⟩) (v := .int .i64 j) rfl (by kernel_rfl) (by kernel_rfl) (by kernel_rfl) (fun _ _ _ h => h) (Or.inl ⟨by rfl, fun _ _ => rfl⟩) hHeld ?_
              simp only [Act.put, List.setIfInBounds_toArray, List.set_cons_zero, List.set_cons_succ]
              refine wpAnyH_take (i := 23) (oi := ⟨some 35, .binOp .sub 3 (.tmp 34) (.const (.int .i64 1)) 3, _, _, _, _⟩) (v := .int .i64 ((j : Int) - 1)) rfl (by kernel_rfl) (by kernel_rfl) (by kernel_rfl) (fun _ _ _ h => h) (Or.inl ⟨by rfl, fun w _ => by go_simp <;> (first | omega | (intro h9; omega))⟩) hHeld ?_
              simp only [Act.put, List.setIfInBounds_toArray, List.set_cons_zero, List.set_cons_succ]
              refine wpAnyH_take (i := 24) (oi := ⟨some 36, .indexAddr 37 (.tmp 33) (.tmp 35), _, _, _, _⟩) (v := .pointer (some (ad.add (j - 1)))) rfl (by kernel_rfl) (by kernel_rfl) (by kernel_rfl) (fun _ _ _ h => h) (Or.inl ⟨by rfl, fun w _ => by go_simp <;> (first | omega | (intro h9; omega))⟩) hHeld ?_
              simp only [Act.put, List.setIfInBounds_toArray, List.set_cons_zero, List.set_cons_succ]
              refine wpAnyH_take (i := 25) (oi := ⟨some 37, .load 3 (.tmp 36), _, _, _, _⟩) (v := .int .i64 x) rfl (by kernel_rfl) (by kernel_rfl) (by kernel_rfl) (fun _ _ _ h => h) (Or.inl ⟨by rfl, fun w hSw => by have e1 := hSw.2; clear hSw; go_simp⟩) hHeld ?_
              simp only [Act.put, List.setIfInBounds_toArray, List.set_cons_zero, List.set_cons_succ]
              refine wpAnyH_take (i := 26) (oi := ⟨some 38, .binOp .leq 3 (.tmp 32) (.tmp 37) 3, _, _, _, _⟩) (v := .bool true) rfl (by kernel_rfl) (by kernel_rfl) (by kernel_rfl) (fun _ _ _ h => h) (Or.inl ⟨by rfl, fun w _ => by go_simp <;> (first | omega | (intro h9; omega))⟩) hHeld ?_
              simp only [Act.put, List.setIfInBounds_toArray, List.set_cons_zero, List.set_cons_succ]
              refine wpAnyH_take (i := 27) (oi := ⟨some 39, .pick (.tmp 28) (.tmp 38) (.const (.bool false)), _, _, _, _⟩) (v := .bool true) rfl (by kernel_rfl) (by kernel_rfl) (by kernel_rfl) (fun _ _ _ h => h) (Or.inl ⟨by rfl, fun w _ => by go_simp <;> (first | omega | (intro h9; omega))⟩) hHeld ?_
              simp only [Act.put, List.setIfInBounds_toArray, List.set_cons_zero, List.set_cons_succ]
              refine wpAnyH_take (i := 28) (oi := ⟨some 40, .pick (.tmp 25) (.const (.bool true)) (.tmp 39), _, _, _, none⟩) (v := .bool true) rfl (by kernel_rfl) (by kernel_rfl) (by kernel_rfl) (fun _ _ _ h => h) (Or.inl ⟨by rfl, fun w _ => by go_simp <;> (first | omega | (intro h9; omega))⟩) hHeld ?_
              simp only [Act.put, List.setIfInBounds_toArray, List.set_cons_zero, List.set_cons_succ]
              refine wpAnyH_done (by kernel_rfl) ?_ _
              clear hHeld
              go_wp2
              go_ret
              exact ⟨by rw [HN.out]; rfl, lr.drew⟩
            · rw [if_neg (by omega)] at hn
              have HN := Lib.hid hn
              have h3' : x < p := by omega
              clear hn hx1 hx2 hj0
              go_wp2
              refine wp_region_held_drew (S := fun w' => w'.cell? (ad.add j) = some (.int .i64 p) ∧ w'.cell? (ad.add (j - 1)) = some (.int .i64 x)) (by kernel_rfl) ⟨hc, hc2⟩ (fun hHeld => ?_)
              refine wpAnyH_take (i := 0) (oi := ⟨some 12, .move (.tmp 0), _, _, _, none⟩) (v := .slice (some ad) k c) rfl (by kernel_rfl) (by kernel_rfl) (by kernel_rfl) (fun _ _ _ h => h) (Or.inl ⟨by rfl, fun _ _ => rfl⟩) hHeld ?_
              simp only [Act.put, List.setIfInBounds_toArray, List.set_cons_zero, List.set_cons_succ]
              refine wpAnyH_take (i := 1) (oi := ⟨some 13, .move (.tmp 5), _, _, _, none⟩) (v := .int .i64 j) rfl (by kernel_rfl) (by kernel_rfl) (by kernel_rfl) (fun _ _ _ h => h) (Or.inl ⟨by rfl, fun _ _ => rfl⟩) hHeld ?_
              simp only [Act.put, List.setIfInBounds_toArray, List.set_cons_zero, List.set_cons_succ]
              refine wpAnyH_take (i := 2) (oi := ⟨some 14, .indexAddr 37 (.tmp 12) (.tmp 13), _, _, _, none⟩) (v := .pointer (some (ad.add j))) rfl (by kernel_rfl) (by kernel_rfl) (by kernel_rfl) (fun _ _ _ h => h) (Or.inl ⟨by rfl, fun w _ => by go_simp <;> (first | omega | (intro h9; omega))⟩) hHeld ?_
              simp only [Act.put, List.setIfInBounds_toArray, List.set_cons_zero, List.set_cons_succ]
              refine wpAnyH_take (i := 3) (oi := ⟨some 15, .load 3 (.tmp 14), _, _, _, none⟩) (v := .int .i64 p) rfl (by kernel_rfl) (by kernel_rfl) (by kernel_rfl) (fun _ _ _ h => h) (Or.inl ⟨by rfl, fun w hSw => by have e1 := hSw.1; clear hSw; go_simp⟩) hHeld ?_
              simp only [Act.put, List.setIfInBounds_toArray, List.set_cons_zero, List.set_cons_succ]
              refine wpAnyH_take (i := 4) (oi := ⟨some 16, .binOp .lss 3 (.tmp 15) (.const (.int .i64 0)) 3, _, _, _, none⟩) (v := .bool false) rfl (by kernel_rfl) (by kernel_rfl) (by kernel_rfl) (fun _ _ _ h => h) (Or.inl ⟨by rfl, fun w _ => by go_simp <;> (first | omega | (intro h9; omega))⟩) hHeld ?_
              simp only [Act.put, List.setIfInBounds_toArray, List.set_cons_zero, List.set_cons_succ]
              refine wpAnyH_take (i := 5) (oi := ⟨some 17, .move (.tmp 16), _, _, _, none⟩) (v := .bool false) rfl (by kernel_rfl) (by kernel_rfl) (by kernel_rfl) (fun _ _ _ h => h) (Or.inl ⟨by rfl, fun _ _ => rfl⟩) hHeld ?_
              simp only [Act.put, List.setIfInBounds_toArray, List.set_cons_zero, List.set_cons_succ]
              refine wpAnyH_take (i := 6) (oi := ⟨some 18, .move (.tmp 0), _, _, _, _⟩) (v := .slice (some ad) k c) rfl (by kernel_rfl) (by kernel_rfl) (by kernel_rfl) (fun _ _ _ h => h) (Or.inl ⟨by rfl, fun _ _ => rfl⟩) hHeld ?_
              simp only [Act.put, List.setIfInBounds_toArray, List.set_cons_zero, List.set_cons_succ]
              refine wpAnyH_take (i := 7) (oi := ⟨some 19, .move (.tmp 5), _, _, _, _⟩) (v := .int .i64 j) rfl (by kernel_rfl) (by kernel_rfl) (by kernel_rfl) (fun _ _ _ h => h) (Or.inl ⟨by rfl, fun _ _ => rfl⟩) hHeld ?_
              simp only [Act.put, List.setIfInBounds_toArray, List.set_cons_zero, List.set_cons_succ]
              refine wpAnyH_take (i := 8) (oi := ⟨some 20, .indexAddr 37 (.tmp 18) (.tmp 19), _, _, _, _⟩) (v := .pointer (some (ad.add j))) rfl (by kernel_rfl) (by kernel_rfl) (by kernel_rfl) (fun _ _ _ h => h) (Or.inl ⟨by rfl, fun w _ => by go_simp <;> (first | omega | (intro h9; omega))⟩) hHeld ?_
              simp only [Act.put, List.setIfInBounds_toArray, List.set_cons_zero, List.set_cons_succ]
              refine wpAnyH_take (i := 9) (oi := ⟨some 21, .load 3 (.tmp 20), _, _, _, _⟩) (v := .int .i64 p) rfl (by kernel_rfl) (by kernel_rfl) (by kernel_rfl) (fun _ _ _ h => h) (Or.inl ⟨by rfl, fun w hSw => by have e1 := hSw.1; clear hSw; go_simp⟩) hHeld ?_
              simp only [Act.put, List.setIfInBounds_toArray, List.set_cons_zero, List.set_cons_succ]
              refine wpAnyH_take (i := 10) (oi := ⟨some 22, .move (.tmp 1), _, _, _, _⟩) (v := .int .i64 n) rfl (by kernel_rfl) (by kernel_rfl) (by kernel_rfl) (fun _ _ _ h => h) (Or.inl ⟨by rfl, fun _ _ => rfl⟩) hHeld ?_
              simp only [Act.put, List.setIfInBounds_toArray, List.set_cons_zero, List.set_cons_succ]
              refine wpAnyH_take (i := 11) (oi := ⟨some 23, .binOp .geq 3 (.tmp 21) (.tmp 22) 3, _, _, _, _⟩) (v := .bool false) rfl (by kernel_rfl) (by kernel_rfl) (by kernel_rfl) (fun _ _ _ h => h) (Or.inl ⟨by rfl, fun w _ => by go_simp <;> (first | omega | (intro h9; omega))⟩) hHeld ?_
              simp only [Act.put, List.setIfInBounds_toArray, List.set_cons_zero, List.set_cons_succ]
              refine wpAnyH_take (i := 12) (oi := ⟨some 24, .pick (.tmp 17) (.const (.bool true)) (.tmp 23), _, _, _, none⟩) (v := .bool false) rfl (by kernel_rfl) (by kernel_rfl) (by kernel_rfl) (fun _ _ _ h => h) (Or.inl ⟨by rfl, fun w _ => by go_simp <;> (first | omega | (intro h9; omega))⟩) hHeld ?_
              simp only [Act.put, List.setIfInBounds_toArray, List.set_cons_zero, List.set_cons_succ]
              refine wpAnyH_take (i := 13) (oi := ⟨some 25, .move (.tmp 24), _, _, _, none⟩) (v := .bool false) rfl (by kernel_rfl) (by kernel_rfl) (by kernel_rfl) (fun _ _ _ h => h) (Or.inl ⟨by rfl, fun _ _ => rfl⟩) hHeld ?_
              simp only [Act.put, List.setIfInBounds_toArray, List.set_cons_zero, List.set_cons_succ]
              refine wpAnyH_take (i := 14) (oi := ⟨some 26, .move (.tmp 5), _, _, _, _⟩) (v := .int .i64 j) rfl (by kernel_rfl) (by kernel_rfl) (by kernel_rfl) (fun _ _ _ h => h) (Or.inl ⟨by rfl, fun _ _ => rfl⟩) hHeld ?_
              simp only [Act.put, List.setIfInBounds_toArray, List.set_cons_zero, List.set_cons_succ]
              refine wpAnyH_take (i := 15) (oi := ⟨some 27, .binOp .gtr 3 (.tmp 26) (.const (.int .i64 0)) 3, _, _, _, _⟩) (v := .bool true) rfl (by kernel_rfl) (by kernel_rfl) (by kernel_rfl) (fun _ _ _ h => h) (Or.inl ⟨by rfl, fun w _ => by go_simp <;> (first | omega | (intro h9; omega))⟩) hHeld ?_
              simp only [Act.put, List.setIfInBounds_toArray, List.set_cons_zero, List.set_cons_succ]
              refine wpAnyH_take (i := 16) (oi := ⟨some 28, .move (.tmp 27), _, _, _, _⟩) (v := .bool true) rfl (by kernel_rfl) (by kernel_rfl) (by kernel_rfl) (fun _ _ _ h => h) (Or.inl ⟨by rfl, fun _ _ => rfl⟩) hHeld ?_
              simp only [Act.put, List.setIfInBounds_toArray, List.set_cons_zero, List.set_cons_succ]
              refine wpAnyH_take (i := 17) (oi := ⟨some 29, .move (.tmp 0), _, _, _, _⟩) (v := .slice (some ad) k c) rfl (by kernel_rfl) (by kernel_rfl) (by kernel_rfl) (fun _ _ _ h => h) (Or.inl ⟨by rfl, fun _ _ => rfl⟩) hHeld ?_
              simp only [Act.put, List.setIfInBounds_toArray, List.set_cons_zero, List.set_cons_succ]
              refine wpAnyH_take (i := 18) (oi := ⟨some 30, .move (.tmp 5), _, _, _, _⟩) (v := .int .i64 j) rfl (by kernel_rfl) (by kernel_rfl) (by kernel_rfl) (fun _ _ _ h => h) (Or.inl ⟨by rfl, fun _ _ => rfl⟩) hHeld ?_
              simp only [Act.put, List.setIfInBounds_toArray, List.set_cons_zero, List.set_cons_succ]
              refine wpAnyH_take (i := 19) (oi := ⟨some 31, .indexAddr 37 (.tmp 29) (.tmp 30), _, _, _, _⟩) (v := .pointer (some (ad.add j))) rfl (by kernel_rfl) (by kernel_rfl) (by kernel_rfl) (fun _ _ _ h => h) (Or.inl ⟨by rfl, fun w _ => by go_simp <;> (first | omega | (intro h9; omega))⟩) hHeld ?_
              simp only [Act.put, List.setIfInBounds_toArray, List.set_cons_zero, List.set_cons_succ]
              refine wpAnyH_take (i := 20) (oi := ⟨some 32, .load 3 (.tmp 31), _, _, _, _⟩) (v := .int .i64 p) rfl (by kernel_rfl) (by kernel_rfl) (by kernel_rfl) (fun _ _ _ h => h) (Or.inl ⟨by rfl, fun w hSw => by have e1 := hSw.1; clear hSw; go_simp⟩) hHeld ?_
              simp only [Act.put, List.setIfInBounds_toArray, List.set_cons_zero, List.set_cons_succ]
              refine wpAnyH_take (i := 21) (oi := ⟨some 33, .move (.tmp 0), _, _, _, _⟩) (v := .slice (some ad) k c) rfl (by kernel_rfl) (by kernel_rfl) (by kernel_rfl) (fun _ _ _ h => h) (Or.inl ⟨by rfl, fun _ _ => rfl⟩) hHeld ?_
              simp only [Act.put, List.setIfInBounds_toArray, List.set_cons_zero, List.set_cons_succ]
              refine wpAnyH_take (i := 22) (oi := ⟨some 34, .move (.tmp 5), _, _, _, _⟩) (v := .int .i64 j) rfl (by kernel_rfl) (by kernel_rfl) (by kernel_rfl) (fun _ _ _ h => h) (Or.inl ⟨by rfl, fun _ _ => rfl⟩) hHeld ?_
              simp only [Act.put, List.setIfInBounds_toArray, List.set_cons_zero, List.set_cons_succ]
              refine wpAnyH_take (i := 23) (oi := ⟨some 35, .binOp .sub 3 (.tmp 34) (.const (.int .i64 1)) 3, _, _, _, _⟩) (v := .int .i64 ((j : Int) - 1)) rfl (by kernel_rfl) (by kernel_rfl) (by kernel_rfl) (fun _ _ _ h => h) (Or.inl ⟨by rfl, fun w _ => by go_simp <;> (first | omega | (intro h9; omega))⟩) hHeld ?_
              simp only [Act.put, List.setIfInBounds_toArray, List.set_cons_zero, List.set_cons_succ]
              refine wpAnyH_take (i := 24) (oi := ⟨some 36, .indexAddr 37 (.tmp 33) (.tmp 35), _, _, _, _⟩) (v := .pointer (some (ad.add (j - 1)))) rfl (by kernel_rfl) (by kernel_rfl) (by kernel_rfl) (fun _ _ _ h => h) (Or.inl ⟨by rfl, fun w _ => by go_simp <;> (first | omega | (intro h9; omega))⟩) hHeld ?_
              simp only [Act.put, List.setIfInBounds_toArray, List.set_cons_zero, List.set_cons_succ]
              refine wpAnyH_take (i := 25) (oi := ⟨some 37, .load 3 (.tmp 36), _, _, _, _⟩) (v := .int .i64 x) rfl (by kernel_rfl) (by kernel_rfl) (by kernel_rfl) (fun _ _ _ h => h) (Or.inl ⟨by rfl, fun w hSw => by have e1 := hSw.2; clear hSw; go_simp⟩) hHeld ?_
              simp only [Act.put, List.setIfInBounds_toArray, List.set_cons_zero, List.set_cons_succ]
              refine wpAnyH_take (i := 26) (oi := ⟨some 38, .binOp .leq 3 (.tmp 32) (.tmp 37) 3, _, _, _, _⟩) (v := .bool false) rfl (by kernel_rfl) (by kernel_rfl) (by kernel_rfl) (fun _ _ _ h => h) (Or.inl ⟨by rfl, fun w _ => by go_simp <;> (first | omega | (intro h9; omega))⟩) hHeld ?_
              simp only [Act.put, List.setIfInBounds_toArray, List.set_cons_zero, List.set_cons_succ]
              refine wpAnyH_take (i := 27) (oi := ⟨some 39, .pick (.tmp 28) (.tmp 38) (.const (.bool false)), _, _, _, _⟩) (v := .bool false) rfl (by kernel_rfl) (by kernel_rfl) (by kernel_rfl) (fun _ _ _ h => h) (Or.inl ⟨by rfl, fun w _ => by go_simp <;> (first | omega | (intro h9; omega))⟩) hHeld ?_
              simp only [Act.put, List.setIfInBounds_toArray, List.set_cons_zero, List.set_cons_succ]
              refine wpAnyH_take (i := 28) (oi := ⟨some 40, .pick (.tmp 25) (.const (.bool true)) (.tmp 39), _, _, _, none⟩) (v := .bool false) rfl (by kernel_rfl) (by kernel_rfl) (by kernel_rfl) (fun _ _ _ h => h) (Or.inl ⟨by rfl, fun w _ => by go_simp <;> (first | omega | (intro h9; omega))⟩) hHeld ?_
              simp only [Act.put, List.setIfInBounds_toArray, List.set_cons_zero, List.set_cons_succ]
              refine wpAnyH_done (by kernel_rfl) ?_ _
              clear hHeld
              go_wp2
              go_roundw
              case rel => exact ⟨j + 1, by omega, by go_num, HP2.out p HPP.out (by omega) HN.out, lr.drew⟩
              case measure => simp [intOf]; omega
    · obtain rfl : j = k := by omega
      have HN : Hid (true = FL) := Lib.hid (by obtain ⟨x, _, _, _, h⟩ := hx.out; rw [List.drop_of_length_le (by rw [HL.out]; exact Nat.le_refl _)] at h; exact h)
      have HLR := Lib.hid lr
      clear hx lr
      go_wp2
      go_ret
      exact ⟨by rw [← HN.out]; rfl, HLR.out⟩

theorem iw_sz : (Tryd.prog.info? 3).map (fun i => (i.zero, i.size, i.bytes)) = some (some (.int .i64 0), 1, 8) := by kernel_rfl
/-- Places handed back. -/
def GotI (J : List Int) (w : World) (e : Ending) (w' : World) : Prop := ∃ A c, e = .returned (.slice A J.length c) ∧ Sl w' 1 A J.length (N64 J) ∧ J.length ≤ c ∧ c ≤ 9223372036854775807 ∧ Later w w'
theorem own_int {base : Nat} {v : Value} {J : List Int} {x : Int} {w : World} (h : w.ownsRow base 3 1 v (J.length + 1) (N64 J ++ [.int .i64 x])) : w.ownsRow base 3 1 v (J ++ [x]).length (N64 (J ++ [x])) := by
  have e : N64 (J ++ [x]) = N64 J ++ [.int .i64 x] := by unfold N64; rw [List.map_append]; rfl
  rw [e, List.length_append]; exact h

set_option maxRecDepth 100000 in
set_option maxHeartbeats 1000000 in
theorem within_any (A : Option Addr) (k c : Nat) (ps : List Int) (a b : Int) (w : World) (hs : Sl w 1 A k (N64 ps)) (hk : k ≤ 1000) :
    Calls Tryd.prog 64 #[.slice A k c, .int .i64 a, .int .i64 b] w (GotI (Mk.wi ps a b) w) := by
  have hl := hs.ilen
  have HS := Lib.hid fun (w' : World) (h : Later w w') => int_cells (hs.keep h)
  have HNX := Lib.hid fun (j : Nat) (h : j < k) => Mk.wi_next (ps := ps) (a := a) (b := b) (k := j) (by omega)
  have HLN := Lib.hid fun (j : Nat) => Nat.le_trans (Mk.wi_len (ps.take j) a b) (List.length_take_le' j ps)
  have HL := Lib.hid hl
  obtain ⟨i0, hi⟩ : ∃ i, Tryd.prog.info? 3 = some i := by
    have h := iw_sz
    cases e : Tryd.prog.info? 3 with
    | none => rw [e] at h; cases h
    | some i => exact ⟨i, rfl⟩
  have hh : i0.zero = some (.int .i64 0) ∧ i0.size = 1 ∧ i0.bytes = 8 := by
    have h := iw_sz
    rw [hi] at h
    simpa using h
  have HI := Lib.hid (show Tryd.prog.info? 3 = some i0 ∧ i0.zero = some (.int .i64 0) ∧ i0.size = 1 ∧ i0.bytes = 8 from ⟨hi, hh⟩)
  clear hs hl hi hh
  go_enter Tryd.func64, Tryd.ntmps64
  go_wp2
  go_loopw [7, 8] (fun v i wr => ∃ (j : Nat), j ≤ k ∧ i = .int .i64 j ∧ wr.ownsRow w.heap.size 3 1 v (Mk.wi (ps.take j) a b).length (N64 (Mk.wi (ps.take j) a b)) ∧ Later w wr) (fun _ i _ => k - (intOf i).toNat)
  case atStart => exact ⟨0, by omega, by go_num, ⟨rfl, .inl ⟨rfl, rfl⟩⟩, Below.refl _ _⟩
  case round =>
    obtain ⟨j, hj, rfl, ho, lr⟩ := hrel
    by_cases hlt : j < k
    · obtain ⟨ad, rfl, hc⟩ := HS.out _ lr j hlt
      have hn := HNX.out j hlt
      have hln := HLN.out j
      obtain ⟨p, hp⟩ : ∃ p, p = ps.getD j 0 := ⟨_, rfl⟩
      rw [← hp] at hn hc
      obtain ⟨J, hJ⟩ : ∃ J, J = Mk.wi (ps.take j) a b := ⟨_, rfl⟩
      rw [← hJ] at hn ho hln
      rw [HL.out] at hln
      have k0 : (0 : Int) ≤ (j : Int) := by omega
      have kn : (j : Int) < (k : Int) := by omega
      clear hp hJ
      by_cases h1 : a ≤ p
      · by_cases h2 : p < b
        · rw [if_pos ⟨h1, h2⟩] at hn
          have HN := Lib.hid hn
          obtain ⟨m, hm⟩ : ∃ m, m = J.length := ⟨_, rfl⟩
          have HM := Lib.hid hm
          have hm9 : m ≤ 1000 := by omega
          rw [← hm] at ho
          clear hn hm hln
          go_wp2_with (at_builtin; refine wpList_append_own _ rfl _ _ 37 rfl w.heap.size 3 i0 (.int .i64 0) 1 8 Tryd.underlying37 HI.out.1 HI.out.2.1 HI.out.2.2.1 HI.out.2.2.2 rfl (by decide) _ _ _ rfl (ho.alloc _) ⟨wr.heap.size, 0, none⟩ 1 1 [.int .i64 _] rfl rfl (cell_one_new _ _ _) (one_int _ _) (by unfold maxLen; omega) (by omega) (by have := lr.size; simp; omega) ?_; intro v' w2 hown' hgrow _)
          have hb2 : Later w w2 := (lr.alloc lr.size _).grown hgrow (by have := lr.size; simp; omega) (fun k hk => (ho.lt k hk).1)
          go_roundw
          case rel => exact ⟨j + 1, by omega, by go_num, by rw [HN.out]; exact own_int (by rw [← HM.out]; exact hown'), hb2⟩
          case measure => simp [intOf]; omega
        · rw [if_neg (by omega), List.append_nil] at hn
          have HN := Lib.hid hn
          clear hn hln
          go_wp2
          go_roundw
          case rel => exact ⟨j + 1, by omega, by go_num, by rw [HN.out]; exact ho, lr⟩
          case measure => simp [intOf]; omega
      · rw [if_neg (by omega), List.append_nil] at hn
        have HN := Lib.hid hn
        clear hn hln
        go_wp2
        go_roundw
        case rel => exact ⟨j + 1, by omega, by go_num, by rw [HN.out]; exact ho, lr⟩
        case measure => simp [intOf]; omega
    · obtain rfl : j = k := by omega
      rw [List.take_of_length_le (by rw [HL.out]; exact Nat.le_refl _)] at ho
      obtain ⟨A2, c2, hv, q1, q2, q3, _⟩ := own_form ho
      subst hv
      obtain ⟨m, hm⟩ : ∃ m, m = (Mk.wi ps a b).length := ⟨_, rfl⟩
      have HM := Lib.hid hm
      rw [← hm] at q1 q3 ⊢
      clear ho hm
      go_wp2
      go_ret
      exact ⟨A2, c2, by rw [← HM.out]; rfl, by rw [← HM.out]; exact q3, by rw [← HM.out]; exact q1, q2, lr⟩
end Go.Proofs.YtaihfkcoiagdaabDoor

/-
  WALKS: the reference's many.
-/
namespace Go.Proofs.YtaihfkcoiagdaabDoor
open Go.RowKit Go.ChangeShapes Go.WideShapes Go.ChangeAt

theorem laterX (w : World) (o : Obj) : Later w (w.alloc o) := (Below.refl _ _).alloc (Nat.le_refl _) o
theorem ds_app (a b : List Wm.Bs) : Ds (a ++ b) = Ds a ++ Ds b := by unfold Ds; rw [List.flatten_append, U_append]

set_option maxRecDepth 100000 in
set_option maxHeartbeats 2000000 in
theorem refMany_any (N : Nat) : ∀ (A : Option Addr) (n c : Nat) (b : Int) (l : List Wm.Bs) (A1 : Option Addr) (k c1 : Nat) (ps : List Int) (w : World), n ≤ N → 1 ≤ n → Sl w 16 A n (Ds l) → isD l → n ≤ 1000000 → n ≤ c → c ≤ 9223372036854775807 →
    Sl w 1 A1 k (N64 ps) → k ≤ 1000 → ps.Pairwise (· < ·) → 0 ≤ b → b + n ≤ 4000000000000 → Tab0 w →
    Calls Tryd.prog 46 #[.slice A n c, .int .i64 b, .slice A1 k c1] w fun e w' => GotDs (Mk.many nodeD emptyD l b (Mk.wi ps b (b + n))) w e w' := by
  induction N with
  | zero => intro A n c b l A1 k c1 ps w h1 h2; omega
  | succ N ih =>
    intro A n c b l A1 k c1 ps w hN hn1 hs hl hbig hnc hc hsp hk hps hb hbn tab
    have hll := hs.dlen hl
    have HW := Lib.hid (within_any A1 k c1 ps b (b + n) w hsp hk)
    have hqa := Mk.wi_asc hps b (b + n)
    have hqi := Mk.wi_in ps b (b + n)
    have hql := Mk.wi_len ps b (b + n)
    rw [hsp.ilen] at hql
    obtain ⟨qs, hqs⟩ : ∃ qs, qs = Mk.wi ps b (b + n) := ⟨_, rfl⟩
    rw [← hqs] at HW hqa hqi hql ⊢
    have hwr : IntKind.i64.wrap (b + (n : Int)) = b + (n : Int) := IntWalk.i64_in _ (by omega)
    clear hqs hsp hps
    by_cases hq0 : qs = []
    · subst hq0
      rw [Mk.many_none]
      have HR := Lib.hid fun (w' : World) (hw : Later w w') => refRoot_any n A n c l w' (Nat.le_refl _) (hs.keep hw) hl (by omega) hnc hc (tab.keep hw)
      have hR := rootD_dig hl
      obtain ⟨R, hRe⟩ : ∃ R, R = rootD l := ⟨_, rfl⟩
      have hRe' : Mk.root nodeD emptyD l = R := hRe.symm
      rw [hRe']
      rw [← hRe] at HR hR
      have HRl := Lib.hid hR.1
      obtain ⟨i0, hI⟩ := dgI
      have HI := Lib.hid hI
      clear hI hRe hRe' hR hs hl hll ih tab hqa hqi hql
      go_enter Tryd.func46, Tryd.ntmps46
      go_wp2_with (first
        | (go_at_call 16; refine (HR.out _ l1).mono ?_; rintro e w2 ⟨rfl, l2⟩)
        | ((with_reducible refine wpList_buildOne (o := ⟨some 21, .buildSlice 22 1 #[(0, .tmp 20)], _, _, _, none⟩) rfl _ _ _ rfl (U R).toArray i0 _ Tryd.underlying22 HI.out.hi HI.out.hz ?_ ?_ ?_ ?_ ?_); (rw [HI.out.hs, List.size_toArray, U_length, HRl.out]); (rw [List.size_toArray, U_length, HRl.out]; decide); (rw [List.size_toArray, U_length, HRl.out]; decide); rfl)
        | (go_at_call 64; refine (HW.out).mono ?_; rintro e w1 ⟨Aq, cq, rfl, _, _, _, l1⟩))
      go_ret
      have s1 := blk_digs (Blk.new w2 31 (U R).toArray (U R) rfl) HRl.out
      exact ⟨some ⟨w2.heap.size, 0, none⟩, 1, rfl, Nat.le_refl _, by decide, by simpa [Ds] using s1, fun ad _ e => by cases e; exact (Later.trans_ l1 l2).size, (Later.trans_ l1 l2).alloc (Later.trans_ l1 l2).size _⟩
    · have hm0 : 1 ≤ qs.length := by
        cases qs with
        | nil => exact absurd rfl hq0
        | cons a r => simp
      obtain ⟨m, hm⟩ : ∃ m, m = qs.length := ⟨_, rfl⟩
      have hm1 : ((m : Int) == 0) = false := by rw [beq_eq_false_iff_ne]; omega
      have HW2 : Hid (Calls Tryd.prog 64 #[.slice A1 k c1, .int .i64 b, .int .i64 (b + (n : Int))] w fun e w' => ∃ Aq cq, e = .returned (.slice Aq m cq) ∧ Sl w' 1 Aq m (N64 qs) ∧ m ≤ cq ∧ cq ≤ 9223372036854775807 ∧ Later w w') := Lib.hid (by rw [hm]; exact HW.out)
      by_cases hn : n = 1
      · subst hn
        rw [Mk.many_small _ _ _ _ _ hq0 (by omega)]
        clear hs hl hll ih tab hqa hqi hql hq0 hm0 hm HW
        go_enter Tryd.func46, Tryd.ntmps46
        go_wp2_with (go_at_call 64; refine (HW2.out).mono ?_; rintro e w1 ⟨Aq, cq, rfl, _, _, _, l1⟩)
        go_ret
        exact ⟨none, 0, rfl, Nat.le_refl _, by decide, ⟨rfl, fun h => absurd h (by decide)⟩, fun _ h => absurd h (by decide), l1⟩
      · have h2 : 2 ≤ n := by omega
        obtain ⟨ad, rfl, _, _⟩ := hs.2 (by omega)
        have k1 := Mk.sp_lt h2
        have k0 := Mk.sp_pos n
        have hP := Lib.hid fun w' => refSplit_any n w' h2 (by omega)
        have hn1' : ((n : Int) == 1) = false := by rw [beq_eq_false_iff_ne]; omega
        rw [Mk.many_two _ _ _ _ _ hq0 (by omega), hll]
        have HF := Lib.hid fun (w' : World) (Aq : Option Addr) (cq : Nat) (hw : Later w w') (sq : Sl w' 1 Aq m (N64 qs)) => (by
          have h := ih (some ad) (Mk.sp n) c b (l.take (Mk.sp n)) Aq m cq qs w' (by omega) k0 ((hs.keep hw).dfront hl (by omega)) (isD_take hl _) (by omega) (by omega) hc sq (by omega) hqa hb (by omega) (tab.keep hw)
          rw [Mk.wi_left hqa (fun p hp => (hqi p hp).1)] at h
          exact h : Calls Tryd.prog 46 #[.slice (some ad) (Mk.sp n) c, .int .i64 b, .slice Aq m cq] w' fun e w'' => GotDs (Mk.many nodeD emptyD (l.take (Mk.sp n)) b (qs.take (Mk.cnt qs (b + Mk.sp n)))) w' e w'')
        have HB := Lib.hid fun (w' : World) (Aq : Option Addr) (cq : Nat) (hw : Later w w') (sq : Sl w' 1 Aq m (N64 qs)) => (by
          have h := ih _ (n - Mk.sp n) (c - Mk.sp n) (b + Mk.sp n) (l.drop (Mk.sp n)) Aq m cq qs w' (by omega) (by omega) ((hs.keep hw).dback hl (k := Mk.sp n) (c := c) (by omega) hnc) (isD_drop hl _) (by omega) (by omega) (by omega) sq (by omega) hqa (by omega) (by omega) (tab.keep hw)
          rw [Mk.wi_right hqa (fun p hp => by have := (hqi p hp).2; omega)] at h
          exact h : Calls Tryd.prog 46 #[.slice (if c = Mk.sp n then some ad else some (ad.add (Mk.sp n * 16))) (n - Mk.sp n) (c - Mk.sp n), .int .i64 (b + Mk.sp n), .slice Aq m cq] w' fun e w'' => GotDs (Mk.many nodeD emptyD (l.drop (Mk.sp n)) (b + Mk.sp n) (qs.drop (Mk.cnt qs (b + Mk.sp n)))) w' e w'')
        have hlen1 := many_len l.length (l.take (Mk.sp n)) b (qs.take (Mk.cnt qs (b + Mk.sp n))) (by rw [List.length_take]; omega) (by rw [List.length_take]; omega)
        have hlen2 := many_len l.length (l.drop (Mk.sp n)) (b + Mk.sp n) (qs.drop (Mk.cnt qs (b + Mk.sp n))) (by rw [List.length_drop]; omega) (by rw [List.length_drop]; omega)
        rw [List.length_take, hll] at hlen1
        rw [List.length_drop, hll] at hlen2
        obtain ⟨J1, hJ1⟩ : ∃ J, J = Mk.many nodeD emptyD (l.take (Mk.sp n)) b (qs.take (Mk.cnt qs (b + Mk.sp n))) := ⟨_, rfl⟩
        rw [← hJ1] at HF hlen1 ⊢
        obtain ⟨J2, hJ2⟩ : ∃ J, J = Mk.many nodeD emptyD (l.drop (Mk.sp n)) (b + Mk.sp n) (qs.drop (Mk.cnt qs (b + Mk.sp n))) := ⟨_, rfl⟩
        rw [← hJ2] at HB hlen2 ⊢
        obtain ⟨K, hK⟩ : ∃ K, K = Mk.sp n := ⟨_, rfl⟩
        rw [← hK] at HF HB hP k1 k0 hlen1 hlen2
        obtain ⟨m1, hm1'⟩ : ∃ m, m = J1.length := ⟨_, rfl⟩
        obtain ⟨m2, hm2'⟩ : ∃ m, m = J2.length := ⟨_, rfl⟩
        have HLJ : Hid ((J1 ++ J2).length = m1 + m2) := Lib.hid (by rw [List.length_append, hm1', hm2'])
        have HFF : Hid (∀ (w' : World) (Aq : Option Addr) (cq : Nat), Later w w' → Sl w' 1 Aq m (N64 qs) → Calls Tryd.prog 46 #[.slice (some ad) K c, .int .i64 b, .slice Aq m cq] w' fun e w'' => ∃ A c, e = .returned (.slice A m1 c) ∧ Sl w'' 16 A m1 (Ds J1) ∧ Later w' w'') := Lib.hid fun w' Aq cq h1 h2 => (HF.out w' Aq cq h1 h2).mono fun e w'' h => by
          obtain ⟨A, c, e, _, _, s, _, l⟩ := h
          rw [hm1']; exact ⟨A, c, e, s, l⟩
        have HBB : Hid (∀ (w' : World) (Aq : Option Addr) (cq : Nat), Later w w' → Sl w' 1 Aq m (N64 qs) → Calls Tryd.prog 46 #[.slice (if c = K then some ad else some (ad.add (K * 16))) (n - K) (c - K), .int .i64 (b + K), .slice Aq m cq] w' fun e w'' => ∃ A c, e = .returned (.slice A m2 c) ∧ Sl w'' 16 A m2 (Ds J2) ∧ Later w' w'') := Lib.hid fun w' Aq cq h1 h2 => (HB.out w' Aq cq h1 h2).mono fun e w'' h => by
          obtain ⟨A, c, e, _, _, s, _, l⟩ := h
          rw [hm2']; exact ⟨A, c, e, s, l⟩
        obtain ⟨i0, hI⟩ := dgI
        have HI := Lib.hid hI
        rw [← hm1'] at hlen1; rw [← hm2'] at hlen2
        replace hm0 : 0 < m := by omega
        clear hI hK hJ1 hJ2 ih hs hl hll tab hqa hqi hq0 hm HW HF HB hm1' hm2'
        have z0 : (0 : Int) ≤ (K : Int) := by omega
        have z1 : (K : Int) ≤ (n : Int) := by omega
        have z2 : (K : Int) ≤ (c : Int) := by omega
        have z3 : (n : Int) ≤ (c : Int) := by omega
        have z7 : IntKind.i64.wrap (b + (K : Int)) = b + (K : Int) := IntWalk.i64_in _ (by omega)
        go_enter Tryd.func46, Tryd.ntmps46
        go_wp2_with (first
          | (go_at_call 40; refine (hP.out _).mono ?_; rintro e w2 ⟨rfl, rfl⟩)
          | (go_at_call 64; refine (HW2.out).mono ?_; rintro e w1 ⟨Aq, cq, rfl, sq, _, _, lr⟩))
        refine wp_region_held_drew (S := fun w' => True) (by kernel_rfl) trivial (fun hHeld => ?_)
        replace lr := Later.trans_ lr ((Below.refl w2.heap.size w2).drew)
        replace sq := sq.drew
        generalize w2.drew = u0 at lr sq hHeld ⊢
        have hw0 := lr.size
        have hqb : ∀ ad, Aq = some ad → ad.block < u0.heap.size := fun ad e => by (obtain ⟨a, e', hlt, _⟩ := sq.2 hm0; rw [e] at e'; cases e'; exact hlt)
        have hsz := Nat.le_refl u0.heap.size
        refine wpAnyH_take (i := 1) (oi := ⟨some 29, .move (.tmp 0), _, _, _, none⟩) (v := .slice (some ad) n c) rfl (by kernel_rfl) (by kernel_rfl) (by kernel_rfl) (fun _ _ _ h => h) (Or.inl ⟨by rfl, fun _ _ => rfl⟩) hHeld ?_
        simp only [Act.put, List.setIfInBounds_toArray, List.set_cons_zero, List.set_cons_succ]
        refine wpAnyH_take (i := 2) (oi := ⟨some 30, .move (.tmp 8), _, _, _, none⟩) (v := .int .i64 K) rfl (by kernel_rfl) (by kernel_rfl) (by kernel_rfl) (fun _ _ _ h => h) (Or.inl ⟨by rfl, fun _ _ => rfl⟩) hHeld ?_
        simp only [Act.put, List.setIfInBounds_toArray, List.set_cons_zero, List.set_cons_succ]
        refine wpAnyH_take (i := 3) (oi := ⟨some 31, .slice 22 (.tmp 29) none (some (.tmp 30)) none, _, _, _, none⟩) (v := .slice (some ad) K c) rfl (by kernel_rfl) (by kernel_rfl) (by kernel_rfl) (fun _ _ _ h => h) (Or.inl ⟨by rfl, fun w _ => by go_simp⟩) hHeld ?_
        simp only [Act.put, List.setIfInBounds_toArray, List.set_cons_zero, List.set_cons_succ]
        refine wpAnyH_take (i := 4) (oi := ⟨some 32, .move (.tmp 1), _, _, _, none⟩) (v := .int .i64 b) rfl (by kernel_rfl) (by kernel_rfl) (by kernel_rfl) (fun _ _ _ h => h) (Or.inl ⟨by rfl, fun _ _ => rfl⟩) hHeld ?_
        simp only [Act.put, List.setIfInBounds_toArray, List.set_cons_zero, List.set_cons_succ]
        refine wpAnyH_take (i := 5) (oi := ⟨some 33, .move (.tmp 7), _, _, _, none⟩) (v := .slice Aq m cq) rfl (by kernel_rfl) (by kernel_rfl) (by kernel_rfl) (fun _ _ _ h => h) (Or.inl ⟨by rfl, fun _ _ => rfl⟩) hHeld ?_
        simp only [Act.put, List.setIfInBounds_toArray, List.set_cons_zero, List.set_cons_succ]
        refine wpAnyH_take (i := 8) (oi := ⟨some 36, .move (.tmp 0), _, _, _, none⟩) (v := .slice (some ad) n c) rfl (by kernel_rfl) (by kernel_rfl) (by kernel_rfl) (fun _ _ _ h => h) (Or.inl ⟨by rfl, fun _ _ => rfl⟩) hHeld ?_
        simp only [Act.put, List.setIfInBounds_toArray, List.set_cons_zero, List.set_cons_succ]
        refine wpAnyH_take (i := 9) (oi := ⟨some 37, .move (.tmp 8), _, _, _, none⟩) (v := .int .i64 K) rfl (by kernel_rfl) (by kernel_rfl) (by kernel_rfl) (fun _ _ _ h => h) (Or.inl ⟨by rfl, fun _ _ => rfl⟩) hHeld ?_
        simp only [Act.put, List.setIfInBounds_toArray, List.set_cons_zero, List.set_cons_succ]
        refine wpAnyH_take (i := 10) (oi := ⟨some 38, .slice 22 (.tmp 36) (some (.tmp 37)) none none, _, _, _, none⟩) (v := .slice (if c = K then some ad else some (ad.add (K * 16))) (n - K) (c - K)) rfl (by kernel_rfl) (by kernel_rfl) (by kernel_rfl) (fun _ _ _ h => h) (Or.inl ⟨by rfl, fun w _ => by by_cases hcq : c = K <;> go_simp⟩) hHeld ?_
        simp only [Act.put, List.setIfInBounds_toArray, List.set_cons_zero, List.set_cons_succ]
        refine wpAnyH_take (i := 11) (oi := ⟨some 39, .move (.tmp 1), _, _, _, none⟩) (v := .int .i64 b) rfl (by kernel_rfl) (by kernel_rfl) (by kernel_rfl) (fun _ _ _ h => h) (Or.inl ⟨by rfl, fun _ _ => rfl⟩) hHeld ?_
        simp only [Act.put, List.setIfInBounds_toArray, List.set_cons_zero, List.set_cons_succ]
        refine wpAnyH_take (i := 12) (oi := ⟨some 40, .move (.tmp 8), _, _, _, none⟩) (v := .int .i64 K) rfl (by kernel_rfl) (by kernel_rfl) (by kernel_rfl) (fun _ _ _ h => h) (Or.inl ⟨by rfl, fun _ _ => rfl⟩) hHeld ?_
        simp only [Act.put, List.setIfInBounds_toArray, List.set_cons_zero, List.set_cons_succ]
        refine wpAnyH_take (i := 13) (oi := ⟨some 41, .binOp .add 3 (.tmp 39) (.tmp 40) 3, _, _, _, none⟩) (v := .int .i64 (b + (K : Int))) rfl (by kernel_rfl) (by kernel_rfl) (by kernel_rfl) (fun _ _ _ h => h) (Or.inl ⟨by rfl, fun w _ => by go_simp⟩) hHeld ?_
        simp only [Act.put, List.setIfInBounds_toArray, List.set_cons_zero, List.set_cons_succ]
        refine wpAnyH_take (i := 14) (oi := ⟨some 42, .move (.tmp 7), _, _, _, none⟩) (v := .slice Aq m cq) rfl (by kernel_rfl) (by kernel_rfl) (by kernel_rfl) (fun _ _ _ h => h) (Or.inl ⟨by rfl, fun _ _ => rfl⟩) hHeld ?_
        simp only [Act.put, List.setIfInBounds_toArray, List.set_cons_zero, List.set_cons_succ]
        refine wpAnyH_ready (rs := [0, 6]) (by kernel_rfl) (by simp) (AllReadyH.cons (o := ⟨some 28, .buildSlice 22 0 #[], _, _, _, none⟩) rfl (fun K' hK => ?_) (AllReadyH.cons (o := ⟨some 34, .call { callee := .value (.func 46), args := #[.tmp 31, .tmp 32, .tmp 33], argTypes := #[22, 3, 37] }, _, _, _, none⟩) rfl (fun K' hK => ?_) (AllReadyH.nil)))
        · go_simp
          refine hK.out _ _ trivial (fun hHeld => ?_)
          clear hK K'
          try simp only [Act.put, List.setIfInBounds_toArray, List.set_cons_zero, List.set_cons_succ]
          have own0 := own_empty u0 u0.heap.size hsz
          have s0 := laterX u0 (.cells #[] 31)
          replace lr := Later.trans_ lr s0
          replace sq := sq.keep s0
          replace hsz := Nat.le_trans hsz s0.size
          clear s0
          generalize u0.alloc (.cells #[] 31) = u1 at own0 lr sq hsz hHeld ⊢
          refine wpAnyH_ready (rs := [6]) (by kernel_rfl) (by simp) (AllReadyH.cons (o := ⟨some 34, .call { callee := .value (.func 46), args := #[.tmp 31, .tmp 32, .tmp 33], argTypes := #[22, 3, 37] }, _, _, _, none⟩) rfl (fun K' hK => ?_) (AllReadyH.nil))
          go_simp
          refine (HFF.out _ Aq cq lr sq).mono ?_
          rintro e u2 ⟨A2, c2, rfl, s2, l2⟩
          replace lr := Later.trans_ lr l2
          replace sq := sq.keep l2
          replace own0 := own_below own0 l2
          replace hsz := Nat.le_trans hsz l2.size
          refine hK.out _ _ trivial (fun hHeld => ?_)
          clear hK K'
          try simp only [Act.put, List.setIfInBounds_toArray, List.set_cons_zero, List.set_cons_succ]
          refine wpAnyH_ready (rs := [7]) (by kernel_rfl) (by simp) (AllReadyH.cons (o := ⟨some 35, .call { callee := .builtin .append, args := #[.tmp 28, .tmp 34], argTypes := #[22, 22] }, _, _, _, none⟩) rfl (fun K' hK => ?_) (AllReadyH.nil))
          refine wp_app _ (.tmp 28) (.tmp 34) 22 rfl u0.heap.size 31 i0 _ 16 16 Tryd.underlying22 HI.out.hi HI.out.hz HI.out.hs HI.out.hb rfl (by decide) _ 0 [] rfl own0 A2 m1 c2 (Ds J1) rfl s2 (U_one _) (by unfold maxLen; omega) (by omega) hsz ?_
          intro v1 u3 own1 grow1
          have hr1 := fun k hk => (own0.lt k hk).1
          replace sq := sq.later ((Below.refl u0.heap.size u2).grown grow1 hsz hr1) (fun ad e _ => hqb ad e)
          replace lr := lr.grown grow1 (Nat.le_trans hw0 hsz) (fun k hk => Nat.le_trans hw0 (hr1 k hk))
          replace hsz := Nat.le_trans hsz grow1.size
          refine hK.out _ _ trivial (fun hHeld => ?_)
          clear hK K'
          try simp only [Act.put, List.setIfInBounds_toArray, List.set_cons_zero, List.set_cons_succ]
          refine wpAnyH_ready (rs := [15]) (by kernel_rfl) (by simp) (AllReadyH.cons (o := ⟨some 43, .call { callee := .value (.func 46), args := #[.tmp 38, .tmp 41, .tmp 42], argTypes := #[22, 3, 37] }, _, _, _, none⟩) rfl (fun K' hK => ?_) (AllReadyH.nil))
          go_simp
          refine (HBB.out _ Aq cq lr sq).mono ?_
          rintro e u4 ⟨A3, c3, rfl, s3, l3⟩
          replace own1 := own_below own1 l3
          replace lr := Later.trans_ lr l3
          replace hsz := Nat.le_trans hsz l3.size
          refine hK.out _ _ trivial (fun hHeld => ?_)
          clear hK K'
          try simp only [Act.put, List.setIfInBounds_toArray, List.set_cons_zero, List.set_cons_succ]
          refine wpAnyH_ready (rs := [16]) (by kernel_rfl) (by simp) (AllReadyH.cons (o := ⟨some 44, .call { callee := .builtin .append, args := #[.tmp 35, .tmp 43], argTypes := #[22, 22] }, _, _, _, none⟩) rfl (fun K' hK => ?_) (AllReadyH.nil))
          refine wp_app _ (.tmp 35) (.tmp 43) 22 rfl u0.heap.size 31 i0 _ 16 16 Tryd.underlying22 HI.out.hi HI.out.hz HI.out.hs HI.out.hb rfl (by decide) _ (0 + m1) ([] ++ Ds J1) rfl own1 A3 m2 c3 (Ds J2) rfl s3 (U_one _) (by unfold maxLen; omega) (by omega) hsz ?_
          intro v2 u5 own2 grow2
          have hr2 := fun k hk => (own1.lt k hk).1
          replace lr := lr.grown grow2 (Nat.le_trans hw0 hsz) (fun k hk => Nat.le_trans hw0 (hr2 k hk))
          refine hK.out _ _ trivial (fun hHeld => ?_)
          clear hK K'
          try simp only [Act.put, List.setIfInBounds_toArray, List.set_cons_zero, List.set_cons_succ]
          refine wpAnyH_take (i := 17) (oi := ⟨some 6, .assign (.tmp 44), _, _, _, none⟩) (v := v2) rfl (by kernel_rfl) (by kernel_rfl) (by kernel_rfl) (fun _ _ _ h => h) (Or.inl ⟨by rfl, fun _ _ => rfl⟩) hHeld ?_
          simp only [Act.put, List.setIfInBounds_toArray, List.set_cons_zero, List.set_cons_succ]
          refine wpAnyH_done (by kernel_rfl) ?_ _
          rw [List.nil_append, ← ds_app, Nat.zero_add] at own2
          obtain ⟨A4, c4, rfl, q1, q2, q3, q4⟩ := own_form own2
          clear own2 own1 own0
          go_wp2
          go_ret
          exact ⟨A4, c4, by rw [HLJ.out]; rfl, by rw [HLJ.out]; exact q1, q2, by rw [HLJ.out]; exact q3, fun ad _ e => Nat.le_trans hw0 (q4 ad e).1, lr⟩

        · go_simp
          refine (HFF.out _ Aq cq lr sq).mono ?_
          rintro e u1 ⟨A2, c2, rfl, s2, l2⟩
          replace lr := Later.trans_ lr l2
          replace sq := sq.keep l2
          replace hsz := Nat.le_trans hsz l2.size
          refine hK.out _ _ trivial (fun hHeld => ?_)
          clear hK K'
          try simp only [Act.put, List.setIfInBounds_toArray, List.set_cons_zero, List.set_cons_succ]
          refine wpAnyH_ready (rs := [0]) (by kernel_rfl) (by simp) (AllReadyH.cons (o := ⟨some 28, .buildSlice 22 0 #[], _, _, _, none⟩) rfl (fun K' hK => ?_) (AllReadyH.nil))
          go_simp
          refine hK.out _ _ trivial (fun hHeld => ?_)
          clear hK K'
          try simp only [Act.put, List.setIfInBounds_toArray, List.set_cons_zero, List.set_cons_succ]
          have own0 := own_empty u1 u0.heap.size hsz
          have s0 := laterX u1 (.cells #[] 31)
          replace lr := Later.trans_ lr s0
          replace sq := sq.keep s0
          replace s2 := s2.keep s0
          replace hsz := Nat.le_trans hsz s0.size
          clear s0
          generalize u1.alloc (.cells #[] 31) = u2 at own0 lr sq s2 hsz hHeld ⊢
          refine wpAnyH_ready (rs := [7]) (by kernel_rfl) (by simp) (AllReadyH.cons (o := ⟨some 35, .call { callee := .builtin .append, args := #[.tmp 28, .tmp 34], argTypes := #[22, 22] }, _, _, _, none⟩) rfl (fun K' hK => ?_) (AllReadyH.nil))
          refine wp_app _ (.tmp 28) (.tmp 34) 22 rfl u0.heap.size 31 i0 _ 16 16 Tryd.underlying22 HI.out.hi HI.out.hz HI.out.hs HI.out.hb rfl (by decide) _ 0 [] rfl own0 A2 m1 c2 (Ds J1) rfl s2 (U_one _) (by unfold maxLen; omega) (by omega) hsz ?_
          intro v1 u3 own1 grow1
          have hr1 := fun k hk => (own0.lt k hk).1
          replace sq := sq.later ((Below.refl u0.heap.size u2).grown grow1 hsz hr1) (fun ad e _ => hqb ad e)
          replace lr := lr.grown grow1 (Nat.le_trans hw0 hsz) (fun k hk => Nat.le_trans hw0 (hr1 k hk))
          replace hsz := Nat.le_trans hsz grow1.size
          refine hK.out _ _ trivial (fun hHeld => ?_)
          clear hK K'
          try simp only [Act.put, List.setIfInBounds_toArray, List.set_cons_zero, List.set_cons_succ]
          refine wpAnyH_ready (rs := [15]) (by kernel_rfl) (by simp) (AllReadyH.cons (o := ⟨some 43, .call { callee := .value (.func 46), args := #[.tmp 38, .tmp 41, .tmp 42], argTypes := #[22, 3, 37] }, _, _, _, none⟩) rfl (fun K' hK => ?_) (AllReadyH.nil))
          go_simp
          refine (HBB.out _ Aq cq lr sq).mono ?_
          rintro e u4 ⟨A3, c3, rfl, s3, l3⟩
          replace own1 := own_below own1 l3
          replace lr := Later.trans_ lr l3
          replace hsz := Nat.le_trans hsz l3.size
          refine hK.out _ _ trivial (fun hHeld => ?_)
          clear hK K'
          try simp only [Act.put, List.setIfInBounds_toArray, List.set_cons_zero, List.set_cons_succ]
          refine wpAnyH_ready (rs := [16]) (by kernel_rfl) (by simp) (AllReadyH.cons (o := ⟨some 44, .call { callee := .builtin .append, args := #[.tmp 35, .tmp 43], argTypes := #[22, 22] }, _, _, _, none⟩) rfl (fun K' hK => ?_) (AllReadyH.nil))
          refine wp_app _ (.tmp 35) (.tmp 43) 22 rfl u0.heap.size 31 i0 _ 16 16 Tryd.underlying22 HI.out.hi HI.out.hz HI.out.hs HI.out.hb rfl (by decide) _ (0 + m1) ([] ++ Ds J1) rfl own1 A3 m2 c3 (Ds J2) rfl s3 (U_one _) (by unfold maxLen; omega) (by omega) hsz ?_
          intro v2 u5 own2 grow2
          have hr2 := fun k hk => (own1.lt k hk).1
          replace lr := lr.grown grow2 (Nat.le_trans hw0 hsz) (fun k hk => Nat.le_trans hw0 (hr2 k hk))
          refine hK.out _ _ trivial (fun hHeld => ?_)
          clear hK K'
          try simp only [Act.put, List.setIfInBounds_toArray, List.set_cons_zero, List.set_cons_succ]
          refine wpAnyH_take (i := 17) (oi := ⟨some 6, .assign (.tmp 44), _, _, _, none⟩) (v := v2) rfl (by kernel_rfl) (by kernel_rfl) (by kernel_rfl) (fun _ _ _ h => h) (Or.inl ⟨by rfl, fun _ _ => rfl⟩) hHeld ?_
          simp only [Act.put, List.setIfInBounds_toArray, List.set_cons_zero, List.set_cons_succ]
          refine wpAnyH_done (by kernel_rfl) ?_ _
          rw [List.nil_append, ← ds_app, Nat.zero_add] at own2
          obtain ⟨A4, c4, rfl, q1, q2, q3, q4⟩ := own_form own2
          clear own2 own1 own0
          go_wp2
          go_ret
          exact ⟨A4, c4, by rw [HLJ.out]; rfl, by rw [HLJ.out]; exact q1, q2, by rw [HLJ.out]; exact q3, fun ad _ e => Nat.le_trans hw0 (q4 ad e).1, lr⟩

end Go.Proofs.YtaihfkcoiagdaabDoor

/-
  WALKS: the reference's Many.
-/
namespace Go.Proofs.YtaihfkcoiagdaabDoor
open Go.RowKit Go.ChangeShapes Go.WideShapes Go.ChangeAt

set_option maxRecDepth 100000 in
set_option maxHeartbeats 1000000 in
theorem refManyP_bad (A A1 : Option Addr) (n c k c1 : Nat) (ps : List Int) (w : World) (hsp : Sl w 1 A1 k (N64 ps)) (hk : k ≤ 9223372036854775807) (hb : arePl (-1) ps (n : Int) = false) :
    Calls Tryd.prog 22 #[.slice A n c, .slice A1 k c1] w fun e w' => GotP [] 1 w e w' := by
  have HP := Lib.hid fun (w' : World) (h : Later w w') => (by have h9 := refAscend_any A1 k c1 ps (n : Int) w' (hsp.keep h) hk; rw [hb] at h9; exact h9 : Calls Tryd.prog 45 #[.slice A1 k c1, .int .i64 n] w' fun e w'' => e = .returned (.bool false) ∧ Later w' w'')
  clear hsp hb
  go_enter Tryd.func22, Tryd.ntmps22
  go_wp2_with (first
    | ((with_reducible refine wpList_store_abs (o := ⟨none, .store 28 (.tmp 4) (.tmp 12), _, _, _, none⟩) rfl _ _ _ rfl w.heap.size 28 [.slice none 0 0, .int .i64 0] [.slice none 0 0, .int .i64 1] ?_ ?_ ((Blk.new w _ _ _ rfl).keep l1) (pth_size _ _) rfl ?_ ?_); rfl; rfl; (intro u hu; simp only [List.mem_cons, List.not_mem_nil, or_false] at hu; rcases hu with rfl | rfl <;> rfl); intro w5 z1 z2)
    | (go_at_call 45; refine (HP.out _ (laterX _ _)).mono ?_; rintro e w1 ⟨rfl, l1⟩))
  exact bodyPost_ret (v := .agg #[.slice none 0 0, .int .i64 1]) (pth_ret Tryd.results22 _ _ w.heap.size _ _ rfl z1) rfl ⟨none, 0, rfl, Nat.le_refl _, by decide, ⟨rfl, fun h => absurd h (by decide)⟩, Below.only (Later.trans_ (laterX _ _) l1) z2 (Nat.le_refl _)⟩

set_option maxRecDepth 100000 in
set_option maxHeartbeats 1000000 in
theorem refManyP_zero (A A1 : Option Addr) (c k c1 : Nat) (ps : List Int) (w : World) (hsp : Sl w 1 A1 k (N64 ps)) (hk : k ≤ 9223372036854775807) (hb : arePl (-1) ps ((0 : Nat) : Int) = true) :
    Calls Tryd.prog 22 #[.slice A 0 c, .slice A1 k c1] w fun e w' => GotP [] 0 w e w' := by
  have HP := Lib.hid fun (w' : World) (h : Later w w') => (by have h9 := refAscend_any A1 k c1 ps ((0 : Nat) : Int) w' (hsp.keep h) hk; rw [hb] at h9; exact h9 : Calls Tryd.prog 45 #[.slice A1 k c1, .int .i64 0] w' fun e w'' => e = .returned (.bool true) ∧ Later w' w'')
  clear hsp hb
  go_enter Tryd.func22, Tryd.ntmps22
  go_wp2_with (first
    | ((with_reducible refine wpList_store_abs (o := ⟨none, .store 28 (.tmp 4) (.tmp 16), _, _, _, none⟩) rfl _ _ _ rfl w.heap.size 28 [.slice none 0 0, .int .i64 0] [.slice none 0 0, .int .i64 0] ?_ ?_ ((Blk.new w _ _ _ rfl).keep l1) (pth_size _ _) rfl ?_ ?_); rfl; rfl; (intro u hu; simp only [List.mem_cons, List.not_mem_nil, or_false] at hu; rcases hu with rfl | rfl <;> rfl); intro w5 z1 z2)
    | (go_at_call 45; refine (HP.out _ (laterX _ _)).mono ?_; rintro e w1 ⟨rfl, l1⟩))
  exact bodyPost_ret (v := .agg #[.slice none 0 0, .int .i64 0]) (pth_ret Tryd.results22 _ _ w.heap.size _ _ rfl z1) rfl ⟨none, 0, rfl, Nat.le_refl _, by decide, ⟨rfl, fun h => absurd h (by decide)⟩, Below.only (Later.trans_ (laterX _ _) l1) z2 (Nat.le_refl _)⟩

set_option maxRecDepth 100000 in
set_option maxHeartbeats 1000000 in
theorem refManyP_any (A A1 : Option Addr) (n c k c1 : Nat) (l : List Wm.Bs) (ps : List Int) (w : World) (hn1 : 1 ≤ n) (hbig : n ≤ 1000000) (hnc : n ≤ c) (hc : c ≤ 9223372036854775807) (hs : Sl w 16 A n (Ds l)) (hl : isD l) (hsp : Sl w 1 A1 k (N64 ps)) (hk : k ≤ 1000) (hb : arePl (-1) ps (n : Int) = true) (tab : Tab0 w) :
    Calls Tryd.prog 22 #[.slice A n c, .slice A1 k c1] w fun e w' => GotP (Mk.many nodeD emptyD l 0 ps) 0 w e w' := by
  have HP := Lib.hid fun (w' : World) (h : Later w w') => (by have h9 := refAscend_any A1 k c1 ps (n : Int) w' (hsp.keep h) (by omega); rw [hb] at h9; exact h9 : Calls Tryd.prog 45 #[.slice A1 k c1, .int .i64 n] w' fun e w'' => e = .returned (.bool true) ∧ Later w' w'')
  have hsp2 := arePl_spec ps _ _ hb
  have HM := Lib.hid fun (w' : World) (h : Later w w') => (by
    have h9 := refMany_any n A n c 0 l A1 k c1 ps w' (Nat.le_refl _) hn1 (hs.keep h) hl hbig hnc hc (hsp.keep h) hk hsp2.2 (by omega) (by omega) (tab.keep h)
    rw [Mk.wi_all (fun p hp => by have := hsp2.1 p hp; omega)] at h9
    exact h9 : Calls Tryd.prog 46 #[.slice A n c, .int .i64 0, .slice A1 k c1] w' fun e w'' => GotDs (Mk.many nodeD emptyD l 0 ps) w' e w'')
  obtain ⟨J, hJ⟩ : ∃ J, J = Mk.many nodeD emptyD l 0 ps := ⟨_, rfl⟩
  rw [← hJ] at HM ⊢
  have h0 : ((n : Int) == 0) = false := by rw [beq_eq_false_iff_ne]; omega
  clear hJ hsp2 hs hl hsp hb tab
  go_enter Tryd.func22, Tryd.ntmps22
  go_wp2_with (first
    | ((with_reducible refine wpList_store_abs (o := ⟨none, .store 28 (.tmp 4) (.tmp 20), _, _, _, none⟩) rfl _ _ _ rfl w.heap.size 28 [.slice none 0 0, .int .i64 0] [.slice A2 J.length c2, .int .i64 0] ?_ ?_ ((Blk.new w _ _ _ rfl).keep (Later.trans_ l1 l2)) (pth_size _ _) rfl ?_ ?_); rfl; rfl; (intro u hu; simp only [List.mem_cons, List.not_mem_nil, or_false] at hu; rcases hu with rfl | rfl <;> rfl); intro w5 z1 z2)
    | (go_at_call 46; refine (HM.out _ (Later.trans_ (laterX _ _) l1)).mono ?_; rintro e w2 ⟨A2, c2, rfl, q1, q2, q3, q4, l2⟩)
    | (go_at_call 45; refine (HP.out _ (laterX _ _)).mono ?_; rintro e w1 ⟨rfl, l1⟩))
  exact bodyPost_ret (v := .agg #[.slice A2 J.length c2, .int .i64 0]) (pth_ret Tryd.results22 _ _ w.heap.size _ _ rfl z1) rfl ⟨A2, c2, rfl, q1, q2, q3.lx (Lx.only z2) (fun h0 ad e => by have h9 := q4 ad h0 e; have h8 := l1.size; simp at h8; omega), Below.only (Later.trans_ (laterX _ _) (Later.trans_ l1 l2)) z2 (Nat.le_refl _)⟩
end Go.Proofs.YtaihfkcoiagdaabDoor

/-
  FOR the reference's walk: its answer in cells; slices cut.
-/
namespace Go.Proofs.YtaihfkcoiagdaabDoor
open Go.RowKit Go.ChangeShapes Go.WideShapes Go.ChangeAt

set_option maxRecDepth 100000 in
theorem dcut_run {A : Option Addr} {n c u : Nat} (hu : u ≤ n) (hnc : n ≤ c) :
    ∃ A', (∀ w : World, (Instr.slice 22 (.slice A n c) (some (.int .i64 u)) none none).run Tryd.prog w = .ok (.slice A' (n - u) (c - u)) w) ∧ ∀ (w : World) (l : List Wm.Bs), isD l → Sl w 16 A n (Ds l) → Sl w 16 A' (n - u) (Ds (l.drop u)) := by
  refine ⟨if c = u then A else A.map (·.add (u * 16)), fun w => ?_, fun w l hl h => ?_⟩
  · have h1 := run_slice_l (P := Tryd.prog) (w := w) 22 A n c Tryd.underlying22 .i64 u (by omega) (by omega)
    have h2 : (sizeOf (Tryd.prog.elem 22)).run Tryd.prog w = .ok 16 w := by kernel_rfl
    rw [h1, h2]
    simp [Result.andThen, sliced]
  · rw [← Ds_drop hl]; exact h.cut hu hnc

/-- What walk answers. -/
def WkC (d : Wm.Bs) (f u : Int) (ok : Bool) : List Value := U d ++ [.int .i64 f, .int .i64 u, .bool ok]
theorem WkC_len {d : Wm.Bs} (h : d.length = 16) (f u : Int) (ok : Bool) : (WkC d f u ok).length = 19 := by unfold WkC; rw [List.length_append, U_length, h]; rfl
theorem WkC_one (d : Wm.Bs) (f u : Int) (ok : Bool) : ∀ x ∈ WkC d f u ok, x.oneCell' = true := by
  intro x hx
  unfold WkC at hx
  rcases List.mem_append.1 hx with h | h
  · exact U_one _ x h
  · simp only [List.mem_cons, List.not_mem_nil, or_false] at h
    rcases h with rfl | rfl | rfl <;> rfl
theorem WkC_sz {d : Wm.Bs} (h : d.length = 16) (f u : Int) (ok : Bool) : (Tryd.prog.info? 87).map (·.size) = some (WkC d f u ok).length := by rw [WkC_len h]; kernel_rfl
theorem WkC_same {d d2 : Wm.Bs} (h : d.length = 16) (h2 : d2.length = 16) (f u f2 u2 : Int) (ok ok2 : Bool) : (WkC d f u ok).length = (WkC d2 f2 u2 ok2).length := by rw [WkC_len h, WkC_len h2]
theorem WkC_16 {d : Wm.Bs} (h : d.length = 16) (f u : Int) (ok : Bool) : (WkC d f u ok)[16]? = some (.int .i64 f) := by unfold WkC; rw [List.getElem?_append_right (by rw [U_length, h]; decide), U_length, h]; rfl
theorem WkC_17 {d : Wm.Bs} (h : d.length = 16) (f u : Int) (ok : Bool) : (WkC d f u ok)[17]? = some (.int .i64 u) := by unfold WkC; rw [List.getElem?_append_right (by rw [U_length, h]; decide), U_length, h]; rfl
theorem WkC_18 {d : Wm.Bs} (h : d.length = 16) (f u : Int) (ok : Bool) : (WkC d f u ok)[18]? = some (.bool ok) := by unfold WkC; rw [List.getElem?_append_right (by rw [U_length, h]; decide), U_length, h]; rfl
theorem WkC_dig {d : Wm.Bs} (h : d.length = 16) (f u : Int) (ok : Bool) : ((WkC d f u ok).drop 0).take 16 = U d := by unfold WkC; rw [List.drop_zero, List.take_append_of_le_length (by rw [U_length, h]; exact Nat.le_refl _), List.take_of_length_le (by rw [U_length, h]; exact Nat.le_refl _)]
theorem wk_dig {w : World} {B : Nat} {t : TypeId} {d : Wm.Bs} {f u : Int} {ok : Bool} (h : Blk w B t (WkC d f u ok)) (hd : d.length = 16) : w.rangeAt B 0 (U d) := by
  have h1 := h.range 0 16
  rwa [WkC_dig hd] at h1
theorem wk_found {w : World} {B : Nat} {t : TypeId} {d : Wm.Bs} {f u : Int} {ok : Bool} (h : Blk w B t (WkC d f u ok)) (hd : d.length = 16) : w.cell? ⟨B, 16, none⟩ = some (.int .i64 f) := h.cell (WkC_16 hd f u ok)
theorem wk_path {w : World} {B : Nat} {t : TypeId} {d : Wm.Bs} {f u : Int} {ok : Bool} (h : Blk w B t (WkC d f u ok)) (hd : d.length = 16) : w.cell? ⟨B, 17, none⟩ = some (.int .i64 u) := h.cell (WkC_17 hd f u ok)
theorem wk_ok {w : World} {B : Nat} {t : TypeId} {d : Wm.Bs} {f u : Int} {ok : Bool} (h : Blk w B t (WkC d f u ok)) (hd : d.length = 16) : w.cell? ⟨B, 18, none⟩ = some (.bool ok) := h.cell (WkC_18 hd f u ok)

theorem built_wk0 : Tryd.prog.built 87 [] = some (WkC zD 0 0 false).toArray := by kernel_rfl
theorem built_wkp16 (a0 a1 a2 a3 a4 a5 a6 a7 a8 a9 a10 a11 a12 a13 a14 a15 : Int) : Tryd.prog.built 87 [(0, .agg (U [a0, a1, a2, a3, a4, a5, a6, a7, a8, a9, a10, a11, a12, a13, a14, a15]).toArray), (2, .int .i64 1), (3, .bool true)] = some (WkC [a0, a1, a2, a3, a4, a5, a6, a7, a8, a9, a10, a11, a12, a13, a14, a15] 0 1 true).toArray := by kernel_rfl
theorem built_wkf16 (a0 a1 a2 a3 a4 a5 a6 a7 a8 a9 a10 a11 a12 a13 a14 a15 : Int) : Tryd.prog.built 87 [(0, .agg (U [a0, a1, a2, a3, a4, a5, a6, a7, a8, a9, a10, a11, a12, a13, a14, a15]).toArray), (1, .int .i64 1), (3, .bool true)] = some (WkC [a0, a1, a2, a3, a4, a5, a6, a7, a8, a9, a10, a11, a12, a13, a14, a15] 1 0 true).toArray := by kernel_rfl
theorem built_wka16 (a0 a1 a2 a3 a4 a5 a6 a7 a8 a9 a10 a11 a12 a13 a14 a15 f u : Int) (ok : Bool) : Tryd.prog.built 87 [(0, .agg (U [a0, a1, a2, a3, a4, a5, a6, a7, a8, a9, a10, a11, a12, a13, a14, a15]).toArray), (1, .int .i64 f), (2, .int .i64 u), (3, .bool ok)] = some (WkC [a0, a1, a2, a3, a4, a5, a6, a7, a8, a9, a10, a11, a12, a13, a14, a15] f u ok).toArray := by kernel_rfl
theorem built_wkp {d : Wm.Bs} (h : d.length = 16) : Tryd.prog.built 87 [(0, .agg (U d).toArray), (2, .int .i64 1), (3, .bool true)] = some (WkC d 0 1 true).toArray := by
  match d, h with
  | [a0, a1, a2, a3, a4, a5, a6, a7, a8, a9, a10, a11, a12, a13, a14, a15], _ => exact built_wkp16 a0 a1 a2 a3 a4 a5 a6 a7 a8 a9 a10 a11 a12 a13 a14 a15
theorem built_wkf {d : Wm.Bs} (h : d.length = 16) : Tryd.prog.built 87 [(0, .agg (U d).toArray), (1, .int .i64 1), (3, .bool true)] = some (WkC d 1 0 true).toArray := by
  match d, h with
  | [a0, a1, a2, a3, a4, a5, a6, a7, a8, a9, a10, a11, a12, a13, a14, a15], _ => exact built_wkf16 a0 a1 a2 a3 a4 a5 a6 a7 a8 a9 a10 a11 a12 a13 a14 a15
theorem built_wka {d : Wm.Bs} (h : d.length = 16) (f u : Int) (ok : Bool) : Tryd.prog.built 87 [(0, .agg (U d).toArray), (1, .int .i64 f), (2, .int .i64 u), (3, .bool ok)] = some (WkC d f u ok).toArray := by
  match d, h with
  | [a0, a1, a2, a3, a4, a5, a6, a7, a8, a9, a10, a11, a12, a13, a14, a15], _ => exact built_wka16 a0 a1 a2 a3 a4 a5 a6 a7 a8 a9 a10 a11 a12 a13 a14 a15 f u ok
theorem run_wk0 (w : World) : (Instr.build 87 #[]).run Tryd.prog w = .ok (.agg (WkC zD 0 0 false).toArray) w := run_build w _ _ _ built_wk0
theorem run_wkp {d : Wm.Bs} (h : d.length = 16) (w : World) : (Instr.build 87 #[(0, .agg (U d).toArray), (2, .int .i64 1), (3, .bool true)]).run Tryd.prog w = .ok (.agg (WkC d 0 1 true).toArray) w := run_build w _ _ _ (built_wkp h)
theorem run_wkf {d : Wm.Bs} (h : d.length = 16) (w : World) : (Instr.build 87 #[(0, .agg (U d).toArray), (1, .int .i64 1), (3, .bool true)]).run Tryd.prog w = .ok (.agg (WkC d 1 0 true).toArray) w := run_build w _ _ _ (built_wkf h)
theorem run_wka {d : Wm.Bs} (h : d.length = 16) (f u : Int) (ok : Bool) (w : World) : (Instr.build 87 #[(0, .agg (U d).toArray), (1, .int .i64 f), (2, .int .i64 u), (3, .bool ok)]).run Tryd.prog w = .ok (.agg (WkC d f u ok).toArray) w := run_build w _ _ _ (built_wka h f u ok)
theorem wpList_wk {ops : Array Oper} {rest : List Oper} {o : Oper} {a : Act} {w : World} {Q : Exit → Act → World → Prop} (hg : o.guard = none) (fs : Array (Nat × Operand)) (vs : Array (Nat × Value)) (C : Array Value) (ho : o.op = .build 87 fs)
    (hv : fs.toList.map (fun x => (x.1, a.eval x.2)) = vs.toList) (hr : (Instr.build 87 vs).run Tryd.prog w = .ok (.agg C) w)
    (hK : wpList Tryd.prog ops Q rest (a.put o.dst (.agg C)) w) : wpList Tryd.prog ops Q (o :: rest) a w := by
  refine wpList_plain hg fun K' hK' => ?_
  have e : fs.map (fun x => (x.1, a.eval x.2)) = vs := by
    apply Array.toList_inj.1; rw [Array.toList_map]; exact hv
  unfold Oper.wp execOp
  simp only [ho, e, Sem.run_bind, hr, Sem.run_pure, Result.andThen_ok]
  exact hK' _ _ hK
theorem wk_ret {d : Wm.Bs} {f u : Int} {ok : Bool} {w : World} {fn : Func} {p : Tmp} (h : fn.results = #[.cell p 87]) (tmps : Array Value) (g : Nat) (t : TypeId) (hd : d.length = 16)
    (hp : tmps.getD p undef = .pointer (some ⟨g, 0, none⟩)) (hg : Blk w g t (WkC d f u ok)) : (results fn tmps).run Tryd.prog w = .ok (.agg (WkC d f u ok).toArray) w :=
  results_blk h tmps w g t (WkC d f u ok) _ hp hg Tryd.underlying87 rfl (WkC_sz hd f u ok)
end Go.Proofs.YtaihfkcoiagdaabDoor
