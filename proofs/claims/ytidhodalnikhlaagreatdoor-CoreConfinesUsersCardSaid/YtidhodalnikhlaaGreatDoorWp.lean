/-
  do OF a step BY ITS MODEL.
-/
import Derived.Test.YtidhodalnikhlaaGreatDoorWo
namespace Go.Proofs.YtidhodalnikhlaaGreatDoor
open Go.RowKit Go.ChangeShapes Go.WideShapes Go.ChangeAt

namespace Cm
def Eff.trap (e : Eff) (ca v p : Int) : Eff := { e with c := Cpu.enter e.c ca v p, tr := ca }
def next (X : Out) : Eff := match X.2 with
  | none => X.1
  | some (ca, v, q) => X.1.trap ca v q
/-- The word at hand, and the instruction that it is. -/
def wordE (P : Pl) (e : Eff) : Eff := { e with wd := Mm.ld P.b P.a 4, ws := P.w, ac := P.c ++ [(P.a, 4, false)] }
def goE (P : Pl) (e : Eff) : Eff := { wordE P e with c := { e.c with pc := (e.c.pc + 4) % 4294967296 } }
def may (u : Bool) (W : Int) : Bool := decide (Im.Legal W) && !(u && decide (41 ≤ (decI_S W).op ∧ (decI_S W).op ≤ 48))
/-- What a step comes to: pc is the instruction's address, p the lines. -/
def run (n : Nat) (b : Wm.Bs) (pc p : Int) (e : Eff) : Eff :=
  if dueB (Tm.has e.c.c5 1) p = true then e.trap (16 + dueN (Tm.has e.c.c5 1) p) 0 pc
  else if (place n b e.c.c0 e.c.u e.c.pc 4 4).ok = true then
    (if may e.c.u (Mm.ld (place n b e.c.c0 e.c.u e.c.pc 4 4).b (place n b e.c.c0 e.c.u e.c.pc 4 4).a 4) = true then
      next (inst n (place n b e.c.c0 e.c.u e.c.pc 4 4).b pc p (decI_S (Mm.ld (place n b e.c.c0 e.c.u e.c.pc 4 4).b (place n b e.c.c0 e.c.u e.c.pc 4 4).a 4)) (goE (place n b e.c.c0 e.c.u e.c.pc 4 4) e))
    else (wordE (place n b e.c.c0 e.c.u e.c.pc 4 4) e).trap 2 (Mm.ld (place n b e.c.c0 e.c.u e.c.pc 4 4).b (place n b e.c.c0 e.c.u e.c.pc 4 4).a 4) pc)
  else ({ e with ws := (place n b e.c.c0 e.c.u e.c.pc 4 4).w, ac := (place n b e.c.c0 e.c.u e.c.pc 4 4).c } : Eff).trap (place n b e.c.c0 e.c.u e.c.pc 4 4).ca e.c.pc pc
theorem run_due {n : Nat} {b : Wm.Bs} {pc p : Int} {e : Eff} (h : dueB (Tm.has e.c.c5 1) p = true) : run n b pc p e = e.trap (16 + dueN (Tm.has e.c.c5 1) p) 0 pc := by
  unfold run
  rw [if_pos h]
theorem run_bad {n : Nat} {b : Wm.Bs} {pc p : Int} {e : Eff} {P : Pl} (h : dueB (Tm.has e.c.c5 1) p = false) (hP : place n b e.c.c0 e.c.u e.c.pc 4 4 = P) (ho : P.ok = false) : run n b pc p e = ({ e with ws := P.w, ac := P.c } : Eff).trap P.ca e.c.pc pc := by
  unfold run
  rw [hP, if_neg (by rw [h]; decide), if_neg (by rw [ho]; decide)]
theorem run_ill {n : Nat} {b : Wm.Bs} {pc p : Int} {e : Eff} {P : Pl} {W : Int} (h : dueB (Tm.has e.c.c5 1) p = false) (hP : place n b e.c.c0 e.c.u e.c.pc 4 4 = P) (ho : P.ok = true) (hW : Mm.ld P.b P.a 4 = W) (hm : may e.c.u W = false) : run n b pc p e = (wordE P e).trap 2 W pc := by
  unfold run
  rw [hP, if_neg (by rw [h]; decide), if_pos ho, hW, if_neg (by rw [hm]; decide)]
theorem run_ok {n : Nat} {b : Wm.Bs} {pc p : Int} {e : Eff} {P : Pl} {W : Int} (h : dueB (Tm.has e.c.c5 1) p = false) (hP : place n b e.c.c0 e.c.u e.c.pc 4 4 = P) (ho : P.ok = true) (hW : Mm.ld P.b P.a 4 = W) (hm : may e.c.u W = true) : run n b pc p e = next (inst n P.b pc p (decI_S W) (goE P e)) := by
  unfold run
  rw [hP, if_neg (by rw [h]; decide), if_pos ho, hW, if_pos hm]
end Cm
theorem dueN_rg (on : Bool) (p : Int) : 0 ≤ dueN on p ∧ dueN on p < 32 := by
  unfold dueN
  split
  · rename_i h
    simp only [Bool.and_eq_true, decide_eq_true_eq] at h
    omega
  · omega
theorem inst_trap {n : Nat} {b : Wm.Bs} {pc p : Int} {i : Im.I} {e : Cm.Eff} {t : Int × Int × Int} (hf : Im.form i.op ≠ 0) (hb : Wm.isBs b) (hr : 0 ≤ e.c.c0 ∧ e.c.c0 ≤ 4294967295) (h : (Cm.inst n b pc p i e).2 = some t) :
    (Cm.inst n b pc p i e).1.c = e.c ∧ 0 ≤ t.1 ∧ t.1 < 4294967296 := by
  have g := (Cm.place_rg n e.c.c0 e.c.u (Cm.va e.c i) (accA i.op) (accS i.op) hb hr (by unfold Cm.va; omega)).2.2.2.2.2
  rcases op_cases hf with hq | hq | hq | hq | hq | hq | hq | hq | hq | hq | hq | hq | hq | hq | hq | hq | hq | hq
  · rw [Cm.inst_1 n b pc p i e hq] at h
    cases h
  · rw [Cm.inst_16 n b pc p i e hq] at h
    cases h
  · rw [Cm.inst_17 n b pc p i e hq] at h
    cases h
  · rw [Cm.inst_20 n b pc p i e hq] at h ⊢
    by_cases hok : (Cm.pl n b i e).ok = true
    · simp [Cm.read, hok] at h
    · simp [Cm.read, hok] at h ⊢
      subst h
      exact g
  · rw [Cm.inst_21 n b pc p i e hq] at h ⊢
    by_cases hok : (Cm.pl n b i e).ok = true
    · simp [Cm.write, hok] at h
    · simp [Cm.write, hok] at h ⊢
      subst h
      exact g
  · rw [Cm.inst_24 n b pc p i e hq] at h ⊢
    by_cases hok : (Cm.pl n b i e).ok = true
    · simp [Cm.swap, hok] at h
    · simp [Cm.swap, hok] at h ⊢
      subst h
      exact g
  · rw [Cm.inst_28 n b pc p i e hq] at h
    cases h
  · rw [Cm.inst_32 n b pc p i e hq] at h
    cases h
  · rw [Cm.inst_33 n b pc p i e hq] at h
    cases h
  · rw [Cm.inst_40 n b pc p i e hq] at h ⊢
    cases h
    refine ⟨rfl, ?_, ?_⟩ <;> dsimp only <;> omega
  · rw [Cm.inst_41 n b pc p i e hq] at h
    cases h
  · rw [Cm.inst_42 n b pc p i e hq] at h ⊢
    by_cases he : errR i.imm = 0
    · rw [if_pos he] at h
      cases h
    · rw [if_neg he] at h ⊢
      cases h
      refine ⟨rfl, ?_, ?_⟩ <;> dsimp only <;> omega
  · rw [Cm.inst_43 n b pc p i e hq] at h ⊢
    by_cases he : errW i.imm = 0
    · rw [if_pos he] at h
      cases h
    · rw [if_neg he] at h ⊢
      cases h
      refine ⟨rfl, ?_, ?_⟩ <;> dsimp only <;> omega
  · rw [Cm.inst_44 n b pc p i e hq] at h
    by_cases he : i.b = 0
    · rw [if_pos he] at h
      cases h
    · rw [if_neg he] at h
      cases h
  · rw [Cm.inst_45 n b pc p i e hq] at h
    cases h
  · rw [Cm.inst_46 n b pc p i e hq] at h
    cases h
  · rw [Cm.inst_47 n b pc p i e hq] at h
    cases h
  · rw [Cm.inst_48 n b pc p i e hq] at h
    cases h
set_option maxRecDepth 100000 in
set_option maxHeartbeats 2000000 in
theorem do_model {base : Nat} {w : World} {B : Nat} {s : Sp} {A : Option Addr} {n c : Nat} {b : Wm.Bs} (h : At base w B s A n c [] [] b) (bs : Wm.isBs b) (n64 : n ≤ 64) (rv : s.c.Rv) (c0 : 0 ≤ s.c.c0 ∧ s.c.c0 ≤ 4294967295) (hpc : 0 ≤ s.c.pc ∧ s.c.pc ≤ 4294967295) (c5 : Tm.isE s.c.c5) (pp : Tm.isE s.p) (tab : Tab w) (pos : 0 < base) :
    Calls Tryz.prog 33 #[.pointer (some ⟨B, 0, none⟩)] w fun e w' => e = .returned (.tuple #[]) ∧ ∃ s2 A2 c2 ws2 ac2 b2, At base w' B s2 A2 n c2 ws2 ac2 b2 ∧ St base B w s w' s2 ∧ s2.out ws2 ac2 = Cm.run n b s.old.pc s.p (s.out [] []) ∧ s.same s2 := by
  cases hd : dueB (Tm.has s.c.c5 1) s.p with
  | true =>
    rw [Cm.run_due (e := s.out [] []) hd]
    refine (do_due h c5 pp hd (dueN_rg _ _)).mono fun e w' k => ?_
    obtain ⟨rfl, k1, k2⟩ := k
    exact ⟨rfl, _, _, _, _, _, _, k1, k2, rfl, ⟨rfl, rfl, rfl, rfl⟩⟩
  | false =>
    obtain ⟨P, hP⟩ : ∃ P, Cm.place n b s.c.c0 s.c.u s.c.pc 4 4 = P := ⟨_, rfl⟩
    obtain ⟨g1, g2, g3, _, g5, g6⟩ := Cm.place_rg n s.c.c0 s.c.u s.c.pc 4 4 bs c0 hpc
    rw [hP] at g1 g2 g3 g5 g6
    cases ho : P.ok with
    | false =>
      rw [Cm.run_bad (e := s.out [] []) hd hP ho]
      refine (do_nofetch h c5 pp hd P.ca s.c.pc s.old.pc g6 (fun s1 A1 c1 ws1 ac1 b1 => ∃ v u A' c', s1 = s.lay v u (.slice A' n c') ∧ ws1 = P.w ∧ ac1 = P.c) ?_).mono fun e w' k => ?_
      · intro w' l
        refine (fetch_bad (h.later l) bs n64 pos (tab.keep l) c0 hpc P hP ho).mono fun e w'' k => ?_
        obtain ⟨rfl, v, u, A', c', k1, k2⟩ := k
        exact ⟨rfl, _, _, _, _, _, _, k1, k2, ⟨v, u, A', c', rfl, rfl, rfl⟩, c5⟩
      · obtain ⟨rfl, s1, A1, c1, ws1, ac1, b1, ⟨v, u, A', c', rfl, rfl, rfl⟩, k1, k2⟩ := k
        exact ⟨rfl, _, _, _, _, _, _, k1, k2, rfl, ⟨rfl, rfl, rfl, rfl⟩⟩
    | true =>
      obtain ⟨W, hW⟩ : ∃ W, Mm.ld P.b P.a 4 = W := ⟨_, rfl⟩
      cases hm : Cm.may s.c.u W with
      | false =>
        rw [Cm.run_ill (e := s.out [] []) hd hP ho hW hm]
        refine (do_nofetch h c5 pp hd 2 W s.old.pc (by omega) (fun s1 A1 c1 ws1 ac1 b1 => ∃ v u A' c', s1 = s.rd v u (.slice A' n c') W ∧ ws1 = P.w ∧ ac1 = P.c ++ [(P.a, 4, false)]) ?_).mono fun e w' k => ?_
        · intro w' l
          refine (fetch_ill (h.later l) bs n64 pos (tab.keep l) c0 hpc P hP ho W hW _ rfl _ _ rfl rfl hm).mono fun e w'' k => ?_
          obtain ⟨rfl, v, u, A', c', k1, k2⟩ := k
          exact ⟨rfl, _, _, _, _, _, _, k1, k2, ⟨v, u, A', c', rfl, rfl, rfl⟩, c5⟩
        · obtain ⟨rfl, s1, A1, c1, ws1, ac1, b1, ⟨v, u, A', c', rfl, rfl, rfl⟩, k1, k2⟩ := k
          exact ⟨rfl, _, _, _, _, _, _, k1, k2, by rw [← hW]; rfl, ⟨rfl, rfl, rfl, rfl⟩⟩
      | true =>
        rw [Cm.run_ok (e := s.out [] []) hd hP ho hW hm]
        have hlg : Im.Legal W := by
          unfold Cm.may at hm
          simp only [Bool.and_eq_true, decide_eq_true_eq] at hm
          exact hm.1
        have hri : Im.Right (decI_S W) := by
          unfold decI_S
          rw [if_pos hlg]
          exact Im.right_cut hlg
        obtain ⟨i, hi⟩ : ∃ i, decI_S W = i := ⟨_, rfl⟩
        obtain ⟨f1, f2⟩ := fnd_of hri.1
        rw [hi] at hri f1 f2 ⊢
        have HF : ∀ w', Later w w' → Calls Tryz.prog 77 #[.pointer (some ⟨B, 0, none⟩)] w' fun e w'' => e = .returned (.tuple #[]) ∧ ∃ s1 A1 c1 ws1 ac1 b1, At base w'' B s1 A1 n c1 ws1 ac1 b1 ∧ St base B w' s w'' s1 ∧ (∃ v u A' c', s1 = s.fet v u (.slice A' n c') W i ∧ A1 = A' ∧ c1 = c' ∧ ws1 = P.w ∧ ac1 = P.c ++ [(P.a, 4, false)] ∧ b1 = P.b) := by
          intro w' l
          refine (fetch_ok (h.later l) bs n64 pos (tab.keep l) c0 hpc P hP ho W hW i hi _ _ rfl rfl (by rw [← hi]; exact hm)).mono fun e w'' k => ?_
          obtain ⟨rfl, v, u, A', c', k1, k2⟩ := k
          exact ⟨rfl, _, _, _, _, _, _, k1, k2, v, u, A', c', rfl, rfl, rfl, rfl, rfl, rfl⟩
        obtain ⟨X, hX⟩ : ∃ X, X = Cm.inst n P.b s.old.pc s.p i (Cm.goE P (s.out [] [])) := ⟨_, rfl⟩
        rw [← hX]
        have HD : ∀ w' v u A' c' , At base w' B (s.fet v u (.slice A' n c') W i) A' n c' P.w (P.c ++ [(P.a, 4, false)]) P.b → Below base w w' → Does (fF i.op) base w' B (s.fet v u (.slice A' n c') W i) n X := by
          intro w' v u A' c' h1 l
          have q := does_any (s := s.fet v u (.slice A' n c') W i) ⟨h1, by simp; omega, by omega, g3, n64, hri, rv, c0, c5, pp, tab.below pos l, pos⟩
          rw [hX]
          subst hW
          exact q
        cases hx : X.2 with
        | none =>
          refine (do_ok h c5 pp hd pos tab _ HF (fun s2 A2 c2 ws2 ac2 b2 => s2.out ws2 ac2 = X.1 ∧ s.same s2) (fF i.op) f2 ?_).mono fun e w' k => ?_
          · rintro w' s1 A1 c1 ws1 ac1 b1 ⟨v, u, A', c', rfl, rfl, rfl, rfl, rfl, rfl⟩ h1 l
            refine ⟨f1, (HD _ _ _ _ _ h1 l).mono fun e w'' k => ?_⟩
            rw [hx] at k
            obtain ⟨rfl, s2, A2, c2, ws2, ac2, b2, k1, k2, k3, k4⟩ := k
            exact ⟨rfl, s2, A2, c2, ws2, ac2, b2, k1, k2, k3, k4⟩
          · obtain ⟨rfl, s2, A2, c2, ws2, ac2, b2, ⟨k1, k2⟩, k3, k4⟩ := k
            refine ⟨rfl, s2, A2, c2, ws2, ac2, b2, k3, k4, ?_, k2⟩
            rw [k1]
            unfold Cm.next
            rw [hx]
        | some t =>
          obtain ⟨ca, va, q⟩ := t
          have ht := inst_trap (n := n) (b := P.b) (pc := s.old.pc) (p := s.p) (i := i) (e := Cm.goE P (s.out [] [])) hri.1 g3 c0 (by rw [← hX]; exact hx)
          rw [← hX] at ht
          refine (do_trap h c5 pp hd pos tab ca va q ht.2 _ HF (fun s2 A2 c2 ws2 ac2 b2 => s2.out ws2 ac2 = X.1 ∧ s.same s2) (fF i.op) f2 ?_).mono fun e w' k => ?_
          · rintro w' s1 A1 c1 ws1 ac1 b1 ⟨v, u, A', c', rfl, rfl, rfl, rfl, rfl, rfl⟩ h1 l
            refine ⟨f1, (HD _ _ _ _ _ h1 l).mono fun e w'' k => ?_⟩
            rw [hx] at k
            obtain ⟨rfl, s2, A2, c2, ws2, ac2, b2, k1, k2, k3, k4⟩ := k
            have hc : s2.c = X.1.c := congrArg Cm.Eff.c k3
            exact ⟨rfl, s2, A2, c2, ws2, ac2, b2, k1, k2, ⟨k3, k4⟩, by rw [hc, ht.1]; exact c5⟩
          · obtain ⟨rfl, s2, A2, c2, ws2, ac2, b2, ⟨k1, k2⟩, k3, k4⟩ := k
            refine ⟨rfl, _, A2, c2, ws2, ac2, b2, k3, k4, ?_, k2⟩
            unfold Cm.next
            rw [hx, ← k1]
            rfl
end Go.Proofs.YtidhodalnikhlaaGreatDoor
