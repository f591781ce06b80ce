/-
  PLAIN MATHEMATICS: a step of a processor without translation at an instruction that computes.
-/
import Derived.Test.YtidhodalnikhlaaGreatDoorWp
namespace Go.Proofs.YtidhodalnikhlaaGreatDoor
open Go.RowKit Go.ChangeShapes Go.WideShapes Go.ChangeAt

theorem eff_reg (s : Sp) {k : Nat} (h : k < 16) : s.eff[2 + k]? = some (.int .u32 (s.ec.reg k)) := by
  rcases (show k = 0 ∨ k = 1 ∨ k = 2 ∨ k = 3 ∨ k = 4 ∨ k = 5 ∨ k = 6 ∨ k = 7 ∨ k = 8 ∨ k = 9 ∨ k = 10 ∨ k = 11 ∨ k = 12 ∨ k = 13 ∨ k = 14 ∨ k = 15 by omega) with rfl | rfl | rfl | rfl | rfl | rfl | rfl | rfl | rfl | rfl | rfl | rfl | rfl | rfl | rfl | rfl <;> rfl
theorem cpu_reg (x : Cpu) {k : Nat} (h : k < 16) : x.cells[1 + k]? = some (.int .u32 (x.reg k)) := by
  rcases (show k = 0 ∨ k = 1 ∨ k = 2 ∨ k = 3 ∨ k = 4 ∨ k = 5 ∨ k = 6 ∨ k = 7 ∨ k = 8 ∨ k = 9 ∨ k = 10 ∨ k = 11 ∨ k = 12 ∨ k = 13 ∨ k = 14 ∨ k = 15 by omega) with rfl | rfl | rfl | rfl | rfl | rfl | rfl | rfl | rfl | rfl | rfl | rfl | rfl | rfl | rfl | rfl <;> rfl
set_option maxHeartbeats 1000000 in
theorem setR_reg (x : Cpu) (v : Int) {k j : Nat} (hk : k < 16) (hj : j < 16) : (x.setR k v).reg j = if j = k then v else x.reg j := by
  rcases (show k = 0 ∨ k = 1 ∨ k = 2 ∨ k = 3 ∨ k = 4 ∨ k = 5 ∨ k = 6 ∨ k = 7 ∨ k = 8 ∨ k = 9 ∨ k = 10 ∨ k = 11 ∨ k = 12 ∨ k = 13 ∨ k = 14 ∨ k = 15 by omega) with rfl | rfl | rfl | rfl | rfl | rfl | rfl | rfl | rfl | rfl | rfl | rfl | rfl | rfl | rfl | rfl <;> rcases (show j = 0 ∨ j = 1 ∨ j = 2 ∨ j = 3 ∨ j = 4 ∨ j = 5 ∨ j = 6 ∨ j = 7 ∨ j = 8 ∨ j = 9 ∨ j = 10 ∨ j = 11 ∨ j = 12 ∨ j = 13 ∨ j = 14 ∨ j = 15 by omega) with rfl | rfl | rfl | rfl | rfl | rfl | rfl | rfl | rfl | rfl | rfl | rfl | rfl | rfl | rfl | rfl <;> rfl
theorem setR_pc (x : Cpu) (v : Int) (k : Nat) : (x.setR k v).pc = x.pc := by
  unfold Cpu.setR
  split <;> rfl
/-- An instruction that computes. -/
def Comp (i : Im.I) : Prop := (1 ≤ i.op ∧ i.op ≤ 12) ∨ i.op = 16
theorem writeI_comp {i : Im.I} (h : Comp i) : writeI i = i.a := by
  unfold writeI
  split
  · rfl
  · rename_i hw
    rcases h with h | h
    · rw [if_pos]
      have : i.op = 1 ∨ i.op = 2 ∨ i.op = 3 ∨ i.op = 4 ∨ i.op = 5 ∨ i.op = 6 ∨ i.op = 7 ∨ i.op = 8 ∨ i.op = 9 ∨ i.op = 10 ∨ i.op = 11 ∨ i.op = 12 := by omega
      rcases this with e | e | e | e | e | e | e | e | e | e | e | e <;> rw [e] <;> decide
    · exact absurd (by rw [h]; decide) hw
/-- What it computes. -/
def compV (x : Cpu) (i : Im.I) : Int := if i.op = 16 then (x.rg i.b + i.imm) % 4294967296 else Al.I i.op (x.rg i.b) (x.rg i.c)
theorem putR_reg (x : Cpu) {i : Im.I} (hi : Im.Right i) (hc : Comp i) (v : Int) {j : Nat} (hj : j < 16) : (x.putR i v).reg j = if (j : Int) = i.a ∧ j ≠ 0 then v else x.reg j := by
  have ha : 0 ≤ i.a ∧ i.a < 16 := hi.2.2.1
  unfold Cpu.putR
  rw [writeI_comp hc]
  by_cases h0 : i.a = 0
  · rw [if_pos h0, if_neg (by omega)]
  · rw [if_neg h0, setR_reg x v (by omega) hj]
    by_cases h1 : j = i.a.toNat
    · rw [if_pos h1, if_pos (by omega)]
    · rw [if_neg h1, if_neg (by omega)]
theorem putR_pc (x : Cpu) (i : Im.I) (v : Int) : (x.putR i v).pc = x.pc := by
  unfold Cpu.putR
  split
  · rfl
  · exact setR_pc _ _ _
theorem le_of_el (v : Int) (h : 0 ≤ v ∧ v < 4294967296) : Mm.le (Mm.el 4 v) = v := by
  rw [Mm.le_el]
  exact Int.emod_eq_of_lt h.1 h.2
theorem ld_put4 {b : Wm.Bs} {a v : Int} (h0 : 0 ≤ a) (h4 : a % 4 = 0) (hl : a + 4 ≤ (b.length : Int)) (hv : 0 ≤ v ∧ v < 4294967296) : Mm.ld (Mm.put b a.toNat (Mm.el 4 v)) a 4 = v := by
  have h9 : a.toNat + (Mm.el 4 v).length ≤ b.length := by rw [Mm.el_len]; omega
  have ht : Mm.There (Mm.put b a.toNat (Mm.el 4 v)).length a 4 := by
    rw [Mm.put_len h9]
    exact ⟨Or.inr ⟨rfl, h4⟩, h0, by omega⟩
  unfold Mm.ld
  rw [if_pos ht]
  have hs := Mm.put_same h9
  rw [Mm.el_len] at hs
  rw [show Int.toNat 4 = 4 from rfl, hs]
  exact le_of_el v hv
theorem place_0 (n : Nat) (b : Wm.Bs) (u : Bool) {va : Int} (acc : Int) (h4 : va % 4 = 0) (hn : va < (n : Int) * 128) : Cm.place n b 0 u va acc 4 = ⟨true, 0, va, [], [], b⟩ := by
  unfold Cm.place Cm.plOf
  rw [if_pos h4]
  have hw : Tm.walk n b 0 va acc u = ⟨true, va, -1, [], []⟩ := by
    unfold Tm.walk Tm.unt
    rw [if_pos rfl, if_pos hn]
  rw [hw]
  rfl
theorem due_0 (on : Bool) : dueB on 0 = false := by cases on <;> decide
theorem may_comp {i : Im.I} (u : Bool) (hi : Im.Right i) (hc : Comp i) : Cm.may u (Im.word i) = true ∧ decI_S (Im.word i) = i := by
  have hd : decI_S (Im.word i) = i := by unfold decI_S; rw [if_pos (Im.legal_word hi), Im.cut_word hi]
  refine ⟨?_, hd⟩
  unfold Cm.may
  rw [hd, decide_eq_true (Im.legal_word hi)]
  have : decide (41 ≤ i.op ∧ i.op ≤ 48) = false := decide_eq_false (by unfold Comp at hc; omega)
  rw [this]
  cases u <;> rfl
theorem comp_run (n : Nat) (b : Wm.Bs) (x : Cpu) (i : Im.I) (e : Cm.Eff) (hc0 : e.c.c0 = 0) (hpc : e.c.pc = x.pc) (hreg : ∀ k, e.c.reg k = x.reg k) (htr : e.tr = 0) (h0 : 0 ≤ x.pc) (h4 : x.pc % 4 = 0) (hl : b.length = n * 128) (hn : x.pc + 4 ≤ (n : Int) * 128) (hi : Im.Right i) (hc : Comp i) :
    (Cm.run n (Mm.put b x.pc.toNat (Mm.el 4 (Im.word i))) x.pc 0 e).tr = 0 ∧ (Cm.run n (Mm.put b x.pc.toNat (Mm.el 4 (Im.word i))) x.pc 0 e).ws = [] ∧ (Cm.run n (Mm.put b x.pc.toNat (Mm.el 4 (Im.word i))) x.pc 0 e).c.pc = (x.pc + 4) % 4294967296 ∧
    ∀ k, k < 16 → (Cm.run n (Mm.put b x.pc.toNat (Mm.el 4 (Im.word i))) x.pc 0 e).c.reg k = if (k : Int) = i.a ∧ k ≠ 0 then compV x i else x.reg k := by
  have hW := Im.word_bd hi
  obtain ⟨B, hB⟩ : ∃ B, B = Mm.put b x.pc.toNat (Mm.el 4 (Im.word i)) := ⟨_, rfl⟩
  have hld : Mm.ld B x.pc 4 = Im.word i := by rw [hB]; exact ld_put4 h0 h4 (by omega) hW
  rw [← hB]
  have hP : Cm.place n B e.c.c0 e.c.u e.c.pc 4 4 = ⟨true, 0, x.pc, [], [], B⟩ := by rw [hc0, hpc]; exact place_0 n B e.c.u 4 h4 (by omega)
  obtain ⟨hm, hd⟩ := may_comp e.c.u hi hc
  have hrun : Cm.run n B x.pc 0 e = Cm.next (Cm.inst n B x.pc 0 i (Cm.goE ⟨true, 0, x.pc, [], [], B⟩ e)) := by
    unfold Cm.run
    rw [if_neg (by rw [due_0]; decide), hP]
    simp only [hld, hm, hd, if_true]
  have hrg : ∀ r, (Cm.goE ⟨true, 0, x.pc, [], [], B⟩ e).c.rg r = x.rg r := fun r => hreg r.toNat
  have hin : Cm.inst n B x.pc 0 i (Cm.goE ⟨true, 0, x.pc, [], [], B⟩ e) = ((Cm.goE ⟨true, 0, x.pc, [], [], B⟩ e).to i (compV x i), none) := by
    unfold compV
    rcases hc with h | h
    · rw [Cm.inst_1 _ _ _ _ _ _ h, if_neg (by omega), hrg, hrg]
    · rw [Cm.inst_16 _ _ _ _ _ _ h, if_pos h]
      unfold Cm.va
      rw [hrg]
  rw [hrun, hin]
  refine ⟨htr, rfl, ?_, fun k hk => ?_⟩
  · show (Cpu.putR _ i _).pc = _
    rw [putR_pc]
    show (e.c.pc + 4) % 4294967296 = _
    rw [hpc]
  · show (Cpu.putR _ i _).reg k = _
    rw [putR_reg _ hi hc _ hk]
    have : (Cm.goE ⟨true, 0, x.pc, [], [], B⟩ e).c.reg k = x.reg k := hreg k
    rw [this]
end Go.Proofs.YtidhodalnikhlaaGreatDoor
