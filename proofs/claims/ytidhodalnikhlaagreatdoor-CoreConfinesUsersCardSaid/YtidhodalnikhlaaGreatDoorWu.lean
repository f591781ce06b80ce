/-
  A STEP OF THE EXAMPLES' PROCESSOR, ITS EFFECT KNOWN.
-/
import Derived.Test.YtidhodalnikhlaaGreatDoorWt
namespace Go.Proofs.YtidhodalnikhlaaGreatDoor
open Go.RowKit Go.ChangeShapes Go.WideShapes Go.ChangeAt

def x0 : Cpu := { Cpu.start 0 0 with c1 := 64, r2 := 7 }
def e0 : Cm.Eff := ({ zS with c := { x0 with cn := x0.cn + 1, wt := false }, dn := true, old := x0 } : Sp).out [] []
def rW (b : Wm.Bs) : Cm.Eff := Cm.run 1 b 0 0 e0
def sB (b : Wm.Bs) (v a : Value) : Sp := { zS with dn := true, ec := (rW b).c, old := x0, wd := (rW b).wd, wv := v, av := a, ak := (rW b).ak, ii := (rW b).ii, ip := (rW b).ip, iv := (rW b).iv, fl := (rW b).fl, fa := (rW b).fa, tr := (rW b).tr }
def Stepped (b : Wm.Bs) (w : World) (e : Ending) (w' : World) : Prop :=
  ∃ v a, e = .returned (.agg (sB b v a).eff.toArray) ∧ w'.ownsRow w.heap.size 64 3 v (rW b).ws.length (Ws (rW b).ws) ∧ w'.ownsRow w.heap.size 53 3 a (rW b).ac.length (Acs (rW b).ac) ∧ Later w w'
set_option maxRecDepth 100000 in
theorem san_step (b : Wm.Bs) (A : Option Addr) (c : Nat) (w : World) (hs : Sl w 128 A 1 (U b)) (hb : Wm.isBs b) (tab : Tab w) (h0 : 0 < w.heap.size) : Calls Tryz.prog 13 #[.agg x0.cells.toArray, .agg #[.slice A 1 c], .int .u32 0] w (Stepped b w) := by
  refine (step_yes x0 A 1 c b 0 w hs hb (by omega) (by omega) ?_ ?_ ?_ ?_ ?_ ?_ tab h0 rfl).mono ?_
  · intro k hk
    rcases (show k = 0 ∨ k = 1 ∨ k = 2 ∨ k = 3 ∨ k = 4 ∨ k = 5 ∨ k = 6 ∨ k = 7 ∨ k = 8 ∨ k = 9 ∨ k = 10 ∨ k = 11 ∨ k = 12 ∨ k = 13 ∨ k = 14 ∨ k = 15 by omega) with rfl | rfl | rfl | rfl | rfl | rfl | rfl | rfl | rfl | rfl | rfl | rfl | rfl | rfl | rfl | rfl <;> decide
  · decide
  · decide
  · unfold Tm.isE
    decide
  · unfold Tm.isE
    decide
  · decide
  · rintro e w' ⟨s2, ws2, ac2, rfl, ho, hd, hl, k1, k2, l⟩
    obtain ⟨c2, m2, p2, io2, ia2, ib2, ic2, im2, dn2, ec2, old2, wd2, wv2, av2, ak2, ii2, ip2, iv2, fl2, fa2, tr2⟩ := s2
    have hr : rW b = Cm.run 1 b x0.pc 0 (({ zS with c := { x0 with cn := x0.cn + 1, wt := false }, m := .slice A 1 c, p := 0, dn := true, old := x0 } : Sp).out [] []) := rfl
    rw [← hr] at ho
    simp only at hd hl k1 k2
    subst hd hl
    unfold Sp.out at ho
    simp only at ho
    refine ⟨wv2, av2, ?_, ?_, ?_, l⟩
    · unfold sB
      rw [← ho]
      rfl
    · rw [← ho]
      exact k1
    · rw [← ho]
      exact k2
def bA : Wm.Bs := atB 1077936133
def bB : Wm.Bs := atB 1417674760
def bO : Wm.Bs := atB 1346371714
def bF : Wm.Bs := atB 1346371712
def bC : Wm.Bs := atB 2684354560
def bI : Wm.Bs := atB 3091202081
theorem atB_bs (W : Int) : Wm.isBs (atB W) := Mm.put_bs (Zs_bs 1) (Mm.el_bs 4 W)
end Go.Proofs.YtidhodalnikhlaaGreatDoor
