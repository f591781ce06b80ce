/-
  THE EXAMPLES OF the chapter, computed.
-/
import Derived.Test.YtempcbdlaoblhabTabP
namespace Go.Proofs.Ytempcbdlaoblhab
open Go.RowKit Go.ChangeShapes Go.WideShapes Go.ChangeAt

def tm1 : Wm.Bs := Tm.mapM 64 (Zs 64) 128 4224 256 2 384
def tm2 : Wm.Bs := Tm.largeM 64 tm1 128 8192 4096 8
theorem te_1 : Tm.mapE 64 (Zs 64) 128 4224 256 2 384 = 0 := by decide +kernel
theorem te_2 : Tm.largeE 64 tm1 128 8192 4096 8 = 0 := by decide +kernel
theorem te_3 : Mm.ld tm2 132 4 = 385 := by decide +kernel
theorem te_4 : Mm.ld tm2 388 4 = 259 := by decide +kernel
theorem te_5a : (fun x : Tm.Wk => (x.ok, x.a, x.l)) (Tm.walk 64 tm2 128 4230 2 false) = (true, 262, 388) := by decide +kernel
theorem te_5s : (Tm.walk 64 tm2 128 4230 2 false).s = [(388, 4, 307)] := by decide +kernel
theorem te_5r : (Tm.walk 64 tm2 128 4230 2 false).r = [132, 388] := by decide +kernel
theorem te_5 : Tm.walk 64 tm2 128 4230 2 false = ⟨true, 262, 388, [(388, 4, 307)], [132, 388]⟩ := by
  have h := te_5a
  have h2 := te_5s
  have h3 := te_5r
  obtain ⟨x, hx⟩ : ∃ x, x = Tm.walk 64 tm2 128 4230 2 false := ⟨_, rfl⟩
  rw [← hx] at h h2 h3 ⊢
  obtain ⟨a, b, c, d, e⟩ := x
  simp at h h2 h3
  obtain ⟨rfl, rfl, rfl⟩ := h
  rw [h2, h3]
theorem te_6 : (Tm.walk 64 tm2 128 4230 1 true).ok = false := by decide +kernel
theorem te_7 : (Tm.walk 64 tm2 128 4230 4 false).ok = false := by decide +kernel
theorem te_8 : (fun x : Tm.Wk => (x.ok, x.a, x.l)) (Tm.walk 64 tm2 128 8322 4 false) = (true, 4226, 136) := by decide +kernel
theorem te_9 : (fun x : Tm.Wk => (x.ok, x.a, x.l)) (Tm.walk 64 tm2 0 100 1 true) = (true, 100, -1) := by decide +kernel
theorem te_10 : (Tm.walk 64 tm2 0 8192 1 false).ok = false := by decide +kernel
theorem te_11 : (Tm.lst 64 tm2 128).map (fun x => x.1) = [(4224, 256, 3), (8192, 4096, 73)] := by decide +kernel
end Go.Proofs.Ytempcbdlaoblhab
