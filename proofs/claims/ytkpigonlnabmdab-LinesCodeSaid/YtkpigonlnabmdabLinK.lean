/-
  A CONTROL: raising twice, in any order, acknowledging.
-/
import Derived.Test.YtkpigonlnabmdabLinJ
import Derived.Test.YtkpigonlnabmdabLinI
import Derived.Deep.RegionHeld
namespace Go.Proofs.Ytkpigonlnabmdab
open Go.RowKit Go.ChangeShapes Go.WideShapes Go.ChangeAt

theorem rvalid_no {x : Ctl} (hw : x.wf) (h : ¬ x.Ok) (w : World) : Calls Try.prog 9 #[.agg x.cells.toArray] w fun e w' => e = .returned (.bool false) ∧ Later w w' := rvalid_any x false w hw (by simp [h])
theorem rvalid_yes {x : Ctl} (hw : x.wf) (h : x.Ok) (w : World) : Calls Try.prog 9 #[.agg x.cells.toArray] w fun e w' => e = .returned (.bool true) ∧ Later w w' := rvalid_any x true w hw (by simp [h])
theorem or_twice {x : Int} {l : Nat} (hx : is5 x) (hl : l < 5) : orB (orB x l) l = orB x l := by
  obtain ⟨y, rfl⟩ := hx.fin
  have : ∀ y : Fin 32, ∀ l : Fin 5, orB (orB ((y.1 : Nat) : Int) l.1) l.1 = orB ((y.1 : Nat) : Int) l.1 := by decide +kernel
  exact this y ⟨l, hl⟩
theorem or_swap {x : Int} {l m : Nat} (hx : is5 x) (hl : l < 5) (hm : m < 5) : orB (orB x l) m = orB (orB x m) l := by
  obtain ⟨y, rfl⟩ := hx.fin
  have : ∀ y : Fin 32, ∀ l m : Fin 5, orB (orB ((y.1 : Nat) : Int) l.1) m.1 = orB (orB ((y.1 : Nat) : Int) m.1) l.1 := by decide +kernel
  exact this y ⟨l, hl⟩ ⟨m, hm⟩
theorem an_twice {x : Int} {l : Nat} (hx : is5 x) (hl : l < 5) : anB (anB x l) l = anB x l := by
  obtain ⟨y, rfl⟩ := hx.fin
  have : ∀ y : Fin 32, ∀ l : Fin 5, anB (anB ((y.1 : Nat) : Int) l.1) l.1 = anB ((y.1 : Nat) : Int) l.1 := by decide +kernel
  exact this y ⟨l, hl⟩
theorem or_bit {x : Int} {l : Nat} (hx : is5 x) (hl : l < 5) : bits .and .u32 (orB x l / bt l) 1 = 1 := by
  obtain ⟨y, rfl⟩ := hx.fin
  have : ∀ y : Fin 32, ∀ l : Fin 5, bits .and .u32 (orB ((y.1 : Nat) : Int) l.1 / bt l.1) 1 = 1 := by decide +kernel
  exact this y ⟨l, hl⟩
theorem an_bit {x : Int} {l : Nat} (hx : is5 x) (hl : l < 5) : bits .and .u32 (anB x l / bt l) 1 = 0 := by
  obtain ⟨y, rfl⟩ := hx.fin
  have : ∀ y : Fin 32, ∀ l : Fin 5, bits .and .u32 (anB ((y.1 : Nat) : Int) l.1 / bt l.1) 1 = 0 := by decide +kernel
  exact this y ⟨l, hl⟩
theorem raise_in (x : Ctl) {l : Int} (k : Nat) (h : 0 ≤ l ∧ l < 5) : x.raise l k = { x with r := upd x.r (x.at l k) (orB (x.r (x.at l k)) l.toNat) } := if_pos h
theorem raise_out (x : Ctl) {l : Int} (k : Nat) (h : ¬ (0 ≤ l ∧ l < 5)) : x.raise l k = x := if_neg h
theorem at_r (x : Ctl) (f : Nat → Int) (l : Int) (k : Nat) : ({ x with r := f } : Ctl).at l k = x.at l k := rfl
theorem at_raise (x : Ctl) (m l : Int) (j k : Nat) : (x.raise m j).at l k = x.at l k := by
  unfold Ctl.raise
  split <;> rfl
section
variable {x : Ctl} (hx : x.Ok) (hw : x.wf) {k : Nat} (hk : (k : Int) < x.n)
include hx hw hk
theorem raise_twice (l : Int) : (x.raise l k).raise l k = x.raise l k := by
  by_cases h : 0 ≤ l ∧ l < 5
  · have ha := hx.at4 h hk
    rw [raise_in _ k h, at_raise, raise_in _ k h]
    show ({ x with r := upd (upd x.r (x.at l k) _) (x.at l k) (orB (upd x.r (x.at l k) _ (x.at l k)) l.toNat) } : Ctl) = _
    rw [upd_at, upd_upd, or_twice (hx.r5 hw ha.1) (by omega)]
  · rw [raise_out _ k h, raise_out _ k h]
theorem raise_swap (l m : Int) : (x.raise l k).raise m k = (x.raise m k).raise l k := by
  by_cases h : 0 ≤ l ∧ l < 5
  · by_cases g : 0 ≤ m ∧ m < 5
    · have ha := hx.at4 h hk
      have hb := hx.at4 g hk
      rw [raise_in (x.raise l k) k g, raise_in (x.raise m k) k h, at_raise, at_raise, raise_in x k h, raise_in x k g]
      show ({ x with r := upd (upd x.r (x.at l k) _) (x.at m k) (orB (upd x.r (x.at l k) _ (x.at m k)) m.toNat) } : Ctl) = ({ x with r := upd (upd x.r (x.at m k) _) (x.at l k) (orB (upd x.r (x.at m k) _ (x.at l k)) l.toNat) } : Ctl)
      generalize x.at l k = a at ha ⊢
      generalize x.at m k = b at hb ⊢
      by_cases e : a = b
      · subst e
        rw [upd_at, upd_at, upd_upd, upd_upd, or_swap (hx.r5 hw ha.1) (by omega) (by omega)]
      · rw [upd_ne _ _ (Ne.symm e), upd_ne _ _ e, upd_comm _ _ _ e]
    · rw [raise_out (x.raise l k) k g, raise_out x k g]
  · rw [raise_out x k h, raise_out (x.raise m k) k h]
end
end Go.Proofs.Ytkpigonlnabmdab
