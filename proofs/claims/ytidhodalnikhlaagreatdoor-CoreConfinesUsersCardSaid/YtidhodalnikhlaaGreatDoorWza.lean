/-
  THE STATEMENT CoreComputes: its walk.
-/
import Derived.Test.YtidhodalnikhlaaGreatDoorWy
import Derived.Test.YtidhodalnikhlaaGreatDoorWr
import Derived.Test.YtidhodalnikhlaaGreatDoorWt
namespace Go.Proofs.YtidhodalnikhlaaGreatDoor
open Go.RowKit Go.ChangeShapes Go.WideShapes Go.ChangeAt

theorem own4Z {w : World} {base : Nat} {e : TypeId} {n : Nat} {v : Value} {xs : List Value} (h : w.ownsRow base e 3 v n xs) : ∃ A c, v = .slice A n c ∧ Sl w 3 A n xs ∧ ∀ ad, A = some ad → base ≤ ad.block ∧ ad.block < w.heap.size := by
  have hl := h.1
  rcases h.2 with ⟨rfl, rfl⟩ | ⟨g, cap, cur, rfl, hg, hc, _, _, _, hx⟩
  · exact ⟨none, 0, rfl, ⟨hl, fun h0 => absurd h0 (by omega)⟩, fun _ e => (by cases e)⟩
  · have hb : Blk w g e cur.toList := by unfold Blk; simpa using hc
    exact ⟨_, _, rfl, sl_of hl ⟨cur, hc, hx⟩, fun ad e => (by cases e; exact ⟨hg, hb.lt⟩)⟩
def Stp (x : Cpu) (a V pn : Int) (w : World) (e : Ending) (w' : World) : Prop :=
  ∃ (s2 : Sp) (AW : Option Addr) (cw : Nat) (AA : Option Addr) (na ca : Nat), e = .returned (.agg s2.eff.toArray) ∧ s2.dn = true ∧ (s2.tr = 0 ∧ s2.ec.pc = pn ∧ ∀ k, k < 16 → s2.ec.reg k = if (k : Int) = a ∧ k ≠ 0 then V else x.reg k) ∧ True ∧ (s2.wv = .slice AW 0 cw ∧ s2.av = .slice AA na ca ∧ True) ∧ Later w w'
end Go.Proofs.YtidhodalnikhlaaGreatDoor
