/-
  THE WALK OF THE reference's Same, of ints.
-/
import Derived.Test.YtbnlpkjjdijfmabDoorIsaI
import Derived.Deep.QuietTactic
import Derived.BigQuiet
namespace Go.Proofs.YtbnlpkjjdijfmabDoor
open Go.RowKit Go.ChangeShapes Go.WideShapes Go.ChangeAt

theorem neq_false {a b : Int} (h : a = b) : (a != b) = false := by rw [h]; simp
theorem neq_true {a b : Int} (h : a ≠ b) : (a != b) = true := by simpa using h

theorem Sl.elem {α : Type} {w : World} {A : Option Addr} {n : Nat} {l : List α} {f : α → Value} (h : Sl w 1 A n (l.map f)) {k : Nat} (hk : k < n) :
    ∃ ad, A = some ad ∧ ad.block < w.heap.size ∧ ∃ hl : k < l.length, w.cell? (ad.add k) = some (f l[k]) := by
  obtain ⟨ad, u, e, hb, hu, hc⟩ := h.at1 hk
  have hl : k < l.length := by have := h.1; rw [List.length_map] at this; omega
  rw [List.getElem?_map, List.getElem?_eq_getElem hl] at hu
  cases hu
  exact ⟨ad, e, hb, hl, hc⟩
theorem Sl.mlen {α : Type} {w : World} {A : Option Addr} {n : Nat} {l : List α} {f : α → Value} (h : Sl w 1 A n (l.map f)) : l.length = n := by have := h.1; rw [List.length_map] at this; omega



/-- Two lists are alike so far. -/
def Alike {α : Type} (xs ys : List α) (k : Nat) : Prop := ∀ j, j < k → xs[j]? = ys[j]?
theorem Alike.zero {α : Type} (xs ys : List α) : Alike xs ys 0 := fun j hj => by omega
theorem Alike.next {α : Type} {xs ys : List α} {k : Nat} (h : Alike xs ys k) (hx : xs[k]? = ys[k]?) : Alike xs ys (k + 1) := fun j hj => by
  rcases Nat.lt_or_ge j k with h1 | h1
  · exact h j h1
  · rw [show j = k by omega]; exact hx
theorem Alike.all {α : Type} {xs ys : List α} {k : Nat} (h : Alike xs ys k) (hx : xs.length = k) (hy : ys.length = k) : xs = ys := by
  apply List.ext_getElem?
  intro j
  rcases Nat.lt_or_ge j k with h1 | h1
  · exact h j h1
  · rw [List.getElem?_eq_none (by omega), List.getElem?_eq_none (by omega)]

set_option maxRecDepth 100000 in
set_option maxHeartbeats 400000 in
theorem sameInts_any (A A2 : Option Addr) (n c n2 c2 : Nat) (xs ys : List Int) (w : World) (hs : Sl w 1 A n (N64 xs)) (hs2 : Sl w 1 A2 n2 (N64 ys)) (hn : n ≤ maxLen) (hn2 : n2 ≤ maxLen) :
    Calls Tryd.prog 16 #[.slice A n c, .slice A2 n2 c2] w fun e w' => e = .returned (.bool (decide (xs = ys))) ∧ Later w w' := by
  unfold maxLen at hn hn2
  have hl1 := Lib.hid hs.mlen
  have hl2 := Lib.hid hs2.mlen
  by_cases hnn : n = n2
  · subst hnn
    have t0 : ((n : Int) != (n : Int)) = false := neq_false rfl
    go_enter Tryd.func16, Tryd.ntmps16
    go_wp2
    go_loopw [5] (fun i wr => ∃ k : Nat, k ≤ n ∧ i = .int .i64 k ∧ Alike xs ys k ∧ Later w wr) (fun i _ => n - (intOf i).toNat)
    case atStart => exact ⟨0, Nat.zero_le _, rfl, Alike.zero _ _, Below.refl _ _⟩
    case round =>
      obtain ⟨k, hk, rfl, hal, hbr⟩ := hrel
      by_cases hlt : k < n
      · obtain ⟨ad, rfl, hb1, hk1, hc1⟩ := (hs.keep hbr).elem hlt
        obtain ⟨ad2, rfl, hb2, hk2, hc2⟩ := (hs2.keep hbr).elem hlt
        obtain ⟨x, hx⟩ : ∃ x, x = xs[k] := ⟨_, rfl⟩
        obtain ⟨y, hy⟩ : ∃ y, y = ys[k] := ⟨_, rfl⟩
        rw [← hx] at hc1
        rw [← hy] at hc2
        have HX := Lib.hid hx; have HY := Lib.hid hy
        clear hx hy
        by_cases hxy : x = y
        · have t1 : (x != y) = false := neq_false hxy
          have hnx := hal.next (k := k) (by rw [List.getElem?_eq_getElem hk1, List.getElem?_eq_getElem hk2, ← HX.out, ← HY.out, hxy])
          clear hxy
          go_wp2
          go_quiet (fail)
          go_wp2
          go_roundw
          case rel => exact ⟨k + 1, by omega, by go_num, hnx, Later.trans_ hbr (later_drewN _ nq)⟩
          case measure => simp [intOf]; omega
        · have t1 : (x != y) = true := neq_true hxy
          have hne : xs ≠ ys := fun h => hxy (by rw [HX.out, HY.out]; simp only [h])
          have HN := Lib.hid hne
          clear hxy hne
          go_wp2
          go_quiet (fail)
          go_wp2
          go_ret
          exact ⟨ret_bool (by simp [HN.out]), Later.trans_ hbr (later_drewN _ nq)⟩
      · obtain rfl : k = n := by omega
        have HN := Lib.hid (hal.all hl1.out hl2.out)
        go_wp2
        go_ret
        exact ⟨ret_bool (by simp [HN.out]), hbr⟩
  · have t0 : ((n : Int) != (n2 : Int)) = true := neq_true (by omega)
    have hne : xs ≠ ys := fun h => hnn (by rw [← hl1.out, ← hl2.out, h])
    have HN := Lib.hid hne; clear hne hnn
    go_enter Tryd.func16, Tryd.ntmps16
    go_wp2
    go_ret
    exact ⟨ret_bool (by simp [HN.out]), Below.refl _ _⟩


end Go.Proofs.YtbnlpkjjdijfmabDoor
