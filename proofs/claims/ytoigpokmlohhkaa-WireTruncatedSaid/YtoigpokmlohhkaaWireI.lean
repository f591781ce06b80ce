/-
  THE WALKS OF wire's GetInts, GetStrings, GetDigests, and of the reference's GetDigests.
-/
import Derived.Test.YtoigpokmlohhkaaWireH
namespace Go.Proofs.Ytoigpokmlohhkaa
open Go.RowKit

set_option maxHeartbeats 400000 in
theorem wireGetInts_any (A : Option Addr) (n c : Nat) (b : Wm.Bs) (w : World) (hs : Sl w 1 A n (U b)) (hb : Wm.isBs b) (hnc : n ≤ c) (hn : c ≤ maxLen) (hsm : n ≤ 1000000) :
    Calls Try.prog 13 #[.slice A n c] w (GotInts (Wm.decL Wm.decI 1 b) w) := by
  have H := Lib.hid (decodeInts_any A n c b w hs hb hnc hn hsm)
  go_enter Try.func13, Try.ntmps13
  go_wp2_with (go_at_call 28; refine (H.out).mono ?_; rintro e w' ⟨A2, n2, c2, rfl, h1, h2, h3, h4⟩)
  go_ret3
  exact ⟨A2, n2, c2, rfl, h1, h2, h3, h4⟩
set_option maxHeartbeats 400000 in
theorem wireGetStrs_any (A : Option Addr) (n c : Nat) (b : Wm.Bs) (w : World) (hs : Sl w 1 A n (U b)) (hb : Wm.isBs b) (hnc : n ≤ c) (hn : c ≤ maxLen) (hsm : n ≤ 1000000) :
    Calls Try.prog 14 #[.slice A n c] w (GotStrs (Wm.decL Wm.decB 1 b) w) := by
  have H := Lib.hid (decodeStrs_any A n c b w hs hb hnc hn hsm)
  go_enter Try.func14, Try.ntmps14
  go_wp2_with (go_at_call 29; refine (H.out).mono ?_; rintro e w' ⟨A2, n2, c2, rfl, h1, h2, h3, h4⟩)
  go_ret3
  exact ⟨A2, n2, c2, rfl, h1, h2, h3, h4⟩
set_option maxHeartbeats 400000 in
theorem wireGetDigs_any (A : Option Addr) (n c : Nat) (b : Wm.Bs) (w : World) (hs : Sl w 1 A n (U b)) (hb : Wm.isBs b) (hnc : n ≤ c) (hn : c ≤ maxLen) (hsm : n ≤ 1000000) :
    Calls Try.prog 15 #[.slice A n c] w (GotDigs (Wm.decL decD 16 b) w) := by
  have H := Lib.hid (decodeDigs_any A n c b w hs hb hnc hn hsm)
  go_enter Try.func15, Try.ntmps15
  go_wp2_with (go_at_call 30; refine (H.out).mono ?_; rintro e w' ⟨A2, n2, c2, rfl, h1, h2, h3, h4⟩)
  go_ret3
  exact ⟨A2, n2, c2, rfl, h1, h2, h3, h4⟩

/-- A digest that is being filled: the first i bytes are there. -/
def Cur (D : Wm.Bs) (i : Nat) : List Value := (U D).take i ++ List.replicate (16 - i) (.int .u8 0)
theorem Cur.zero (D : Wm.Bs) : Cur D 0 = zeros16 := by simp [Cur, zeros16]
theorem Cur.all {D : Wm.Bs} (h : D.length = 16) : Cur D 16 = U D := by
  unfold Cur
  rw [List.take_of_length_le (by rw [U_length]; omega), Nat.sub_self]
  simp
theorem Cur.len {D : Wm.Bs} (h : D.length = 16) {i : Nat} (hi : i ≤ 16) : (Cur D i).length = 16 := by
  unfold Cur; rw [List.length_append, List.length_take, U_length, List.length_replicate]; omega
theorem Cur.next {D : Wm.Bs} (h : D.length = 16) {i : Nat} (hi : i < 16) : (Cur D i).set i (.int .u8 (D.getD i 0)) = Cur D (i + 1) := by
  unfold Cur
  have hl : ((U D).take i).length = i := by rw [List.length_take, U_length]; omega
  have e1 : 16 - i = (16 - (i + 1)) + 1 := by omega
  have hU : i < (U D).length := by rw [U_length]; omega
  have hg : (U D)[i] = .int .u8 (D.getD i 0) := by
    have := U_get D i (by omega)
    rw [List.getElem?_eq_getElem hU] at this
    exact Option.some.inj this
  rw [List.set_append_right _ _ (by omega), hl, Nat.sub_self, e1, List.replicate_succ, List.set_cons_zero, List.take_succ_eq_append_getElem hU, hg, List.append_assoc]
  rfl

end Go.Proofs.Ytoigpokmlohhkaa
