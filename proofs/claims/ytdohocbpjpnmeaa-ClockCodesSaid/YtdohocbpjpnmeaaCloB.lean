/-
  PLAIN MATHEMATICS: what the calls make of a clock.
-/
import Derived.Test.YtdohocbpjpnmeaaCloA
namespace Go.Proofs.Ytdohocbpjpnmeaa
open Go.RowKit Go.ChangeShapes Go.WideShapes Go.ChangeAt

def isC (c : Int) : Bool := decide (0 ≤ c ∧ c ≤ 3)
def isT (t : Int) : Bool := decide (0 ≤ t ∧ t ≤ 2147483647)
def isN (n : Int) : Bool := decide (0 ≤ n ∧ n ≤ 1099511627776)
/-- The first fault that there is. -/
def firstE : List (Bool × Int) → Int
  | [] => 0
  | (b, e) :: r => if b then e else firstE r
def faultC : List (Bool × Int) → List Value
  | [] => []
  | (b, e) :: r => .bool b :: .int .i64 e :: faultC r
theorem faultC_len (L : List (Bool × Int)) : (faultC L).length = L.length * 2 := by
  induction L with
  | nil => rfl
  | cons a r ih => obtain ⟨b, e⟩ := a; simp only [faultC, List.length_cons, ih]; omega
theorem faultC_at : ∀ (L : List (Bool × Int)) (k : Nat) (b : Bool) (e : Int), L[k]? = some (b, e) → ((faultC L).drop (k * 2)).take 2 = [.bool b, .int .i64 e]
  | [], k, b, e, h => by simp at h
  | (b', e') :: r, 0, b, e, h => by
    simp only [List.getElem?_cons_zero, Option.some.injEq, Prod.mk.injEq] at h
    obtain ⟨rfl, rfl⟩ := h
    rfl
  | (b', e') :: r, k + 1, b, e, h => by
    rw [List.getElem?_cons_succ] at h
    rw [show (k + 1) * 2 = k * 2 + 1 + 1 by omega]
    exact faultC_at r k b e h
theorem firstE_drop (L : List (Bool × Int)) (k : Nat) (b : Bool) (e : Int) (h : L[k]? = some (b, e)) : firstE (L.drop k) = if b then e else firstE (L.drop (k + 1)) := by
  have hk : k < L.length := by
    rcases Nat.lt_or_ge k L.length with h1 | h1
    · exact h1
    · rw [List.getElem?_eq_none h1] at h; cases h
  have h2 : L[k] = (b, e) := by rw [List.getElem?_eq_getElem hk] at h; exact Option.some.inj h
  rw [List.drop_eq_getElem_cons hk, h2]
  rfl
def Clk.off (x : Clk) (c : Int) : Bool := isC c && x.o c.toNat
def Clk.offerE (x : Clk) (c t : Int) : Int := firstE [(!isC c, 1), (!isT t, 7), (decide (t < x.l), 9), (x.off c, 4)]
def Clk.offerC (x : Clk) (c t : Int) : Clk := if x.offerE c t = 0 then { x with l := t, o := upd x.o c.toNat true, r := upd x.r c.toNat t } else x
def Clk.readE (x : Clk) (c : Int) : Int := firstE [(!isC c, 1), (!x.off c, 4)]
def Clk.readC (x : Clk) (c : Int) : Clk := if x.readE c = 0 then { x with o := upd x.o c.toNat false, r := upd x.r c.toNat 0 } else x
def wr32 (n : Int) : Int := IntKind.u32.wrap n
def Clk.readV (x : Clk) (c : Int) : Int := if x.readE c = 0 then wr32 (x.r c.toNat) else 0
def setE (c n : Int) : Int := firstE [(!isC c, 1), (!isN n, 1)]
/-- When an alarm is due. -/
def alarm (n v : Int) : Int := if v = 0 then 0 else min (n + v) 1099511627776
def Clk.setC (x : Clk) (c n v : Int) : Clk := if setE c n = 0 then { x with a := upd x.a c.toNat (alarm n v) } else x
def Clk.next (x : Clk) (c : Int) : Int := if isC c then x.a c.toNat else 0
def Clk.fire (x : Clk) (c n : Int) : Bool := !(decide (x.next c = 0) || decide (n < x.next c))
def Clk.fireC (x : Clk) (c n : Int) : Clk := if x.fire c n then { x with a := upd x.a c.toNat 0 } else x
/-- What is asked: whether in, the port, the value. -/
def Clk.portC (x : Clk) (c n : Int) (inn : Bool) (p v : Int) : Clk := if inn && decide (p = 16) then x.readC c else if !inn && decide (p = 17) then x.setC c n v else x
def Clk.portV (x : Clk) (c : Int) (inn : Bool) (p : Int) : Int := if inn && decide (p = 16) then x.readV c else 0
def Clk.portE (x : Clk) (c n : Int) (inn : Bool) (p : Int) : Int := if inn && decide (p = 16) then x.readE c else if !inn && decide (p = 17) then setE c n else 5
theorem isC_nat {k : Nat} (h : k < 4) : isC (k : Int) = true := decide_eq_true (by omega)
theorem isC_open {c : Int} (h : isC c = true) : ∃ k : Nat, c = k ∧ k < 4 := by
  have h1 := of_decide_eq_true h
  exact ⟨c.toNat, by omega, by omega⟩
theorem off_nat (x : Clk) {k : Nat} (h : k < 4) : x.off (k : Int) = x.o k := by
  unfold Clk.off
  rw [isC_nat h, Int.toNat_natCast]; rfl
theorem off_not (x : Clk) {c : Int} (h : isC c = false) : x.off c = false := by unfold Clk.off; rw [h]; rfl
theorem offer_0 {x : Clk} {c t : Int} (h : x.offerE c t = 0) : isC c = true ∧ isT t = true ∧ ¬ t < x.l ∧ x.off c = false := by
  unfold Clk.offerE at h
  cases h1 : isC c with
  | false => rw [h1] at h; exact absurd h (by simp [firstE])
  | true =>
    cases h2 : isT t with
    | false => rw [h1, h2] at h; exact absurd h (by simp [firstE])
    | true =>
      by_cases h3 : t < x.l
      · rw [h1, h2, decide_eq_true h3] at h; exact absurd h (by simp [firstE])
      · cases h4 : x.off c with
        | true => rw [h1, h2, decide_eq_false h3, h4] at h; exact absurd h (by simp [firstE])
        | false => exact ⟨rfl, rfl, h3, rfl⟩
theorem read_0 {x : Clk} {c : Int} (h : x.readE c = 0) : isC c = true ∧ x.off c = true := by
  unfold Clk.readE at h
  cases h1 : isC c with
  | false => rw [h1] at h; exact absurd h (by simp [firstE])
  | true =>
    cases h4 : x.off c with
    | false => rw [h1, h4] at h; exact absurd h (by simp [firstE])
    | true => exact ⟨rfl, rfl⟩
theorem set_0 {c n : Int} (h : setE c n = 0) : isC c = true ∧ isN n = true := by
  unfold setE at h
  cases h1 : isC c with
  | false => rw [h1] at h; exact absurd h (by simp [firstE])
  | true =>
    cases h4 : isN n with
    | false => rw [h1, h4] at h; exact absurd h (by simp [firstE])
    | true => exact ⟨rfl, rfl⟩
def okP (x : Clk) (k : Nat) : Prop := 0 ≤ x.r k ∧ x.r k ≤ (if x.o k then x.l else 0) ∧ 0 ≤ x.a k ∧ x.a k ≤ 1099511627776
/-- Whether a clock is valid. -/
structure Clk.Ok (x : Clk) : Prop where
  l0 : 0 ≤ x.l
  l1 : x.l ≤ 2147483647
  p : ∀ k, k < 4 → okP x k
theorem ok_dec (x : Clk) : ∃ b : Bool, b = true ↔ x.Ok := by
  by_cases h : x.Ok
  · exact ⟨true, by simp [h]⟩
  · exact ⟨false, by simp [h]⟩
theorem Clk.Ok.offered {x : Clk} (h : x.Ok) (c t : Int) : (x.offerC c t).Ok := by
  unfold Clk.offerC
  split
  · rename_i h0
    obtain ⟨h1, h2, h3, h4⟩ := offer_0 h0
    obtain ⟨k, rfl, hk⟩ := isC_open h1
    have h5 := of_decide_eq_true h2
    rw [Int.toNat_natCast]
    refine ⟨h5.1, h5.2, fun j hj => ?_⟩
    have h6 := h.p j hj
    unfold okP at h6 ⊢
    show 0 ≤ upd x.r k t j ∧ upd x.r k t j ≤ (if upd x.o k true j then t else 0) ∧ _ ∧ _
    by_cases e : j = k
    · subst e; rw [upd_at, upd_at, if_pos rfl]; exact ⟨h5.1, Int.le_refl _, h6.2.2⟩
    · rw [upd_ne _ _ e, upd_ne _ _ e]
      refine ⟨h6.1, ?_, h6.2.2⟩
      have h7 := h6.2.1
      split at h7 <;> rename_i h8
      · rw [if_pos h8]; omega
      · rw [if_neg h8]; exact h7
  · exact h
theorem Clk.Ok.read {x : Clk} (h : x.Ok) (c : Int) : (x.readC c).Ok := by
  unfold Clk.readC
  split
  · rename_i h0
    obtain ⟨h1, h4⟩ := read_0 h0
    obtain ⟨k, rfl, hk⟩ := isC_open h1
    rw [Int.toNat_natCast]
    refine ⟨h.l0, h.l1, fun j hj => ?_⟩
    have h6 := h.p j hj
    unfold okP at h6 ⊢
    show 0 ≤ upd x.r k 0 j ∧ upd x.r k 0 j ≤ (if upd x.o k false j then x.l else 0) ∧ _ ∧ _
    by_cases e : j = k
    · subst e; rw [upd_at, upd_at]; exact ⟨Int.le_refl _, (by simp), h6.2.2⟩
    · rw [upd_ne _ _ e, upd_ne _ _ e]
      exact h6
  · exact h
theorem Clk.wf.offered {x : Clk} (h : x.wf) {c t : Int} : (x.offerC c t).wf := by
  unfold Clk.offerC
  split
  · rename_i h0
    have h5 := of_decide_eq_true (offer_0 h0).2.1
    have ht : i64 t := ⟨by omega, by omega⟩
    refine ⟨ht, fun j hj => ?_, h.a⟩
    show i64 (upd x.r c.toNat t j)
    by_cases e : j = c.toNat
    · rw [e, upd_at]; exact ht
    · rw [upd_ne _ _ e]; exact h.r j hj
  · exact h
theorem Clk.wf.read {x : Clk} (h : x.wf) {c : Int} : (x.readC c).wf := by
  unfold Clk.readC
  split
  · refine ⟨h.l, fun j hj => ?_, h.a⟩
    show i64 (upd x.r c.toNat 0 j)
    by_cases e : j = c.toNat
    · rw [e, upd_at]; exact ⟨by omega, by omega⟩
    · rw [upd_ne _ _ e]; exact h.r j hj
  · exact h
theorem Clk.wf.set {x : Clk} (h : x.wf) {c n v : Int} (hv : 0 ≤ v) : (x.setC c n v).wf := by
  unfold Clk.setC
  split
  · rename_i h0
    have h5 := of_decide_eq_true (set_0 h0).2
    refine ⟨h.l, h.r, fun j hj => ?_⟩
    show i64 (upd x.a c.toNat (alarm n v) j)
    by_cases e : j = c.toNat
    · rw [e, upd_at]; unfold alarm; split
      · exact ⟨by omega, by omega⟩
      · exact ⟨by omega, by omega⟩
    · rw [upd_ne _ _ e]; exact h.a j hj
  · exact h
end Go.Proofs.Ytdohocbpjpnmeaa
