/-
  PLAIN MATHEMATICS: the bits of lines; what the calls make of a control.
-/
import Derived.Test.YtkpigonlnabmdabLinA
namespace Go.Proofs.Ytkpigonlnabmdab
open Go.RowKit Go.ChangeShapes Go.WideShapes Go.ChangeAt

/-- The bit of a line. -/
def bt (l : Nat) : Int := ((2 ^ l : Nat) : Int)
def hasB (x : Int) (l : Nat) : Bool := decide (x / bt l % 2 = 1)
def orB (x : Int) (l : Nat) : Int := if hasB x l then x else x + bt l
def anB (x : Int) (l : Nat) : Int := if hasB x l then x - bt l else x
/-- A number of five bits. -/
def is5 (x : Int) : Prop := 0 ≤ x ∧ x < 32
theorem is5.fin {x : Int} (h : is5 x) : ∃ y : Fin 32, x = ((y.1 : Nat) : Int) := by
  obtain ⟨q, rfl⟩ := Int.eq_ofNat_of_zero_le h.1
  exact ⟨⟨q, by have := h.2; omega⟩, rfl⟩
theorem is5.e {x : Int} (h : is5 x) : Tm.isE x := ⟨h.1, by have := h.2; omega⟩
theorem or_is {x : Int} {l : Nat} (hx : is5 x) (hl : l < 5) : bits .or .u32 x (bt l) = orB x l := by
  obtain ⟨y, rfl⟩ := hx.fin
  have : ∀ y : Fin 32, ∀ l : Fin 5, bits .or .u32 ((y.1 : Nat) : Int) (bt l.1) = orB ((y.1 : Nat) : Int) l.1 := by decide +kernel
  exact this y ⟨l, hl⟩
theorem an_is {x : Int} {l : Nat} (hx : is5 x) (hl : l < 5) : bits .andNot .u32 x (bt l) = anB x l := by
  obtain ⟨y, rfl⟩ := hx.fin
  have : ∀ y : Fin 32, ∀ l : Fin 5, bits .andNot .u32 ((y.1 : Nat) : Int) (bt l.1) = anB ((y.1 : Nat) : Int) l.1 := by decide +kernel
  exact this y ⟨l, hl⟩
theorem or_5 {x : Int} {l : Nat} (hx : is5 x) (hl : l < 5) : is5 (orB x l) := by
  obtain ⟨y, rfl⟩ := hx.fin
  have : ∀ y : Fin 32, ∀ l : Fin 5, 0 ≤ orB ((y.1 : Nat) : Int) l.1 ∧ orB ((y.1 : Nat) : Int) l.1 < 32 := by decide +kernel
  exact this y ⟨l, hl⟩
theorem an_5 {x : Int} {l : Nat} (hx : is5 x) (hl : l < 5) : is5 (anB x l) := by
  obtain ⟨y, rfl⟩ := hx.fin
  have : ∀ y : Fin 32, ∀ l : Fin 5, 0 ≤ anB ((y.1 : Nat) : Int) l.1 ∧ anB ((y.1 : Nat) : Int) l.1 < 32 := by decide +kernel
  exact this y ⟨l, hl⟩
theorem and31 {e : Int} (h : Tm.isE e) : bits .and .u32 e 31 = e % 32 := by
  obtain ⟨x, rfl⟩ := Int.eq_ofNat_of_zero_le h.1
  have hx : x < 4294967296 := by have := h.2; omega
  have h2 := Nat.and_two_pow_sub_one_eq_mod x 5
  rw [show 2 ^ 5 - 1 = 31 from rfl, show 2 ^ 5 = 32 from rfl] at h2
  rw [show (31 : Int) = ((31 : Nat) : Int) from rfl, and32 x 31 hx (by omega), h2]
  omega
theorem or_small {a b : Int} (ha : Tm.isE a) (hb : Tm.isE b) : (bits .or .u32 a b ≤ 31 ↔ a < 32 ∧ b < 32) ∧ (bits .or .u32 a b = 0 ↔ a = 0 ∧ b = 0) := by
  obtain ⟨x, rfl⟩ := Int.eq_ofNat_of_zero_le ha.1
  obtain ⟨y, rfl⟩ := Int.eq_ofNat_of_zero_le hb.1
  have hx : x < 4294967296 := by have := ha.2; omega
  have hy : y < 4294967296 := by have := hb.2; omega
  rw [or32 x y hx hy]
  have h1 : x ≤ x ||| y := Nat.left_le_or
  have h2 : y ≤ x ||| y := Nat.right_le_or
  refine ⟨⟨fun h => by omega, fun h => ?_⟩, ⟨fun h => by omega, fun h => ?_⟩⟩
  · have : x ||| y < 2 ^ 5 := Nat.or_lt_two_pow (by omega) (by omega)
    omega
  · obtain ⟨h3, h4⟩ := h
    obtain rfl : x = 0 := by omega
    obtain rfl : y = 0 := by omega
    rfl
/-- What is pending, as the reference adds it up. -/
def pendTo (x y : Int) : Nat → Int
  | 0 => 0
  | k + 1 => if hasB x k && hasB y k then pendTo x y k + bt k else pendTo x y k
theorem pend_is {x y : Int} (hx : is5 x) (hy : is5 y) : bits .and .u32 x y = pendTo x y 5 := by
  obtain ⟨a, rfl⟩ := hx.fin
  obtain ⟨b, rfl⟩ := hy.fin
  have : ∀ a b : Fin 32, bits .and .u32 ((a.1 : Nat) : Int) ((b.1 : Nat) : Int) = pendTo ((a.1 : Nat) : Int) ((b.1 : Nat) : Int) 5 := by decide +kernel
  exact this a b
theorem pend_small (x y : Int) {k : Nat} (hk : k ≤ 5) : 0 ≤ pendTo x y k ∧ pendTo x y k < bt k := by
  induction k with
  | zero => exact ⟨Int.le_refl _, (show (0 : Int) < bt 0 from by decide)⟩
  | succ k ih =>
    have h := ih (by omega)
    have e : bt (k + 1) = 2 * bt k := by unfold bt; rw [Nat.pow_succ]; omega
    have hp : 0 < bt k := by unfold bt; have := Nat.two_pow_pos k; omega
    unfold pendTo
    split <;> omega

/-- Whether a line is that of a device. -/
def dev (l : Int) : Bool := decide (1 ≤ l ∧ l ≤ 3)
def okP (x : Ctl) (k : Nat) : Prop := x.r k < 32 ∧ x.m k < 32 ∧ (x.n ≤ (k : Int) → x.r k = 0 ∧ x.m k = 0)
def okT (x : Ctl) (k : Nat) : Prop := 0 ≤ x.t k ∧ x.t k < x.n ∧ (dev (k : Int) = false → x.t k = 0)
/-- Whether a control is valid. -/
structure Ctl.Ok (x : Ctl) : Prop where
  n1 : 1 ≤ x.n
  n4 : x.n ≤ 4
  p : ∀ k, k < 4 → okP x k
  t : ∀ k, k < 5 → okT x k
theorem ok_dec (x : Ctl) : ∃ b : Bool, b = true ↔ x.Ok := by
  by_cases h : x.Ok
  · exact ⟨true, by simp [h]⟩
  · exact ⟨false, by simp [h]⟩
/-- Where a line is raised. -/
def Ctl.at (x : Ctl) (l : Int) (k : Nat) : Nat := if dev l then (x.t l.toNat).toNat else k
def Ctl.raise (x : Ctl) (l : Int) (k : Nat) : Ctl := if 0 ≤ l ∧ l < 5 then { x with r := upd x.r (x.at l k) (orB (x.r (x.at l k)) l.toNat) } else x
def Ctl.pend (x : Ctl) (k : Nat) : Int := pendTo (x.r k) (x.m k) 5
/-- What is put out. -/
def Ctl.out (x : Ctl) (k : Nat) (p v : Int) : Ctl :=
  if p = 0 then { x with m := upd x.m k (v % 32) }
  else if p = 2 then (if v < 5 then { x with r := upd x.r k (anB (x.r k) v.toNat) } else x)
  else if p = 3 then (if v < x.n then x.raise 4 v.toNat else x)
  else if p = 4 then (if dev (v / 16) = true ∧ v % 16 < x.n then { x with t := upd x.t (v / 16).toNat (v % 16) } else x)
  else x
def Ctl.port (x : Ctl) (k : Nat) (inn : Bool) (p v : Int) : Ctl := if inn then x else x.out k p v
def Ctl.val (x : Ctl) (k : Nat) (inn : Bool) (p : Int) : Int := if inn then (if p = 0 then x.m k else if p = 1 then x.pend k else 0) else 0
def pErr (inn : Bool) (p : Int) : Int := if inn then (if p = 0 ∨ p = 1 then 0 else 5) else (if p = 0 ∨ p = 2 ∨ p = 3 ∨ p = 4 then 0 else 5)
section
variable {x : Ctl} (hx : x.Ok) (hw : x.wf)
include hx hw
theorem Ctl.Ok.r5 {k : Nat} (hk : k < 4) : is5 (x.r k) := ⟨(hw.r k hk).1, (hx.p k hk).1⟩
theorem Ctl.Ok.m5 {k : Nat} (hk : k < 4) : is5 (x.m k) := ⟨(hw.m k hk).1, (hx.p k hk).2.1⟩
omit hw in
theorem Ctl.Ok.t4 {k : Nat} (hk : k < 5) : (x.t k).toNat < 4 ∧ ((x.t k).toNat : Int) = x.t k ∧ ((x.t k).toNat : Int) < x.n := by
  have h := hx.t k hk
  have := hx.n4
  unfold okT at h
  refine ⟨by omega, by omega, by omega⟩
omit hw in
theorem Ctl.Ok.at4 {l : Int} {k : Nat} (hl : 0 ≤ l ∧ l < 5) (hk : (k : Int) < x.n) : x.at l k < 4 ∧ (x.at l k : Int) < x.n := by
  unfold Ctl.at
  split
  · exact ⟨(hx.t4 (by omega)).1, (hx.t4 (by omega)).2.2⟩
  · have := hx.n4; exact ⟨by omega, hk⟩
theorem Ctl.Ok.setR {j : Nat} {v : Int} (hj : (j : Int) < x.n) (hv : is5 v) : ({ x with r := upd x.r j v } : Ctl).Ok ∧ ({ x with r := upd x.r j v } : Ctl).wf := by
  refine ⟨⟨hx.n1, hx.n4, fun k hk => ?_, hx.t⟩, ⟨hw.n, fun k hk => ?_, hw.m, hw.t⟩⟩
  · have h := hx.p k hk
    unfold okP at h ⊢
    show upd x.r j v k < 32 ∧ _ ∧ _
    by_cases e : k = j
    · subst e; rw [upd_at]; exact ⟨hv.2, h.2.1, fun h9 => absurd hj (by show ¬ _; have : x.n ≤ (k : Int) := h9; omega)⟩
    · rw [upd_ne _ _ e]; refine ⟨h.1, h.2.1, fun h9 => ?_⟩
      have := h.2.2 h9
      show upd x.r j v k = 0 ∧ _
      rw [upd_ne _ _ e]; exact this
  · show Tm.isE (upd x.r j v k)
    by_cases e : k = j
    · subst e; rw [upd_at]; exact hv.e
    · rw [upd_ne _ _ e]; exact hw.r k hk
theorem Ctl.Ok.setM {j : Nat} {v : Int} (hj : (j : Int) < x.n) (hv : is5 v) : ({ x with m := upd x.m j v } : Ctl).Ok ∧ ({ x with m := upd x.m j v } : Ctl).wf := by
  refine ⟨⟨hx.n1, hx.n4, fun k hk => ?_, hx.t⟩, ⟨hw.n, hw.r, fun k hk => ?_, hw.t⟩⟩
  · have h := hx.p k hk
    unfold okP at h ⊢
    show _ ∧ upd x.m j v k < 32 ∧ _
    by_cases e : k = j
    · subst e; rw [upd_at]; exact ⟨h.1, hv.2, fun h9 => absurd hj (by show ¬ _; have : x.n ≤ (k : Int) := h9; omega)⟩
    · rw [upd_ne _ _ e]; refine ⟨h.1, h.2.1, fun h9 => ?_⟩
      have := h.2.2 h9
      show _ ∧ upd x.m j v k = 0
      rw [upd_ne _ _ e]; exact this
  · show Tm.isE (upd x.m j v k)
    by_cases e : k = j
    · subst e; rw [upd_at]; exact hv.e
    · rw [upd_ne _ _ e]; exact hw.m k hk
theorem Ctl.Ok.setT {j : Nat} {v : Int} (hj : dev (j : Int) = true) (hv : 0 ≤ v ∧ v < x.n) : ({ x with t := upd x.t j v } : Ctl).Ok ∧ ({ x with t := upd x.t j v } : Ctl).wf := by
  have hn4 := hx.n4
  refine ⟨⟨hx.n1, hx.n4, hx.p, fun k hk => ?_⟩, ⟨hw.n, hw.r, hw.m, fun k hk => ?_⟩⟩
  · have h := hx.t k hk
    unfold okT at h ⊢
    show 0 ≤ upd x.t j v k ∧ upd x.t j v k < x.n ∧ (_ → upd x.t j v k = 0)
    by_cases e : k = j
    · subst e; rw [upd_at]; exact ⟨hv.1, hv.2, fun h9 => by rw [hj] at h9; cases h9⟩
    · rw [upd_ne _ _ e]; exact h
  · show i64 (upd x.t j v k)
    by_cases e : k = j
    · subst e; rw [upd_at]; exact ⟨by omega, by omega⟩
    · rw [upd_ne _ _ e]; exact hw.t k hk
theorem Ctl.Ok.raised {l : Int} {k : Nat} (hk : (k : Int) < x.n) : (x.raise l k).Ok ∧ (x.raise l k).wf := by
  unfold Ctl.raise
  split
  · rename_i h
    have ha := hx.at4 h hk
    exact hx.setR hw ha.2 (or_5 (hx.r5 hw ha.1) (by omega))
  · exact ⟨hx, hw⟩
theorem Ctl.Ok.outed {k : Nat} {p v : Int} (hk : (k : Int) < x.n) (hv : Tm.isE v) : (x.out k p v).Ok ∧ (x.out k p v).wf := by
  have h4 := hx.n4
  have hv0 := hv.1
  unfold Ctl.out
  split
  · exact hx.setM hw hk ⟨by omega, by omega⟩
  split
  · split
    · exact hx.setR hw hk (an_5 (hx.r5 hw (by omega)) (by omega))
    · exact ⟨hx, hw⟩
  split
  · split
    · exact hx.raised hw (by omega)
    · exact ⟨hx, hw⟩
  split
  · split
    · rename_i h
      refine hx.setT hw ?_ ⟨by omega, h.2⟩
      rw [show (((v / 16).toNat : Nat) : Int) = v / 16 by omega]
      exact h.1
    · exact ⟨hx, hw⟩
  · exact ⟨hx, hw⟩
theorem Ctl.Ok.ported {k : Nat} {inn : Bool} {p v : Int} (hk : (k : Int) < x.n) (hv : Tm.isE v) : (x.port k inn p v).Ok ∧ (x.port k inn p v).wf := by
  unfold Ctl.port
  split
  · exact ⟨hx, hw⟩
  · exact hx.outed hw hk hv
end
end Go.Proofs.Ytkpigonlnabmdab
