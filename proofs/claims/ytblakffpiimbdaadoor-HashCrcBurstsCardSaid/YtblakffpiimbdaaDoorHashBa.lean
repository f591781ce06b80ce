/-
  PLAIN FACTS of bursts of errors.
-/
import Derived.Test.YtblakffpiimbdaaDoorHashZ
namespace Go.Proofs.YtblakffpiimbdaaDoor
open Go.RowKit

namespace HmX
open Hm
theorem two_X (i : Nat) (h : i < 40) : BitVec.twoPow 40 i = Hm.Xn i 1#40 := by
  have : (List.range 40).all (fun i => BitVec.twoPow 40 i == Hm.Xn i 1#40) = true := by decide +kernel
  exact eq_of_beq (Hm.of_range this i h)
theorem byteAt_two (t : Nat) (h : t < 8) : byteAt (BitVec.twoPow 8 t) = Hm.Xn (32 + t) 1#40 := by
  have : (List.range 8).all (fun t => byteAt (BitVec.twoPow 8 t) == Hm.Xn (32 + t) 1#40) = true := by decide +kernel
  exact eq_of_beq (Hm.of_range this t h)
theorem bytes_xor_left (p q : Hm.R) (l : List (BitVec 8)) : Hm.bytes (p ^^^ q) l = Hm.bytes p l ^^^ Hm.Xn (8 * l.length) q := by
  rw [Hm.bytes_zero (p ^^^ q), Hm.bytes_zero p, Hm.Xn_xor]
  generalize Hm.Xn (8 * l.length) p = x; generalize Hm.Xn (8 * l.length) q = y; generalize Hm.bytes 0#40 l = z
  ac_rfl
theorem byte_flip (r : Hm.R) (c d : BitVec 8) : Hm.byte r (c ^^^ d) = Hm.byte r c ^^^ Hm.Xn 8 (byteAt d) := by
  unfold Hm.byte
  rw [← Hm.Xn_xor, byteAt_xor, BitVec.xor_assoc]
theorem bytes_set (l : List (BitVec 8)) : ∀ (r : Hm.R) (j : Nat) (c d : BitVec 8), l[j]? = some c → Hm.bytes r (l.set j (c ^^^ d)) = Hm.bytes r l ^^^ Hm.Xn (8 * (l.length - j)) (byteAt d) := by
  induction l with
  | nil => intro r j c d h; simp at h
  | cons a l ih =>
    intro r j c d h
    cases j with
    | zero =>
      have h0 : a = c := by simpa using h
      subst h0
      rw [List.set_cons_zero]
      show Hm.bytes (Hm.byte r (a ^^^ d)) l = Hm.bytes (Hm.byte r a) l ^^^ _
      rw [byte_flip, bytes_xor_left, ← Hm.Xn_add]
      have e : 8 + 8 * l.length = 8 * ((a :: l).length - 0) := by rw [List.length_cons]; omega
      rw [e]
    | succ j =>
      rw [List.set_cons_succ]
      show Hm.bytes (Hm.byte r a) (l.set j (c ^^^ d)) = Hm.bytes (Hm.byte r a) l ^^^ _
      have e : (a :: l).length - (j + 1) = l.length - j := by rw [List.length_cons]; omega
      rw [e]
      exact ih _ j c d (by simpa using h)
theorem flip_at (r : Hm.R) (l : List (BitVec 8)) (c : BitVec 8) (first k : Nat) (hk : k < 40) (hn : first + k < 8 * l.length) (hc : l[(first + k) / 8]? = some c) :
    Hm.bytes r (l.set ((first + k) / 8) (c ^^^ BitVec.twoPow 8 (7 - (first + k) % 8))) = Hm.bytes r l ^^^ Hm.Xn (8 * l.length - first) (BitVec.twoPow 40 (39 - k)) := by
  rw [bytes_set l r _ c _ hc, byteAt_two _ (by omega), two_X _ (by omega), ← Hm.Xn_add, ← Hm.Xn_add]
  have e : 32 + (7 - (first + k) % 8) + 8 * (l.length - (first + k) / 8) = 39 - k + (8 * l.length - first) := by omega
  rw [e]
end HmX

/-- What k rounds make of the message b: o, which differs from it by the pattern P. -/
def Burst (b o : Wm.Bs) (first k : Nat) (P : Hm.R) : Prop :=
  Hm.crc (bv o) = Hm.crc (bv b) ^^^ Hm.Xn (8 * b.length - first) P ∧ (∀ i, i < 40 - k → P.getLsbD i = false) ∧ Wm.isBs o ∧ o.length = b.length
theorem Burst.start {b : Wm.Bs} (h : Wm.isBs b) (first : Nat) : Burst b b first 0 0#40 :=
  ⟨by rw [Hm.Xn_zero, BitVec.xor_zero], fun i _ => by simp, h, rfl⟩
theorem Burst.pass {b o : Wm.Bs} {first k : Nat} {P : Hm.R} (h : Burst b o first k P) : Burst b o first (k + 1) P := ⟨h.1, fun i hi => h.2.1 i (by omega), h.2.2⟩
theorem Burst.flip {b o : Wm.Bs} {first k : Nat} {P : Hm.R} (h : Burst b o first k P) (hk : k < 40) (hn : first + k < 8 * b.length) (y : Int) (hy : y = q8 (ob (o.getD ((first + k) / 8) 0) ^^^ BitVec.twoPow 8 (7 - (first + k) % 8))) :
    Burst b (o.set ((first + k) / 8) y) first (k + 1) (P ^^^ BitVec.twoPow 40 (39 - k)) ∧ P ^^^ BitVec.twoPow 40 (39 - k) ≠ 0#40 := by
  obtain ⟨h1, h2, h3, h4⟩ := h
  subst hy
  have hj : (first + k) / 8 < o.length := by omega
  refine ⟨⟨?_, fun i hi => ?_, fun x hx => ?_, by rw [List.length_set]; exact h4⟩, fun h0 => ?_⟩
  · have e : bv (o.set ((first + k) / 8) (q8 (ob (o.getD ((first + k) / 8) 0) ^^^ BitVec.twoPow 8 (7 - (first + k) % 8)))) = (bv o).set ((first + k) / 8) (ob (o.getD ((first + k) / 8) 0) ^^^ BitVec.twoPow 8 (7 - (first + k) % 8)) := by
      unfold bv; rw [List.map_set, ob_q8]
    unfold Hm.crc at h1 ⊢
    rw [e, HmX.flip_at _ (bv o) _ first k hk (by rw [bv_len, h4]; exact hn) (by rw [bv, List.getElem?_map, List.getElem?_eq_getElem hj, List.getD_eq_getElem?_getD, List.getElem?_eq_getElem hj]; rfl)]
    rw [Hm.Xn_xor, bv_len, h4]
    have h1' : Hm.bytes Hm.ones (bv o) = Hm.bytes Hm.ones (bv b) ^^^ Hm.Xn (8 * b.length - first) P := by
      have := congrArg (· ^^^ Hm.ones) h1
      simp only [Hm.xor_cancel] at this
      rw [this]
      generalize Hm.bytes Hm.ones (bv b) = x; generalize Hm.Xn (8 * b.length - first) P = z; generalize Hm.ones = o'
      rw [show x ^^^ o' ^^^ z ^^^ o' = x ^^^ z ^^^ o' ^^^ o' by ac_rfl, Hm.xor_cancel]
    rw [h1']
    generalize Hm.bytes Hm.ones (bv b) = x; generalize Hm.Xn (8 * b.length - first) P = z; generalize Hm.ones = o'; generalize Hm.Xn (8 * b.length - first) (BitVec.twoPow 40 (39 - k)) = v
    ac_rfl
  · rw [BitVec.getLsbD_xor, h2 i (by omega), BitVec.getLsbD_twoPow]
    simp; omega
  · rcases List.mem_or_eq_of_mem_set hx with h | rfl
    · exact h3 x h
    · exact q8_bd _
  · have := congrArg (fun r => r.getLsbD (39 - k)) h0
    simp only [BitVec.getLsbD_xor, h2 (39 - k) (by omega), BitVec.getLsbD_twoPow] at this
    simp at this
    omega
/-- The checks are the same where no bit was turned, and only there. -/
theorem Burst.same {b o : Wm.Bs} {first k : Nat} {P : Hm.R} (h : Burst b o first k P) : (crcI b == crcI o) = !decide (P ≠ 0#40) := by
  obtain ⟨h1, _⟩ := h
  by_cases hP : P = 0#40
  · subst hP
    rw [Hm.Xn_zero, BitVec.xor_zero] at h1
    unfold crcI
    rw [h1]; simp
  · have h2 := Hm.Xn_ne (n := 8 * b.length - first) hP
    have h3 : crcI b ≠ crcI o := fun e => by
      have e2 := q40_inj e
      rw [h1] at e2
      apply h2
      generalize Hm.Xn (8 * b.length - first) P = z at *
      have := congrArg (Hm.crc (bv b) ^^^ ·) e2
      simp only [← BitVec.xor_assoc, BitVec.xor_self, BitVec.zero_xor] at this
      exact this.symm
    simp [h3, hP]
end Go.Proofs.YtblakffpiimbdaaDoor
