/-
  A RING: parts and descriptors as cells; bits of flags; the small methods.
-/
import Derived.Test.YtffgbbfcbobecaaTabBits
import Derived.Test.YtffgbbfcbobecaaMemA
import Derived.Test.YtffgbbfcbobecaaRgMath
import Derived.Deep.DeepCutAuto
import Derived.Deep.RegionHeld
import Derived.Laws.StructEq
namespace Go.Proofs.Ytffgbbfcbobecaa
open Go.RowKit Go.ChangeShapes Go.WideShapes Go.ChangeAt

/-- A part's cells; a descriptor's. -/
def Pc (p : Rg.Pt) : List Value := [.int .i64 p.1, .int .i64 p.2.1, .int .i64 p.2.2.1, .bool p.2.2.2]
def Ps (l : List Rg.Pt) : List Value := l.flatMap Pc
def dcC (p : Rg.Pt) (f s : Int) : List Value := Pc p ++ [.int .u32 f, .int .u32 s]
theorem Ps_len (l : List Rg.Pt) : (Ps l).length = l.length * 4 := by
  induction l with
  | nil => rfl
  | cons w r ih =>
    show (Pc w ++ Ps r).length = _
    rw [List.length_append, ih]
    simp [Pc]
    omega
theorem Ps_at : ∀ (l : List Rg.Pt) (i : Nat) (hi : i < l.length) (j : Nat), j < 4 → (Ps l)[i * 4 + j]? = (Pc l[i])[j]? := by
  intro l
  induction l with
  | nil => intro i hi; simp at hi
  | cons w r ih =>
    intro i hi j hj
    show (Pc w ++ Ps r)[i * 4 + j]? = _
    cases i with
    | zero => rw [Nat.zero_mul, Nat.zero_add, List.getElem?_append_left (by simpa [Pc] using hj)]; rfl
    | succ i =>
      rw [List.getElem?_append_right (by simp [Pc]; omega), show (i + 1) * 4 + j - (Pc w).length = i * 4 + j by simp [Pc]; omega]
      exact ih i (by simpa using hi) j hj
theorem Ps_snoc (l : List Rg.Pt) (p : Rg.Pt) : Ps (l ++ [p]) = Ps l ++ Pc p := by
  unfold Ps; rw [List.flatMap_append]; simp
theorem pt_sz (p : Rg.Pt) : (Try.prog.info? 59).map (·.size) = some (Pc p).length := by
  show _ = some 4
  kernel_rfl
theorem dc_sz (p : Rg.Pt) (f s : Int) : (Try.prog.info? 73).map (·.size) = some (dcC p f s).length := by
  show _ = some 6
  kernel_rfl
theorem pt_one (p : Rg.Pt) : ∀ v ∈ Pc p, v.oneCell' = true := by
  intro v hv
  simp only [Pc, List.mem_cons, List.not_mem_nil, or_false] at hv
  rcases hv with rfl | rfl | rfl | rfl <;> rfl
theorem dc_one (p : Rg.Pt) (f s : Int) : ∀ v ∈ dcC p f s, v.oneCell' = true := by
  intro v hv
  simp only [dcC, Pc, List.cons_append, List.nil_append, List.mem_cons, List.not_mem_nil, or_false] at hv
  rcases hv with rfl | rfl | rfl | rfl | rfl | rfl <;> rfl
theorem and_ff00 {e : Int} (h : Tm.isE e) : bits .and .u32 e 65280 = e / 256 % 256 * 256 := by
  obtain ⟨x, rfl⟩ := Int.eq_ofNat_of_zero_le h.1
  have hx : x < 4294967296 := by have := h.2; omega
  have h1 := and32 x 65280 hx (by omega)
  have h2 : x &&& 65280 = x / 256 % 256 * 256 := by
    have e1 : x = x / 256 * 2 ^ 8 + x % 256 := by omega
    apply Nat.eq_of_testBit_eq
    intro i
    rw [Nat.testBit_and, show (65280 : Nat) = 255 * 2 ^ 8 from rfl, show x / 256 % 256 * 256 = x / 256 % 256 * 2 ^ 8 from rfl, Nat.testBit_mul_two_pow, Nat.testBit_mul_two_pow, show x / 256 % 256 = (x / 256) % 2 ^ 8 from rfl, Nat.testBit_mod_two_pow, show x / 256 = x / 2 ^ 8 from rfl, Nat.testBit_div_two_pow, show (255 : Nat) = 2 ^ 8 - 1 from rfl, Nat.testBit_two_pow_sub_one]
    by_cases h8 : 8 ≤ i
    · rw [show i - 8 + 8 = i by omega]
      simp [h8, Bool.and_comm]
    · simp [h8]
  rw [h2] at h1
  rw [show (65280 : Int) = ((65280 : Nat) : Int) from rfl, h1]
  omega
theorem and_1 {e : Int} (h : Tm.isE e) : bits .and .u32 e 1 = e % 2 := by
  obtain ⟨x, rfl⟩ := Int.eq_ofNat_of_zero_le h.1
  have h1 := and_pow x 0 (by have := h.2; omega) (by omega)
  rw [show (1 : Int) = ((2 ^ 0 : Nat) : Int) from rfl, h1]
  rw [show x / 2 ^ 0 = x by simp]
  split <;> omega
theorem and_2 {e : Int} (h : Tm.isE e) : bits .and .u32 e 2 = e / 2 % 2 * 2 := by
  obtain ⟨x, rfl⟩ := Int.eq_ofNat_of_zero_le h.1
  have h1 := and_pow x 1 (by have := h.2; omega) (by omega)
  rw [show (2 : Int) = ((2 ^ 1 : Nat) : Int) from rfl, h1]
  rw [show x / 2 ^ 1 = x / 2 by simp]
  split <;> omega
theorem split_and (a b c d : Nat) (hb : b < 256) (hd : d < 256) : (256 * a + b) &&& (256 * c + d) = 256 * (a &&& c) + (b &&& d) := by
  have hbd : b &&& d < 2 ^ 8 := Nat.lt_of_le_of_lt Nat.and_le_left hb
  apply Nat.eq_of_testBit_eq
  intro i
  rw [Nat.testBit_and, show 256 = 2 ^ 8 from rfl, Nat.testBit_two_pow_mul_add _ (by omega), Nat.testBit_two_pow_mul_add _ (by omega), Nat.testBit_two_pow_mul_add _ hbd]
  split
  · rw [Nat.testBit_and]
  · rw [Nat.testBit_and]
theorem low252 (r : Nat) (h : r < 256) : (r &&& 252 = 0) ↔ r / 4 = 0 := by
  have : ∀ r : Fin 256, (r.1 &&& 252 = 0) ↔ r.1 / 4 = 0 := by decide +kernel
  exact this ⟨r, h⟩
/-- Flags that there are not. -/
def badF (f : Int) : Bool := decide (f / 4 % 64 ≠ 0 ∨ f / 65536 ≠ 0)
theorem andn_flags {e : Int} (h : Tm.isE e) : (bits .andNot .u32 e 65283 != 0) = badF e := by
  obtain ⟨x, rfl⟩ := Int.eq_ofNat_of_zero_le h.1
  have hx : x < 4294967296 := by have := h.2; omega
  have h1 : bits .andNot .u32 (x : Int) 65283 = ((x &&& 4294902012 : Nat) : Int) := by
    show IntKind.u32.wrap ((BitVec.ofInt 32 (x : Int) &&& ~~~ BitVec.ofInt 32 ((65283 : Nat) : Int)).toNat : Int) = _
    rw [BitVec.ofInt_natCast, BitVec.ofInt_natCast, BitVec.toNat_and, BitVec.toNat_ofNat, Nat.mod_eq_of_lt (by omega), show (~~~ BitVec.ofNat 32 65283).toNat = 4294902012 from by decide, IntKind.wrap_u32]
    have h2 : x &&& 4294902012 ≤ x := Nat.and_le_left
    omega
  have h3 : x &&& 4294902012 = 256 * (256 * (x / 65536 &&& 65535) + (x / 256 % 256 &&& 0)) + (x % 256 &&& 252) := by
    have e1 : x = 256 * (256 * (x / 65536) + x / 256 % 256) + x % 256 := by omega
    conv => lhs; rw [e1, show (4294902012 : Nat) = 256 * (256 * 65535 + 0) + 252 from rfl]
    rw [split_and _ _ _ _ (by omega) (by omega), split_and _ _ _ _ (by omega) (by omega)]
  have h4 : x / 65536 &&& 65535 = x / 65536 := by
    have := Nat.and_two_pow_sub_one_eq_mod (x / 65536) 16
    rw [show (2 : Nat) ^ 16 - 1 = 65535 from rfl] at this
    rw [this]; omega
  rw [h4, Nat.and_zero] at h3
  have h5 := low252 (x % 256) (by omega)
  unfold badF
  rw [h1]
  by_cases hz : x &&& 4294902012 = 0
  · rw [hz] at h3 ⊢
    have h6 : x % 256 &&& 252 = 0 := by omega
    have h7 := h5.1 h6
    rw [decide_eq_false (by omega)]
    rfl
  · have h8 : ¬ (x / 65536 = 0 ∧ x % 256 / 4 = 0) := by
      rintro ⟨q1, q2⟩
      rw [h5.2 q2, q1] at h3
      omega
    rw [decide_eq_true (by omega)]
    exact bne_iff_ne.2 (by omega)
def moreF (f : Int) : Bool := decide (f / 2 % 2 = 1)
def nxtF (f : Int) : Int := f / 256 % 256
def wrF (f : Int) : Bool := decide (f % 2 = 1)
theorem and1_b {e : Int} (h : Tm.isE e) : (bits .and .u32 e 1 != 0) = wrF e := by
  rw [and_1 h]; unfold wrF
  by_cases h1 : e % 2 = 1
  · rw [h1]; rfl
  · rw [show e % 2 = 0 by omega]; rfl
theorem and2_b {e : Int} (h : Tm.isE e) : (bits .and .u32 e 2 != 0) = moreF e := by
  rw [and_2 h]; unfold moreF
  by_cases h1 : e / 2 % 2 = 1
  · rw [h1]; rfl
  · rw [show e / 2 % 2 = 0 by omega]; rfl
theorem r_bool {a b : Bool} (h : a = b) : Ending.returned (.bool a) = .returned (.bool b) := by rw [h]
theorem r_i64 {a b : Int} (h : a = b) : Ending.returned (.int .i64 a) = .returned (.int .i64 b) := by rw [h]
set_option maxRecDepth 100000 in
theorem place_any (B S i : Int) (w : World) (h0 : 0 ≤ B) (h1 : B < 4294967296) (i0 : 0 ≤ i) (i1 : i ≤ 1000000) : Calls Try.prog 63 #[.agg #[.int .u32 B, .int .u32 S], .int .i64 i] w fun e w' => e = .returned (.int .i64 (B + 16 * i)) ∧ Later w w' := by
  go_enter Try.func63, Try.ntmps63
  go_wp2
  go_ret
  exact ⟨r_i64 (by omega), later1 _ _⟩
set_option maxRecDepth 100000 in
theorem isOffered_any (p : Rg.Pt) (f s : Int) (w : World) : Calls Try.prog 41 #[.agg (dcC p f s).toArray] w fun e w' => e = .returned (.bool (decide (s = 1))) ∧ Later w w' := by
  show Calls Try.prog _ #[.agg #[.int .i64 p.1, .int .i64 p.2.1, .int .i64 p.2.2.1, .bool p.2.2.2, .int .u32 f, .int .u32 s]] w _
  go_enter Try.func41, Try.ntmps41
  go_wp2
  go_ret
  exact ⟨rfl, later1 _ _⟩
set_option maxRecDepth 100000 in
theorem isAt_any (p q : Rg.Pt) (f s : Int) (w : World) : Calls Try.prog 79 #[.agg (dcC p f s).toArray, .agg (Pc q).toArray] w fun e w' => e = .returned (.bool (decide (q.1 = p.1))) ∧ Later w w' := by
  show Calls Try.prog _ #[.agg #[.int .i64 p.1, .int .i64 p.2.1, .int .i64 p.2.2.1, .bool p.2.2.2, .int .u32 f, .int .u32 s], .agg #[.int .i64 q.1, .int .i64 q.2.1, .int .i64 q.2.2.1, .bool q.2.2.2]] w _
  go_enter Try.func79, Try.ntmps79
  go_wp2
  go_ret
  exact ⟨rfl, (later1 _ _).alloc (by simp) _⟩
set_option maxRecDepth 100000 in
theorem isWritten_any (q : Rg.Pt) (w : World) : Calls Try.prog 82 #[.agg (Pc q).toArray] w fun e w' => e = .returned (.bool q.2.2.2) ∧ Later w w' := by
  show Calls Try.prog _ #[.agg #[.int .i64 q.1, .int .i64 q.2.1, .int .i64 q.2.2.1, .bool q.2.2.2]] w _
  go_enter Try.func82, Try.ntmps82
  go_wp2
  go_ret
  exact ⟨rfl, later1 _ _⟩
end Go.Proofs.Ytffgbbfcbobecaa
