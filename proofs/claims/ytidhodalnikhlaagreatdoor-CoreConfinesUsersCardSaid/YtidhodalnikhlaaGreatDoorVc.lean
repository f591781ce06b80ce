/-
  THE WALKS OF allowed, Valid, Size, inside, there; and of the reference's Valid, Size, There.
-/
import Derived.Test.YtidhodalnikhlaaGreatDoorVb
import Derived.Deep.MidRow
import Derived.Deep.WholeRow
import Derived.StillTailTactics
import Derived.Lib.QuietBelow
import Derived.Deep.RegionHeld3
namespace Go.Proofs.YtidhodalnikhlaaGreatDoor
open Go.RowKit Go.ChangeShapes Go.WideShapes Go.ChangeAt

set_option maxRecDepth 100000 in
theorem later1 (w : World) (o : Obj) : Later w (w.alloc o) := (Below.refl _ _).alloc (Nat.le_refl _) o
set_option maxRecDepth 100000 in
theorem later0 (w : World) : Later w w := Below.refl _ _

set_option maxRecDepth 100000 in
theorem size_any (A : Option Addr) (n c : Nat) (w : World) (hn : n ≤ 64) : Calls Tryz.prog 137 #[.agg #[.slice A n c]] w fun e w' => e = .returned (.int .i64 ((n * 128 : Nat) : Int)) ∧ Later w w' := by
  go_enter Tryz.func137, Tryz.ntmps137
  go_wp2
  go_ret
  exact ⟨ret_int (by omega), later1 _ _⟩
set_option maxRecDepth 100000 in
theorem rsize_any (A : Option Addr) (n c : Nat) (w : World) (hn : n ≤ 64) : Calls Tryz.prog 98 #[.agg #[.slice A n c]] w fun e w' => e = .returned (.int .i64 ((n * 128 : Nat) : Int)) ∧ Later w w' := by
  go_enter Tryz.func98, Tryz.ntmps98
  go_wp2
  go_ret
  exact ⟨ret_int (by omega), later1 _ _⟩
set_option maxRecDepth 100000 in
theorem rvalid_any (A : Option Addr) (n c : Nat) (w : World) : Calls Tryz.prog 30 #[.agg #[.slice A n c]] w fun e w' => e = .returned (.bool (decide (1 ≤ n ∧ n ≤ 64))) ∧ Later w w' := by
  by_cases h1 : 1 ≤ n
  · have d1 : decide (1 ≤ (n : Int)) = true := decide_eq_true (by omega)
    go_enter Tryz.func30, Tryz.ntmps30
    go_wp2
    go_ret
    exact ⟨ret_bool (by rw [decide_eq_decide]; omega), later1 _ _⟩
  · have d1 : decide (1 ≤ (n : Int)) = false := decide_eq_false (by omega)
    go_enter Tryz.func30, Tryz.ntmps30
    go_wp2
    go_ret
    exact ⟨ret_bool (by symm; rw [decide_eq_false_iff_not]; omega), later1 _ _⟩

set_option maxRecDepth 100000 in
theorem inside_any (A : Option Addr) (n c : Nat) (a k : Int) (w : World) (hn : n ≤ 64) (ha : -9223372036854775808 ≤ a ∧ a ≤ 9223372036854775807) :
    Calls Tryz.prog 97 #[.agg #[.slice A n c], .int .i64 a, .int .i64 k] w fun e w' => e = .returned (.bool (decide (Mm.Inside (n * 128) a k))) ∧ Later w w' := by
  have H := Lib.hid fun w' => size_any A n c w' hn
  obtain ⟨L, hL⟩ : ∃ L, L = n * 128 := ⟨_, rfl⟩
  rw [← hL] at H ⊢
  have hL2 : L ≤ 8192 := by omega
  clear hL
  by_cases h1 : 0 ≤ a
  · have d1 : decide (0 ≤ a) = true := decide_eq_true h1
    by_cases h2 : 0 ≤ k
    · have d2 : decide (0 ≤ k) = true := decide_eq_true h2
      go_enter Tryz.func97, Tryz.ntmps97
      go_wp2_with (go_at_call 137; refine (H.out _).mono ?_; rintro e w' ⟨rfl, l1⟩)
      go_ret
      exact ⟨ret_bool (by rw [decide_eq_decide]; unfold Mm.Inside; omega), Later.trans_ (later1 _ _) l1⟩
    · have d2 : decide (0 ≤ k) = false := decide_eq_false h2
      go_enter Tryz.func97, Tryz.ntmps97
      go_wp2
      go_ret
      exact ⟨ret_bool (by symm; rw [decide_eq_false_iff_not]; unfold Mm.Inside; omega), later1 _ _⟩
  · have d1 : decide (0 ≤ a) = false := decide_eq_false h1
    go_enter Tryz.func97, Tryz.ntmps97
    go_wp2
    go_ret
    exact ⟨ret_bool (by symm; rw [decide_eq_false_iff_not]; unfold Mm.Inside; omega), later1 _ _⟩

set_option maxRecDepth 100000 in
theorem tmod4 (a : Int) : (a.tmod 4 == 0) = decide (a % 4 = 0) := by
  rw [Bool.eq_iff_iff, beq_iff_eq, decide_eq_true_eq]
  constructor
  · intro h
    have := Int.dvd_iff_tmod_eq_zero.2 h
    omega
  · intro h
    exact Int.dvd_iff_tmod_eq_zero.1 (by omega)
set_option maxRecDepth 100000 in
theorem there_any (A : Option Addr) (n c : Nat) (a s : Int) (w : World) (hn : n ≤ 64) (ha : -9223372036854775808 ≤ a ∧ a ≤ 9223372036854775807) :
    Calls Tryz.prog 58 #[.agg #[.slice A n c], .int .i64 a, .int .i64 s] w fun e w' => e = .returned (.bool (decide (Mm.There (n * 128) a s))) ∧ Later w w' := by
  have H := Lib.hid fun w' => inside_any A n c a s w' hn ha
  obtain ⟨L, hL⟩ : ∃ L, L = n * 128 := ⟨_, rfl⟩
  rw [← hL] at H ⊢
  clear hL hn
  obtain ⟨q, hq⟩ : ∃ q, q = decide (Mm.Inside L a s) := ⟨_, rfl⟩
  rw [← hq] at H
  have HQ := Lib.hid hq
  clear hq
  have b0 : (s == 1) = decide (s = 1) := by rw [Bool.eq_iff_iff, beq_iff_eq, decide_eq_true_eq]
  have b1 : (s == 4) = decide (s = 4) := by rw [Bool.eq_iff_iff, beq_iff_eq, decide_eq_true_eq]
  by_cases h1 : s = 1
  · subst h1
    clear b0 b1
    go_enter Tryz.func58, Tryz.ntmps58
    go_wp2_with (go_at_call 97; refine (H.out _).mono ?_; rintro e w' ⟨rfl, l1⟩)
    go_ret
    exact ⟨ret_bool (by rw [HQ.out, decide_eq_decide]; unfold Mm.Inside Mm.There; omega), Later.trans_ (later1 _ _) l1⟩
  · have d1 : (s == 1) = false := beq_false_of_ne h1
    by_cases h2 : s = 4
    · subst h2
      clear d1
      have t1 := tmod4 a
      by_cases h3 : a % 4 = 0
      · rw [decide_eq_true h3] at t1
        clear b0 b1
        go_enter Tryz.func58, Tryz.ntmps58
        go_wp2_with (go_at_call 97; refine (H.out _).mono ?_; rintro e w' ⟨rfl, l1⟩)
        go_ret
        exact ⟨ret_bool (by rw [HQ.out, decide_eq_decide]; unfold Mm.Inside Mm.There; omega), Later.trans_ (later1 _ _) l1⟩
      · rw [decide_eq_false h3] at t1
        clear b0 b1
        go_enter Tryz.func58, Tryz.ntmps58
        go_wp2_with (go_at_call 97; refine (H.out _).mono ?_; rintro e w' ⟨rfl, l1⟩)
        go_ret
        exact ⟨ret_bool (by symm; rw [decide_eq_false_iff_not]; unfold Mm.There; omega), later1 _ _⟩
    · have d2 : (s == 4) = false := beq_false_of_ne h2
      clear b0 b1
      go_enter Tryz.func58, Tryz.ntmps58
      go_wp2_with (go_at_call 97; refine (H.out _).mono ?_; rintro e w' ⟨rfl, l1⟩)
      go_ret
      exact ⟨ret_bool (by symm; rw [decide_eq_false_iff_not]; unfold Mm.There; omega), later1 _ _⟩

set_option maxRecDepth 100000 in
theorem rthere_any (A : Option Addr) (n c : Nat) (a s : Int) (w : World) (hn : n ≤ 64) (ha : -9223372036854775808 ≤ a ∧ a ≤ 9223372036854775807) :
    Calls Tryz.prog 70 #[.agg #[.slice A n c], .int .i64 a, .int .i64 s] w fun e w' => e = .returned (.bool (decide (Mm.There (n * 128) a s))) ∧ Later w w' := by
  have H := Lib.hid fun w' => rsize_any A n c w' hn
  obtain ⟨L, hL⟩ : ∃ L, L = n * 128 := ⟨_, rfl⟩
  rw [← hL] at H ⊢
  have hL2 : L ≤ 8192 := by omega
  clear hL hn
  by_cases h1 : s = 1
  · have d0 : decide (0 ≤ a) = true ∨ decide (0 ≤ a) = false := by cases decide (0 ≤ a) <;> simp
    subst h1
    rcases d0 with d0 | d0
    · have h0 : 0 ≤ a := of_decide_eq_true d0
      have t1 : a % 1 == 0 := by simp
      go_enter Tryz.func70, Tryz.ntmps70
      go_wp2_with (go_at_call 98; refine (H.out _).mono ?_; rintro e w' ⟨rfl, l1⟩)
      go_ret
      exact ⟨ret_bool (by rw [decide_eq_decide]; unfold Mm.There; omega), Later.trans_ (later1 _ _) l1⟩
    · have h0 : ¬ 0 ≤ a := of_decide_eq_false d0
      go_enter Tryz.func70, Tryz.ntmps70
      go_wp2_with (go_at_call 98; refine (H.out _).mono ?_; rintro e w' ⟨rfl, l1⟩)
      go_ret
      exact ⟨ret_bool (by symm; rw [decide_eq_false_iff_not]; unfold Mm.There; omega), later1 _ _⟩
  · by_cases h2 : s = 4
    · subst h2
      have d0 : decide (0 ≤ a) = true ∨ decide (0 ≤ a) = false := by cases decide (0 ≤ a) <;> simp
      rcases d0 with d0 | d0
      · have h0 : 0 ≤ a := of_decide_eq_true d0
        by_cases h3 : a % 4 = 0
        · have t1 : (a % 4 == 0) = true := beq_iff_eq.2 h3
          go_enter Tryz.func70, Tryz.ntmps70
          go_wp2_with (go_at_call 98; refine (H.out _).mono ?_; rintro e w' ⟨rfl, l1⟩)
          go_ret
          exact ⟨ret_bool (by rw [decide_eq_decide]; unfold Mm.There; omega), Later.trans_ (later1 _ _) l1⟩
        · have t1 : (a % 4 == 0) = false := beq_false_of_ne h3
          go_enter Tryz.func70, Tryz.ntmps70
          go_wp2_with (go_at_call 98; refine (H.out _).mono ?_; rintro e w' ⟨rfl, l1⟩)
          go_ret
          exact ⟨ret_bool (by symm; rw [decide_eq_false_iff_not]; unfold Mm.There; omega), later1 _ _⟩
      · have h0 : ¬ 0 ≤ a := of_decide_eq_false d0
        go_enter Tryz.func70, Tryz.ntmps70
        go_wp2_with (go_at_call 98; refine (H.out _).mono ?_; rintro e w' ⟨rfl, l1⟩)
        go_ret
        exact ⟨ret_bool (by symm; rw [decide_eq_false_iff_not]; unfold Mm.There; omega), later1 _ _⟩
    · have d1 : (s != 1) = true := bne_iff_ne.2 h1
      have d2 : (s != 4) = true := bne_iff_ne.2 h2
      go_enter Tryz.func70, Tryz.ntmps70
      go_wp2_with (go_at_call 98; refine (H.out _).mono ?_; rintro e w' ⟨rfl, l1⟩)
      go_ret
      exact ⟨ret_bool (by symm; rw [decide_eq_false_iff_not]; unfold Mm.There; omega), later1 _ _⟩

end Go.Proofs.YtidhodalnikhlaaGreatDoor

/-
  THE WALKS OF from, number, bytesOf; and of the reference's Byte.
-/
namespace Go.Proofs.YtidhodalnikhlaaGreatDoor
open Go.RowKit Go.ChangeShapes Go.WideShapes Go.ChangeAt

set_option maxRecDepth 100000 in
theorem run_index_agg {P : Program} (w : World) (t e : TypeId) (n : Nat) (cs : Array Value) (k kk : IntKind) (i : Int) (h : P.underlying t = some (.array n e)) (he : P.underlying e = some (.int kk)) (hi : (P.info? e).map (·.size) = some 1)
    (h0 : 0 ≤ i) (h1 : i < (n : Int)) (v : Value) (hv : cs[i.toNat]? = some v) : (Instr.index t (.agg cs) (.int k i)).run P w = .ok v w := by
  cases hq : P.info? e with
  | none => simp [hq] at hi
  | some inf =>
    have hs : inf.size = 1 := by simpa [hq] using hi
    have hagg : (isAgg e).run P w = .ok false w := by
      unfold isAgg
      rw [Sem.run_bind, run_underlying he w]
      rfl
    simp [Instr.index, run_underlying h, asIntOf, h0, h1, sizeOf, typeInfo, hq, hs, part, Sem.run_bind, hagg, hv]
set_option maxRecDepth 100000 in
theorem or_add (k m y : Nat) (hy : y < 2 ^ k) (hx : m * 2 ^ k + y < 4294967296) : bits .or .u32 ((m * 2 ^ k : Nat) : Int) (y : Nat) = ((m * 2 ^ k + y : Nat) : Int) := by
  show IntKind.u32.wrap ((BitVec.ofInt 32 ((m * 2 ^ k : Nat) : Int) ||| BitVec.ofInt 32 ((y : Nat) : Int)).toNat : Int) = _
  rw [BitVec.ofInt_natCast, BitVec.ofInt_natCast, BitVec.toNat_or, BitVec.toNat_ofNat, BitVec.toNat_ofNat, Nat.mod_eq_of_lt (by omega), Nat.mod_eq_of_lt (by omega)]
  have h := Nat.shiftLeft_add_eq_or_of_lt hy m
  rw [Nat.shiftLeft_eq] at h
  rw [← h, IntKind.wrap_u32]
  omega
set_option maxRecDepth 100000 in
theorem or_comm32 (a b : Int) : bits .or .u32 a b = bits .or .u32 b a := by
  show IntKind.u32.wrap ((BitVec.ofInt 32 a ||| BitVec.ofInt 32 b).toNat : Int) = IntKind.u32.wrap ((BitVec.ofInt 32 b ||| BitVec.ofInt 32 a).toNat : Int)
  rw [BitVec.or_comm]
set_option maxRecDepth 100000 in
theorem or_hi (k : Nat) (M : Int) (hM : M = ((2 ^ k : Nat) : Int)) {n y : Int} (hn0 : 0 ≤ n) (hn : n < M) (hy : 0 ≤ y) (hx : y * M + n < 4294967296) : bits .or .u32 n (y * M) = n + y * M := by
  obtain ⟨a, rfl⟩ := Int.eq_ofNat_of_zero_le hn0
  obtain ⟨b, rfl⟩ := Int.eq_ofNat_of_zero_le hy
  subst hM
  have h := or_add k b a (by omega) (by omega)
  rw [or_comm32]
  rw [Int.natCast_mul] at h
  rw [h]
  omega
set_option maxRecDepth 100000 in
theorem or_zero {x : Int} (h : 0 ≤ x ∧ x < 256) : bits .or .u32 0 x = x := by
  have := or_hi 0 1 rfl (n := 0) (y := x) (by omega) (by omega) (by omega) (by omega)
  rw [Int.mul_one] at this
  rw [this]; omega

set_option maxRecDepth 100000 in
set_option maxHeartbeats 1000000 in
theorem from_any (ad : Addr) (n c a : Nat) (w : World) (hn : n ≤ 64) (ha : a < n * 128) :
    Calls Tryz.prog 59 #[.agg #[.slice (some ad) n c], .int .i64 (a : Int)] w fun e w' => e = .returned (.slice (some (ad.add a)) (128 - a % 128) (128 - a % 128)) ∧ Later w w' := by
  have t1 : ((a : Int).tdiv 128) = ((a / 128 : Nat) : Int) := by rw [Int.tdiv_eq_ediv_of_nonneg (by omega)]; rfl
  have t2 : ((a : Int).tmod 128) = ((a % 128 : Nat) : Int) := by rw [Int.tmod_eq_emod_of_nonneg (by omega)]; rfl
  have b1 : (a : Int) / 128 < (n : Int) := by omega
  have b2 : (a : Int) % 128 < 128 := by omega
  have b5 : (a : Int) % 128 ≤ 128 := by omega
  have b6 : ¬ 128 = a % 128 := by omega
  have b3 : (0 : Int) ≤ (a : Int) / 128 := by omega
  have b4 : (0 : Int) ≤ (a : Int) % 128 := by omega
  go_enter Tryz.func59, Tryz.ntmps59
  go_wp2
  go_ret
  refine ⟨?_, later1 _ _⟩
  show Ending.returned (.slice (some ((ad.add (a / 128 * 128)).add (a % 128))) _ _) = _
  rw [addr_add_add, show a / 128 * 128 + a % 128 = a by omega]
set_option maxRecDepth 100000 in
theorem number_any (x0 x1 x2 x3 : Int) (w : World) (h0 : 0 ≤ x0 ∧ x0 < 256) (h1 : 0 ≤ x1 ∧ x1 < 256) (h2 : 0 ≤ x2 ∧ x2 < 256) (h3 : 0 ≤ x3 ∧ x3 < 256) :
    Calls Tryz.prog 60 #[.agg #[.int .u8 x0, .int .u8 x1, .int .u8 x2, .int .u8 x3]] w fun e w' => e = .returned (.int .u32 (x0 + x1 * 256 + x2 * 65536 + x3 * 16777216)) ∧ Later w w' := by
  have hidx := fun (k : Int) (v : Value) (h0 : 0 ≤ k) (h1 : k < 4) hv (w : World) => run_index_agg (P := Tryz.prog) w 129 5 4 #[.int .u8 x0, .int .u8 x1, .int .u8 x2, .int .u8 x3] .i64 .u8 k Tryz.underlying129 Tryz.underlying5 (by kernel_rfl) h0 h1 v hv
  have i0 := hidx 0 (.int .u8 x0) (by omega) (by omega) rfl
  have i1 := hidx 1 (.int .u8 x1) (by omega) (by omega) rfl
  have i2 := hidx 2 (.int .u8 x2) (by omega) (by omega) rfl
  have i3 := hidx 3 (.int .u8 x3) (by omega) (by omega) rfl
  clear hidx
  go_enter Tryz.func60, Tryz.ntmps60
  go_wp2
  go_loopw [7, 3] (fun i v wr => ∃ k : Nat, k ≤ 4 ∧ i = .int .i64 k ∧ v = .int .u32 (match k with | 0 => 0 | 1 => x0 | 2 => x0 + x1 * 256 | 3 => x0 + x1 * 256 + x2 * 65536 | _ => x0 + x1 * 256 + x2 * 65536 + x3 * 16777216) ∧ wr = w.alloc (.cells #[.int .u8 x0, .int .u8 x1, .int .u8 x2, .int .u8 x3] 129)) (fun i _ _ => 4 - (intOf i).toNat)
  case atStart => exact ⟨0, by omega, rfl, rfl, rfl⟩
  case round =>
    obtain ⟨k, hk, rfl, rfl, rfl⟩ := hrel
    rcases (show k = 0 ∨ k = 1 ∨ k = 2 ∨ k = 3 ∨ k = 4 by omega) with rfl | rfl | rfl | rfl | rfl
    · simp only [Int.natCast_zero]
      go_wp2
      go_roundw
      case rel => exact ⟨1, by omega, by go_num, congrArg (Value.int .u32) (or_zero (by omega)), trivial⟩
      case measure => simp [intOf]
    · simp only [show ((1 : Nat) : Int) = 1 from rfl]
      go_wp2
      go_roundw
      case rel => exact ⟨2, by omega, by go_num, congrArg (Value.int .u32) (or_hi 8 256 rfl (by omega) (by omega) (by omega) (by omega)), trivial⟩
      case measure => simp [intOf]
    · simp only [show ((2 : Nat) : Int) = 2 from rfl]
      go_wp2
      go_roundw
      case rel => exact ⟨3, by omega, by go_num, congrArg (Value.int .u32) (or_hi 16 65536 rfl (by omega) (by omega) (by omega) (by omega)), trivial⟩
      case measure => simp [intOf]
    · simp only [show ((3 : Nat) : Int) = 3 from rfl]
      go_wp2
      go_roundw
      case rel => exact ⟨4, by omega, by go_num, congrArg (Value.int .u32) (or_hi 24 16777216 rfl (by omega) (by omega) (by omega) (by omega)), trivial⟩
      case measure => simp [intOf]
    · simp only [show ((4 : Nat) : Int) = 4 from rfl]
      go_wp2
      go_ret
      exact ⟨rfl, later1 _ _⟩

set_option maxRecDepth 100000 in
theorem el4 (v : Int) : Mm.el 4 v = [v % 256, v / 256 % 256, v / 65536 % 256, v / 16777216 % 256] := by
  show [v % 256, v / 256 % 256, v / 256 / 256 % 256, v / 256 / 256 / 256 % 256] = _
  rw [show v / 65536 = v / 256 / 256 by omega, show v / 16777216 = v / 256 / 256 / 256 by omega]
set_option maxRecDepth 100000 in
/-- The bytes of a number so far. -/
def Pa (v : Int) : Nat → Wm.Bs
  | 0 => [0, 0, 0, 0] | 1 => [v % 256, 0, 0, 0] | 2 => [v % 256, v / 256 % 256, 0, 0] | 3 => [v % 256, v / 256 % 256, v / 65536 % 256, 0] | _ => [v % 256, v / 256 % 256, v / 65536 % 256, v / 16777216]
set_option maxRecDepth 100000 in
theorem word_sz (x : Wm.Bs) (h : x.length = 4) : (Tryz.prog.info? 129).map (·.size) = some (U x).length := by rw [U_length, h]; kernel_rfl
set_option maxRecDepth 100000 in
theorem word_z {x : Wm.Bs} (h : x.length = 4) : (U [0, 0, 0, 0]).length = (U x).length := by rw [U_length, U_length, h]; rfl
set_option maxRecDepth 100000 in
set_option maxHeartbeats 1000000 in
theorem bytesOf_any (v : Int) (w : World) (h0 : 0 ≤ v) (h1 : v < 4294967296) :
    Calls Tryz.prog 96 #[.int .u32 v] w fun e w' => e = .returned (.agg (U (Mm.el 4 v)).toArray) ∧ Later w w' := by
  obtain ⟨X, hX⟩ : ∃ X, X = Mm.el 4 v := ⟨_, rfl⟩
  rw [← hX]
  have HX := Lib.hid (show Pa v 4 = X ∧ X.length = 4 by rw [hX, el4]; exact ⟨by show [v % 256, v / 256 % 256, v / 65536 % 256, v / 16777216] = _; rw [show v / 16777216 % 256 = v / 16777216 by omega], rfl⟩)
  clear hX
  go_enter Tryz.func96, Tryz.ntmps96
  go_wp2
  go_loopw [5] (fun i wr => ∃ k : Nat, k ≤ 4 ∧ i = .int .i64 k ∧ Blk wr w.heap.size 129 (U [0, 0, 0, 0]) ∧ Blk wr (w.heap.size + 1) 129 (U (Pa v k)) ∧ Later w wr) (fun i _ => 4 - (intOf i).toNat)
  case atStart => exact ⟨0, by omega, rfl, (Blk.new w _ _ _ rfl).alloc _, Blk.new' _ _ _ _ _ (by simp) rfl, ((later1 _ _).alloc (by simp) _)⟩
  case round =>
    rename_i wr
    obtain ⟨k, hk, rfl, g1, g2, g3⟩ := hrel
    rcases (show k = 0 ∨ k = 1 ∨ k = 2 ∨ k = 3 ∨ k = 4 by omega) with rfl | rfl | rfl | rfl | rfl
    · simp only [show ((0 : Nat) : Int) = 0 from rfl]
      have c := g2.cell (j := 0) (v := .int .u8 0) rfl
      have fz := g2.frz 0
      go_wp2
      go_roundw
      case rel => exact ⟨1, by omega, by go_num, g1.set_other _ _ (by simp), g2.set 0 _, g3.setCell (by simp) _⟩
      case measure => simp [intOf]
    · simp only [show ((1 : Nat) : Int) = 1 from rfl]
      have c := g2.cell (j := 1) (v := .int .u8 0) rfl
      have fz := g2.frz 1
      go_wp2
      go_roundw
      case rel => exact ⟨2, by omega, by go_num, g1.set_other _ _ (by simp), g2.set 1 _, g3.setCell (by simp) _⟩
      case measure => simp [intOf]
    · simp only [show ((2 : Nat) : Int) = 2 from rfl]
      have c := g2.cell (j := 2) (v := .int .u8 0) rfl
      have fz := g2.frz 2
      go_wp2
      go_roundw
      case rel => exact ⟨3, by omega, by go_num, g1.set_other _ _ (by simp), g2.set 2 _, g3.setCell (by simp) _⟩
      case measure => simp [intOf]
    · simp only [show ((3 : Nat) : Int) = 3 from rfl]
      have c := g2.cell (j := 3) (v := .int .u8 0) rfl
      have fz := g2.frz 3
      go_wp2
      go_roundw
      case rel => exact ⟨4, by omega, by go_num, g1.set_other _ _ (by simp), g2.set 3 _, g3.setCell (by simp) _⟩
      case measure => simp [intOf]
    · simp only [show ((4 : Nat) : Int) = 4 from rfl]
      rw [HX.out.1] at g2
      go_wp2_with (first
        | ((with_reducible refine wpList_load_blk (o := ⟨some 16, .load 129 (.tmp 3), _, _, _, none⟩) rfl _ _ rfl (w.heap.size + 1) 129 (U X) _ rfl g2 Tryz.underlying129 rfl (word_sz X HX.out.2) ?_))
        | ((with_reducible refine wpList_store_abs (o := ⟨none, .store 129 (.tmp 2) (.tmp 16), _, _, _, none⟩) rfl _ _ _ rfl w.heap.size 129 (U [0, 0, 0, 0]) (U X) ?_ ?_ g1 (word_sz X HX.out.2) (word_z HX.out.2) (U_one _) ?_); rfl; rfl; intro w2 h2 o2))
      exact bodyPost_ret (results_blk Tryz.results96 _ _ w.heap.size 129 (U X) _ rfl h2 Tryz.underlying129 rfl (word_sz X HX.out.2)) rfl ⟨rfl, Below.only g3 o2 (Nat.le_refl _)⟩
end Go.Proofs.YtidhodalnikhlaaGreatDoor

/-
  THE WALK OF Load.
-/
namespace Go.Proofs.YtidhodalnikhlaaGreatDoor
open Go.RowKit Go.ChangeShapes Go.WideShapes Go.ChangeAt

set_option maxRecDepth 100000 in
theorem blk_at {w : World} {B : Nat} {t : TypeId} {cs : List Value} (h : Blk w B t cs) : w.rangeAt B 0 cs := fun j v hv => by
  have := h.cell hv
  simpa using this
set_option maxRecDepth 100000 in
/-- copy into a block that is known whole. -/
theorem wp_copy_row {P : Program} {o : Oper} {a : Act} {w : World} {K : Act → World → Prop} {Q : Exit → Act → World → Prop} (d s : Operand) {dT sT elem : TypeId}
    (ho : o.op = .call { callee := .builtin .copy, args := #[d, s], argTypes := #[dT, sT] }) (hu : P.underlying dT = some (.slice elem)) (hsz : (P.info? elem).map (·.size) = some 1)
    (B off dLen dCap : Nat) (hd : a.eval d = .slice (some ⟨B, off, none⟩) dLen dCap) (ad : Addr) (sLen sCap : Nat) (hs : a.eval s = .slice (some ad) sLen sCap)
    (cs : List Value) (hn : cs.length = Nat.min sLen dLen) (hsrc : ∀ j v, cs[j]? = some v → w.cell? (ad.add j) = some v) (t : TypeId) (old : List Value) (hB : Blk w B t old) (hfit : off + cs.length ≤ old.length) (h1 : ∀ v ∈ cs, v.oneCell' = true)
    (h : ∀ w', Blk w' B t (old.take off ++ cs ++ old.drop (off + cs.length)) → Only B w w' → K (a.put o.dst (goInt cs.length)) w') : o.wp P a w K Q := by
  have hrun := run_copy_cells (P := P) w dT sT o.type elem B off dLen dCap ad sLen sCap cs hu hsz hn hsrc (fun j hj => hB.there1 (by omega)) (fun j _ => hB.frz _) h1
  unfold Oper.wp execOp
  simp only [ho, resolve, invoke, builtin, Sem.run_bind, Sem.run_pure, Result.andThen_ok, List.map_toArray, List.map_cons, List.map_nil, hd, hs, hrun]
  exact h _ (hB.sets off cs hfit) (Only.sets _ _ _ _)
set_option maxRecDepth 100000 in
theorem mem_sz {v : Value} : (Tryz.prog.info? 29).map (·.size) = some [v].length := by
  show _ = some 1
  kernel_rfl
set_option maxRecDepth 100000 in
theorem u8_sz : (Tryz.prog.info? 5).map (·.size) = some 1 := by kernel_rfl

set_option maxRecDepth 100000 in
theorem number_list {x : Wm.Bs} (w : World) (hl : x.length = 4) (hx : Wm.isBs x) : Calls Tryz.prog 60 #[.agg (U x).toArray] w fun e w' => e = .returned (.int .u32 (Mm.le x)) ∧ Later w w' := by
  match x, hl with
  | [x0, x1, x2, x3], _ =>
    have h := number_any x0 x1 x2 x3 w (hx _ (by simp)) (hx _ (by simp)) (hx _ (by simp)) (hx _ (by simp))
    refine h.mono fun e w' ⟨h1, h2⟩ => ⟨h1.trans ?_, h2⟩
    show _ = Ending.returned (.int .u32 (x0 + 256 * (x1 + 256 * (x2 + 256 * (x3 + 256 * 0)))))
    exact ret_int (by omega)
set_option maxRecDepth 100000 in
/-- Bytes as a word. -/
def W4 (x : Wm.Bs) : Wm.Bs := x ++ List.replicate (4 - x.length) 0
set_option maxRecDepth 100000 in
theorem W4_len {x : Wm.Bs} (h : x.length ≤ 4) : (W4 x).length = 4 := by unfold W4; simp; omega
set_option maxRecDepth 100000 in
theorem W4_bs {x : Wm.Bs} (h : Wm.isBs x) : Wm.isBs (W4 x) := fun y hy => by
  rcases List.mem_append.1 hy with h1 | h1
  · exact h y h1
  · rw [List.eq_of_mem_replicate h1]; decide
set_option maxRecDepth 100000 in
theorem le_zeros (k : Nat) : Mm.le (List.replicate k 0) = 0 := by
  induction k with
  | zero => rfl
  | succ k ih => rw [List.replicate_succ]; show 0 + 256 * Mm.le (List.replicate k 0) = 0; rw [ih]; rfl
set_option maxRecDepth 100000 in
theorem le_pad (x : Wm.Bs) (k : Nat) : Mm.le (x ++ List.replicate k 0) = Mm.le x := by
  induction x with
  | nil => exact le_zeros k
  | cons a r ih => show a + 256 * Mm.le (r ++ List.replicate k 0) = a + 256 * Mm.le r; rw [ih]
set_option maxRecDepth 100000 in
theorem W4_le (x : Wm.Bs) : Mm.le (W4 x) = Mm.le x := le_pad x _
set_option maxRecDepth 100000 in
theorem W4_cells {x : Wm.Bs} (h : x.length ≤ 4) : (U [0, 0, 0, 0]).take 0 ++ U x ++ (U [0, 0, 0, 0]).drop (0 + (U x).length) = U (W4 x) := by
  unfold W4
  rw [U_append, List.take_zero, List.nil_append, U_length, Nat.zero_add]
  congr 1
  unfold U
  rw [List.map_replicate]
  rcases (show x.length = 0 ∨ x.length = 1 ∨ x.length = 2 ∨ x.length = 3 ∨ x.length = 4 by omega) with h | h | h | h | h <;> rw [h] <;> rfl
set_option maxRecDepth 100000 in
theorem Sl.part {w : World} {n k : Nat} {ad : Addr} {b : Wm.Bs} (h : Sl w 128 (some ad) n (U b)) {o : Nat} (hk : 0 < k) (ho : o + k ≤ n * 128) : ∀ j v, (U ((b.drop o).take k))[j]? = some v → w.cell? ((ad.add o).add j) = some v := by
  intro j v hv
  obtain ⟨_, e, _, hc⟩ := h.2 (by omega)
  cases e
  rw [addr_add_add]
  apply hc
  unfold U at hv ⊢
  rw [List.getElem?_map, List.getElem?_take] at hv
  split at hv
  · rw [List.getElem?_drop] at hv
    rw [List.getElem?_map]; exact hv
  · cases hv

set_option maxRecDepth 100000 in
set_option maxHeartbeats 2000000 in
theorem load_there (ad : Addr) (n c a s : Nat) (b : Wm.Bs) (w : World) (hs : Sl w 128 (some ad) n (U b)) (hb : Wm.isBs b) (hn : n ≤ 64) (h : Mm.There (n * 128) (a : Int) (s : Int)) :
    Calls Tryz.prog 23 #[.agg #[.slice (some ad) n c], .int .i64 (a : Int), .int .i64 (s : Int)] w fun e w' => e = .returned (.tuple #[.int .u32 (Mm.le ((b.drop a).take s)), .bool true]) ∧ Later w w' := by
  have HT := Lib.hid fun w' => there_any (some ad) n c (a : Int) (s : Int) w' hn ⟨by omega, by have := h.2.2; omega⟩
  rw [decide_eq_true h] at HT
  obtain ⟨h1, h2, h3⟩ := h
  have hs4 : s = 1 ∨ s = 4 := by omega
  have hfit : a % 128 + s ≤ 128 := by omega
  have has : a + s ≤ n * 128 := by omega
  have hbl : b.length = n * 128 := by have := hs.1; rwa [U_length] at this
  have HF := Lib.hid fun w' => from_any ad n c a w' hn (by omega)
  have HC := Lib.hid fun w' (hl : Later w w') => (hs.keep hl).part (o := a) (k := s) (by omega) has
  obtain ⟨x, hx⟩ : ∃ x, x = (b.drop a).take s := ⟨_, rfl⟩
  have hxl : x.length = s := by rw [hx, List.length_take, List.length_drop]; omega
  have hxb : Wm.isBs x := by rw [hx]; exact fun y hy => hb y (List.mem_of_mem_drop (List.mem_of_mem_take hy))
  rw [← hx] at HC ⊢
  have HX := Lib.hid (show (U x).length = Nat.min (128 - a % 128) s ∧ 0 + (U x).length ≤ (U [0, 0, 0, 0]).length ∧ x.length ≤ 4 from ⟨by rw [U_length, hxl]; exact (Nat.min_eq_right (by omega)).symm, by rw [U_length, hxl]; show 0 + s ≤ 4; omega, by omega⟩)
  have HN := Lib.hid fun w' => number_list (x := W4 x) w' (W4_len HX.out.2.2) (W4_bs hxb)
  rw [W4_le] at HN
  have s4 : (s : Int) ≤ 4 := by omega
  obtain ⟨Z, hZ⟩ : ∃ Z, Z = Mm.le x := ⟨_, rfl⟩
  rw [← hZ] at HN ⊢
  clear hZ hx hxl hxb hs4 hfit has hbl h1 h2 h3 hs hb
  go_enter Tryz.func23, Tryz.ntmps23
  go_wp2_with (first
    | (go_at_call 58; refine (HT.out _).mono ?_; rintro e w1 ⟨rfl, l1⟩; have bP := (Blk.new w 29 #[.slice (some ad) n c] _ rfl).keep l1; have l2 := Later.trans_ (later1 _ _) l1))
  have b8 := Blk.new w1 129 #[.int .u8 0, .int .u8 0, .int .u8 0, .int .u8 0] (U [0, 0, 0, 0]) rfl
  have H8 := Lib.hid l2.size
  have l3 : Later w (w1.alloc (.cells #[.int .u8 0, .int .u8 0, .int .u8 0, .int .u8 0] 129)) := l2.alloc l2.size _
  replace bP := bP.alloc (.cells #[.int .u8 0, .int .u8 0, .int .u8 0, .int .u8 0] 129)
  have hlt : w.heap.size < w1.heap.size := Nat.lt_of_lt_of_le (by simp) l1.size
  obtain ⟨B8, hB8⟩ : ∃ B8, B8 = w1.heap.size := ⟨_, rfl⟩
  rw [← hB8] at b8 H8 hlt ⊢
  clear hB8 l1 l2
  replace bP := bP.drew; replace b8 := b8.drew; replace l3 := l3.drew
  refine wp_region_held_drew (S := fun w' => w'.rangeAt w.heap.size 0 [.slice (some ad) n c]) (by kernel_rfl) (blk_at bP) (fun hHeld => ?_)
  refine wpAnyH_take (i := 0) (oi := ⟨some 14, .move (.tmp 2), _, _, _, none⟩) (v := .int .i64 (s : Int)) rfl (by kernel_rfl) (by kernel_rfl) (by kernel_rfl) (fun _ _ _ h => h) (Or.inl ⟨by rfl, fun _ _ => rfl⟩) hHeld ?_
  simp only [Act.put, List.setIfInBounds_toArray, List.set_cons_zero, List.set_cons_succ]
  refine wpAnyH_take (i := 1) (oi := ⟨some 15, .slice 129 (.tmp 8) none (some (.tmp 14)) none, _, _, _, none⟩) (v := .slice (some ⟨B8, 0, none⟩) s 4) rfl (by kernel_rfl) (by kernel_rfl) (by kernel_rfl) (fun _ _ _ h => h) (Or.inl ⟨by rfl, fun w _ => by go_simp⟩) hHeld ?_
  simp only [Act.put, List.setIfInBounds_toArray, List.set_cons_zero, List.set_cons_succ]
  refine wpAnyH_take (i := 2) (oi := ⟨some 16, .load 29 (.tmp 3), _, _, _, none⟩) (v := .agg #[.slice (some ad) n c]) rfl (by kernel_rfl) (by kernel_rfl) (by kernel_rfl) (fun _ _ _ h => h) (yieldsIf_load_mid (by rfl) _ _ rfl _ _ rfl _ _ (fun w h => h) Tryz.underlying29 rfl mem_sz) hHeld ?_
  simp only [Act.put, List.setIfInBounds_toArray, List.set_cons_zero, List.set_cons_succ]
  refine wpAnyH_take (i := 3) (oi := ⟨some 17, .move (.tmp 1), _, _, _, none⟩) (v := .int .i64 (a : Int)) rfl (by kernel_rfl) (by kernel_rfl) (by kernel_rfl) (fun _ _ _ h => h) (Or.inl ⟨by rfl, fun _ _ => rfl⟩) hHeld ?_
  simp only [Act.put, List.setIfInBounds_toArray, List.set_cons_zero, List.set_cons_succ]
  refine wpAnyH_ready (rs := [4]) (by kernel_rfl) (by simp) (AllReadyH.cons (o := ⟨some 18, .call { callee := .value (.func 59), args := #[.tmp 16, .tmp 17], argTypes := #[29, 3] }, _, _, _, none⟩) rfl (fun K' hK => ?_) (AllReadyH.nil))
  go_simp
  refine (HF.out _).mono ?_
  rintro e w4 ⟨rfl, l4⟩
  replace bP := bP.keep l4
  replace b8 := b8.keep l4
  replace l3 := Later.trans_ l3 l4
  have hc4 := HC.out _ l3
  refine hK.out _ _ (blk_at bP) (fun hHeld => ?_)
  clear hK K'
  try simp only [Act.put, List.setIfInBounds_toArray, List.set_cons_zero, List.set_cons_succ]
  refine wpAnyH_ready (rs := [5]) (by kernel_rfl) (by simp) (AllReadyH.cons (o := ⟨some 19, .call { callee := .builtin .copy, args := #[.tmp 15, .tmp 18], argTypes := #[50, 50] }, _, _, _, none⟩) rfl (fun K' hK => ?_) (AllReadyH.nil))
  refine wp_copy_row _ _ rfl Tryz.underlying50 u8_sz B8 0 _ _ rfl (ad.add a) _ _ rfl (U x) HX.out.1 hc4 129 (U [0, 0, 0, 0]) b8 HX.out.2.1 (U_one _) ?_
  intro w5 b5 o5
  have l5 := Below.only l3 o5 H8.out
  replace bP := bP.only o5 (by omega)
  refine hK.out _ _ (blk_at bP) (fun hHeld => ?_)
  clear hK K'
  try simp only [Act.put, List.setIfInBounds_toArray, List.set_cons_zero, List.set_cons_succ]
  refine wpAnyH_done (by kernel_rfl) ?_ _
  clear hHeld
  rw [W4_cells HX.out.2.2] at b5
  go_wp2_with (first
    | ((with_reducible refine wpList_load_blk (o := ⟨some 20, .load 129 (.tmp 8), _, _, _, none⟩) rfl _ _ rfl B8 129 (U (W4 x)) _ ?_ b5 Tryz.underlying129 rfl (word_sz (W4 x) (W4_len HX.out.2.2)) ?_); rfl)
    | (go_at_call 60; refine (HN.out _).mono ?_; rintro e w6 ⟨rfl, l6⟩))
  go_ret2
  exact ⟨rfl, Later.trans_ l5 l6⟩

set_option maxRecDepth 100000 in
theorem Sl.addr {w : World} {size n : Nat} {A : Option Addr} {xs : List Value} (h : Sl w size A n xs) (hn : 0 < n) : ∃ ad, A = some ad := by
  obtain ⟨ad, e, _⟩ := h.2 hn
  exact ⟨ad, e⟩
set_option maxRecDepth 100000 in
theorem load_none (A : Option Addr) (n c : Nat) (a s : Int) (w : World) (hn : n ≤ 64) (ha : -9223372036854775808 ≤ a ∧ a ≤ 9223372036854775807) (h : ¬ Mm.There (n * 128) a s) :
    Calls Tryz.prog 23 #[.agg #[.slice A n c], .int .i64 a, .int .i64 s] w fun e w' => e = .returned (.tuple #[.int .u32 0, .bool false]) ∧ Later w w' := by
  have HT := Lib.hid fun w' => there_any A n c a s w' hn ha
  rw [decide_eq_false h] at HT
  clear h
  go_enter Tryz.func23, Tryz.ntmps23
  go_wp2_with (first
    | (go_at_call 58; refine (HT.out _).mono ?_; rintro e w1 ⟨rfl, l1⟩))
  go_ret2
  exact ⟨rfl, Later.trans_ (later1 _ _) l1⟩
set_option maxRecDepth 100000 in
theorem load_any (A : Option Addr) (n c : Nat) (a s : Int) (b : Wm.Bs) (w : World) (hs : Sl w 128 A n (U b)) (hb : Wm.isBs b) (hn1 : 1 ≤ n) (hn : n ≤ 64) (ha : -9223372036854775808 ≤ a ∧ a ≤ 9223372036854775807) :
    Calls Tryz.prog 23 #[.agg #[.slice A n c], .int .i64 a, .int .i64 s] w fun e w' => e = .returned (.tuple #[.int .u32 (Mm.ld b a s), .bool (decide (Mm.There (n * 128) a s))]) ∧ Later w w' := by
  obtain ⟨ad, rfl⟩ := hs.addr (by omega)
  have hbl : b.length = n * 128 := by have := hs.1; rwa [U_length] at this
  unfold Mm.ld
  rw [hbl]
  by_cases h : Mm.There (n * 128) a s
  · rw [if_pos h, decide_eq_true h]
    obtain ⟨a', rfl⟩ := Int.eq_ofNat_of_zero_le h.2.1
    obtain ⟨s', rfl⟩ := Int.eq_ofNat_of_zero_le (show 0 ≤ s by have := h.1; omega)
    exact load_there ad n c a' s' b w hs hb hn h
  · rw [if_neg h, decide_eq_false h]
    exact load_none _ n c a s w hn ha h

end Go.Proofs.YtidhodalnikhlaaGreatDoor

/-
  THE WALK OF the reference's Load.
-/
namespace Go.Proofs.YtidhodalnikhlaaGreatDoor
open Go.RowKit Go.ChangeShapes Go.WideShapes Go.ChangeAt

set_option maxRecDepth 100000 in
theorem isBs_drop {x : Wm.Bs} (h : Wm.isBs x) (k : Nat) : Wm.isBs (x.drop k) := fun y hy => h y (List.mem_of_mem_drop hy)
set_option maxRecDepth 100000 in
theorem isBs_take {x : Wm.Bs} (h : Wm.isBs x) (k : Nat) : Wm.isBs (x.take k) := fun y hy => h y (List.mem_of_mem_take hy)
end Go.Proofs.YtidhodalnikhlaaGreatDoor

/-
  MEMORIES THAT THE CALL OWNS; THE WALKS OF slices.Clone, begin; and of the reference's Copy.
-/
namespace Go.Proofs.YtidhodalnikhlaaGreatDoor
open Go.RowKit Go.ChangeShapes Go.WideShapes Go.ChangeAt

set_option maxRecDepth 100000 in
/-- THE BLOCK g HOLDS A MEMORY OF n PAGES, and may be written. -/
def Draft (w : World) (g n : Nat) (b : Wm.Bs) : Prop := b.length = n * 128 ∧ ∃ t junk, Blk w g t (U b ++ junk)
section
variable {w w' : World} {g n : Nat} {b : Wm.Bs}
set_option maxRecDepth 100000 in
theorem Draft.sl (h : Draft w g n b) : Sl w 128 (some ⟨g, 0, none⟩) n (U b) := by
  obtain ⟨hl, t, junk, hb⟩ := h
  refine ⟨by rw [U_length, hl], fun _ => ⟨_, rfl, hb.lt, fun j u hu => ?_⟩⟩
  rw [Addr.add_mid, Nat.zero_add]
  refine hb.cell ?_
  have hj : j < (U b).length := by
    rcases Nat.lt_or_ge j (U b).length with h | h
    · exact h
    · rw [List.getElem?_eq_none h] at hu; cases hu
  rw [List.getElem?_append_left hj]; exact hu
set_option maxRecDepth 100000 in
theorem Draft.keep (h : Draft w g n b) (k : Later w w') : Draft w' g n b := by
  obtain ⟨hl, t, junk, hb⟩ := h
  exact ⟨hl, t, junk, hb.keep k⟩
set_option maxRecDepth 100000 in
theorem Draft.drew (h : Draft w g n b) : Draft w.drew g n b := h
set_option maxRecDepth 100000 in
theorem Draft.lt (h : Draft w g n b) : g < w.heap.size := by obtain ⟨_, _, _, hb⟩ := h; exact hb.lt
set_option maxRecDepth 100000 in
theorem Draft.only {B : Nat} (h : Draft w g n b) (o : Only B w w') (hne : g ≠ B) : Draft w' g n b := by
  obtain ⟨hl, t, junk, hb⟩ := h
  exact ⟨hl, t, junk, hb.only o hne⟩
set_option maxRecDepth 100000 in
theorem Draft.puts (_h : Draft w g n b) {t : TypeId} {junk : List Value} (hl : b.length = n * 128) {o : Nat} {d : Wm.Bs} (hfit : o + d.length ≤ n * 128) (hb : Blk w' g t ((U b ++ junk).take o ++ U d ++ (U b ++ junk).drop (o + (U d).length))) : Draft w' g n (Mm.put b o d) := by
  refine ⟨(Mm.put_len (by omega)).trans hl, t, junk, ?_⟩
  have e : (U b ++ junk).take o ++ U d ++ (U b ++ junk).drop (o + (U d).length) = U (Mm.put b o d) ++ junk := by
    unfold Mm.put
    rw [List.take_append_of_le_length (by rw [U_length]; omega), List.drop_append_of_le_length (by rw [U_length, U_length]; omega), U_append, U_append, U_length]
    unfold U
    simp
  rw [e] at hb
  exact hb
end

set_option maxRecDepth 100000 in
theorem page_info : (Tryz.prog.info? 55).map (fun i => (i.zero, i.size, i.bytes)) = some (some (.agg (Array.replicate 128 (.int .u8 0))), 128, 128) := by kernel_rfl
set_option maxRecDepth 100000 in
theorem wp_app_own {P : Program} {w : World} {o : Oper} {a : Act} {K : Act → World → Prop} {Q : Exit → Act → World → Prop} (s x : Operand) (t : TypeId)
    (ho : o.op = .call { callee := .builtin .append, args := #[s, x], argTypes := #[t, t] })
    (e : TypeId) (i : TypeInfo) (z : Value) (size bytes : Nat) (ht : P.underlying t = some (.slice e)) (hi : P.info? e = some i) (hz : i.zero = some z)
    (hsize : i.size = size) (hby : i.bytes = bytes) (hzs : z.cells.size = size) (hsz : 0 < size)
    (b : Addr) (hsv : a.eval s = .slice (some b) 0 0) (A2 : Option Addr) (m c2 : Nat) (news : List Value) (hx : a.eval x = .slice A2 m c2) (hm : 0 < m) (hs2 : Sl w size A2 m news)
    (h63 : m ≤ maxLen) (hbytes : m * bytes ≤ 140737488355328)
    (h : ∀ g c' w', m ≤ c' → c' ≤ maxLen → w.heap.size ≤ g → (∃ cur : Array Value, w'.heap[g]? = some (.cells cur e (0, 0)) ∧ cur.toList.take (m * size) = news) → Later w w' → K (a.put o.dst (.slice (some ⟨g, 0, none⟩) m c')) w') : o.wp P a w K Q := by
  obtain ⟨ad, rfl, _, hc⟩ := hs2.2 hm
  obtain ⟨v', w', hr, h1, h2⟩ := run_append_arg_grows (P := P) w t o.type e i z size bytes ht hi hz hsize hby hzs hsz b 0 0 [] (by simp) (fun j u hu => by cases hu) ad m c2 news hs2.1 hc (by omega) (by omega) (by rw [Nat.zero_add]; exact hbytes)
  rw [Nat.zero_add, List.nil_append] at h1
  rcases h1.2 with ⟨_, e0⟩ | ⟨g, cap, cur, rfl, k1, k2, k3, k4, _, k6⟩
  · omega
  unfold Oper.wp execOp
  simp only [ho, resolve, invoke, builtin, Sem.run_bind, Sem.run_pure, Result.andThen_ok, List.map_toArray, List.map_cons, List.map_nil, hsv, hx, hr]
  exact h g cap w' k3 k4 k1 ⟨cur, k2, k6⟩ ((Below.refl _ _).grown h2 (Nat.le_refl _) (fun _ e => by cases e))
set_option maxRecDepth 100000 in
theorem wpList_app_own {P : Program} {w : World} {ops : Array Oper} {rest : List Oper} {o : Oper} {a : Act} {Q : Exit → Act → World → Prop} (hgd : o.guard = none) (s x : Operand) (t : TypeId)
    (ho : o.op = .call { callee := .builtin .append, args := #[s, x], argTypes := #[t, t] })
    (e : TypeId) (i : TypeInfo) (z : Value) (size bytes : Nat) (ht : P.underlying t = some (.slice e)) (hi : P.info? e = some i) (hz : i.zero = some z)
    (hsize : i.size = size) (hby : i.bytes = bytes) (hzs : z.cells.size = size) (hsz : 0 < size)
    (b : Addr) (hsv : a.eval s = .slice (some b) 0 0) (A2 : Option Addr) (m c2 : Nat) (news : List Value) (hx : a.eval x = .slice A2 m c2) (hm : 0 < m) (hs2 : Sl w size A2 m news)
    (h63 : m ≤ maxLen) (hbytes : m * bytes ≤ 140737488355328)
    (h : ∀ g c' w', m ≤ c' → c' ≤ maxLen → w.heap.size ≤ g → (∃ cur : Array Value, w'.heap[g]? = some (.cells cur e (0, 0)) ∧ cur.toList.take (m * size) = news) → Later w w' → wpList P ops Q rest (a.put o.dst (.slice (some ⟨g, 0, none⟩) m c')) w') : wpList P ops Q (o :: rest) a w :=
  wpList_plain hgd fun _ hK => wp_app_own s x t ho e i z size bytes ht hi hz hsize hby hzs hsz b hsv A2 m c2 news hx hm hs2 h63 hbytes (fun g c' w' k1 k2 k3 k4 k5 => hK _ _ (h g c' w' k1 k2 k3 k4 k5))
set_option maxRecDepth 100000 in
theorem run_eql_nil {P : Program} (w : World) (t e : TypeId) (a : Option Addr) (l c : Nat) (h : P.underlying t = some (.slice e)) : (binOp .eql t (.slice a l c) (.slice none 0 0)).run P w = .ok (.bool a.isNone) w := by
  have h1 : ∀ d : Nat, (Op.equalIn (d + 1) t (.slice a l c) (.slice none 0 0)).run P w = .ok a.isNone w := fun d => by
    cases a <;> simp [Op.equalIn, run_underlying h]
  have h2 : (Op.equal t (.slice a l c) (.slice none 0 0)).run P w = .ok a.isNone w := h1 9999
  simp [binOp, h2]
set_option maxRecDepth 100000 in
theorem draft_of {w : World} {g n : Nat} {b : Wm.Bs} {e : TypeId} (hl : b.length = n * 128) (h : ∃ cur : Array Value, w.heap[g]? = some (.cells cur e (0, 0)) ∧ cur.toList.take (n * 128) = U b) : Draft w g n b := by
  obtain ⟨cur, h1, h2⟩ := h
  refine ⟨hl, e, cur.toList.drop (n * 128), ?_⟩
  unfold Blk
  rw [← h2, List.take_append_drop]
  exact h1

set_option maxRecDepth 100000 in
set_option maxHeartbeats 1000000 in
theorem clone_any (A : Option Addr) (n c : Nat) (b : Wm.Bs) (w : World) (hs : Sl w 128 A n (U b)) (hn1 : 1 ≤ n) (hn : n ≤ 64) :
    Calls Tryz.prog 51 #[.slice A n c] w fun e w' => ∃ g c', e = .returned (.slice (some ⟨g, 0, none⟩) n c') ∧ w.heap.size ≤ g ∧ n ≤ c' ∧ c' ≤ maxLen ∧ Draft w' g n b ∧ Later w w' := by
  obtain ⟨i0, hi, hz0, hz1, hz2⟩ := info_parts page_info
  obtain ⟨ad, rfl⟩ := hs.addr (by omega)
  have hbl : b.length = n * 128 := by have := hs.1; rwa [U_length] at this
  have HS := Lib.hid hs
  have hnil := run_eql_nil (P := Tryz.prog) w 27 55 (some ad) n c Tryz.underlying27
  clear hs
  go_enter Tryz.func51, Tryz.ntmps51
  go_wp2_with (first
    | ((with_reducible refine wpList_app_own rfl (.tmp 5) (.tmp 6) 27 rfl 55 i0 _ 128 128 Tryz.underlying27 hi hz0 hz1 hz2 ?_ ?_ ⟨w.heap.size, 0, none⟩ ?_ (some ad) n c (U b) ?_ ?_ ?_ ?_ ?_ ?_); rfl; decide; rfl; rfl; omega; exact HS.out.alloc _; (unfold maxLen; omega); omega; intro g c' w1 k1 k2 k3 k4 k5))
  go_ret
  exact ⟨g, c', rfl, Nat.le_of_succ_le (by simpa using k3), k1, k2, draft_of hbl k4, Later.trans_ (later1 _ _) k5⟩
set_option maxRecDepth 100000 in
/-- What hands back a memory of the call's own. -/
def GotM (n : Nat) (b : Wm.Bs) (w : World) (e : Ending) (w' : World) : Prop := ∃ g c', e = .returned (.agg #[.slice (some ⟨g, 0, none⟩) n c']) ∧ w.heap.size ≤ g ∧ n ≤ c' ∧ c' ≤ maxLen ∧ Draft w' g n b ∧ Later w w'
set_option maxRecDepth 100000 in
theorem dr_sz {v : Value} : (Tryz.prog.info? 123).map (·.size) = some [v].length := by
  show _ = some 1
  kernel_rfl
set_option maxRecDepth 100000 in
set_option maxHeartbeats 1000000 in
theorem begin_any (A : Option Addr) (n c : Nat) (b : Wm.Bs) (w : World) (hs : Sl w 128 A n (U b)) (hn1 : 1 ≤ n) (hn : n ≤ 64) :
    Calls Tryz.prog 55 #[.agg #[.slice A n c]] w (GotM n b w) := by
  have HC := Lib.hid fun w' (hl : Later w w') => clone_any A n c b w' (hs.keep hl) hn1 hn
  have l0 := (later1 w (.cells #[.slice A n c] 29)).alloc (by simp) (.cells #[.slice none 0 0] 123)
  have bR := Blk.new' (w.alloc (.cells #[.slice A n c] 29)) (w.heap.size + 1) 123 #[.slice none 0 0] [.slice none 0 0] (by simp) rfl
  go_enter Tryz.func55, Tryz.ntmps55
  go_wp2_with (first
    | (go_at_call 51; refine (HC.out _ l0).mono ?_; rintro e w1 ⟨g, c', rfl, k1, k2, k3, k4, k5⟩; replace bR := bR.keep k5; have c0 := bR.cell (j := 0) (v := .slice none 0 0) rfl; have f0 := bR.frz 0))
  have k1' : w.heap.size + 2 ≤ g := by simpa using k1
  refine bodyPost_ret (results_blk Tryz.results55 _ _ (w.heap.size + 1) 123 [.slice (some ⟨g, 0, none⟩) n c'] _ rfl (bR.set 0 _) Tryz.underlying123 rfl dr_sz) rfl ⟨g, c', rfl, by omega, k2, k3, k4.only (Only.set _ _ _ _) (by omega), (Later.trans_ l0 k5).setCell (by simp) _⟩
set_option maxRecDepth 100000 in
set_option maxHeartbeats 1000000 in
theorem rcopy_any (A : Option Addr) (n c : Nat) (b : Wm.Bs) (w : World) (hs : Sl w 128 A n (U b)) (hn1 : 1 ≤ n) (hn : n ≤ 64) :
    Calls Tryz.prog 71 #[.agg #[.slice A n c]] w (GotM n b w) := by
  obtain ⟨i0, hi, hz0, hz1, hz2⟩ := info_parts page_info
  obtain ⟨ad, rfl⟩ := hs.addr (by omega)
  have hbl : b.length = n * 128 := by have := hs.1; rwa [U_length] at this
  have HS := Lib.hid hs
  clear hs
  have l0 := (later1 w (.cells #[.slice (some ad) n c] 29)).alloc (by simp) (.cells #[.slice none 0 0] 29)
  have bR := Blk.new' (w.alloc (.cells #[.slice (some ad) n c] 29)) (w.heap.size + 1) 29 #[.slice none 0 0] [.slice none 0 0] (by simp) rfl
  go_enter Tryz.func71, Tryz.ntmps71
  go_wp2_with (first
    | ((with_reducible refine wpList_app_own rfl (.tmp 3) (.tmp 5) 27 rfl 55 i0 _ 128 128 Tryz.underlying27 hi hz0 hz1 hz2 ?_ ?_ ⟨w.heap.size + 1 + 1, 0, none⟩ ?_ (some ad) n c (U b) ?_ ?_ ?_ ?_ ?_ ?_); rfl; decide; rfl; rfl; omega; exact (HS.out.keep l0).alloc _; (unfold maxLen; omega); omega; intro g c' w1 k1 k2 k3 k4 k5; replace bR := (bR.alloc _).keep k5; have c0 := bR.cell (j := 0) (v := .slice none 0 0) rfl; have f0 := bR.frz 0))
  have k3' : w.heap.size + 3 ≤ g := by simpa using k3
  refine bodyPost_ret (results_blk Tryz.results71 _ _ (w.heap.size + 1) 29 [.slice (some ⟨g, 0, none⟩) n c'] _ rfl (bR.set 0 _) Tryz.underlying29 rfl mem_sz) rfl ⟨g, c', rfl, by omega, k1, k2, (draft_of hbl k4).only (Only.set _ _ _ _) (by omega), (Later.trans_ (l0.alloc (by simp; omega) _) k5).setCell (by simp) _⟩
end Go.Proofs.YtidhodalnikhlaaGreatDoor

/-
  THE WALK OF draft.store.
-/
namespace Go.Proofs.YtidhodalnikhlaaGreatDoor
open Go.RowKit Go.ChangeShapes Go.WideShapes Go.ChangeAt

set_option maxRecDepth 100000 in
/-- Later, but for the block B. -/
def Lx (B : Nat) (w w' : World) : Prop := w'.os = w.os ∧ w'.tape = w.tape ∧ w'.output = w.output ∧ w.heap.size ≤ w'.heap.size ∧ ∀ k, k < w.heap.size → k ≠ B → w'.heap[k]? = w.heap[k]?
set_option maxRecDepth 100000 in
theorem Lx.size {B : Nat} {w w' : World} (h : Lx B w w') : w.heap.size ≤ w'.heap.size := h.2.2.2.1
set_option maxRecDepth 100000 in
theorem Lx.trans_ {B : Nat} {a b c : World} (h : Lx B a b) (k : Lx B b c) : Lx B a c :=
  ⟨k.1.trans h.1, k.2.1.trans h.2.1, k.2.2.1.trans h.2.2.1, Nat.le_trans h.size k.size, fun j hj hne => (k.2.2.2.2 j (Nat.lt_of_lt_of_le hj h.size) hne).trans (h.2.2.2.2 j hj hne)⟩
set_option maxRecDepth 100000 in
theorem Lx.of {B : Nat} {w w' : World} (h : Later w w') : Lx B w w' := ⟨h.os, h.tape, h.output, h.size, fun k hk _ => h.block k hk⟩
set_option maxRecDepth 100000 in
theorem Lx.only {B : Nat} {w w' : World} (h : Only B w w') : Lx B w w' := ⟨h.1, h.2.1, h.2.2.1, Nat.le_of_eq h.size.symm, fun k _ hne => h.2.2.2.2 k hne⟩
set_option maxRecDepth 100000 in
theorem Lx.later {B : Nat} {a w w' : World} (h : Lx B a w) (k : Later w w') : Lx B a w' := h.trans_ (Lx.of k)
set_option maxRecDepth 100000 in
theorem Lx.back {B : Nat} {a w w' : World} (h : Later a w) (k : Lx B w w') (hB : a.heap.size ≤ B) : Later a w' :=
  ⟨k.1.trans h.os, k.2.1.trans h.tape, k.2.2.1.trans h.output, Nat.le_trans h.size k.size, fun j hj => (k.2.2.2.2 j (Nat.lt_of_lt_of_le hj h.size) (by omega)).trans (h.block j hj)⟩
set_option maxRecDepth 100000 in
theorem Blk.lx {B g : Nat} {w w' : World} {t : TypeId} {cs : List Value} (h : Blk w B t cs) (k : Lx g w w') (hne : B ≠ g) : Blk w' B t cs := by
  unfold Blk; rw [k.2.2.2.2 B h.lt hne]; exact h
set_option maxRecDepth 100000 in
theorem Lx.cell {B : Nat} {w w' : World} (k : Lx B w w') {a : Addr} (hl : a.block < w.heap.size) (hne : a.block ≠ B) : w'.cell? a = w.cell? a := by
  unfold World.cell?
  rw [k.2.2.2.2 a.block hl hne]
set_option maxRecDepth 100000 in
theorem Sl.lx {B size n : Nat} {w w' : World} {A : Option Addr} {xs : List Value} (h : Sl w size A n xs) (k : Lx B w w') (hne : 0 < n → ∀ ad, A = some ad → ad.block ≠ B) : Sl w' size A n xs :=
  ⟨h.1, fun hn => by
    obtain ⟨ad, e, hl, hc⟩ := h.2 hn
    refine ⟨ad, e, Nat.lt_of_lt_of_le hl k.size, fun j u hu => ?_⟩
    rw [k.cell (by rw [addr_add_block]; exact hl) (by rw [addr_add_block]; exact hne hn ad e)]
    exact hc j u hu⟩
set_option maxRecDepth 100000 in
theorem range1 {w : World} {B : Nat} {v : Value} (h : w.cell? ⟨B, 0, none⟩ = some v) : w.rangeAt B 0 [v] := fun j u hu => by
  cases j with
  | zero => obtain rfl : v = u := by simpa using hu
            simpa using h
  | succ j => cases hu
set_option maxRecDepth 100000 in
theorem el_part {v : Int} {s : Nat} (h : s = 1 ∨ s = 4) : Mm.el s v = (Mm.el 4 v).take s := by
  rcases h with rfl | rfl
  · rw [el4]; rfl
  · rw [el4]; rfl

set_option maxRecDepth 100000 in
theorem store_none (g n c : Nat) (a s v : Int) (w : World) (hn : n ≤ 64) (ha : -9223372036854775808 ≤ a ∧ a ≤ 9223372036854775807) (h : ¬ Mm.There (n * 128) a s) :
    Calls Tryz.prog 57 #[.agg #[.slice (some ⟨g, 0, none⟩) n c], .agg #[.int .i64 a, .int .i64 s, .int .u32 v]] w fun e w' => e = .returned (.bool false) ∧ Later w w' := by
  have HT := Lib.hid fun w' => there_any (some ⟨g, 0, none⟩) n c a s w' hn ha
  rw [decide_eq_false h] at HT
  clear h
  go_enter Tryz.func57, Tryz.ntmps57
  go_wp2_with (first
    | (go_at_call 58; refine (HT.out _).mono ?_; rintro e w1 ⟨rfl, l1⟩))
  go_ret
  exact ⟨rfl, Later.trans_ ((later1 _ _).alloc (by simp) _) l1⟩
set_option maxRecDepth 100000 in
set_option maxHeartbeats 2000000 in
theorem store_there (g n c a s : Nat) (v : Int) (b : Wm.Bs) (w : World) (hd : Draft w g n b) (hn : n ≤ 64) (h : Mm.There (n * 128) (a : Int) (s : Int)) (hv0 : 0 ≤ v) (hv1 : v < 4294967296) :
    Calls Tryz.prog 57 #[.agg #[.slice (some ⟨g, 0, none⟩) n c], .agg #[.int .i64 (a : Int), .int .i64 (s : Int), .int .u32 v]] w fun e w' => e = .returned (.bool true) ∧ Draft w' g n (Mm.put b a (Mm.el s v)) ∧ Lx g w w' := by
  have HT := Lib.hid fun w' => there_any (some ⟨g, 0, none⟩) n c (a : Int) (s : Int) w' hn ⟨by omega, by have := h.2.2; omega⟩
  rw [decide_eq_true h] at HT
  obtain ⟨h1, h2, h3⟩ := h
  have hs4 : s = 1 ∨ s = 4 := by omega
  have hfit : a % 128 + s ≤ 128 := by omega
  have has : a + s ≤ n * 128 := by omega
  have HD := Lib.hid hd
  obtain ⟨hbl, t, junk, hbk⟩ := hd
  have HF := Lib.hid fun w' => from_any ⟨g, 0, none⟩ n c a w' hn (by omega)
  rw [Addr.add_mid, Nat.zero_add] at HF
  have HB := Lib.hid fun w' => bytesOf_any v w' hv0 hv1
  obtain ⟨X, hX⟩ : ∃ X, X = Mm.el 4 v := ⟨_, rfl⟩
  obtain ⟨x, hx⟩ : ∃ x, x = Mm.el s v := ⟨_, rfl⟩
  have hxX : x = X.take s := by rw [hx, hX, el_part hs4]
  have hXl : X.length = 4 := by rw [hX, Mm.el_len]
  have hxl : x.length = s := by rw [hx, Mm.el_len]
  rw [← hX] at HB
  rw [← hx]
  have HXX := Lib.hid hXl
  have HX := Lib.hid (show (U x).length = Nat.min s (128 - a % 128) ∧ a + (U x).length ≤ (U b ++ junk).length ∧ (∀ (B5 : Nat) {w' : World}, Blk w' B5 129 (U X) → ∀ j u, (U x)[j]? = some u → w'.cell? ((⟨B5, 0, none⟩ : Addr).add j) = some u) from
    ⟨by rw [U_length, hxl]; exact (Nat.min_eq_left (by omega)).symm, by rw [U_length, hxl, List.length_append, U_length, hbl]; omega, fun B5 w' h5 j u hu => by
      rw [Addr.add_mid, Nat.zero_add]
      refine h5.cell ?_
      rw [hxX] at hu
      unfold U at hu ⊢
      rw [List.map_take, List.getElem?_take] at hu
      split at hu
      · exact hu
      · cases hu⟩)
  have HL := Lib.hid (show b.length = n * 128 ∧ a + x.length ≤ n * 128 from ⟨hbl, by rw [hxl]; exact has⟩)
  have s4 : (s : Int) ≤ 4 := by omega
  have hgl := hbk.lt
  clear hX hx hxX hXl hxl hs4 hfit has hbl h1 h2 h3
  go_enter Tryz.func57, Tryz.ntmps57
  go_wp2_with (first
    | (go_at_call 58; refine (HT.out _).mono ?_; rintro e w1 ⟨rfl, l1⟩; have b2 := ((Blk.new w 123 #[.slice (some ⟨g, 0, none⟩) n c] [.slice (some ⟨g, 0, none⟩) n c] rfl).alloc (.cells #[.int .i64 (a : Int), .int .i64 (s : Int), .int .u32 v] 64)).keep l1; have b3 := (Blk.new' (w.alloc (.cells #[.slice (some ⟨g, 0, none⟩) n c] 123)) (w.heap.size + 1) 64 #[.int .i64 (a : Int), .int .i64 (s : Int), .int .u32 v] [.int .i64 (a : Int), .int .i64 (s : Int), .int .u32 v] (by simp) rfl).keep l1; have l2 := Later.trans_ ((later1 w _).alloc (by simp) _) l1; have e32 := b3.cell (j := 2) (v := .int .u32 v) rfl)
    | (go_at_call 96; refine (HB.out _).mono ?_; rintro e w3 ⟨rfl, l3⟩; replace b2 := b2.keep l3; replace b3 := b3.keep l3; replace l2 := Later.trans_ l2 l3)
    | ((with_reducible refine wpList_store_abs (o := ⟨none, .store 129 (.tmp 5) (.tmp 16), _, _, _, none⟩) rfl _ _ _ rfl w3.heap.size 129 (U [0, 0, 0, 0]) (U X) ?_ ?_ ?_ (word_sz X HXX.out) (word_z HXX.out) (U_one _) ?_); rfl; rfl; exact Blk.new _ _ _ _ rfl; intro w5 b5 o5))
  replace b2 := ((b2.alloc (.cells #[.int .u8 0, .int .u8 0, .int .u8 0, .int .u8 0] 129)).only o5 (Nat.ne_of_lt b2.lt)).drew
  replace b3 := ((b3.alloc (.cells #[.int .u8 0, .int .u8 0, .int .u8 0, .int .u8 0] 129)).only o5 (Nat.ne_of_lt b3.lt)).drew
  replace b5 := b5.drew
  have l3 : Later w w5.drew := (Below.only (l2.alloc l2.size (.cells #[.int .u8 0, .int .u8 0, .int .u8 0, .int .u8 0] 129)) o5 l2.size).drew
  replace hbk := hbk.keep l3
  have HNE := Lib.hid (show w.heap.size ≠ g ∧ w.heap.size + 1 ≠ g from ⟨by omega, by omega⟩)
  obtain ⟨B2, hB2⟩ : ∃ B2, B2 = w.heap.size := ⟨_, rfl⟩
  obtain ⟨B3, hB3⟩ : ∃ B3, B3 = w.heap.size + 1 := ⟨_, rfl⟩
  obtain ⟨B5, hB5⟩ : ∃ B5, B5 = w3.heap.size := ⟨_, rfl⟩
  have HX2 := fun w' => HX.out.2.2 B5 (w' := w')
  rw [← hB3, ← hB2] at HNE ⊢
  rw [← hB3] at b3
  rw [← hB2] at b2
  rw [← hB5] at b5 ⊢
  clear hB2 hB3 hB5 l1 l2 e32
  refine wp_region_held_drew (S := fun w' => w'.cell? ⟨B2, 0, none⟩ = some (.slice (some ⟨g, 0, none⟩) n c) ∧ w'.cell? ⟨B3, 0, none⟩ = some (.int .i64 (a : Int)) ∧ w'.cell? ⟨B3, 1, none⟩ = some (.int .i64 (s : Int))) (by kernel_rfl) ⟨b2.cell rfl, b3.cell rfl, b3.cell rfl⟩ (fun hHeld => ?_)
  refine wpAnyH_take (i := 0) (oi := ⟨some 17, .fieldAddr 123 (.tmp 2) 0, _, _, _, none⟩) (v := .pointer (some ⟨B2, 0, none⟩)) rfl (by kernel_rfl) (by kernel_rfl) (by kernel_rfl) (fun _ _ _ h => h) (Or.inl ⟨by rfl, fun w _ => by go_simp⟩) hHeld ?_
  simp only [Act.put, List.setIfInBounds_toArray, List.set_cons_zero, List.set_cons_succ]
  refine wpAnyH_take (i := 1) (oi := ⟨some 18, .load 29 (.tmp 17), _, _, _, none⟩) (v := .agg #[.slice (some ⟨g, 0, none⟩) n c]) rfl (by kernel_rfl) (by kernel_rfl) (by kernel_rfl) (fun _ _ _ h => h) (yieldsIf_load_mid (by rfl) _ _ rfl _ _ rfl _ _ (fun w h => range1 h.1) Tryz.underlying29 rfl mem_sz) hHeld ?_
  simp only [Act.put, List.setIfInBounds_toArray, List.set_cons_zero, List.set_cons_succ]
  refine wpAnyH_take (i := 2) (oi := ⟨some 19, .fieldAddr 64 (.tmp 3) 0, _, _, _, none⟩) (v := .pointer (some ⟨B3, 0, none⟩)) rfl (by kernel_rfl) (by kernel_rfl) (by kernel_rfl) (fun _ _ _ h => h) (Or.inl ⟨by rfl, fun w _ => by go_simp⟩) hHeld ?_
  simp only [Act.put, List.setIfInBounds_toArray, List.set_cons_zero, List.set_cons_succ]
  refine wpAnyH_take (i := 3) (oi := ⟨some 20, .load 3 (.tmp 19), _, _, _, none⟩) (v := .int .i64 (a : Int)) rfl (by kernel_rfl) (by kernel_rfl) (by kernel_rfl) (fun _ _ _ h => h) (Or.inl ⟨by rfl, fun w hSw => by have e1 := hSw.2.1; clear hSw; go_simp⟩) hHeld ?_
  simp only [Act.put, List.setIfInBounds_toArray, List.set_cons_zero, List.set_cons_succ]
  refine wpAnyH_take (i := 5) (oi := ⟨some 22, .fieldAddr 64 (.tmp 3) 1, _, _, _, none⟩) (v := .pointer (some ⟨B3, 1, none⟩)) rfl (by kernel_rfl) (by kernel_rfl) (by kernel_rfl) (fun _ _ _ h => h) (Or.inl ⟨by rfl, fun w _ => by go_simp⟩) hHeld ?_
  simp only [Act.put, List.setIfInBounds_toArray, List.set_cons_zero, List.set_cons_succ]
  refine wpAnyH_take (i := 6) (oi := ⟨some 23, .load 3 (.tmp 22), _, _, _, none⟩) (v := .int .i64 (s : Int)) rfl (by kernel_rfl) (by kernel_rfl) (by kernel_rfl) (fun _ _ _ h => h) (Or.inl ⟨by rfl, fun w hSw => by have e1 := hSw.2.2; clear hSw; go_simp⟩) hHeld ?_
  simp only [Act.put, List.setIfInBounds_toArray, List.set_cons_zero, List.set_cons_succ]
  refine wpAnyH_take (i := 7) (oi := ⟨some 24, .slice 129 (.tmp 5) none (some (.tmp 23)) none, _, _, _, none⟩) (v := .slice (some ⟨B5, 0, none⟩) s 4) rfl (by kernel_rfl) (by kernel_rfl) (by kernel_rfl) (fun _ _ _ h => h) (Or.inl ⟨by rfl, fun w _ => by go_simp⟩) hHeld ?_
  simp only [Act.put, List.setIfInBounds_toArray, List.set_cons_zero, List.set_cons_succ]
  refine wpAnyH_ready (rs := [4]) (by kernel_rfl) (by simp) (AllReadyH.cons (o := ⟨some 21, .call { callee := .value (.func 59), args := #[.tmp 18, .tmp 20], argTypes := #[29, 3] }, _, _, _, none⟩) rfl (fun K' hK => ?_) (AllReadyH.nil))
  go_simp
  refine (HF.out _).mono ?_
  rintro e w4 ⟨rfl, l4⟩
  replace b2 := b2.keep l4
  replace b3 := b3.keep l4
  replace b5 := b5.keep l4
  replace l3 := Later.trans_ l3 l4
  replace hbk := hbk.keep l4
  refine hK.out _ _ ⟨b2.cell rfl, b3.cell rfl, b3.cell rfl⟩ (fun hHeld => ?_)
  clear hK K'
  try simp only [Act.put, List.setIfInBounds_toArray, List.set_cons_zero, List.set_cons_succ]
  refine wpAnyH_ready (rs := [8]) (by kernel_rfl) (by simp) (AllReadyH.cons (o := ⟨some 25, .call { callee := .builtin .copy, args := #[.tmp 21, .tmp 24], argTypes := #[50, 50] }, _, _, _, none⟩) rfl (fun K' hK => ?_) (AllReadyH.nil))
  refine wp_copy_row _ _ rfl Tryz.underlying50 u8_sz g a _ _ rfl ⟨B5, 0, none⟩ _ _ rfl (U x) HX.out.1 (HX2 _ b5) t (U b ++ junk) hbk HX.out.2.1 (U_one _) ?_
  intro w6 b6 o6
  replace b2 := b2.only o6 HNE.out.1
  replace b3 := b3.only o6 HNE.out.2
  refine hK.out _ _ ⟨b2.cell rfl, b3.cell rfl, b3.cell rfl⟩ (fun hHeld => ?_)
  clear hK K'
  try simp only [Act.put, List.setIfInBounds_toArray, List.set_cons_zero, List.set_cons_succ]
  refine wpAnyH_done (by kernel_rfl) ?_ _
  clear hHeld
  go_wp2
  go_ret
  exact ⟨rfl, HD.out.puts HL.out.1 HL.out.2 b6, (Lx.of l3).trans_ (Lx.only o6)⟩
set_option maxRecDepth 100000 in
theorem store_any (g n c : Nat) (a s v : Int) (b : Wm.Bs) (w : World) (hd : Draft w g n b) (hn : n ≤ 64) (ha : -9223372036854775808 ≤ a ∧ a ≤ 9223372036854775807) (hv0 : 0 ≤ v) (hv1 : v < 4294967296) :
    Calls Tryz.prog 57 #[.agg #[.slice (some ⟨g, 0, none⟩) n c], .agg #[.int .i64 a, .int .i64 s, .int .u32 v]] w fun e w' => e = .returned (.bool (decide (Mm.There (n * 128) a s))) ∧ Draft w' g n (Mm.st b a s v) ∧ Lx g w w' := by
  unfold Mm.st
  rw [hd.1]
  by_cases h : Mm.There (n * 128) a s
  · rw [if_pos h, decide_eq_true h]
    obtain ⟨a', rfl⟩ := Int.eq_ofNat_of_zero_le h.2.1
    obtain ⟨s', rfl⟩ := Int.eq_ofNat_of_zero_le (show 0 ≤ s by have := h.1; omega)
    exact store_there g n c a' s' v b w hd hn h hv0 hv1
  · rw [if_neg h, decide_eq_false h]
    exact (store_none g n c a s v w hn ha h).mono fun e w' ⟨h1, h2⟩ => ⟨h1, hd.keep h2, Lx.of h2⟩
end Go.Proofs.YtidhodalnikhlaaGreatDoor
