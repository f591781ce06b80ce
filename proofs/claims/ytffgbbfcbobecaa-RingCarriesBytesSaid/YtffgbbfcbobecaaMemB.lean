/-
  THE WALKS OF from, number, bytesOf; and of the reference's Byte.
-/
import Derived.Test.YtffgbbfcbobecaaMemA
namespace Go.Proofs.Ytffgbbfcbobecaa
open Go.RowKit Go.ChangeShapes Go.WideShapes Go.ChangeAt

theorem run_index_agg {P : Program} (w : World) (t e : TypeId) (n : Nat) (cs : Array Value) (k kk : IntKind) (i : Int) (h : P.underlying t = some (.array n e)) (he : P.underlying e = some (.int kk)) (hi : (P.info? e).map (·.size) = some 1)
    (h0 : 0 ≤ i) (h1 : i < (n : Int)) (v : Value) (hv : cs[i.toNat]? = some v) : (Instr.index t (.agg cs) (.int k i)).run P w = .ok v w := by
  cases hq : P.info? e with
  | none => simp [hq] at hi
  | some inf =>
    have hs : inf.size = 1 := by simpa [hq] using hi
    have hagg : (isAgg e).run P w = .ok false w := by
      unfold isAgg
      rw [Sem.run_bind, run_underlying he w]
      rfl
    simp [Instr.index, run_underlying h, asIntOf, h0, h1, sizeOf, typeInfo, hq, hs, part, Sem.run_bind, hagg, hv]
theorem or_add (k m y : Nat) (hy : y < 2 ^ k) (hx : m * 2 ^ k + y < 4294967296) : bits .or .u32 ((m * 2 ^ k : Nat) : Int) (y : Nat) = ((m * 2 ^ k + y : Nat) : Int) := by
  show IntKind.u32.wrap ((BitVec.ofInt 32 ((m * 2 ^ k : Nat) : Int) ||| BitVec.ofInt 32 ((y : Nat) : Int)).toNat : Int) = _
  rw [BitVec.ofInt_natCast, BitVec.ofInt_natCast, BitVec.toNat_or, BitVec.toNat_ofNat, BitVec.toNat_ofNat, Nat.mod_eq_of_lt (by omega), Nat.mod_eq_of_lt (by omega)]
  have h := Nat.shiftLeft_add_eq_or_of_lt hy m
  rw [Nat.shiftLeft_eq] at h
  rw [← h, IntKind.wrap_u32]
  omega
theorem or_comm32 (a b : Int) : bits .or .u32 a b = bits .or .u32 b a := by
  show IntKind.u32.wrap ((BitVec.ofInt 32 a ||| BitVec.ofInt 32 b).toNat : Int) = IntKind.u32.wrap ((BitVec.ofInt 32 b ||| BitVec.ofInt 32 a).toNat : Int)
  rw [BitVec.or_comm]
theorem or_hi (k : Nat) (M : Int) (hM : M = ((2 ^ k : Nat) : Int)) {n y : Int} (hn0 : 0 ≤ n) (hn : n < M) (hy : 0 ≤ y) (hx : y * M + n < 4294967296) : bits .or .u32 n (y * M) = n + y * M := by
  obtain ⟨a, rfl⟩ := Int.eq_ofNat_of_zero_le hn0
  obtain ⟨b, rfl⟩ := Int.eq_ofNat_of_zero_le hy
  subst hM
  have h := or_add k b a (by omega) (by omega)
  rw [or_comm32]
  rw [Int.natCast_mul] at h
  rw [h]
  omega
theorem or_zero {x : Int} (h : 0 ≤ x ∧ x < 256) : bits .or .u32 0 x = x := by
  have := or_hi 0 1 rfl (n := 0) (y := x) (by omega) (by omega) (by omega) (by omega)
  rw [Int.mul_one] at this
  rw [this]; omega

set_option maxRecDepth 100000 in
set_option maxHeartbeats 1000000 in
theorem from_any (ad : Addr) (n c a : Nat) (w : World) (hn : n ≤ 64) (ha : a < n * 128) :
    Calls Try.prog 61 #[.agg #[.slice (some ad) n c], .int .i64 (a : Int)] w fun e w' => e = .returned (.slice (some (ad.add a)) (128 - a % 128) (128 - a % 128)) ∧ Later w w' := by
  have t1 : ((a : Int).tdiv 128) = ((a / 128 : Nat) : Int) := by rw [Int.tdiv_eq_ediv_of_nonneg (by omega)]; rfl
  have t2 : ((a : Int).tmod 128) = ((a % 128 : Nat) : Int) := by rw [Int.tmod_eq_emod_of_nonneg (by omega)]; rfl
  have b1 : (a : Int) / 128 < (n : Int) := by omega
  have b2 : (a : Int) % 128 < 128 := by omega
  have b5 : (a : Int) % 128 ≤ 128 := by omega
  have b6 : ¬ 128 = a % 128 := by omega
  have b3 : (0 : Int) ≤ (a : Int) / 128 := by omega
  have b4 : (0 : Int) ≤ (a : Int) % 128 := by omega
  go_enter Try.func61, Try.ntmps61
  go_wp2
  go_ret
  refine ⟨?_, later1 _ _⟩
  show Ending.returned (.slice (some ((ad.add (a / 128 * 128)).add (a % 128))) _ _) = _
  rw [addr_add_add, show a / 128 * 128 + a % 128 = a by omega]
theorem number_any (x0 x1 x2 x3 : Int) (w : World) (h0 : 0 ≤ x0 ∧ x0 < 256) (h1 : 0 ≤ x1 ∧ x1 < 256) (h2 : 0 ≤ x2 ∧ x2 < 256) (h3 : 0 ≤ x3 ∧ x3 < 256) :
    Calls Try.prog 77 #[.agg #[.int .u8 x0, .int .u8 x1, .int .u8 x2, .int .u8 x3]] w fun e w' => e = .returned (.int .u32 (x0 + x1 * 256 + x2 * 65536 + x3 * 16777216)) ∧ Later w w' := by
  have hidx := fun (k : Int) (v : Value) (h0 : 0 ≤ k) (h1 : k < 4) hv (w : World) => run_index_agg (P := Try.prog) w 134 5 4 #[.int .u8 x0, .int .u8 x1, .int .u8 x2, .int .u8 x3] .i64 .u8 k Try.underlying134 Try.underlying5 (by kernel_rfl) h0 h1 v hv
  have i0 := hidx 0 (.int .u8 x0) (by omega) (by omega) rfl
  have i1 := hidx 1 (.int .u8 x1) (by omega) (by omega) rfl
  have i2 := hidx 2 (.int .u8 x2) (by omega) (by omega) rfl
  have i3 := hidx 3 (.int .u8 x3) (by omega) (by omega) rfl
  clear hidx
  go_enter Try.func77, Try.ntmps77
  go_wp2
  go_loopw [7, 3] (fun i v wr => ∃ k : Nat, k ≤ 4 ∧ i = .int .i64 k ∧ v = .int .u32 (match k with | 0 => 0 | 1 => x0 | 2 => x0 + x1 * 256 | 3 => x0 + x1 * 256 + x2 * 65536 | _ => x0 + x1 * 256 + x2 * 65536 + x3 * 16777216) ∧ wr = w.alloc (.cells #[.int .u8 x0, .int .u8 x1, .int .u8 x2, .int .u8 x3] 134)) (fun i _ _ => 4 - (intOf i).toNat)
  case atStart => exact ⟨0, by omega, rfl, rfl, rfl⟩
  case round =>
    obtain ⟨k, hk, rfl, rfl, rfl⟩ := hrel
    rcases (show k = 0 ∨ k = 1 ∨ k = 2 ∨ k = 3 ∨ k = 4 by omega) with rfl | rfl | rfl | rfl | rfl
    · simp only [Int.natCast_zero]
      go_wp2
      go_roundw
      case rel => exact ⟨1, by omega, by go_num, congrArg (Value.int .u32) (or_zero (by omega)), trivial⟩
      case measure => simp [intOf]
    · simp only [show ((1 : Nat) : Int) = 1 from rfl]
      go_wp2
      go_roundw
      case rel => exact ⟨2, by omega, by go_num, congrArg (Value.int .u32) (or_hi 8 256 rfl (by omega) (by omega) (by omega) (by omega)), trivial⟩
      case measure => simp [intOf]
    · simp only [show ((2 : Nat) : Int) = 2 from rfl]
      go_wp2
      go_roundw
      case rel => exact ⟨3, by omega, by go_num, congrArg (Value.int .u32) (or_hi 16 65536 rfl (by omega) (by omega) (by omega) (by omega)), trivial⟩
      case measure => simp [intOf]
    · simp only [show ((3 : Nat) : Int) = 3 from rfl]
      go_wp2
      go_roundw
      case rel => exact ⟨4, by omega, by go_num, congrArg (Value.int .u32) (or_hi 24 16777216 rfl (by omega) (by omega) (by omega) (by omega)), trivial⟩
      case measure => simp [intOf]
    · simp only [show ((4 : Nat) : Int) = 4 from rfl]
      go_wp2
      go_ret
      exact ⟨rfl, later1 _ _⟩

theorem el4 (v : Int) : Mm.el 4 v = [v % 256, v / 256 % 256, v / 65536 % 256, v / 16777216 % 256] := by
  show [v % 256, v / 256 % 256, v / 256 / 256 % 256, v / 256 / 256 / 256 % 256] = _
  rw [show v / 65536 = v / 256 / 256 by omega, show v / 16777216 = v / 256 / 256 / 256 by omega]
theorem el1 (v : Int) : Mm.el 1 v = [v % 256] := rfl
/-- The bytes of a number so far. -/
def Pa (v : Int) : Nat → Wm.Bs
  | 0 => [0, 0, 0, 0] | 1 => [v % 256, 0, 0, 0] | 2 => [v % 256, v / 256 % 256, 0, 0] | 3 => [v % 256, v / 256 % 256, v / 65536 % 256, 0] | _ => [v % 256, v / 256 % 256, v / 65536 % 256, v / 16777216]
theorem word_sz (x : Wm.Bs) (h : x.length = 4) : (Try.prog.info? 134).map (·.size) = some (U x).length := by rw [U_length, h]; kernel_rfl
theorem word_z {x : Wm.Bs} (h : x.length = 4) : (U [0, 0, 0, 0]).length = (U x).length := by rw [U_length, U_length, h]; rfl
set_option maxRecDepth 100000 in
set_option maxHeartbeats 1000000 in
theorem bytesOf_any (v : Int) (w : World) (h0 : 0 ≤ v) (h1 : v < 4294967296) :
    Calls Try.prog 89 #[.int .u32 v] w fun e w' => e = .returned (.agg (U (Mm.el 4 v)).toArray) ∧ Later w w' := by
  obtain ⟨X, hX⟩ : ∃ X, X = Mm.el 4 v := ⟨_, rfl⟩
  rw [← hX]
  have HX := Lib.hid (show Pa v 4 = X ∧ X.length = 4 by rw [hX, el4]; exact ⟨by show [v % 256, v / 256 % 256, v / 65536 % 256, v / 16777216] = _; rw [show v / 16777216 % 256 = v / 16777216 by omega], rfl⟩)
  clear hX
  go_enter Try.func89, Try.ntmps89
  go_wp2
  go_loopw [5] (fun i wr => ∃ k : Nat, k ≤ 4 ∧ i = .int .i64 k ∧ Blk wr w.heap.size 134 (U [0, 0, 0, 0]) ∧ Blk wr (w.heap.size + 1) 134 (U (Pa v k)) ∧ Later w wr) (fun i _ => 4 - (intOf i).toNat)
  case atStart => exact ⟨0, by omega, rfl, (Blk.new w _ _ _ rfl).alloc _, Blk.new' _ _ _ _ _ (by simp) rfl, ((later1 _ _).alloc (by simp) _)⟩
  case round =>
    rename_i wr
    obtain ⟨k, hk, rfl, g1, g2, g3⟩ := hrel
    rcases (show k = 0 ∨ k = 1 ∨ k = 2 ∨ k = 3 ∨ k = 4 by omega) with rfl | rfl | rfl | rfl | rfl
    · simp only [show ((0 : Nat) : Int) = 0 from rfl]
      have c := g2.cell (j := 0) (v := .int .u8 0) rfl
      have fz := g2.frz 0
      go_wp2
      go_roundw
      case rel => exact ⟨1, by omega, by go_num, g1.set_other _ _ (by simp), g2.set 0 _, g3.setCell (by simp) _⟩
      case measure => simp [intOf]
    · simp only [show ((1 : Nat) : Int) = 1 from rfl]
      have c := g2.cell (j := 1) (v := .int .u8 0) rfl
      have fz := g2.frz 1
      go_wp2
      go_roundw
      case rel => exact ⟨2, by omega, by go_num, g1.set_other _ _ (by simp), g2.set 1 _, g3.setCell (by simp) _⟩
      case measure => simp [intOf]
    · simp only [show ((2 : Nat) : Int) = 2 from rfl]
      have c := g2.cell (j := 2) (v := .int .u8 0) rfl
      have fz := g2.frz 2
      go_wp2
      go_roundw
      case rel => exact ⟨3, by omega, by go_num, g1.set_other _ _ (by simp), g2.set 2 _, g3.setCell (by simp) _⟩
      case measure => simp [intOf]
    · simp only [show ((3 : Nat) : Int) = 3 from rfl]
      have c := g2.cell (j := 3) (v := .int .u8 0) rfl
      have fz := g2.frz 3
      go_wp2
      go_roundw
      case rel => exact ⟨4, by omega, by go_num, g1.set_other _ _ (by simp), g2.set 3 _, g3.setCell (by simp) _⟩
      case measure => simp [intOf]
    · simp only [show ((4 : Nat) : Int) = 4 from rfl]
      rw [HX.out.1] at g2
      go_wp2_with (first
        | ((with_reducible refine wpList_load_blk (o := ⟨some 16, .load 134 (.tmp 3), _, _, _, none⟩) rfl _ _ rfl (w.heap.size + 1) 134 (U X) _ rfl g2 Try.underlying134 rfl (word_sz X HX.out.2) ?_))
        | ((with_reducible refine wpList_store_abs (o := ⟨none, .store 134 (.tmp 2) (.tmp 16), _, _, _, none⟩) rfl _ _ _ rfl w.heap.size 134 (U [0, 0, 0, 0]) (U X) ?_ ?_ g1 (word_sz X HX.out.2) (word_z HX.out.2) (U_one _) ?_); rfl; rfl; intro w2 h2 o2))
      exact bodyPost_ret (results_blk Try.results89 _ _ w.heap.size 134 (U X) _ rfl h2 Try.underlying134 rfl (word_sz X HX.out.2)) rfl ⟨rfl, Below.only g3 o2 (Nat.le_refl _)⟩
end Go.Proofs.Ytffgbbfcbobecaa
