/-
  THE WALKS OF isa.word, formed, isRegister.
-/
import Derived.Test.YtbnlpkjjdijfmabDoorIsaA
import Derived.Laws.Bits64
import Derived.Laws.BitsLemmas
namespace Go.Proofs.YtbnlpkjjdijfmabDoor
open Go.RowKit Go.ChangeShapes Go.WideShapes Go.ChangeAt

/-- An instruction as a value, as cells. -/
def Im.I.cells (i : Im.I) : List Value := [.int .i64 i.op, .int .i64 i.a, .int .i64 i.b, .int .i64 i.c, .int .i64 i.imm]
theorem ins_one (i : Im.I) : ∀ v ∈ i.cells, v.oneCell' = true := by
  intro v hv
  unfold Im.I.cells at hv
  simp only [List.mem_cons, List.not_mem_nil, or_false] at hv
  rcases hv with rfl | rfl | rfl | rfl | rfl <;> rfl
theorem ins_len (i j : Im.I) : i.cells.length = j.cells.length := rfl
theorem ins_sz (i : Im.I) : (Tryd.prog.info? 23).map (·.size) = some i.cells.length := by
  show _ = some 5
  kernel_rfl
set_option maxRecDepth 100000 in
theorem isReg_any (r : Int) (w : World) : Calls Tryd.prog 35 #[.int .i64 r] w fun e w' => e = .returned (.bool (decide (Im.reg r))) ∧ w = w' := by
  rcases Int.lt_or_le r 0 with h0 | h0
  · rw [decide_eq_false (by unfold Im.reg; omega)]
    go_enter Tryd.func35, Tryd.ntmps35
    go_wp2
    go_ret
    exact ⟨rfl, rfl⟩
  · rcases Int.lt_or_le r 16 with h1 | h1
    · rw [decide_eq_true (by unfold Im.reg; omega)]
      go_enter Tryd.func35, Tryd.ntmps35
      go_wp2
      go_ret
      exact ⟨rfl, rfl⟩
    · rw [decide_eq_false (by unfold Im.reg; omega)]
      have h2 : ¬ r < 16 := by omega
      go_enter Tryd.func35, Tryd.ntmps35
      go_wp2
      go_ret
      exact ⟨rfl, rfl⟩

theorem or_add (k m y : Nat) (hy : y < 2 ^ k) (hx : m * 2 ^ k + y < 4294967296) : bits .or .u32 ((m * 2 ^ k : Nat) : Int) (y : Nat) = ((m * 2 ^ k + y : Nat) : Int) := by
  show IntKind.u32.wrap ((BitVec.ofInt 32 ((m * 2 ^ k : Nat) : Int) ||| BitVec.ofInt 32 ((y : Nat) : Int)).toNat : Int) = _
  rw [BitVec.ofInt_natCast, BitVec.ofInt_natCast, BitVec.toNat_or, BitVec.toNat_ofNat, BitVec.toNat_ofNat, Nat.mod_eq_of_lt (by omega), Nat.mod_eq_of_lt (by omega)]
  have h := Nat.shiftLeft_add_eq_or_of_lt hy m
  rw [Nat.shiftLeft_eq] at h
  rw [← h, IntKind.wrap_u32]
  omega
theorem and_mod (y : Nat) (hy : y < 4294967296) : bits .and .u32 (y : Int) 262143 = ((y % 262144 : Nat) : Int) := by
  show IntKind.u32.wrap ((BitVec.ofInt 32 (y : Int) &&& BitVec.ofInt 32 ((262143 : Nat) : Int)).toNat : Int) = _
  rw [BitVec.ofInt_natCast, BitVec.ofInt_natCast, BitVec.toNat_and, BitVec.toNat_ofNat, BitVec.toNat_ofNat, Nat.mod_eq_of_lt (by omega), Nat.mod_eq_of_lt (by omega)]
  have h := Nat.and_two_pow_sub_one_eq_mod y 18
  rw [show 2 ^ 18 - 1 = 262143 from rfl, show 2 ^ 18 = 262144 from rfl] at h
  rw [h, IntKind.wrap_u32]
  omega
theorem word_bits {op a b c imm : Int} (h1 : 0 ≤ op ∧ op < 64) (h2 : 0 ≤ a ∧ a < 16) (h3 : 0 ≤ b ∧ b < 16) (h4 : 0 ≤ c ∧ c < 16) (h5 : c = 0 ∨ imm = 0) :
    bits .or .u32 (bits .or .u32 (bits .or .u32 (bits .or .u32 (op % 4294967296 * 67108864 % 4294967296) (a % 4294967296 * 4194304 % 4294967296)) (b % 4294967296 * 262144 % 4294967296)) (c % 4294967296 * 16384 % 4294967296)) (bits .and .u32 (imm % 4294967296) 262143 % 4294967296) = Im.word ⟨op, a, b, c, imm⟩ := by
  obtain ⟨o, rfl⟩ := Int.eq_ofNat_of_zero_le h1.1
  obtain ⟨x, rfl⟩ := Int.eq_ofNat_of_zero_le h2.1
  obtain ⟨y, rfl⟩ := Int.eq_ofNat_of_zero_le h3.1
  obtain ⟨z, rfl⟩ := Int.eq_ofNat_of_zero_le h4.1
  obtain ⟨i, hi⟩ := Int.eq_ofNat_of_zero_le (show 0 ≤ imm % 4294967296 by omega)
  have e1 : ((o : Int) % 4294967296 * 67108864 % 4294967296) = ((o * 2 ^ 26 : Nat) : Int) := by rw [Int.natCast_mul]; omega
  have e2 : ((x : Int) % 4294967296 * 4194304 % 4294967296) = ((x * 4194304 : Nat) : Int) := by rw [Int.natCast_mul]; omega
  have e3 : ((y : Int) % 4294967296 * 262144 % 4294967296) = ((y * 262144 : Nat) : Int) := by rw [Int.natCast_mul]; omega
  have e4 : ((z : Int) % 4294967296 * 16384 % 4294967296) = ((z * 16384 : Nat) : Int) := by rw [Int.natCast_mul]; omega
  have e5 : bits .and .u32 (imm % 4294967296) 262143 % 4294967296 = ((i % 262144 : Nat) : Int) := by rw [hi, and_mod i (by omega)]; omega
  rw [e1, e2, e3, e4, e5]
  rw [or_add 26 o (x * 4194304) (by omega) (by omega)]
  rw [show o * 2 ^ 26 + x * 4194304 = (o * 16 + x) * 2 ^ 22 by omega, or_add 22 (o * 16 + x) (y * 262144) (by omega) (by omega)]
  rw [show (o * 16 + x) * 2 ^ 22 + y * 262144 = ((o * 16 + x) * 16 + y) * 2 ^ 18 by omega, or_add 18 ((o * 16 + x) * 16 + y) (z * 16384) (by omega) (by omega)]
  unfold Im.word
  rcases h5 with h5 | h5
  · obtain rfl : z = 0 := by omega
    rw [show ((o * 16 + x) * 16 + y) * 2 ^ 18 + 0 * 16384 = ((o * 16 + x) * 16 + y) * 2 ^ 18 by omega, or_add 18 ((o * 16 + x) * 16 + y) (i % 262144) (by omega) (by omega)]
    dsimp only
    omega
  · obtain rfl : i = 0 := by omega
    rw [show ((o * 16 + x) * 16 + y) * 2 ^ 18 + z * 16384 = ((((o * 16 + x) * 16 + y) * 16 + z) * 2 ^ 14) by omega, or_add 14 _ (0 % 262144) (by omega) (by omega)]
    dsimp only
    omega
set_option maxRecDepth 100000 in
theorem word_any (op a b c imm : Int) (w : World) (h1 : 0 ≤ op ∧ op < 64) (h2 : 0 ≤ a ∧ a < 16) (h3 : 0 ≤ b ∧ b < 16) (h4 : 0 ≤ c ∧ c < 16) (h5 : c = 0 ∨ imm = 0) :
    Calls Tryd.prog 33 #[.agg #[.int .i64 op, .int .i64 a, .int .i64 b, .int .i64 c, .int .i64 imm]] w fun e w' => e = .returned (.int .u32 (Im.word ⟨op, a, b, c, imm⟩)) ∧ Later w w' := by
  have hw := Lib.hid (word_bits (imm := imm) h1 h2 h3 h4 h5)
  clear h1 h2 h3 h4 h5
  go_enter Tryd.func33, Tryd.ntmps33
  go_wp2
  rw [hw.out]
  go_ret
  exact ⟨rfl, later1 _ _⟩

set_option maxRecDepth 100000 in
theorem ins_ret {w : World} {fn : Func} {p : Tmp} (h : fn.results = #[.cell p 23]) (tmps : Array Value) (g : Nat) (t : TypeId) (i : Im.I)
    (hp : tmps.getD p undef = .pointer (some ⟨g, 0, none⟩)) (hg : Blk w g t i.cells) : (results fn tmps).run Tryd.prog w = .ok (.agg i.cells.toArray) w :=
  results_blk h tmps w g t i.cells _ hp hg Tryd.underlying23 rfl (by kernel_rfl)
set_option maxRecDepth 100000 in
theorem formed_any (op a b c imm : Int) (w : World) (tab : Tab w) :
    Calls Tryd.prog 34 #[.agg #[.int .i64 op, .int .i64 a, .int .i64 b, .int .i64 c, .int .i64 imm]] w fun e w' => e = .returned (.agg (Im.formed ⟨op, a, b, c, imm⟩).cells.toArray) ∧ Later w w' := by
  have HF := Lib.hid (fun o o' => form_any op _ ((tab.keep (later1 w o)).keep (later1 _ o')))
  clear tab
  obtain ⟨F, hF⟩ : ∃ F, F = Im.formed ⟨op, a, b, c, imm⟩ := ⟨_, rfl⟩
  rw [← hF]
  unfold Im.formed at hF
  rcases Im.form_vals op with e | e | e | e | e | e
  all_goals
    rw [e] at HF
    simp [e] at hF
    have hG := Lib.hid hF
    clear hF
    go_enter Tryd.func34, Tryd.ntmps34
    go_wp2_with (first
      | (go_at_call 25; refine (HF.out _ _).mono ?_; rintro e w1 ⟨rfl, l1⟩; have b0 : Blk w1 w.heap.size 23 (Im.I.cells ⟨op, a, b, c, imm⟩) := ((Blk.new _ _ _ _ rfl).alloc _).keep l1; have b1 : Blk w1 (w.heap.size + 1) 23 (Im.I.cells ⟨0, 0, 0, 0, 0⟩) := (Blk.new' _ _ _ _ _ (by simp) rfl).keep l1; have c0 := b0.cell (j := 0) rfl; have c1 := b0.cell (j := 1) rfl; have c2 := b0.cell (j := 2) rfl; have c3 := b0.cell (j := 3) rfl; have c4 := b0.cell (j := 4) rfl; have z1 := Lib.hid b1; clear b0 b1)
      | ((with_reducible refine wpList_store_abs (o := ⟨none, .store 23 (.tmp 2) _, _, _, _, none⟩) rfl _ _ _ rfl (w.heap.size + 1) 23 (Im.I.cells ⟨0, 0, 0, 0, 0⟩) F.cells ?_ ?_ z1.out (ins_sz _) (ins_len _ _) (ins_one _) ?_); rfl; (rw [hG.out]; rfl); intro w5 y1 y2))
    exact bodyPost_ret (v := .agg F.cells.toArray) (ins_ret Tryd.results34 _ (w.heap.size + 1) _ F rfl y1) rfl ⟨rfl, Below.only (Later.trans_ ((later1 _ _).alloc (by simp) _) l1) y2 (by omega)⟩
end Go.Proofs.YtbnlpkjjdijfmabDoor
