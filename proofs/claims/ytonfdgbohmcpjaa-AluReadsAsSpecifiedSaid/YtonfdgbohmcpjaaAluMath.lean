/-
  PLAIN MATHEMATICS: what operations compute with words; of no program.
-/
import Derived.WalkKit
import Derived.WalkSpells
import Derived.Lib.Hide
namespace Go.Proofs.Ytonfdgbohmcpjaa
namespace Al

/-- A word as an integer. -/
def wI (x : BitVec 32) : Int := (x.toNat : Int)
theorem wI_nn (x : BitVec 32) : 0 ≤ wI x := Int.natCast_nonneg _
theorem wI_lt (x : BitVec 32) : wI x < 4294967296 := by have := x.isLt; unfold wI; omega
theorem wI_inj {x y : BitVec 32} : wI x = wI y ↔ x = y := by
  unfold wI
  constructor
  · intro h; exact BitVec.eq_of_toNat_eq (by omega)
  · rintro rfl; rfl
theorem wI_eq {x : BitVec 32} {n : Int} (h0 : 0 ≤ n) (h1 : n < 4294967296) (h : BitVec.ofInt 32 n = x) : n = wI x := by
  subst h
  unfold wI
  rw [BitVec.toNat_ofInt]
  rw [show ((2 ^ 32 : Nat) : Int) = 4294967296 from rfl, Int.emod_eq_of_lt h0 h1]
  omega
theorem of_wI (x : BitVec 32) : BitVec.ofInt 32 (wI x) = x := by
  unfold wI
  rw [BitVec.ofInt_natCast, BitVec.ofNat_toNat]
  simp
theorem wI_of {n : Int} (h0 : 0 ≤ n) (h1 : n < 4294967296) : wI (BitVec.ofInt 32 n) = n := (wI_eq h0 h1 rfl).symm
theorem is_wI {n : Int} (h0 : 0 ≤ n) (h1 : n < 4294967296) : ∃ x, n = wI x := ⟨_, (wI_of h0 h1).symm⟩

/-- The signed value of a word. -/
def sg (x : BitVec 32) : Int := if x.toNat < 2147483648 then wI x else wI x - 4294967296

/-- What an operation computes (0 if there is none). -/
def dob (op : Int) (x y : BitVec 32) : BitVec 32 :=
  if op = 1 then x + y else if op = 2 then x - y else if op = 8 then x * y
  else if op = 9 then (if y = 0 then 4294967295#32 else x / y)
  else if op = 10 then (if y = 0 then x else x % y)
  else if op = 3 then x &&& y else if op = 4 then x ||| y else if op = 5 then x ^^^ y
  else if op = 6 then x <<< (y.toNat % 32) else if op = 7 then x >>> (y.toNat % 32)
  else if op = 11 then (if sg x < sg y then 1#32 else 0#32)
  else if op = 12 then (if x.toNat < y.toNat then 1#32 else 0#32) else 0#32
/-- Whether there is such an operation. -/
def isop (op : Int) : Bool := decide (1 ≤ op ∧ op ≤ 12)
/-- Whether a branch is taken. -/
def tkb (op : Int) (x y : BitVec 32) : Bool :=
  if op = 28 then x == y else if op = 29 then x != y else if op = 30 then decide (sg x < sg y) else if op = 31 then decide (x.toNat < y.toNat) else false

/-- .. over integers. -/
def I (op b c : Int) : Int := wI (dob op (BitVec.ofInt 32 b) (BitVec.ofInt 32 c))
def T (op b c : Int) : Bool := tkb op (BitVec.ofInt 32 b) (BitVec.ofInt 32 c)
def S (b : Int) : Int := sg (BitVec.ofInt 32 b)
def Er (op : Int) : Int := if isop op then 0 else 1
theorem I_nn (op b c : Int) : 0 ≤ I op b c := wI_nn _
theorem I_lt (op b c : Int) : I op b c < 4294967296 := wI_lt _
theorem I_w (op : Int) (x y : BitVec 32) : I op (wI x) (wI y) = wI (dob op x y) := by unfold I; rw [of_wI, of_wI]
theorem T_w (op : Int) (x y : BitVec 32) : T op (wI x) (wI y) = tkb op x y := by unfold T; rw [of_wI, of_wI]
theorem S_w (x : BitVec 32) : S (wI x) = sg x := by unfold S; rw [of_wI]
theorem S_of {b : Int} (h0 : 0 ≤ b) (h1 : b < 4294967296) : S b = if b < 2147483648 then b else b - 4294967296 := by
  obtain ⟨x, rfl⟩ := is_wI h0 h1
  rw [S_w]
  unfold sg wI
  split <;> split <;> omega

theorem n32 {b : Int} (h0 : 0 ≤ b) (h1 : b < 4294967296) : ∃ n : Nat, b = n ∧ n < 4294967296 ∧ BitVec.ofInt 32 b = BitVec.ofNat 32 n ∧ (BitVec.ofInt 32 b).toNat = n := by
  obtain ⟨n, rfl⟩ := Int.eq_ofNat_of_zero_le h0
  refine ⟨n, rfl, by omega, BitVec.ofInt_natCast _ _, ?_⟩
  rw [BitVec.ofInt_natCast, BitVec.toNat_ofNat]
  exact Nat.mod_eq_of_lt (by omega)

section
variable {b c : Int} (hb0 : 0 ≤ b) (hb1 : b < 4294967296) (hc0 : 0 ≤ c) (hc1 : c < 4294967296)
include hb0 hb1 hc0 hc1
theorem I1 : I 1 b c = (b + c) % 4294967296 := by
  obtain ⟨n, rfl, hn, e1, t1⟩ := n32 hb0 hb1
  obtain ⟨m, rfl, hm, e2, t2⟩ := n32 hc0 hc1
  unfold I wI dob
  rw [if_pos rfl, BitVec.toNat_add, t1, t2]
  omega
theorem I2 : I 2 b c = (b - c) % 4294967296 := by
  obtain ⟨n, rfl, hn, e1, t1⟩ := n32 hb0 hb1
  obtain ⟨m, rfl, hm, e2, t2⟩ := n32 hc0 hc1
  unfold I wI dob
  rw [if_neg (by decide), if_pos rfl, BitVec.toNat_sub, t1, t2]
  omega
theorem I8 : I 8 b c = (b * c) % 4294967296 := by
  obtain ⟨n, rfl, hn, e1, t1⟩ := n32 hb0 hb1
  obtain ⟨m, rfl, hm, e2, t2⟩ := n32 hc0 hc1
  unfold I wI dob
  rw [if_neg (by decide), if_neg (by decide), if_pos rfl, BitVec.toNat_mul, t1, t2]
  rw [Int.natCast_emod, Int.natCast_mul]
  rfl
theorem I9 : I 9 b c = if c = 0 then 4294967295 else b / c := by
  obtain ⟨n, rfl, hn, e1, t1⟩ := n32 hb0 hb1
  obtain ⟨m, rfl, hm, e2, t2⟩ := n32 hc0 hc1
  unfold I wI dob
  rw [if_neg (by decide), if_neg (by decide), if_neg (by decide), if_pos rfl]
  by_cases h : m = 0
  · subst h; rfl
  · rw [if_neg (fun e => h (by have := congrArg BitVec.toNat e; rw [t2] at this; exact this)), if_neg (by omega), BitVec.toNat_udiv, t1, t2]
    rfl
theorem I10 : I 10 b c = if c = 0 then b else b % c := by
  obtain ⟨n, rfl, hn, e1, t1⟩ := n32 hb0 hb1
  obtain ⟨m, rfl, hm, e2, t2⟩ := n32 hc0 hc1
  unfold I wI dob
  rw [if_neg (by decide), if_neg (by decide), if_neg (by decide), if_neg (by decide), if_pos rfl]
  by_cases h : m = 0
  · subst h; rw [if_pos (show BitVec.ofInt 32 ((0 : Nat) : Int) = 0 from rfl), if_pos (show ((0 : Nat) : Int) = 0 from rfl), t1]
  · rw [if_neg (fun e => h (by have := congrArg BitVec.toNat e; rw [t2] at this; exact this)), if_neg (by omega), BitVec.toNat_umod, t1, t2]
    rfl
theorem I3 : I 3 b c = Go.bits .and .u32 b c := by
  obtain ⟨n, rfl, hn, e1, t1⟩ := n32 hb0 hb1
  obtain ⟨m, rfl, hm, e2, t2⟩ := n32 hc0 hc1
  have h := ((BitVec.ofInt 32 (n : Int)) &&& (BitVec.ofInt 32 (m : Int))).isLt
  show _ = IntKind.u32.wrap ((BitVec.ofInt 32 (n : Int) &&& BitVec.ofInt 32 (m : Int)).toNat : Int)
  rw [IntKind.wrap_u32]
  unfold I wI dob
  rw [if_neg (by decide), if_neg (by decide), if_neg (by decide), if_neg (by decide), if_neg (by decide), if_pos rfl]
  omega
theorem I4 : I 4 b c = Go.bits .or .u32 b c := by
  obtain ⟨n, rfl, hn, e1, t1⟩ := n32 hb0 hb1
  obtain ⟨m, rfl, hm, e2, t2⟩ := n32 hc0 hc1
  have h := ((BitVec.ofInt 32 (n : Int)) ||| (BitVec.ofInt 32 (m : Int))).isLt
  show _ = IntKind.u32.wrap ((BitVec.ofInt 32 (n : Int) ||| BitVec.ofInt 32 (m : Int)).toNat : Int)
  rw [IntKind.wrap_u32]
  unfold I wI dob
  rw [if_neg (by decide), if_neg (by decide), if_neg (by decide), if_neg (by decide), if_neg (by decide), if_neg (by decide), if_pos rfl]
  omega
theorem I5 : I 5 b c = Go.bits .xor .u32 b c := by
  obtain ⟨n, rfl, hn, e1, t1⟩ := n32 hb0 hb1
  obtain ⟨m, rfl, hm, e2, t2⟩ := n32 hc0 hc1
  have h := ((BitVec.ofInt 32 (n : Int)) ^^^ (BitVec.ofInt 32 (m : Int))).isLt
  show _ = IntKind.u32.wrap ((BitVec.ofInt 32 (n : Int) ^^^ BitVec.ofInt 32 (m : Int)).toNat : Int)
  rw [IntKind.wrap_u32]
  unfold I wI dob
  rw [if_neg (by decide), if_neg (by decide), if_neg (by decide), if_neg (by decide), if_neg (by decide), if_neg (by decide), if_neg (by decide), if_pos rfl]
  omega
theorem I6 : I 6 b c = (b * 2 ^ (c % 32).toNat) % 4294967296 := by
  obtain ⟨n, rfl, hn, e1, t1⟩ := n32 hb0 hb1
  obtain ⟨m, rfl, hm, e2, t2⟩ := n32 hc0 hc1
  unfold I wI dob
  rw [if_neg (by decide), if_neg (by decide), if_neg (by decide), if_neg (by decide), if_neg (by decide), if_neg (by decide), if_neg (by decide), if_neg (by decide), if_pos rfl]
  rw [BitVec.toNat_shiftLeft, t1, t2, Nat.shiftLeft_eq, show (((m : Int) % 32).toNat) = m % 32 by omega, Int.natCast_emod, Int.natCast_mul, Int.natCast_pow]
  rfl
theorem I7 : I 7 b c = b / 2 ^ (c % 32).toNat := by
  obtain ⟨n, rfl, hn, e1, t1⟩ := n32 hb0 hb1
  obtain ⟨m, rfl, hm, e2, t2⟩ := n32 hc0 hc1
  unfold I wI dob
  rw [if_neg (by decide), if_neg (by decide), if_neg (by decide), if_neg (by decide), if_neg (by decide), if_neg (by decide), if_neg (by decide), if_neg (by decide), if_neg (by decide), if_pos rfl]
  rw [BitVec.toNat_ushiftRight, t1, t2, Nat.shiftRight_eq_div_pow, show (((m : Int) % 32).toNat) = m % 32 by omega, Int.natCast_ediv, Int.natCast_pow]
  rfl
end
theorem I11 (b c : Int) : I 11 b c = if S b < S c then 1 else 0 := by
  unfold I dob
  rw [if_neg (by decide), if_neg (by decide), if_neg (by decide), if_neg (by decide), if_neg (by decide), if_neg (by decide), if_neg (by decide), if_neg (by decide), if_neg (by decide), if_neg (by decide), if_pos rfl]
  unfold S
  split <;> rfl
theorem I12 {b c : Int} (hb0 : 0 ≤ b) (hb1 : b < 4294967296) (hc0 : 0 ≤ c) (hc1 : c < 4294967296) : I 12 b c = if b < c then 1 else 0 := by
  obtain ⟨n, rfl, hn, e1, t1⟩ := n32 hb0 hb1
  obtain ⟨m, rfl, hm, e2, t2⟩ := n32 hc0 hc1
  unfold I dob
  rw [if_neg (by decide), if_neg (by decide), if_neg (by decide), if_neg (by decide), if_neg (by decide), if_neg (by decide), if_neg (by decide), if_neg (by decide), if_neg (by decide), if_neg (by decide), if_neg (by decide), if_pos rfl, t1, t2]
  by_cases h : n < m
  · rw [if_pos h, if_pos (by omega)]; rfl
  · rw [if_neg h, if_neg (by omega)]; rfl
theorem I_none {op : Int} (h : ¬ (1 ≤ op ∧ op ≤ 12)) (b c : Int) : I op b c = 0 := by
  unfold I dob
  rw [if_neg (by omega), if_neg (by omega), if_neg (by omega), if_neg (by omega), if_neg (by omega), if_neg (by omega), if_neg (by omega), if_neg (by omega), if_neg (by omega), if_neg (by omega), if_neg (by omega), if_neg (by omega)]
  rfl
theorem Er_none {op : Int} (h : ¬ (1 ≤ op ∧ op ≤ 12)) : Er op = 1 := by unfold Er isop; rw [decide_eq_false h]; rfl
theorem T28 {b c : Int} (hb0 : 0 ≤ b) (hb1 : b < 4294967296) (hc0 : 0 ≤ c) (hc1 : c < 4294967296) : T 28 b c = decide (b = c) := by
  obtain ⟨x, rfl⟩ := is_wI hb0 hb1
  obtain ⟨y, rfl⟩ := is_wI hc0 hc1
  rw [T_w]
  show (x == y) = _
  by_cases h : x = y
  · rw [decide_eq_true (wI_inj.2 h)]; exact beq_iff_eq.2 h
  · rw [decide_eq_false (fun e => h (wI_inj.1 e))]; exact beq_false_of_ne h
theorem T29 {b c : Int} (hb0 : 0 ≤ b) (hb1 : b < 4294967296) (hc0 : 0 ≤ c) (hc1 : c < 4294967296) : T 29 b c = !decide (b = c) := by
  rw [← T28 hb0 hb1 hc0 hc1]; rfl
theorem T30 (b c : Int) : T 30 b c = decide (S b < S c) := rfl
theorem T31 {b c : Int} (hb0 : 0 ≤ b) (hb1 : b < 4294967296) (hc0 : 0 ≤ c) (hc1 : c < 4294967296) : T 31 b c = decide (b < c) := by
  obtain ⟨x, rfl⟩ := is_wI hb0 hb1
  obtain ⟨y, rfl⟩ := is_wI hc0 hc1
  rw [T_w]
  show decide (x.toNat < y.toNat) = _
  unfold wI
  by_cases h : x.toNat < y.toNat
  · rw [decide_eq_true h, decide_eq_true (by omega)]
  · rw [decide_eq_false h, decide_eq_false (by omega)]
theorem T_none {op : Int} (h : ¬ (28 ≤ op ∧ op ≤ 31)) (b c : Int) : T op b c = false := by
  unfold T tkb
  rw [if_neg (by omega), if_neg (by omega), if_neg (by omega), if_neg (by omega)]
end Al
end Go.Proofs.Ytonfdgbohmcpjaa
