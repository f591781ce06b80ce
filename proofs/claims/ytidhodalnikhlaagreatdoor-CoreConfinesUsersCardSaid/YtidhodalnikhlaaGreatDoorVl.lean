/-
  PLAIN MATHEMATICS: what operations compute with words; of no program.
-/
import Derived.Test.YtidhodalnikhlaaGreatDoorVe
import Derived.WalkKit
import Derived.WalkSpells
import Derived.Lib.Hide
import Derived.Maps.Own
import Derived.WalkLawsBesides
import Derived.Deep.Draws
import Derived.ProofKit
import Derived.OpenShut
import Derived.Deep.Slices
import Derived.Laws.Bits64
import Derived.Laws.BitsLemmas
namespace Go.Proofs.YtidhodalnikhlaaGreatDoor
namespace Al

set_option maxRecDepth 100000 in
/-- A word as an integer. -/
def wI (x : BitVec 32) : Int := (x.toNat : Int)
set_option maxRecDepth 100000 in
theorem wI_inj {x y : BitVec 32} : wI x = wI y ↔ x = y := by
  unfold wI
  constructor
  · intro h; exact BitVec.eq_of_toNat_eq (by omega)
  · rintro rfl; rfl
set_option maxRecDepth 100000 in
theorem wI_eq {x : BitVec 32} {n : Int} (h0 : 0 ≤ n) (h1 : n < 4294967296) (h : BitVec.ofInt 32 n = x) : n = wI x := by
  subst h
  unfold wI
  rw [BitVec.toNat_ofInt]
  rw [show ((2 ^ 32 : Nat) : Int) = 4294967296 from rfl, Int.emod_eq_of_lt h0 h1]
  omega
set_option maxRecDepth 100000 in
theorem of_wI (x : BitVec 32) : BitVec.ofInt 32 (wI x) = x := by
  unfold wI
  rw [BitVec.ofInt_natCast, BitVec.ofNat_toNat]
  simp
set_option maxRecDepth 100000 in
theorem wI_of {n : Int} (h0 : 0 ≤ n) (h1 : n < 4294967296) : wI (BitVec.ofInt 32 n) = n := (wI_eq h0 h1 rfl).symm
set_option maxRecDepth 100000 in
theorem is_wI {n : Int} (h0 : 0 ≤ n) (h1 : n < 4294967296) : ∃ x, n = wI x := ⟨_, (wI_of h0 h1).symm⟩

set_option maxRecDepth 100000 in
/-- The signed value of a word. -/
def sg (x : BitVec 32) : Int := if x.toNat < 2147483648 then wI x else wI x - 4294967296

set_option maxRecDepth 100000 in
/-- What an operation computes (0 if there is none). -/
def dob (op : Int) (x y : BitVec 32) : BitVec 32 :=
  if op = 1 then x + y else if op = 2 then x - y else if op = 8 then x * y
  else if op = 9 then (if y = 0 then 4294967295#32 else x / y)
  else if op = 10 then (if y = 0 then x else x % y)
  else if op = 3 then x &&& y else if op = 4 then x ||| y else if op = 5 then x ^^^ y
  else if op = 6 then x <<< (y.toNat % 32) else if op = 7 then x >>> (y.toNat % 32)
  else if op = 11 then (if sg x < sg y then 1#32 else 0#32)
  else if op = 12 then (if x.toNat < y.toNat then 1#32 else 0#32) else 0#32
set_option maxRecDepth 100000 in
/-- Whether there is such an operation. -/
def isop (op : Int) : Bool := decide (1 ≤ op ∧ op ≤ 12)
set_option maxRecDepth 100000 in
/-- Whether a branch is taken. -/
def tkb (op : Int) (x y : BitVec 32) : Bool :=
  if op = 28 then x == y else if op = 29 then x != y else if op = 30 then decide (sg x < sg y) else if op = 31 then decide (x.toNat < y.toNat) else false

set_option maxRecDepth 100000 in
/-- .. over integers. -/
def I (op b c : Int) : Int := wI (dob op (BitVec.ofInt 32 b) (BitVec.ofInt 32 c))
set_option maxRecDepth 100000 in
def T (op b c : Int) : Bool := tkb op (BitVec.ofInt 32 b) (BitVec.ofInt 32 c)
set_option maxRecDepth 100000 in
def S (b : Int) : Int := sg (BitVec.ofInt 32 b)
set_option maxRecDepth 100000 in
def Er (op : Int) : Int := if isop op then 0 else 1
set_option maxRecDepth 100000 in
theorem T_w (op : Int) (x y : BitVec 32) : T op (wI x) (wI y) = tkb op x y := by unfold T; rw [of_wI, of_wI]
set_option maxRecDepth 100000 in
theorem S_w (x : BitVec 32) : S (wI x) = sg x := by unfold S; rw [of_wI]
set_option maxRecDepth 100000 in
theorem S_of {b : Int} (h0 : 0 ≤ b) (h1 : b < 4294967296) : S b = if b < 2147483648 then b else b - 4294967296 := by
  obtain ⟨x, rfl⟩ := is_wI h0 h1
  rw [S_w]
  unfold sg wI
  split <;> split <;> omega

set_option maxRecDepth 100000 in
theorem n32 {b : Int} (h0 : 0 ≤ b) (h1 : b < 4294967296) : ∃ n : Nat, b = n ∧ n < 4294967296 ∧ BitVec.ofInt 32 b = BitVec.ofNat 32 n ∧ (BitVec.ofInt 32 b).toNat = n := by
  obtain ⟨n, rfl⟩ := Int.eq_ofNat_of_zero_le h0
  refine ⟨n, rfl, by omega, BitVec.ofInt_natCast _ _, ?_⟩
  rw [BitVec.ofInt_natCast, BitVec.toNat_ofNat]
  exact Nat.mod_eq_of_lt (by omega)

section
variable {b c : Int} (hb0 : 0 ≤ b) (hb1 : b < 4294967296) (hc0 : 0 ≤ c) (hc1 : c < 4294967296)
include hb0 hb1 hc0 hc1
set_option maxRecDepth 100000 in
theorem I1 : I 1 b c = (b + c) % 4294967296 := by
  obtain ⟨n, rfl, hn, e1, t1⟩ := n32 hb0 hb1
  obtain ⟨m, rfl, hm, e2, t2⟩ := n32 hc0 hc1
  unfold I wI dob
  rw [if_pos rfl, BitVec.toNat_add, t1, t2]
  omega
set_option maxRecDepth 100000 in
theorem I2 : I 2 b c = (b - c) % 4294967296 := by
  obtain ⟨n, rfl, hn, e1, t1⟩ := n32 hb0 hb1
  obtain ⟨m, rfl, hm, e2, t2⟩ := n32 hc0 hc1
  unfold I wI dob
  rw [if_neg (by decide), if_pos rfl, BitVec.toNat_sub, t1, t2]
  omega
set_option maxRecDepth 100000 in
theorem I8 : I 8 b c = (b * c) % 4294967296 := by
  obtain ⟨n, rfl, hn, e1, t1⟩ := n32 hb0 hb1
  obtain ⟨m, rfl, hm, e2, t2⟩ := n32 hc0 hc1
  unfold I wI dob
  rw [if_neg (by decide), if_neg (by decide), if_pos rfl, BitVec.toNat_mul, t1, t2]
  rw [Int.natCast_emod, Int.natCast_mul]
  rfl
set_option maxRecDepth 100000 in
theorem I9 : I 9 b c = if c = 0 then 4294967295 else b / c := by
  obtain ⟨n, rfl, hn, e1, t1⟩ := n32 hb0 hb1
  obtain ⟨m, rfl, hm, e2, t2⟩ := n32 hc0 hc1
  unfold I wI dob
  rw [if_neg (by decide), if_neg (by decide), if_neg (by decide), if_pos rfl]
  by_cases h : m = 0
  · subst h; rfl
  · rw [if_neg (fun e => h (by have := congrArg BitVec.toNat e; rw [t2] at this; exact this)), if_neg (by omega), BitVec.toNat_udiv, t1, t2]
    rfl
set_option maxRecDepth 100000 in
theorem I10 : I 10 b c = if c = 0 then b else b % c := by
  obtain ⟨n, rfl, hn, e1, t1⟩ := n32 hb0 hb1
  obtain ⟨m, rfl, hm, e2, t2⟩ := n32 hc0 hc1
  unfold I wI dob
  rw [if_neg (by decide), if_neg (by decide), if_neg (by decide), if_neg (by decide), if_pos rfl]
  by_cases h : m = 0
  · subst h; rw [if_pos (show BitVec.ofInt 32 ((0 : Nat) : Int) = 0 from rfl), if_pos (show ((0 : Nat) : Int) = 0 from rfl), t1]
  · rw [if_neg (fun e => h (by have := congrArg BitVec.toNat e; rw [t2] at this; exact this)), if_neg (by omega), BitVec.toNat_umod, t1, t2]
    rfl
set_option maxRecDepth 100000 in
theorem I3 : I 3 b c = Go.bits .and .u32 b c := by
  obtain ⟨n, rfl, hn, e1, t1⟩ := n32 hb0 hb1
  obtain ⟨m, rfl, hm, e2, t2⟩ := n32 hc0 hc1
  have h := ((BitVec.ofInt 32 (n : Int)) &&& (BitVec.ofInt 32 (m : Int))).isLt
  show _ = IntKind.u32.wrap ((BitVec.ofInt 32 (n : Int) &&& BitVec.ofInt 32 (m : Int)).toNat : Int)
  rw [IntKind.wrap_u32]
  unfold I wI dob
  rw [if_neg (by decide), if_neg (by decide), if_neg (by decide), if_neg (by decide), if_neg (by decide), if_pos rfl]
  omega
set_option maxRecDepth 100000 in
theorem I4 : I 4 b c = Go.bits .or .u32 b c := by
  obtain ⟨n, rfl, hn, e1, t1⟩ := n32 hb0 hb1
  obtain ⟨m, rfl, hm, e2, t2⟩ := n32 hc0 hc1
  have h := ((BitVec.ofInt 32 (n : Int)) ||| (BitVec.ofInt 32 (m : Int))).isLt
  show _ = IntKind.u32.wrap ((BitVec.ofInt 32 (n : Int) ||| BitVec.ofInt 32 (m : Int)).toNat : Int)
  rw [IntKind.wrap_u32]
  unfold I wI dob
  rw [if_neg (by decide), if_neg (by decide), if_neg (by decide), if_neg (by decide), if_neg (by decide), if_neg (by decide), if_pos rfl]
  omega
set_option maxRecDepth 100000 in
theorem I5 : I 5 b c = Go.bits .xor .u32 b c := by
  obtain ⟨n, rfl, hn, e1, t1⟩ := n32 hb0 hb1
  obtain ⟨m, rfl, hm, e2, t2⟩ := n32 hc0 hc1
  have h := ((BitVec.ofInt 32 (n : Int)) ^^^ (BitVec.ofInt 32 (m : Int))).isLt
  show _ = IntKind.u32.wrap ((BitVec.ofInt 32 (n : Int) ^^^ BitVec.ofInt 32 (m : Int)).toNat : Int)
  rw [IntKind.wrap_u32]
  unfold I wI dob
  rw [if_neg (by decide), if_neg (by decide), if_neg (by decide), if_neg (by decide), if_neg (by decide), if_neg (by decide), if_neg (by decide), if_pos rfl]
  omega
set_option maxRecDepth 100000 in
theorem I6 : I 6 b c = (b * 2 ^ (c % 32).toNat) % 4294967296 := by
  obtain ⟨n, rfl, hn, e1, t1⟩ := n32 hb0 hb1
  obtain ⟨m, rfl, hm, e2, t2⟩ := n32 hc0 hc1
  unfold I wI dob
  rw [if_neg (by decide), if_neg (by decide), if_neg (by decide), if_neg (by decide), if_neg (by decide), if_neg (by decide), if_neg (by decide), if_neg (by decide), if_pos rfl]
  rw [BitVec.toNat_shiftLeft, t1, t2, Nat.shiftLeft_eq, show (((m : Int) % 32).toNat) = m % 32 by omega, Int.natCast_emod, Int.natCast_mul, Int.natCast_pow]
  rfl
set_option maxRecDepth 100000 in
theorem I7 : I 7 b c = b / 2 ^ (c % 32).toNat := by
  obtain ⟨n, rfl, hn, e1, t1⟩ := n32 hb0 hb1
  obtain ⟨m, rfl, hm, e2, t2⟩ := n32 hc0 hc1
  unfold I wI dob
  rw [if_neg (by decide), if_neg (by decide), if_neg (by decide), if_neg (by decide), if_neg (by decide), if_neg (by decide), if_neg (by decide), if_neg (by decide), if_neg (by decide), if_pos rfl]
  rw [BitVec.toNat_ushiftRight, t1, t2, Nat.shiftRight_eq_div_pow, show (((m : Int) % 32).toNat) = m % 32 by omega, Int.natCast_ediv, Int.natCast_pow]
  rfl
end
set_option maxRecDepth 100000 in
theorem I11 (b c : Int) : I 11 b c = if S b < S c then 1 else 0 := by
  unfold I dob
  rw [if_neg (by decide), if_neg (by decide), if_neg (by decide), if_neg (by decide), if_neg (by decide), if_neg (by decide), if_neg (by decide), if_neg (by decide), if_neg (by decide), if_neg (by decide), if_pos rfl]
  unfold S
  split <;> rfl
set_option maxRecDepth 100000 in
theorem I12 {b c : Int} (hb0 : 0 ≤ b) (hb1 : b < 4294967296) (hc0 : 0 ≤ c) (hc1 : c < 4294967296) : I 12 b c = if b < c then 1 else 0 := by
  obtain ⟨n, rfl, hn, e1, t1⟩ := n32 hb0 hb1
  obtain ⟨m, rfl, hm, e2, t2⟩ := n32 hc0 hc1
  unfold I dob
  rw [if_neg (by decide), if_neg (by decide), if_neg (by decide), if_neg (by decide), if_neg (by decide), if_neg (by decide), if_neg (by decide), if_neg (by decide), if_neg (by decide), if_neg (by decide), if_neg (by decide), if_pos rfl, t1, t2]
  by_cases h : n < m
  · rw [if_pos h, if_pos (by omega)]; rfl
  · rw [if_neg h, if_neg (by omega)]; rfl
set_option maxRecDepth 100000 in
theorem I_none {op : Int} (h : ¬ (1 ≤ op ∧ op ≤ 12)) (b c : Int) : I op b c = 0 := by
  unfold I dob
  rw [if_neg (by omega), if_neg (by omega), if_neg (by omega), if_neg (by omega), if_neg (by omega), if_neg (by omega), if_neg (by omega), if_neg (by omega), if_neg (by omega), if_neg (by omega), if_neg (by omega), if_neg (by omega)]
  rfl
set_option maxRecDepth 100000 in
theorem Er_none {op : Int} (h : ¬ (1 ≤ op ∧ op ≤ 12)) : Er op = 1 := by unfold Er isop; rw [decide_eq_false h]; rfl
set_option maxRecDepth 100000 in
theorem T28 {b c : Int} (hb0 : 0 ≤ b) (hb1 : b < 4294967296) (hc0 : 0 ≤ c) (hc1 : c < 4294967296) : T 28 b c = decide (b = c) := by
  obtain ⟨x, rfl⟩ := is_wI hb0 hb1
  obtain ⟨y, rfl⟩ := is_wI hc0 hc1
  rw [T_w]
  show (x == y) = _
  by_cases h : x = y
  · rw [decide_eq_true (wI_inj.2 h)]; exact beq_iff_eq.2 h
  · rw [decide_eq_false (fun e => h (wI_inj.1 e))]; exact beq_false_of_ne h
set_option maxRecDepth 100000 in
theorem T29 {b c : Int} (hb0 : 0 ≤ b) (hb1 : b < 4294967296) (hc0 : 0 ≤ c) (hc1 : c < 4294967296) : T 29 b c = !decide (b = c) := by
  rw [← T28 hb0 hb1 hc0 hc1]; rfl
set_option maxRecDepth 100000 in
theorem T30 (b c : Int) : T 30 b c = decide (S b < S c) := rfl
set_option maxRecDepth 100000 in
theorem T31 {b c : Int} (hb0 : 0 ≤ b) (hb1 : b < 4294967296) (hc0 : 0 ≤ c) (hc1 : c < 4294967296) : T 31 b c = decide (b < c) := by
  obtain ⟨x, rfl⟩ := is_wI hb0 hb1
  obtain ⟨y, rfl⟩ := is_wI hc0 hc1
  rw [T_w]
  show decide (x.toNat < y.toNat) = _
  unfold wI
  by_cases h : x.toNat < y.toNat
  · rw [decide_eq_true h, decide_eq_true (by omega)]
  · rw [decide_eq_false h, decide_eq_false (by omega)]
set_option maxRecDepth 100000 in
theorem T_none {op : Int} (h : ¬ (28 ≤ op ∧ op ≤ 31)) (b c : Int) : T op b c = false := by
  unfold T tkb
  rw [if_neg (by omega), if_neg (by omega), if_neg (by omega), if_neg (by omega)]
end Al
end Go.Proofs.YtidhodalnikhlaaGreatDoor

/-
  THE WALKS OF alu: the maps of operations.
-/
namespace Go.Proofs.YtidhodalnikhlaaGreatDoor
open Go.RowKit Go.ChangeShapes Go.WideShapes Go.ChangeAt

section
variable {P : Program} {w : World} {b : Nat} {es : Array MapEntry} {c : Nat} {t kt e : TypeId}
set_option maxRecDepth 100000 in
theorem run_ck (hk : P.underlying kt = some (.int .i64)) (w : World) (x : Bool) (k : Int) : (Instr.checkKey x 10000 kt (.int .i64 k)).run P w = .ok () w := by
  unfold Instr.checkKey
  simp only [Sem.run_bind, run_underlying hk, Result.andThen]
  rfl
set_option maxRecDepth 100000 in
theorem run_insert (ht : P.underlying t = some (.map kt e)) (hk : P.underlying kt = some (.int .i64)) (hb : w.heap[b]? = some (.map es c)) (k : Int) (val : Value)
    (hfn : Instr.findNow (.int .i64) (.int .i64 k) es.toList 0 = some none) :
    (Instr.mapUpdate t (.map (some b)) (.int .i64 k) val).run P w = .ok () (Go.ChangeMaps.setBlock w b (.map (es.push ⟨.int .i64 k, val, c⟩) (c + 1))) := by
  have hc : (Instr.checkKey false 10000 kt (.int .i64 k)).run P w = .ok () w := run_ck hk w false k
  simp [Instr.mapUpdate, run_underlying ht, MapKept.run_getObj_map hb, hc, MapKept.run_findKey hk hfn, MapKept.run_setObj_map _ hb, Result.andThen, Go.ChangeMaps.setBlock]
set_option maxRecDepth 100000 in
theorem run_look_hit (ht : P.underlying t = some (.map kt e)) (hk : P.underlying kt = some (.int .i64)) (hb : w.heap[b]? = some (.map es c)) (k : Int) (i : Nat) (v : Value)
    (hfn : Instr.findNow (.int .i64) (.int .i64 k) es.toList 0 = some (some (i, v))) : (Instr.lookup t (.map (some b)) (.int .i64 k) true).run P w = .ok (.tuple #[v, .bool true]) w := by
  have hc := fun x => run_ck (P := P) hk w x k
  simp [Instr.lookup, run_underlying ht, MapKept.run_getObj_map hb, hc, MapKept.run_findKey hk hfn, Result.andThen]
set_option maxRecDepth 100000 in
theorem run_look_miss (ht : P.underlying t = some (.map kt e)) (hk : P.underlying kt = some (.int .i64)) {z : Value} (hz : (zeroValue e).run P w = .ok z w) (hb : w.heap[b]? = some (.map es c)) (k : Int)
    (hfn : Instr.findNow (.int .i64) (.int .i64 k) es.toList 0 = some none) : (Instr.lookup t (.map (some b)) (.int .i64 k) true).run P w = .ok (.tuple #[z, .bool false]) w := by
  have hc := fun x => run_ck (P := P) hk w x k
  simp [Instr.lookup, run_underlying ht, MapKept.run_getObj_map hb, hc, MapKept.run_findKey hk hfn, hz, Result.andThen]
set_option maxRecDepth 100000 in
/-- A map literal's entry, at the operation. -/
theorem wpList_insert {w0 : World} {ops : Array Oper} {rest : List Oper} {o : Oper} {a : Act} {Q : Exit → Act → World → Prop}
    (hg : o.guard = none) (m x v : Operand) (hop : o.op = Op.insert t m x v) (ht : P.underlying t = some (.map kt e)) (hk : P.underlying kt = some (.int .i64))
    (hm : a.eval m = .map (some b)) (hb : w.heap[b]? = some (.map es c)) (hl : Below b w0 w) (k : Int) (val : Value) (hx : a.eval x = .int .i64 k) (hv : a.eval v = val)
    (hfn : Instr.findNow (.int .i64) (.int .i64 k) es.toList 0 = some none)
    (hK : ∀ w', w'.heap[b]? = some (.map (es.push ⟨.int .i64 k, val, c⟩) (c + 1)) → Below b w0 w' → wpList P ops Q rest (a.put o.dst undef) w') :
    wpList P ops Q (o :: rest) a w := by
  refine wpList_plain hg fun K' hK' => ?_
  have hrun := run_insert ht hk hb k val hfn
  unfold Oper.wp
  simp only [execOp, hop, hm, hx, hv, Sem.run_bind, hrun, Result.andThen, Sem.run_pure]
  refine hK' _ _ (hK _ (Go.ChangeMaps.heap_setBlock_same hb _) ?_)
  have hlt : b < w.heap.size := by
    rcases Nat.lt_or_ge b w.heap.size with h1 | h1
    · exact h1
    · rw [Array.getElem?_eq_none h1] at hb; cases hb
  have hG : w.grownBy (Go.ChangeMaps.setBlock w b (.map (es.push ⟨.int .i64 k, val, c⟩) (c + 1))) (some b) := ⟨rfl, rfl, rfl, by simp [Go.ChangeMaps.setBlock], fun i _ hi => Go.ChangeMaps.heap_setBlock_other hb _ (fun e => hi (by rw [e]))⟩
  exact hl.grown hG (Nat.le_of_lt hlt) (fun k hk => by cases hk; exact Nat.le_refl _)
end

set_option maxRecDepth 100000 in
/-- What the map of arithmetic has for a number. -/
def arV (op : Int) : Value := if op = 1 then .func (.func 99) #[] #[] else if op = 2 then .func (.func 100) #[] #[] else if op = 8 then .func (.func 101) #[] #[] else if op = 9 then .func (.func 102) #[] #[] else if op = 10 then .func (.func 103) #[] #[] else .nilFunc
set_option maxRecDepth 100000 in
def arB (op : Int) : Bool := op == 1 || op == 2 || op == 8 || op == 9 || op == 10
set_option maxRecDepth 100000 in
def arE : Array MapEntry := #[⟨.int .i64 1, .func (.func 99) #[] #[], 0⟩, ⟨.int .i64 2, .func (.func 100) #[] #[], 1⟩, ⟨.int .i64 8, .func (.func 101) #[] #[], 2⟩, ⟨.int .i64 9, .func (.func 102) #[] #[], 3⟩, ⟨.int .i64 10, .func (.func 103) #[] #[], 4⟩]
set_option maxRecDepth 100000 in
theorem ar_look (op : Int) {w : World} {b c : Nat} (hb : w.heap[b]? = some (.map arE c)) : (Instr.lookup 180 (.map (some b)) (.int .i64 op) true).run Tryz.prog w = .ok (.tuple #[arV op, .bool (arB op)]) w := by
  by_cases h0 : op = 1
  · subst h0; exact run_look_hit Tryz.underlying180 Tryz.underlying3 hb 1 0 _ rfl
  by_cases h1 : op = 2
  · subst h1; exact run_look_hit Tryz.underlying180 Tryz.underlying3 hb 2 1 _ rfl
  by_cases h2 : op = 8
  · subst h2; exact run_look_hit Tryz.underlying180 Tryz.underlying3 hb 8 2 _ rfl
  by_cases h3 : op = 9
  · subst h3; exact run_look_hit Tryz.underlying180 Tryz.underlying3 hb 9 3 _ rfl
  by_cases h4 : op = 10
  · subst h4; exact run_look_hit Tryz.underlying180 Tryz.underlying3 hb 10 4 _ rfl
  have e1 : arV op = .nilFunc := by unfold arV; simp [h0, h1, h2, h3, h4]
  have e2 : arB op = false := by unfold arB; simp [h0, h1, h2, h3, h4]
  rw [e1, e2]
  refine run_look_miss Tryz.underlying180 Tryz.underlying3 (by kernel_rfl) hb op ?_
  simp only [arE, Instr.findNow, Instr.sameNow, beq_false_of_ne h0, beq_false_of_ne h1, beq_false_of_ne h2, beq_false_of_ne h3, beq_false_of_ne h4, if_true]

set_option maxRecDepth 100000 in
theorem ar_any (op : Int) (w : World) : Calls Tryz.prog 72 #[.int .i64 op] w fun e w' => e = .returned (.tuple #[arV op, .bool (arB op)]) ∧ Later w w' := by
  have hmm := @run_makeMap Tryz.prog
  obtain ⟨v, hv⟩ : ∃ v, v = arV op := ⟨_, rfl⟩
  obtain ⟨q, hq⟩ : ∃ q, q = arB op := ⟨_, rfl⟩
  have HL := Lib.hid fun (b c : Nat) (w' : World) (hb : w'.heap[b]? = some (.map arE c)) => ar_look op hb
  rw [← hv, ← hq] at HL ⊢
  clear hv hq
  have hb0 := heap_alloc_new w (.map #[] 0)
  have hl0 : Later w (w.alloc (.map #[] 0)) := (Below.refl _ _).alloc (Nat.le_refl _) _
  go_enter Tryz.func72, Tryz.ntmps72
  go_wp2_with (refine wpList_insert rfl _ _ _ rfl Tryz.underlying180 Tryz.underlying3 rfl (by assumption) (by assumption) _ _ rfl rfl rfl ?_; intro w' hb' hl'; try have hlk := HL.out _ _ _ hb')
  go_ret2
  exact ⟨rfl, hl'⟩
set_option maxRecDepth 100000 in
/-- What the map of logic has for a number. -/
def loV (op : Int) : Value := if op = 3 then .func (.func 104) #[] #[] else if op = 4 then .func (.func 105) #[] #[] else if op = 5 then .func (.func 106) #[] #[] else if op = 6 then .func (.func 107) #[] #[] else if op = 7 then .func (.func 108) #[] #[] else if op = 11 then .func (.func 109) #[] #[] else if op = 12 then .func (.func 113) #[] #[] else .nilFunc
set_option maxRecDepth 100000 in
def loB (op : Int) : Bool := op == 3 || op == 4 || op == 5 || op == 6 || op == 7 || op == 11 || op == 12
set_option maxRecDepth 100000 in
def loE : Array MapEntry := #[⟨.int .i64 3, .func (.func 104) #[] #[], 0⟩, ⟨.int .i64 4, .func (.func 105) #[] #[], 1⟩, ⟨.int .i64 5, .func (.func 106) #[] #[], 2⟩, ⟨.int .i64 6, .func (.func 107) #[] #[], 3⟩, ⟨.int .i64 7, .func (.func 108) #[] #[], 4⟩, ⟨.int .i64 11, .func (.func 109) #[] #[], 5⟩, ⟨.int .i64 12, .func (.func 113) #[] #[], 6⟩]
set_option maxRecDepth 100000 in
theorem lo_look (op : Int) {w : World} {b c : Nat} (hb : w.heap[b]? = some (.map loE c)) : (Instr.lookup 180 (.map (some b)) (.int .i64 op) true).run Tryz.prog w = .ok (.tuple #[loV op, .bool (loB op)]) w := by
  by_cases h0 : op = 3
  · subst h0; exact run_look_hit Tryz.underlying180 Tryz.underlying3 hb 3 0 _ rfl
  by_cases h1 : op = 4
  · subst h1; exact run_look_hit Tryz.underlying180 Tryz.underlying3 hb 4 1 _ rfl
  by_cases h2 : op = 5
  · subst h2; exact run_look_hit Tryz.underlying180 Tryz.underlying3 hb 5 2 _ rfl
  by_cases h3 : op = 6
  · subst h3; exact run_look_hit Tryz.underlying180 Tryz.underlying3 hb 6 3 _ rfl
  by_cases h4 : op = 7
  · subst h4; exact run_look_hit Tryz.underlying180 Tryz.underlying3 hb 7 4 _ rfl
  by_cases h5 : op = 11
  · subst h5; exact run_look_hit Tryz.underlying180 Tryz.underlying3 hb 11 5 _ rfl
  by_cases h6 : op = 12
  · subst h6; exact run_look_hit Tryz.underlying180 Tryz.underlying3 hb 12 6 _ rfl
  have e1 : loV op = .nilFunc := by unfold loV; simp [h0, h1, h2, h3, h4, h5, h6]
  have e2 : loB op = false := by unfold loB; simp [h0, h1, h2, h3, h4, h5, h6]
  rw [e1, e2]
  refine run_look_miss Tryz.underlying180 Tryz.underlying3 (by kernel_rfl) hb op ?_
  simp only [loE, Instr.findNow, Instr.sameNow, beq_false_of_ne h0, beq_false_of_ne h1, beq_false_of_ne h2, beq_false_of_ne h3, beq_false_of_ne h4, beq_false_of_ne h5, beq_false_of_ne h6, if_true]

set_option maxRecDepth 100000 in
theorem lo_any (op : Int) (w : World) : Calls Tryz.prog 73 #[.int .i64 op] w fun e w' => e = .returned (.tuple #[loV op, .bool (loB op)]) ∧ Later w w' := by
  have hmm := @run_makeMap Tryz.prog
  obtain ⟨v, hv⟩ : ∃ v, v = loV op := ⟨_, rfl⟩
  obtain ⟨q, hq⟩ : ∃ q, q = loB op := ⟨_, rfl⟩
  have HL := Lib.hid fun (b c : Nat) (w' : World) (hb : w'.heap[b]? = some (.map loE c)) => lo_look op hb
  rw [← hv, ← hq] at HL ⊢
  clear hv hq
  have hb0 := heap_alloc_new w (.map #[] 0)
  have hl0 : Later w (w.alloc (.map #[] 0)) := (Below.refl _ _).alloc (Nat.le_refl _) _
  go_enter Tryz.func73, Tryz.ntmps73
  go_wp2_with (refine wpList_insert rfl _ _ _ rfl Tryz.underlying180 Tryz.underlying3 rfl (by assumption) (by assumption) _ _ rfl rfl rfl ?_; intro w' hb' hl'; try have hlk := HL.out _ _ _ hb')
  go_ret2
  exact ⟨rfl, hl'⟩
set_option maxRecDepth 100000 in
/-- What the map of branch has for a number. -/
def brV (op : Int) : Value := if op = 28 then .func (.func 196) #[] #[] else if op = 29 then .func (.func 197) #[] #[] else if op = 30 then .func (.func 198) #[] #[] else if op = 31 then .func (.func 199) #[] #[] else .nilFunc
set_option maxRecDepth 100000 in
def brB (op : Int) : Bool := op == 28 || op == 29 || op == 30 || op == 31
set_option maxRecDepth 100000 in
def brE : Array MapEntry := #[⟨.int .i64 28, .func (.func 196) #[] #[], 0⟩, ⟨.int .i64 29, .func (.func 197) #[] #[], 1⟩, ⟨.int .i64 30, .func (.func 198) #[] #[], 2⟩, ⟨.int .i64 31, .func (.func 199) #[] #[], 3⟩]
set_option maxRecDepth 100000 in
theorem br_look (op : Int) {w : World} {b c : Nat} (hb : w.heap[b]? = some (.map brE c)) : (Instr.lookup 235 (.map (some b)) (.int .i64 op) true).run Tryz.prog w = .ok (.tuple #[brV op, .bool (brB op)]) w := by
  by_cases h0 : op = 28
  · subst h0; exact run_look_hit Tryz.underlying235 Tryz.underlying3 hb 28 0 _ rfl
  by_cases h1 : op = 29
  · subst h1; exact run_look_hit Tryz.underlying235 Tryz.underlying3 hb 29 1 _ rfl
  by_cases h2 : op = 30
  · subst h2; exact run_look_hit Tryz.underlying235 Tryz.underlying3 hb 30 2 _ rfl
  by_cases h3 : op = 31
  · subst h3; exact run_look_hit Tryz.underlying235 Tryz.underlying3 hb 31 3 _ rfl
  have e1 : brV op = .nilFunc := by unfold brV; simp [h0, h1, h2, h3]
  have e2 : brB op = false := by unfold brB; simp [h0, h1, h2, h3]
  rw [e1, e2]
  refine run_look_miss Tryz.underlying235 Tryz.underlying3 (by kernel_rfl) hb op ?_
  simp only [brE, Instr.findNow, Instr.sameNow, beq_false_of_ne h0, beq_false_of_ne h1, beq_false_of_ne h2, beq_false_of_ne h3, if_true]

set_option maxRecDepth 100000 in
theorem br_any (op : Int) (w : World) : Calls Tryz.prog 185 #[.int .i64 op] w fun e w' => e = .returned (.tuple #[brV op, .bool (brB op)]) ∧ Later w w' := by
  have hmm := @run_makeMap Tryz.prog
  obtain ⟨v, hv⟩ : ∃ v, v = brV op := ⟨_, rfl⟩
  obtain ⟨q, hq⟩ : ∃ q, q = brB op := ⟨_, rfl⟩
  have HL := Lib.hid fun (b c : Nat) (w' : World) (hb : w'.heap[b]? = some (.map brE c)) => br_look op hb
  rw [← hv, ← hq] at HL ⊢
  clear hv hq
  have hb0 := heap_alloc_new w (.map #[] 0)
  have hl0 : Later w (w.alloc (.map #[] 0)) := (Below.refl _ _).alloc (Nat.le_refl _) _
  go_enter Tryz.func185, Tryz.ntmps185
  go_wp2_with (refine wpList_insert rfl _ _ _ rfl Tryz.underlying235 Tryz.underlying3 rfl (by assumption) (by assumption) _ _ rfl rfl rfl ?_; intro w' hb' hl'; try have hlk := HL.out _ _ _ hb')
  go_ret2
  exact ⟨rfl, hl'⟩
end Go.Proofs.YtidhodalnikhlaaGreatDoor

/-
  THE WALKS OF alu: the operations themselves.
-/
namespace Go.Proofs.YtidhodalnikhlaaGreatDoor
open Go.RowKit Go.ChangeShapes Go.WideShapes Go.ChangeAt

section
variable {b c : Int} (hb0 : 0 ≤ b) (hb1 : b < 4294967296) (hc0 : 0 ≤ c) (hc1 : c < 4294967296) (w : World)
include hb0 hb1 hc0 hc1 in
set_option maxRecDepth 100000 in
theorem c1_any : Calls Tryz.prog 99 #[.int .u32 b, .int .u32 c] w fun e w' => e = .returned (.int .u32 (Al.I 1 b c)) ∧ w = w' := by
  rw [Al.I1 hb0 hb1 hc0 hc1]
  go_enter Tryz.func99, Tryz.ntmps99
  go_wp2
  go_ret
  exact ⟨rfl, rfl⟩
include hb0 hb1 hc0 hc1 in
set_option maxRecDepth 100000 in
theorem c2_any : Calls Tryz.prog 100 #[.int .u32 b, .int .u32 c] w fun e w' => e = .returned (.int .u32 (Al.I 2 b c)) ∧ w = w' := by
  rw [Al.I2 hb0 hb1 hc0 hc1]
  go_enter Tryz.func100, Tryz.ntmps100
  go_wp2
  go_ret
  exact ⟨rfl, rfl⟩
include hb0 hb1 hc0 hc1 in
set_option maxRecDepth 100000 in
theorem c8_any : Calls Tryz.prog 101 #[.int .u32 b, .int .u32 c] w fun e w' => e = .returned (.int .u32 (Al.I 8 b c)) ∧ w = w' := by
  rw [Al.I8 hb0 hb1 hc0 hc1]
  go_enter Tryz.func101, Tryz.ntmps101
  go_wp2
  go_ret
  exact ⟨rfl, rfl⟩
include hb0 hb1 hc0 hc1 in
set_option maxRecDepth 100000 in
theorem c9_any : Calls Tryz.prog 102 #[.int .u32 b, .int .u32 c] w fun e w' => e = .returned (.int .u32 (Al.I 9 b c)) ∧ w = w' := by
  rw [Al.I9 hb0 hb1 hc0 hc1]
  by_cases h : c = 0
  · subst h
    rw [if_pos rfl]
    go_enter Tryz.func102, Tryz.ntmps102
    go_wp2
    go_ret
    exact ⟨rfl, rfl⟩
  · rw [if_neg h]
    go_enter Tryz.func102, Tryz.ntmps102
    go_wp2
    go_ret
    exact ⟨rfl, rfl⟩
include hb0 hb1 hc0 hc1 in
set_option maxRecDepth 100000 in
theorem c10_any : Calls Tryz.prog 103 #[.int .u32 b, .int .u32 c] w fun e w' => e = .returned (.int .u32 (Al.I 10 b c)) ∧ w = w' := by
  rw [Al.I10 hb0 hb1 hc0 hc1]
  by_cases h : c = 0
  · subst h
    rw [if_pos rfl]
    go_enter Tryz.func103, Tryz.ntmps103
    go_wp2
    go_ret
    exact ⟨rfl, rfl⟩
  · rw [if_neg h]
    go_enter Tryz.func103, Tryz.ntmps103
    go_wp2
    go_ret
    exact ⟨rfl, rfl⟩
include hb0 hb1 hc0 hc1 in
set_option maxRecDepth 100000 in
theorem c3_any : Calls Tryz.prog 104 #[.int .u32 b, .int .u32 c] w fun e w' => e = .returned (.int .u32 (Al.I 3 b c)) ∧ w = w' := by
  rw [Al.I3 hb0 hb1 hc0 hc1]
  go_enter Tryz.func104, Tryz.ntmps104
  go_wp2
  go_ret
  exact ⟨rfl, rfl⟩
include hb0 hb1 hc0 hc1 in
set_option maxRecDepth 100000 in
theorem c4_any : Calls Tryz.prog 105 #[.int .u32 b, .int .u32 c] w fun e w' => e = .returned (.int .u32 (Al.I 4 b c)) ∧ w = w' := by
  rw [Al.I4 hb0 hb1 hc0 hc1]
  go_enter Tryz.func105, Tryz.ntmps105
  go_wp2
  go_ret
  exact ⟨rfl, rfl⟩
include hb0 hb1 hc0 hc1 in
set_option maxRecDepth 100000 in
theorem c5_any : Calls Tryz.prog 106 #[.int .u32 b, .int .u32 c] w fun e w' => e = .returned (.int .u32 (Al.I 5 b c)) ∧ w = w' := by
  rw [Al.I5 hb0 hb1 hc0 hc1]
  go_enter Tryz.func106, Tryz.ntmps106
  go_wp2
  go_ret
  exact ⟨rfl, rfl⟩
include hb0 hb1 hc0 hc1 in
set_option maxRecDepth 100000 in
theorem c6_any : Calls Tryz.prog 107 #[.int .u32 b, .int .u32 c] w fun e w' => e = .returned (.int .u32 (Al.I 6 b c)) ∧ w = w' := by
  rw [Al.I6 hb0 hb1 hc0 hc1]
  go_enter Tryz.func107, Tryz.ntmps107
  go_wp2
  go_ret
  exact ⟨rfl, rfl⟩
include hb0 hb1 hc0 hc1 in
set_option maxRecDepth 100000 in
theorem c7_any : Calls Tryz.prog 108 #[.int .u32 b, .int .u32 c] w fun e w' => e = .returned (.int .u32 (Al.I 7 b c)) ∧ w = w' := by
  rw [Al.I7 hb0 hb1 hc0 hc1]
  go_enter Tryz.func108, Tryz.ntmps108
  go_wp2
  go_ret
  exact ⟨rfl, rfl⟩
end
end Go.Proofs.YtidhodalnikhlaaGreatDoor

/-
  THE WALKS OF alu: signed values, comparisons, Do, Taken.
-/
namespace Go.Proofs.YtidhodalnikhlaaGreatDoor
open Go.RowKit Go.ChangeShapes Go.WideShapes Go.ChangeAt

section
variable {b c : Int} (hb0 : 0 ≤ b) (hb1 : b < 4294967296) (hc0 : 0 ≤ c) (hc1 : c < 4294967296) (w : World)
include hb0 hb1 in
set_option maxRecDepth 100000 in
theorem signed_any : Calls Tryz.prog 112 #[.int .u32 b] w fun e w' => e = .returned (.int .i64 (Al.S b)) ∧ w = w' := by
  have e1 := Al.S_of hb0 hb1
  have e2 : (if 2147483648 ≤ b then b - 4294967296 else b) = Al.S b := by rw [e1]; split <;> split <;> omega
  have e3 : (b + 2147483648) % 4294967296 - 2147483648 = Al.S b := by rw [e1]; split <;> omega
  obtain ⟨s, hs⟩ : ∃ s, s = Al.S b := ⟨_, rfl⟩
  have hs1 : -2147483648 ≤ s ∧ s < 2147483648 := by rw [hs, e1]; split <;> omega
  rw [← hs] at e2 e3 ⊢
  clear e1 hs
  have e4 : IntKind.i32.wrap b = s := by rw [IntKind.wrap_i32]; omega
  go_enter Tryz.func112, Tryz.ntmps112
  go_wp2
  go_ret
  exact ⟨rfl, rfl⟩
set_option maxRecDepth 100000 in
theorem truth_any (q : Bool) : Calls Tryz.prog 110 #[.bool q] w fun e w' => e = .returned (.int .u32 (if q then 1 else 0)) ∧ w = w' := by
  cases q
  · go_enter Tryz.func110, Tryz.ntmps110
    go_wp2
    go_ret
    exact ⟨rfl, rfl⟩
  · go_enter Tryz.func110, Tryz.ntmps110
    go_wp2
    go_ret
    exact ⟨rfl, rfl⟩
set_option maxRecDepth 100000 in
theorem lessi_any (x y : Int) : Calls Tryz.prog 111 #[.int .i64 x, .int .i64 y] w fun e w' => e = .returned (.bool (decide (x < y))) ∧ w = w' := by
  go_enter Tryz.func111, Tryz.ntmps111
  go_wp2
  go_ret
  exact ⟨rfl, rfl⟩
set_option maxRecDepth 100000 in
theorem lessu_any (x y : Int) : Calls Tryz.prog 114 #[.int .u32 x, .int .u32 y] w fun e w' => e = .returned (.bool (decide (x < y))) ∧ w = w' := by
  go_enter Tryz.func114, Tryz.ntmps114
  go_wp2
  go_ret
  exact ⟨rfl, rfl⟩
include hb0 hb1 hc0 hc1 in
set_option maxRecDepth 100000 in
theorem c11_any : Calls Tryz.prog 109 #[.int .u32 b, .int .u32 c] w fun e w' => e = .returned (.int .u32 (Al.I 11 b c)) ∧ w = w' := by
  have HS1 := Lib.hid (fun w => signed_any hb0 hb1 w)
  have HS2 := Lib.hid (fun w => signed_any hc0 hc1 w)
  obtain ⟨s, hs⟩ : ∃ s, s = Al.S b := ⟨_, rfl⟩
  obtain ⟨t, ht⟩ : ∃ t, t = Al.S c := ⟨_, rfl⟩
  have HL := Lib.hid (fun w x y => lessi_any w x y)
  have HT := Lib.hid (fun w q => truth_any w q)
  rw [Al.I11, ← hs, ← ht]
  rw [← hs] at HS1
  rw [← ht] at HS2
  clear hs ht
  go_enter Tryz.func109, Tryz.ntmps109
  go_wp2_with (first | (go_at_call 112; (first | (with_reducible refine (HS1.out _).mono ?_) | (with_reducible refine (HS2.out _).mono ?_)); rintro e w1 ⟨rfl, rfl⟩) | (go_at_call 111; refine (HL.out _ _ _).mono ?_; rintro e w1 ⟨rfl, rfl⟩) | (go_at_call 110; refine (HT.out _ _).mono ?_; rintro e w1 ⟨rfl, rfl⟩))
  all_goals (go_ret; exact ⟨rfl, rfl⟩)
include hb0 hb1 hc0 hc1 in
set_option maxRecDepth 100000 in
theorem c12_any : Calls Tryz.prog 113 #[.int .u32 b, .int .u32 c] w fun e w' => e = .returned (.int .u32 (Al.I 12 b c)) ∧ w = w' := by
  have HL := Lib.hid (fun w x y => lessu_any w x y)
  have HT := Lib.hid (fun w q => truth_any w q)
  rw [Al.I12 hb0 hb1 hc0 hc1]
  go_enter Tryz.func113, Tryz.ntmps113
  go_wp2_with (first | (go_at_call 114; refine (HL.out _ _ _).mono ?_; rintro e w1 ⟨rfl, rfl⟩) | (go_at_call 110; refine (HT.out _ _).mono ?_; rintro e w1 ⟨rfl, rfl⟩))
  all_goals (go_ret; exact ⟨rfl, rfl⟩)
include hb0 hb1 hc0 hc1 in
set_option maxRecDepth 100000 in
theorem c28_any : Calls Tryz.prog 196 #[.int .u32 b, .int .u32 c] w fun e w' => e = .returned (.bool (Al.T 28 b c)) ∧ w = w' := by
  have e : Al.T 28 b c = decide (b = c) := Al.T28 hb0 hb1 hc0 hc1
  rw [e]
  go_enter Tryz.func196, Tryz.ntmps196
  go_wp2
  go_ret
  exact ⟨rfl, rfl⟩
include hb0 hb1 hc0 hc1 in
set_option maxRecDepth 100000 in
theorem c29_any : Calls Tryz.prog 197 #[.int .u32 b, .int .u32 c] w fun e w' => e = .returned (.bool (Al.T 29 b c)) ∧ w = w' := by
  have e : Al.T 29 b c = !decide (b = c) := Al.T29 hb0 hb1 hc0 hc1
  rw [e]
  go_enter Tryz.func197, Tryz.ntmps197
  go_wp2
  go_ret
  exact ⟨rfl, rfl⟩
include hb0 hb1 hc0 hc1 in
set_option maxRecDepth 100000 in
theorem c30_any : Calls Tryz.prog 198 #[.int .u32 b, .int .u32 c] w fun e w' => e = .returned (.bool (Al.T 30 b c)) ∧ w = w' := by
  have HS1 := Lib.hid (fun w => signed_any hb0 hb1 w)
  have HS2 := Lib.hid (fun w => signed_any hc0 hc1 w)
  obtain ⟨s, hs⟩ : ∃ s, s = Al.S b := ⟨_, rfl⟩
  obtain ⟨t, ht⟩ : ∃ t, t = Al.S c := ⟨_, rfl⟩
  have HL := Lib.hid (fun w x y => lessi_any w x y)
  rw [Al.T30, ← hs, ← ht]
  rw [← hs] at HS1
  rw [← ht] at HS2
  clear hs ht
  go_enter Tryz.func198, Tryz.ntmps198
  go_wp2_with (first | (go_at_call 112; (first | (with_reducible refine (HS1.out _).mono ?_) | (with_reducible refine (HS2.out _).mono ?_)); rintro e w1 ⟨rfl, rfl⟩) | (go_at_call 111; refine (HL.out _ _ _).mono ?_; rintro e w1 ⟨rfl, rfl⟩))
  go_ret
  exact ⟨rfl, rfl⟩
include hb0 hb1 hc0 hc1 in
set_option maxRecDepth 100000 in
theorem c31_any : Calls Tryz.prog 199 #[.int .u32 b, .int .u32 c] w fun e w' => e = .returned (.bool (Al.T 31 b c)) ∧ w = w' := by
  have HL := Lib.hid (fun w x y => lessu_any w x y)
  rw [Al.T31 hb0 hb1 hc0 hc1]
  go_enter Tryz.func199, Tryz.ntmps199
  go_wp2_with ((go_at_call 114; refine (HL.out _ _ _).mono ?_; rintro e w1 ⟨rfl, rfl⟩))
  go_ret
  exact ⟨rfl, rfl⟩
end
end Go.Proofs.YtidhodalnikhlaaGreatDoor
