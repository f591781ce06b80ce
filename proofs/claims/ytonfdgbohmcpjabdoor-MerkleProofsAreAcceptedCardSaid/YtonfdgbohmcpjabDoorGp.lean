/-
  FOR MerkleProofsAreAccepted: what the checks answer to proofs; places by their bits.
-/
import Derived.Test.YtonfdgbohmcpjabDoorGn
namespace Go.Proofs.YtonfdgbohmcpjabDoor
open Go.RowKit Go.ChangeShapes Go.WideShapes Go.ChangeAt

theorem grow_irr (N : Nat) : ∀ (x y : Wm.Bs) (m n : Nat) (known : Bool) (t : Mk.Tr Wm.Bs), n ≤ N → 1 ≤ m → m ≤ n → (known = true → m ≠ n ∧ ∀ j : Nat, m ≠ 2 ^ j) → Mk.grow nodeD zD x m n known t = Mk.grow nodeD zD y m n known t := by
  induction N with
  | zero => intro x y m n known t h1 h2 h3; omega
  | succ N ih =>
    intro x y m n known t h1 h2 h3 hk
    by_cases hmn : m = n
    · subst hmn
      have : known = false := by
        cases known with
        | false => rfl
        | true => exact absurd rfl (hk rfl).1
      subst this
      rw [Mk.grow_all, Mk.grow_all]; rfl
    · have hn2 : 2 ≤ n := by omega
      have a1 := Mk.sp_lt hn2
      have a0 := Mk.sp_pos n
      by_cases hi : m ≤ Mk.sp n
      · rw [Mk.grow_left _ _ _ _ _ _ _ hn2 hmn hi, Mk.grow_left _ _ _ _ _ _ _ hn2 hmn hi]
        rw [ih x y m (Mk.sp n) known t (by omega) h2 hi (fun h => ⟨(hk h).2 _, (hk h).2⟩)]
      · rw [Mk.grow_right _ _ _ _ _ _ _ hn2 hmn hi, Mk.grow_right _ _ _ _ _ _ _ hn2 hmn hi]
        rw [ih x y (m - Mk.sp n) (n - Mk.sp n) false t (by omega) (by omega) (by omega) (fun h => by cases h)]
/-- The proof that the first m elements were the list once. -/
noncomputable def cnsL (l : List Wm.Bs) (m : Nat) : List Wm.Bs := if m = 0 then [] else Mk.cons nodeD emptyD l m true
/-- What CheckConsistency answers. -/
noncomputable def ccB (l : List Wm.Bs) (m : Nat) (x y : Wm.Bs) : Bool :=
  if m = 0 then decide (x = emptyD) else decide ((Mk.grow nodeD zD x m l.length true ⟨cnsL l m, false⟩).1.1 = x) && decide ((Mk.grow nodeD zD x m l.length true ⟨cnsL l m, false⟩).1.2 = y) && !(Mk.grow nodeD zD x m l.length true ⟨cnsL l m, false⟩).2.short && decide ((Mk.grow nodeD zD x m l.length true ⟨cnsL l m, false⟩).2.rest = [])
theorem grow_acc (l : List Wm.Bs) (m : Nat) (h0 : 1 ≤ m) (h1 : m ≤ l.length) : Mk.grow nodeD zD (rootD (l.take m)) m l.length true ⟨cnsL l m, false⟩ = ((rootD (l.take m), rootD l), ⟨[], false⟩) := by
  have h := Mk.grow_cons nodeD zD emptyD l.length l m true (rootD (l.take m)) [] false (Nat.le_refl _) h0 h1 (fun _ => rfl)
  rw [List.append_nil] at h
  unfold cnsL
  rw [if_neg (by omega)]
  exact h
theorem root_nil' : rootD [] = emptyD := by unfold rootD; rw [Mk.root_nil]
theorem ccB_old (l : List Wm.Bs) (m : Nat) (y : Wm.Bs) (h0 : 1 ≤ m) (h1 : m ≤ l.length) : ccB l m (rootD (l.take m)) y = decide (y = rootD l) := by
  unfold ccB
  rw [if_neg (by omega), grow_acc l m h0 h1]
  by_cases h : y = rootD l
  · subst h; simp
  · rw [decide_eq_false h]; simp; exact fun e => h e.symm
theorem ccB_acc (l : List Wm.Bs) (m : Nat) (h1 : m ≤ l.length) : ccB l m (rootD (l.take m)) (rootD l) = true := by
  by_cases h0 : m = 0
  · subst h0
    unfold ccB
    rw [if_pos rfl, List.take_zero, root_nil', decide_eq_true rfl]
  · rw [ccB_old l m _ (by omega) h1, decide_eq_true rfl]
theorem ccB_new (l : List Wm.Bs) (m : Nat) (x : Wm.Bs) (h1 : m ≤ l.length) (hp : m = 0 ∨ m = l.length ∨ ∀ j : Nat, m ≠ 2 ^ j) : ccB l m x (rootD l) = decide (x = rootD (l.take m)) := by
  by_cases h0 : m = 0
  · subst h0
    unfold ccB
    rw [if_pos rfl, List.take_zero, root_nil']
  · by_cases h2 : m = l.length
    · subst h2
      unfold ccB cnsL
      rw [if_neg h0, if_neg h0, Mk.cons_all, if_pos rfl, Mk.grow_all, if_pos rfl, List.take_length]
      by_cases h : x = rootD l
      · subst h; simp
      · rw [decide_eq_false h]; simp
    · have hj : ∀ j : Nat, m ≠ 2 ^ j := by
        rcases hp with h | h | h
        · exact absurd h h0
        · exact absurd h h2
        · exact h
      unfold ccB
      rw [if_neg h0, grow_irr l.length x (rootD (l.take m)) m l.length true _ (Nat.le_refl _) (by omega) h1 (fun _ => ⟨h2, hj⟩), grow_acc l m (by omega) h1]
      by_cases h : x = rootD (l.take m)
      · subst h; simp
      · rw [decide_eq_false h]; simp; exact fun e => h e.symm
theorem ccB_any (l : List Wm.Bs) (m : Nat) (x y : Wm.Bs) (A : Option Addr) (c : Nat) (w : World) (hn : l.length ≤ 1099511627776) (h1 : m ≤ l.length) (hx : x.length = 16 ∧ Wm.isBs x) (hy : y.length = 16 ∧ Wm.isBs y)
    (hp : Pt w A (cnsL l m).length c (cnsL l m)) (hl : isD (cnsL l m)) (hc : c ≤ maxLen) (tab : Tab w) :
    Calls Tryd.prog 30 #[.int .i64 m, .int .i64 l.length, .agg (U x).toArray, .agg (U y).toArray, .slice A (cnsL l m).length c] w fun e w' => e = .returned (.bool (ccB l m x y)) ∧ Later w w' := by
  by_cases h0 : m = 0
  · subst h0
    have h := checkCons_zero x y l.length A _ c (cnsL l 0) w hn hx hp.1 hl hp.2.1 hc tab
    have e : (decide (x = emptyD) && !(⟨cnsL l 0, false⟩ : Mk.Tr Wm.Bs).short && decide ((⟨cnsL l 0, false⟩ : Mk.Tr Wm.Bs).rest = [])) = ccB l 0 x y := by
      unfold ccB cnsL
      rw [if_pos rfl, if_pos rfl]; simp
    rw [e] at h
    exact h
  · have h := checkCons_any x y m l.length A _ c (cnsL l m) w (by omega) h1 hn hx hy hp.1 hl hp.2.1 hc tab
    have e : ccB l m x y = _ := if_neg h0
    rw [e]
    exact h
theorem cnsL_isD {l : List Wm.Bs} (hl : isD l) (m : Nat) : isD (cnsL l m) := by
  unfold cnsL
  split
  · exact fun _ h => by cases h
  · exact cons_isD _ l m true (Nat.le_refl _) hl
theorem consL_any (A : Option Addr) (n c m : Nat) (l : List Wm.Bs) (w : World) (h2 : m ≤ n) (hbig : n ≤ 4000000000000) (hnc : n ≤ c) (hc : c ≤ 9223372036854775807) (hs : Sl w 16 A n (Ds l)) (hl : isD l) (tab : Tab w) :
    Calls Tryd.prog 11 #[.slice A n c, .int .i64 m] w fun e w' => GotPath (cnsL l m) w e w' := by
  unfold cnsL
  by_cases h0 : m = 0
  · subst h0
    rw [if_pos rfl]
    exact consistency_zero A n c w
  · rw [if_neg h0]
    exact consistency_any A n c m l w (by omega) h2 hbig hnc hc hs hl tab

/-- The places below k whose bits are 1. -/
def psK (b : Nat) : Nat → List Int
  | 0 => []
  | k + 1 => psK b k ++ if b.testBit k then [(k : Int)] else []
/-- The elements there. -/
noncomputable def fsK (l : List Wm.Bs) (b : Nat) : Nat → List Wm.Bs
  | 0 => []
  | k + 1 => fsK l b k ++ if b.testBit k then [l.getD k zD] else []
theorem psK_len (l : List Wm.Bs) (b k : Nat) : (fsK l b k).length = (psK b k).length := by
  induction k with
  | zero => rfl
  | succ k ih =>
    show (fsK l b k ++ _).length = (psK b k ++ _).length
    rw [List.length_append, List.length_append, ih]
    split <;> rfl
theorem psK_le (b k : Nat) : (psK b k).length ≤ k := by
  induction k with
  | zero => exact Nat.le_refl _
  | succ k ih =>
    show (psK b k ++ _).length ≤ _
    rw [List.length_append]
    split
    · rw [List.length_singleton]; omega
    · rw [List.length_nil]; omega
theorem psK_in (b k : Nat) : (∀ p ∈ psK b k, (-1 : Int) < p ∧ p < k) ∧ (psK b k).Pairwise (· < ·) := by
  induction k with
  | zero => exact ⟨fun _ h => (by cases h), List.Pairwise.nil⟩
  | succ k ih =>
    show (∀ p ∈ psK b k ++ _, _) ∧ (psK b k ++ _).Pairwise _
    split
    · refine ⟨fun p hp => ?_, ?_⟩
      · rcases List.mem_append.1 hp with h | h
        · have := ih.1 p h; omega
        · rw [List.mem_singleton.1 h]; omega
      · rw [List.pairwise_append]
        refine ⟨ih.2, List.pairwise_singleton _ _, fun p hp q hq => ?_⟩
        rw [List.mem_singleton.1 hq]
        exact (ih.1 p hp).2
    · rw [List.append_nil]
      exact ⟨fun p hp => by have := ih.1 p hp; omega, ih.2⟩
theorem fsK_map (l : List Wm.Bs) (b k : Nat) : fsK l b k = (psK b k).map fun p => l.getD (p - 0).toNat zD := by
  induction k with
  | zero => rfl
  | succ k ih =>
    show fsK l b k ++ _ = (psK b k ++ _).map _
    rw [List.map_append, ← ih]
    split
    · rw [List.map_singleton, show ((k : Int) - 0).toNat = k by omega]
    · rfl
theorem fsK_isD {l : List Wm.Bs} (hl : isD l) (b k : Nat) (hk : k ≤ l.length) : isD (fsK l b k) := by
  induction k with
  | zero => exact fun _ h => by cases h
  | succ k ih =>
    intro d hd
    rcases List.mem_append.1 (show d ∈ fsK l b k ++ _ from hd) with h | h
    · exact ih (by omega) d h
    · split at h
      · rw [List.mem_singleton.1 h, List.getD_eq_getElem?_getD, List.getElem?_eq_getElem (show k < l.length by omega)]
        exact hl _ (List.getElem_mem _)
      · cases h
theorem gat_acc (l : List Wm.Bs) (b : Nat) (h1 : 1 ≤ l.length) : Mk.gather nodeD zD 0 l.length (psK b l.length) (fsK l b l.length) ⟨Mk.many nodeD emptyD l 0 (psK b l.length), false⟩ = (rootD l, ⟨[], false⟩) := by
  have hp := psK_in b l.length
  have h := Mk.gather_many nodeD zD emptyD l.length l 0 (psK b l.length) [] false (Nat.le_refl _) h1 hp.2 (fun p h => by have := hp.1 p h; omega)
  rw [List.append_nil, ← fsK_map] at h
  exact h
theorem bit_is (c k : Nat) (hc : c < 18446744073709551616) : bits .and .u64 ((c / 2 ^ k : Nat) : Int) 1 = if c.testBit k then 1 else 0 := by
  have h1 : c / 2 ^ k < 18446744073709551616 := Nat.lt_of_le_of_lt (Nat.div_le_self _ _) hc
  show IntKind.u64.wrap ((BitVec.ofInt 64 ((c / 2 ^ k : Nat) : Int) &&& BitVec.ofInt 64 ((1 : Nat) : Int)).toNat : Int) = _
  rw [BitVec.ofInt_natCast, BitVec.ofInt_natCast, BitVec.toNat_and, BitVec.toNat_ofNat, BitVec.toNat_ofNat, Nat.mod_eq_of_lt (show c / 2 ^ k < 2 ^ 64 from h1)]
  have h := Nat.and_two_pow_sub_one_eq_mod (c / 2 ^ k) 1
  rw [show 2 ^ 1 - 1 = 1 from rfl] at h
  rw [show 1 % 2 ^ 64 = 1 from rfl, h, IntKind.wrap_u64, Nat.testBit_eq_decide_div_mod_eq]
  have h2 := Nat.mod_lt (c / 2 ^ k) (show 0 < 2 ^ 1 by decide)
  by_cases h3 : c / 2 ^ k % 2 = 1
  · rw [decide_eq_true h3, show c / 2 ^ k % 2 ^ 1 = 1 from h3]; rfl
  · rw [decide_eq_false h3, show c / 2 ^ k % 2 ^ 1 = 0 by omega]; rfl
structure InI (i : TypeInfo) : Prop where
  hi : Tryd.prog.info? 3 = some i
  hz : i.zero = some (.int .i64 0)
  hs : i.size = 1
  hb : i.bytes = 8
theorem inI : ∃ i, InI i := by
  have h : (Tryd.prog.info? 3).map (fun i => (i.zero, i.size, i.bytes)) = some (some (.int .i64 0), 1, 8) := by kernel_rfl
  cases e : Tryd.prog.info? 3 with
  | none => rw [e] at h; cases h
  | some i =>
    rw [e] at h
    simp only [Option.map_some, Option.some.injEq, Prod.mk.injEq] at h
    exact ⟨i, e, h.1, h.2.1, h.2.2⟩
end Go.Proofs.YtonfdgbohmcpjabDoor
