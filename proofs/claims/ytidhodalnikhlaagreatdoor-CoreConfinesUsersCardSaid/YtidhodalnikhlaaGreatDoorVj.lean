/-
  PLAIN FACTS, OF NO PROGRAM: instructions and their words.
-/
import Derived.Test.YtidhodalnikhlaaGreatDoorVe
import Derived.Laws.Bits64
import Derived.Laws.BitsLemmas
namespace Go.Proofs.YtidhodalnikhlaaGreatDoor
namespace Im

set_option maxRecDepth 100000 in
def names : List ByteArray := [⟨#[]⟩, ⟨#[97, 100, 100]⟩, ⟨#[115, 117, 98]⟩, ⟨#[97, 110, 100]⟩, ⟨#[111, 114]⟩, ⟨#[120, 111, 114]⟩, ⟨#[115, 104, 108]⟩, ⟨#[115, 104, 114]⟩, ⟨#[109, 117, 108]⟩, ⟨#[100, 105, 118]⟩, ⟨#[114, 101, 109]⟩, ⟨#[115, 108, 116]⟩, ⟨#[115, 108, 116, 117]⟩, ⟨#[]⟩, ⟨#[]⟩, ⟨#[]⟩, ⟨#[97, 100, 100, 105]⟩, ⟨#[104, 105, 103, 104]⟩, ⟨#[]⟩, ⟨#[]⟩, ⟨#[108, 119]⟩, ⟨#[115, 119]⟩, ⟨#[108, 98]⟩, ⟨#[115, 98]⟩, ⟨#[115, 119, 97, 112]⟩, ⟨#[]⟩, ⟨#[]⟩, ⟨#[]⟩, ⟨#[98, 101, 113]⟩, ⟨#[98, 110, 101]⟩, ⟨#[98, 108, 116]⟩, ⟨#[98, 108, 116, 117]⟩, ⟨#[106, 97, 108]⟩, ⟨#[106, 97, 108, 114]⟩, ⟨#[]⟩, ⟨#[]⟩, ⟨#[]⟩, ⟨#[]⟩, ⟨#[]⟩, ⟨#[]⟩, ⟨#[101, 99, 97, 108, 108]⟩, ⟨#[101, 114, 101, 116]⟩, ⟨#[99, 115, 114, 114]⟩, ⟨#[99, 115, 114, 119]⟩, ⟨#[102, 108, 117, 115, 104]⟩, ⟨#[119, 97, 105, 116]⟩, ⟨#[105, 110]⟩, ⟨#[111, 117, 116]⟩, ⟨#[104, 97, 108, 116]⟩]
set_option maxRecDepth 100000 in
def forms : List Nat := [0, 1, 1, 1, 1, 1, 1, 1, 1, 1, 1, 1, 1, 0, 0, 0, 2, 3, 0, 0, 2, 2, 2, 2, 2, 0, 0, 0, 2, 2, 2, 2, 3, 2, 0, 0, 0, 0, 0, 0, 5, 5, 3, 3, 4, 5, 3, 3, 5]
set_option maxRecDepth 100000 in
/-- Name and form of an operation, by number. -/
def nameN (k : Nat) : ByteArray := names.getD k ⟨#[]⟩
set_option maxRecDepth 100000 in
def formN (k : Nat) : Nat := forms.getD k 0
set_option maxRecDepth 100000 in
def name (op : Int) : ByteArray := if 0 ≤ op then nameN op.toNat else ⟨#[]⟩
set_option maxRecDepth 100000 in
def form (op : Int) : Int := if 0 ≤ op then (formN op.toNat : Nat) else 0
set_option maxRecDepth 100000 in
theorem names_len : names.length = 49 := by decide +kernel
set_option maxRecDepth 100000 in
theorem forms_len : forms.length = 49 := by decide +kernel
set_option maxRecDepth 100000 in
theorem formN_out {k : Nat} (h : 49 ≤ k) : formN k = 0 := by unfold formN; rw [List.getD_eq_getElem?_getD, List.getElem?_eq_none (by rw [forms_len]; exact h)]; rfl
set_option maxRecDepth 100000 in
theorem nameN_out {k : Nat} (h : 49 ≤ k) : nameN k = ⟨#[]⟩ := by unfold nameN; rw [List.getD_eq_getElem?_getD, List.getElem?_eq_none (by rw [names_len]; exact h)]; rfl
set_option maxRecDepth 100000 in
theorem form_nat (k : Nat) : form (k : Int) = (formN k : Nat) := by unfold form; rw [if_pos (by omega)]; rfl
set_option maxRecDepth 100000 in
theorem name_nat (k : Nat) : name (k : Int) = nameN k := by unfold name; rw [if_pos (by omega)]; rfl
set_option maxRecDepth 100000 in
theorem form_out {op : Int} (h : op < 0 ∨ 49 ≤ op) : form op = 0 := by
  unfold form
  split
  · rw [formN_out (by omega)]; rfl
  · rfl
set_option maxRecDepth 100000 in
theorem name_out {op : Int} (h : op < 0 ∨ 49 ≤ op) : name op = ⟨#[]⟩ := by
  unfold name
  split
  · rw [nameN_out (by omega)]
  · rfl
set_option maxRecDepth 100000 in
/-- The numbers that are operations. -/
def opsL : List Nat := [1, 2, 3, 4, 5, 6, 7, 8, 9, 10, 11, 12, 16, 17, 20, 21, 22, 23, 24, 28, 29, 30, 31, 32, 33, 40, 41, 42, 43, 44, 45, 46, 47, 48]
set_option maxRecDepth 100000 in
theorem ops_all : ∀ k : Fin 49, formN k.1 ≠ 0 → k.1 ∈ opsL := by decide +kernel
set_option maxRecDepth 100000 in
theorem form_op {op : Int} (h : form op ≠ 0) : ∃ k ∈ opsL, op = (k : Nat) := by
  have h1 : ¬ (op < 0 ∨ 49 ≤ op) := fun hh => h (form_out hh)
  obtain ⟨k, rfl⟩ := Int.eq_ofNat_of_zero_le (show 0 ≤ op by omega)
  refine ⟨k, ops_all ⟨k, by omega⟩ ?_, rfl⟩
  intro e
  apply h
  show form (k : Int) = 0
  rw [form_nat, show formN k = 0 from e]; rfl
set_option maxRecDepth 100000 in
theorem form_range {op : Int} (h : form op ≠ 0) : 1 ≤ op ∧ op ≤ 48 := by
  obtain ⟨k, hk, rfl⟩ := form_op h
  have h1 : ∀ k ∈ opsL, 1 ≤ k ∧ k ≤ 48 := by decide +kernel
  have := h1 k hk
  omega
set_option maxRecDepth 100000 in
theorem formN_le : ∀ k : Fin 49, formN k.1 ≤ 5 := by decide +kernel
set_option maxRecDepth 100000 in
theorem form_vals (op : Int) : form op = 0 ∨ form op = 1 ∨ form op = 2 ∨ form op = 3 ∨ form op = 4 ∨ form op = 5 := by
  rcases Classical.em (op < 0 ∨ 49 ≤ op) with h | h
  · exact .inl (form_out h)
  · obtain ⟨k, rfl⟩ := Int.eq_ofNat_of_zero_le (show 0 ≤ op by omega)
    have h1 := formN_le ⟨k, by omega⟩
    rw [form_nat k]
    have h2 : formN k ≤ 5 := h1
    omega

set_option maxRecDepth 100000 in
/-- An instruction. -/
structure I where
  op : Int
  a : Int
  b : Int
  c : Int
  imm : Int
deriving DecidableEq

set_option maxRecDepth 100000 in
def formed (i : I) : I :=
  if form i.op = 1 then ⟨i.op, i.a, i.b, i.c, 0⟩ else if form i.op = 2 then ⟨i.op, i.a, i.b, 0, i.imm⟩ else if form i.op = 3 then ⟨i.op, i.a, 0, 0, i.imm⟩
  else if form i.op = 4 then ⟨i.op, 0, i.b, 0, 0⟩ else if form i.op = 5 then ⟨i.op, 0, 0, 0, 0⟩ else ⟨0, 0, 0, 0, 0⟩
set_option maxRecDepth 100000 in
def reg (r : Int) : Prop := 0 ≤ r ∧ r < 16
instance (r : Int) : Decidable (reg r) := inferInstanceAs (Decidable (_ ∧ _))
set_option maxRecDepth 100000 in
/-- A right instruction. -/
def Right (i : I) : Prop := form i.op ≠ 0 ∧ i = formed i ∧ reg i.a ∧ reg i.b ∧ reg i.c ∧ -131072 ≤ i.imm ∧ i.imm ≤ 131071
instance (i : I) : Decidable (Right i) := inferInstanceAs (Decidable (_ ∧ _))
set_option maxRecDepth 100000 in
/-- The word of a right instruction. -/
def word (i : I) : Int := i.op * 67108864 + i.a * 4194304 + i.b * 262144 + i.c * 16384 + i.imm % 262144
set_option maxRecDepth 100000 in
/-- The fields of a word. -/
def immOf (w : Int) : Int := if w % 262144 > 131071 then w % 262144 - 262144 else w % 262144
set_option maxRecDepth 100000 in
def fields (w : Int) : I := ⟨w / 67108864, w / 4194304 % 16, w / 262144 % 16, w / 16384 % 16, immOf w⟩
set_option maxRecDepth 100000 in
def cut (w : Int) : I := formed (fields w)
set_option maxRecDepth 100000 in
/-- Whether a word is legal. -/
def Legal (w : Int) : Prop := form (cut w).op ≠ 0 ∧ word (cut w) = w
instance (w : Int) : Decidable (Legal w) := inferInstanceAs (Decidable (_ ∧ _))
set_option maxRecDepth 100000 in
theorem immOf_rg (w : Int) : -131072 ≤ immOf w ∧ immOf w ≤ 131071 ∧ immOf w % 262144 = w % 262144 := by unfold immOf; split <;> omega

set_option maxRecDepth 100000 in
theorem right_cases {i : I} (h : Right i) :
    (1 ≤ i.op ∧ i.op ≤ 48) ∧ (0 ≤ i.a ∧ i.a ≤ 15) ∧ (0 ≤ i.b ∧ i.b ≤ 15) ∧ (0 ≤ i.c ∧ i.c ≤ 15) ∧ (-131072 ≤ i.imm ∧ i.imm ≤ 131071) ∧
    (form i.op = 1 ∧ i.imm = 0 ∨ form i.op = 2 ∧ i.c = 0 ∨ form i.op = 3 ∧ i.b = 0 ∧ i.c = 0 ∨ form i.op = 4 ∧ i.a = 0 ∧ i.c = 0 ∧ i.imm = 0 ∨ form i.op = 5 ∧ i.a = 0 ∧ i.b = 0 ∧ i.c = 0 ∧ i.imm = 0) := by
  obtain ⟨h1, h2, h3, h4, h5, h6, h7⟩ := h
  have h8 := form_range h1
  unfold reg at h3 h4 h5
  refine ⟨h8, ⟨h3.1, by omega⟩, ⟨h4.1, by omega⟩, ⟨h5.1, by omega⟩, ⟨h6, h7⟩, ?_⟩
  obtain ⟨op, a, b, c, imm⟩ := i
  unfold formed at h2
  dsimp only at h1 h2 ⊢
  rcases form_vals op with e | e | e | e | e | e
  · exact absurd e h1
  all_goals (simp [e] at h2 ⊢; omega)
set_option maxRecDepth 100000 in
theorem word_bd {i : I} (h : Right i) : 0 ≤ word i ∧ word i < 4294967296 := by
  obtain ⟨h1, h2, h3, h4, h5, h6⟩ := right_cases h
  unfold word; rcases h6 with h6 | h6 | h6 | h6 | h6 <;> omega
set_option maxRecDepth 100000 in
theorem formed_of {i : I} (h : Right i) : formed i = i := h.2.1.symm
set_option maxRecDepth 100000 in
theorem formed_congr {x i : I} (hop : x.op = i.op) (ha : form i.op ≠ 4 → form i.op ≠ 5 → x.a = i.a) (hb : form i.op ≠ 3 → x.b = i.b) (hc : form i.op = 1 → x.c = i.c) (hi : form i.op ≠ 1 → x.imm = i.imm) : formed x = formed i := by
  unfold formed
  rw [hop]
  rcases form_vals i.op with e | e | e | e | e | e
  · simp [e]
  · simp [e, ha (by omega) (by omega), hb (by omega), hc e]
  · simp [e, ha (by omega) (by omega), hb (by omega), hi (by omega)]
  · simp [e, ha (by omega) (by omega), hi (by omega)]
  · simp [e, hb (by omega)]
  · simp [e]
set_option maxRecDepth 100000 in
/-- The word of a right instruction is legal, and is that of this one. -/
theorem cut_word {i : I} (h : Right i) : cut (word i) = i := by
  obtain ⟨h1, h2, h3, h4, h5, h6⟩ := right_cases h
  have hop : word i / 67108864 = i.op := by unfold word; rcases h6 with h6 | h6 | h6 | h6 | h6 <;> omega
  have ha : form i.op ≠ 4 → form i.op ≠ 5 → word i / 4194304 % 16 = i.a := by unfold word; rcases h6 with h6 | h6 | h6 | h6 | h6 <;> omega
  have hb : word i / 262144 % 16 = i.b := by unfold word; rcases h6 with h6 | h6 | h6 | h6 | h6 <;> omega
  have hc : form i.op = 1 → word i / 16384 % 16 = i.c := by unfold word; rcases h6 with h6 | h6 | h6 | h6 | h6 <;> omega
  have hi : form i.op ≠ 1 → immOf (word i) = i.imm := by unfold immOf word; split <;> rcases h6 with h6 | h6 | h6 | h6 | h6 <;> omega
  exact (formed_congr (x := fields (word i)) hop ha (fun _ => hb) hc hi).trans (formed_of h)
set_option maxRecDepth 100000 in
theorem legal_word {i : I} (h : Right i) : Legal (word i) := ⟨by rw [cut_word h]; exact h.1, by rw [cut_word h]⟩
set_option maxRecDepth 100000 in
/-- What a legal word is cut into is right. -/
theorem right_cut {w : Int} (h : Legal w) : Right (cut w) := by
  obtain ⟨h1, h2⟩ := h
  obtain ⟨i, hi⟩ : ∃ i, i = fields w := ⟨_, rfl⟩
  have hr : reg i.a ∧ reg i.b ∧ reg i.c ∧ -131072 ≤ i.imm ∧ i.imm ≤ 131071 := by
    rw [hi]; unfold fields reg; dsimp only
    have := immOf_rg w
    omega
  unfold cut at h1 ⊢
  rw [← hi] at h1 ⊢
  clear hi h2
  obtain ⟨op, a, b, c, imm⟩ := i
  have z : reg 0 := by decide
  unfold Right formed at *
  dsimp only at *
  rcases form_vals op with e | e | e | e | e | e
  · simp [e, show form 0 = 0 by decide +kernel] at h1
  all_goals (simp [e] at hr ⊢; simp [hr, z])
set_option maxRecDepth 100000 in
/-- Registers without 0, in ascending order, each once. -/
def regsN (l : List Nat) : List Nat := (List.range 16).filter fun r => r != 0 && l.contains r
set_option maxRecDepth 100000 in
def ra (op : Nat) : Bool := op == 21 || op == 23 || op == 24 || (28 ≤ op && op ≤ 31) || op == 43 || op == 47
set_option maxRecDepth 100000 in
def rb (op : Nat) : Bool := formN op == 1 || formN op == 2 || op == 44
set_option maxRecDepth 100000 in
/-- The registers that an operation with its fields reads. -/
def readN (op a b c : Nat) : List Nat := regsN ((if ra op then [a] else []) ++ (if rb op then [b] else []) ++ (if formN op = 1 then [c] else []))
end Im
end Go.Proofs.YtidhodalnikhlaaGreatDoor

/-
  THE TABLE OF OPERATIONS IN MEMORY.
-/
namespace Go.Proofs.YtidhodalnikhlaaGreatDoor
open Go.RowKit Go.ChangeShapes Go.WideShapes Go.ChangeAt

set_option maxRecDepth 100000 in
/-- The table's cells: name and form, an operation after the other. -/
def opCells : List Value := (List.range 49).flatMap fun k => [.string (Im.nameN k), .int .i64 (Im.formN k : Nat)]
set_option maxRecDepth 100000 in
theorem opCells_len : opCells.length = 98 := by decide +kernel
set_option maxRecDepth 100000 in
theorem flat2 {α : Type} (f g : Nat → α) (n : Nat) : ∀ s k, k < n → ((List.range' s n).flatMap fun k => [f k, g k])[2 * k]? = some (f (s + k)) ∧ ((List.range' s n).flatMap fun k => [f k, g k])[2 * k + 1]? = some (g (s + k)) := by
  induction n with
  | zero => intro s k h; omega
  | succ n ih =>
    intro s k h
    rw [List.range'_succ, List.flatMap_cons]
    rcases k with _ | k
    · simp
    · have := ih (s + 1) k (by omega)
      rw [show s + 1 + k = s + (k + 1) by omega] at this
      rw [show 2 * (k + 1) = 2 * k + 2 by omega, show 2 * k + 2 + 1 = (2 * k + 1) + 2 by omega]
      simpa using this
set_option maxRecDepth 100000 in
theorem opCell0 {k : Nat} (h : k < 49) : opCells[2 * k]? = some (.string (Im.nameN k)) := by
  have := (flat2 (fun k => Value.string (Im.nameN k)) (fun k => Value.int .i64 (Im.formN k : Nat)) 49 0 k h).1
  rw [Nat.zero_add, ← List.range_eq_range'] at this
  exact this
set_option maxRecDepth 100000 in
theorem opCell1 {k : Nat} (h : k < 49) : opCells[2 * k + 1]? = some (.int .i64 (Im.formN k : Nat)) := by
  have := (flat2 (fun k => Value.string (Im.nameN k)) (fun k => Value.int .i64 (Im.formN k : Nat)) 49 0 k h).2
  rw [Nat.zero_add, ← List.range_eq_range'] at this
  exact this
set_option maxRecDepth 100000 in
/-- The table lies in its variable. -/
def Tab (w : World) : Prop := ∃ t fr, w.heap[0]? = some (.cells opCells.toArray t fr)
set_option maxRecDepth 100000 in
theorem Tab.lt {w : World} (h : Tab w) : 0 < w.heap.size := by
  obtain ⟨t, fr, h⟩ := h
  rcases Nat.lt_or_ge 0 w.heap.size with h1 | h1
  · exact h1
  · rw [Array.getElem?_eq_none h1] at h; cases h
set_option maxRecDepth 100000 in
theorem Tab.keep {w w' : World} (h : Tab w) (hb : Later w w') : Tab w' := by
  obtain ⟨t, fr, h1⟩ := h
  exact ⟨t, fr, by rw [hb.block 0 (Tab.lt ⟨t, fr, h1⟩)]; exact h1⟩
set_option maxRecDepth 100000 in
theorem Tab.cell {w : World} (h : Tab w) (j : Nat) : w.cell? ⟨0, j, none⟩ = opCells[j]? := by
  obtain ⟨t, fr, h⟩ := h
  unfold World.cell?
  rw [show w.heap[0]? = _ from h]
  simp
set_option maxRecDepth 100000 in
theorem gTab : Tryz.prog.globalNamed "simulacrum/isa.operations" = some 0 := by kernel_rfl
set_option maxRecDepth 100000 in
theorem tab_data : (Rows.laid_simulacrum_isa_operations : DataW Unit) = .agg ((List.range 49).map fun k => .agg [.lit (.string (Im.nameN k).data.toList), .lit (.int .i64 (Im.formN k : Nat))]) := by kernel_rfl
set_option maxRecDepth 100000 in
theorem tab_of {W : World} {rest : List (String × DataW Unit)} (h : laidMet Tryz.prog (("simulacrum/isa.operations", Rows.laid_simulacrum_isa_operations) :: rest) W) : Tab W := by
  obtain ⟨g, t, cs, fuel, p, h1, h2, h3, h4⟩ := Lib.laidMet.reads h (.head _)
  rw [gTab] at h1
  cases h1
  have ht : (Tryz.prog.globals[0]?).map (·.type) = some 207 := by kernel_rfl
  rw [ht] at h2
  cases h2
  rw [tab_data] at h4
  have hc2 : Tryz.prog.cellsOf 198 = 2 := by kernel_rfl
  obtain ⟨f0, f1, hs, o0, o1, t0, t1⟩ : ∃ f0 f1 : Field, Tryz.prog.underlying 198 = some (.struct #[f0, f1]) ∧ f0.offset = 0 ∧ f1.offset = 1 ∧ f0.type = 9 ∧ f1.type = 3 := ⟨_, _, Tryz.underlying198, rfl, rfl, rfl, rfl⟩
  have c1 : Tryz.prog.cellsOf 9 = 1 := by kernel_rfl
  have c2 : Tryz.prog.cellsOf 3 = 1 := by kernel_rfl
  have hcells : ∀ k, k < 49 → cs.toList[2 * k]? = some (.string (Im.nameN k)) ∧ cs.toList[2 * k + 1]? = some (.int .i64 (Im.formN k : Nat)) := by
    intro k hk
    obtain ⟨fuel', d, q, hd, hx⟩ := Lib.array_elem Tryz.underlying207 h4 k hk
    rw [List.getElem?_map, List.getElem?_range hk] at hd
    cases hd
    rw [hc2] at hx
    obtain ⟨y0, y1, n, he, hl, hy0, hy1⟩ := trod_struct2 hs hx
    rw [o0, t0, c1] at hy0
    rw [o1, t1, c2] at hy1
    obtain ⟨s, hs1, rfl, _⟩ := DataW.trod_string Tryz.underlying9 hy0
    obtain ⟨z, hz1, rfl, _⟩ := DataW.trod_int Tryz.underlying3 hy1
    simp only [Prod.mk.injEq, DataW.agg.injEq, List.cons.injEq, DataW.lit.injEq, Lit.string.injEq, Lit.int.injEq, and_true, true_and] at he
    obtain ⟨⟨e1, e2⟩, _⟩ := he
    have e3 : s = Im.nameN k := by
      apply ByteArray.ext
      apply Array.ext'
      exact e1.symm
    subst e3 e2
    have a := congrArg (·[0]?) hs1
    have b := congrArg (·[0]?) hz1
    simp only [List.getElem?_take, List.getElem?_drop] at a b
    refine ⟨?_, ?_⟩
    · rw [Nat.mul_comm]; simpa using a
    · rw [Nat.mul_comm]; simpa using b
  have hlen : cs.toList.length = 98 := by
    obtain ⟨fuel', h5⟩ : ∃ f, f = fuel := ⟨_, rfl⟩
    cases fuel with
    | zero => simp [DataW.trod] at h4
    | succ fuel =>
      simp only [DataW.trod, Tryz.underlying207] at h4
      split at h4
      · rename_i hl
        exact hl.trans (by kernel_rfl)
      · cases h4
  have hcs : cs = opCells.toArray := by
    apply Array.ext'
    apply List.ext_getElem?
    intro j
    rcases Nat.lt_or_ge j 98 with hj | hj
    · obtain ⟨k, hk⟩ : ∃ k, k = j / 2 := ⟨_, rfl⟩
      have h6 := hcells k (by omega)
      have h7 := opCell0 (k := k) (by omega)
      have h8 := opCell1 (k := k) (by omega)
      rcases Nat.mod_two_eq_zero_or_one j with e | e
      · obtain rfl : j = 2 * k := by omega
        rw [h6.1]; exact h7.symm
      · obtain rfl : j = 2 * k + 1 := by omega
        rw [h6.2]; exact h8.symm
    · rw [List.getElem?_eq_none (by omega), List.getElem?_eq_none (by rw [List.toList_toArray, opCells_len]; exact hj)]
  unfold World.var? at h3
  rw [gTab] at h3
  simp only [Option.bind_some] at h3
  split at h3
  · rename_i c t fr hh
    cases h3
    exact ⟨t, fr, by rw [hh, hcs]⟩
  · cases h3
end Go.Proofs.YtidhodalnikhlaaGreatDoor

/-
  THE WALKS OF isa.about, Form, Name.
-/
namespace Go.Proofs.YtidhodalnikhlaaGreatDoor
open Go.RowKit Go.ChangeShapes Go.WideShapes Go.ChangeAt

set_option maxRecDepth 100000 in
theorem load_ops (w : World) (tab : Tab w) (k : Nat) (h : k < 49) : w.cell? ⟨0, k * 2, none⟩ = some (.string (Im.nameN k)) ∧ w.cell? ⟨0, k * 2 + 1, none⟩ = some (.int .i64 (Im.formN k : Nat)) := by
  rw [tab.cell, tab.cell, Nat.mul_comm]
  exact ⟨opCell0 h, opCell1 h⟩
set_option maxRecDepth 100000 in
theorem op_f1 (x y : Value) (w : World) : (Instr.field 198 (.agg #[x, y]) 1).run Tryz.prog w = .ok y w := by kernel_rfl
set_option maxRecDepth 100000 in
theorem op_ret {w : World} {fn : Func} {p : Tmp} (h : fn.results = #[.cell p 198]) (tmps : Array Value) (g : Nat) (t : TypeId) (x y : Value)
    (hp : tmps.getD p undef = .pointer (some ⟨g, 0, none⟩)) (hg : Blk w g t [x, y]) : (results fn tmps).run Tryz.prog w = .ok (.agg #[x, y]) w :=
  results_blk h tmps w g t [x, y] _ hp hg Tryz.underlying198 rfl (by kernel_rfl)
set_option maxRecDepth 100000 in
theorem about_any (op : Int) (w : World) (tab : Tab w) :
    Calls Tryz.prog 135 #[.int .i64 op] w fun e w' => e = .returned (.agg #[.string (Im.name op), .int .i64 (Im.form op)]) ∧ Later w w' := by
  rcases Classical.em (op < 0 ∨ 49 ≤ op) with h | h
  · rw [Im.name_out h, Im.form_out h]
    rcases h with h | h
    · go_enter Tryz.func135, Tryz.ntmps135
      go_wp2
      exact bodyPost_ret (v := .agg _) (op_ret Tryz.results135 _ w.heap.size _ _ _ rfl (Blk.new _ _ _ _ rfl)) rfl ⟨rfl, later1 _ _⟩
    · have h0 : ¬ op < 0 := by omega
      go_enter Tryz.func135, Tryz.ntmps135
      go_wp2
      exact bodyPost_ret (v := .agg _) (op_ret Tryz.results135 _ w.heap.size _ _ _ rfl (Blk.new _ _ _ _ rfl)) rfl ⟨rfl, later1 _ _⟩
  · obtain ⟨k, rfl⟩ := Int.eq_ofNat_of_zero_le (show 0 ≤ op by omega)
    have hk : k < 49 := by omega
    have c0 := fun o => (load_ops _ (tab.keep (later1 w o)) k hk).1
    have c1 := fun o => (load_ops _ (tab.keep (later1 w o)) k hk).2
    rw [Im.name_nat, Im.form_nat]
    have h0 : ¬ ((k : Int) < 0) := by omega
    have h1 : ¬ (49 ≤ (k : Int)) := by omega
    go_enter Tryz.func135, Tryz.ntmps135
    go_wp2
    exact bodyPost_ret (v := .agg _) (op_ret Tryz.results135 _ w.heap.size _ _ _ rfl (Blk.new _ _ _ _ rfl)) rfl ⟨rfl, later1 _ _⟩

set_option maxRecDepth 100000 in
theorem form_any (op : Int) (w : World) (tab : Tab w) : Calls Tryz.prog 93 #[.int .i64 op] w fun e w' => e = .returned (.int .i64 (Im.form op)) ∧ Later w w' := by
  have H := Lib.hid (about_any op w tab)
  have hf := op_f1
  clear tab
  go_enter Tryz.func93, Tryz.ntmps93
  go_wp2_with (go_at_call 135; refine H.out.mono ?_; rintro e w1 ⟨rfl, l1⟩)
  go_ret
  exact ⟨rfl, l1⟩
end Go.Proofs.YtidhodalnikhlaaGreatDoor

/-
  THE WALKS OF isa.word, formed, isRegister.
-/
namespace Go.Proofs.YtidhodalnikhlaaGreatDoor
open Go.RowKit Go.ChangeShapes Go.WideShapes Go.ChangeAt

set_option maxRecDepth 100000 in
/-- An instruction as a value, as cells. -/
def Im.I.cells (i : Im.I) : List Value := [.int .i64 i.op, .int .i64 i.a, .int .i64 i.b, .int .i64 i.c, .int .i64 i.imm]
set_option maxRecDepth 100000 in
theorem ins_one (i : Im.I) : ∀ v ∈ i.cells, v.oneCell' = true := by
  intro v hv
  unfold Im.I.cells at hv
  simp only [List.mem_cons, List.not_mem_nil, or_false] at hv
  rcases hv with rfl | rfl | rfl | rfl | rfl <;> rfl
set_option maxRecDepth 100000 in
theorem ins_len (i j : Im.I) : i.cells.length = j.cells.length := rfl
set_option maxRecDepth 100000 in
theorem ins_sz (i : Im.I) : (Tryz.prog.info? 70).map (·.size) = some i.cells.length := by
  show _ = some 5
  kernel_rfl
set_option maxRecDepth 100000 in
theorem isReg_any (r : Int) (w : World) : Calls Tryz.prog 161 #[.int .i64 r] w fun e w' => e = .returned (.bool (decide (Im.reg r))) ∧ w = w' := by
  rcases Int.lt_or_le r 0 with h0 | h0
  · rw [decide_eq_false (by unfold Im.reg; omega)]
    go_enter Tryz.func161, Tryz.ntmps161
    go_wp2
    go_ret
    exact ⟨rfl, rfl⟩
  · rcases Int.lt_or_le r 16 with h1 | h1
    · rw [decide_eq_true (by unfold Im.reg; omega)]
      go_enter Tryz.func161, Tryz.ntmps161
      go_wp2
      go_ret
      exact ⟨rfl, rfl⟩
    · rw [decide_eq_false (by unfold Im.reg; omega)]
      have h2 : ¬ r < 16 := by omega
      go_enter Tryz.func161, Tryz.ntmps161
      go_wp2
      go_ret
      exact ⟨rfl, rfl⟩

set_option maxRecDepth 100000 in
theorem and_mod (y : Nat) (hy : y < 4294967296) : bits .and .u32 (y : Int) 262143 = ((y % 262144 : Nat) : Int) := by
  show IntKind.u32.wrap ((BitVec.ofInt 32 (y : Int) &&& BitVec.ofInt 32 ((262143 : Nat) : Int)).toNat : Int) = _
  rw [BitVec.ofInt_natCast, BitVec.ofInt_natCast, BitVec.toNat_and, BitVec.toNat_ofNat, BitVec.toNat_ofNat, Nat.mod_eq_of_lt (by omega), Nat.mod_eq_of_lt (by omega)]
  have h := Nat.and_two_pow_sub_one_eq_mod y 18
  rw [show 2 ^ 18 - 1 = 262143 from rfl, show 2 ^ 18 = 262144 from rfl] at h
  rw [h, IntKind.wrap_u32]
  omega
set_option maxRecDepth 100000 in
theorem word_bits {op a b c imm : Int} (h1 : 0 ≤ op ∧ op < 64) (h2 : 0 ≤ a ∧ a < 16) (h3 : 0 ≤ b ∧ b < 16) (h4 : 0 ≤ c ∧ c < 16) (h5 : c = 0 ∨ imm = 0) :
    bits .or .u32 (bits .or .u32 (bits .or .u32 (bits .or .u32 (op % 4294967296 * 67108864 % 4294967296) (a % 4294967296 * 4194304 % 4294967296)) (b % 4294967296 * 262144 % 4294967296)) (c % 4294967296 * 16384 % 4294967296)) (bits .and .u32 (imm % 4294967296) 262143 % 4294967296) = Im.word ⟨op, a, b, c, imm⟩ := by
  obtain ⟨o, rfl⟩ := Int.eq_ofNat_of_zero_le h1.1
  obtain ⟨x, rfl⟩ := Int.eq_ofNat_of_zero_le h2.1
  obtain ⟨y, rfl⟩ := Int.eq_ofNat_of_zero_le h3.1
  obtain ⟨z, rfl⟩ := Int.eq_ofNat_of_zero_le h4.1
  obtain ⟨i, hi⟩ := Int.eq_ofNat_of_zero_le (show 0 ≤ imm % 4294967296 by omega)
  have e1 : ((o : Int) % 4294967296 * 67108864 % 4294967296) = ((o * 2 ^ 26 : Nat) : Int) := by rw [Int.natCast_mul]; omega
  have e2 : ((x : Int) % 4294967296 * 4194304 % 4294967296) = ((x * 4194304 : Nat) : Int) := by rw [Int.natCast_mul]; omega
  have e3 : ((y : Int) % 4294967296 * 262144 % 4294967296) = ((y * 262144 : Nat) : Int) := by rw [Int.natCast_mul]; omega
  have e4 : ((z : Int) % 4294967296 * 16384 % 4294967296) = ((z * 16384 : Nat) : Int) := by rw [Int.natCast_mul]; omega
  have e5 : bits .and .u32 (imm % 4294967296) 262143 % 4294967296 = ((i % 262144 : Nat) : Int) := by rw [hi, and_mod i (by omega)]; omega
  rw [e1, e2, e3, e4, e5]
  rw [or_add 26 o (x * 4194304) (by omega) (by omega)]
  rw [show o * 2 ^ 26 + x * 4194304 = (o * 16 + x) * 2 ^ 22 by omega, or_add 22 (o * 16 + x) (y * 262144) (by omega) (by omega)]
  rw [show (o * 16 + x) * 2 ^ 22 + y * 262144 = ((o * 16 + x) * 16 + y) * 2 ^ 18 by omega, or_add 18 ((o * 16 + x) * 16 + y) (z * 16384) (by omega) (by omega)]
  unfold Im.word
  rcases h5 with h5 | h5
  · obtain rfl : z = 0 := by omega
    rw [show ((o * 16 + x) * 16 + y) * 2 ^ 18 + 0 * 16384 = ((o * 16 + x) * 16 + y) * 2 ^ 18 by omega, or_add 18 ((o * 16 + x) * 16 + y) (i % 262144) (by omega) (by omega)]
    dsimp only
    omega
  · obtain rfl : i = 0 := by omega
    rw [show ((o * 16 + x) * 16 + y) * 2 ^ 18 + z * 16384 = ((((o * 16 + x) * 16 + y) * 16 + z) * 2 ^ 14) by omega, or_add 14 _ (0 % 262144) (by omega) (by omega)]
    dsimp only
    omega
set_option maxRecDepth 100000 in
theorem word_any (op a b c imm : Int) (w : World) (h1 : 0 ≤ op ∧ op < 64) (h2 : 0 ≤ a ∧ a < 16) (h3 : 0 ≤ b ∧ b < 16) (h4 : 0 ≤ c ∧ c < 16) (h5 : c = 0 ∨ imm = 0) :
    Calls Tryz.prog 94 #[.agg #[.int .i64 op, .int .i64 a, .int .i64 b, .int .i64 c, .int .i64 imm]] w fun e w' => e = .returned (.int .u32 (Im.word ⟨op, a, b, c, imm⟩)) ∧ Later w w' := by
  have hw := Lib.hid (word_bits (imm := imm) h1 h2 h3 h4 h5)
  clear h1 h2 h3 h4 h5
  go_enter Tryz.func94, Tryz.ntmps94
  go_wp2
  rw [hw.out]
  go_ret
  exact ⟨rfl, later1 _ _⟩

set_option maxRecDepth 100000 in
theorem ins_ret {w : World} {fn : Func} {p : Tmp} (h : fn.results = #[.cell p 70]) (tmps : Array Value) (g : Nat) (t : TypeId) (i : Im.I)
    (hp : tmps.getD p undef = .pointer (some ⟨g, 0, none⟩)) (hg : Blk w g t i.cells) : (results fn tmps).run Tryz.prog w = .ok (.agg i.cells.toArray) w :=
  results_blk h tmps w g t i.cells _ hp hg Tryz.underlying70 rfl (by kernel_rfl)
set_option maxRecDepth 100000 in
theorem formed_any (op a b c imm : Int) (w : World) (tab : Tab w) :
    Calls Tryz.prog 92 #[.agg #[.int .i64 op, .int .i64 a, .int .i64 b, .int .i64 c, .int .i64 imm]] w fun e w' => e = .returned (.agg (Im.formed ⟨op, a, b, c, imm⟩).cells.toArray) ∧ Later w w' := by
  have HF := Lib.hid (fun o o' => form_any op _ ((tab.keep (later1 w o)).keep (later1 _ o')))
  clear tab
  obtain ⟨F, hF⟩ : ∃ F, F = Im.formed ⟨op, a, b, c, imm⟩ := ⟨_, rfl⟩
  rw [← hF]
  unfold Im.formed at hF
  rcases Im.form_vals op with e | e | e | e | e | e
  all_goals
    rw [e] at HF
    simp [e] at hF
    have hG := Lib.hid hF
    clear hF
    go_enter Tryz.func92, Tryz.ntmps92
    go_wp2_with (first
      | (go_at_call 93; refine (HF.out _ _).mono ?_; rintro e w1 ⟨rfl, l1⟩; have b0 : Blk w1 w.heap.size 70 (Im.I.cells ⟨op, a, b, c, imm⟩) := ((Blk.new _ _ _ _ rfl).alloc _).keep l1; have b1 : Blk w1 (w.heap.size + 1) 70 (Im.I.cells ⟨0, 0, 0, 0, 0⟩) := (Blk.new' _ _ _ _ _ (by simp) rfl).keep l1; have c0 := b0.cell (j := 0) rfl; have c1 := b0.cell (j := 1) rfl; have c2 := b0.cell (j := 2) rfl; have c3 := b0.cell (j := 3) rfl; have c4 := b0.cell (j := 4) rfl; have z1 := Lib.hid b1; clear b0 b1)
      | ((with_reducible refine wpList_store_abs (o := ⟨none, .store 70 (.tmp 2) _, _, _, _, none⟩) rfl _ _ _ rfl (w.heap.size + 1) 70 (Im.I.cells ⟨0, 0, 0, 0, 0⟩) F.cells ?_ ?_ z1.out (ins_sz _) (ins_len _ _) (ins_one _) ?_); rfl; (rw [hG.out]; rfl); intro w5 y1 y2))
    exact bodyPost_ret (v := .agg F.cells.toArray) (ins_ret Tryz.results92 _ (w.heap.size + 1) _ F rfl y1) rfl ⟨rfl, Below.only (Later.trans_ ((later1 _ _).alloc (by simp) _) l1) y2 (by omega)⟩
end Go.Proofs.YtidhodalnikhlaaGreatDoor
