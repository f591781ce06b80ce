/-
  PLAIN FACTS, OF NO PROGRAM: instructions and their words.
-/
namespace Go.Proofs.YtbnlpkjjdijfmabDoor
namespace Im

def names : List ByteArray := [⟨#[]⟩, ⟨#[97, 100, 100]⟩, ⟨#[115, 117, 98]⟩, ⟨#[97, 110, 100]⟩, ⟨#[111, 114]⟩, ⟨#[120, 111, 114]⟩, ⟨#[115, 104, 108]⟩, ⟨#[115, 104, 114]⟩, ⟨#[109, 117, 108]⟩, ⟨#[100, 105, 118]⟩, ⟨#[114, 101, 109]⟩, ⟨#[115, 108, 116]⟩, ⟨#[115, 108, 116, 117]⟩, ⟨#[]⟩, ⟨#[]⟩, ⟨#[]⟩, ⟨#[97, 100, 100, 105]⟩, ⟨#[104, 105, 103, 104]⟩, ⟨#[]⟩, ⟨#[]⟩, ⟨#[108, 119]⟩, ⟨#[115, 119]⟩, ⟨#[108, 98]⟩, ⟨#[115, 98]⟩, ⟨#[115, 119, 97, 112]⟩, ⟨#[]⟩, ⟨#[]⟩, ⟨#[]⟩, ⟨#[98, 101, 113]⟩, ⟨#[98, 110, 101]⟩, ⟨#[98, 108, 116]⟩, ⟨#[98, 108, 116, 117]⟩, ⟨#[106, 97, 108]⟩, ⟨#[106, 97, 108, 114]⟩, ⟨#[]⟩, ⟨#[]⟩, ⟨#[]⟩, ⟨#[]⟩, ⟨#[]⟩, ⟨#[]⟩, ⟨#[101, 99, 97, 108, 108]⟩, ⟨#[101, 114, 101, 116]⟩, ⟨#[99, 115, 114, 114]⟩, ⟨#[99, 115, 114, 119]⟩, ⟨#[102, 108, 117, 115, 104]⟩, ⟨#[119, 97, 105, 116]⟩, ⟨#[105, 110]⟩, ⟨#[111, 117, 116]⟩, ⟨#[104, 97, 108, 116]⟩]
def forms : List Nat := [0, 1, 1, 1, 1, 1, 1, 1, 1, 1, 1, 1, 1, 0, 0, 0, 2, 3, 0, 0, 2, 2, 2, 2, 2, 0, 0, 0, 2, 2, 2, 2, 3, 2, 0, 0, 0, 0, 0, 0, 5, 5, 3, 3, 4, 5, 3, 3, 5]
/-- Name and form of an operation, by number. -/
def nameN (k : Nat) : ByteArray := names.getD k ⟨#[]⟩
def formN (k : Nat) : Nat := forms.getD k 0
def name (op : Int) : ByteArray := if 0 ≤ op then nameN op.toNat else ⟨#[]⟩
def form (op : Int) : Int := if 0 ≤ op then (formN op.toNat : Nat) else 0
theorem names_len : names.length = 49 := by decide +kernel
theorem forms_len : forms.length = 49 := by decide +kernel
theorem formN_out {k : Nat} (h : 49 ≤ k) : formN k = 0 := by unfold formN; rw [List.getD_eq_getElem?_getD, List.getElem?_eq_none (by rw [forms_len]; exact h)]; rfl
theorem nameN_out {k : Nat} (h : 49 ≤ k) : nameN k = ⟨#[]⟩ := by unfold nameN; rw [List.getD_eq_getElem?_getD, List.getElem?_eq_none (by rw [names_len]; exact h)]; rfl
theorem form_nat (k : Nat) : form (k : Int) = (formN k : Nat) := by unfold form; rw [if_pos (by omega)]; rfl
theorem name_nat (k : Nat) : name (k : Int) = nameN k := by unfold name; rw [if_pos (by omega)]; rfl
theorem form_out {op : Int} (h : op < 0 ∨ 49 ≤ op) : form op = 0 := by
  unfold form
  split
  · rw [formN_out (by omega)]; rfl
  · rfl
theorem name_out {op : Int} (h : op < 0 ∨ 49 ≤ op) : name op = ⟨#[]⟩ := by
  unfold name
  split
  · rw [nameN_out (by omega)]
  · rfl
/-- The numbers that are operations. -/
def opsL : List Nat := [1, 2, 3, 4, 5, 6, 7, 8, 9, 10, 11, 12, 16, 17, 20, 21, 22, 23, 24, 28, 29, 30, 31, 32, 33, 40, 41, 42, 43, 44, 45, 46, 47, 48]
theorem ops_all : ∀ k : Fin 49, formN k.1 ≠ 0 → k.1 ∈ opsL := by decide +kernel
theorem form_op {op : Int} (h : form op ≠ 0) : ∃ k ∈ opsL, op = (k : Nat) := by
  have h1 : ¬ (op < 0 ∨ 49 ≤ op) := fun hh => h (form_out hh)
  obtain ⟨k, rfl⟩ := Int.eq_ofNat_of_zero_le (show 0 ≤ op by omega)
  refine ⟨k, ops_all ⟨k, by omega⟩ ?_, rfl⟩
  intro e
  apply h
  show form (k : Int) = 0
  rw [form_nat, show formN k = 0 from e]; rfl
theorem form_range {op : Int} (h : form op ≠ 0) : 1 ≤ op ∧ op ≤ 48 := by
  obtain ⟨k, hk, rfl⟩ := form_op h
  have h1 : ∀ k ∈ opsL, 1 ≤ k ∧ k ≤ 48 := by decide +kernel
  have := h1 k hk
  omega
theorem formN_le : ∀ k : Fin 49, formN k.1 ≤ 5 := by decide +kernel
theorem form_vals (op : Int) : form op = 0 ∨ form op = 1 ∨ form op = 2 ∨ form op = 3 ∨ form op = 4 ∨ form op = 5 := by
  rcases Classical.em (op < 0 ∨ 49 ≤ op) with h | h
  · exact .inl (form_out h)
  · obtain ⟨k, rfl⟩ := Int.eq_ofNat_of_zero_le (show 0 ≤ op by omega)
    have h1 := formN_le ⟨k, by omega⟩
    rw [form_nat k]
    have h2 : formN k ≤ 5 := h1
    omega

/-- An instruction. -/
structure I where
  op : Int
  a : Int
  b : Int
  c : Int
  imm : Int
deriving DecidableEq

def formed (i : I) : I :=
  if form i.op = 1 then ⟨i.op, i.a, i.b, i.c, 0⟩ else if form i.op = 2 then ⟨i.op, i.a, i.b, 0, i.imm⟩ else if form i.op = 3 then ⟨i.op, i.a, 0, 0, i.imm⟩
  else if form i.op = 4 then ⟨i.op, 0, i.b, 0, 0⟩ else if form i.op = 5 then ⟨i.op, 0, 0, 0, 0⟩ else ⟨0, 0, 0, 0, 0⟩
def reg (r : Int) : Prop := 0 ≤ r ∧ r < 16
instance (r : Int) : Decidable (reg r) := inferInstanceAs (Decidable (_ ∧ _))
/-- A right instruction. -/
def Right (i : I) : Prop := form i.op ≠ 0 ∧ i = formed i ∧ reg i.a ∧ reg i.b ∧ reg i.c ∧ -131072 ≤ i.imm ∧ i.imm ≤ 131071
instance (i : I) : Decidable (Right i) := inferInstanceAs (Decidable (_ ∧ _))
/-- The word of a right instruction. -/
def word (i : I) : Int := i.op * 67108864 + i.a * 4194304 + i.b * 262144 + i.c * 16384 + i.imm % 262144
/-- The fields of a word. -/
def immOf (w : Int) : Int := if w % 262144 > 131071 then w % 262144 - 262144 else w % 262144
def fields (w : Int) : I := ⟨w / 67108864, w / 4194304 % 16, w / 262144 % 16, w / 16384 % 16, immOf w⟩
def cut (w : Int) : I := formed (fields w)
/-- Whether a word is legal. -/
def Legal (w : Int) : Prop := form (cut w).op ≠ 0 ∧ word (cut w) = w
instance (w : Int) : Decidable (Legal w) := inferInstanceAs (Decidable (_ ∧ _))
theorem immOf_rg (w : Int) : -131072 ≤ immOf w ∧ immOf w ≤ 131071 ∧ immOf w % 262144 = w % 262144 := by unfold immOf; split <;> omega

theorem right_cases {i : I} (h : Right i) :
    (1 ≤ i.op ∧ i.op ≤ 48) ∧ (0 ≤ i.a ∧ i.a ≤ 15) ∧ (0 ≤ i.b ∧ i.b ≤ 15) ∧ (0 ≤ i.c ∧ i.c ≤ 15) ∧ (-131072 ≤ i.imm ∧ i.imm ≤ 131071) ∧
    (form i.op = 1 ∧ i.imm = 0 ∨ form i.op = 2 ∧ i.c = 0 ∨ form i.op = 3 ∧ i.b = 0 ∧ i.c = 0 ∨ form i.op = 4 ∧ i.a = 0 ∧ i.c = 0 ∧ i.imm = 0 ∨ form i.op = 5 ∧ i.a = 0 ∧ i.b = 0 ∧ i.c = 0 ∧ i.imm = 0) := by
  obtain ⟨h1, h2, h3, h4, h5, h6, h7⟩ := h
  have h8 := form_range h1
  unfold reg at h3 h4 h5
  refine ⟨h8, ⟨h3.1, by omega⟩, ⟨h4.1, by omega⟩, ⟨h5.1, by omega⟩, ⟨h6, h7⟩, ?_⟩
  obtain ⟨op, a, b, c, imm⟩ := i
  unfold formed at h2
  dsimp only at h1 h2 ⊢
  rcases form_vals op with e | e | e | e | e | e
  · exact absurd e h1
  all_goals (simp [e] at h2 ⊢; omega)
theorem word_bd {i : I} (h : Right i) : 0 ≤ word i ∧ word i < 4294967296 := by
  obtain ⟨h1, h2, h3, h4, h5, h6⟩ := right_cases h
  unfold word; rcases h6 with h6 | h6 | h6 | h6 | h6 <;> omega
theorem formed_of {i : I} (h : Right i) : formed i = i := h.2.1.symm
theorem formed_congr {x i : I} (hop : x.op = i.op) (ha : form i.op ≠ 4 → form i.op ≠ 5 → x.a = i.a) (hb : form i.op ≠ 3 → x.b = i.b) (hc : form i.op = 1 → x.c = i.c) (hi : form i.op ≠ 1 → x.imm = i.imm) : formed x = formed i := by
  unfold formed
  rw [hop]
  rcases form_vals i.op with e | e | e | e | e | e
  · simp [e]
  · simp [e, ha (by omega) (by omega), hb (by omega), hc e]
  · simp [e, ha (by omega) (by omega), hb (by omega), hi (by omega)]
  · simp [e, ha (by omega) (by omega), hi (by omega)]
  · simp [e, hb (by omega)]
  · simp [e]
/-- The word of a right instruction is legal, and is that of this one. -/
theorem cut_word {i : I} (h : Right i) : cut (word i) = i := by
  obtain ⟨h1, h2, h3, h4, h5, h6⟩ := right_cases h
  have hop : word i / 67108864 = i.op := by unfold word; rcases h6 with h6 | h6 | h6 | h6 | h6 <;> omega
  have ha : form i.op ≠ 4 → form i.op ≠ 5 → word i / 4194304 % 16 = i.a := by unfold word; rcases h6 with h6 | h6 | h6 | h6 | h6 <;> omega
  have hb : word i / 262144 % 16 = i.b := by unfold word; rcases h6 with h6 | h6 | h6 | h6 | h6 <;> omega
  have hc : form i.op = 1 → word i / 16384 % 16 = i.c := by unfold word; rcases h6 with h6 | h6 | h6 | h6 | h6 <;> omega
  have hi : form i.op ≠ 1 → immOf (word i) = i.imm := by unfold immOf word; split <;> rcases h6 with h6 | h6 | h6 | h6 | h6 <;> omega
  exact (formed_congr (x := fields (word i)) hop ha (fun _ => hb) hc hi).trans (formed_of h)
theorem legal_word {i : I} (h : Right i) : Legal (word i) := ⟨by rw [cut_word h]; exact h.1, by rw [cut_word h]⟩
/-- What a legal word is cut into is right. -/
theorem right_cut {w : Int} (h : Legal w) : Right (cut w) := by
  obtain ⟨h1, h2⟩ := h
  obtain ⟨i, hi⟩ : ∃ i, i = fields w := ⟨_, rfl⟩
  have hr : reg i.a ∧ reg i.b ∧ reg i.c ∧ -131072 ≤ i.imm ∧ i.imm ≤ 131071 := by
    rw [hi]; unfold fields reg; dsimp only
    have := immOf_rg w
    omega
  unfold cut at h1 ⊢
  rw [← hi] at h1 ⊢
  clear hi h2
  obtain ⟨op, a, b, c, imm⟩ := i
  have z : reg 0 := by decide
  unfold Right formed at *
  dsimp only at *
  rcases form_vals op with e | e | e | e | e | e
  · simp [e, show form 0 = 0 by decide +kernel] at h1
  all_goals (simp [e] at hr ⊢; simp [hr, z])
theorem cut_inj {v w : Int} (hv : Legal v) (hw : Legal w) (h : cut v = cut w) : v = w := by rw [← hv.2, ← hw.2, h]
theorem word_inj {i j : I} (hi : Right i) (hj : Right j) (h : word i = word j) : i = j := by rw [← cut_word hi, ← cut_word hj, h]

/-- Registers without 0, in ascending order, each once. -/
def regsN (l : List Nat) : List Nat := (List.range 16).filter fun r => r != 0 && l.contains r
def ra (op : Nat) : Bool := op == 21 || op == 23 || op == 24 || (28 ≤ op && op ≤ 31) || op == 43 || op == 47
def rb (op : Nat) : Bool := formN op == 1 || formN op == 2 || op == 44
/-- The registers that an operation with its fields reads. -/
def readN (op a b c : Nat) : List Nat := regsN ((if ra op then [a] else []) ++ (if rb op then [b] else []) ++ (if formN op = 1 then [c] else []))
end Im
end Go.Proofs.YtbnlpkjjdijfmabDoor
