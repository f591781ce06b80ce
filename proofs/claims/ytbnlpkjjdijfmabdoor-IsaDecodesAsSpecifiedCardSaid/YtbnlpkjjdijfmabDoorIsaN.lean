/-
  THE STATEMENT IsaTargetsTurnBack, walked.
-/
import Derived.Test.YtbnlpkjjdijfmabDoorIsaK
namespace Go.Proofs.YtbnlpkjjdijfmabDoor
open Go.RowKit Go.ChangeShapes Go.WideShapes Go.ChangeAt

def regs1 (x : Int) : List Int := if x = 0 then [] else [x]
def regs2 (x y : Int) : List Int := if x = 0 then regs1 y else if y = 0 ∨ y = x then [x] else if x ≤ y then [x, y] else [y, x]
theorem ms1 (x : Int) : [x].mergeSort (fun x y => decide (x ≤ y)) = [x] := by simp
theorem ms0 : ([] : List Int).mergeSort (fun x y => decide (x ≤ y)) = [] := by simp
theorem regsI_one (x : Int) : regsI [x] = regs1 x := by
  unfold regsI regs1 pushes pushI
  by_cases h : x = 0
  · simp [h]
  · simp [h]
theorem regsI_two (x y : Int) : regsI [x, y] = regs2 x y := by
  unfold regs2 regs1
  by_cases h : x = 0
  · subst h
    by_cases h2 : y = 0
    · subst h2; simp [regsI, pushes, pushI]
    · simp [regsI, pushes, pushI, h2]
  · by_cases h2 : y = 0 ∨ y = x
    · have e : pushes [x, y] = [x] := by
        rcases h2 with h2 | h2
        · simp [pushes, pushI, h, h2]
        · simp [pushes, pushI, h, h2]
      rw [if_neg h, if_pos h2]
      unfold regsI
      rw [e, ms1]
    · have h3 : y ≠ 0 := fun e => h2 (.inl e)
      have h4 : y ≠ x := fun e => h2 (.inr e)
      have e : pushes [x, y] = [x, y] := by simp [pushes, pushI, h, h3, h4]
      rw [if_neg h, if_neg h2]
      unfold regsI
      rw [e, ms2]
/-- Registers, strictly ascending. -/
def Asc : List Int → Prop
  | [] => True
  | [x] => 1 ≤ x ∧ x ≤ 15
  | [x, y] => 1 ≤ x ∧ x < y ∧ y ≤ 15
  | _ => False
theorem asc_one {x : Int} (h : 0 ≤ x ∧ x ≤ 15) : Asc (regs1 x) := by
  unfold regs1
  split
  · trivial
  · exact ⟨by omega, by omega⟩
theorem asc_two {x y : Int} (h : 0 ≤ x ∧ x ≤ 15) (h' : 0 ≤ y ∧ y ≤ 15) : Asc (regs2 x y) := by
  unfold regs2
  split
  · exact asc_one h'
  · split
    · exact ⟨by omega, by omega⟩
    · rename_i h2
      have h3 : y ≠ 0 := fun e => h2 (.inl e)
      have h4 : y ≠ x := fun e => h2 (.inr e)
      split
      · exact ⟨by omega, by omega, by omega⟩
      · exact ⟨by omega, by omega, by omega⟩
theorem readL_asc {i : Im.I} (h : Im.Right i) : Asc (readL i) := by
  obtain ⟨_, h2, h3, h4, _, _⟩ := Im.right_cases h
  unfold readL
  split
  · rw [regsI_one]; exact asc_one h3
  · split
    · rw [regsI_two]; exact asc_two h2 h3
    · split
      · rw [regsI_one]; exact asc_one h2
      · split
        · rw [regsI_two]; exact asc_two h3 h4
        · trivial
theorem right_opp {i : Im.I} (h : Im.Right i) (ht : isT i.op = true) : Im.Right ⟨i.op, i.a, i.b, i.c, -i.imm⟩ ↔ i.imm ≠ -131072 := by
  obtain ⟨op, a, b, c, imm⟩ := i
  have hf : Im.form op = 2 ∨ Im.form op = 3 := by
    simp only [isT, Bool.or_eq_true, beq_iff_eq] at ht
    rcases ht with (((rfl | rfl) | rfl) | rfl) | rfl
    · exact .inl (by decide +kernel)
    · exact .inl (by decide +kernel)
    · exact .inl (by decide +kernel)
    · exact .inl (by decide +kernel)
    · exact .inr (by decide +kernel)
  obtain ⟨h1, h2, h3, h4, h5, h6, h7⟩ := h
  unfold Im.Right
  dsimp only at *
  constructor
  · rintro ⟨-, -, -, -, -, -, g⟩ e
    omega
  · intro hne
    refine ⟨h1, ?_, h3, h4, h5, by omega, by omega⟩
    unfold Im.formed at h2 ⊢
    dsimp only at h2 ⊢
    rcases hf with e | e
    · simp [e] at h2 ⊢; exact h2
    · simp [e] at h2 ⊢; exact h2
theorem asc_len {l : List Int} (h : Asc l) : l.length ≤ 2 := by
  match l, h with
  | [], _ => decide
  | [x], _ => exact Nat.le_succ 1
  | [x, y], _ => exact Nat.le_refl 2
theorem asc_at {l : List Int} (h : Asc l) (k : Nat) (hk : k < l.length) : 1 ≤ l[k] ∧ l[k] ≤ 15 ∧ ∀ j, k = j + 1 → ∃ hj : j < l.length, l[j] < l[k] := by
  match l, h, k, hk with
  | [x], h, 0, _ => exact ⟨h.1, h.2, fun j hj => by omega⟩
  | [x, y], h, 0, _ => exact ⟨h.1, by have := h.2; show x ≤ 15; omega, fun j hj => by omega⟩
  | [x, y], h, 1, _ => exact ⟨by have := h.1; have := h.2.1; show 1 ≤ y; omega, h.2.2, fun j hj => by
      obtain rfl : j = 0 := by omega
      exact ⟨by simp, h.2.1⟩⟩
set_option maxRecDepth 100000 in
set_option maxHeartbeats 4000000 in
theorem turns_nz (pc : Int) (i : Im.I) (l : List Int) (w : World) (hasc : Asc l)
    (RI : Hid (∀ w' : World, Later w w' → Calls Tryd.prog 11 #[.agg #[.int .i64 i.op, .int .i64 i.a, .int .i64 i.b, .int .i64 i.c, .int .i64 i.imm]] w' fun e w'' => e = .returned (.bool true) ∧ Later w' w''))
    (RD : Hid (∀ w' : World, Later w w' → Calls Tryd.prog 17 #[.agg #[.int .i64 i.op, .int .i64 i.a, .int .i64 i.b, .int .i64 i.c, .int .i64 i.imm]] w' (MadeI l w')))
    (WR : Hid (∀ w' : World, Later w w' → Calls Tryd.prog 19 #[.agg #[.int .i64 i.op, .int .i64 i.a, .int .i64 i.b, .int .i64 i.c, .int .i64 i.imm]] w' fun e w'' => e = .returned (.int .i64 0) ∧ Later w' w''))
    (TG : Hid (∀ w' : World, Later w w' → Calls Tryd.prog 14 #[.int .u32 pc, .agg #[.int .i64 i.op, .int .i64 i.a, .int .i64 i.b, .int .i64 i.c, .int .i64 i.imm]] w' fun e w'' => e = .returned (.tuple #[.int .u32 0, .bool false]) ∧ Later w' w''))
    (SA : Hid (∀ w' : World, Later w w' → Calls Tryd.prog 13 #[] w' fun e w'' => e = .returned (.bool true) ∧ Later w' w'')) :
    Calls Tryd.prog 8 #[.agg #[.int .i64 i.op, .int .i64 i.a, .int .i64 i.b, .int .i64 i.c, .int .i64 i.imm], .int .u32 pc] w fun e w' => e = .returned (.bool true) ∧ Later w w' := by
  have HA := Lib.hid (@asc_at l hasc)
  have hl2 : l.length ≤ 2 := asc_len hasc
  clear hasc
  go_enter Tryd.func8, Tryd.ntmps8
  go_wp2_with (first
    | (go_at_call 11; (with_reducible refine (RI.out _ (later1 _ _)).mono ?_); rintro e w1 ⟨rfl, h1⟩; have l1 := Later.trans_ (later1 _ _) h1; have b1 : Blk w1 w.heap.size 23 (Im.I.cells i) := (Blk.new _ _ _ _ rfl).keep h1; obtain ⟨c0, c1, c2, c3, c4⟩ := b1.box)
    | (go_at_call 17; (with_reducible refine (RD.out w1 l1).mono ?_); rintro e w2 ⟨A, c, rfl, -, -, m2, h2⟩; have l2 := Later.trans_ l1 h2; have b2 := b1.keep h2; clear b1 c0 c1 c2 c3 c4))
  obtain ⟨n, hn⟩ : ∃ n, n = l.length := ⟨_, rfl⟩
  rw [← hn] at m2 ⊢
  have hn2 : n ≤ 2 := by omega
  have HN := Lib.hid hn; clear hn hl2
  obtain ⟨c0, c1, c2, c3, c4⟩ := b2.box
  go_loopw [22] (fun x wr => ∃ k : Nat, k ≤ n ∧ x = .int .i64 k ∧ w2 = wr) (fun x _ => n - (intOf x).toNat)
  case atStart => exact ⟨0, Nat.zero_le _, rfl, rfl⟩
  case round =>
    obtain ⟨k, hk, rfl, rfl⟩ := hrel
    by_cases hlt : k < n
    · obtain ⟨ad, rfl, hbl, hkl, hcell⟩ := m2.elem hlt
      have hb := HA.out k hkl
      obtain ⟨x, hx⟩ : ∃ x, x = l[k] := ⟨_, rfl⟩
      rw [← hx] at hcell hb
      have hb1 := hb.1; have hb2 := hb.2.1
      rcases Nat.eq_zero_or_pos k with h0 | h0
      · subst h0
        have hcell0 : w2.cell? ad = some (.int .i64 x) := by simpa [Addr.add] using hcell
        clear hb hx hcell
        go_wp2
        go_roundw
        case rel => exact ⟨1, by omega, by go_num, trivial⟩
        case measure => simp [intOf]; omega
      · obtain ⟨j, hj0⟩ : ∃ j, j = k - 1 := ⟨_, rfl⟩
        obtain ⟨hj, hjk⟩ := hb.2.2 j (by omega)
        obtain ⟨ad', e', _, hkl', hcell'⟩ := m2.elem (show j < n by omega)
        cases e'
        obtain ⟨y, hy⟩ : ∃ y, y = l[j] := ⟨_, rfl⟩
        rw [← hy] at hcell' hjk
        have hck : ((k : Int) - 1).toNat = j := by omega
        have hk0 : (0 : Int) < (k : Int) := by omega
        have hle : ¬ x ≤ y := by omega
        clear hb hx hy hj0
        go_wp2
        go_roundw
        case rel => exact ⟨k + 1, by omega, by go_num, trivial⟩
        case measure => simp [intOf]; omega
    · go_wp2_with (first
        | (go_at_call 13; (with_reducible refine (SA.out w4 l4).mono ?_); rintro e w5 ⟨rfl, h5⟩; have l5 := Later.trans_ l4 h5)
        | (go_at_call 19; (with_reducible refine (WR.out w2 l2).mono ?_); rintro e w3 ⟨rfl, h3⟩; have l3 := Later.trans_ l2 h3; have b3 := b2.keep h3; obtain ⟨d0, d1, d2, d3, d4⟩ := b3.box)
        | (go_at_call 14; (with_reducible refine (TG.out w3 l3).mono ?_); rintro e w4 ⟨rfl, h4⟩; have l4 := Later.trans_ l3 h4; have b4 := b3.keep h4; obtain ⟨f0, f1, f2, f3, f4⟩ := b4.box; have g4 := fun o => (b4.alloc o).cell (j := 4) rfl))
      go_ret
      exact ⟨rfl, l5⟩
set_option maxRecDepth 100000 in
set_option maxHeartbeats 4000000 in
theorem turns_na (pc : Int) (i : Im.I) (l : List Int) (w : World) (hasc : Asc l)
    (RI : Hid (∀ w' : World, Later w w' → Calls Tryd.prog 11 #[.agg #[.int .i64 i.op, .int .i64 i.a, .int .i64 i.b, .int .i64 i.c, .int .i64 i.imm]] w' fun e w'' => e = .returned (.bool true) ∧ Later w' w''))
    (RD : Hid (∀ w' : World, Later w w' → Calls Tryd.prog 17 #[.agg #[.int .i64 i.op, .int .i64 i.a, .int .i64 i.b, .int .i64 i.c, .int .i64 i.imm]] w' (MadeI l w')))
    (WR : Hid (∀ w' : World, Later w w' → Calls Tryd.prog 19 #[.agg #[.int .i64 i.op, .int .i64 i.a, .int .i64 i.b, .int .i64 i.c, .int .i64 i.imm]] w' fun e w'' => e = .returned (.int .i64 i.a) ∧ Later w' w''))
    (TG : Hid (∀ w' : World, Later w w' → Calls Tryd.prog 14 #[.int .u32 pc, .agg #[.int .i64 i.op, .int .i64 i.a, .int .i64 i.b, .int .i64 i.c, .int .i64 i.imm]] w' fun e w'' => e = .returned (.tuple #[.int .u32 0, .bool false]) ∧ Later w' w''))
    (SA : Hid (∀ w' : World, Later w w' → Calls Tryd.prog 13 #[] w' fun e w'' => e = .returned (.bool true) ∧ Later w' w'')) (ha : (i.a != 0) = true) :
    Calls Tryd.prog 8 #[.agg #[.int .i64 i.op, .int .i64 i.a, .int .i64 i.b, .int .i64 i.c, .int .i64 i.imm], .int .u32 pc] w fun e w' => e = .returned (.bool true) ∧ Later w w' := by
  have HA := Lib.hid (@asc_at l hasc)
  have hl2 : l.length ≤ 2 := asc_len hasc
  clear hasc
  go_enter Tryd.func8, Tryd.ntmps8
  go_wp2_with (first
    | (go_at_call 11; (with_reducible refine (RI.out _ (later1 _ _)).mono ?_); rintro e w1 ⟨rfl, h1⟩; have l1 := Later.trans_ (later1 _ _) h1; have b1 : Blk w1 w.heap.size 23 (Im.I.cells i) := (Blk.new _ _ _ _ rfl).keep h1; obtain ⟨c0, c1, c2, c3, c4⟩ := b1.box)
    | (go_at_call 17; (with_reducible refine (RD.out w1 l1).mono ?_); rintro e w2 ⟨A, c, rfl, -, -, m2, h2⟩; have l2 := Later.trans_ l1 h2; have b2 := b1.keep h2; clear b1 c0 c1 c2 c3 c4))
  obtain ⟨n, hn⟩ : ∃ n, n = l.length := ⟨_, rfl⟩
  rw [← hn] at m2 ⊢
  have hn2 : n ≤ 2 := by omega
  have HN := Lib.hid hn; clear hn hl2
  obtain ⟨c0, c1, c2, c3, c4⟩ := b2.box
  go_loopw [22] (fun x wr => ∃ k : Nat, k ≤ n ∧ x = .int .i64 k ∧ w2 = wr) (fun x _ => n - (intOf x).toNat)
  case atStart => exact ⟨0, Nat.zero_le _, rfl, rfl⟩
  case round =>
    obtain ⟨k, hk, rfl, rfl⟩ := hrel
    by_cases hlt : k < n
    · obtain ⟨ad, rfl, hbl, hkl, hcell⟩ := m2.elem hlt
      have hb := HA.out k hkl
      obtain ⟨x, hx⟩ : ∃ x, x = l[k] := ⟨_, rfl⟩
      rw [← hx] at hcell hb
      have hb1 := hb.1; have hb2 := hb.2.1
      rcases Nat.eq_zero_or_pos k with h0 | h0
      · subst h0
        have hcell0 : w2.cell? ad = some (.int .i64 x) := by simpa [Addr.add] using hcell
        clear hb hx hcell
        go_wp2
        go_roundw
        case rel => exact ⟨1, by omega, by go_num, trivial⟩
        case measure => simp [intOf]; omega
      · obtain ⟨j, hj0⟩ : ∃ j, j = k - 1 := ⟨_, rfl⟩
        obtain ⟨hj, hjk⟩ := hb.2.2 j (by omega)
        obtain ⟨ad', e', _, hkl', hcell'⟩ := m2.elem (show j < n by omega)
        cases e'
        obtain ⟨y, hy⟩ : ∃ y, y = l[j] := ⟨_, rfl⟩
        rw [← hy] at hcell' hjk
        have hck : ((k : Int) - 1).toNat = j := by omega
        have hk0 : (0 : Int) < (k : Int) := by omega
        have hle : ¬ x ≤ y := by omega
        clear hb hx hy hj0
        go_wp2
        go_roundw
        case rel => exact ⟨k + 1, by omega, by go_num, trivial⟩
        case measure => simp [intOf]; omega
    · go_wp2_with (first
        | (go_at_call 13; (with_reducible refine (SA.out w4 l4).mono ?_); rintro e w5 ⟨rfl, h5⟩; have l5 := Later.trans_ l4 h5)
        | (go_at_call 19; (with_reducible refine (WR.out w2 l2).mono ?_); rintro e w3 ⟨rfl, h3⟩; have l3 := Later.trans_ l2 h3; have b3 := b2.keep h3; obtain ⟨d0, d1, d2, d3, d4⟩ := b3.box)
        | (go_at_call 14; (with_reducible refine (TG.out w3 l3).mono ?_); rintro e w4 ⟨rfl, h4⟩; have l4 := Later.trans_ l3 h4; have b4 := b3.keep h4; obtain ⟨f0, f1, f2, f3, f4⟩ := b4.box; have g4 := fun o => (b4.alloc o).cell (j := 4) rfl))
      go_ret
      exact ⟨rfl, l5⟩
set_option maxRecDepth 100000 in
set_option maxHeartbeats 4000000 in
theorem turns_jz (pc T : Int) (i : Im.I) (l : List Int) (w : World) (hasc : Asc l)
    (RI : Hid (∀ w' : World, Later w w' → Calls Tryd.prog 11 #[.agg #[.int .i64 i.op, .int .i64 i.a, .int .i64 i.b, .int .i64 i.c, .int .i64 i.imm]] w' fun e w'' => e = .returned (.bool true) ∧ Later w' w''))
    (RD : Hid (∀ w' : World, Later w w' → Calls Tryd.prog 17 #[.agg #[.int .i64 i.op, .int .i64 i.a, .int .i64 i.b, .int .i64 i.c, .int .i64 i.imm]] w' (MadeI l w')))
    (WR : Hid (∀ w' : World, Later w w' → Calls Tryd.prog 19 #[.agg #[.int .i64 i.op, .int .i64 i.a, .int .i64 i.b, .int .i64 i.c, .int .i64 i.imm]] w' fun e w'' => e = .returned (.int .i64 0) ∧ Later w' w''))
    (TG : Hid (∀ w' : World, Later w w' → Calls Tryd.prog 14 #[.int .u32 pc, .agg #[.int .i64 i.op, .int .i64 i.a, .int .i64 i.b, .int .i64 i.c, .int .i64 i.imm]] w' fun e w'' => e = .returned (.tuple #[.int .u32 T, .bool true]) ∧ Later w' w''))
    (SA : Hid (∀ w' : World, Later w w' → Calls Tryd.prog 13 #[] w' fun e w'' => e = .returned (.bool true) ∧ Later w' w''))
    (RJ : Hid (∀ w' : World, Later w w' → Calls Tryd.prog 11 #[.agg #[.int .i64 i.op, .int .i64 i.a, .int .i64 i.b, .int .i64 i.c, .int .i64 (-i.imm)]] w' fun e w'' => e = .returned (.bool true) ∧ Later w' w''))
    (TJ : Hid (∀ w' : World, Later w w' → Calls Tryd.prog 14 #[.int .u32 T, .agg #[.int .i64 i.op, .int .i64 i.a, .int .i64 i.b, .int .i64 i.c, .int .i64 (-i.imm)]] w' fun e w'' => e = .returned (.tuple #[.int .u32 pc, .bool true]) ∧ Later w' w'')) (hr : -131072 ≤ i.imm ∧ i.imm ≤ 131071) :
    Calls Tryd.prog 8 #[.agg #[.int .i64 i.op, .int .i64 i.a, .int .i64 i.b, .int .i64 i.c, .int .i64 i.imm], .int .u32 pc] w fun e w' => e = .returned (.bool true) ∧ Later w w' := by
  have HA := Lib.hid (@asc_at l hasc)
  have hl2 : l.length ≤ 2 := asc_len hasc
  clear hasc
  go_enter Tryd.func8, Tryd.ntmps8
  go_wp2_with (first
    | (go_at_call 11; (with_reducible refine (RI.out _ (later1 _ _)).mono ?_); rintro e w1 ⟨rfl, h1⟩; have l1 := Later.trans_ (later1 _ _) h1; have b1 : Blk w1 w.heap.size 23 (Im.I.cells i) := (Blk.new _ _ _ _ rfl).keep h1; obtain ⟨c0, c1, c2, c3, c4⟩ := b1.box)
    | (go_at_call 17; (with_reducible refine (RD.out w1 l1).mono ?_); rintro e w2 ⟨A, c, rfl, -, -, m2, h2⟩; have l2 := Later.trans_ l1 h2; have b2 := b1.keep h2; clear b1 c0 c1 c2 c3 c4))
  obtain ⟨n, hn⟩ : ∃ n, n = l.length := ⟨_, rfl⟩
  rw [← hn] at m2 ⊢
  have hn2 : n ≤ 2 := by omega
  have HN := Lib.hid hn; clear hn hl2
  obtain ⟨c0, c1, c2, c3, c4⟩ := b2.box
  go_loopw [22] (fun x wr => ∃ k : Nat, k ≤ n ∧ x = .int .i64 k ∧ w2 = wr) (fun x _ => n - (intOf x).toNat)
  case atStart => exact ⟨0, Nat.zero_le _, rfl, rfl⟩
  case round =>
    obtain ⟨k, hk, rfl, rfl⟩ := hrel
    by_cases hlt : k < n
    · obtain ⟨ad, rfl, hbl, hkl, hcell⟩ := m2.elem hlt
      have hb := HA.out k hkl
      obtain ⟨x, hx⟩ : ∃ x, x = l[k] := ⟨_, rfl⟩
      rw [← hx] at hcell hb
      have hb1 := hb.1; have hb2 := hb.2.1
      rcases Nat.eq_zero_or_pos k with h0 | h0
      · subst h0
        have hcell0 : w2.cell? ad = some (.int .i64 x) := by simpa [Addr.add] using hcell
        clear hb hx hcell
        go_wp2
        go_roundw
        case rel => exact ⟨1, by omega, by go_num, trivial⟩
        case measure => simp [intOf]; omega
      · obtain ⟨j, hj0⟩ : ∃ j, j = k - 1 := ⟨_, rfl⟩
        obtain ⟨hj, hjk⟩ := hb.2.2 j (by omega)
        obtain ⟨ad', e', _, hkl', hcell'⟩ := m2.elem (show j < n by omega)
        cases e'
        obtain ⟨y, hy⟩ : ∃ y, y = l[j] := ⟨_, rfl⟩
        rw [← hy] at hcell' hjk
        have hck : ((k : Int) - 1).toNat = j := by omega
        have hk0 : (0 : Int) < (k : Int) := by omega
        have hle : ¬ x ≤ y := by omega
        clear hb hx hy hj0
        go_wp2
        go_roundw
        case rel => exact ⟨k + 1, by omega, by go_num, trivial⟩
        case measure => simp [intOf]; omega
    · go_wp2_with (first
        | (go_at_call 14; (with_reducible refine (TJ.out w5 l5).mono ?_); rintro e w6 ⟨rfl, h6⟩; have l6 := Later.trans_ l5 h6)
        | (go_at_call 13; (with_reducible refine (SA.out w6 l6).mono ?_); rintro e w7 ⟨rfl, h7⟩; have l7 := Later.trans_ l6 h7)
        | (go_at_call 11; (with_reducible refine (RJ.out _ (l4.alloc l4.size _)).mono ?_); rintro e w5 ⟨rfl, h5⟩; have l5 := Later.trans_ (l4.alloc l4.size _) h5; obtain ⟨e0, e1, e2, e3, e4⟩ := ((Blk.new _ _ _ _ rfl : Blk _ w4.heap.size 23 (Im.I.cells ⟨i.op, i.a, i.b, i.c, -i.imm⟩)).keep h5).box)
        | (go_at_call 19; (with_reducible refine (WR.out w2 l2).mono ?_); rintro e w3 ⟨rfl, h3⟩; have l3 := Later.trans_ l2 h3; have b3 := b2.keep h3; obtain ⟨d0, d1, d2, d3, d4⟩ := b3.box)
        | (go_at_call 14; (with_reducible refine (TG.out w3 l3).mono ?_); rintro e w4 ⟨rfl, h4⟩; have l4 := Later.trans_ l3 h4; have b4 := b3.keep h4; obtain ⟨f0, f1, f2, f3, f4⟩ := b4.box; have g4 := fun o => (b4.alloc o).cell (j := 4) rfl))
      go_ret
      exact ⟨rfl, l7⟩
set_option maxRecDepth 100000 in
set_option maxHeartbeats 4000000 in
theorem turns_ja (pc T : Int) (i : Im.I) (l : List Int) (w : World) (hasc : Asc l)
    (RI : Hid (∀ w' : World, Later w w' → Calls Tryd.prog 11 #[.agg #[.int .i64 i.op, .int .i64 i.a, .int .i64 i.b, .int .i64 i.c, .int .i64 i.imm]] w' fun e w'' => e = .returned (.bool true) ∧ Later w' w''))
    (RD : Hid (∀ w' : World, Later w w' → Calls Tryd.prog 17 #[.agg #[.int .i64 i.op, .int .i64 i.a, .int .i64 i.b, .int .i64 i.c, .int .i64 i.imm]] w' (MadeI l w')))
    (WR : Hid (∀ w' : World, Later w w' → Calls Tryd.prog 19 #[.agg #[.int .i64 i.op, .int .i64 i.a, .int .i64 i.b, .int .i64 i.c, .int .i64 i.imm]] w' fun e w'' => e = .returned (.int .i64 i.a) ∧ Later w' w''))
    (TG : Hid (∀ w' : World, Later w w' → Calls Tryd.prog 14 #[.int .u32 pc, .agg #[.int .i64 i.op, .int .i64 i.a, .int .i64 i.b, .int .i64 i.c, .int .i64 i.imm]] w' fun e w'' => e = .returned (.tuple #[.int .u32 T, .bool true]) ∧ Later w' w''))
    (SA : Hid (∀ w' : World, Later w w' → Calls Tryd.prog 13 #[] w' fun e w'' => e = .returned (.bool true) ∧ Later w' w''))
    (RJ : Hid (∀ w' : World, Later w w' → Calls Tryd.prog 11 #[.agg #[.int .i64 i.op, .int .i64 i.a, .int .i64 i.b, .int .i64 i.c, .int .i64 (-i.imm)]] w' fun e w'' => e = .returned (.bool true) ∧ Later w' w''))
    (TJ : Hid (∀ w' : World, Later w w' → Calls Tryd.prog 14 #[.int .u32 T, .agg #[.int .i64 i.op, .int .i64 i.a, .int .i64 i.b, .int .i64 i.c, .int .i64 (-i.imm)]] w' fun e w'' => e = .returned (.tuple #[.int .u32 pc, .bool true]) ∧ Later w' w'')) (ha : (i.a != 0) = true) (hr : -131072 ≤ i.imm ∧ i.imm ≤ 131071) :
    Calls Tryd.prog 8 #[.agg #[.int .i64 i.op, .int .i64 i.a, .int .i64 i.b, .int .i64 i.c, .int .i64 i.imm], .int .u32 pc] w fun e w' => e = .returned (.bool true) ∧ Later w w' := by
  have HA := Lib.hid (@asc_at l hasc)
  have hl2 : l.length ≤ 2 := asc_len hasc
  clear hasc
  go_enter Tryd.func8, Tryd.ntmps8
  go_wp2_with (first
    | (go_at_call 11; (with_reducible refine (RI.out _ (later1 _ _)).mono ?_); rintro e w1 ⟨rfl, h1⟩; have l1 := Later.trans_ (later1 _ _) h1; have b1 : Blk w1 w.heap.size 23 (Im.I.cells i) := (Blk.new _ _ _ _ rfl).keep h1; obtain ⟨c0, c1, c2, c3, c4⟩ := b1.box)
    | (go_at_call 17; (with_reducible refine (RD.out w1 l1).mono ?_); rintro e w2 ⟨A, c, rfl, -, -, m2, h2⟩; have l2 := Later.trans_ l1 h2; have b2 := b1.keep h2; clear b1 c0 c1 c2 c3 c4))
  obtain ⟨n, hn⟩ : ∃ n, n = l.length := ⟨_, rfl⟩
  rw [← hn] at m2 ⊢
  have hn2 : n ≤ 2 := by omega
  have HN := Lib.hid hn; clear hn hl2
  obtain ⟨c0, c1, c2, c3, c4⟩ := b2.box
  go_loopw [22] (fun x wr => ∃ k : Nat, k ≤ n ∧ x = .int .i64 k ∧ w2 = wr) (fun x _ => n - (intOf x).toNat)
  case atStart => exact ⟨0, Nat.zero_le _, rfl, rfl⟩
  case round =>
    obtain ⟨k, hk, rfl, rfl⟩ := hrel
    by_cases hlt : k < n
    · obtain ⟨ad, rfl, hbl, hkl, hcell⟩ := m2.elem hlt
      have hb := HA.out k hkl
      obtain ⟨x, hx⟩ : ∃ x, x = l[k] := ⟨_, rfl⟩
      rw [← hx] at hcell hb
      have hb1 := hb.1; have hb2 := hb.2.1
      rcases Nat.eq_zero_or_pos k with h0 | h0
      · subst h0
        have hcell0 : w2.cell? ad = some (.int .i64 x) := by simpa [Addr.add] using hcell
        clear hb hx hcell
        go_wp2
        go_roundw
        case rel => exact ⟨1, by omega, by go_num, trivial⟩
        case measure => simp [intOf]; omega
      · obtain ⟨j, hj0⟩ : ∃ j, j = k - 1 := ⟨_, rfl⟩
        obtain ⟨hj, hjk⟩ := hb.2.2 j (by omega)
        obtain ⟨ad', e', _, hkl', hcell'⟩ := m2.elem (show j < n by omega)
        cases e'
        obtain ⟨y, hy⟩ : ∃ y, y = l[j] := ⟨_, rfl⟩
        rw [← hy] at hcell' hjk
        have hck : ((k : Int) - 1).toNat = j := by omega
        have hk0 : (0 : Int) < (k : Int) := by omega
        have hle : ¬ x ≤ y := by omega
        clear hb hx hy hj0
        go_wp2
        go_roundw
        case rel => exact ⟨k + 1, by omega, by go_num, trivial⟩
        case measure => simp [intOf]; omega
    · go_wp2_with (first
        | (go_at_call 14; (with_reducible refine (TJ.out w5 l5).mono ?_); rintro e w6 ⟨rfl, h6⟩; have l6 := Later.trans_ l5 h6)
        | (go_at_call 13; (with_reducible refine (SA.out w6 l6).mono ?_); rintro e w7 ⟨rfl, h7⟩; have l7 := Later.trans_ l6 h7)
        | (go_at_call 11; (with_reducible refine (RJ.out _ (l4.alloc l4.size _)).mono ?_); rintro e w5 ⟨rfl, h5⟩; have l5 := Later.trans_ (l4.alloc l4.size _) h5; obtain ⟨e0, e1, e2, e3, e4⟩ := ((Blk.new _ _ _ _ rfl : Blk _ w4.heap.size 23 (Im.I.cells ⟨i.op, i.a, i.b, i.c, -i.imm⟩)).keep h5).box)
        | (go_at_call 19; (with_reducible refine (WR.out w2 l2).mono ?_); rintro e w3 ⟨rfl, h3⟩; have l3 := Later.trans_ l2 h3; have b3 := b2.keep h3; obtain ⟨d0, d1, d2, d3, d4⟩ := b3.box)
        | (go_at_call 14; (with_reducible refine (TG.out w3 l3).mono ?_); rintro e w4 ⟨rfl, h4⟩; have l4 := Later.trans_ l3 h4; have b4 := b3.keep h4; obtain ⟨f0, f1, f2, f3, f4⟩ := b4.box; have g4 := fun o => (b4.alloc o).cell (j := 4) rfl))
      go_ret
      exact ⟨rfl, l7⟩
set_option maxRecDepth 100000 in
set_option maxHeartbeats 4000000 in
theorem turns_xz (pc T : Int) (i : Im.I) (l : List Int) (w : World) (hasc : Asc l)
    (RI : Hid (∀ w' : World, Later w w' → Calls Tryd.prog 11 #[.agg #[.int .i64 i.op, .int .i64 i.a, .int .i64 i.b, .int .i64 i.c, .int .i64 i.imm]] w' fun e w'' => e = .returned (.bool true) ∧ Later w' w''))
    (RD : Hid (∀ w' : World, Later w w' → Calls Tryd.prog 17 #[.agg #[.int .i64 i.op, .int .i64 i.a, .int .i64 i.b, .int .i64 i.c, .int .i64 i.imm]] w' (MadeI l w')))
    (WR : Hid (∀ w' : World, Later w w' → Calls Tryd.prog 19 #[.agg #[.int .i64 i.op, .int .i64 i.a, .int .i64 i.b, .int .i64 i.c, .int .i64 i.imm]] w' fun e w'' => e = .returned (.int .i64 0) ∧ Later w' w''))
    (TG : Hid (∀ w' : World, Later w w' → Calls Tryd.prog 14 #[.int .u32 pc, .agg #[.int .i64 i.op, .int .i64 i.a, .int .i64 i.b, .int .i64 i.c, .int .i64 i.imm]] w' fun e w'' => e = .returned (.tuple #[.int .u32 T, .bool true]) ∧ Later w' w''))
    (SA : Hid (∀ w' : World, Later w w' → Calls Tryd.prog 13 #[] w' fun e w'' => e = .returned (.bool true) ∧ Later w' w''))
    (RJ : Hid (∀ w' : World, Later w w' → Calls Tryd.prog 11 #[.agg #[.int .i64 i.op, .int .i64 i.a, .int .i64 i.b, .int .i64 i.c, .int .i64 (-i.imm)]] w' fun e w'' => e = .returned (.bool false) ∧ Later w' w'')) (hm : i.imm = -131072) (hr : -131072 ≤ i.imm ∧ i.imm ≤ 131071) :
    Calls Tryd.prog 8 #[.agg #[.int .i64 i.op, .int .i64 i.a, .int .i64 i.b, .int .i64 i.c, .int .i64 i.imm], .int .u32 pc] w fun e w' => e = .returned (.bool true) ∧ Later w w' := by
  have HA := Lib.hid (@asc_at l hasc)
  have hl2 : l.length ≤ 2 := asc_len hasc
  clear hasc
  have hmi : (i.imm == -131072) = true := by rw [hm]; rfl
  have HM := Lib.hid hm; clear hm
  go_enter Tryd.func8, Tryd.ntmps8
  go_wp2_with (first
    | (go_at_call 11; (with_reducible refine (RI.out _ (later1 _ _)).mono ?_); rintro e w1 ⟨rfl, h1⟩; have l1 := Later.trans_ (later1 _ _) h1; have b1 : Blk w1 w.heap.size 23 (Im.I.cells i) := (Blk.new _ _ _ _ rfl).keep h1; obtain ⟨c0, c1, c2, c3, c4⟩ := b1.box)
    | (go_at_call 17; (with_reducible refine (RD.out w1 l1).mono ?_); rintro e w2 ⟨A, c, rfl, -, -, m2, h2⟩; have l2 := Later.trans_ l1 h2; have b2 := b1.keep h2; clear b1 c0 c1 c2 c3 c4))
  obtain ⟨n, hn⟩ : ∃ n, n = l.length := ⟨_, rfl⟩
  rw [← hn] at m2 ⊢
  have hn2 : n ≤ 2 := by omega
  have HN := Lib.hid hn; clear hn hl2
  obtain ⟨c0, c1, c2, c3, c4⟩ := b2.box
  go_loopw [22] (fun x wr => ∃ k : Nat, k ≤ n ∧ x = .int .i64 k ∧ w2 = wr) (fun x _ => n - (intOf x).toNat)
  case atStart => exact ⟨0, Nat.zero_le _, rfl, rfl⟩
  case round =>
    obtain ⟨k, hk, rfl, rfl⟩ := hrel
    by_cases hlt : k < n
    · obtain ⟨ad, rfl, hbl, hkl, hcell⟩ := m2.elem hlt
      have hb := HA.out k hkl
      obtain ⟨x, hx⟩ : ∃ x, x = l[k] := ⟨_, rfl⟩
      rw [← hx] at hcell hb
      have hb1 := hb.1; have hb2 := hb.2.1
      rcases Nat.eq_zero_or_pos k with h0 | h0
      · subst h0
        have hcell0 : w2.cell? ad = some (.int .i64 x) := by simpa [Addr.add] using hcell
        clear hb hx hcell
        go_wp2
        go_roundw
        case rel => exact ⟨1, by omega, by go_num, trivial⟩
        case measure => simp [intOf]; omega
      · obtain ⟨j, hj0⟩ : ∃ j, j = k - 1 := ⟨_, rfl⟩
        obtain ⟨hj, hjk⟩ := hb.2.2 j (by omega)
        obtain ⟨ad', e', _, hkl', hcell'⟩ := m2.elem (show j < n by omega)
        cases e'
        obtain ⟨y, hy⟩ : ∃ y, y = l[j] := ⟨_, rfl⟩
        rw [← hy] at hcell' hjk
        have hck : ((k : Int) - 1).toNat = j := by omega
        have hk0 : (0 : Int) < (k : Int) := by omega
        have hle : ¬ x ≤ y := by omega
        clear hb hx hy hj0
        go_wp2
        go_roundw
        case rel => exact ⟨k + 1, by omega, by go_num, trivial⟩
        case measure => simp [intOf]; omega
    · go_wp2_with (first
        | (go_at_call 11; (with_reducible refine (RJ.out _ (l4.alloc l4.size _)).mono ?_); rintro e w5 ⟨rfl, h5⟩; have l5 := Later.trans_ (l4.alloc l4.size _) h5; have b5 := (b4.alloc _).keep h5)
        | (go_at_call 13; (with_reducible refine (SA.out w5 l5).mono ?_); rintro e w6 ⟨rfl, h6⟩; have l6 := Later.trans_ l5 h6; obtain ⟨e0, e1, e2, e3, e4⟩ := (b5.keep h6).box)
        | (go_at_call 19; (with_reducible refine (WR.out w2 l2).mono ?_); rintro e w3 ⟨rfl, h3⟩; have l3 := Later.trans_ l2 h3; have b3 := b2.keep h3; obtain ⟨d0, d1, d2, d3, d4⟩ := b3.box)
        | (go_at_call 14; (with_reducible refine (TG.out w3 l3).mono ?_); rintro e w4 ⟨rfl, h4⟩; have l4 := Later.trans_ l3 h4; have b4 := b3.keep h4; obtain ⟨f0, f1, f2, f3, f4⟩ := b4.box; have g4 := fun o => (b4.alloc o).cell (j := 4) rfl))
      go_ret
      exact ⟨rfl, l6⟩
set_option maxRecDepth 100000 in
set_option maxHeartbeats 4000000 in
theorem turns_xa (pc T : Int) (i : Im.I) (l : List Int) (w : World) (hasc : Asc l)
    (RI : Hid (∀ w' : World, Later w w' → Calls Tryd.prog 11 #[.agg #[.int .i64 i.op, .int .i64 i.a, .int .i64 i.b, .int .i64 i.c, .int .i64 i.imm]] w' fun e w'' => e = .returned (.bool true) ∧ Later w' w''))
    (RD : Hid (∀ w' : World, Later w w' → Calls Tryd.prog 17 #[.agg #[.int .i64 i.op, .int .i64 i.a, .int .i64 i.b, .int .i64 i.c, .int .i64 i.imm]] w' (MadeI l w')))
    (WR : Hid (∀ w' : World, Later w w' → Calls Tryd.prog 19 #[.agg #[.int .i64 i.op, .int .i64 i.a, .int .i64 i.b, .int .i64 i.c, .int .i64 i.imm]] w' fun e w'' => e = .returned (.int .i64 i.a) ∧ Later w' w''))
    (TG : Hid (∀ w' : World, Later w w' → Calls Tryd.prog 14 #[.int .u32 pc, .agg #[.int .i64 i.op, .int .i64 i.a, .int .i64 i.b, .int .i64 i.c, .int .i64 i.imm]] w' fun e w'' => e = .returned (.tuple #[.int .u32 T, .bool true]) ∧ Later w' w''))
    (SA : Hid (∀ w' : World, Later w w' → Calls Tryd.prog 13 #[] w' fun e w'' => e = .returned (.bool true) ∧ Later w' w''))
    (RJ : Hid (∀ w' : World, Later w w' → Calls Tryd.prog 11 #[.agg #[.int .i64 i.op, .int .i64 i.a, .int .i64 i.b, .int .i64 i.c, .int .i64 (-i.imm)]] w' fun e w'' => e = .returned (.bool false) ∧ Later w' w'')) (ha : (i.a != 0) = true) (hm : i.imm = -131072) (hr : -131072 ≤ i.imm ∧ i.imm ≤ 131071) :
    Calls Tryd.prog 8 #[.agg #[.int .i64 i.op, .int .i64 i.a, .int .i64 i.b, .int .i64 i.c, .int .i64 i.imm], .int .u32 pc] w fun e w' => e = .returned (.bool true) ∧ Later w w' := by
  have HA := Lib.hid (@asc_at l hasc)
  have hl2 : l.length ≤ 2 := asc_len hasc
  clear hasc
  have hmi : (i.imm == -131072) = true := by rw [hm]; rfl
  have HM := Lib.hid hm; clear hm
  go_enter Tryd.func8, Tryd.ntmps8
  go_wp2_with (first
    | (go_at_call 11; (with_reducible refine (RI.out _ (later1 _ _)).mono ?_); rintro e w1 ⟨rfl, h1⟩; have l1 := Later.trans_ (later1 _ _) h1; have b1 : Blk w1 w.heap.size 23 (Im.I.cells i) := (Blk.new _ _ _ _ rfl).keep h1; obtain ⟨c0, c1, c2, c3, c4⟩ := b1.box)
    | (go_at_call 17; (with_reducible refine (RD.out w1 l1).mono ?_); rintro e w2 ⟨A, c, rfl, -, -, m2, h2⟩; have l2 := Later.trans_ l1 h2; have b2 := b1.keep h2; clear b1 c0 c1 c2 c3 c4))
  obtain ⟨n, hn⟩ : ∃ n, n = l.length := ⟨_, rfl⟩
  rw [← hn] at m2 ⊢
  have hn2 : n ≤ 2 := by omega
  have HN := Lib.hid hn; clear hn hl2
  obtain ⟨c0, c1, c2, c3, c4⟩ := b2.box
  go_loopw [22] (fun x wr => ∃ k : Nat, k ≤ n ∧ x = .int .i64 k ∧ w2 = wr) (fun x _ => n - (intOf x).toNat)
  case atStart => exact ⟨0, Nat.zero_le _, rfl, rfl⟩
  case round =>
    obtain ⟨k, hk, rfl, rfl⟩ := hrel
    by_cases hlt : k < n
    · obtain ⟨ad, rfl, hbl, hkl, hcell⟩ := m2.elem hlt
      have hb := HA.out k hkl
      obtain ⟨x, hx⟩ : ∃ x, x = l[k] := ⟨_, rfl⟩
      rw [← hx] at hcell hb
      have hb1 := hb.1; have hb2 := hb.2.1
      rcases Nat.eq_zero_or_pos k with h0 | h0
      · subst h0
        have hcell0 : w2.cell? ad = some (.int .i64 x) := by simpa [Addr.add] using hcell
        clear hb hx hcell
        go_wp2
        go_roundw
        case rel => exact ⟨1, by omega, by go_num, trivial⟩
        case measure => simp [intOf]; omega
      · obtain ⟨j, hj0⟩ : ∃ j, j = k - 1 := ⟨_, rfl⟩
        obtain ⟨hj, hjk⟩ := hb.2.2 j (by omega)
        obtain ⟨ad', e', _, hkl', hcell'⟩ := m2.elem (show j < n by omega)
        cases e'
        obtain ⟨y, hy⟩ : ∃ y, y = l[j] := ⟨_, rfl⟩
        rw [← hy] at hcell' hjk
        have hck : ((k : Int) - 1).toNat = j := by omega
        have hk0 : (0 : Int) < (k : Int) := by omega
        have hle : ¬ x ≤ y := by omega
        clear hb hx hy hj0
        go_wp2
        go_roundw
        case rel => exact ⟨k + 1, by omega, by go_num, trivial⟩
        case measure => simp [intOf]; omega
    · go_wp2_with (first
        | (go_at_call 11; (with_reducible refine (RJ.out _ (l4.alloc l4.size _)).mono ?_); rintro e w5 ⟨rfl, h5⟩; have l5 := Later.trans_ (l4.alloc l4.size _) h5; have b5 := (b4.alloc _).keep h5)
        | (go_at_call 13; (with_reducible refine (SA.out w5 l5).mono ?_); rintro e w6 ⟨rfl, h6⟩; have l6 := Later.trans_ l5 h6; obtain ⟨e0, e1, e2, e3, e4⟩ := (b5.keep h6).box)
        | (go_at_call 19; (with_reducible refine (WR.out w2 l2).mono ?_); rintro e w3 ⟨rfl, h3⟩; have l3 := Later.trans_ l2 h3; have b3 := b2.keep h3; obtain ⟨d0, d1, d2, d3, d4⟩ := b3.box)
        | (go_at_call 14; (with_reducible refine (TG.out w3 l3).mono ?_); rintro e w4 ⟨rfl, h4⟩; have l4 := Later.trans_ l3 h4; have b4 := b3.keep h4; obtain ⟨f0, f1, f2, f3, f4⟩ := b4.box; have g4 := fun o => (b4.alloc o).cell (j := 4) rfl))
      go_ret
      exact ⟨rfl, l6⟩
end Go.Proofs.YtbnlpkjjdijfmabDoor
