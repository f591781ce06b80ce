/-
  THE WALKS OF isa.Right, Encode.
-/
import Derived.Test.YtidhodalnikhlaaGreatDoorVj
import Derived.Laws.StructEq
import Derived.Lib.QuietBelow
import Derived.BigQuiet
import Derived.Deep.QuietTactic
import Derived.Sort.OwnSortedInts
namespace Go.Proofs.YtidhodalnikhlaaGreatDoor
open Go.RowKit Go.ChangeShapes Go.WideShapes Go.ChangeAt

set_option maxRecDepth 100000 in
/-- Two instructions compared. -/
theorem ins_eq (i j : Im.I) (w : World) : (Op.equalIn 10000 70 (.agg i.cells.toArray) (.agg j.cells.toArray)).run Tryz.prog w = .ok (decide (i = j)) w := by
  obtain ⟨fs, hfs, hu⟩ : ∃ fs, Tryz.prog.fieldsOf 70 = fs ∧ Tryz.prog.underlying 70 = some (.struct fs) := ⟨_, by kernel_rfl, Tryz.underlying70⟩
  rw [run_equalIn_struct w 9999 _ _ _ (by rw [hfs]; exact hu) (by kernel_rfl), hfs]
  have hfs2 := hu.symm.trans Tryz.underlying70
  injection hfs2 with h1
  injection h1 with h2
  subst h2
  have hag : (isAgg 3).run Tryz.prog w = .ok false w := by kernel_rfl
  obtain ⟨i0, i1, i2, i3, i4⟩ := i
  obtain ⟨j0, j1, j2, j3, j4⟩ := j
  have he := fun a b => run_equalIn_int (P := Tryz.prog) w 9998 3 .i64 .i64 a b Tryz.underlying3
  by_cases e0 : i0 = j0
  · by_cases e1 : i1 = j1
    · by_cases e2 : i2 = j2
      · by_cases e3 : i3 = j3
        · by_cases e4 : i4 = j4
          · simp [Op.eqFields, part, hag, he, Im.I.cells, e0, e1, e2, e3, e4, Result.andThen]
          · simp [Op.eqFields, part, hag, he, Im.I.cells, e0, e1, e2, e3, e4, Result.andThen]
        · simp [Op.eqFields, part, hag, he, Im.I.cells, e0, e1, e2, e3, Result.andThen]
      · simp [Op.eqFields, part, hag, he, Im.I.cells, e0, e1, e2, Result.andThen]
    · simp [Op.eqFields, part, hag, he, Im.I.cells, e0, e1, Result.andThen]
  · simp [Op.eqFields, part, hag, he, Im.I.cells, e0, Result.andThen]

set_option maxRecDepth 100000 in
/-- What the box of an instruction holds. -/
def Box (w : World) (B : Nat) (i : Im.I) : Prop :=
  w.cell? ⟨B, 0, none⟩ = some (.int .i64 i.op) ∧ w.cell? ⟨B, 1, none⟩ = some (.int .i64 i.a) ∧ w.cell? ⟨B, 2, none⟩ = some (.int .i64 i.b) ∧ w.cell? ⟨B, 3, none⟩ = some (.int .i64 i.c) ∧ w.cell? ⟨B, 4, none⟩ = some (.int .i64 i.imm)
set_option maxRecDepth 100000 in
theorem Blk.box {w : World} {B : Nat} {t : TypeId} {i : Im.I} (h : Blk w B t i.cells) : Box w B i := ⟨h.cell rfl, h.cell rfl, h.cell rfl, h.cell rfl, h.cell rfl⟩
set_option maxRecDepth 100000 in
/-- A contract that ends in 'Later', met in a world of the class. -/
theorem re {f : FuncId} {args : Array Value} {w : World} {v : Value} (h : ∀ w', Later w w' → Calls Tryz.prog f args w' fun e w'' => e = .returned v ∧ Later w' w'') (d : Nat) (os : Array Obj) :
    Calls Tryz.prog f args (Sort.grow (redrawn w d) os) fun e w'' => e = .returned v ∧ ∃ p : Regrown, w'' = Sort.grow (redrawn w p.d) p.os := Calls.regrown_of (h _ (below_regrown w d os))
set_option maxRecDepth 100000 in
set_option maxHeartbeats 4000000 in
theorem right_any (i : Im.I) (w : World) (tab : Tab w) :
    Calls Tryz.prog 136 #[.agg #[.int .i64 i.op, .int .i64 i.a, .int .i64 i.b, .int .i64 i.c, .int .i64 i.imm]] w fun e w' => e = .returned (.bool (decide (Im.Right i))) ∧ Later w w' := by
  obtain ⟨w0, hw0⟩ : ∃ w0, w0 = w.alloc (.cells #[.int .i64 i.op, .int .i64 i.a, .int .i64 i.b, .int .i64 i.c, .int .i64 i.imm] 70) := ⟨_, rfl⟩
  have hl : Later w w0 := by rw [hw0]; exact later1 _ _
  have hb : Blk w0 w.heap.size 70 i.cells := by rw [hw0]; exact Blk.new _ _ _ _ rfl
  have t0 := tab.keep hl
  have HF := re (w := w0) (fun w' h => form_any i.op w' (t0.keep h))
  have HG0 := re (w := w0) (fun w' h => formed_any i.op i.a i.b i.c i.imm w' (t0.keep h))
  have HR := fun r => re (w := w0) (fun w' _ => (isReg_any r w').mono fun e w'' ⟨h1, h2⟩ => ⟨h1, h2 ▸ Below.refl _ _⟩)
  clear tab t0
  obtain ⟨c0, c1, c2, c3, c4⟩ := hb.box
  have k0 := cell_regrown c0; have k1 := cell_regrown c1; have k2 := cell_regrown c2; have k3 := cell_regrown c3; have k4 := cell_regrown c4
  clear hb c0 c1 c2 c3 c4
  obtain ⟨F, hF⟩ : ∃ F, F = Im.formed i := ⟨_, rfl⟩
  have HE : ∀ w, (Op.equalIn 10000 70 (.agg #[.int .i64 i.op, .int .i64 i.a, .int .i64 i.b, .int .i64 i.c, .int .i64 i.imm]) (.agg F.cells.toArray)).run Tryz.prog w = .ok (decide (i = F)) w := ins_eq i F
  have HG : ∀ d os, Calls Tryz.prog 92 #[.agg #[.int .i64 i.op, .int .i64 i.a, .int .i64 i.b, .int .i64 i.c, .int .i64 i.imm]] (Sort.grow (redrawn w0 d) os) fun e w'' => e = .returned (.agg F.cells.toArray) ∧ ∃ p : Regrown, w'' = Sort.grow (redrawn w0 p.d) p.os := by rw [hF]; exact HG0
  clear HG0
  have hgd : Tryz.prog.eqGuardType Tryz.prog.depth 70 = false := by kernel_rfl
  have hFh := Lib.hid hF; clear hF
  have hw1 := Lib.hid hw0; have HL := Lib.hid hl
  clear hw0 hl
  have Ra := HR i.a; have Rb := HR i.b; have Rc := HR i.c
  clear HR
  by_cases z1 : Im.form i.op ≠ 0
  rotate_left
  · rw [decide_eq_false (fun h : Im.Right i => z1 (h.1))]
    have z1' : Im.form i.op = 0 := Classical.not_not.1 z1
    rw [z1'] at HF
    clear z1
    go_enter Tryz.func136, Tryz.ntmps136
    go_wp2
    rw [← hw1.out]
    refine wp_region_quiet_below (by kernel_rfl) (by kernel_rfl) ?_
    repeat (go_big_quiet_step (first | with_reducible exact HF _ _ | with_reducible exact HG _ _ | with_reducible exact Ra _ _ | with_reducible exact Rb _ _ | with_reducible exact Rc _ _))
    refine wpQuiet_nil ?_
    rintro _ ⟨⟨dq, osq⟩, rfl⟩
    go_wp2
    go_ret
    exact ⟨rfl, Later.trans_ HL.out (below_regrown w0 dq osq)⟩
  have z1b : (Im.form i.op != 0) = true := by simpa using z1
  by_cases z2 : i = F
  rotate_left
  · rw [decide_eq_false (fun h : Im.Right i => z2 (h.2.1.trans hFh.out.symm))]
    rw [decide_eq_false z2] at HE
    go_enter Tryz.func136, Tryz.ntmps136
    go_wp2
    rw [← hw1.out]
    refine wp_region_quiet_below (by kernel_rfl) (by kernel_rfl) ?_
    repeat (go_big_quiet_step (first | with_reducible exact HF _ _ | with_reducible exact HG _ _ | with_reducible exact Ra _ _ | with_reducible exact Rb _ _ | with_reducible exact Rc _ _))
    refine wpQuiet_nil ?_
    rintro _ ⟨⟨dq, osq⟩, rfl⟩
    go_wp2
    go_ret
    exact ⟨rfl, Later.trans_ HL.out (below_regrown w0 dq osq)⟩
  rw [decide_eq_true z2] at HE
  have z2h := Lib.hid z2; clear z2
  by_cases z3 : Im.reg i.a
  rotate_left
  · rw [decide_eq_false (fun h : Im.Right i => z3 (h.2.2.1))]
    rw [decide_eq_false z3] at Ra
    go_enter Tryz.func136, Tryz.ntmps136
    go_wp2
    rw [← hw1.out]
    refine wp_region_quiet_below (by kernel_rfl) (by kernel_rfl) ?_
    repeat (go_big_quiet_step (first | with_reducible exact HF _ _ | with_reducible exact HG _ _ | with_reducible exact Ra _ _ | with_reducible exact Rb _ _ | with_reducible exact Rc _ _))
    refine wpQuiet_nil ?_
    rintro _ ⟨⟨dq, osq⟩, rfl⟩
    go_wp2
    go_ret
    exact ⟨rfl, Later.trans_ HL.out (below_regrown w0 dq osq)⟩
  rw [decide_eq_true z3] at Ra
  by_cases z4 : Im.reg i.b
  rotate_left
  · rw [decide_eq_false (fun h : Im.Right i => z4 (h.2.2.2.1))]
    rw [decide_eq_false z4] at Rb
    go_enter Tryz.func136, Tryz.ntmps136
    go_wp2
    rw [← hw1.out]
    refine wp_region_quiet_below (by kernel_rfl) (by kernel_rfl) ?_
    repeat (go_big_quiet_step (first | with_reducible exact HF _ _ | with_reducible exact HG _ _ | with_reducible exact Ra _ _ | with_reducible exact Rb _ _ | with_reducible exact Rc _ _))
    refine wpQuiet_nil ?_
    rintro _ ⟨⟨dq, osq⟩, rfl⟩
    go_wp2
    go_ret
    exact ⟨rfl, Later.trans_ HL.out (below_regrown w0 dq osq)⟩
  rw [decide_eq_true z4] at Rb
  by_cases z5 : Im.reg i.c
  rotate_left
  · rw [decide_eq_false (fun h : Im.Right i => z5 (h.2.2.2.2.1))]
    rw [decide_eq_false z5] at Rc
    go_enter Tryz.func136, Tryz.ntmps136
    go_wp2
    rw [← hw1.out]
    refine wp_region_quiet_below (by kernel_rfl) (by kernel_rfl) ?_
    repeat (go_big_quiet_step (first | with_reducible exact HF _ _ | with_reducible exact HG _ _ | with_reducible exact Ra _ _ | with_reducible exact Rb _ _ | with_reducible exact Rc _ _))
    refine wpQuiet_nil ?_
    rintro _ ⟨⟨dq, osq⟩, rfl⟩
    go_wp2
    go_ret
    exact ⟨rfl, Later.trans_ HL.out (below_regrown w0 dq osq)⟩
  rw [decide_eq_true z5] at Rc
  by_cases z6 : -131072 ≤ i.imm
  rotate_left
  · rw [decide_eq_false (fun h : Im.Right i => z6 (h.2.2.2.2.2.1))]
    have z6' : decide (-131072 ≤ i.imm) = false := decide_eq_false z6
    go_enter Tryz.func136, Tryz.ntmps136
    go_wp2
    rw [← hw1.out]
    refine wp_region_quiet_below (by kernel_rfl) (by kernel_rfl) ?_
    repeat (go_big_quiet_step (first | with_reducible exact HF _ _ | with_reducible exact HG _ _ | with_reducible exact Ra _ _ | with_reducible exact Rb _ _ | with_reducible exact Rc _ _))
    refine wpQuiet_nil ?_
    rintro _ ⟨⟨dq, osq⟩, rfl⟩
    go_wp2
    go_ret
    exact ⟨rfl, Later.trans_ HL.out (below_regrown w0 dq osq)⟩
  by_cases z7 : i.imm ≤ 131071
  rotate_left
  · rw [decide_eq_false (fun h : Im.Right i => z7 (h.2.2.2.2.2.2))]
    have z7' : decide (i.imm ≤ 131071) = false := decide_eq_false z7
    go_enter Tryz.func136, Tryz.ntmps136
    go_wp2
    rw [← hw1.out]
    refine wp_region_quiet_below (by kernel_rfl) (by kernel_rfl) ?_
    repeat (go_big_quiet_step (first | with_reducible exact HF _ _ | with_reducible exact HG _ _ | with_reducible exact Ra _ _ | with_reducible exact Rb _ _ | with_reducible exact Rc _ _))
    refine wpQuiet_nil ?_
    rintro _ ⟨⟨dq, osq⟩, rfl⟩
    go_wp2
    go_ret
    exact ⟨rfl, Later.trans_ HL.out (below_regrown w0 dq osq)⟩
  rw [decide_eq_true (show Im.Right i from ⟨z1, z2h.out.trans hFh.out, z3, z4, z5, z6, z7⟩)]
  go_enter Tryz.func136, Tryz.ntmps136
  go_wp2
  rw [← hw1.out]
  refine wp_region_quiet_below (by kernel_rfl) (by kernel_rfl) ?_
  repeat (go_big_quiet_step (first | with_reducible exact HF _ _ | with_reducible exact HG _ _ | with_reducible exact Ra _ _ | with_reducible exact Rb _ _ | with_reducible exact Rc _ _))
  refine wpQuiet_nil ?_
  rintro _ ⟨⟨dq, osq⟩, rfl⟩
  go_wp2
  go_ret
  exact ⟨rfl, Later.trans_ HL.out (below_regrown w0 dq osq)⟩
end Go.Proofs.YtidhodalnikhlaaGreatDoor

/-
  THE WALKS OF isa.Encode, the closure of Decode, Decode.
-/
namespace Go.Proofs.YtidhodalnikhlaaGreatDoor
open Go.RowKit Go.ChangeShapes Go.WideShapes Go.ChangeAt

set_option maxRecDepth 100000 in
/-- What the isa's Encode returns. -/
def encW (i : Im.I) : Int := if Im.Right i then Im.word i else 0
set_option maxRecDepth 100000 in
def encE (i : Im.I) : Int := if Im.Right i then 0 else 1
set_option maxRecDepth 100000 in
theorem Im.cut_ok {W : Int} (h : 0 ≤ W ∧ W < 4294967296) : (0 ≤ (Im.cut W).op ∧ (Im.cut W).op < 64) ∧ (0 ≤ (Im.cut W).a ∧ (Im.cut W).a < 16) ∧ (0 ≤ (Im.cut W).b ∧ (Im.cut W).b < 16) ∧ (0 ≤ (Im.cut W).c ∧ (Im.cut W).c < 16) ∧ ((Im.cut W).c = 0 ∨ (Im.cut W).imm = 0) := by
  obtain ⟨i, hi⟩ : ∃ i, i = Im.fields W := ⟨_, rfl⟩
  have hr : (0 ≤ i.op ∧ i.op < 64) ∧ (0 ≤ i.a ∧ i.a < 16) ∧ (0 ≤ i.b ∧ i.b < 16) ∧ (0 ≤ i.c ∧ i.c < 16) := by
    rw [hi]; unfold Im.fields; dsimp only
    omega
  unfold Im.cut
  rw [← hi]
  clear hi
  obtain ⟨op, a, b, c, imm⟩ := i
  unfold Im.formed
  dsimp only at hr ⊢
  rcases Im.form_vals op with e | e | e | e | e | e
  all_goals (simp [e]; try omega)
set_option maxRecDepth 100000 in
theorem and_low_S (X : Nat) (k : Nat) (hk : k ≤ 26) (hy : X < 4294967296) : bits .and .u32 (X : Int) (((2 ^ k - 1 : Nat) : Int)) = ((X % 2 ^ k : Nat) : Int) := by
  have h2 : 2 ^ k ≤ 2 ^ 26 := Nat.pow_le_pow_right (by decide) hk
  have h0 : 0 < 2 ^ k := Nat.two_pow_pos k
  have h3 : (2 : Nat) ^ 26 = 67108864 := rfl
  show IntKind.u32.wrap ((BitVec.ofInt 32 (X : Int) &&& BitVec.ofInt 32 ((2 ^ k - 1 : Nat) : Int)).toNat : Int) = _
  rw [BitVec.ofInt_natCast, BitVec.ofInt_natCast, BitVec.toNat_and, BitVec.toNat_ofNat, BitVec.toNat_ofNat, Nat.mod_eq_of_lt (by omega), Nat.mod_eq_of_lt (by omega), Nat.and_two_pow_sub_one_eq_mod, IntKind.wrap_u32]
  have := Nat.mod_lt X h0
  omega
set_option maxRecDepth 100000 in
theorem and_low64 (W : Int) (D k : Nat) (hk : k ≤ 26) (_hD : 0 < D) (h : 0 ≤ W ∧ W < 4294967296) (M : Int) (hM : M = ((2 ^ k - 1 : Nat) : Int)) : wrap64 (bits .and .u32 (W / (D : Int)) M) = W / (D : Int) % ((2 ^ k : Nat) : Int) := by
  obtain ⟨X, rfl⟩ := Int.eq_ofNat_of_zero_le h.1
  have h1 : X / D ≤ X := Nat.div_le_self _ _
  have h2 : X / D % 2 ^ k ≤ X / D := Nat.mod_le _ _
  rw [hM, show ((X : Int) / (D : Int)) = ((X / D : Nat) : Int) from rfl, and_low_S (X / D) k hk (by omega)]
  rw [IntWalk.wrap64_in _ (by omega)]
  rfl
set_option maxRecDepth 100000 in
theorem later_drewN (w : World) (n : Nat) : Later w (w.drewN n) := ⟨rfl, rfl, rfl, Nat.le_refl _, fun _ _ => rfl⟩
set_option maxRecDepth 100000 in
set_option maxHeartbeats 1000000 in
theorem cut_imm (W : Int) (h : 0 ≤ W ∧ W < 4294967296) (B : Nat) (w : World) (hc : w.cell? ⟨B, 0, none⟩ = some (.int .u32 W)) :
    Calls Tryz.prog 91 #[.int .i64 0, .int .i64 18, .pointer (some ⟨B, 0, none⟩)] w fun e w' => e = .returned (.int .i64 (W % 262144)) ∧ Later w w' := by
  have hv := and_low64 W 1 18 (by decide) (by decide) h 262143 rfl
  rw [show ((1 : Nat) : Int) = 1 from rfl, Int.ediv_one] at hv
  replace hv : wrap64 (bits .and .u32 (W) 262143) = W % 262144 := hv
  have hV := Lib.hid hv; clear hv
  have hc' : ∀ n, (w.drewN n).cell? ⟨B, 0, none⟩ = some (.int .u32 W) := fun _ => hc
  go_enter Tryz.func91, Tryz.ntmps91
  go_wp2
  go_quiet (fail)
  go_wp2
  rw [hV.out]
  go_ret
  exact ⟨rfl, later_drewN _ _⟩
set_option maxRecDepth 100000 in
set_option maxHeartbeats 1000000 in
theorem cut_op (W : Int) (h : 0 ≤ W ∧ W < 4294967296) (B : Nat) (w : World) (hc : w.cell? ⟨B, 0, none⟩ = some (.int .u32 W)) :
    Calls Tryz.prog 91 #[.int .i64 26, .int .i64 6, .pointer (some ⟨B, 0, none⟩)] w fun e w' => e = .returned (.int .i64 (W / 67108864 % 64)) ∧ Later w w' := by
  have hv := and_low64 W 67108864 6 (by decide) (by decide) h 63 rfl
  replace hv : wrap64 (bits .and .u32 (W / 67108864) 63) = W / 67108864 % 64 := hv
  have hV := Lib.hid hv; clear hv
  have hc' : ∀ n, (w.drewN n).cell? ⟨B, 0, none⟩ = some (.int .u32 W) := fun _ => hc
  go_enter Tryz.func91, Tryz.ntmps91
  go_wp2
  go_quiet (fail)
  go_wp2
  rw [hV.out]
  go_ret
  exact ⟨rfl, later_drewN _ _⟩
set_option maxRecDepth 100000 in
set_option maxHeartbeats 1000000 in
theorem cut_a (W : Int) (h : 0 ≤ W ∧ W < 4294967296) (B : Nat) (w : World) (hc : w.cell? ⟨B, 0, none⟩ = some (.int .u32 W)) :
    Calls Tryz.prog 91 #[.int .i64 22, .int .i64 4, .pointer (some ⟨B, 0, none⟩)] w fun e w' => e = .returned (.int .i64 (W / 4194304 % 16)) ∧ Later w w' := by
  have hv := and_low64 W 4194304 4 (by decide) (by decide) h 15 rfl
  replace hv : wrap64 (bits .and .u32 (W / 4194304) 15) = W / 4194304 % 16 := hv
  have hV := Lib.hid hv; clear hv
  have hc' : ∀ n, (w.drewN n).cell? ⟨B, 0, none⟩ = some (.int .u32 W) := fun _ => hc
  go_enter Tryz.func91, Tryz.ntmps91
  go_wp2
  go_quiet (fail)
  go_wp2
  rw [hV.out]
  go_ret
  exact ⟨rfl, later_drewN _ _⟩
set_option maxRecDepth 100000 in
set_option maxHeartbeats 1000000 in
theorem cut_b (W : Int) (h : 0 ≤ W ∧ W < 4294967296) (B : Nat) (w : World) (hc : w.cell? ⟨B, 0, none⟩ = some (.int .u32 W)) :
    Calls Tryz.prog 91 #[.int .i64 18, .int .i64 4, .pointer (some ⟨B, 0, none⟩)] w fun e w' => e = .returned (.int .i64 (W / 262144 % 16)) ∧ Later w w' := by
  have hv := and_low64 W 262144 4 (by decide) (by decide) h 15 rfl
  replace hv : wrap64 (bits .and .u32 (W / 262144) 15) = W / 262144 % 16 := hv
  have hV := Lib.hid hv; clear hv
  have hc' : ∀ n, (w.drewN n).cell? ⟨B, 0, none⟩ = some (.int .u32 W) := fun _ => hc
  go_enter Tryz.func91, Tryz.ntmps91
  go_wp2
  go_quiet (fail)
  go_wp2
  rw [hV.out]
  go_ret
  exact ⟨rfl, later_drewN _ _⟩
set_option maxRecDepth 100000 in
set_option maxHeartbeats 1000000 in
theorem cut_c (W : Int) (h : 0 ≤ W ∧ W < 4294967296) (B : Nat) (w : World) (hc : w.cell? ⟨B, 0, none⟩ = some (.int .u32 W)) :
    Calls Tryz.prog 91 #[.int .i64 14, .int .i64 4, .pointer (some ⟨B, 0, none⟩)] w fun e w' => e = .returned (.int .i64 (W / 16384 % 16)) ∧ Later w w' := by
  have hv := and_low64 W 16384 4 (by decide) (by decide) h 15 rfl
  replace hv : wrap64 (bits .and .u32 (W / 16384) 15) = W / 16384 % 16 := hv
  have hV := Lib.hid hv; clear hv
  have hc' : ∀ n, (w.drewN n).cell? ⟨B, 0, none⟩ = some (.int .u32 W) := fun _ => hc
  go_enter Tryz.func91, Tryz.ntmps91
  go_wp2
  go_quiet (fail)
  go_wp2
  rw [hV.out]
  go_ret
  exact ⟨rfl, later_drewN _ _⟩

set_option maxRecDepth 100000 in
/-- What Decode returns. -/
def decI_S (W : Int) : Im.I := if Im.Legal W then Im.cut W else ⟨0, 0, 0, 0, 0⟩
set_option maxRecDepth 100000 in
theorem dec_ret {w : World} {fn : Func} {p u : Tmp} (h : fn.results = #[.cell p 70, .tmp u]) (tmps : Array Value) (g : Nat) (t : TypeId) (i : Im.I) (v : Value)
    (hp : tmps.getD p undef = .pointer (some ⟨g, 0, none⟩)) (hu : tmps.getD u undef = v) (hg : Blk w g t i.cells) : (results fn tmps).run Tryz.prog w = .ok (.tuple #[.agg i.cells.toArray, v]) w := by
  have hp' : tmps[p]?.getD undef = .pointer (some ⟨g, 0, none⟩) := by simpa using hp
  have hu' : tmps[u]?.getD undef = v := by simpa using hu
  simp [results, h, hp', hu', asAddr, run_loadVar_row w g t 70 i.cells.toArray (0, 0) _ hg Tryz.underlying70 rfl (by rw [List.size_toArray]; exact ins_sz i)]
end Go.Proofs.YtidhodalnikhlaaGreatDoor

/-
  THE WALKS OF isa.Access, Privileged, Find.
-/
namespace Go.Proofs.YtidhodalnikhlaaGreatDoor
open Go.RowKit Go.ChangeShapes Go.WideShapes Go.ChangeAt

set_option maxRecDepth 100000 in
def accA (op : Int) : Int := if op = 20 then 1 else if op = 22 then 1 else if op = 21 then 2 else if op = 23 then 2 else if op = 24 then 3 else 0
set_option maxRecDepth 100000 in
def accS (op : Int) : Int := if op = 20 then 4 else if op = 22 then 1 else if op = 21 then 4 else if op = 23 then 1 else if op = 24 then 4 else 0
set_option maxRecDepth 100000 in
theorem access_any (op : Int) (w : World) : Calls Tryz.prog 184 #[.int .i64 op] w fun e w' => e = .returned (.tuple #[.int .i64 (accA op), .int .i64 (accS op)]) ∧ w = w' := by
  unfold accA accS
  by_cases h1 : op = 20
  · subst h1
    go_enter Tryz.func184, Tryz.ntmps184
    go_wp2
    go_ret2
    exact ⟨rfl, rfl⟩
  by_cases h2 : op = 22
  · subst h2
    go_enter Tryz.func184, Tryz.ntmps184
    go_wp2
    go_ret2
    exact ⟨rfl, rfl⟩
  by_cases h3 : op = 21
  · subst h3
    go_enter Tryz.func184, Tryz.ntmps184
    go_wp2
    go_ret2
    exact ⟨rfl, rfl⟩
  by_cases h4 : op = 23
  · subst h4
    go_enter Tryz.func184, Tryz.ntmps184
    go_wp2
    go_ret2
    exact ⟨rfl, rfl⟩
  by_cases h5 : op = 24
  · subst h5
    go_enter Tryz.func184, Tryz.ntmps184
    go_wp2
    go_ret2
    exact ⟨rfl, rfl⟩
  rw [if_neg h1, if_neg h2, if_neg h3, if_neg h4, if_neg h5, if_neg h1, if_neg h2, if_neg h3, if_neg h4, if_neg h5]
  have b1 : (op == 20) = false := beq_eq_false_iff_ne.2 h1
  have b2 : (op == 22) = false := beq_eq_false_iff_ne.2 h2
  have b3 : (op == 21) = false := beq_eq_false_iff_ne.2 h3
  have b4 : (op == 23) = false := beq_eq_false_iff_ne.2 h4
  have b5 : (op == 24) = false := beq_eq_false_iff_ne.2 h5
  clear h1 h2 h3 h4 h5
  go_enter Tryz.func184, Tryz.ntmps184
  go_wp2
  go_ret2
  exact ⟨rfl, rfl⟩
set_option maxRecDepth 100000 in
theorem priv_any (op : Int) (w : World) : Calls Tryz.prog 119 #[.int .i64 op] w fun e w' => e = .returned (.bool (decide (41 ≤ op ∧ op ≤ 48))) ∧ w = w' := by
  by_cases h : 41 ≤ op ∧ op ≤ 48
  · rw [decide_eq_true h]
    obtain rfl | rfl | rfl | rfl | rfl | rfl | rfl | rfl : op = 41 ∨ op = 42 ∨ op = 43 ∨ op = 44 ∨ op = 45 ∨ op = 46 ∨ op = 47 ∨ op = 48 := by omega
    all_goals
      clear h
      go_enter Tryz.func119, Tryz.ntmps119
      go_wp2
      go_ret
      exact ⟨rfl, rfl⟩
  · rw [decide_eq_false h]
    have b1 : (op == 41) = false := beq_eq_false_iff_ne.2 (by omega)
    have b2 : (op == 42) = false := beq_eq_false_iff_ne.2 (by omega)
    have b3 : (op == 43) = false := beq_eq_false_iff_ne.2 (by omega)
    have b4 : (op == 44) = false := beq_eq_false_iff_ne.2 (by omega)
    have b5 : (op == 45) = false := beq_eq_false_iff_ne.2 (by omega)
    have b6 : (op == 46) = false := beq_eq_false_iff_ne.2 (by omega)
    have b7 : (op == 47) = false := beq_eq_false_iff_ne.2 (by omega)
    have b8 : (op == 48) = false := beq_eq_false_iff_ne.2 (by omega)
    clear h
    go_enter Tryz.func119, Tryz.ntmps119
    go_wp2
    go_ret
    exact ⟨rfl, rfl⟩

set_option maxRecDepth 100000 in
/-- The number of a name. -/
def hit (s : ByteArray) (k : Nat) : Bool := Im.formN k != 0 && (Im.nameN k).toList == s.toList
set_option maxRecDepth 100000 in
def findI (s : ByteArray) : Int := match (List.range 49).find? (hit s) with | some k => (k : Int) | none => 0
end Go.Proofs.YtidhodalnikhlaaGreatDoor

/-
  THE WALK OF isa.registers.
-/
namespace Go.Proofs.YtidhodalnikhlaaGreatDoor
open Go.RowKit Go.ChangeShapes Go.WideShapes Go.ChangeAt Go.Sort

set_option maxRecDepth 100000 in
def pushI (o : List Int) (x : Int) : List Int := if x ≠ 0 ∧ o.contains x = false then o ++ [x] else o
set_option maxRecDepth 100000 in
def pushes (l : List Int) : List Int := l.foldl pushI []
set_option maxRecDepth 100000 in
/-- Registers without 0, in ascending order, each once. -/
def regsI (l : List Int) : List Int := (pushes l).mergeSort fun x y => decide (x ≤ y)

set_option maxRecDepth 100000 in
/-- What a maker of a list of ints answers. -/
def MadeI (l : List Int) (w : World) (e : Ending) (w' : World) : Prop := ∃ A c, e = .returned (.slice A l.length c) ∧ l.length ≤ c ∧ c ≤ maxLen ∧ Sl w' 1 A l.length (N64 l) ∧ Later w w'
end Go.Proofs.YtidhodalnikhlaaGreatDoor

/-
  THE WALKS OF isa.Reads, Writes, Target, of right instructions.
-/
namespace Go.Proofs.YtidhodalnikhlaaGreatDoor
open Go.RowKit Go.ChangeShapes Go.WideShapes Go.ChangeAt

set_option maxRecDepth 100000 in
theorem MadeI.after {l : List Int} {w w' : World} {e : Ending} {w'' : World} (hb : Later w w') (h : MadeI l w' e w'') : MadeI l w e w'' := by
  obtain ⟨A, c, h1, h2, h3, h4, h5⟩ := h
  exact ⟨A, c, h1, h2, h3, h4, Later.trans_ hb h5⟩
set_option maxRecDepth 100000 in
def isB (op : Int) : Bool := op == 16 || op == 20 || op == 22 || op == 33 || op == 44
set_option maxRecDepth 100000 in
def isAB (op : Int) : Bool := op == 21 || op == 23 || op == 24 || op == 28 || op == 29 || op == 30 || op == 31
set_option maxRecDepth 100000 in
def isA (op : Int) : Bool := op == 43 || op == 47
set_option maxRecDepth 100000 in
def readL (i : Im.I) : List Int := if isB i.op then regsI [i.b] else if isAB i.op then regsI [i.a, i.b] else if isA i.op then regsI [i.a] else if Im.form i.op = 1 then regsI [i.b, i.c] else []
set_option maxRecDepth 100000 in
def wrA (op : Int) : Bool := op == 16 || op == 17 || op == 20 || op == 22 || op == 24 || op == 32 || op == 33 || op == 42 || op == 46
set_option maxRecDepth 100000 in
def writeI (i : Im.I) : Int := if wrA i.op then i.a else if Im.form i.op = 1 then i.a else 0
set_option maxRecDepth 100000 in
def isT (op : Int) : Bool := op == 28 || op == 29 || op == 30 || op == 31 || op == 32
set_option maxRecDepth 100000 in
def targI (pc : Int) (i : Im.I) : Int := if isT i.op then (pc + 4 * i.imm) % 4294967296 else 0

section
variable (op a b c imm : Int) (w : World)
set_option maxRecDepth 100000 in
/-- What Right answers of a right instruction. -/
def RightOk : Prop := ∀ w', Later w w' → Calls Tryz.prog 136 #[.agg #[.int .i64 op, .int .i64 a, .int .i64 b, .int .i64 c, .int .i64 imm]] w' fun e w'' => e = .returned (.bool true) ∧ Later w' w''
set_option maxRecDepth 100000 in
set_option maxHeartbeats 1000000 in
theorem writes_16 (HR : Hid (RightOk 16 a b c imm w)) :
    Calls Tryz.prog 95 #[.agg #[.int .i64 16, .int .i64 a, .int .i64 b, .int .i64 c, .int .i64 imm]] w fun e w' => e = .returned (.int .i64 a) ∧ Later w w' := by
  go_enter Tryz.func95, Tryz.ntmps95
  go_wp2_with (first
    | (go_at_call 136; refine (HR.out _ (later1 _ _)).mono ?_; rintro e w1 ⟨rfl, l1⟩; obtain ⟨c0, c1, c2, c3, c4⟩ := ((Blk.new _ _ _ _ rfl : Blk _ _ _ (Im.I.cells ⟨16, a, b, c, imm⟩)).keep l1).box; have L1 := Lib.hid (Later.trans_ (later1 _ _) l1); clear l1))
  go_ret
  exact ⟨rfl, L1.out⟩
set_option maxRecDepth 100000 in
set_option maxHeartbeats 1000000 in
theorem writes_17 (HR : Hid (RightOk 17 a b c imm w)) :
    Calls Tryz.prog 95 #[.agg #[.int .i64 17, .int .i64 a, .int .i64 b, .int .i64 c, .int .i64 imm]] w fun e w' => e = .returned (.int .i64 a) ∧ Later w w' := by
  go_enter Tryz.func95, Tryz.ntmps95
  go_wp2_with (first
    | (go_at_call 136; refine (HR.out _ (later1 _ _)).mono ?_; rintro e w1 ⟨rfl, l1⟩; obtain ⟨c0, c1, c2, c3, c4⟩ := ((Blk.new _ _ _ _ rfl : Blk _ _ _ (Im.I.cells ⟨17, a, b, c, imm⟩)).keep l1).box; have L1 := Lib.hid (Later.trans_ (later1 _ _) l1); clear l1))
  go_ret
  exact ⟨rfl, L1.out⟩
set_option maxRecDepth 100000 in
set_option maxHeartbeats 1000000 in
theorem writes_20 (HR : Hid (RightOk 20 a b c imm w)) :
    Calls Tryz.prog 95 #[.agg #[.int .i64 20, .int .i64 a, .int .i64 b, .int .i64 c, .int .i64 imm]] w fun e w' => e = .returned (.int .i64 a) ∧ Later w w' := by
  go_enter Tryz.func95, Tryz.ntmps95
  go_wp2_with (first
    | (go_at_call 136; refine (HR.out _ (later1 _ _)).mono ?_; rintro e w1 ⟨rfl, l1⟩; obtain ⟨c0, c1, c2, c3, c4⟩ := ((Blk.new _ _ _ _ rfl : Blk _ _ _ (Im.I.cells ⟨20, a, b, c, imm⟩)).keep l1).box; have L1 := Lib.hid (Later.trans_ (later1 _ _) l1); clear l1))
  go_ret
  exact ⟨rfl, L1.out⟩
set_option maxRecDepth 100000 in
set_option maxHeartbeats 1000000 in
theorem writes_22 (HR : Hid (RightOk 22 a b c imm w)) :
    Calls Tryz.prog 95 #[.agg #[.int .i64 22, .int .i64 a, .int .i64 b, .int .i64 c, .int .i64 imm]] w fun e w' => e = .returned (.int .i64 a) ∧ Later w w' := by
  go_enter Tryz.func95, Tryz.ntmps95
  go_wp2_with (first
    | (go_at_call 136; refine (HR.out _ (later1 _ _)).mono ?_; rintro e w1 ⟨rfl, l1⟩; obtain ⟨c0, c1, c2, c3, c4⟩ := ((Blk.new _ _ _ _ rfl : Blk _ _ _ (Im.I.cells ⟨22, a, b, c, imm⟩)).keep l1).box; have L1 := Lib.hid (Later.trans_ (later1 _ _) l1); clear l1))
  go_ret
  exact ⟨rfl, L1.out⟩
set_option maxRecDepth 100000 in
set_option maxHeartbeats 1000000 in
theorem writes_24 (HR : Hid (RightOk 24 a b c imm w)) :
    Calls Tryz.prog 95 #[.agg #[.int .i64 24, .int .i64 a, .int .i64 b, .int .i64 c, .int .i64 imm]] w fun e w' => e = .returned (.int .i64 a) ∧ Later w w' := by
  go_enter Tryz.func95, Tryz.ntmps95
  go_wp2_with (first
    | (go_at_call 136; refine (HR.out _ (later1 _ _)).mono ?_; rintro e w1 ⟨rfl, l1⟩; obtain ⟨c0, c1, c2, c3, c4⟩ := ((Blk.new _ _ _ _ rfl : Blk _ _ _ (Im.I.cells ⟨24, a, b, c, imm⟩)).keep l1).box; have L1 := Lib.hid (Later.trans_ (later1 _ _) l1); clear l1))
  go_ret
  exact ⟨rfl, L1.out⟩
set_option maxRecDepth 100000 in
set_option maxHeartbeats 1000000 in
theorem writes_32 (HR : Hid (RightOk 32 a b c imm w)) :
    Calls Tryz.prog 95 #[.agg #[.int .i64 32, .int .i64 a, .int .i64 b, .int .i64 c, .int .i64 imm]] w fun e w' => e = .returned (.int .i64 a) ∧ Later w w' := by
  go_enter Tryz.func95, Tryz.ntmps95
  go_wp2_with (first
    | (go_at_call 136; refine (HR.out _ (later1 _ _)).mono ?_; rintro e w1 ⟨rfl, l1⟩; obtain ⟨c0, c1, c2, c3, c4⟩ := ((Blk.new _ _ _ _ rfl : Blk _ _ _ (Im.I.cells ⟨32, a, b, c, imm⟩)).keep l1).box; have L1 := Lib.hid (Later.trans_ (later1 _ _) l1); clear l1))
  go_ret
  exact ⟨rfl, L1.out⟩
set_option maxRecDepth 100000 in
set_option maxHeartbeats 1000000 in
theorem writes_33 (HR : Hid (RightOk 33 a b c imm w)) :
    Calls Tryz.prog 95 #[.agg #[.int .i64 33, .int .i64 a, .int .i64 b, .int .i64 c, .int .i64 imm]] w fun e w' => e = .returned (.int .i64 a) ∧ Later w w' := by
  go_enter Tryz.func95, Tryz.ntmps95
  go_wp2_with (first
    | (go_at_call 136; refine (HR.out _ (later1 _ _)).mono ?_; rintro e w1 ⟨rfl, l1⟩; obtain ⟨c0, c1, c2, c3, c4⟩ := ((Blk.new _ _ _ _ rfl : Blk _ _ _ (Im.I.cells ⟨33, a, b, c, imm⟩)).keep l1).box; have L1 := Lib.hid (Later.trans_ (later1 _ _) l1); clear l1))
  go_ret
  exact ⟨rfl, L1.out⟩
set_option maxRecDepth 100000 in
set_option maxHeartbeats 1000000 in
theorem writes_42 (HR : Hid (RightOk 42 a b c imm w)) :
    Calls Tryz.prog 95 #[.agg #[.int .i64 42, .int .i64 a, .int .i64 b, .int .i64 c, .int .i64 imm]] w fun e w' => e = .returned (.int .i64 a) ∧ Later w w' := by
  go_enter Tryz.func95, Tryz.ntmps95
  go_wp2_with (first
    | (go_at_call 136; refine (HR.out _ (later1 _ _)).mono ?_; rintro e w1 ⟨rfl, l1⟩; obtain ⟨c0, c1, c2, c3, c4⟩ := ((Blk.new _ _ _ _ rfl : Blk _ _ _ (Im.I.cells ⟨42, a, b, c, imm⟩)).keep l1).box; have L1 := Lib.hid (Later.trans_ (later1 _ _) l1); clear l1))
  go_ret
  exact ⟨rfl, L1.out⟩
set_option maxRecDepth 100000 in
set_option maxHeartbeats 1000000 in
theorem writes_46 (HR : Hid (RightOk 46 a b c imm w)) :
    Calls Tryz.prog 95 #[.agg #[.int .i64 46, .int .i64 a, .int .i64 b, .int .i64 c, .int .i64 imm]] w fun e w' => e = .returned (.int .i64 a) ∧ Later w w' := by
  go_enter Tryz.func95, Tryz.ntmps95
  go_wp2_with (first
    | (go_at_call 136; refine (HR.out _ (later1 _ _)).mono ?_; rintro e w1 ⟨rfl, l1⟩; obtain ⟨c0, c1, c2, c3, c4⟩ := ((Blk.new _ _ _ _ rfl : Blk _ _ _ (Im.I.cells ⟨46, a, b, c, imm⟩)).keep l1).box; have L1 := Lib.hid (Later.trans_ (later1 _ _) l1); clear l1))
  go_ret
  exact ⟨rfl, L1.out⟩
set_option maxRecDepth 100000 in
set_option maxHeartbeats 1000000 in
theorem writes_three (ho : 1 ≤ op ∧ op ≤ 12) (HR : Hid (RightOk op a b c imm w)) (HF : Hid (∀ w', Later w w' → Calls Tryz.prog 93 #[.int .i64 op] w' fun e w'' => e = .returned (.int .i64 1) ∧ Later w' w'')) :
    Calls Tryz.prog 95 #[.agg #[.int .i64 op, .int .i64 a, .int .i64 b, .int .i64 c, .int .i64 imm]] w fun e w' => e = .returned (.int .i64 a) ∧ Later w w' := by
  have n16 : (op == 16) = false := beq_eq_false_iff_ne.2 (by omega)
  have n17 : (op == 17) = false := beq_eq_false_iff_ne.2 (by omega)
  have n20 : (op == 20) = false := beq_eq_false_iff_ne.2 (by omega)
  have n22 : (op == 22) = false := beq_eq_false_iff_ne.2 (by omega)
  have n24 : (op == 24) = false := beq_eq_false_iff_ne.2 (by omega)
  have n32 : (op == 32) = false := beq_eq_false_iff_ne.2 (by omega)
  have n33 : (op == 33) = false := beq_eq_false_iff_ne.2 (by omega)
  have n42 : (op == 42) = false := beq_eq_false_iff_ne.2 (by omega)
  have n46 : (op == 46) = false := beq_eq_false_iff_ne.2 (by omega)
  clear ho
  go_enter Tryz.func95, Tryz.ntmps95
  go_wp2_with (first
    | (go_at_call 136; refine (HR.out _ (later1 _ _)).mono ?_; rintro e w1 ⟨rfl, l1⟩; obtain ⟨c0, c1, c2, c3, c4⟩ := ((Blk.new _ _ _ _ rfl : Blk _ _ _ (Im.I.cells ⟨op, a, b, c, imm⟩)).keep l1).box; have L1 := Lib.hid (Later.trans_ (later1 _ _) l1); clear l1)
    | (go_at_call 93; refine (HF.out _ (Later.trans_ L1.out (Below.refl _ _))).mono ?_; rintro e w2 ⟨rfl, l2⟩; replace c1 := (l2.cell (block_lt_of_cell c1)).trans c1; have L2 := Lib.hid (Later.trans_ L1.out l2); clear l2))
  go_ret
  exact ⟨rfl, L2.out⟩
set_option maxRecDepth 100000 in
set_option maxHeartbeats 1000000 in
theorem writes_none (f : Int) (h16 : op ≠ 16) (h17 : op ≠ 17) (h20 : op ≠ 20) (h22 : op ≠ 22) (h24 : op ≠ 24) (h32 : op ≠ 32) (h33 : op ≠ 33) (h42 : op ≠ 42) (h46 : op ≠ 46) (HR : Hid (RightOk op a b c imm w)) (HF : Hid (∀ w', Later w w' → Calls Tryz.prog 93 #[.int .i64 op] w' fun e w'' => e = .returned (.int .i64 f) ∧ Later w' w'')) (hf : (f == 1) = false):
    Calls Tryz.prog 95 #[.agg #[.int .i64 op, .int .i64 a, .int .i64 b, .int .i64 c, .int .i64 imm]] w fun e w' => e = .returned (.int .i64 0) ∧ Later w w' := by
  have n16 : (op == 16) = false := beq_eq_false_iff_ne.2 h16
  have n17 : (op == 17) = false := beq_eq_false_iff_ne.2 h17
  have n20 : (op == 20) = false := beq_eq_false_iff_ne.2 h20
  have n22 : (op == 22) = false := beq_eq_false_iff_ne.2 h22
  have n24 : (op == 24) = false := beq_eq_false_iff_ne.2 h24
  have n32 : (op == 32) = false := beq_eq_false_iff_ne.2 h32
  have n33 : (op == 33) = false := beq_eq_false_iff_ne.2 h33
  have n42 : (op == 42) = false := beq_eq_false_iff_ne.2 h42
  have n46 : (op == 46) = false := beq_eq_false_iff_ne.2 h46
  clear h16 h17 h20 h22 h24 h32 h33 h42 h46
  go_enter Tryz.func95, Tryz.ntmps95
  go_wp2_with (first
    | (go_at_call 136; refine (HR.out _ (later1 _ _)).mono ?_; rintro e w1 ⟨rfl, l1⟩; obtain ⟨c0, c1, c2, c3, c4⟩ := ((Blk.new _ _ _ _ rfl : Blk _ _ _ (Im.I.cells ⟨op, a, b, c, imm⟩)).keep l1).box; have L1 := Lib.hid (Later.trans_ (later1 _ _) l1); clear l1)
    | (go_at_call 93; refine (HF.out _ (Later.trans_ L1.out (Below.refl _ _))).mono ?_; rintro e w2 ⟨rfl, l2⟩; replace c1 := (l2.cell (block_lt_of_cell c1)).trans c1; have L2 := Lib.hid (Later.trans_ L1.out l2); clear l2))
  go_ret
  exact ⟨rfl, L2.out⟩
set_option maxRecDepth 100000 in
set_option maxHeartbeats 1000000 in
theorem target_28 (pc : Int) (HR : Hid (RightOk 28 a b c imm w)) (_hi : -131072 ≤ imm ∧ imm ≤ 131071) :
    Calls Tryz.prog 186 #[.int .u32 pc, .agg #[.int .i64 28, .int .i64 a, .int .i64 b, .int .i64 c, .int .i64 imm]] w fun e w' => e = .returned (.tuple #[.int .u32 ((pc + 4 * imm) % 4294967296), .bool true]) ∧ Later w w' := by
  have hm : (pc + 4 * imm % 4294967296) % 4294967296 = (pc + 4 * imm) % 4294967296 := by omega
  have HM := Lib.hid hm; clear hm
  go_enter Tryz.func186, Tryz.ntmps186
  go_wp2_with (first
    | (go_at_call 136; refine (HR.out _ (later1 _ _)).mono ?_; rintro e w1 ⟨rfl, l1⟩; obtain ⟨c0, c1, c2, c3, c4⟩ := ((Blk.new _ _ _ _ rfl : Blk _ _ _ (Im.I.cells ⟨28, a, b, c, imm⟩)).keep l1).box; have L1 := Lib.hid (Later.trans_ (later1 _ _) l1); clear l1))
  rw [HM.out]
  go_ret2
  exact ⟨rfl, L1.out⟩
set_option maxRecDepth 100000 in
set_option maxHeartbeats 1000000 in
theorem target_29 (pc : Int) (HR : Hid (RightOk 29 a b c imm w)) (_hi : -131072 ≤ imm ∧ imm ≤ 131071) :
    Calls Tryz.prog 186 #[.int .u32 pc, .agg #[.int .i64 29, .int .i64 a, .int .i64 b, .int .i64 c, .int .i64 imm]] w fun e w' => e = .returned (.tuple #[.int .u32 ((pc + 4 * imm) % 4294967296), .bool true]) ∧ Later w w' := by
  have hm : (pc + 4 * imm % 4294967296) % 4294967296 = (pc + 4 * imm) % 4294967296 := by omega
  have HM := Lib.hid hm; clear hm
  go_enter Tryz.func186, Tryz.ntmps186
  go_wp2_with (first
    | (go_at_call 136; refine (HR.out _ (later1 _ _)).mono ?_; rintro e w1 ⟨rfl, l1⟩; obtain ⟨c0, c1, c2, c3, c4⟩ := ((Blk.new _ _ _ _ rfl : Blk _ _ _ (Im.I.cells ⟨29, a, b, c, imm⟩)).keep l1).box; have L1 := Lib.hid (Later.trans_ (later1 _ _) l1); clear l1))
  rw [HM.out]
  go_ret2
  exact ⟨rfl, L1.out⟩
set_option maxRecDepth 100000 in
set_option maxHeartbeats 1000000 in
theorem target_30 (pc : Int) (HR : Hid (RightOk 30 a b c imm w)) (_hi : -131072 ≤ imm ∧ imm ≤ 131071) :
    Calls Tryz.prog 186 #[.int .u32 pc, .agg #[.int .i64 30, .int .i64 a, .int .i64 b, .int .i64 c, .int .i64 imm]] w fun e w' => e = .returned (.tuple #[.int .u32 ((pc + 4 * imm) % 4294967296), .bool true]) ∧ Later w w' := by
  have hm : (pc + 4 * imm % 4294967296) % 4294967296 = (pc + 4 * imm) % 4294967296 := by omega
  have HM := Lib.hid hm; clear hm
  go_enter Tryz.func186, Tryz.ntmps186
  go_wp2_with (first
    | (go_at_call 136; refine (HR.out _ (later1 _ _)).mono ?_; rintro e w1 ⟨rfl, l1⟩; obtain ⟨c0, c1, c2, c3, c4⟩ := ((Blk.new _ _ _ _ rfl : Blk _ _ _ (Im.I.cells ⟨30, a, b, c, imm⟩)).keep l1).box; have L1 := Lib.hid (Later.trans_ (later1 _ _) l1); clear l1))
  rw [HM.out]
  go_ret2
  exact ⟨rfl, L1.out⟩
set_option maxRecDepth 100000 in
set_option maxHeartbeats 1000000 in
theorem target_31 (pc : Int) (HR : Hid (RightOk 31 a b c imm w)) (_hi : -131072 ≤ imm ∧ imm ≤ 131071) :
    Calls Tryz.prog 186 #[.int .u32 pc, .agg #[.int .i64 31, .int .i64 a, .int .i64 b, .int .i64 c, .int .i64 imm]] w fun e w' => e = .returned (.tuple #[.int .u32 ((pc + 4 * imm) % 4294967296), .bool true]) ∧ Later w w' := by
  have hm : (pc + 4 * imm % 4294967296) % 4294967296 = (pc + 4 * imm) % 4294967296 := by omega
  have HM := Lib.hid hm; clear hm
  go_enter Tryz.func186, Tryz.ntmps186
  go_wp2_with (first
    | (go_at_call 136; refine (HR.out _ (later1 _ _)).mono ?_; rintro e w1 ⟨rfl, l1⟩; obtain ⟨c0, c1, c2, c3, c4⟩ := ((Blk.new _ _ _ _ rfl : Blk _ _ _ (Im.I.cells ⟨31, a, b, c, imm⟩)).keep l1).box; have L1 := Lib.hid (Later.trans_ (later1 _ _) l1); clear l1))
  rw [HM.out]
  go_ret2
  exact ⟨rfl, L1.out⟩
set_option maxRecDepth 100000 in
set_option maxHeartbeats 1000000 in
theorem target_32 (pc : Int) (HR : Hid (RightOk 32 a b c imm w)) (_hi : -131072 ≤ imm ∧ imm ≤ 131071) :
    Calls Tryz.prog 186 #[.int .u32 pc, .agg #[.int .i64 32, .int .i64 a, .int .i64 b, .int .i64 c, .int .i64 imm]] w fun e w' => e = .returned (.tuple #[.int .u32 ((pc + 4 * imm) % 4294967296), .bool true]) ∧ Later w w' := by
  have hm : (pc + 4 * imm % 4294967296) % 4294967296 = (pc + 4 * imm) % 4294967296 := by omega
  have HM := Lib.hid hm; clear hm
  go_enter Tryz.func186, Tryz.ntmps186
  go_wp2_with (first
    | (go_at_call 136; refine (HR.out _ (later1 _ _)).mono ?_; rintro e w1 ⟨rfl, l1⟩; obtain ⟨c0, c1, c2, c3, c4⟩ := ((Blk.new _ _ _ _ rfl : Blk _ _ _ (Im.I.cells ⟨32, a, b, c, imm⟩)).keep l1).box; have L1 := Lib.hid (Later.trans_ (later1 _ _) l1); clear l1))
  rw [HM.out]
  go_ret2
  exact ⟨rfl, L1.out⟩
set_option maxRecDepth 100000 in
set_option maxHeartbeats 1000000 in
theorem target_none (pc : Int) (h28 : op ≠ 28) (h29 : op ≠ 29) (h30 : op ≠ 30) (h31 : op ≠ 31) (h32 : op ≠ 32) (HR : Hid (RightOk op a b c imm w)) :
    Calls Tryz.prog 186 #[.int .u32 pc, .agg #[.int .i64 op, .int .i64 a, .int .i64 b, .int .i64 c, .int .i64 imm]] w fun e w' => e = .returned (.tuple #[.int .u32 0, .bool false]) ∧ Later w w' := by
  have n28 : (op == 28) = false := beq_eq_false_iff_ne.2 h28
  have n29 : (op == 29) = false := beq_eq_false_iff_ne.2 h29
  have n30 : (op == 30) = false := beq_eq_false_iff_ne.2 h30
  have n31 : (op == 31) = false := beq_eq_false_iff_ne.2 h31
  have n32 : (op == 32) = false := beq_eq_false_iff_ne.2 h32
  clear h28 h29 h30 h31 h32
  go_enter Tryz.func186, Tryz.ntmps186
  go_wp2_with (first
    | (go_at_call 136; refine (HR.out _ (later1 _ _)).mono ?_; rintro e w1 ⟨rfl, l1⟩; obtain ⟨c0, c1, c2, c3, c4⟩ := ((Blk.new _ _ _ _ rfl : Blk _ _ _ (Im.I.cells ⟨op, a, b, c, imm⟩)).keep l1).box; have L1 := Lib.hid (Later.trans_ (later1 _ _) l1); clear l1))
  go_ret2
  exact ⟨rfl, L1.out⟩
end
end Go.Proofs.YtidhodalnikhlaaGreatDoor

/-
  Reads, Writes, Target OF RIGHT INSTRUCTIONS, put together.
-/
namespace Go.Proofs.YtidhodalnikhlaaGreatDoor
open Go.RowKit Go.ChangeShapes Go.WideShapes Go.ChangeAt

set_option maxRecDepth 100000 in
theorem form_one : ∀ k : Fin 49, (Im.formN k.1 == 1) = (decide (1 ≤ k.1) && decide (k.1 ≤ 12)) := by decide +kernel
set_option maxRecDepth 100000 in
theorem form_three {op : Int} (h : Im.form op ≠ 0) : Im.form op = 1 ↔ 1 ≤ op ∧ op ≤ 12 := by
  have hr := Im.form_range h
  obtain ⟨k, rfl⟩ := Int.eq_ofNat_of_zero_le (show 0 ≤ op by omega)
  have h1 := form_one ⟨k, by omega⟩
  have h2 : (Im.formN k == 1) = (decide (1 ≤ k) && decide (k ≤ 12)) := h1
  rw [Im.form_nat]
  constructor
  · intro e
    have e' : Im.formN k = 1 := by omega
    rw [e'] at h2
    simp at h2
    omega
  · intro e
    have : (Im.formN k == 1) = true := by rw [h2]; simp; omega
    simp at this
    omega
set_option maxRecDepth 100000 in
theorem right_ok {i : Im.I} {w : World} (tab : Tab w) (hr : Im.Right i) : RightOk i.op i.a i.b i.c i.imm w := fun w' hl => by
  have h := right_any i w' (tab.keep hl)
  rw [decide_eq_true hr] at h
  exact h
set_option maxRecDepth 100000 in
theorem writes_any (i : Im.I) (hr : Im.Right i) (w : World) (tab : Tab w) :
    Calls Tryz.prog 95 #[.agg #[.int .i64 i.op, .int .i64 i.a, .int .i64 i.b, .int .i64 i.c, .int .i64 i.imm]] w fun e w' => e = .returned (.int .i64 (writeI i)) ∧ Later w w' := by
  have HR := right_ok tab hr
  have HF := fun w' (hl : Later w w') => form_any i.op w' (tab.keep hl)
  have hf := hr.1
  obtain ⟨op, a, b, c, imm⟩ := i
  dsimp only at *
  by_cases h16 : op = 16
  · subst h16
    exact writes_16 a b c imm w (Lib.hid HR)
  by_cases h17 : op = 17
  · subst h17
    exact writes_17 a b c imm w (Lib.hid HR)
  by_cases h20 : op = 20
  · subst h20
    exact writes_20 a b c imm w (Lib.hid HR)
  by_cases h22 : op = 22
  · subst h22
    exact writes_22 a b c imm w (Lib.hid HR)
  by_cases h24 : op = 24
  · subst h24
    exact writes_24 a b c imm w (Lib.hid HR)
  by_cases h32 : op = 32
  · subst h32
    exact writes_32 a b c imm w (Lib.hid HR)
  by_cases h33 : op = 33
  · subst h33
    exact writes_33 a b c imm w (Lib.hid HR)
  by_cases h42 : op = 42
  · subst h42
    exact writes_42 a b c imm w (Lib.hid HR)
  by_cases h46 : op = 46
  · subst h46
    exact writes_46 a b c imm w (Lib.hid HR)
  have e1 : wrA op = false := by simp [wrA, h16, h17, h20, h22, h24, h32, h33, h42, h46]
  by_cases ho : Im.form op = 1
  · have e4 : writeI ⟨op, a, b, c, imm⟩ = a := by unfold writeI; dsimp only; rw [e1, ho]; rfl
    rw [e4]
    rw [ho] at HF
    exact writes_three op a b c imm w ((form_three hf).1 ho) (Lib.hid HR) (Lib.hid HF)
  · have e4 : writeI ⟨op, a, b, c, imm⟩ = 0 := by unfold writeI; dsimp only; rw [e1, if_neg ho]; rfl
    rw [e4]
    exact writes_none op a b c imm w (Im.form op) h16 h17 h20 h22 h24 h32 h33 h42 h46 (Lib.hid HR) (Lib.hid HF) (beq_eq_false_iff_ne.2 ho)
set_option maxRecDepth 100000 in
theorem target_any (pc : Int) (i : Im.I) (hr : Im.Right i) (w : World) (tab : Tab w) :
    Calls Tryz.prog 186 #[.int .u32 pc, .agg #[.int .i64 i.op, .int .i64 i.a, .int .i64 i.b, .int .i64 i.c, .int .i64 i.imm]] w fun e w' => e = .returned (.tuple #[.int .u32 (targI pc i), .bool (isT i.op)]) ∧ Later w w' := by
  have HR := right_ok tab hr
  have hi := hr.2.2.2.2.2
  obtain ⟨op, a, b, c, imm⟩ := i
  dsimp only at *
  by_cases h28 : op = 28
  · subst h28
    exact target_28 a b c imm w pc (Lib.hid HR) hi
  by_cases h29 : op = 29
  · subst h29
    exact target_29 a b c imm w pc (Lib.hid HR) hi
  by_cases h30 : op = 30
  · subst h30
    exact target_30 a b c imm w pc (Lib.hid HR) hi
  by_cases h31 : op = 31
  · subst h31
    exact target_31 a b c imm w pc (Lib.hid HR) hi
  by_cases h32 : op = 32
  · subst h32
    exact target_32 a b c imm w pc (Lib.hid HR) hi
  have e1 : isT op = false := by simp [isT, h28, h29, h30, h31, h32]
  have e4 : targI pc ⟨op, a, b, c, imm⟩ = 0 := by unfold targI; dsimp only; rw [e1]; rfl
  rw [e4, e1]
  exact target_none op a b c imm w pc h28 h29 h30 h31 h32 (Lib.hid HR)
end Go.Proofs.YtidhodalnikhlaaGreatDoor
