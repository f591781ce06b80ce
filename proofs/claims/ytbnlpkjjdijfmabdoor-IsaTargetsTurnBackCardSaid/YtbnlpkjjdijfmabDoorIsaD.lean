/-
  THE WALKS OF isa.Encode, the closure of Decode, Decode.
-/
import Derived.Test.YtbnlpkjjdijfmabDoorIsaC
namespace Go.Proofs.YtbnlpkjjdijfmabDoor
open Go.RowKit Go.ChangeShapes Go.WideShapes Go.ChangeAt

/-- What the isa's Encode returns. -/
def encW (i : Im.I) : Int := if Im.Right i then Im.word i else 0
def encE (i : Im.I) : Int := if Im.Right i then 0 else 1
set_option maxRecDepth 100000 in
set_option maxHeartbeats 1000000 in
theorem encode_any (i : Im.I) (w : World) (tab : Tab w) :
    Calls Tryd.prog 9 #[.agg #[.int .i64 i.op, .int .i64 i.a, .int .i64 i.b, .int .i64 i.c, .int .i64 i.imm]] w fun e w' => e = .returned (.tuple #[.int .u32 (encW i), .int .i64 (encE i)]) ∧ Later w w' := by
  have HR := Lib.hid (fun w' (h : Later w w') => right_any i w' (tab.keep h))
  unfold encW encE
  by_cases hr : Im.Right i
  · rw [if_pos hr, if_pos hr]
    rw [decide_eq_true hr] at HR
    obtain ⟨a1, a2, a3, a4, a5, a6⟩ := Im.right_cases hr
    have HW := Lib.hid (fun w' => word_any i.op i.a i.b i.c i.imm w' (by omega) (by omega) (by omega) (by omega) (by omega))
    clear tab hr a1 a2 a3 a4 a5 a6
    go_enter Tryd.func9, Tryd.ntmps9
    go_wp2_with (first
      | (go_at_call 11; refine (HR.out _ (later1 _ _)).mono ?_; rintro e w1 ⟨rfl, l1⟩; obtain ⟨c0, c1, c2, c3, c4⟩ := ((Blk.new _ _ _ _ rfl : Blk _ _ _ i.cells).keep l1).box)
      | (go_at_call 33; refine (HW.out _).mono ?_; rintro e w2 ⟨rfl, l2⟩))
    go_ret2
    exact ⟨rfl, Later.trans_ (Later.trans_ (later1 _ _) l1) l2⟩
  · rw [if_neg hr, if_neg hr]
    rw [decide_eq_false hr] at HR
    clear tab hr
    go_enter Tryd.func9, Tryd.ntmps9
    go_wp2_with (first
      | (go_at_call 11; refine (HR.out _ (later1 _ _)).mono ?_; rintro e w1 ⟨rfl, l1⟩))
    go_ret2
    exact ⟨rfl, Later.trans_ (later1 _ _) l1⟩

theorem Im.cut_ok {W : Int} (h : 0 ≤ W ∧ W < 4294967296) : (0 ≤ (Im.cut W).op ∧ (Im.cut W).op < 64) ∧ (0 ≤ (Im.cut W).a ∧ (Im.cut W).a < 16) ∧ (0 ≤ (Im.cut W).b ∧ (Im.cut W).b < 16) ∧ (0 ≤ (Im.cut W).c ∧ (Im.cut W).c < 16) ∧ ((Im.cut W).c = 0 ∨ (Im.cut W).imm = 0) := by
  obtain ⟨i, hi⟩ : ∃ i, i = Im.fields W := ⟨_, rfl⟩
  have hr : (0 ≤ i.op ∧ i.op < 64) ∧ (0 ≤ i.a ∧ i.a < 16) ∧ (0 ≤ i.b ∧ i.b < 16) ∧ (0 ≤ i.c ∧ i.c < 16) := by
    rw [hi]; unfold Im.fields; dsimp only
    omega
  unfold Im.cut
  rw [← hi]
  clear hi
  obtain ⟨op, a, b, c, imm⟩ := i
  unfold Im.formed
  dsimp only at hr ⊢
  rcases Im.form_vals op with e | e | e | e | e | e
  all_goals (simp [e]; try omega)
theorem and_low (X : Nat) (k : Nat) (hk : k ≤ 26) (hy : X < 4294967296) : bits .and .u32 (X : Int) (((2 ^ k - 1 : Nat) : Int)) = ((X % 2 ^ k : Nat) : Int) := by
  have h2 : 2 ^ k ≤ 2 ^ 26 := Nat.pow_le_pow_right (by decide) hk
  have h0 : 0 < 2 ^ k := Nat.two_pow_pos k
  have h3 : (2 : Nat) ^ 26 = 67108864 := rfl
  show IntKind.u32.wrap ((BitVec.ofInt 32 (X : Int) &&& BitVec.ofInt 32 ((2 ^ k - 1 : Nat) : Int)).toNat : Int) = _
  rw [BitVec.ofInt_natCast, BitVec.ofInt_natCast, BitVec.toNat_and, BitVec.toNat_ofNat, BitVec.toNat_ofNat, Nat.mod_eq_of_lt (by omega), Nat.mod_eq_of_lt (by omega), Nat.and_two_pow_sub_one_eq_mod, IntKind.wrap_u32]
  have := Nat.mod_lt X h0
  omega
theorem and_low64 (W : Int) (D k : Nat) (hk : k ≤ 26) (_hD : 0 < D) (h : 0 ≤ W ∧ W < 4294967296) (M : Int) (hM : M = ((2 ^ k - 1 : Nat) : Int)) : wrap64 (bits .and .u32 (W / (D : Int)) M) = W / (D : Int) % ((2 ^ k : Nat) : Int) := by
  obtain ⟨X, rfl⟩ := Int.eq_ofNat_of_zero_le h.1
  have h1 : X / D ≤ X := Nat.div_le_self _ _
  have h2 : X / D % 2 ^ k ≤ X / D := Nat.mod_le _ _
  rw [hM, show ((X : Int) / (D : Int)) = ((X / D : Nat) : Int) from rfl, and_low (X / D) k hk (by omega)]
  rw [IntWalk.wrap64_in _ (by omega)]
  rfl
theorem later_drewN (w : World) (n : Nat) : Later w (w.drewN n) := ⟨rfl, rfl, rfl, Nat.le_refl _, fun _ _ => rfl⟩
set_option maxRecDepth 100000 in
set_option maxHeartbeats 1000000 in
theorem cut_imm (W : Int) (h : 0 ≤ W ∧ W < 4294967296) (B : Nat) (w : World) (hc : w.cell? ⟨B, 0, none⟩ = some (.int .u32 W)) :
    Calls Tryd.prog 40 #[.int .i64 0, .int .i64 18, .pointer (some ⟨B, 0, none⟩)] w fun e w' => e = .returned (.int .i64 (W % 262144)) ∧ Later w w' := by
  have hv := and_low64 W 1 18 (by decide) (by decide) h 262143 rfl
  rw [show ((1 : Nat) : Int) = 1 from rfl, Int.ediv_one] at hv
  replace hv : wrap64 (bits .and .u32 (W) 262143) = W % 262144 := hv
  have hV := Lib.hid hv; clear hv
  have hc' : ∀ n, (w.drewN n).cell? ⟨B, 0, none⟩ = some (.int .u32 W) := fun _ => hc
  go_enter Tryd.func40, Tryd.ntmps40
  go_wp2
  go_quiet (fail)
  go_wp2
  rw [hV.out]
  go_ret
  exact ⟨rfl, later_drewN _ _⟩
set_option maxRecDepth 100000 in
set_option maxHeartbeats 1000000 in
theorem cut_op (W : Int) (h : 0 ≤ W ∧ W < 4294967296) (B : Nat) (w : World) (hc : w.cell? ⟨B, 0, none⟩ = some (.int .u32 W)) :
    Calls Tryd.prog 40 #[.int .i64 26, .int .i64 6, .pointer (some ⟨B, 0, none⟩)] w fun e w' => e = .returned (.int .i64 (W / 67108864 % 64)) ∧ Later w w' := by
  have hv := and_low64 W 67108864 6 (by decide) (by decide) h 63 rfl
  replace hv : wrap64 (bits .and .u32 (W / 67108864) 63) = W / 67108864 % 64 := hv
  have hV := Lib.hid hv; clear hv
  have hc' : ∀ n, (w.drewN n).cell? ⟨B, 0, none⟩ = some (.int .u32 W) := fun _ => hc
  go_enter Tryd.func40, Tryd.ntmps40
  go_wp2
  go_quiet (fail)
  go_wp2
  rw [hV.out]
  go_ret
  exact ⟨rfl, later_drewN _ _⟩
set_option maxRecDepth 100000 in
set_option maxHeartbeats 1000000 in
theorem cut_a (W : Int) (h : 0 ≤ W ∧ W < 4294967296) (B : Nat) (w : World) (hc : w.cell? ⟨B, 0, none⟩ = some (.int .u32 W)) :
    Calls Tryd.prog 40 #[.int .i64 22, .int .i64 4, .pointer (some ⟨B, 0, none⟩)] w fun e w' => e = .returned (.int .i64 (W / 4194304 % 16)) ∧ Later w w' := by
  have hv := and_low64 W 4194304 4 (by decide) (by decide) h 15 rfl
  replace hv : wrap64 (bits .and .u32 (W / 4194304) 15) = W / 4194304 % 16 := hv
  have hV := Lib.hid hv; clear hv
  have hc' : ∀ n, (w.drewN n).cell? ⟨B, 0, none⟩ = some (.int .u32 W) := fun _ => hc
  go_enter Tryd.func40, Tryd.ntmps40
  go_wp2
  go_quiet (fail)
  go_wp2
  rw [hV.out]
  go_ret
  exact ⟨rfl, later_drewN _ _⟩
set_option maxRecDepth 100000 in
set_option maxHeartbeats 1000000 in
theorem cut_b (W : Int) (h : 0 ≤ W ∧ W < 4294967296) (B : Nat) (w : World) (hc : w.cell? ⟨B, 0, none⟩ = some (.int .u32 W)) :
    Calls Tryd.prog 40 #[.int .i64 18, .int .i64 4, .pointer (some ⟨B, 0, none⟩)] w fun e w' => e = .returned (.int .i64 (W / 262144 % 16)) ∧ Later w w' := by
  have hv := and_low64 W 262144 4 (by decide) (by decide) h 15 rfl
  replace hv : wrap64 (bits .and .u32 (W / 262144) 15) = W / 262144 % 16 := hv
  have hV := Lib.hid hv; clear hv
  have hc' : ∀ n, (w.drewN n).cell? ⟨B, 0, none⟩ = some (.int .u32 W) := fun _ => hc
  go_enter Tryd.func40, Tryd.ntmps40
  go_wp2
  go_quiet (fail)
  go_wp2
  rw [hV.out]
  go_ret
  exact ⟨rfl, later_drewN _ _⟩
set_option maxRecDepth 100000 in
set_option maxHeartbeats 1000000 in
theorem cut_c (W : Int) (h : 0 ≤ W ∧ W < 4294967296) (B : Nat) (w : World) (hc : w.cell? ⟨B, 0, none⟩ = some (.int .u32 W)) :
    Calls Tryd.prog 40 #[.int .i64 14, .int .i64 4, .pointer (some ⟨B, 0, none⟩)] w fun e w' => e = .returned (.int .i64 (W / 16384 % 16)) ∧ Later w w' := by
  have hv := and_low64 W 16384 4 (by decide) (by decide) h 15 rfl
  replace hv : wrap64 (bits .and .u32 (W / 16384) 15) = W / 16384 % 16 := hv
  have hV := Lib.hid hv; clear hv
  have hc' : ∀ n, (w.drewN n).cell? ⟨B, 0, none⟩ = some (.int .u32 W) := fun _ => hc
  go_enter Tryd.func40, Tryd.ntmps40
  go_wp2
  go_quiet (fail)
  go_wp2
  rw [hV.out]
  go_ret
  exact ⟨rfl, later_drewN _ _⟩

/-- What Decode returns. -/
def decI (W : Int) : Im.I := if Im.Legal W then Im.cut W else ⟨0, 0, 0, 0, 0⟩
set_option maxRecDepth 100000 in
theorem dec_ret {w : World} {fn : Func} {p u : Tmp} (h : fn.results = #[.cell p 23, .tmp u]) (tmps : Array Value) (g : Nat) (t : TypeId) (i : Im.I) (v : Value)
    (hp : tmps.getD p undef = .pointer (some ⟨g, 0, none⟩)) (hu : tmps.getD u undef = v) (hg : Blk w g t i.cells) : (results fn tmps).run Tryd.prog w = .ok (.tuple #[.agg i.cells.toArray, v]) w := by
  have hp' : tmps[p]?.getD undef = .pointer (some ⟨g, 0, none⟩) := by simpa using hp
  have hu' : tmps[u]?.getD undef = v := by simpa using hu
  simp [results, h, hp', hu', asAddr, run_loadVar_row w g t 23 i.cells.toArray (0, 0) _ hg Tryd.underlying23 rfl (by rw [List.size_toArray]; exact ins_sz i)]
end Go.Proofs.YtbnlpkjjdijfmabDoor
