/-
  THE WALKS OF the reference's Reads, Writes, Target.
-/
import Derived.Test.YtbnlpkjjdijfmabDoorIsaRg
namespace Go.Proofs.YtbnlpkjjdijfmabDoor
open Go.RowKit Go.ChangeShapes Go.WideShapes Go.ChangeAt

def cnd (fa fb : Bool) (a b c r : Int) : Bool := fa && a == r || fb && b == r || c == r
/-- The registers that the reference has found before k + 1. -/
def regsG (fa fb : Bool) (a b c : Int) (k : Nat) : List Int := ((List.range k).map fun (j : Nat) => (j : Int) + 1).filter (cnd fa fb a b c)
theorem regsG_next (fa fb : Bool) (a b c : Int) (k : Nat) : regsG fa fb a b c (k + 1) = regsG fa fb a b c k ++ (if cnd fa fb a b c ((k : Int) + 1) then [(k : Int) + 1] else []) := by
  unfold regsG
  rw [List.range_succ, List.map_append, List.filter_append]
  congr 1
  simp only [List.map_cons, List.map_nil, List.filter_cons, List.filter_nil]
theorem regsG_len (fa fb : Bool) (a b c : Int) (k : Nat) : (regsG fa fb a b c k).length ≤ k := by
  unfold regsG
  refine Nat.le_trans (List.length_filter_le _ _) ?_
  simp
set_option maxRecDepth 100000 in
set_option maxHeartbeats 4000000 in
theorem rreads_21 (a b c imm : Int) (w : World) (HF : Q 26 #[.int .i64 21] (.int .i64 2)) :
    Calls Tryd.prog 18 #[.agg #[.int .i64 21, .int .i64 a, .int .i64 b, .int .i64 c, .int .i64 imm]] w (MadeI (regsG true true a b c 15) w) := by
  obtain ⟨i0, hi, hz0, hz1, hz2⟩ := info_parts int_info
  have HFF := Lib.hid HF; clear HF
  go_enter Tryd.func18, Tryd.ntmps18
  go_wp2_with (first
    | (go_at_call 26; refine (HFF.out _).mono ?_; rintro e w1 ⟨rfl, rfl⟩))
  have hbx : Blk (w.alloc (.cells #[.int .i64 21, .int .i64 a, .int .i64 b, .int .i64 c, .int .i64 imm] 23)) w.heap.size 23 (Im.I.cells ⟨21, a, b, c, imm⟩) := Blk.new _ _ _ _ rfl
  have hl0 := later1 w (.cells #[.int .i64 21, .int .i64 a, .int .i64 b, .int .i64 c, .int .i64 imm] 23)
  have HBX := Lib.hid hbx; clear hbx
  generalize w.alloc (.cells #[.int .i64 21, .int .i64 a, .int .i64 b, .int .i64 c, .int .i64 imm] 23) = w0 at HBX hl0 ⊢
  go_loopw [5, 6] (fun v x wr => ∃ k : Nat, k ≤ 15 ∧ x = .int .i64 ((k : Int) + 1) ∧ wr.ownsRow w0.heap.size 3 1 v (regsG true true a b c k).length (N64 (regsG true true a b c k)) ∧ Later w0 wr) (fun _ x _ => 16 - (intOf x).toNat)
  case atStart => exact ⟨0, Nat.zero_le _, rfl, World.ownsRow_nil _ _ _ _, Below.refl _ _⟩
  case round =>
    obtain ⟨k, hk, rfl, hor, hbr⟩ := hrel
    by_cases hlt : k < 15
    · obtain ⟨c0, c1, c2, c3, c4⟩ := (HBX.out.keep hbr).box
      have hnx := regsG_next true true a b c k
      have hln2 := regsG_len true true a b c k
      obtain ⟨o, ho⟩ : ∃ o, o = regsG true true a b c k := ⟨_, rfl⟩
      rw [← ho] at hor hln2 hnx
      have HO := Lib.hid hnx; clear hnx ho
      cases han : (a == (k : Int) + 1) with
      | true =>
        have HP := Lib.hid (show regsG true true a b c (k + 1) = o ++ [(k : Int) + 1] by rw [HO.out, cnd, han]; simp)
        clear HO
        go_wp2_with (at_builtin; refine wpList_append_own _ rfl _ _ 39 rfl w0.heap.size 3 i0 (.int .i64 0) 1 8 Tryd.underlying39 hi hz0 hz1 hz2 rfl (by decide) _ _ _ rfl (hor.alloc _) ⟨wr.heap.size, 0, none⟩ 1 1 [.int .i64 _] rfl rfl (cell_one_new _ _ _) (one_int _ _) (by unfold maxLen; omega) (by omega) (by have := hbr.size; simp; omega) ?_; intro v' w1 hown' hgrow _)
        have hb1 : Later w0 w1 := (hbr.alloc hbr.size _).grown hgrow (by have := hbr.size; simp; omega) (fun k hk => (hor.lt k hk).1)
        have ho2 := ownI_snoc hown'
        clear hown' hgrow hor
        go_wp2
        go_roundw
        case rel => exact ⟨k + 1, by omega, by go_num, by rw [HP.out]; exact ho2, hb1⟩
        case measure => simp [intOf]; omega
      | false =>
        cases hbn : (b == (k : Int) + 1) with
        | true =>
          have HP := Lib.hid (show regsG true true a b c (k + 1) = o ++ [(k : Int) + 1] by rw [HO.out, cnd, han, hbn]; simp)
          clear HO
          go_wp2_with (at_builtin; refine wpList_append_own _ rfl _ _ 39 rfl w0.heap.size 3 i0 (.int .i64 0) 1 8 Tryd.underlying39 hi hz0 hz1 hz2 rfl (by decide) _ _ _ rfl (hor.alloc _) ⟨wr.heap.size, 0, none⟩ 1 1 [.int .i64 _] rfl rfl (cell_one_new _ _ _) (one_int _ _) (by unfold maxLen; omega) (by omega) (by have := hbr.size; simp; omega) ?_; intro v' w1 hown' hgrow _)
          have hb1 : Later w0 w1 := (hbr.alloc hbr.size _).grown hgrow (by have := hbr.size; simp; omega) (fun k hk => (hor.lt k hk).1)
          have ho2 := ownI_snoc hown'
          clear hown' hgrow hor
          go_wp2
          go_roundw
          case rel => exact ⟨k + 1, by omega, by go_num, by rw [HP.out]; exact ho2, hb1⟩
          case measure => simp [intOf]; omega
        | false =>
          cases hcn : (c == (k : Int) + 1) with
          | true =>
            have HP := Lib.hid (show regsG true true a b c (k + 1) = o ++ [(k : Int) + 1] by rw [HO.out, cnd, han, hbn, hcn]; simp)
            clear HO
            go_wp2_with (at_builtin; refine wpList_append_own _ rfl _ _ 39 rfl w0.heap.size 3 i0 (.int .i64 0) 1 8 Tryd.underlying39 hi hz0 hz1 hz2 rfl (by decide) _ _ _ rfl (hor.alloc _) ⟨wr.heap.size, 0, none⟩ 1 1 [.int .i64 _] rfl rfl (cell_one_new _ _ _) (one_int _ _) (by unfold maxLen; omega) (by omega) (by have := hbr.size; simp; omega) ?_; intro v' w1 hown' hgrow _)
            have hb1 : Later w0 w1 := (hbr.alloc hbr.size _).grown hgrow (by have := hbr.size; simp; omega) (fun k hk => (hor.lt k hk).1)
            have ho2 := ownI_snoc hown'
            clear hown' hgrow hor
            go_wp2
            go_roundw
            case rel => exact ⟨k + 1, by omega, by go_num, by rw [HP.out]; exact ho2, hb1⟩
            case measure => simp [intOf]; omega
          | false =>
            have HP := Lib.hid (show regsG true true a b c (k + 1) = o by rw [HO.out, cnd, han, hbn, hcn]; simp)
            clear HO
            go_wp2
            go_roundw
            case rel => exact ⟨k + 1, by omega, by go_num, by rw [HP.out]; exact hor, hbr⟩
            case measure => simp [intOf]; omega
    · obtain rfl : k = 15 := by omega
      go_wp2
      go_ret
      exact MadeI.after hl0 (madeI_of hor hbr)
set_option maxRecDepth 100000 in
set_option maxHeartbeats 4000000 in
theorem rreads_23 (a b c imm : Int) (w : World) (HF : Q 26 #[.int .i64 23] (.int .i64 2)) :
    Calls Tryd.prog 18 #[.agg #[.int .i64 23, .int .i64 a, .int .i64 b, .int .i64 c, .int .i64 imm]] w (MadeI (regsG true true a b c 15) w) := by
  obtain ⟨i0, hi, hz0, hz1, hz2⟩ := info_parts int_info
  have HFF := Lib.hid HF; clear HF
  go_enter Tryd.func18, Tryd.ntmps18
  go_wp2_with (first
    | (go_at_call 26; refine (HFF.out _).mono ?_; rintro e w1 ⟨rfl, rfl⟩))
  have hbx : Blk (w.alloc (.cells #[.int .i64 23, .int .i64 a, .int .i64 b, .int .i64 c, .int .i64 imm] 23)) w.heap.size 23 (Im.I.cells ⟨23, a, b, c, imm⟩) := Blk.new _ _ _ _ rfl
  have hl0 := later1 w (.cells #[.int .i64 23, .int .i64 a, .int .i64 b, .int .i64 c, .int .i64 imm] 23)
  have HBX := Lib.hid hbx; clear hbx
  generalize w.alloc (.cells #[.int .i64 23, .int .i64 a, .int .i64 b, .int .i64 c, .int .i64 imm] 23) = w0 at HBX hl0 ⊢
  go_loopw [5, 6] (fun v x wr => ∃ k : Nat, k ≤ 15 ∧ x = .int .i64 ((k : Int) + 1) ∧ wr.ownsRow w0.heap.size 3 1 v (regsG true true a b c k).length (N64 (regsG true true a b c k)) ∧ Later w0 wr) (fun _ x _ => 16 - (intOf x).toNat)
  case atStart => exact ⟨0, Nat.zero_le _, rfl, World.ownsRow_nil _ _ _ _, Below.refl _ _⟩
  case round =>
    obtain ⟨k, hk, rfl, hor, hbr⟩ := hrel
    by_cases hlt : k < 15
    · obtain ⟨c0, c1, c2, c3, c4⟩ := (HBX.out.keep hbr).box
      have hnx := regsG_next true true a b c k
      have hln2 := regsG_len true true a b c k
      obtain ⟨o, ho⟩ : ∃ o, o = regsG true true a b c k := ⟨_, rfl⟩
      rw [← ho] at hor hln2 hnx
      have HO := Lib.hid hnx; clear hnx ho
      cases han : (a == (k : Int) + 1) with
      | true =>
        have HP := Lib.hid (show regsG true true a b c (k + 1) = o ++ [(k : Int) + 1] by rw [HO.out, cnd, han]; simp)
        clear HO
        go_wp2_with (at_builtin; refine wpList_append_own _ rfl _ _ 39 rfl w0.heap.size 3 i0 (.int .i64 0) 1 8 Tryd.underlying39 hi hz0 hz1 hz2 rfl (by decide) _ _ _ rfl (hor.alloc _) ⟨wr.heap.size, 0, none⟩ 1 1 [.int .i64 _] rfl rfl (cell_one_new _ _ _) (one_int _ _) (by unfold maxLen; omega) (by omega) (by have := hbr.size; simp; omega) ?_; intro v' w1 hown' hgrow _)
        have hb1 : Later w0 w1 := (hbr.alloc hbr.size _).grown hgrow (by have := hbr.size; simp; omega) (fun k hk => (hor.lt k hk).1)
        have ho2 := ownI_snoc hown'
        clear hown' hgrow hor
        go_wp2
        go_roundw
        case rel => exact ⟨k + 1, by omega, by go_num, by rw [HP.out]; exact ho2, hb1⟩
        case measure => simp [intOf]; omega
      | false =>
        cases hbn : (b == (k : Int) + 1) with
        | true =>
          have HP := Lib.hid (show regsG true true a b c (k + 1) = o ++ [(k : Int) + 1] by rw [HO.out, cnd, han, hbn]; simp)
          clear HO
          go_wp2_with (at_builtin; refine wpList_append_own _ rfl _ _ 39 rfl w0.heap.size 3 i0 (.int .i64 0) 1 8 Tryd.underlying39 hi hz0 hz1 hz2 rfl (by decide) _ _ _ rfl (hor.alloc _) ⟨wr.heap.size, 0, none⟩ 1 1 [.int .i64 _] rfl rfl (cell_one_new _ _ _) (one_int _ _) (by unfold maxLen; omega) (by omega) (by have := hbr.size; simp; omega) ?_; intro v' w1 hown' hgrow _)
          have hb1 : Later w0 w1 := (hbr.alloc hbr.size _).grown hgrow (by have := hbr.size; simp; omega) (fun k hk => (hor.lt k hk).1)
          have ho2 := ownI_snoc hown'
          clear hown' hgrow hor
          go_wp2
          go_roundw
          case rel => exact ⟨k + 1, by omega, by go_num, by rw [HP.out]; exact ho2, hb1⟩
          case measure => simp [intOf]; omega
        | false =>
          cases hcn : (c == (k : Int) + 1) with
          | true =>
            have HP := Lib.hid (show regsG true true a b c (k + 1) = o ++ [(k : Int) + 1] by rw [HO.out, cnd, han, hbn, hcn]; simp)
            clear HO
            go_wp2_with (at_builtin; refine wpList_append_own _ rfl _ _ 39 rfl w0.heap.size 3 i0 (.int .i64 0) 1 8 Tryd.underlying39 hi hz0 hz1 hz2 rfl (by decide) _ _ _ rfl (hor.alloc _) ⟨wr.heap.size, 0, none⟩ 1 1 [.int .i64 _] rfl rfl (cell_one_new _ _ _) (one_int _ _) (by unfold maxLen; omega) (by omega) (by have := hbr.size; simp; omega) ?_; intro v' w1 hown' hgrow _)
            have hb1 : Later w0 w1 := (hbr.alloc hbr.size _).grown hgrow (by have := hbr.size; simp; omega) (fun k hk => (hor.lt k hk).1)
            have ho2 := ownI_snoc hown'
            clear hown' hgrow hor
            go_wp2
            go_roundw
            case rel => exact ⟨k + 1, by omega, by go_num, by rw [HP.out]; exact ho2, hb1⟩
            case measure => simp [intOf]; omega
          | false =>
            have HP := Lib.hid (show regsG true true a b c (k + 1) = o by rw [HO.out, cnd, han, hbn, hcn]; simp)
            clear HO
            go_wp2
            go_roundw
            case rel => exact ⟨k + 1, by omega, by go_num, by rw [HP.out]; exact hor, hbr⟩
            case measure => simp [intOf]; omega
    · obtain rfl : k = 15 := by omega
      go_wp2
      go_ret
      exact MadeI.after hl0 (madeI_of hor hbr)
set_option maxRecDepth 100000 in
set_option maxHeartbeats 4000000 in
theorem rreads_24 (a b c imm : Int) (w : World) (HF : Q 26 #[.int .i64 24] (.int .i64 2)) :
    Calls Tryd.prog 18 #[.agg #[.int .i64 24, .int .i64 a, .int .i64 b, .int .i64 c, .int .i64 imm]] w (MadeI (regsG true true a b c 15) w) := by
  obtain ⟨i0, hi, hz0, hz1, hz2⟩ := info_parts int_info
  have HFF := Lib.hid HF; clear HF
  go_enter Tryd.func18, Tryd.ntmps18
  go_wp2_with (first
    | (go_at_call 26; refine (HFF.out _).mono ?_; rintro e w1 ⟨rfl, rfl⟩))
  have hbx : Blk (w.alloc (.cells #[.int .i64 24, .int .i64 a, .int .i64 b, .int .i64 c, .int .i64 imm] 23)) w.heap.size 23 (Im.I.cells ⟨24, a, b, c, imm⟩) := Blk.new _ _ _ _ rfl
  have hl0 := later1 w (.cells #[.int .i64 24, .int .i64 a, .int .i64 b, .int .i64 c, .int .i64 imm] 23)
  have HBX := Lib.hid hbx; clear hbx
  generalize w.alloc (.cells #[.int .i64 24, .int .i64 a, .int .i64 b, .int .i64 c, .int .i64 imm] 23) = w0 at HBX hl0 ⊢
  go_loopw [5, 6] (fun v x wr => ∃ k : Nat, k ≤ 15 ∧ x = .int .i64 ((k : Int) + 1) ∧ wr.ownsRow w0.heap.size 3 1 v (regsG true true a b c k).length (N64 (regsG true true a b c k)) ∧ Later w0 wr) (fun _ x _ => 16 - (intOf x).toNat)
  case atStart => exact ⟨0, Nat.zero_le _, rfl, World.ownsRow_nil _ _ _ _, Below.refl _ _⟩
  case round =>
    obtain ⟨k, hk, rfl, hor, hbr⟩ := hrel
    by_cases hlt : k < 15
    · obtain ⟨c0, c1, c2, c3, c4⟩ := (HBX.out.keep hbr).box
      have hnx := regsG_next true true a b c k
      have hln2 := regsG_len true true a b c k
      obtain ⟨o, ho⟩ : ∃ o, o = regsG true true a b c k := ⟨_, rfl⟩
      rw [← ho] at hor hln2 hnx
      have HO := Lib.hid hnx; clear hnx ho
      cases han : (a == (k : Int) + 1) with
      | true =>
        have HP := Lib.hid (show regsG true true a b c (k + 1) = o ++ [(k : Int) + 1] by rw [HO.out, cnd, han]; simp)
        clear HO
        go_wp2_with (at_builtin; refine wpList_append_own _ rfl _ _ 39 rfl w0.heap.size 3 i0 (.int .i64 0) 1 8 Tryd.underlying39 hi hz0 hz1 hz2 rfl (by decide) _ _ _ rfl (hor.alloc _) ⟨wr.heap.size, 0, none⟩ 1 1 [.int .i64 _] rfl rfl (cell_one_new _ _ _) (one_int _ _) (by unfold maxLen; omega) (by omega) (by have := hbr.size; simp; omega) ?_; intro v' w1 hown' hgrow _)
        have hb1 : Later w0 w1 := (hbr.alloc hbr.size _).grown hgrow (by have := hbr.size; simp; omega) (fun k hk => (hor.lt k hk).1)
        have ho2 := ownI_snoc hown'
        clear hown' hgrow hor
        go_wp2
        go_roundw
        case rel => exact ⟨k + 1, by omega, by go_num, by rw [HP.out]; exact ho2, hb1⟩
        case measure => simp [intOf]; omega
      | false =>
        cases hbn : (b == (k : Int) + 1) with
        | true =>
          have HP := Lib.hid (show regsG true true a b c (k + 1) = o ++ [(k : Int) + 1] by rw [HO.out, cnd, han, hbn]; simp)
          clear HO
          go_wp2_with (at_builtin; refine wpList_append_own _ rfl _ _ 39 rfl w0.heap.size 3 i0 (.int .i64 0) 1 8 Tryd.underlying39 hi hz0 hz1 hz2 rfl (by decide) _ _ _ rfl (hor.alloc _) ⟨wr.heap.size, 0, none⟩ 1 1 [.int .i64 _] rfl rfl (cell_one_new _ _ _) (one_int _ _) (by unfold maxLen; omega) (by omega) (by have := hbr.size; simp; omega) ?_; intro v' w1 hown' hgrow _)
          have hb1 : Later w0 w1 := (hbr.alloc hbr.size _).grown hgrow (by have := hbr.size; simp; omega) (fun k hk => (hor.lt k hk).1)
          have ho2 := ownI_snoc hown'
          clear hown' hgrow hor
          go_wp2
          go_roundw
          case rel => exact ⟨k + 1, by omega, by go_num, by rw [HP.out]; exact ho2, hb1⟩
          case measure => simp [intOf]; omega
        | false =>
          cases hcn : (c == (k : Int) + 1) with
          | true =>
            have HP := Lib.hid (show regsG true true a b c (k + 1) = o ++ [(k : Int) + 1] by rw [HO.out, cnd, han, hbn, hcn]; simp)
            clear HO
            go_wp2_with (at_builtin; refine wpList_append_own _ rfl _ _ 39 rfl w0.heap.size 3 i0 (.int .i64 0) 1 8 Tryd.underlying39 hi hz0 hz1 hz2 rfl (by decide) _ _ _ rfl (hor.alloc _) ⟨wr.heap.size, 0, none⟩ 1 1 [.int .i64 _] rfl rfl (cell_one_new _ _ _) (one_int _ _) (by unfold maxLen; omega) (by omega) (by have := hbr.size; simp; omega) ?_; intro v' w1 hown' hgrow _)
            have hb1 : Later w0 w1 := (hbr.alloc hbr.size _).grown hgrow (by have := hbr.size; simp; omega) (fun k hk => (hor.lt k hk).1)
            have ho2 := ownI_snoc hown'
            clear hown' hgrow hor
            go_wp2
            go_roundw
            case rel => exact ⟨k + 1, by omega, by go_num, by rw [HP.out]; exact ho2, hb1⟩
            case measure => simp [intOf]; omega
          | false =>
            have HP := Lib.hid (show regsG true true a b c (k + 1) = o by rw [HO.out, cnd, han, hbn, hcn]; simp)
            clear HO
            go_wp2
            go_roundw
            case rel => exact ⟨k + 1, by omega, by go_num, by rw [HP.out]; exact hor, hbr⟩
            case measure => simp [intOf]; omega
    · obtain rfl : k = 15 := by omega
      go_wp2
      go_ret
      exact MadeI.after hl0 (madeI_of hor hbr)
set_option maxRecDepth 100000 in
set_option maxHeartbeats 4000000 in
theorem rreads_28 (a b c imm : Int) (w : World) (HF : Q 26 #[.int .i64 28] (.int .i64 2)) (HB : Q 38 #[.int .i64 28] (.bool true)) :
    Calls Tryd.prog 18 #[.agg #[.int .i64 28, .int .i64 a, .int .i64 b, .int .i64 c, .int .i64 imm]] w (MadeI (regsG true true a b c 15) w) := by
  obtain ⟨i0, hi, hz0, hz1, hz2⟩ := info_parts int_info
  have HFF := Lib.hid HF; clear HF
  have HBB := Lib.hid HB; clear HB
  go_enter Tryd.func18, Tryd.ntmps18
  go_wp2_with (first
    | (go_at_call 26; refine (HFF.out _).mono ?_; rintro e w1 ⟨rfl, rfl⟩)
    | (go_at_call 38; refine (HBB.out _).mono ?_; rintro e w1 ⟨rfl, rfl⟩))
  have hbx : Blk (w.alloc (.cells #[.int .i64 28, .int .i64 a, .int .i64 b, .int .i64 c, .int .i64 imm] 23)) w.heap.size 23 (Im.I.cells ⟨28, a, b, c, imm⟩) := Blk.new _ _ _ _ rfl
  have hl0 := later1 w (.cells #[.int .i64 28, .int .i64 a, .int .i64 b, .int .i64 c, .int .i64 imm] 23)
  have HBX := Lib.hid hbx; clear hbx
  generalize w.alloc (.cells #[.int .i64 28, .int .i64 a, .int .i64 b, .int .i64 c, .int .i64 imm] 23) = w0 at HBX hl0 ⊢
  go_loopw [5, 6] (fun v x wr => ∃ k : Nat, k ≤ 15 ∧ x = .int .i64 ((k : Int) + 1) ∧ wr.ownsRow w0.heap.size 3 1 v (regsG true true a b c k).length (N64 (regsG true true a b c k)) ∧ Later w0 wr) (fun _ x _ => 16 - (intOf x).toNat)
  case atStart => exact ⟨0, Nat.zero_le _, rfl, World.ownsRow_nil _ _ _ _, Below.refl _ _⟩
  case round =>
    obtain ⟨k, hk, rfl, hor, hbr⟩ := hrel
    by_cases hlt : k < 15
    · obtain ⟨c0, c1, c2, c3, c4⟩ := (HBX.out.keep hbr).box
      have hnx := regsG_next true true a b c k
      have hln2 := regsG_len true true a b c k
      obtain ⟨o, ho⟩ : ∃ o, o = regsG true true a b c k := ⟨_, rfl⟩
      rw [← ho] at hor hln2 hnx
      have HO := Lib.hid hnx; clear hnx ho
      cases han : (a == (k : Int) + 1) with
      | true =>
        have HP := Lib.hid (show regsG true true a b c (k + 1) = o ++ [(k : Int) + 1] by rw [HO.out, cnd, han]; simp)
        clear HO
        go_wp2_with (at_builtin; refine wpList_append_own _ rfl _ _ 39 rfl w0.heap.size 3 i0 (.int .i64 0) 1 8 Tryd.underlying39 hi hz0 hz1 hz2 rfl (by decide) _ _ _ rfl (hor.alloc _) ⟨wr.heap.size, 0, none⟩ 1 1 [.int .i64 _] rfl rfl (cell_one_new _ _ _) (one_int _ _) (by unfold maxLen; omega) (by omega) (by have := hbr.size; simp; omega) ?_; intro v' w1 hown' hgrow _)
        have hb1 : Later w0 w1 := (hbr.alloc hbr.size _).grown hgrow (by have := hbr.size; simp; omega) (fun k hk => (hor.lt k hk).1)
        have ho2 := ownI_snoc hown'
        clear hown' hgrow hor
        go_wp2
        go_roundw
        case rel => exact ⟨k + 1, by omega, by go_num, by rw [HP.out]; exact ho2, hb1⟩
        case measure => simp [intOf]; omega
      | false =>
        cases hbn : (b == (k : Int) + 1) with
        | true =>
          have HP := Lib.hid (show regsG true true a b c (k + 1) = o ++ [(k : Int) + 1] by rw [HO.out, cnd, han, hbn]; simp)
          clear HO
          go_wp2_with (at_builtin; refine wpList_append_own _ rfl _ _ 39 rfl w0.heap.size 3 i0 (.int .i64 0) 1 8 Tryd.underlying39 hi hz0 hz1 hz2 rfl (by decide) _ _ _ rfl (hor.alloc _) ⟨wr.heap.size, 0, none⟩ 1 1 [.int .i64 _] rfl rfl (cell_one_new _ _ _) (one_int _ _) (by unfold maxLen; omega) (by omega) (by have := hbr.size; simp; omega) ?_; intro v' w1 hown' hgrow _)
          have hb1 : Later w0 w1 := (hbr.alloc hbr.size _).grown hgrow (by have := hbr.size; simp; omega) (fun k hk => (hor.lt k hk).1)
          have ho2 := ownI_snoc hown'
          clear hown' hgrow hor
          go_wp2
          go_roundw
          case rel => exact ⟨k + 1, by omega, by go_num, by rw [HP.out]; exact ho2, hb1⟩
          case measure => simp [intOf]; omega
        | false =>
          cases hcn : (c == (k : Int) + 1) with
          | true =>
            have HP := Lib.hid (show regsG true true a b c (k + 1) = o ++ [(k : Int) + 1] by rw [HO.out, cnd, han, hbn, hcn]; simp)
            clear HO
            go_wp2_with (at_builtin; refine wpList_append_own _ rfl _ _ 39 rfl w0.heap.size 3 i0 (.int .i64 0) 1 8 Tryd.underlying39 hi hz0 hz1 hz2 rfl (by decide) _ _ _ rfl (hor.alloc _) ⟨wr.heap.size, 0, none⟩ 1 1 [.int .i64 _] rfl rfl (cell_one_new _ _ _) (one_int _ _) (by unfold maxLen; omega) (by omega) (by have := hbr.size; simp; omega) ?_; intro v' w1 hown' hgrow _)
            have hb1 : Later w0 w1 := (hbr.alloc hbr.size _).grown hgrow (by have := hbr.size; simp; omega) (fun k hk => (hor.lt k hk).1)
            have ho2 := ownI_snoc hown'
            clear hown' hgrow hor
            go_wp2
            go_roundw
            case rel => exact ⟨k + 1, by omega, by go_num, by rw [HP.out]; exact ho2, hb1⟩
            case measure => simp [intOf]; omega
          | false =>
            have HP := Lib.hid (show regsG true true a b c (k + 1) = o by rw [HO.out, cnd, han, hbn, hcn]; simp)
            clear HO
            go_wp2
            go_roundw
            case rel => exact ⟨k + 1, by omega, by go_num, by rw [HP.out]; exact hor, hbr⟩
            case measure => simp [intOf]; omega
    · obtain rfl : k = 15 := by omega
      go_wp2
      go_ret
      exact MadeI.after hl0 (madeI_of hor hbr)
set_option maxRecDepth 100000 in
set_option maxHeartbeats 4000000 in
theorem rreads_29 (a b c imm : Int) (w : World) (HF : Q 26 #[.int .i64 29] (.int .i64 2)) (HB : Q 38 #[.int .i64 29] (.bool true)) :
    Calls Tryd.prog 18 #[.agg #[.int .i64 29, .int .i64 a, .int .i64 b, .int .i64 c, .int .i64 imm]] w (MadeI (regsG true true a b c 15) w) := by
  obtain ⟨i0, hi, hz0, hz1, hz2⟩ := info_parts int_info
  have HFF := Lib.hid HF; clear HF
  have HBB := Lib.hid HB; clear HB
  go_enter Tryd.func18, Tryd.ntmps18
  go_wp2_with (first
    | (go_at_call 26; refine (HFF.out _).mono ?_; rintro e w1 ⟨rfl, rfl⟩)
    | (go_at_call 38; refine (HBB.out _).mono ?_; rintro e w1 ⟨rfl, rfl⟩))
  have hbx : Blk (w.alloc (.cells #[.int .i64 29, .int .i64 a, .int .i64 b, .int .i64 c, .int .i64 imm] 23)) w.heap.size 23 (Im.I.cells ⟨29, a, b, c, imm⟩) := Blk.new _ _ _ _ rfl
  have hl0 := later1 w (.cells #[.int .i64 29, .int .i64 a, .int .i64 b, .int .i64 c, .int .i64 imm] 23)
  have HBX := Lib.hid hbx; clear hbx
  generalize w.alloc (.cells #[.int .i64 29, .int .i64 a, .int .i64 b, .int .i64 c, .int .i64 imm] 23) = w0 at HBX hl0 ⊢
  go_loopw [5, 6] (fun v x wr => ∃ k : Nat, k ≤ 15 ∧ x = .int .i64 ((k : Int) + 1) ∧ wr.ownsRow w0.heap.size 3 1 v (regsG true true a b c k).length (N64 (regsG true true a b c k)) ∧ Later w0 wr) (fun _ x _ => 16 - (intOf x).toNat)
  case atStart => exact ⟨0, Nat.zero_le _, rfl, World.ownsRow_nil _ _ _ _, Below.refl _ _⟩
  case round =>
    obtain ⟨k, hk, rfl, hor, hbr⟩ := hrel
    by_cases hlt : k < 15
    · obtain ⟨c0, c1, c2, c3, c4⟩ := (HBX.out.keep hbr).box
      have hnx := regsG_next true true a b c k
      have hln2 := regsG_len true true a b c k
      obtain ⟨o, ho⟩ : ∃ o, o = regsG true true a b c k := ⟨_, rfl⟩
      rw [← ho] at hor hln2 hnx
      have HO := Lib.hid hnx; clear hnx ho
      cases han : (a == (k : Int) + 1) with
      | true =>
        have HP := Lib.hid (show regsG true true a b c (k + 1) = o ++ [(k : Int) + 1] by rw [HO.out, cnd, han]; simp)
        clear HO
        go_wp2_with (at_builtin; refine wpList_append_own _ rfl _ _ 39 rfl w0.heap.size 3 i0 (.int .i64 0) 1 8 Tryd.underlying39 hi hz0 hz1 hz2 rfl (by decide) _ _ _ rfl (hor.alloc _) ⟨wr.heap.size, 0, none⟩ 1 1 [.int .i64 _] rfl rfl (cell_one_new _ _ _) (one_int _ _) (by unfold maxLen; omega) (by omega) (by have := hbr.size; simp; omega) ?_; intro v' w1 hown' hgrow _)
        have hb1 : Later w0 w1 := (hbr.alloc hbr.size _).grown hgrow (by have := hbr.size; simp; omega) (fun k hk => (hor.lt k hk).1)
        have ho2 := ownI_snoc hown'
        clear hown' hgrow hor
        go_wp2
        go_roundw
        case rel => exact ⟨k + 1, by omega, by go_num, by rw [HP.out]; exact ho2, hb1⟩
        case measure => simp [intOf]; omega
      | false =>
        cases hbn : (b == (k : Int) + 1) with
        | true =>
          have HP := Lib.hid (show regsG true true a b c (k + 1) = o ++ [(k : Int) + 1] by rw [HO.out, cnd, han, hbn]; simp)
          clear HO
          go_wp2_with (at_builtin; refine wpList_append_own _ rfl _ _ 39 rfl w0.heap.size 3 i0 (.int .i64 0) 1 8 Tryd.underlying39 hi hz0 hz1 hz2 rfl (by decide) _ _ _ rfl (hor.alloc _) ⟨wr.heap.size, 0, none⟩ 1 1 [.int .i64 _] rfl rfl (cell_one_new _ _ _) (one_int _ _) (by unfold maxLen; omega) (by omega) (by have := hbr.size; simp; omega) ?_; intro v' w1 hown' hgrow _)
          have hb1 : Later w0 w1 := (hbr.alloc hbr.size _).grown hgrow (by have := hbr.size; simp; omega) (fun k hk => (hor.lt k hk).1)
          have ho2 := ownI_snoc hown'
          clear hown' hgrow hor
          go_wp2
          go_roundw
          case rel => exact ⟨k + 1, by omega, by go_num, by rw [HP.out]; exact ho2, hb1⟩
          case measure => simp [intOf]; omega
        | false =>
          cases hcn : (c == (k : Int) + 1) with
          | true =>
            have HP := Lib.hid (show regsG true true a b c (k + 1) = o ++ [(k : Int) + 1] by rw [HO.out, cnd, han, hbn, hcn]; simp)
            clear HO
            go_wp2_with (at_builtin; refine wpList_append_own _ rfl _ _ 39 rfl w0.heap.size 3 i0 (.int .i64 0) 1 8 Tryd.underlying39 hi hz0 hz1 hz2 rfl (by decide) _ _ _ rfl (hor.alloc _) ⟨wr.heap.size, 0, none⟩ 1 1 [.int .i64 _] rfl rfl (cell_one_new _ _ _) (one_int _ _) (by unfold maxLen; omega) (by omega) (by have := hbr.size; simp; omega) ?_; intro v' w1 hown' hgrow _)
            have hb1 : Later w0 w1 := (hbr.alloc hbr.size _).grown hgrow (by have := hbr.size; simp; omega) (fun k hk => (hor.lt k hk).1)
            have ho2 := ownI_snoc hown'
            clear hown' hgrow hor
            go_wp2
            go_roundw
            case rel => exact ⟨k + 1, by omega, by go_num, by rw [HP.out]; exact ho2, hb1⟩
            case measure => simp [intOf]; omega
          | false =>
            have HP := Lib.hid (show regsG true true a b c (k + 1) = o by rw [HO.out, cnd, han, hbn, hcn]; simp)
            clear HO
            go_wp2
            go_roundw
            case rel => exact ⟨k + 1, by omega, by go_num, by rw [HP.out]; exact hor, hbr⟩
            case measure => simp [intOf]; omega
    · obtain rfl : k = 15 := by omega
      go_wp2
      go_ret
      exact MadeI.after hl0 (madeI_of hor hbr)
set_option maxRecDepth 100000 in
set_option maxHeartbeats 4000000 in
theorem rreads_30 (a b c imm : Int) (w : World) (HF : Q 26 #[.int .i64 30] (.int .i64 2)) (HB : Q 38 #[.int .i64 30] (.bool true)) :
    Calls Tryd.prog 18 #[.agg #[.int .i64 30, .int .i64 a, .int .i64 b, .int .i64 c, .int .i64 imm]] w (MadeI (regsG true true a b c 15) w) := by
  obtain ⟨i0, hi, hz0, hz1, hz2⟩ := info_parts int_info
  have HFF := Lib.hid HF; clear HF
  have HBB := Lib.hid HB; clear HB
  go_enter Tryd.func18, Tryd.ntmps18
  go_wp2_with (first
    | (go_at_call 26; refine (HFF.out _).mono ?_; rintro e w1 ⟨rfl, rfl⟩)
    | (go_at_call 38; refine (HBB.out _).mono ?_; rintro e w1 ⟨rfl, rfl⟩))
  have hbx : Blk (w.alloc (.cells #[.int .i64 30, .int .i64 a, .int .i64 b, .int .i64 c, .int .i64 imm] 23)) w.heap.size 23 (Im.I.cells ⟨30, a, b, c, imm⟩) := Blk.new _ _ _ _ rfl
  have hl0 := later1 w (.cells #[.int .i64 30, .int .i64 a, .int .i64 b, .int .i64 c, .int .i64 imm] 23)
  have HBX := Lib.hid hbx; clear hbx
  generalize w.alloc (.cells #[.int .i64 30, .int .i64 a, .int .i64 b, .int .i64 c, .int .i64 imm] 23) = w0 at HBX hl0 ⊢
  go_loopw [5, 6] (fun v x wr => ∃ k : Nat, k ≤ 15 ∧ x = .int .i64 ((k : Int) + 1) ∧ wr.ownsRow w0.heap.size 3 1 v (regsG true true a b c k).length (N64 (regsG true true a b c k)) ∧ Later w0 wr) (fun _ x _ => 16 - (intOf x).toNat)
  case atStart => exact ⟨0, Nat.zero_le _, rfl, World.ownsRow_nil _ _ _ _, Below.refl _ _⟩
  case round =>
    obtain ⟨k, hk, rfl, hor, hbr⟩ := hrel
    by_cases hlt : k < 15
    · obtain ⟨c0, c1, c2, c3, c4⟩ := (HBX.out.keep hbr).box
      have hnx := regsG_next true true a b c k
      have hln2 := regsG_len true true a b c k
      obtain ⟨o, ho⟩ : ∃ o, o = regsG true true a b c k := ⟨_, rfl⟩
      rw [← ho] at hor hln2 hnx
      have HO := Lib.hid hnx; clear hnx ho
      cases han : (a == (k : Int) + 1) with
      | true =>
        have HP := Lib.hid (show regsG true true a b c (k + 1) = o ++ [(k : Int) + 1] by rw [HO.out, cnd, han]; simp)
        clear HO
        go_wp2_with (at_builtin; refine wpList_append_own _ rfl _ _ 39 rfl w0.heap.size 3 i0 (.int .i64 0) 1 8 Tryd.underlying39 hi hz0 hz1 hz2 rfl (by decide) _ _ _ rfl (hor.alloc _) ⟨wr.heap.size, 0, none⟩ 1 1 [.int .i64 _] rfl rfl (cell_one_new _ _ _) (one_int _ _) (by unfold maxLen; omega) (by omega) (by have := hbr.size; simp; omega) ?_; intro v' w1 hown' hgrow _)
        have hb1 : Later w0 w1 := (hbr.alloc hbr.size _).grown hgrow (by have := hbr.size; simp; omega) (fun k hk => (hor.lt k hk).1)
        have ho2 := ownI_snoc hown'
        clear hown' hgrow hor
        go_wp2
        go_roundw
        case rel => exact ⟨k + 1, by omega, by go_num, by rw [HP.out]; exact ho2, hb1⟩
        case measure => simp [intOf]; omega
      | false =>
        cases hbn : (b == (k : Int) + 1) with
        | true =>
          have HP := Lib.hid (show regsG true true a b c (k + 1) = o ++ [(k : Int) + 1] by rw [HO.out, cnd, han, hbn]; simp)
          clear HO
          go_wp2_with (at_builtin; refine wpList_append_own _ rfl _ _ 39 rfl w0.heap.size 3 i0 (.int .i64 0) 1 8 Tryd.underlying39 hi hz0 hz1 hz2 rfl (by decide) _ _ _ rfl (hor.alloc _) ⟨wr.heap.size, 0, none⟩ 1 1 [.int .i64 _] rfl rfl (cell_one_new _ _ _) (one_int _ _) (by unfold maxLen; omega) (by omega) (by have := hbr.size; simp; omega) ?_; intro v' w1 hown' hgrow _)
          have hb1 : Later w0 w1 := (hbr.alloc hbr.size _).grown hgrow (by have := hbr.size; simp; omega) (fun k hk => (hor.lt k hk).1)
          have ho2 := ownI_snoc hown'
          clear hown' hgrow hor
          go_wp2
          go_roundw
          case rel => exact ⟨k + 1, by omega, by go_num, by rw [HP.out]; exact ho2, hb1⟩
          case measure => simp [intOf]; omega
        | false =>
          cases hcn : (c == (k : Int) + 1) with
          | true =>
            have HP := Lib.hid (show regsG true true a b c (k + 1) = o ++ [(k : Int) + 1] by rw [HO.out, cnd, han, hbn, hcn]; simp)
            clear HO
            go_wp2_with (at_builtin; refine wpList_append_own _ rfl _ _ 39 rfl w0.heap.size 3 i0 (.int .i64 0) 1 8 Tryd.underlying39 hi hz0 hz1 hz2 rfl (by decide) _ _ _ rfl (hor.alloc _) ⟨wr.heap.size, 0, none⟩ 1 1 [.int .i64 _] rfl rfl (cell_one_new _ _ _) (one_int _ _) (by unfold maxLen; omega) (by omega) (by have := hbr.size; simp; omega) ?_; intro v' w1 hown' hgrow _)
            have hb1 : Later w0 w1 := (hbr.alloc hbr.size _).grown hgrow (by have := hbr.size; simp; omega) (fun k hk => (hor.lt k hk).1)
            have ho2 := ownI_snoc hown'
            clear hown' hgrow hor
            go_wp2
            go_roundw
            case rel => exact ⟨k + 1, by omega, by go_num, by rw [HP.out]; exact ho2, hb1⟩
            case measure => simp [intOf]; omega
          | false =>
            have HP := Lib.hid (show regsG true true a b c (k + 1) = o by rw [HO.out, cnd, han, hbn, hcn]; simp)
            clear HO
            go_wp2
            go_roundw
            case rel => exact ⟨k + 1, by omega, by go_num, by rw [HP.out]; exact hor, hbr⟩
            case measure => simp [intOf]; omega
    · obtain rfl : k = 15 := by omega
      go_wp2
      go_ret
      exact MadeI.after hl0 (madeI_of hor hbr)
set_option maxRecDepth 100000 in
set_option maxHeartbeats 4000000 in
theorem rreads_31 (a b c imm : Int) (w : World) (HF : Q 26 #[.int .i64 31] (.int .i64 2)) (HB : Q 38 #[.int .i64 31] (.bool true)) :
    Calls Tryd.prog 18 #[.agg #[.int .i64 31, .int .i64 a, .int .i64 b, .int .i64 c, .int .i64 imm]] w (MadeI (regsG true true a b c 15) w) := by
  obtain ⟨i0, hi, hz0, hz1, hz2⟩ := info_parts int_info
  have HFF := Lib.hid HF; clear HF
  have HBB := Lib.hid HB; clear HB
  go_enter Tryd.func18, Tryd.ntmps18
  go_wp2_with (first
    | (go_at_call 26; refine (HFF.out _).mono ?_; rintro e w1 ⟨rfl, rfl⟩)
    | (go_at_call 38; refine (HBB.out _).mono ?_; rintro e w1 ⟨rfl, rfl⟩))
  have hbx : Blk (w.alloc (.cells #[.int .i64 31, .int .i64 a, .int .i64 b, .int .i64 c, .int .i64 imm] 23)) w.heap.size 23 (Im.I.cells ⟨31, a, b, c, imm⟩) := Blk.new _ _ _ _ rfl
  have hl0 := later1 w (.cells #[.int .i64 31, .int .i64 a, .int .i64 b, .int .i64 c, .int .i64 imm] 23)
  have HBX := Lib.hid hbx; clear hbx
  generalize w.alloc (.cells #[.int .i64 31, .int .i64 a, .int .i64 b, .int .i64 c, .int .i64 imm] 23) = w0 at HBX hl0 ⊢
  go_loopw [5, 6] (fun v x wr => ∃ k : Nat, k ≤ 15 ∧ x = .int .i64 ((k : Int) + 1) ∧ wr.ownsRow w0.heap.size 3 1 v (regsG true true a b c k).length (N64 (regsG true true a b c k)) ∧ Later w0 wr) (fun _ x _ => 16 - (intOf x).toNat)
  case atStart => exact ⟨0, Nat.zero_le _, rfl, World.ownsRow_nil _ _ _ _, Below.refl _ _⟩
  case round =>
    obtain ⟨k, hk, rfl, hor, hbr⟩ := hrel
    by_cases hlt : k < 15
    · obtain ⟨c0, c1, c2, c3, c4⟩ := (HBX.out.keep hbr).box
      have hnx := regsG_next true true a b c k
      have hln2 := regsG_len true true a b c k
      obtain ⟨o, ho⟩ : ∃ o, o = regsG true true a b c k := ⟨_, rfl⟩
      rw [← ho] at hor hln2 hnx
      have HO := Lib.hid hnx; clear hnx ho
      cases han : (a == (k : Int) + 1) with
      | true =>
        have HP := Lib.hid (show regsG true true a b c (k + 1) = o ++ [(k : Int) + 1] by rw [HO.out, cnd, han]; simp)
        clear HO
        go_wp2_with (at_builtin; refine wpList_append_own _ rfl _ _ 39 rfl w0.heap.size 3 i0 (.int .i64 0) 1 8 Tryd.underlying39 hi hz0 hz1 hz2 rfl (by decide) _ _ _ rfl (hor.alloc _) ⟨wr.heap.size, 0, none⟩ 1 1 [.int .i64 _] rfl rfl (cell_one_new _ _ _) (one_int _ _) (by unfold maxLen; omega) (by omega) (by have := hbr.size; simp; omega) ?_; intro v' w1 hown' hgrow _)
        have hb1 : Later w0 w1 := (hbr.alloc hbr.size _).grown hgrow (by have := hbr.size; simp; omega) (fun k hk => (hor.lt k hk).1)
        have ho2 := ownI_snoc hown'
        clear hown' hgrow hor
        go_wp2
        go_roundw
        case rel => exact ⟨k + 1, by omega, by go_num, by rw [HP.out]; exact ho2, hb1⟩
        case measure => simp [intOf]; omega
      | false =>
        cases hbn : (b == (k : Int) + 1) with
        | true =>
          have HP := Lib.hid (show regsG true true a b c (k + 1) = o ++ [(k : Int) + 1] by rw [HO.out, cnd, han, hbn]; simp)
          clear HO
          go_wp2_with (at_builtin; refine wpList_append_own _ rfl _ _ 39 rfl w0.heap.size 3 i0 (.int .i64 0) 1 8 Tryd.underlying39 hi hz0 hz1 hz2 rfl (by decide) _ _ _ rfl (hor.alloc _) ⟨wr.heap.size, 0, none⟩ 1 1 [.int .i64 _] rfl rfl (cell_one_new _ _ _) (one_int _ _) (by unfold maxLen; omega) (by omega) (by have := hbr.size; simp; omega) ?_; intro v' w1 hown' hgrow _)
          have hb1 : Later w0 w1 := (hbr.alloc hbr.size _).grown hgrow (by have := hbr.size; simp; omega) (fun k hk => (hor.lt k hk).1)
          have ho2 := ownI_snoc hown'
          clear hown' hgrow hor
          go_wp2
          go_roundw
          case rel => exact ⟨k + 1, by omega, by go_num, by rw [HP.out]; exact ho2, hb1⟩
          case measure => simp [intOf]; omega
        | false =>
          cases hcn : (c == (k : Int) + 1) with
          | true =>
            have HP := Lib.hid (show regsG true true a b c (k + 1) = o ++ [(k : Int) + 1] by rw [HO.out, cnd, han, hbn, hcn]; simp)
            clear HO
            go_wp2_with (at_builtin; refine wpList_append_own _ rfl _ _ 39 rfl w0.heap.size 3 i0 (.int .i64 0) 1 8 Tryd.underlying39 hi hz0 hz1 hz2 rfl (by decide) _ _ _ rfl (hor.alloc _) ⟨wr.heap.size, 0, none⟩ 1 1 [.int .i64 _] rfl rfl (cell_one_new _ _ _) (one_int _ _) (by unfold maxLen; omega) (by omega) (by have := hbr.size; simp; omega) ?_; intro v' w1 hown' hgrow _)
            have hb1 : Later w0 w1 := (hbr.alloc hbr.size _).grown hgrow (by have := hbr.size; simp; omega) (fun k hk => (hor.lt k hk).1)
            have ho2 := ownI_snoc hown'
            clear hown' hgrow hor
            go_wp2
            go_roundw
            case rel => exact ⟨k + 1, by omega, by go_num, by rw [HP.out]; exact ho2, hb1⟩
            case measure => simp [intOf]; omega
          | false =>
            have HP := Lib.hid (show regsG true true a b c (k + 1) = o by rw [HO.out, cnd, han, hbn, hcn]; simp)
            clear HO
            go_wp2
            go_roundw
            case rel => exact ⟨k + 1, by omega, by go_num, by rw [HP.out]; exact hor, hbr⟩
            case measure => simp [intOf]; omega
    · obtain rfl : k = 15 := by omega
      go_wp2
      go_ret
      exact MadeI.after hl0 (madeI_of hor hbr)
set_option maxRecDepth 100000 in
set_option maxHeartbeats 4000000 in
theorem rreads_43 (a b c imm : Int) (w : World) (HF : Q 26 #[.int .i64 43] (.int .i64 3)) (HB : Q 38 #[.int .i64 43] (.bool false)) :
    Calls Tryd.prog 18 #[.agg #[.int .i64 43, .int .i64 a, .int .i64 b, .int .i64 c, .int .i64 imm]] w (MadeI (regsG true false a b c 15) w) := by
  obtain ⟨i0, hi, hz0, hz1, hz2⟩ := info_parts int_info
  have HFF := Lib.hid HF; clear HF
  have HBB := Lib.hid HB; clear HB
  go_enter Tryd.func18, Tryd.ntmps18
  go_wp2_with (first
    | (go_at_call 26; refine (HFF.out _).mono ?_; rintro e w1 ⟨rfl, rfl⟩)
    | (go_at_call 38; refine (HBB.out _).mono ?_; rintro e w1 ⟨rfl, rfl⟩))
  have hbx : Blk (w.alloc (.cells #[.int .i64 43, .int .i64 a, .int .i64 b, .int .i64 c, .int .i64 imm] 23)) w.heap.size 23 (Im.I.cells ⟨43, a, b, c, imm⟩) := Blk.new _ _ _ _ rfl
  have hl0 := later1 w (.cells #[.int .i64 43, .int .i64 a, .int .i64 b, .int .i64 c, .int .i64 imm] 23)
  have HBX := Lib.hid hbx; clear hbx
  generalize w.alloc (.cells #[.int .i64 43, .int .i64 a, .int .i64 b, .int .i64 c, .int .i64 imm] 23) = w0 at HBX hl0 ⊢
  go_loopw [5, 6] (fun v x wr => ∃ k : Nat, k ≤ 15 ∧ x = .int .i64 ((k : Int) + 1) ∧ wr.ownsRow w0.heap.size 3 1 v (regsG true false a b c k).length (N64 (regsG true false a b c k)) ∧ Later w0 wr) (fun _ x _ => 16 - (intOf x).toNat)
  case atStart => exact ⟨0, Nat.zero_le _, rfl, World.ownsRow_nil _ _ _ _, Below.refl _ _⟩
  case round =>
    obtain ⟨k, hk, rfl, hor, hbr⟩ := hrel
    by_cases hlt : k < 15
    · obtain ⟨c0, c1, c2, c3, c4⟩ := (HBX.out.keep hbr).box
      have hnx := regsG_next true false a b c k
      have hln2 := regsG_len true false a b c k
      obtain ⟨o, ho⟩ : ∃ o, o = regsG true false a b c k := ⟨_, rfl⟩
      rw [← ho] at hor hln2 hnx
      have HO := Lib.hid hnx; clear hnx ho
      cases han : (a == (k : Int) + 1) with
      | true =>
        have HP := Lib.hid (show regsG true false a b c (k + 1) = o ++ [(k : Int) + 1] by rw [HO.out, cnd, han]; simp)
        clear HO
        go_wp2_with (at_builtin; refine wpList_append_own _ rfl _ _ 39 rfl w0.heap.size 3 i0 (.int .i64 0) 1 8 Tryd.underlying39 hi hz0 hz1 hz2 rfl (by decide) _ _ _ rfl (hor.alloc _) ⟨wr.heap.size, 0, none⟩ 1 1 [.int .i64 _] rfl rfl (cell_one_new _ _ _) (one_int _ _) (by unfold maxLen; omega) (by omega) (by have := hbr.size; simp; omega) ?_; intro v' w1 hown' hgrow _)
        have hb1 : Later w0 w1 := (hbr.alloc hbr.size _).grown hgrow (by have := hbr.size; simp; omega) (fun k hk => (hor.lt k hk).1)
        have ho2 := ownI_snoc hown'
        clear hown' hgrow hor
        go_wp2
        go_roundw
        case rel => exact ⟨k + 1, by omega, by go_num, by rw [HP.out]; exact ho2, hb1⟩
        case measure => simp [intOf]; omega
      | false =>
        cases hcn : (c == (k : Int) + 1) with
        | true =>
          have HP := Lib.hid (show regsG true false a b c (k + 1) = o ++ [(k : Int) + 1] by rw [HO.out, cnd, han, hcn]; simp)
          clear HO
          go_wp2_with (at_builtin; refine wpList_append_own _ rfl _ _ 39 rfl w0.heap.size 3 i0 (.int .i64 0) 1 8 Tryd.underlying39 hi hz0 hz1 hz2 rfl (by decide) _ _ _ rfl (hor.alloc _) ⟨wr.heap.size, 0, none⟩ 1 1 [.int .i64 _] rfl rfl (cell_one_new _ _ _) (one_int _ _) (by unfold maxLen; omega) (by omega) (by have := hbr.size; simp; omega) ?_; intro v' w1 hown' hgrow _)
          have hb1 : Later w0 w1 := (hbr.alloc hbr.size _).grown hgrow (by have := hbr.size; simp; omega) (fun k hk => (hor.lt k hk).1)
          have ho2 := ownI_snoc hown'
          clear hown' hgrow hor
          go_wp2
          go_roundw
          case rel => exact ⟨k + 1, by omega, by go_num, by rw [HP.out]; exact ho2, hb1⟩
          case measure => simp [intOf]; omega
        | false =>
          have HP := Lib.hid (show regsG true false a b c (k + 1) = o by rw [HO.out, cnd, han, hcn]; simp)
          clear HO
          go_wp2
          go_roundw
          case rel => exact ⟨k + 1, by omega, by go_num, by rw [HP.out]; exact hor, hbr⟩
          case measure => simp [intOf]; omega
    · obtain rfl : k = 15 := by omega
      go_wp2
      go_ret
      exact MadeI.after hl0 (madeI_of hor hbr)
set_option maxRecDepth 100000 in
set_option maxHeartbeats 4000000 in
theorem rreads_47 (a b c imm : Int) (w : World) (HF : Q 26 #[.int .i64 47] (.int .i64 3)) (HB : Q 38 #[.int .i64 47] (.bool false)) :
    Calls Tryd.prog 18 #[.agg #[.int .i64 47, .int .i64 a, .int .i64 b, .int .i64 c, .int .i64 imm]] w (MadeI (regsG true false a b c 15) w) := by
  obtain ⟨i0, hi, hz0, hz1, hz2⟩ := info_parts int_info
  have HFF := Lib.hid HF; clear HF
  have HBB := Lib.hid HB; clear HB
  go_enter Tryd.func18, Tryd.ntmps18
  go_wp2_with (first
    | (go_at_call 26; refine (HFF.out _).mono ?_; rintro e w1 ⟨rfl, rfl⟩)
    | (go_at_call 38; refine (HBB.out _).mono ?_; rintro e w1 ⟨rfl, rfl⟩))
  have hbx : Blk (w.alloc (.cells #[.int .i64 47, .int .i64 a, .int .i64 b, .int .i64 c, .int .i64 imm] 23)) w.heap.size 23 (Im.I.cells ⟨47, a, b, c, imm⟩) := Blk.new _ _ _ _ rfl
  have hl0 := later1 w (.cells #[.int .i64 47, .int .i64 a, .int .i64 b, .int .i64 c, .int .i64 imm] 23)
  have HBX := Lib.hid hbx; clear hbx
  generalize w.alloc (.cells #[.int .i64 47, .int .i64 a, .int .i64 b, .int .i64 c, .int .i64 imm] 23) = w0 at HBX hl0 ⊢
  go_loopw [5, 6] (fun v x wr => ∃ k : Nat, k ≤ 15 ∧ x = .int .i64 ((k : Int) + 1) ∧ wr.ownsRow w0.heap.size 3 1 v (regsG true false a b c k).length (N64 (regsG true false a b c k)) ∧ Later w0 wr) (fun _ x _ => 16 - (intOf x).toNat)
  case atStart => exact ⟨0, Nat.zero_le _, rfl, World.ownsRow_nil _ _ _ _, Below.refl _ _⟩
  case round =>
    obtain ⟨k, hk, rfl, hor, hbr⟩ := hrel
    by_cases hlt : k < 15
    · obtain ⟨c0, c1, c2, c3, c4⟩ := (HBX.out.keep hbr).box
      have hnx := regsG_next true false a b c k
      have hln2 := regsG_len true false a b c k
      obtain ⟨o, ho⟩ : ∃ o, o = regsG true false a b c k := ⟨_, rfl⟩
      rw [← ho] at hor hln2 hnx
      have HO := Lib.hid hnx; clear hnx ho
      cases han : (a == (k : Int) + 1) with
      | true =>
        have HP := Lib.hid (show regsG true false a b c (k + 1) = o ++ [(k : Int) + 1] by rw [HO.out, cnd, han]; simp)
        clear HO
        go_wp2_with (at_builtin; refine wpList_append_own _ rfl _ _ 39 rfl w0.heap.size 3 i0 (.int .i64 0) 1 8 Tryd.underlying39 hi hz0 hz1 hz2 rfl (by decide) _ _ _ rfl (hor.alloc _) ⟨wr.heap.size, 0, none⟩ 1 1 [.int .i64 _] rfl rfl (cell_one_new _ _ _) (one_int _ _) (by unfold maxLen; omega) (by omega) (by have := hbr.size; simp; omega) ?_; intro v' w1 hown' hgrow _)
        have hb1 : Later w0 w1 := (hbr.alloc hbr.size _).grown hgrow (by have := hbr.size; simp; omega) (fun k hk => (hor.lt k hk).1)
        have ho2 := ownI_snoc hown'
        clear hown' hgrow hor
        go_wp2
        go_roundw
        case rel => exact ⟨k + 1, by omega, by go_num, by rw [HP.out]; exact ho2, hb1⟩
        case measure => simp [intOf]; omega
      | false =>
        cases hcn : (c == (k : Int) + 1) with
        | true =>
          have HP := Lib.hid (show regsG true false a b c (k + 1) = o ++ [(k : Int) + 1] by rw [HO.out, cnd, han, hcn]; simp)
          clear HO
          go_wp2_with (at_builtin; refine wpList_append_own _ rfl _ _ 39 rfl w0.heap.size 3 i0 (.int .i64 0) 1 8 Tryd.underlying39 hi hz0 hz1 hz2 rfl (by decide) _ _ _ rfl (hor.alloc _) ⟨wr.heap.size, 0, none⟩ 1 1 [.int .i64 _] rfl rfl (cell_one_new _ _ _) (one_int _ _) (by unfold maxLen; omega) (by omega) (by have := hbr.size; simp; omega) ?_; intro v' w1 hown' hgrow _)
          have hb1 : Later w0 w1 := (hbr.alloc hbr.size _).grown hgrow (by have := hbr.size; simp; omega) (fun k hk => (hor.lt k hk).1)
          have ho2 := ownI_snoc hown'
          clear hown' hgrow hor
          go_wp2
          go_roundw
          case rel => exact ⟨k + 1, by omega, by go_num, by rw [HP.out]; exact ho2, hb1⟩
          case measure => simp [intOf]; omega
        | false =>
          have HP := Lib.hid (show regsG true false a b c (k + 1) = o by rw [HO.out, cnd, han, hcn]; simp)
          clear HO
          go_wp2
          go_roundw
          case rel => exact ⟨k + 1, by omega, by go_num, by rw [HP.out]; exact hor, hbr⟩
          case measure => simp [intOf]; omega
    · obtain rfl : k = 15 := by omega
      go_wp2
      go_ret
      exact MadeI.after hl0 (madeI_of hor hbr)
set_option maxRecDepth 100000 in
set_option maxHeartbeats 4000000 in
theorem rreads_three (a b c imm op : Int) (w : World) (HF : Q 26 #[.int .i64 op] (.int .i64 1)) (HB : Q 38 #[.int .i64 op] (.bool false)) (h21 : op ≠ 21) (h23 : op ≠ 23) (h24 : op ≠ 24) (h43 : op ≠ 43) (h47 : op ≠ 47) :
    Calls Tryd.prog 18 #[.agg #[.int .i64 op, .int .i64 a, .int .i64 b, .int .i64 c, .int .i64 imm]] w (MadeI (regsG false true a b c 15) w) := by
  obtain ⟨i0, hi, hz0, hz1, hz2⟩ := info_parts int_info
  have n21 : (op == 21) = false := beq_eq_false_iff_ne.2 h21
  have n23 : (op == 23) = false := beq_eq_false_iff_ne.2 h23
  have n24 : (op == 24) = false := beq_eq_false_iff_ne.2 h24
  have n43 : (op == 43) = false := beq_eq_false_iff_ne.2 h43
  have n47 : (op == 47) = false := beq_eq_false_iff_ne.2 h47
  clear h21 h23 h24 h43 h47
  have HFF := Lib.hid HF; clear HF
  have HBB := Lib.hid HB; clear HB
  go_enter Tryd.func18, Tryd.ntmps18
  go_wp2_with (first
    | (go_at_call 26; refine (HFF.out _).mono ?_; rintro e w1 ⟨rfl, rfl⟩)
    | (go_at_call 38; refine (HBB.out _).mono ?_; rintro e w1 ⟨rfl, rfl⟩))
  have hbx : Blk (w.alloc (.cells #[.int .i64 op, .int .i64 a, .int .i64 b, .int .i64 c, .int .i64 imm] 23)) w.heap.size 23 (Im.I.cells ⟨op, a, b, c, imm⟩) := Blk.new _ _ _ _ rfl
  have hl0 := later1 w (.cells #[.int .i64 op, .int .i64 a, .int .i64 b, .int .i64 c, .int .i64 imm] 23)
  have HBX := Lib.hid hbx; clear hbx
  generalize w.alloc (.cells #[.int .i64 op, .int .i64 a, .int .i64 b, .int .i64 c, .int .i64 imm] 23) = w0 at HBX hl0 ⊢
  go_loopw [5, 6] (fun v x wr => ∃ k : Nat, k ≤ 15 ∧ x = .int .i64 ((k : Int) + 1) ∧ wr.ownsRow w0.heap.size 3 1 v (regsG false true a b c k).length (N64 (regsG false true a b c k)) ∧ Later w0 wr) (fun _ x _ => 16 - (intOf x).toNat)
  case atStart => exact ⟨0, Nat.zero_le _, rfl, World.ownsRow_nil _ _ _ _, Below.refl _ _⟩
  case round =>
    obtain ⟨k, hk, rfl, hor, hbr⟩ := hrel
    by_cases hlt : k < 15
    · obtain ⟨c0, c1, c2, c3, c4⟩ := (HBX.out.keep hbr).box
      have hnx := regsG_next false true a b c k
      have hln2 := regsG_len false true a b c k
      obtain ⟨o, ho⟩ : ∃ o, o = regsG false true a b c k := ⟨_, rfl⟩
      rw [← ho] at hor hln2 hnx
      have HO := Lib.hid hnx; clear hnx ho
      cases hbn : (b == (k : Int) + 1) with
      | true =>
        have HP := Lib.hid (show regsG false true a b c (k + 1) = o ++ [(k : Int) + 1] by rw [HO.out, cnd, hbn]; simp)
        clear HO
        go_wp2_with (at_builtin; refine wpList_append_own _ rfl _ _ 39 rfl w0.heap.size 3 i0 (.int .i64 0) 1 8 Tryd.underlying39 hi hz0 hz1 hz2 rfl (by decide) _ _ _ rfl (hor.alloc _) ⟨wr.heap.size, 0, none⟩ 1 1 [.int .i64 _] rfl rfl (cell_one_new _ _ _) (one_int _ _) (by unfold maxLen; omega) (by omega) (by have := hbr.size; simp; omega) ?_; intro v' w1 hown' hgrow _)
        have hb1 : Later w0 w1 := (hbr.alloc hbr.size _).grown hgrow (by have := hbr.size; simp; omega) (fun k hk => (hor.lt k hk).1)
        have ho2 := ownI_snoc hown'
        clear hown' hgrow hor
        go_wp2
        go_roundw
        case rel => exact ⟨k + 1, by omega, by go_num, by rw [HP.out]; exact ho2, hb1⟩
        case measure => simp [intOf]; omega
      | false =>
        cases hcn : (c == (k : Int) + 1) with
        | true =>
          have HP := Lib.hid (show regsG false true a b c (k + 1) = o ++ [(k : Int) + 1] by rw [HO.out, cnd, hbn, hcn]; simp)
          clear HO
          go_wp2_with (at_builtin; refine wpList_append_own _ rfl _ _ 39 rfl w0.heap.size 3 i0 (.int .i64 0) 1 8 Tryd.underlying39 hi hz0 hz1 hz2 rfl (by decide) _ _ _ rfl (hor.alloc _) ⟨wr.heap.size, 0, none⟩ 1 1 [.int .i64 _] rfl rfl (cell_one_new _ _ _) (one_int _ _) (by unfold maxLen; omega) (by omega) (by have := hbr.size; simp; omega) ?_; intro v' w1 hown' hgrow _)
          have hb1 : Later w0 w1 := (hbr.alloc hbr.size _).grown hgrow (by have := hbr.size; simp; omega) (fun k hk => (hor.lt k hk).1)
          have ho2 := ownI_snoc hown'
          clear hown' hgrow hor
          go_wp2
          go_roundw
          case rel => exact ⟨k + 1, by omega, by go_num, by rw [HP.out]; exact ho2, hb1⟩
          case measure => simp [intOf]; omega
        | false =>
          have HP := Lib.hid (show regsG false true a b c (k + 1) = o by rw [HO.out, cnd, hbn, hcn]; simp)
          clear HO
          go_wp2
          go_roundw
          case rel => exact ⟨k + 1, by omega, by go_num, by rw [HP.out]; exact hor, hbr⟩
          case measure => simp [intOf]; omega
    · obtain rfl : k = 15 := by omega
      go_wp2
      go_ret
      exact MadeI.after hl0 (madeI_of hor hbr)
set_option maxRecDepth 100000 in
set_option maxHeartbeats 4000000 in
theorem rreads_two (a b c imm op : Int) (w : World) (HF : Q 26 #[.int .i64 op] (.int .i64 2)) (HB : Q 38 #[.int .i64 op] (.bool false)) (h21 : op ≠ 21) (h23 : op ≠ 23) (h24 : op ≠ 24) (h43 : op ≠ 43) (h47 : op ≠ 47) :
    Calls Tryd.prog 18 #[.agg #[.int .i64 op, .int .i64 a, .int .i64 b, .int .i64 c, .int .i64 imm]] w (MadeI (regsG false true a b c 15) w) := by
  obtain ⟨i0, hi, hz0, hz1, hz2⟩ := info_parts int_info
  have n21 : (op == 21) = false := beq_eq_false_iff_ne.2 h21
  have n23 : (op == 23) = false := beq_eq_false_iff_ne.2 h23
  have n24 : (op == 24) = false := beq_eq_false_iff_ne.2 h24
  have n43 : (op == 43) = false := beq_eq_false_iff_ne.2 h43
  have n47 : (op == 47) = false := beq_eq_false_iff_ne.2 h47
  clear h21 h23 h24 h43 h47
  have HFF := Lib.hid HF; clear HF
  have HBB := Lib.hid HB; clear HB
  go_enter Tryd.func18, Tryd.ntmps18
  go_wp2_with (first
    | (go_at_call 26; refine (HFF.out _).mono ?_; rintro e w1 ⟨rfl, rfl⟩)
    | (go_at_call 38; refine (HBB.out _).mono ?_; rintro e w1 ⟨rfl, rfl⟩))
  have hbx : Blk (w.alloc (.cells #[.int .i64 op, .int .i64 a, .int .i64 b, .int .i64 c, .int .i64 imm] 23)) w.heap.size 23 (Im.I.cells ⟨op, a, b, c, imm⟩) := Blk.new _ _ _ _ rfl
  have hl0 := later1 w (.cells #[.int .i64 op, .int .i64 a, .int .i64 b, .int .i64 c, .int .i64 imm] 23)
  have HBX := Lib.hid hbx; clear hbx
  generalize w.alloc (.cells #[.int .i64 op, .int .i64 a, .int .i64 b, .int .i64 c, .int .i64 imm] 23) = w0 at HBX hl0 ⊢
  go_loopw [5, 6] (fun v x wr => ∃ k : Nat, k ≤ 15 ∧ x = .int .i64 ((k : Int) + 1) ∧ wr.ownsRow w0.heap.size 3 1 v (regsG false true a b c k).length (N64 (regsG false true a b c k)) ∧ Later w0 wr) (fun _ x _ => 16 - (intOf x).toNat)
  case atStart => exact ⟨0, Nat.zero_le _, rfl, World.ownsRow_nil _ _ _ _, Below.refl _ _⟩
  case round =>
    obtain ⟨k, hk, rfl, hor, hbr⟩ := hrel
    by_cases hlt : k < 15
    · obtain ⟨c0, c1, c2, c3, c4⟩ := (HBX.out.keep hbr).box
      have hnx := regsG_next false true a b c k
      have hln2 := regsG_len false true a b c k
      obtain ⟨o, ho⟩ : ∃ o, o = regsG false true a b c k := ⟨_, rfl⟩
      rw [← ho] at hor hln2 hnx
      have HO := Lib.hid hnx; clear hnx ho
      cases hbn : (b == (k : Int) + 1) with
      | true =>
        have HP := Lib.hid (show regsG false true a b c (k + 1) = o ++ [(k : Int) + 1] by rw [HO.out, cnd, hbn]; simp)
        clear HO
        go_wp2_with (at_builtin; refine wpList_append_own _ rfl _ _ 39 rfl w0.heap.size 3 i0 (.int .i64 0) 1 8 Tryd.underlying39 hi hz0 hz1 hz2 rfl (by decide) _ _ _ rfl (hor.alloc _) ⟨wr.heap.size, 0, none⟩ 1 1 [.int .i64 _] rfl rfl (cell_one_new _ _ _) (one_int _ _) (by unfold maxLen; omega) (by omega) (by have := hbr.size; simp; omega) ?_; intro v' w1 hown' hgrow _)
        have hb1 : Later w0 w1 := (hbr.alloc hbr.size _).grown hgrow (by have := hbr.size; simp; omega) (fun k hk => (hor.lt k hk).1)
        have ho2 := ownI_snoc hown'
        clear hown' hgrow hor
        go_wp2
        go_roundw
        case rel => exact ⟨k + 1, by omega, by go_num, by rw [HP.out]; exact ho2, hb1⟩
        case measure => simp [intOf]; omega
      | false =>
        cases hcn : (c == (k : Int) + 1) with
        | true =>
          have HP := Lib.hid (show regsG false true a b c (k + 1) = o ++ [(k : Int) + 1] by rw [HO.out, cnd, hbn, hcn]; simp)
          clear HO
          go_wp2_with (at_builtin; refine wpList_append_own _ rfl _ _ 39 rfl w0.heap.size 3 i0 (.int .i64 0) 1 8 Tryd.underlying39 hi hz0 hz1 hz2 rfl (by decide) _ _ _ rfl (hor.alloc _) ⟨wr.heap.size, 0, none⟩ 1 1 [.int .i64 _] rfl rfl (cell_one_new _ _ _) (one_int _ _) (by unfold maxLen; omega) (by omega) (by have := hbr.size; simp; omega) ?_; intro v' w1 hown' hgrow _)
          have hb1 : Later w0 w1 := (hbr.alloc hbr.size _).grown hgrow (by have := hbr.size; simp; omega) (fun k hk => (hor.lt k hk).1)
          have ho2 := ownI_snoc hown'
          clear hown' hgrow hor
          go_wp2
          go_roundw
          case rel => exact ⟨k + 1, by omega, by go_num, by rw [HP.out]; exact ho2, hb1⟩
          case measure => simp [intOf]; omega
        | false =>
          have HP := Lib.hid (show regsG false true a b c (k + 1) = o by rw [HO.out, cnd, hbn, hcn]; simp)
          clear HO
          go_wp2
          go_roundw
          case rel => exact ⟨k + 1, by omega, by go_num, by rw [HP.out]; exact hor, hbr⟩
          case measure => simp [intOf]; omega
    · obtain rfl : k = 15 := by omega
      go_wp2
      go_ret
      exact MadeI.after hl0 (madeI_of hor hbr)
set_option maxRecDepth 100000 in
set_option maxHeartbeats 4000000 in
theorem rreads_44 (a b c imm : Int) (w : World) (HF : Q 26 #[.int .i64 44] (.int .i64 4)) (HB : Q 38 #[.int .i64 44] (.bool false)) :
    Calls Tryd.prog 18 #[.agg #[.int .i64 44, .int .i64 a, .int .i64 b, .int .i64 c, .int .i64 imm]] w (MadeI (regsG false true a b c 15) w) := by
  obtain ⟨i0, hi, hz0, hz1, hz2⟩ := info_parts int_info
  have HFF := Lib.hid HF; clear HF
  have HBB := Lib.hid HB; clear HB
  go_enter Tryd.func18, Tryd.ntmps18
  go_wp2_with (first
    | (go_at_call 26; refine (HFF.out _).mono ?_; rintro e w1 ⟨rfl, rfl⟩)
    | (go_at_call 38; refine (HBB.out _).mono ?_; rintro e w1 ⟨rfl, rfl⟩))
  have hbx : Blk (w.alloc (.cells #[.int .i64 44, .int .i64 a, .int .i64 b, .int .i64 c, .int .i64 imm] 23)) w.heap.size 23 (Im.I.cells ⟨44, a, b, c, imm⟩) := Blk.new _ _ _ _ rfl
  have hl0 := later1 w (.cells #[.int .i64 44, .int .i64 a, .int .i64 b, .int .i64 c, .int .i64 imm] 23)
  have HBX := Lib.hid hbx; clear hbx
  generalize w.alloc (.cells #[.int .i64 44, .int .i64 a, .int .i64 b, .int .i64 c, .int .i64 imm] 23) = w0 at HBX hl0 ⊢
  go_loopw [5, 6] (fun v x wr => ∃ k : Nat, k ≤ 15 ∧ x = .int .i64 ((k : Int) + 1) ∧ wr.ownsRow w0.heap.size 3 1 v (regsG false true a b c k).length (N64 (regsG false true a b c k)) ∧ Later w0 wr) (fun _ x _ => 16 - (intOf x).toNat)
  case atStart => exact ⟨0, Nat.zero_le _, rfl, World.ownsRow_nil _ _ _ _, Below.refl _ _⟩
  case round =>
    obtain ⟨k, hk, rfl, hor, hbr⟩ := hrel
    by_cases hlt : k < 15
    · obtain ⟨c0, c1, c2, c3, c4⟩ := (HBX.out.keep hbr).box
      have hnx := regsG_next false true a b c k
      have hln2 := regsG_len false true a b c k
      obtain ⟨o, ho⟩ : ∃ o, o = regsG false true a b c k := ⟨_, rfl⟩
      rw [← ho] at hor hln2 hnx
      have HO := Lib.hid hnx; clear hnx ho
      cases hbn : (b == (k : Int) + 1) with
      | true =>
        have HP := Lib.hid (show regsG false true a b c (k + 1) = o ++ [(k : Int) + 1] by rw [HO.out, cnd, hbn]; simp)
        clear HO
        go_wp2_with (at_builtin; refine wpList_append_own _ rfl _ _ 39 rfl w0.heap.size 3 i0 (.int .i64 0) 1 8 Tryd.underlying39 hi hz0 hz1 hz2 rfl (by decide) _ _ _ rfl (hor.alloc _) ⟨wr.heap.size, 0, none⟩ 1 1 [.int .i64 _] rfl rfl (cell_one_new _ _ _) (one_int _ _) (by unfold maxLen; omega) (by omega) (by have := hbr.size; simp; omega) ?_; intro v' w1 hown' hgrow _)
        have hb1 : Later w0 w1 := (hbr.alloc hbr.size _).grown hgrow (by have := hbr.size; simp; omega) (fun k hk => (hor.lt k hk).1)
        have ho2 := ownI_snoc hown'
        clear hown' hgrow hor
        go_wp2
        go_roundw
        case rel => exact ⟨k + 1, by omega, by go_num, by rw [HP.out]; exact ho2, hb1⟩
        case measure => simp [intOf]; omega
      | false =>
        cases hcn : (c == (k : Int) + 1) with
        | true =>
          have HP := Lib.hid (show regsG false true a b c (k + 1) = o ++ [(k : Int) + 1] by rw [HO.out, cnd, hbn, hcn]; simp)
          clear HO
          go_wp2_with (at_builtin; refine wpList_append_own _ rfl _ _ 39 rfl w0.heap.size 3 i0 (.int .i64 0) 1 8 Tryd.underlying39 hi hz0 hz1 hz2 rfl (by decide) _ _ _ rfl (hor.alloc _) ⟨wr.heap.size, 0, none⟩ 1 1 [.int .i64 _] rfl rfl (cell_one_new _ _ _) (one_int _ _) (by unfold maxLen; omega) (by omega) (by have := hbr.size; simp; omega) ?_; intro v' w1 hown' hgrow _)
          have hb1 : Later w0 w1 := (hbr.alloc hbr.size _).grown hgrow (by have := hbr.size; simp; omega) (fun k hk => (hor.lt k hk).1)
          have ho2 := ownI_snoc hown'
          clear hown' hgrow hor
          go_wp2
          go_roundw
          case rel => exact ⟨k + 1, by omega, by go_num, by rw [HP.out]; exact ho2, hb1⟩
          case measure => simp [intOf]; omega
        | false =>
          have HP := Lib.hid (show regsG false true a b c (k + 1) = o by rw [HO.out, cnd, hbn, hcn]; simp)
          clear HO
          go_wp2
          go_roundw
          case rel => exact ⟨k + 1, by omega, by go_num, by rw [HP.out]; exact hor, hbr⟩
          case measure => simp [intOf]; omega
    · obtain rfl : k = 15 := by omega
      go_wp2
      go_ret
      exact MadeI.after hl0 (madeI_of hor hbr)
set_option maxRecDepth 100000 in
set_option maxHeartbeats 4000000 in
theorem rreads_none (a b c imm op f : Int) (w : World) (HF : Q 26 #[.int .i64 op] (.int .i64 f)) (hf1 : (f == 1) = false) (hf2 : (f == 2) = false) (HB : Q 38 #[.int .i64 op] (.bool false)) (h21 : op ≠ 21) (h23 : op ≠ 23) (h24 : op ≠ 24) (h43 : op ≠ 43) (h47 : op ≠ 47) (h44 : op ≠ 44) :
    Calls Tryd.prog 18 #[.agg #[.int .i64 op, .int .i64 a, .int .i64 b, .int .i64 c, .int .i64 imm]] w (MadeI (regsG false false a b c 15) w) := by
  obtain ⟨i0, hi, hz0, hz1, hz2⟩ := info_parts int_info
  have n21 : (op == 21) = false := beq_eq_false_iff_ne.2 h21
  have n23 : (op == 23) = false := beq_eq_false_iff_ne.2 h23
  have n24 : (op == 24) = false := beq_eq_false_iff_ne.2 h24
  have n43 : (op == 43) = false := beq_eq_false_iff_ne.2 h43
  have n47 : (op == 47) = false := beq_eq_false_iff_ne.2 h47
  have n44 : (op == 44) = false := beq_eq_false_iff_ne.2 h44
  clear h21 h23 h24 h43 h47 h44
  have HFF := Lib.hid HF; clear HF
  have HBB := Lib.hid HB; clear HB
  go_enter Tryd.func18, Tryd.ntmps18
  go_wp2_with (first
    | (go_at_call 26; refine (HFF.out _).mono ?_; rintro e w1 ⟨rfl, rfl⟩)
    | (go_at_call 38; refine (HBB.out _).mono ?_; rintro e w1 ⟨rfl, rfl⟩))
  have hbx : Blk (w.alloc (.cells #[.int .i64 op, .int .i64 a, .int .i64 b, .int .i64 c, .int .i64 imm] 23)) w.heap.size 23 (Im.I.cells ⟨op, a, b, c, imm⟩) := Blk.new _ _ _ _ rfl
  have hl0 := later1 w (.cells #[.int .i64 op, .int .i64 a, .int .i64 b, .int .i64 c, .int .i64 imm] 23)
  have HBX := Lib.hid hbx; clear hbx
  generalize w.alloc (.cells #[.int .i64 op, .int .i64 a, .int .i64 b, .int .i64 c, .int .i64 imm] 23) = w0 at HBX hl0 ⊢
  go_loopw [5, 6] (fun v x wr => ∃ k : Nat, k ≤ 15 ∧ x = .int .i64 ((k : Int) + 1) ∧ wr.ownsRow w0.heap.size 3 1 v (regsG false false a b c k).length (N64 (regsG false false a b c k)) ∧ Later w0 wr) (fun _ x _ => 16 - (intOf x).toNat)
  case atStart => exact ⟨0, Nat.zero_le _, rfl, World.ownsRow_nil _ _ _ _, Below.refl _ _⟩
  case round =>
    obtain ⟨k, hk, rfl, hor, hbr⟩ := hrel
    by_cases hlt : k < 15
    · obtain ⟨c0, c1, c2, c3, c4⟩ := (HBX.out.keep hbr).box
      have hnx := regsG_next false false a b c k
      have hln2 := regsG_len false false a b c k
      obtain ⟨o, ho⟩ : ∃ o, o = regsG false false a b c k := ⟨_, rfl⟩
      rw [← ho] at hor hln2 hnx
      have HO := Lib.hid hnx; clear hnx ho
      cases hcn : (c == (k : Int) + 1) with
      | true =>
        have HP := Lib.hid (show regsG false false a b c (k + 1) = o ++ [(k : Int) + 1] by rw [HO.out, cnd, hcn]; simp)
        clear HO
        go_wp2_with (at_builtin; refine wpList_append_own _ rfl _ _ 39 rfl w0.heap.size 3 i0 (.int .i64 0) 1 8 Tryd.underlying39 hi hz0 hz1 hz2 rfl (by decide) _ _ _ rfl (hor.alloc _) ⟨wr.heap.size, 0, none⟩ 1 1 [.int .i64 _] rfl rfl (cell_one_new _ _ _) (one_int _ _) (by unfold maxLen; omega) (by omega) (by have := hbr.size; simp; omega) ?_; intro v' w1 hown' hgrow _)
        have hb1 : Later w0 w1 := (hbr.alloc hbr.size _).grown hgrow (by have := hbr.size; simp; omega) (fun k hk => (hor.lt k hk).1)
        have ho2 := ownI_snoc hown'
        clear hown' hgrow hor
        go_wp2
        go_roundw
        case rel => exact ⟨k + 1, by omega, by go_num, by rw [HP.out]; exact ho2, hb1⟩
        case measure => simp [intOf]; omega
      | false =>
        have HP := Lib.hid (show regsG false false a b c (k + 1) = o by rw [HO.out, cnd, hcn]; simp)
        clear HO
        go_wp2
        go_roundw
        case rel => exact ⟨k + 1, by omega, by go_num, by rw [HP.out]; exact hor, hbr⟩
        case measure => simp [intOf]; omega
    · obtain rfl : k = 15 := by omega
      go_wp2
      go_ret
      exact MadeI.after hl0 (madeI_of hor hbr)
end Go.Proofs.YtbnlpkjjdijfmabDoor
