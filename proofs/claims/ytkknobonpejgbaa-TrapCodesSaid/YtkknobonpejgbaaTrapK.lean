/-
  PROCESSORS: the reference's Encode.
-/
import Derived.Test.YtkknobonpejgbaaTrapJ
namespace Go.Proofs.Ytkknobonpejgbaa
open Go.RowKit Go.ChangeShapes Go.WideShapes Go.ChangeAt

theorem own_blk {w : World} {B base n : Nat} {e : TypeId} {xs : List Value} (h : Blk w B e xs) (hb : base ≤ B) (hn : xs.length = n) (hm : n ≤ maxLen) : w.ownsRow base e 1 (.slice (some ⟨B, 0, none⟩) n n) n xs := by
  refine ⟨by omega, .inr ⟨B, n, xs.toArray, rfl, hb, h, Nat.le_refl _, hm, by simp; omega, ?_⟩⟩
  rw [Nat.mul_one, ← hn]
  simp
theorem cell_r (x : Cpu) {k : Nat} (hk : k < 16) : x.cells[1 + k]? = some (.int .u32 (x.rl.getD k 0)) := by
  rcases (show k = 0 ∨ k = 1 ∨ k = 2 ∨ k = 3 ∨ k = 4 ∨ k = 5 ∨ k = 6 ∨ k = 7 ∨ k = 8 ∨ k = 9 ∨ k = 10 ∨ k = 11 ∨ k = 12 ∨ k = 13 ∨ k = 14 ∨ k = 15 by omega) with rfl | rfl | rfl | rfl | rfl | rfl | rfl | rfl | rfl | rfl | rfl | rfl | rfl | rfl | rfl | rfl <;> rfl
theorem cell_c (x : Cpu) {k : Nat} (hk : k < 9) : x.cells[17 + k]? = some (.int .u32 (x.cl.getD k 0)) := by
  rcases (show k = 0 ∨ k = 1 ∨ k = 2 ∨ k = 3 ∨ k = 4 ∨ k = 5 ∨ k = 6 ∨ k = 7 ∨ k = 8 by omega) with rfl | rfl | rfl | rfl | rfl | rfl | rfl | rfl | rfl <;> rfl
set_option maxRecDepth 100000 in
set_option maxHeartbeats 4000000 in
theorem renc_any (x : Cpu) (w : World) (hx : x.wf) : Calls Try.prog 30 #[.agg x.cells.toArray] w (GotBs (Wm.encL Wm.encI x.nums) w) := by
  obtain ⟨i0, hi, hz0, hz1, hz2⟩ := info_parts int_info
  have b4 := Blk.new w 26 x.cells.toArray x.cells rfl
  have lz := later1 w (.cells x.cells.toArray 26)
  obtain ⟨w0, hw0⟩ : ∃ w0, w.alloc (.cells x.cells.toArray 26) = w0 := ⟨_, rfl⟩
  rw [hw0] at b4 lz
  have e0 := b4.cell (j := 0) (v := .int .u32 x.pc) rfl
  have hp0 := wrap_in x.pc (hx.1 x.pc (by simp))
  go_enter Try.func30, Try.ntmps30
  go_upto_region 1 with fail
  clear hw0
  go_wp2
  have o2 : (w0.alloc (.cells #[.int .i64 x.pc] 3)).ownsRow w0.heap.size 3 1 (.slice (some ⟨w0.heap.size, 0, none⟩) 1 1) (1 + 0) (N64 (x.nums.take (1 + 0))) := own_blk (Blk.new w0 3 #[.int .i64 x.pc] [.int .i64 x.pc] rfl) (Nat.le_refl _) rfl (by unfold maxLen; omega)
  have lw := later1 w0 (.cells #[.int .i64 x.pc] 3)
  clear e0 hp0
  go_loopw [3, 4] (fun lv i wr => ∃ k : Nat, k ≤ 16 ∧ i = .int .i64 k ∧ wr.ownsRow w0.heap.size 3 1 lv (1 + k) (N64 (x.nums.take (1 + k))) ∧ Later w0 wr) (fun _ i _ => 16 - (intOf i).toNat)
  case atStart => exact ⟨0, by omega, rfl, o2, lw⟩
  case round =>
    clear o2 lw
    obtain ⟨k, hk, rfl, ho, lw⟩ := hrel
    by_cases hlt : k < 16
    · have hin := rl_in hx hlt
      have hid := (b4.keep lw).cell (cell_r x hlt)
      have hnx := Lib.hid (nums_r x hlt)
      obtain ⟨y, hy⟩ : ∃ y, y = x.rl.getD k 0 := ⟨_, rfl⟩
      rw [← hy] at hin hid hnx
      have hwr := wrap_in y hin
      have hkn : (k : Int) < 16 := by omega
      have hk0 : (0 : Int) ≤ k := by omega
      clear hy hin
      go_wp2_with (at_builtin; refine wpList_app _ rfl _ _ 60 rfl w0.heap.size 3 i0 (.int .i64 0) 1 8 Try.underlying60 hi hz0 hz1 hz2 rfl (by decide) _ _ _ rfl (ho.alloc _) (some ⟨_, 0, none⟩) 1 1 (N64 [y]) rfl (sl_new64 (Blk.new _ 3 (N64 [y]).toArray (N64 [y]) rfl)) (N64_one _) (by unfold maxLen; omega) (by omega) (by have := lw.size; simp; omega) ?_; intro v3 w3 ho3 hg3; replace lw := (lw.alloc lw.size (.cells (N64 [y]).toArray 3)).grown hg3 (by have := lw.size; simp; omega) (fun k hk => (ho.lt k hk).1))
      have o3 : w3.ownsRow w0.heap.size 3 1 v3 (1 + (k + 1)) (N64 (x.nums.take (1 + (k + 1)))) := by
        rw [hnx.out, N64_app]
        exact ho3
      clear ho3 ho hid hwr
      go_roundw
      case rel => first | exact ⟨k + 1, by omega, by go_num, o3, lw⟩ | exact ⟨_, _, _, _, _, _, _, _, _, _, _, _, _, _, ⟨k + 1, by omega, by go_num, o3, lw⟩, rfl⟩
      case measure => simp [intOf]; omega
    · obtain rfl : k = 16 := by omega
      have o2 : World.ownsRow _ w0.heap.size 3 1 _ (17 + 0) (N64 (x.nums.take (17 + 0))) := ho
      clear ho hlt hk
      go_wp2
      go_loopw [3, 5] (fun lv i wr => ∃ k : Nat, k ≤ 9 ∧ i = .int .i64 k ∧ wr.ownsRow w0.heap.size 3 1 lv (17 + k) (N64 (x.nums.take (17 + k))) ∧ Later w0 wr) (fun _ i _ => 9 - (intOf i).toNat)
      case atStart => exact ⟨0, by omega, rfl, o2, lw⟩
      case round =>
        clear o2 lw
        obtain ⟨k, hk, rfl, ho, lw⟩ := hrel
        by_cases hlt : k < 9
        · have hin := cl_in hx hlt
          have hid := (b4.keep lw).cell (cell_c x hlt)
          have hnx := Lib.hid (nums_c x hlt)
          obtain ⟨y, hy⟩ : ∃ y, y = x.cl.getD k 0 := ⟨_, rfl⟩
          rw [← hy] at hin hid hnx
          have hwr := wrap_in y hin
          have hkn : (k : Int) < 9 := by omega
          have hk0 : (0 : Int) ≤ k := by omega
          clear hy hin
          go_wp2_with (at_builtin; refine wpList_app _ rfl _ _ 60 rfl w0.heap.size 3 i0 (.int .i64 0) 1 8 Try.underlying60 hi hz0 hz1 hz2 rfl (by decide) _ _ _ rfl (ho.alloc _) (some ⟨_, 0, none⟩) 1 1 (N64 [y]) rfl (sl_new64 (Blk.new _ 3 (N64 [y]).toArray (N64 [y]) rfl)) (N64_one _) (by unfold maxLen; omega) (by omega) (by have := lw.size; simp; omega) ?_; intro v3 w3 ho3 hg3; replace lw := (lw.alloc lw.size (.cells (N64 [y]).toArray 3)).grown hg3 (by have := lw.size; simp; omega) (fun k hk => (ho.lt k hk).1))
          have o3 : w3.ownsRow w0.heap.size 3 1 v3 (17 + (k + 1)) (N64 (x.nums.take (17 + (k + 1)))) := by
            rw [hnx.out, N64_app]
            exact ho3
          clear ho3 ho hid hwr
          go_roundw
          case rel => first | exact ⟨k + 1, by omega, by go_num, o3, lw⟩ | exact ⟨_, _, _, _, _, _, _, _, _, _, _, _, _, _, ⟨k + 1, by omega, by go_num, o3, lw⟩, rfl⟩
          case measure => simp [intOf]; omega
        · obtain rfl : k = 9 := by omega
          have o2 : World.ownsRow _ w0.heap.size 3 1 _ 26 (N64 (x.nums.take 26)) := ho
          clear ho hlt hk
          have HW1 := Lib.hid fun w' => rone_any x.u 1 w'
          have HW2 := Lib.hid fun w' => rone_any x.wt 2 w'
          have HW4 := Lib.hid fun w' => rone_any x.hl 4 w'
          have h1 := add_m1 x.u x.wt
          have h2 : IntKind.u32.wrap (b32 x.u 1 + b32 x.wt 2 + b32 x.hl 4) = x.modes := add_m2 x.u x.wt x.hl
          have hm := modes_in x
          have hmd := wrap_in x.modes (by omega)
          have HI := Lib.hid fun A c w' (hs : Sl w' 1 A 28 (N64 x.nums)) => refInts_any A 28 c x.nums w' hs (nums_in hx) (by unfold maxLen; omega) (by have := encL_le x.nums (nums_in hx) rfl; omega)
          clear hm hx
          go_wp2
          replace o2 := own_below o2 (Below.refl _ _).drew
          replace lw := lw.drew
          refine wp_region_held_drew (S := fun w' => w'.cell? ⟨w.heap.size, 26, none⟩ = some (.bool x.u) ∧ w'.cell? ⟨w.heap.size, 27, none⟩ = some (.bool x.wt) ∧ w'.cell? ⟨w.heap.size, 28, none⟩ = some (.bool x.hl)) (by kernel_rfl) ⟨(b4.keep lw).cell (j := 26) (v := .bool x.u) rfl, (b4.keep lw).cell (j := 27) (v := .bool x.wt) rfl, (b4.keep lw).cell (j := 28) (v := .bool x.hl) rfl⟩ (fun hHeld => ?_)
          refine wpAnyH_take (i := 0) (oi := ⟨some 35, .fieldAddr 26 (.tmp 1) 3, _, _, _, none⟩) (v := .pointer (some ⟨w.heap.size, 26, none⟩)) rfl (by kernel_rfl) (by kernel_rfl) (by kernel_rfl) (fun _ _ _ h => h) (Or.inl ⟨by rfl, fun w _ => by go_simp⟩) hHeld ?_
          simp only [Act.put, List.setIfInBounds_toArray, List.set_cons_zero, List.set_cons_succ]
          refine wpAnyH_take (i := 1) (oi := ⟨some 36, .load 4 (.tmp 35), _, _, _, none⟩) (v := .bool x.u) rfl (by kernel_rfl) (by kernel_rfl) (by kernel_rfl) (fun _ _ _ h => h) (Or.inl ⟨by rfl, fun w hSw => by have e1 := hSw.1; clear hSw; go_simp⟩) hHeld ?_
          simp only [Act.put, List.setIfInBounds_toArray, List.set_cons_zero, List.set_cons_succ]
          refine wpAnyH_take (i := 3) (oi := ⟨some 38, .fieldAddr 26 (.tmp 1) 4, _, _, _, none⟩) (v := .pointer (some ⟨w.heap.size, 27, none⟩)) rfl (by kernel_rfl) (by kernel_rfl) (by kernel_rfl) (fun _ _ _ h => h) (Or.inl ⟨by rfl, fun w _ => by go_simp⟩) hHeld ?_
          simp only [Act.put, List.setIfInBounds_toArray, List.set_cons_zero, List.set_cons_succ]
          refine wpAnyH_take (i := 4) (oi := ⟨some 39, .load 4 (.tmp 38), _, _, _, none⟩) (v := .bool x.wt) rfl (by kernel_rfl) (by kernel_rfl) (by kernel_rfl) (fun _ _ _ h => h) (Or.inl ⟨by rfl, fun w hSw => by have e1 := hSw.2.1; clear hSw; go_simp⟩) hHeld ?_
          simp only [Act.put, List.setIfInBounds_toArray, List.set_cons_zero, List.set_cons_succ]
          refine wpAnyH_take (i := 7) (oi := ⟨some 42, .fieldAddr 26 (.tmp 1) 5, _, _, _, none⟩) (v := .pointer (some ⟨w.heap.size, 28, none⟩)) rfl (by kernel_rfl) (by kernel_rfl) (by kernel_rfl) (fun _ _ _ h => h) (Or.inl ⟨by rfl, fun w _ => by go_simp⟩) hHeld ?_
          simp only [Act.put, List.setIfInBounds_toArray, List.set_cons_zero, List.set_cons_succ]
          refine wpAnyH_take (i := 8) (oi := ⟨some 43, .load 4 (.tmp 42), _, _, _, none⟩) (v := .bool x.hl) rfl (by kernel_rfl) (by kernel_rfl) (by kernel_rfl) (fun _ _ _ h => h) (Or.inl ⟨by rfl, fun w hSw => by have e1 := hSw.2.2; clear hSw; go_simp⟩) hHeld ?_
          simp only [Act.put, List.setIfInBounds_toArray, List.set_cons_zero, List.set_cons_succ]
          refine wpAnyH_ready (rs := [2]) (by kernel_rfl) (by simp) (AllReadyH.cons (o := ⟨some 37, .call { callee := .value (.func 34), args := #[.tmp 36, .const (.int .u32 1)], argTypes := #[4, 22] }, _, _, _, none⟩) rfl (fun K' hK => ?_) AllReadyH.nil)
          go_simp
          refine (HW1.out _).mono ?_
          rintro e v9 ⟨rfl, rfl⟩
          refine hK.out _ _ ⟨(b4.keep lw).cell (j := 26) (v := .bool x.u) rfl, (b4.keep lw).cell (j := 27) (v := .bool x.wt) rfl, (b4.keep lw).cell (j := 28) (v := .bool x.hl) rfl⟩ (fun hHeld => ?_)
          clear hK K'
          try simp only [Act.put, List.setIfInBounds_toArray, List.set_cons_zero, List.set_cons_succ]
          refine wpAnyH_ready (rs := [5]) (by kernel_rfl) (by simp) (AllReadyH.cons (o := ⟨some 40, .call { callee := .value (.func 34), args := #[.tmp 39, .const (.int .u32 2)], argTypes := #[4, 22] }, _, _, _, none⟩) rfl (fun K' hK => ?_) AllReadyH.nil)
          go_simp
          refine (HW2.out _).mono ?_
          rintro e v9 ⟨rfl, rfl⟩
          refine hK.out _ _ ⟨(b4.keep lw).cell (j := 26) (v := .bool x.u) rfl, (b4.keep lw).cell (j := 27) (v := .bool x.wt) rfl, (b4.keep lw).cell (j := 28) (v := .bool x.hl) rfl⟩ (fun hHeld => ?_)
          clear hK K'
          try simp only [Act.put, List.setIfInBounds_toArray, List.set_cons_zero, List.set_cons_succ]
          refine wpAnyH_take (i := 6) (oi := ⟨some 41, .binOp .add 22 (.tmp 37) (.tmp 40) 22, _, _, _, none⟩) (v := .int .u32 (b32 x.u 1 + b32 x.wt 2)) rfl (by kernel_rfl) (by kernel_rfl) (by kernel_rfl) (fun _ _ _ h => h) (Or.inl ⟨by rfl, fun w _ => by go_simp⟩) hHeld ?_
          simp only [Act.put, List.setIfInBounds_toArray, List.set_cons_zero, List.set_cons_succ]
          refine wpAnyH_ready (rs := [9]) (by kernel_rfl) (by simp) (AllReadyH.cons (o := ⟨some 44, .call { callee := .value (.func 34), args := #[.tmp 43, .const (.int .u32 4)], argTypes := #[4, 22] }, _, _, _, none⟩) rfl (fun K' hK => ?_) AllReadyH.nil)
          go_simp
          refine (HW4.out _).mono ?_
          rintro e v9 ⟨rfl, rfl⟩
          refine hK.out _ _ ⟨(b4.keep lw).cell (j := 26) (v := .bool x.u) rfl, (b4.keep lw).cell (j := 27) (v := .bool x.wt) rfl, (b4.keep lw).cell (j := 28) (v := .bool x.hl) rfl⟩ (fun hHeld => ?_)
          clear hK K'
          try simp only [Act.put, List.setIfInBounds_toArray, List.set_cons_zero, List.set_cons_succ]
          refine wpAnyH_take (i := 10) (oi := ⟨some 45, .binOp .add 22 (.tmp 41) (.tmp 44) 22, _, _, _, none⟩) (v := .int .u32 x.modes) rfl (by kernel_rfl) (by kernel_rfl) (by kernel_rfl) (fun _ _ _ h => h) (Or.inl ⟨by rfl, fun w _ => by go_simp⟩) hHeld ?_
          simp only [Act.put, List.setIfInBounds_toArray, List.set_cons_zero, List.set_cons_succ]
          refine wpAnyH_take (i := 11) (oi := ⟨some 6, .assign (.tmp 45), _, _, _, none⟩) (v := .int .u32 x.modes) rfl (by kernel_rfl) (by kernel_rfl) (by kernel_rfl) (fun _ _ _ h => h) (Or.inl ⟨by rfl, fun _ _ => rfl⟩) hHeld ?_
          simp only [Act.put, List.setIfInBounds_toArray, List.set_cons_zero, List.set_cons_succ]
          refine wpAnyH_done (by kernel_rfl) ?_ _
          clear hHeld
          obtain ⟨wd, hwd⟩ : ∃ wd, wd = World.drew wr := ⟨_, rfl⟩
          rw [← hwd] at o2 lw ⊢
          clear hwd
          have e29 := (b4.keep lw).cell (j := 29) (v := .int .i64 x.cn) rfl
          clear HW1 HW2 HW4 h1 h2
          go_wp2_with (first
            | (at_builtin; refine wpList_app _ rfl _ _ 60 rfl w0.heap.size 3 i0 (.int .i64 0) 1 8 Try.underlying60 hi hz0 hz1 hz2 rfl (by decide) _ _ _ rfl (o2.alloc _) (some ⟨_, 0, none⟩) 2 2 (N64 [x.modes, x.cn]) rfl (sl_new64 (Blk.new _ 3 (N64 [x.modes, x.cn]).toArray (N64 [x.modes, x.cn]) rfl)) (N64_one _) (by unfold maxLen; omega) (by omega) (by have := lw.size; simp; omega) ?_; intro v5 w5 ho5 hg5; replace lw := (lw.alloc lw.size (.cells (N64 [x.modes, x.cn]).toArray 3)).grown hg5 (by have := lw.size; simp; omega) (fun k hk => (o2.lt k hk).1); obtain ⟨A5, c5, rfl, _, _, hs5, _⟩ := own_form ho5)
            | (go_at_call 41; refine (made_as (HI.out _ _ _ hs5)).mono ?_; rintro e w6 ⟨A6, c6, rfl, g1, g2, _, s6, l6⟩))
          go_ret
          exact ⟨A6, _, c6, rfl, g1, g2, rfl, s6, Later.trans_ lz (Later.trans_ lw l6)⟩
end Go.Proofs.Ytkknobonpejgbaa
