/-
  A CONTROL: the reference's Encode.
-/
import Derived.Test.YtkpigonlnabmdabLinO
import Derived.Deep.RegionHeld
namespace Go.Proofs.Ytkpigonlnabmdab
open Go.RowKit Go.ChangeShapes Go.WideShapes Go.ChangeAt

theorem take_r (x : Ctl) {k : Nat} (hk : k < 4) : x.nums.take (1 + (k + 1)) = x.nums.take (1 + k) ++ [x.r k] := by
  rcases (show k = 0 ∨ k = 1 ∨ k = 2 ∨ k = 3 by omega) with rfl | rfl | rfl | rfl <;> rfl
theorem take_m (x : Ctl) {k : Nat} (hk : k < 4) : x.nums.take (5 + (k + 1)) = x.nums.take (5 + k) ++ [x.m k] := by
  rcases (show k = 0 ∨ k = 1 ∨ k = 2 ∨ k = 3 by omega) with rfl | rfl | rfl | rfl <;> rfl
theorem take_t (x : Ctl) {k : Nat} (hk : k < 5) : x.nums.take (9 + (k + 1)) = x.nums.take (9 + k) ++ [x.t k] := by
  rcases (show k = 0 ∨ k = 1 ∨ k = 2 ∨ k = 3 ∨ k = 4 by omega) with rfl | rfl | rfl | rfl | rfl <;> rfl
set_option maxRecDepth 100000 in
set_option maxHeartbeats 4000000 in
theorem renc_any (x : Ctl) (w : World) (hw : x.wf) : Calls Try.prog 21 #[.agg x.cells.toArray] w (GotBs (Wm.encL Wm.encI x.nums) w) := by
  obtain ⟨i0, hi, hz0, hz1, hz2⟩ := info_parts int_info
  have b4 := Blk.new w 26 x.cells.toArray x.cells rfl
  have lz := later1 w (.cells x.cells.toArray 26)
  obtain ⟨u0, hu⟩ : ∃ u0, w.alloc (.cells x.cells.toArray 26) = u0 := ⟨_, rfl⟩
  rw [hu] at b4 lz
  have e0 := b4.cell (ctl_n x)
  have HI := Lib.hid fun A c w' (hs : Sl w' 1 A 14 (N64 x.nums)) => refInts_any A 14 c x.nums w' hs (nums_in hw) (by unfold maxLen; omega) (by have := encL_le x.nums (nums_in hw) rfl; omega)
  have HW := Lib.hid hw
  clear hw
  go_enter Try.func21, Try.ntmps21
  go_upto_region 1 with fail
  clear hu
  go_wp2
  have o2 : (u0.alloc (.cells #[.int .i64 x.n] 3)).ownsRow u0.heap.size 3 1 (.slice (some ⟨u0.heap.size, 0, none⟩) 1 1) (1 + 0) (N64 (x.nums.take (1 + 0))) := own_blk (Blk.new u0 3 #[.int .i64 x.n] [.int .i64 x.n] rfl) (Nat.le_refl _) rfl (by unfold maxLen; omega)
  have lw := later1 u0 (.cells #[.int .i64 x.n] 3)
  clear e0
  go_loopw [3, 4] (fun lv i wr => ∃ k : Nat, k ≤ 4 ∧ i = .int .i64 k ∧ wr.ownsRow u0.heap.size 3 1 lv (1 + k) (N64 (x.nums.take (1 + k))) ∧ Later u0 wr) (fun _ i _ => 4 - (intOf i).toNat)
  case atStart => exact ⟨0, by omega, rfl, o2, lw⟩
  case round =>
    clear o2 lw
    obtain ⟨k, hk, rfl, ho, lw⟩ := hrel
    by_cases hlt : k < 4
    · have hin : 0 ≤ x.r k ∧ x.r k ≤ 4294967295 := by have := HW.out.r k hlt; exact ⟨this.1, by have := this.2; omega⟩
      have hid := (b4.keep lw).cell (ctl_r x hlt)
      have hnx := Lib.hid (take_r x hlt)
      obtain ⟨y, hy⟩ : ∃ y, y = x.r k := ⟨_, rfl⟩
      rw [← hy] at hin hid hnx
      have hwr := wrap_in y hin
      have hkn : (k : Int) < 4 := by omega
      have hk0 : (0 : Int) ≤ k := by omega
      clear hy hin
      go_wp2_with (at_builtin; refine wpList_app _ rfl _ _ 72 rfl u0.heap.size 3 i0 (.int .i64 0) 1 8 Try.underlying72 hi hz0 hz1 hz2 rfl (by decide) _ _ _ rfl (ho.alloc _) (some ⟨_, 0, none⟩) 1 1 (N64 [y]) rfl (sl_new64 (Blk.new _ 3 (N64 [y]).toArray (N64 [y]) rfl)) (N64_one _) (by unfold maxLen; omega) (by omega) (by have := lw.size; simp; omega) ?_; intro v3 w3 ho3 hg3; replace lw := (lw.alloc lw.size (.cells (N64 [y]).toArray 3)).grown hg3 (by have := lw.size; simp; omega) (fun k hk => (ho.lt k hk).1))
      have o3 : w3.ownsRow u0.heap.size 3 1 v3 (1 + (k + 1)) (N64 (x.nums.take (1 + (k + 1)))) := by
        rw [hnx.out, N64_app]
        exact ho3
      clear ho3 ho hid hwr
      go_roundw
      case rel => first | exact ⟨k + 1, by omega, by go_num, o3, lw⟩ | exact ⟨_, _, _, _, _, _, ⟨k + 1, by omega, by go_num, o3, lw⟩, rfl⟩ | exact ⟨_, _, _, _, _, _, _, ⟨k + 1, by omega, by go_num, o3, lw⟩, rfl⟩ | exact ⟨_, _, _, _, _, _, _, _, ⟨k + 1, by omega, by go_num, o3, lw⟩, rfl⟩ | exact ⟨_, _, _, _, _, _, _, _, _, ⟨k + 1, by omega, by go_num, o3, lw⟩, rfl⟩ | exact ⟨_, _, _, _, _, _, _, _, _, _, ⟨k + 1, by omega, by go_num, o3, lw⟩, rfl⟩ | exact ⟨_, _, _, _, _, _, _, _, _, _, _, ⟨k + 1, by omega, by go_num, o3, lw⟩, rfl⟩ | exact ⟨_, _, _, _, _, _, _, _, _, _, _, _, ⟨k + 1, by omega, by go_num, o3, lw⟩, rfl⟩ | exact ⟨_, _, _, _, _, _, _, _, _, _, _, _, _, ⟨k + 1, by omega, by go_num, o3, lw⟩, rfl⟩ | exact ⟨_, _, _, _, _, _, _, _, _, _, _, _, _, _, ⟨k + 1, by omega, by go_num, o3, lw⟩, rfl⟩ | exact ⟨_, _, _, _, _, _, _, _, _, _, _, _, _, _, _, ⟨k + 1, by omega, by go_num, o3, lw⟩, rfl⟩ | exact ⟨_, _, _, _, _, _, _, _, _, _, _, _, _, _, _, _, ⟨k + 1, by omega, by go_num, o3, lw⟩, rfl⟩ | exact ⟨_, _, _, _, _, _, _, _, _, _, _, _, _, _, _, _, _, ⟨k + 1, by omega, by go_num, o3, lw⟩, rfl⟩ | exact ⟨_, _, _, _, _, _, _, _, _, _, _, _, _, _, _, _, _, _, ⟨k + 1, by omega, by go_num, o3, lw⟩, rfl⟩ | exact ⟨_, _, _, _, _, _, _, _, _, _, _, _, _, _, _, _, _, _, _, ⟨k + 1, by omega, by go_num, o3, lw⟩, rfl⟩ | exact ⟨_, _, _, _, _, _, _, _, _, _, _, _, _, _, _, _, _, _, _, _, ⟨k + 1, by omega, by go_num, o3, lw⟩, rfl⟩ | exact ⟨_, _, _, _, _, _, _, _, _, _, _, _, _, _, _, _, _, _, _, _, _, ⟨k + 1, by omega, by go_num, o3, lw⟩, rfl⟩ | exact ⟨_, _, _, _, _, _, _, _, _, _, _, _, _, _, _, _, _, _, _, _, _, _, ⟨k + 1, by omega, by go_num, o3, lw⟩, rfl⟩ | exact ⟨_, _, _, _, _, _, _, _, _, _, _, _, _, _, _, _, _, _, _, _, _, _, _, ⟨k + 1, by omega, by go_num, o3, lw⟩, rfl⟩ | exact ⟨_, _, _, _, _, _, _, _, _, _, _, _, _, _, _, _, _, _, _, _, _, _, _, _, ⟨k + 1, by omega, by go_num, o3, lw⟩, rfl⟩ | exact ⟨_, _, _, _, _, _, _, _, _, _, _, _, _, _, _, _, _, _, _, _, _, _, _, _, _, ⟨k + 1, by omega, by go_num, o3, lw⟩, rfl⟩
      case measure => simp [intOf]; omega
    · obtain rfl : k = 4 := by omega
      have o2 : World.ownsRow _ u0.heap.size 3 1 _ (5 + 0) (N64 (x.nums.take (5 + 0))) := ho
      clear ho hlt hk
      go_wp2
      go_loopw [3, 5] (fun lv i wr => ∃ k : Nat, k ≤ 4 ∧ i = .int .i64 k ∧ wr.ownsRow u0.heap.size 3 1 lv (5 + k) (N64 (x.nums.take (5 + k))) ∧ Later u0 wr) (fun _ i _ => 4 - (intOf i).toNat)
      case atStart => exact ⟨0, by omega, rfl, o2, lw⟩
      case round =>
        clear o2 lw
        obtain ⟨k, hk, rfl, ho, lw⟩ := hrel
        by_cases hlt : k < 4
        · have hin : 0 ≤ x.m k ∧ x.m k ≤ 4294967295 := by have := HW.out.m k hlt; exact ⟨this.1, by have := this.2; omega⟩
          have hid := (b4.keep lw).cell (ctl_m x hlt)
          have hnx := Lib.hid (take_m x hlt)
          obtain ⟨y, hy⟩ : ∃ y, y = x.m k := ⟨_, rfl⟩
          rw [← hy] at hin hid hnx
          have hwr := wrap_in y hin
          have hkn : (k : Int) < 4 := by omega
          have hk0 : (0 : Int) ≤ k := by omega
          clear hy hin
          go_wp2_with (at_builtin; refine wpList_app _ rfl _ _ 72 rfl u0.heap.size 3 i0 (.int .i64 0) 1 8 Try.underlying72 hi hz0 hz1 hz2 rfl (by decide) _ _ _ rfl (ho.alloc _) (some ⟨_, 0, none⟩) 1 1 (N64 [y]) rfl (sl_new64 (Blk.new _ 3 (N64 [y]).toArray (N64 [y]) rfl)) (N64_one _) (by unfold maxLen; omega) (by omega) (by have := lw.size; simp; omega) ?_; intro v3 w3 ho3 hg3; replace lw := (lw.alloc lw.size (.cells (N64 [y]).toArray 3)).grown hg3 (by have := lw.size; simp; omega) (fun k hk => (ho.lt k hk).1))
          have o3 : w3.ownsRow u0.heap.size 3 1 v3 (5 + (k + 1)) (N64 (x.nums.take (5 + (k + 1)))) := by
            rw [hnx.out, N64_app]
            exact ho3
          clear ho3 ho hid hwr
          go_roundw
          case rel => first | exact ⟨k + 1, by omega, by go_num, o3, lw⟩ | exact ⟨_, _, _, _, _, _, ⟨k + 1, by omega, by go_num, o3, lw⟩, rfl⟩ | exact ⟨_, _, _, _, _, _, _, ⟨k + 1, by omega, by go_num, o3, lw⟩, rfl⟩ | exact ⟨_, _, _, _, _, _, _, _, ⟨k + 1, by omega, by go_num, o3, lw⟩, rfl⟩ | exact ⟨_, _, _, _, _, _, _, _, _, ⟨k + 1, by omega, by go_num, o3, lw⟩, rfl⟩ | exact ⟨_, _, _, _, _, _, _, _, _, _, ⟨k + 1, by omega, by go_num, o3, lw⟩, rfl⟩ | exact ⟨_, _, _, _, _, _, _, _, _, _, _, ⟨k + 1, by omega, by go_num, o3, lw⟩, rfl⟩ | exact ⟨_, _, _, _, _, _, _, _, _, _, _, _, ⟨k + 1, by omega, by go_num, o3, lw⟩, rfl⟩ | exact ⟨_, _, _, _, _, _, _, _, _, _, _, _, _, ⟨k + 1, by omega, by go_num, o3, lw⟩, rfl⟩ | exact ⟨_, _, _, _, _, _, _, _, _, _, _, _, _, _, ⟨k + 1, by omega, by go_num, o3, lw⟩, rfl⟩ | exact ⟨_, _, _, _, _, _, _, _, _, _, _, _, _, _, _, ⟨k + 1, by omega, by go_num, o3, lw⟩, rfl⟩ | exact ⟨_, _, _, _, _, _, _, _, _, _, _, _, _, _, _, _, ⟨k + 1, by omega, by go_num, o3, lw⟩, rfl⟩ | exact ⟨_, _, _, _, _, _, _, _, _, _, _, _, _, _, _, _, _, ⟨k + 1, by omega, by go_num, o3, lw⟩, rfl⟩ | exact ⟨_, _, _, _, _, _, _, _, _, _, _, _, _, _, _, _, _, _, ⟨k + 1, by omega, by go_num, o3, lw⟩, rfl⟩ | exact ⟨_, _, _, _, _, _, _, _, _, _, _, _, _, _, _, _, _, _, _, ⟨k + 1, by omega, by go_num, o3, lw⟩, rfl⟩ | exact ⟨_, _, _, _, _, _, _, _, _, _, _, _, _, _, _, _, _, _, _, _, ⟨k + 1, by omega, by go_num, o3, lw⟩, rfl⟩ | exact ⟨_, _, _, _, _, _, _, _, _, _, _, _, _, _, _, _, _, _, _, _, _, ⟨k + 1, by omega, by go_num, o3, lw⟩, rfl⟩ | exact ⟨_, _, _, _, _, _, _, _, _, _, _, _, _, _, _, _, _, _, _, _, _, _, ⟨k + 1, by omega, by go_num, o3, lw⟩, rfl⟩ | exact ⟨_, _, _, _, _, _, _, _, _, _, _, _, _, _, _, _, _, _, _, _, _, _, _, ⟨k + 1, by omega, by go_num, o3, lw⟩, rfl⟩ | exact ⟨_, _, _, _, _, _, _, _, _, _, _, _, _, _, _, _, _, _, _, _, _, _, _, _, ⟨k + 1, by omega, by go_num, o3, lw⟩, rfl⟩ | exact ⟨_, _, _, _, _, _, _, _, _, _, _, _, _, _, _, _, _, _, _, _, _, _, _, _, _, ⟨k + 1, by omega, by go_num, o3, lw⟩, rfl⟩
          case measure => simp [intOf]; omega
        · obtain rfl : k = 4 := by omega
          have o2 : World.ownsRow _ u0.heap.size 3 1 _ (9 + 0) (N64 (x.nums.take (9 + 0))) := ho
          clear ho hlt hk
          go_wp2
          go_loopw [3, 6] (fun lv i wr => ∃ k : Nat, k ≤ 5 ∧ i = .int .i64 k ∧ wr.ownsRow u0.heap.size 3 1 lv (9 + k) (N64 (x.nums.take (9 + k))) ∧ Later u0 wr) (fun _ i _ => 5 - (intOf i).toNat)
          case atStart => exact ⟨0, by omega, rfl, o2, lw⟩
          case round =>
            clear o2 lw
            obtain ⟨k, hk, rfl, ho, lw⟩ := hrel
            by_cases hlt : k < 5
            · have hin : True := trivial
              have hid := (b4.keep lw).cell (ctl_t x hlt)
              have hnx := Lib.hid (take_t x hlt)
              obtain ⟨y, hy⟩ : ∃ y, y = x.t k := ⟨_, rfl⟩
              rw [← hy] at hid hnx
    
              have hkn : (k : Int) < 5 := by omega
              have hk0 : (0 : Int) ≤ k := by omega
              clear hy hin
              go_wp2_with (at_builtin; refine wpList_app _ rfl _ _ 72 rfl u0.heap.size 3 i0 (.int .i64 0) 1 8 Try.underlying72 hi hz0 hz1 hz2 rfl (by decide) _ _ _ rfl (ho.alloc _) (some ⟨_, 0, none⟩) 1 1 (N64 [y]) rfl (sl_new64 (Blk.new _ 3 (N64 [y]).toArray (N64 [y]) rfl)) (N64_one _) (by unfold maxLen; omega) (by omega) (by have := lw.size; simp; omega) ?_; intro v3 w3 ho3 hg3; replace lw := (lw.alloc lw.size (.cells (N64 [y]).toArray 3)).grown hg3 (by have := lw.size; simp; omega) (fun k hk => (ho.lt k hk).1))
              have o3 : w3.ownsRow u0.heap.size 3 1 v3 (9 + (k + 1)) (N64 (x.nums.take (9 + (k + 1)))) := by
                rw [hnx.out, N64_app]
                exact ho3
              clear ho3 ho hid 
              go_roundw
              case rel => first | exact ⟨k + 1, by omega, by go_num, o3, lw⟩ | exact ⟨_, _, _, _, _, _, ⟨k + 1, by omega, by go_num, o3, lw⟩, rfl⟩ | exact ⟨_, _, _, _, _, _, _, ⟨k + 1, by omega, by go_num, o3, lw⟩, rfl⟩ | exact ⟨_, _, _, _, _, _, _, _, ⟨k + 1, by omega, by go_num, o3, lw⟩, rfl⟩ | exact ⟨_, _, _, _, _, _, _, _, _, ⟨k + 1, by omega, by go_num, o3, lw⟩, rfl⟩ | exact ⟨_, _, _, _, _, _, _, _, _, _, ⟨k + 1, by omega, by go_num, o3, lw⟩, rfl⟩ | exact ⟨_, _, _, _, _, _, _, _, _, _, _, ⟨k + 1, by omega, by go_num, o3, lw⟩, rfl⟩ | exact ⟨_, _, _, _, _, _, _, _, _, _, _, _, ⟨k + 1, by omega, by go_num, o3, lw⟩, rfl⟩ | exact ⟨_, _, _, _, _, _, _, _, _, _, _, _, _, ⟨k + 1, by omega, by go_num, o3, lw⟩, rfl⟩ | exact ⟨_, _, _, _, _, _, _, _, _, _, _, _, _, _, ⟨k + 1, by omega, by go_num, o3, lw⟩, rfl⟩ | exact ⟨_, _, _, _, _, _, _, _, _, _, _, _, _, _, _, ⟨k + 1, by omega, by go_num, o3, lw⟩, rfl⟩ | exact ⟨_, _, _, _, _, _, _, _, _, _, _, _, _, _, _, _, ⟨k + 1, by omega, by go_num, o3, lw⟩, rfl⟩ | exact ⟨_, _, _, _, _, _, _, _, _, _, _, _, _, _, _, _, _, ⟨k + 1, by omega, by go_num, o3, lw⟩, rfl⟩ | exact ⟨_, _, _, _, _, _, _, _, _, _, _, _, _, _, _, _, _, _, ⟨k + 1, by omega, by go_num, o3, lw⟩, rfl⟩ | exact ⟨_, _, _, _, _, _, _, _, _, _, _, _, _, _, _, _, _, _, _, ⟨k + 1, by omega, by go_num, o3, lw⟩, rfl⟩ | exact ⟨_, _, _, _, _, _, _, _, _, _, _, _, _, _, _, _, _, _, _, _, ⟨k + 1, by omega, by go_num, o3, lw⟩, rfl⟩ | exact ⟨_, _, _, _, _, _, _, _, _, _, _, _, _, _, _, _, _, _, _, _, _, ⟨k + 1, by omega, by go_num, o3, lw⟩, rfl⟩ | exact ⟨_, _, _, _, _, _, _, _, _, _, _, _, _, _, _, _, _, _, _, _, _, _, ⟨k + 1, by omega, by go_num, o3, lw⟩, rfl⟩ | exact ⟨_, _, _, _, _, _, _, _, _, _, _, _, _, _, _, _, _, _, _, _, _, _, _, ⟨k + 1, by omega, by go_num, o3, lw⟩, rfl⟩ | exact ⟨_, _, _, _, _, _, _, _, _, _, _, _, _, _, _, _, _, _, _, _, _, _, _, _, ⟨k + 1, by omega, by go_num, o3, lw⟩, rfl⟩ | exact ⟨_, _, _, _, _, _, _, _, _, _, _, _, _, _, _, _, _, _, _, _, _, _, _, _, _, ⟨k + 1, by omega, by go_num, o3, lw⟩, rfl⟩
              case measure => simp [intOf]; omega
            · obtain rfl : k = 5 := by omega
              have o2 : World.ownsRow _ u0.heap.size 3 1 _ 14 (N64 x.nums) := ho
              clear ho hlt hk
              obtain ⟨A5, c5, hv5, _, _, hs5, _⟩ := own_form o2
              subst hv5
              go_wp2_with (go_at_call 39; refine (made_as (HI.out _ _ _ hs5)).mono ?_; rintro e w6 ⟨A6, c6, rfl, g1, g2, _, s6, l6⟩)
              go_ret
              exact ⟨A6, _, c6, rfl, g1, g2, rfl, s6, Later.trans_ lz (Later.trans_ lw l6)⟩
end Go.Proofs.Ytkpigonlnabmdab
