/-
  THE WALKS OF the statements' hex, and of the reference's Bytes32 and Text.
-/
import Derived.Test.YtoigpokmlohhkaaDoorHashN
import Derived.Deep.RegionLaw
import Derived.Deep.AppendLies
namespace Go.Proofs.YtoigpokmlohhkaaDoor
open Go.RowKit

set_option maxRecDepth 100000 in
set_option maxHeartbeats 400000 in
theorem bytes32_any (b : Wm.Bs) (w : World) (hb : Wm.isBs b) (hl : b.length = 32) :
    Calls Tryd.prog 55 #[.agg (U b).toArray] w fun e w' => e = .returned (.string (strOfNums b)) ∧ Later w w' := by
  obtain ⟨i0, hi, hz0, hz1, hz2⟩ := info_parts u8_info
  have hsz : (Tryd.prog.info? 35).map (·.size) = some (U b).length := by rw [U_length, hl]; kernel_rfl
  obtain ⟨C, hC⟩ : ∃ C, C = U b := ⟨_, rfl⟩
  rw [← hC] at hsz ⊢
  have HC := Lib.hid hC
  have HL := Lib.hid hl
  clear hC hl
  go_enter Tryd.func55, Tryd.ntmps55
  go_wp2
  go_loopw [3, 4] (fun v i wr => ∃ k : Nat, k ≤ 32 ∧ i = .int .i64 k ∧ Blk wr w.heap.size 35 (U b) ∧ wr.ownsRow (w.heap.size + 1) 5 1 v (b.take k).length (U (b.take k)) ∧ Later w wr ∧ w.heap.size < wr.heap.size) (fun _ i _ => 32 - (intOf i).toNat)
  case atStart => exact ⟨0, by omega, rfl, Blk.new w _ _ _ (by rw [HC.out]), World.ownsRow_nil _ _ _ _, (Below.refl _ _).alloc (Nat.le_refl _) _, by simp⟩
  case round =>
    obtain ⟨k, hk, rfl, g1, hor, hbr, hgt⟩ := hrel
    by_cases hlt : k < 32
    · obtain ⟨x, hc, h0, h1, HX⟩ := g1.byte hb k (by rw [HL.out]; exact hlt)
      have htk : b.take (k + 1) = b.take k ++ [x] := by
        rw [List.take_succ_eq_append_getElem (by rw [HL.out]; exact hlt)]
        congr 2
        rw [← HX.out, List.getD_eq_getElem?_getD, List.getElem?_eq_getElem (by rw [HL.out]; exact hlt)]; rfl
      have HT := Lib.hid htk
      have hlen : (b.take k).length ≤ 32 := by rw [List.length_take]; omega
      have k0 : (0 : Int) ≤ (k : Int) := by omega
      have k32 : (k : Int) < 32 := by omega
      clear htk HX
      go_wp2_with (at_builtin; refine wpList_append_own _ rfl _ _ 33 rfl (w.heap.size + 1) 5 i0 (.int .u8 0) 1 1 Tryd.underlying33 hi hz0 hz1 hz2 rfl (by decide) _ _ _ rfl (hor.alloc _) ⟨wr.heap.size, 0, none⟩ 1 1 [.int .u8 _] rfl rfl (cell_one_new _ _ _) (one_int _ _) (by unfold maxLen; omega) (by omega) (by simp; omega) ?_; intro v' w1 hown' hgrow _)
      have hb1 : Later w w1 := (hbr.alloc hbr.size _).grown hgrow (by have := hbr.size; simp; omega) (fun j hj => by have := (hor.lt j hj).1; omega)
      have g1' : Blk w1 w.heap.size 35 (U b) := by
        have hg := g1.alloc (.cells #[.int .u8 x] 5)
        unfold Blk at *
        rw [hgrow.block w.heap.size (by simp; omega) (fun h => by have := (hor.lt _ h.symm).1; omega)]
        exact hg
      have hsz1 : w.heap.size < w1.heap.size := g1'.lt
      have ho2 := own_snoc hown'
      rw [← HT.out] at ho2
      clear hown' hgrow hor g1
      go_wp2
      go_roundw
      case rel => exact ⟨k + 1, by omega, by go_num, g1', ho2, hb1, hsz1⟩
      case measure => simp [intOf]; omega
    · obtain rfl : k = 32 := by omega
      rw [List.take_of_length_le (by rw [HL.out]; exact Nat.le_refl _)] at hor
      obtain ⟨A, c, rfl, o1, o2, o3, _⟩ := own_form hor
      have hcv := run_str (P := Tryd.prog) 33 9 5 Tryd.underlying33 Tryd.underlying5 Tryd.underlying9 o3 c
      clear hor o3
      go_wp2
      go_ret
      exact ⟨rfl, hbr⟩
set_option maxRecDepth 100000 in
set_option maxHeartbeats 400000 in
theorem text_any (b : Wm.Bs) (w : World) (hb : Wm.isBs b) (hl : b.length = 16) :
    Calls Tryd.prog 56 #[.agg (U b).toArray] w fun e w' => e = .returned (.string (strOfNums b)) ∧ Later w w' := by
  obtain ⟨i0, hi, hz0, hz1, hz2⟩ := info_parts u8_info
  have hsz : (Tryd.prog.info? 47).map (·.size) = some (U b).length := by rw [U_length, hl]; kernel_rfl
  obtain ⟨C, hC⟩ : ∃ C, C = U b := ⟨_, rfl⟩
  rw [← hC] at hsz ⊢
  have HC := Lib.hid hC
  have HL := Lib.hid hl
  clear hC hl
  go_enter Tryd.func56, Tryd.ntmps56
  go_wp2
  go_loopw [3, 4] (fun v i wr => ∃ k : Nat, k ≤ 16 ∧ i = .int .i64 k ∧ Blk wr w.heap.size 47 (U b) ∧ wr.ownsRow (w.heap.size + 1) 5 1 v (b.take k).length (U (b.take k)) ∧ Later w wr ∧ w.heap.size < wr.heap.size) (fun _ i _ => 16 - (intOf i).toNat)
  case atStart => exact ⟨0, by omega, rfl, Blk.new w _ _ _ (by rw [HC.out]), World.ownsRow_nil _ _ _ _, (Below.refl _ _).alloc (Nat.le_refl _) _, by simp⟩
  case round =>
    obtain ⟨k, hk, rfl, g1, hor, hbr, hgt⟩ := hrel
    by_cases hlt : k < 16
    · obtain ⟨x, hc, h0, h1, HX⟩ := g1.byte hb k (by rw [HL.out]; exact hlt)
      have htk : b.take (k + 1) = b.take k ++ [x] := by
        rw [List.take_succ_eq_append_getElem (by rw [HL.out]; exact hlt)]
        congr 2
        rw [← HX.out, List.getD_eq_getElem?_getD, List.getElem?_eq_getElem (by rw [HL.out]; exact hlt)]; rfl
      have HT := Lib.hid htk
      have hlen : (b.take k).length ≤ 16 := by rw [List.length_take]; omega
      have k0 : (0 : Int) ≤ (k : Int) := by omega
      have k16 : (k : Int) < 16 := by omega
      clear htk HX
      go_wp2_with (at_builtin; refine wpList_append_own _ rfl _ _ 33 rfl (w.heap.size + 1) 5 i0 (.int .u8 0) 1 1 Tryd.underlying33 hi hz0 hz1 hz2 rfl (by decide) _ _ _ rfl (hor.alloc _) ⟨wr.heap.size, 0, none⟩ 1 1 [.int .u8 _] rfl rfl (cell_one_new _ _ _) (one_int _ _) (by unfold maxLen; omega) (by omega) (by simp; omega) ?_; intro v' w1 hown' hgrow _)
      have hb1 : Later w w1 := (hbr.alloc hbr.size _).grown hgrow (by have := hbr.size; simp; omega) (fun j hj => by have := (hor.lt j hj).1; omega)
      have g1' : Blk w1 w.heap.size 47 (U b) := by
        have hg := g1.alloc (.cells #[.int .u8 x] 5)
        unfold Blk at *
        rw [hgrow.block w.heap.size (by simp; omega) (fun h => by have := (hor.lt _ h.symm).1; omega)]
        exact hg
      have hsz1 : w.heap.size < w1.heap.size := g1'.lt
      have ho2 := own_snoc hown'
      rw [← HT.out] at ho2
      clear hown' hgrow hor g1
      go_wp2
      go_roundw
      case rel => exact ⟨k + 1, by omega, by go_num, g1', ho2, hb1, hsz1⟩
      case measure => simp [intOf]; omega
    · obtain rfl : k = 16 := by omega
      rw [List.take_of_length_le (by rw [HL.out]; exact Nat.le_refl _)] at hor
      obtain ⟨A, c, rfl, o1, o2, o3, _⟩ := own_form hor
      have hcv := run_str (P := Tryd.prog) 33 9 5 Tryd.underlying33 Tryd.underlying5 Tryd.underlying9 o3 c
      clear hor o3
      go_wp2
      go_ret
      exact ⟨rfl, hbr⟩
end Go.Proofs.YtoigpokmlohhkaaDoor
