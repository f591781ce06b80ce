/-
  at OF the law.
-/
import Derived.Test.YtidhodalnikhlaaGreatDoorWs
import Derived.Test.YtidhodalnikhlaaGreatDoorVp
namespace Go.Proofs.YtidhodalnikhlaaGreatDoor
open Go.RowKit Go.ChangeShapes Go.WideShapes Go.ChangeAt

theorem st_one (A : Option Addr) (n c : Nat) (q : Bool) : ∀ v ∈ [Value.slice A n c, .bool q], v.oneCell' = true := by
  intro v hv
  simp only [List.mem_cons, List.not_mem_nil, or_false] at hv
  rcases hv with rfl | rfl <;> rfl
theorem m_one (A : Option Addr) (n c : Nat) : ∀ v ∈ [Value.slice A n c], v.oneCell' = true := by
  intro v hv
  simp only [List.mem_cons, List.not_mem_nil, or_false] at hv
  subst hv
  rfl
def atB (W : Int) : Wm.Bs := Mm.put (Zs 1) 0 (Mm.el 4 W)
set_option maxRecDepth 100000 in
set_option maxHeartbeats 2000000 in
theorem at_any (op a b c im W : Int) (w : World) (hW : (encW (⟨op, a, b, c, im⟩ : Im.I)) = W) (h0 : 0 ≤ W ∧ W < 4294967296) : Calls Tryz.prog 32 #[.agg #[.int .i64 op, .int .i64 a, .int .i64 b, .int .i64 c, .int .i64 im]] w fun e w' => ∃ A c', e = .returned (.agg #[.slice A 1 c']) ∧ Sl w' 128 A 1 (U (atB W)) ∧ Later w w' := by
  obtain ⟨i0, hi, hz0, hz1, hz2⟩ := info_parts page_info
  have hmk := fun w' => run_makeSlice (P := Tryz.prog) w' 27 55 i0 _ Tryz.underlying27 hi hz0 .i64 .i64 1 1 (by omega) (by omega) (by rw [hz1]; decide) (by rw [hz2]; decide) (by omega)
  have HE0 := fun w' => refEncode_any (⟨op, a, b, c, im⟩ : Im.I) w'
  rw [hW] at HE0
  have HE := Lib.hid HE0
  have HS : Hid (∀ (w' : World) (h : Draft w' (w.heap.size + 1 + 1) 1 (Zs 1)), Calls Tryz.prog 27 #[.agg #[.slice (some ⟨w.heap.size + 1 + 1, 0, none⟩) 1 1], .agg #[.int .i64 0, .int .i64 4, .int .u32 W]] w' fun e w'' => ∃ g c', e = .returned (.agg #[.slice (some ⟨g, 0, none⟩) 1 c', .bool true]) ∧ w'.heap.size ≤ g ∧ 1 ≤ c' ∧ c' ≤ maxLen ∧ Draft w'' g 1 (atB W) ∧ Later w' w'') :=
    Lib.hid fun w' h => rstore_there (some ⟨w.heap.size + 1 + 1, 0, none⟩) 1 1 0 4 W (Zs 1) w' h.sl (by omega) (by omega) (by unfold Mm.There; decide) h0.1 h0.2
  obtain ⟨E, hE⟩ : ∃ E, E = encE (⟨op, a, b, c, im⟩ : Im.I) := ⟨_, rfl⟩
  rw [← hE] at HE
  clear hE hW h0 HE0
  go_enter Tryz.func32, Tryz.ntmps32
  go_upto_region 2 with fail
  obtain ⟨u0, hu⟩ : ∃ u0, u0 = ((((w.alloc (.cells #[.int .i64 op, .int .i64 a, .int .i64 b, .int .i64 c, .int .i64 im] 70)).alloc (.cells #[.slice none 0 0] 29)).alloc (.cells (madeCells (Array.replicate 128 (.int .u8 0)) 128) 55)).alloc (.cells #[.slice (some ⟨w.heap.size + 1 + 1, 0, none⟩) 1 1] 29)) := ⟨_, rfl⟩
  have dr : Draft u0 (w.heap.size + 1 + 1) 1 (Zs 1) := by rw [hu]; exact (draft_new (by simp)).keep (later1 _ _)
  have bI : Blk u0 w.heap.size 70 [.int .i64 op, .int .i64 a, .int .i64 b, .int .i64 c, .int .i64 im] := by rw [hu]; exact (((Blk.new w 70 _ [.int .i64 op, .int .i64 a, .int .i64 b, .int .i64 c, .int .i64 im] rfl).alloc _).alloc _).alloc _
  have bR : Blk u0 (w.heap.size + 1) 29 [.slice none 0 0] := by rw [hu]; exact ((Blk.new' (w.alloc (.cells #[.int .i64 op, .int .i64 a, .int .i64 b, .int .i64 c, .int .i64 im] 70)) (w.heap.size + 1) 29 _ [.slice none 0 0] (by simp) rfl).alloc _).alloc _
  have bM : Blk u0 (w.heap.size + 1 + 1 + 1) 29 [.slice (some ⟨w.heap.size + 1 + 1, 0, none⟩) 1 1] := by rw [hu]; exact Blk.new' (((w.alloc (.cells #[.int .i64 op, .int .i64 a, .int .i64 b, .int .i64 c, .int .i64 im] 70)).alloc (.cells #[.slice none 0 0] 29)).alloc (.cells (madeCells (Array.replicate 128 (.int .u8 0)) 128) 55)) (w.heap.size + 1 + 1 + 1) 29 _ [.slice (some ⟨w.heap.size + 1 + 1, 0, none⟩) 1 1] (by simp) rfl
  have lw : Later w u0 := by rw [hu]; exact (((later1 w _).alloc (by simp) _).alloc (by simp; omega) _).alloc (by simp; omega) _
  refine wp_eq_world (u := u0) hu ?_
  clear hu hmk hi hz0 hz1 hz2
  go_wp2_with (first
    | ((with_reducible refine wpList_load_blk (o := ⟨some 8, .load 70 (.tmp 1), _, _, _, none⟩) rfl _ _ rfl w.heap.size 70 [.int .i64 op, .int .i64 a, .int .i64 b, .int .i64 c, .int .i64 im] _ ?_ ?_ Tryz.underlying70 rfl (ins_sz5 _ _ _ _ _) ?_); rfl; exact bI)
    | (go_at_call 26; refine (HE.out _).mono ?_; rintro e w1 ⟨rfl, l1⟩; replace bR := bR.keep l1; replace bM := bM.keep l1; replace dr := dr.keep l1; replace lw := Later.trans_ lw l1)
    | ((with_reducible refine wpList_store_abs (o := ⟨none, .store 74 (.tmp 4) (.tmp 9), _, _, _, none⟩) rfl _ _ _ rfl w1.heap.size 74 (encC 0 0) (encC W E) ?_ ?_ (Blk.new _ _ _ _ rfl) (enc_sz _ _) rfl (enc_one _ _) ?_); rfl; rfl; intro w2 b2 o2; have l2 : Later w1 w2 := Below.only (later1 w1 _) o2 (Nat.le_refl _); clear o2; replace bR := bR.keep l2; replace bM := bM.keep l2; replace dr := dr.keep l2; replace lw := Later.trans_ lw l2; have cE := b2.cell (j := 0) (v := .int .u32 W) rfl)
    | ((with_reducible refine wpList_load_blk (o := ⟨some 10, .load 29 (.tmp 3), _, _, _, none⟩) rfl _ _ rfl (w.heap.size + 1 + 1 + 1) 29 [.slice (some ⟨w.heap.size + 1 + 1, 0, none⟩) 1 1] _ ?_ ?_ Tryz.underlying29 rfl mem_sz ?_); rfl; exact bM)
    | (go_at_call 27; refine (HS.out _ dr).mono ?_; rintro e w3 ⟨g, c', rfl, k1, k2, k3, d3, l3⟩; have hne := Nat.ne_of_gt (Nat.lt_of_lt_of_le bR.lt k1); replace bR := bR.keep l3; replace bM := bM.keep l3; replace dr := dr.keep l3; replace lw := Later.trans_ lw l3)
    | ((with_reducible refine wpList_store_abs (o := ⟨none, .store 77 (.tmp 5) (.tmp 14), _, _, _, none⟩) rfl _ _ _ rfl w3.heap.size 77 [.slice none 0 0, .bool false] [.slice (some ⟨g, 0, none⟩) 1 c', .bool true] ?_ ?_ (Blk.new _ _ _ _ rfl) (sto_sz _ _) rfl (st_one _ _ _ _) ?_); rfl; rfl; intro w4 b4 o4; have l4 : Later w3 w4 := Below.only (later1 w3 _) o4 (Nat.le_refl _); clear o4; replace bR := bR.keep l4; replace bM := bM.keep l4; replace dr := dr.keep l4; replace lw := Later.trans_ lw l4; replace d3 := d3.keep l4)
    | ((refine wpList_load_at (o := ⟨some 16, .load 29 (.tmp 15), _, _, _, none⟩) rfl _ _ rfl w3.heap.size 0 1 77 [.slice (some ⟨g, 0, none⟩) 1 c', .bool true] [.slice (some ⟨g, 0, none⟩) 1 c'] _ ?_ b4 rfl Tryz.underlying29 rfl mem_sz ?_); rfl)
    | ((with_reducible refine wpList_store_abs (o := ⟨none, .store 29 (.tmp 2) (.tmp 16), _, _, _, none⟩) rfl _ _ _ rfl (w.heap.size + 1) 29 [.slice none 0 0] [.slice (some ⟨g, 0, none⟩) 1 c'] ?_ ?_ bR mem_sz rfl (m_one _ _ _) ?_); rfl; rfl; intro w9 b9 o9))
  exact bodyPost_ret (results_blk Tryz.results32 _ _ (w.heap.size + 1) 29 [.slice (some ⟨g, 0, none⟩) 1 c'] _ rfl b9 Tryz.underlying29 rfl mem_sz) rfl ⟨some ⟨g, 0, none⟩, c', rfl, (d3.only o9 hne).sl, Below.only lw o9 (by omega)⟩
end Go.Proofs.YtidhodalnikhlaaGreatDoor
