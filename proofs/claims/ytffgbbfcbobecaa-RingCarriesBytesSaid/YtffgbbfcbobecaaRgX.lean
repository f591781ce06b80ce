/-
  A RING: sanity, walked.
-/
import Derived.Test.YtffgbbfcbobecaaRgW
import Derived.Deep.DeepCutAuto
import Derived.Deep.RegionHeld
namespace Go.Proofs.Ytffgbbfcbobecaa
open Go.RowKit Go.ChangeShapes Go.WideShapes Go.ChangeAt

theorem blk_slK {w : World} {B size n : Nat} {t : TypeId} {xs : List Value} (h : Blk w B t xs) (hl : xs.length = n * size) : Sl w size (some ⟨B, 0, none⟩) n xs :=
  ⟨hl, fun _ => ⟨_, rfl, h.lt, fun j u hu => by rw [Addr.add_mid, Nat.zero_add]; exact h.cell hu⟩⟩
set_option maxRecDepth 100000 in
set_option maxHeartbeats 64000000 in
theorem sanity_any (w : World) : Calls Try.prog 10 #[] w fun e w' => e = .returned (.bool true) ∧ Later w w' := by
  go_enter Try.func10, Try.ntmps10
  go_upto_region 3 with (first
  | (go_at_call 35; (with_reducible refine (k_new _).mono ?_); rintro e w1 ⟨g0, rfl, hg0, d0, lw⟩; have hw1 := lw.size)
  | ((with_reducible refine wpList_store_abs (o := ⟨none, .store 24 (.tmp 1) (.tmp 26), _, _, _, none⟩) rfl _ _ _ rfl w1.heap.size 24 ([.slice none 0 0]) ([.slice (some ⟨g0, 0, none⟩) 8 8]) ?_ ?_ ?_ ?_ ?_ ?_ ?_); rfl; rfl; exact (Blk.new _ _ _ _ rfl); exact memS; rfl; exact (one1 rfl); intro w2 b1 ob1; have lb1 := Below.only (later1 w1 (.cells #[.slice none 0 0] 24)) ob1 (Nat.le_refl _); replace d0 := d0.keep lb1; replace lw := Later.trans_ lw lb1; clear lb1 ob1; have h12 := b1.lt)
  | ((with_reducible refine wpList_bld (o := ⟨some 28, .build 27 #[(0, .const (.int .u32 256)), (1, .const (.int .u32 4))], _, _, _, none⟩) rfl _ #[(0, .const (.int .u32 256)), (1, .const (.int .u32 4))] #[(0, .int .u32 256), (1, .int .u32 4)] [.int .u32 256, .int .u32 4].toArray rfl ?_ (run_r43 _ _ _) ?_); rfl)
  | ((with_reducible refine wpList_store_abs (o := ⟨none, .store 27 (.tmp 3) (.tmp 28), _, _, _, none⟩) rfl _ _ _ rfl w2.heap.size 27 ([.int .u32 0, .int .u32 0]) ([.int .u32 256, .int .u32 4]) ?_ ?_ ?_ ?_ ?_ ?_ ?_); rfl; rfl; exact (Blk.new _ _ _ _ rfl); exact ring_sz; rfl; exact (one2 rfl rfl); intro w3 b3 ob3; have lb3 := Below.only (later1 w2 (.cells #[.int .u32 0, .int .u32 0] 27)) ob3 (Nat.le_refl _); replace d0 := d0.keep lb3; replace b1 := b1.keep lb3; replace lw := Later.trans_ lw lb3; clear lb3 ob3))
  simp only [Act.put]
  go_cut [] (fun wx => ∃ A3 c3, Blk wx w1.heap.size 24 [.slice A3 8 c3] ∧ Blk wx w2.heap.size 27 [.int .u32 256, .int .u32 4] ∧ Sl wx 128 A3 8 (U m2) ∧ Hid (8 ≤ c3 ∧ c3 ≤ maxLen) ∧ Later w wx)
  case first => as_aux_lemma =>
    replace d0 := d0.drew
    replace b1 := b1.drew
    replace b3 := b3.drew
    replace lw := lw.drew
    refine wp_region_held_drew (S := fun w' => World.rangeAt w' w2.heap.size 0 [.int .u32 256, .int .u32 4]) (by kernel_rfl) (b3.range 0 2) (fun hHeld => ?_)
    refine wpAnyH_take (i := 1) (oi := ⟨some 30, .load 27 (.tmp 3), _, _, _, none⟩) (v := .agg ([.int .u32 256, .int .u32 4]).toArray) rfl (by kernel_rfl) (by kernel_rfl) (by kernel_rfl) (fun _ _ _ h => h) (yieldsIf_load_mid (by rfl) _ _ rfl w2.heap.size 0 rfl ([.int .u32 256, .int .u32 4]) _ (fun wz hSw => hSw) Try.underlying27 rfl ring_sz) hHeld ?_
    simp only [Act.put, List.setIfInBounds_toArray, List.set_cons_zero, List.set_cons_succ]
    refine wpAnyH_take (i := 4) (oi := ⟨some 33, .load 27 (.tmp 3), _, _, _, none⟩) (v := .agg ([.int .u32 256, .int .u32 4]).toArray) rfl (by kernel_rfl) (by kernel_rfl) (by kernel_rfl) (fun _ _ _ h => h) (yieldsIf_load_mid (by rfl) _ _ rfl w2.heap.size 0 rfl ([.int .u32 256, .int .u32 4]) _ (fun wz hSw => hSw) Try.underlying27 rfl ring_sz) hHeld ?_
    simp only [Act.put, List.setIfInBounds_toArray, List.set_cons_zero, List.set_cons_succ]
    refine wpAnyH_ready (rs := [0, 2, 5]) (by kernel_rfl) (by simp) (AllReadyH.cons (o := ⟨some 29, .load 24 (.tmp 1), _, _, _, none⟩) rfl (fun K' hK => ?_) (AllReadyH.cons (o := ⟨some 31, .buildSlice 110 4 #[(0, .const (.int .u32 512)), (1, .const (.int .u32 3)), (2, .const (.int .u32 514)), (3, .const (.int .u32 1))], _, _, _, none⟩) rfl (fun K' hK => ?_) (AllReadyH.cons (o := ⟨some 34, .buildSlice 110 4 #[(0, .const (.int .u32 600)), (1, .const (.int .u32 5)), (2, .const (.int .u32 1)), (3, .const (.int .u32 1))], _, _, _, none⟩) rfl (fun K' hK => ?_) AllReadyH.nil)))
    · refine wp_load_blk 24 _ rfl w1.heap.size 24 ([.slice (some ⟨g0, 0, none⟩) 8 8]) _ rfl b1 Try.underlying24 rfl memS ?_
      refine hK.out _ _ (b3.range 0 2) (fun hHeld => ?_)
      clear hK K'
      try simp only [Act.put, List.setIfInBounds_toArray, List.set_cons_zero, List.set_cons_succ]
      refine wpAnyH_ready (rs := [2, 5]) (by kernel_rfl) (by simp) (AllReadyH.cons (o := ⟨some 31, .buildSlice 110 4 #[(0, .const (.int .u32 512)), (1, .const (.int .u32 3)), (2, .const (.int .u32 514)), (3, .const (.int .u32 1))], _, _, _, none⟩) rfl (fun K' hK => ?_) (AllReadyH.cons (o := ⟨some 34, .buildSlice 110 4 #[(0, .const (.int .u32 600)), (1, .const (.int .u32 5)), (2, .const (.int .u32 1)), (3, .const (.int .u32 1))], _, _, _, none⟩) rfl (fun K' hK => ?_) AllReadyH.nil))
      · refine wp_bs _ _ _ #[(0, .int .u32 512), (1, .int .u32 3), (2, .int .u32 514), (3, .int .u32 1)] _ rfl rfl (run_w4 512 3 514 1 _) ?_
        have q1 : Blk _ w3.heap.size 25 (N32 [512, 3, 514, 1]) := Blk.new' w3.drew w3.heap.size 25 (N32 [512, 3, 514, 1]).toArray (N32 [512, 3, 514, 1]) (by simp) rfl
        replace d0 := d0.keep (later1 w3.drew (.cells (N32 [512, 3, 514, 1]).toArray 25))
        replace b1 := b1.keep (later1 w3.drew (.cells (N32 [512, 3, 514, 1]).toArray 25))
        replace b3 := b3.keep (later1 w3.drew (.cells (N32 [512, 3, 514, 1]).toArray 25))
        replace lw := Later.trans_ lw (later1 w3.drew (.cells (N32 [512, 3, 514, 1]).toArray 25))
        refine hK.out _ _ (b3.range 0 2) (fun hHeld => ?_)
        clear hK K'
        try simp only [Act.put, List.setIfInBounds_toArray, List.set_cons_zero, List.set_cons_succ]
        refine wpAnyH_ready (rs := [3, 5]) (by kernel_rfl) (by simp) (AllReadyH.cons (o := ⟨some 32, .call { callee := .value (.func 36), args := #[.tmp 29, .tmp 30, .const (.int .i64 1), .tmp 31], argTypes := #[24, 27, 3, 110] }, _, _, _, none⟩) rfl (fun K' hK => ?_) (AllReadyH.cons (o := ⟨some 34, .buildSlice 110 4 #[(0, .const (.int .u32 600)), (1, .const (.int .u32 5)), (2, .const (.int .u32 1)), (3, .const (.int .u32 1))], _, _, _, none⟩) rfl (fun K' hK => ?_) AllReadyH.nil))
        · go_simp
          refine (k_ds _ _ _ _ d0.sl m0_bs 1 (by omega) (by omega) (Nat.le_refl _) (by unfold maxLen; omega) 512 3 514 1 (e4 rfl) _ q1).mono ?_
          rintro e u1 ⟨A2, c2, rfl, v1, v2, s2, l3⟩
          change Sl u1 128 A2 8 (U m1) at s2
          clear d0 q1
          replace b1 := b1.keep l3
          replace b3 := b3.keep l3
          replace lw := Later.trans_ lw l3
          refine hK.out _ _ (b3.range 0 2) (fun hHeld => ?_)
          clear hK K'
          try simp only [Act.put, List.setIfInBounds_toArray, List.set_cons_zero, List.set_cons_succ]
          refine wpAnyH_ready (rs := [5]) (by kernel_rfl) (by simp) (AllReadyH.cons (o := ⟨some 34, .buildSlice 110 4 #[(0, .const (.int .u32 600)), (1, .const (.int .u32 5)), (2, .const (.int .u32 1)), (3, .const (.int .u32 1))], _, _, _, none⟩) rfl (fun K' hK => ?_) AllReadyH.nil)
          refine wp_bs _ _ _ #[(0, .int .u32 600), (1, .int .u32 5), (2, .int .u32 1), (3, .int .u32 1)] _ rfl rfl (run_w4 600 5 1 1 _) ?_
          have q2 : Blk _ u1.heap.size 25 (N32 [600, 5, 1, 1]) := Blk.new' u1 u1.heap.size 25 (N32 [600, 5, 1, 1]).toArray (N32 [600, 5, 1, 1]) (by simp) rfl
          replace s2 := s2.keep (later1 u1 (.cells (N32 [600, 5, 1, 1]).toArray 25))
          replace b1 := b1.keep (later1 u1 (.cells (N32 [600, 5, 1, 1]).toArray 25))
          replace b3 := b3.keep (later1 u1 (.cells (N32 [600, 5, 1, 1]).toArray 25))
          replace lw := Later.trans_ lw (later1 u1 (.cells (N32 [600, 5, 1, 1]).toArray 25))
          refine hK.out _ _ (b3.range 0 2) (fun hHeld => ?_)
          clear hK K'
          try simp only [Act.put, List.setIfInBounds_toArray, List.set_cons_zero, List.set_cons_succ]
          refine wpAnyH_ready (rs := [6]) (by kernel_rfl) (by simp) (AllReadyH.cons (o := ⟨some 35, .call { callee := .value (.func 36), args := #[.tmp 32, .tmp 33, .const (.int .i64 2), .tmp 34], argTypes := #[24, 27, 3, 110] }, _, _, _, none⟩) rfl (fun K' hK => ?_) AllReadyH.nil)
          go_simp
          refine (k_ds _ _ _ _ s2 m1_bs 2 (by omega) (by omega) v1 v2 600 5 1 1 (e4 rfl) _ q2).mono ?_
          rintro e u3 ⟨A3, c3, rfl, v3, v4, s3, l6⟩
          change Sl u3 128 A3 8 (U m2) at s3
          clear s2 q2
          replace b1 := b1.keep l6
          replace b3 := b3.keep l6
          replace lw := Later.trans_ lw l6
          refine hK.out _ _ (b3.range 0 2) (fun hHeld => ?_)
          clear hK K'
          try simp only [Act.put, List.setIfInBounds_toArray, List.set_cons_zero, List.set_cons_succ]
          refine wpAnyH_ready (rs := [7]) (by kernel_rfl) (by simp) (AllReadyH.cons (o := ⟨none, .store 24 (.tmp 1) (.tmp 35), _, _, _, none⟩) rfl (fun K' hK => ?_) AllReadyH.nil)
          refine wp_store_blk 24 _ _ rfl w1.heap.size 24 [.slice (some ⟨g0, 0, none⟩) 8 8] [.slice A3 8 c3] rfl rfl b1 memS rfl (one1 rfl) ?_
          intro wq bq oq
          have hne : ∀ ad, A3 = some ad → ad.block ≠ w1.heap.size := fun ad e => by subst e; exact sl_box s3 (by omega) b1
          replace s3 := s3.only_ne oq hne
          replace b3 := b3.only oq (by omega)
          replace lw := Below.only lw oq hw1
          refine hK.out _ _ (b3.range 0 2) (fun hHeld => ?_)
          clear hK K'
          try simp only [Act.put]
          refine wpAnyH_done (by kernel_rfl) ?_ _
          clear hHeld
          go_wp2
          go_meet
          exact ⟨A3, c3, bq, b3, s3, Lib.hid ⟨v3, v4⟩, lw⟩
        · refine wp_bs _ _ _ #[(0, .int .u32 600), (1, .int .u32 5), (2, .int .u32 1), (3, .int .u32 1)] _ rfl rfl (run_w4 600 5 1 1 _) ?_
          have q2 : Blk _ (w3.heap.size + 1) 25 (N32 [600, 5, 1, 1]) := Blk.new' (w3.drew.alloc (.cells (N32 [512, 3, 514, 1]).toArray 25)) (w3.heap.size + 1) 25 (N32 [600, 5, 1, 1]).toArray (N32 [600, 5, 1, 1]) (by simp) rfl
          replace d0 := d0.keep (later1 (w3.drew.alloc (.cells (N32 [512, 3, 514, 1]).toArray 25)) (.cells (N32 [600, 5, 1, 1]).toArray 25))
          replace b1 := b1.keep (later1 (w3.drew.alloc (.cells (N32 [512, 3, 514, 1]).toArray 25)) (.cells (N32 [600, 5, 1, 1]).toArray 25))
          replace b3 := b3.keep (later1 (w3.drew.alloc (.cells (N32 [512, 3, 514, 1]).toArray 25)) (.cells (N32 [600, 5, 1, 1]).toArray 25))
          replace lw := Later.trans_ lw (later1 (w3.drew.alloc (.cells (N32 [512, 3, 514, 1]).toArray 25)) (.cells (N32 [600, 5, 1, 1]).toArray 25))
          replace q1 := q1.keep (later1 (w3.drew.alloc (.cells (N32 [512, 3, 514, 1]).toArray 25)) (.cells (N32 [600, 5, 1, 1]).toArray 25))
          refine hK.out _ _ (b3.range 0 2) (fun hHeld => ?_)
          clear hK K'
          try simp only [Act.put, List.setIfInBounds_toArray, List.set_cons_zero, List.set_cons_succ]
          refine wpAnyH_ready (rs := [3]) (by kernel_rfl) (by simp) (AllReadyH.cons (o := ⟨some 32, .call { callee := .value (.func 36), args := #[.tmp 29, .tmp 30, .const (.int .i64 1), .tmp 31], argTypes := #[24, 27, 3, 110] }, _, _, _, none⟩) rfl (fun K' hK => ?_) AllReadyH.nil)
          go_simp
          refine (k_ds _ _ _ _ d0.sl m0_bs 1 (by omega) (by omega) (Nat.le_refl _) (by unfold maxLen; omega) 512 3 514 1 (e4 rfl) _ q1).mono ?_
          rintro e u1 ⟨A2, c2, rfl, v1, v2, s2, l3⟩
          change Sl u1 128 A2 8 (U m1) at s2
          clear d0 q1
          replace b1 := b1.keep l3
          replace b3 := b3.keep l3
          replace q2 := q2.keep l3
          replace lw := Later.trans_ lw l3
          refine hK.out _ _ (b3.range 0 2) (fun hHeld => ?_)
          clear hK K'
          try simp only [Act.put, List.setIfInBounds_toArray, List.set_cons_zero, List.set_cons_succ]
          refine wpAnyH_ready (rs := [6]) (by kernel_rfl) (by simp) (AllReadyH.cons (o := ⟨some 35, .call { callee := .value (.func 36), args := #[.tmp 32, .tmp 33, .const (.int .i64 2), .tmp 34], argTypes := #[24, 27, 3, 110] }, _, _, _, none⟩) rfl (fun K' hK => ?_) AllReadyH.nil)
          go_simp
          refine (k_ds _ _ _ _ s2 m1_bs 2 (by omega) (by omega) v1 v2 600 5 1 1 (e4 rfl) _ q2).mono ?_
          rintro e u3 ⟨A3, c3, rfl, v3, v4, s3, l6⟩
          change Sl u3 128 A3 8 (U m2) at s3
          clear s2 q2
          replace b1 := b1.keep l6
          replace b3 := b3.keep l6
          replace lw := Later.trans_ lw l6
          refine hK.out _ _ (b3.range 0 2) (fun hHeld => ?_)
          clear hK K'
          try simp only [Act.put, List.setIfInBounds_toArray, List.set_cons_zero, List.set_cons_succ]
          refine wpAnyH_ready (rs := [7]) (by kernel_rfl) (by simp) (AllReadyH.cons (o := ⟨none, .store 24 (.tmp 1) (.tmp 35), _, _, _, none⟩) rfl (fun K' hK => ?_) AllReadyH.nil)
          refine wp_store_blk 24 _ _ rfl w1.heap.size 24 [.slice (some ⟨g0, 0, none⟩) 8 8] [.slice A3 8 c3] rfl rfl b1 memS rfl (one1 rfl) ?_
          intro wq bq oq
          have hne : ∀ ad, A3 = some ad → ad.block ≠ w1.heap.size := fun ad e => by subst e; exact sl_box s3 (by omega) b1
          replace s3 := s3.only_ne oq hne
          replace b3 := b3.only oq (by omega)
          replace lw := Below.only lw oq hw1
          refine hK.out _ _ (b3.range 0 2) (fun hHeld => ?_)
          clear hK K'
          try simp only [Act.put]
          refine wpAnyH_done (by kernel_rfl) ?_ _
          clear hHeld
          go_wp2
          go_meet
          exact ⟨A3, c3, bq, b3, s3, Lib.hid ⟨v3, v4⟩, lw⟩
      · refine wp_bs _ _ _ #[(0, .int .u32 600), (1, .int .u32 5), (2, .int .u32 1), (3, .int .u32 1)] _ rfl rfl (run_w4 600 5 1 1 _) ?_
        have q2 : Blk _ w3.heap.size 25 (N32 [600, 5, 1, 1]) := Blk.new' w3.drew w3.heap.size 25 (N32 [600, 5, 1, 1]).toArray (N32 [600, 5, 1, 1]) (by simp) rfl
        replace d0 := d0.keep (later1 w3.drew (.cells (N32 [600, 5, 1, 1]).toArray 25))
        replace b1 := b1.keep (later1 w3.drew (.cells (N32 [600, 5, 1, 1]).toArray 25))
        replace b3 := b3.keep (later1 w3.drew (.cells (N32 [600, 5, 1, 1]).toArray 25))
        replace lw := Later.trans_ lw (later1 w3.drew (.cells (N32 [600, 5, 1, 1]).toArray 25))
        refine hK.out _ _ (b3.range 0 2) (fun hHeld => ?_)
        clear hK K'
        try simp only [Act.put, List.setIfInBounds_toArray, List.set_cons_zero, List.set_cons_succ]
        refine wpAnyH_ready (rs := [2]) (by kernel_rfl) (by simp) (AllReadyH.cons (o := ⟨some 31, .buildSlice 110 4 #[(0, .const (.int .u32 512)), (1, .const (.int .u32 3)), (2, .const (.int .u32 514)), (3, .const (.int .u32 1))], _, _, _, none⟩) rfl (fun K' hK => ?_) AllReadyH.nil)
        refine wp_bs _ _ _ #[(0, .int .u32 512), (1, .int .u32 3), (2, .int .u32 514), (3, .int .u32 1)] _ rfl rfl (run_w4 512 3 514 1 _) ?_
        have q1 : Blk _ (w3.heap.size + 1) 25 (N32 [512, 3, 514, 1]) := Blk.new' (w3.drew.alloc (.cells (N32 [600, 5, 1, 1]).toArray 25)) (w3.heap.size + 1) 25 (N32 [512, 3, 514, 1]).toArray (N32 [512, 3, 514, 1]) (by simp) rfl
        replace d0 := d0.keep (later1 (w3.drew.alloc (.cells (N32 [600, 5, 1, 1]).toArray 25)) (.cells (N32 [512, 3, 514, 1]).toArray 25))
        replace b1 := b1.keep (later1 (w3.drew.alloc (.cells (N32 [600, 5, 1, 1]).toArray 25)) (.cells (N32 [512, 3, 514, 1]).toArray 25))
        replace b3 := b3.keep (later1 (w3.drew.alloc (.cells (N32 [600, 5, 1, 1]).toArray 25)) (.cells (N32 [512, 3, 514, 1]).toArray 25))
        replace lw := Later.trans_ lw (later1 (w3.drew.alloc (.cells (N32 [600, 5, 1, 1]).toArray 25)) (.cells (N32 [512, 3, 514, 1]).toArray 25))
        replace q2 := q2.keep (later1 (w3.drew.alloc (.cells (N32 [600, 5, 1, 1]).toArray 25)) (.cells (N32 [512, 3, 514, 1]).toArray 25))
        refine hK.out _ _ (b3.range 0 2) (fun hHeld => ?_)
        clear hK K'
        try simp only [Act.put, List.setIfInBounds_toArray, List.set_cons_zero, List.set_cons_succ]
        refine wpAnyH_ready (rs := [3]) (by kernel_rfl) (by simp) (AllReadyH.cons (o := ⟨some 32, .call { callee := .value (.func 36), args := #[.tmp 29, .tmp 30, .const (.int .i64 1), .tmp 31], argTypes := #[24, 27, 3, 110] }, _, _, _, none⟩) rfl (fun K' hK => ?_) AllReadyH.nil)
        go_simp
        refine (k_ds _ _ _ _ d0.sl m0_bs 1 (by omega) (by omega) (Nat.le_refl _) (by unfold maxLen; omega) 512 3 514 1 (e4 rfl) _ q1).mono ?_
        rintro e u1 ⟨A2, c2, rfl, v1, v2, s2, l3⟩
        change Sl u1 128 A2 8 (U m1) at s2
        clear d0 q1
        replace b1 := b1.keep l3
        replace b3 := b3.keep l3
        replace q2 := q2.keep l3
        replace lw := Later.trans_ lw l3
        refine hK.out _ _ (b3.range 0 2) (fun hHeld => ?_)
        clear hK K'
        try simp only [Act.put, List.setIfInBounds_toArray, List.set_cons_zero, List.set_cons_succ]
        refine wpAnyH_ready (rs := [6]) (by kernel_rfl) (by simp) (AllReadyH.cons (o := ⟨some 35, .call { callee := .value (.func 36), args := #[.tmp 32, .tmp 33, .const (.int .i64 2), .tmp 34], argTypes := #[24, 27, 3, 110] }, _, _, _, none⟩) rfl (fun K' hK => ?_) AllReadyH.nil)
        go_simp
        refine (k_ds _ _ _ _ s2 m1_bs 2 (by omega) (by omega) v1 v2 600 5 1 1 (e4 rfl) _ q2).mono ?_
        rintro e u3 ⟨A3, c3, rfl, v3, v4, s3, l6⟩
        change Sl u3 128 A3 8 (U m2) at s3
        clear s2 q2
        replace b1 := b1.keep l6
        replace b3 := b3.keep l6
        replace lw := Later.trans_ lw l6
        refine hK.out _ _ (b3.range 0 2) (fun hHeld => ?_)
        clear hK K'
        try simp only [Act.put, List.setIfInBounds_toArray, List.set_cons_zero, List.set_cons_succ]
        refine wpAnyH_ready (rs := [7]) (by kernel_rfl) (by simp) (AllReadyH.cons (o := ⟨none, .store 24 (.tmp 1) (.tmp 35), _, _, _, none⟩) rfl (fun K' hK => ?_) AllReadyH.nil)
        refine wp_store_blk 24 _ _ rfl w1.heap.size 24 [.slice (some ⟨g0, 0, none⟩) 8 8] [.slice A3 8 c3] rfl rfl b1 memS rfl (one1 rfl) ?_
        intro wq bq oq
        have hne : ∀ ad, A3 = some ad → ad.block ≠ w1.heap.size := fun ad e => by subst e; exact sl_box s3 (by omega) b1
        replace s3 := s3.only_ne oq hne
        replace b3 := b3.only oq (by omega)
        replace lw := Below.only lw oq hw1
        refine hK.out _ _ (b3.range 0 2) (fun hHeld => ?_)
        clear hK K'
        try simp only [Act.put]
        refine wpAnyH_done (by kernel_rfl) ?_ _
        clear hHeld
        go_wp2
        go_meet
        exact ⟨A3, c3, bq, b3, s3, Lib.hid ⟨v3, v4⟩, lw⟩
    · refine wp_bs _ _ _ #[(0, .int .u32 512), (1, .int .u32 3), (2, .int .u32 514), (3, .int .u32 1)] _ rfl rfl (run_w4 512 3 514 1 _) ?_
      have q1 : Blk _ w3.heap.size 25 (N32 [512, 3, 514, 1]) := Blk.new' w3.drew w3.heap.size 25 (N32 [512, 3, 514, 1]).toArray (N32 [512, 3, 514, 1]) (by simp) rfl
      replace d0 := d0.keep (later1 w3.drew (.cells (N32 [512, 3, 514, 1]).toArray 25))
      replace b1 := b1.keep (later1 w3.drew (.cells (N32 [512, 3, 514, 1]).toArray 25))
      replace b3 := b3.keep (later1 w3.drew (.cells (N32 [512, 3, 514, 1]).toArray 25))
      replace lw := Later.trans_ lw (later1 w3.drew (.cells (N32 [512, 3, 514, 1]).toArray 25))
      refine hK.out _ _ (b3.range 0 2) (fun hHeld => ?_)
      clear hK K'
      try simp only [Act.put, List.setIfInBounds_toArray, List.set_cons_zero, List.set_cons_succ]
      refine wpAnyH_ready (rs := [0, 5]) (by kernel_rfl) (by simp) (AllReadyH.cons (o := ⟨some 29, .load 24 (.tmp 1), _, _, _, none⟩) rfl (fun K' hK => ?_) (AllReadyH.cons (o := ⟨some 34, .buildSlice 110 4 #[(0, .const (.int .u32 600)), (1, .const (.int .u32 5)), (2, .const (.int .u32 1)), (3, .const (.int .u32 1))], _, _, _, none⟩) rfl (fun K' hK => ?_) AllReadyH.nil))
      · refine wp_load_blk 24 _ rfl w1.heap.size 24 ([.slice (some ⟨g0, 0, none⟩) 8 8]) _ rfl b1 Try.underlying24 rfl memS ?_
        refine hK.out _ _ (b3.range 0 2) (fun hHeld => ?_)
        clear hK K'
        try simp only [Act.put, List.setIfInBounds_toArray, List.set_cons_zero, List.set_cons_succ]
        refine wpAnyH_ready (rs := [3, 5]) (by kernel_rfl) (by simp) (AllReadyH.cons (o := ⟨some 32, .call { callee := .value (.func 36), args := #[.tmp 29, .tmp 30, .const (.int .i64 1), .tmp 31], argTypes := #[24, 27, 3, 110] }, _, _, _, none⟩) rfl (fun K' hK => ?_) (AllReadyH.cons (o := ⟨some 34, .buildSlice 110 4 #[(0, .const (.int .u32 600)), (1, .const (.int .u32 5)), (2, .const (.int .u32 1)), (3, .const (.int .u32 1))], _, _, _, none⟩) rfl (fun K' hK => ?_) AllReadyH.nil))
        · go_simp
          refine (k_ds _ _ _ _ d0.sl m0_bs 1 (by omega) (by omega) (Nat.le_refl _) (by unfold maxLen; omega) 512 3 514 1 (e4 rfl) _ q1).mono ?_
          rintro e u1 ⟨A2, c2, rfl, v1, v2, s2, l3⟩
          change Sl u1 128 A2 8 (U m1) at s2
          clear d0 q1
          replace b1 := b1.keep l3
          replace b3 := b3.keep l3
          replace lw := Later.trans_ lw l3
          refine hK.out _ _ (b3.range 0 2) (fun hHeld => ?_)
          clear hK K'
          try simp only [Act.put, List.setIfInBounds_toArray, List.set_cons_zero, List.set_cons_succ]
          refine wpAnyH_ready (rs := [5]) (by kernel_rfl) (by simp) (AllReadyH.cons (o := ⟨some 34, .buildSlice 110 4 #[(0, .const (.int .u32 600)), (1, .const (.int .u32 5)), (2, .const (.int .u32 1)), (3, .const (.int .u32 1))], _, _, _, none⟩) rfl (fun K' hK => ?_) AllReadyH.nil)
          refine wp_bs _ _ _ #[(0, .int .u32 600), (1, .int .u32 5), (2, .int .u32 1), (3, .int .u32 1)] _ rfl rfl (run_w4 600 5 1 1 _) ?_
          have q2 : Blk _ u1.heap.size 25 (N32 [600, 5, 1, 1]) := Blk.new' u1 u1.heap.size 25 (N32 [600, 5, 1, 1]).toArray (N32 [600, 5, 1, 1]) (by simp) rfl
          replace s2 := s2.keep (later1 u1 (.cells (N32 [600, 5, 1, 1]).toArray 25))
          replace b1 := b1.keep (later1 u1 (.cells (N32 [600, 5, 1, 1]).toArray 25))
          replace b3 := b3.keep (later1 u1 (.cells (N32 [600, 5, 1, 1]).toArray 25))
          replace lw := Later.trans_ lw (later1 u1 (.cells (N32 [600, 5, 1, 1]).toArray 25))
          refine hK.out _ _ (b3.range 0 2) (fun hHeld => ?_)
          clear hK K'
          try simp only [Act.put, List.setIfInBounds_toArray, List.set_cons_zero, List.set_cons_succ]
          refine wpAnyH_ready (rs := [6]) (by kernel_rfl) (by simp) (AllReadyH.cons (o := ⟨some 35, .call { callee := .value (.func 36), args := #[.tmp 32, .tmp 33, .const (.int .i64 2), .tmp 34], argTypes := #[24, 27, 3, 110] }, _, _, _, none⟩) rfl (fun K' hK => ?_) AllReadyH.nil)
          go_simp
          refine (k_ds _ _ _ _ s2 m1_bs 2 (by omega) (by omega) v1 v2 600 5 1 1 (e4 rfl) _ q2).mono ?_
          rintro e u3 ⟨A3, c3, rfl, v3, v4, s3, l6⟩
          change Sl u3 128 A3 8 (U m2) at s3
          clear s2 q2
          replace b1 := b1.keep l6
          replace b3 := b3.keep l6
          replace lw := Later.trans_ lw l6
          refine hK.out _ _ (b3.range 0 2) (fun hHeld => ?_)
          clear hK K'
          try simp only [Act.put, List.setIfInBounds_toArray, List.set_cons_zero, List.set_cons_succ]
          refine wpAnyH_ready (rs := [7]) (by kernel_rfl) (by simp) (AllReadyH.cons (o := ⟨none, .store 24 (.tmp 1) (.tmp 35), _, _, _, none⟩) rfl (fun K' hK => ?_) AllReadyH.nil)
          refine wp_store_blk 24 _ _ rfl w1.heap.size 24 [.slice (some ⟨g0, 0, none⟩) 8 8] [.slice A3 8 c3] rfl rfl b1 memS rfl (one1 rfl) ?_
          intro wq bq oq
          have hne : ∀ ad, A3 = some ad → ad.block ≠ w1.heap.size := fun ad e => by subst e; exact sl_box s3 (by omega) b1
          replace s3 := s3.only_ne oq hne
          replace b3 := b3.only oq (by omega)
          replace lw := Below.only lw oq hw1
          refine hK.out _ _ (b3.range 0 2) (fun hHeld => ?_)
          clear hK K'
          try simp only [Act.put]
          refine wpAnyH_done (by kernel_rfl) ?_ _
          clear hHeld
          go_wp2
          go_meet
          exact ⟨A3, c3, bq, b3, s3, Lib.hid ⟨v3, v4⟩, lw⟩
        · refine wp_bs _ _ _ #[(0, .int .u32 600), (1, .int .u32 5), (2, .int .u32 1), (3, .int .u32 1)] _ rfl rfl (run_w4 600 5 1 1 _) ?_
          have q2 : Blk _ (w3.heap.size + 1) 25 (N32 [600, 5, 1, 1]) := Blk.new' (w3.drew.alloc (.cells (N32 [512, 3, 514, 1]).toArray 25)) (w3.heap.size + 1) 25 (N32 [600, 5, 1, 1]).toArray (N32 [600, 5, 1, 1]) (by simp) rfl
          replace d0 := d0.keep (later1 (w3.drew.alloc (.cells (N32 [512, 3, 514, 1]).toArray 25)) (.cells (N32 [600, 5, 1, 1]).toArray 25))
          replace b1 := b1.keep (later1 (w3.drew.alloc (.cells (N32 [512, 3, 514, 1]).toArray 25)) (.cells (N32 [600, 5, 1, 1]).toArray 25))
          replace b3 := b3.keep (later1 (w3.drew.alloc (.cells (N32 [512, 3, 514, 1]).toArray 25)) (.cells (N32 [600, 5, 1, 1]).toArray 25))
          replace lw := Later.trans_ lw (later1 (w3.drew.alloc (.cells (N32 [512, 3, 514, 1]).toArray 25)) (.cells (N32 [600, 5, 1, 1]).toArray 25))
          replace q1 := q1.keep (later1 (w3.drew.alloc (.cells (N32 [512, 3, 514, 1]).toArray 25)) (.cells (N32 [600, 5, 1, 1]).toArray 25))
          refine hK.out _ _ (b3.range 0 2) (fun hHeld => ?_)
          clear hK K'
          try simp only [Act.put, List.setIfInBounds_toArray, List.set_cons_zero, List.set_cons_succ]
          refine wpAnyH_ready (rs := [3]) (by kernel_rfl) (by simp) (AllReadyH.cons (o := ⟨some 32, .call { callee := .value (.func 36), args := #[.tmp 29, .tmp 30, .const (.int .i64 1), .tmp 31], argTypes := #[24, 27, 3, 110] }, _, _, _, none⟩) rfl (fun K' hK => ?_) AllReadyH.nil)
          go_simp
          refine (k_ds _ _ _ _ d0.sl m0_bs 1 (by omega) (by omega) (Nat.le_refl _) (by unfold maxLen; omega) 512 3 514 1 (e4 rfl) _ q1).mono ?_
          rintro e u1 ⟨A2, c2, rfl, v1, v2, s2, l3⟩
          change Sl u1 128 A2 8 (U m1) at s2
          clear d0 q1
          replace b1 := b1.keep l3
          replace b3 := b3.keep l3
          replace q2 := q2.keep l3
          replace lw := Later.trans_ lw l3
          refine hK.out _ _ (b3.range 0 2) (fun hHeld => ?_)
          clear hK K'
          try simp only [Act.put, List.setIfInBounds_toArray, List.set_cons_zero, List.set_cons_succ]
          refine wpAnyH_ready (rs := [6]) (by kernel_rfl) (by simp) (AllReadyH.cons (o := ⟨some 35, .call { callee := .value (.func 36), args := #[.tmp 32, .tmp 33, .const (.int .i64 2), .tmp 34], argTypes := #[24, 27, 3, 110] }, _, _, _, none⟩) rfl (fun K' hK => ?_) AllReadyH.nil)
          go_simp
          refine (k_ds _ _ _ _ s2 m1_bs 2 (by omega) (by omega) v1 v2 600 5 1 1 (e4 rfl) _ q2).mono ?_
          rintro e u3 ⟨A3, c3, rfl, v3, v4, s3, l6⟩
          change Sl u3 128 A3 8 (U m2) at s3
          clear s2 q2
          replace b1 := b1.keep l6
          replace b3 := b3.keep l6
          replace lw := Later.trans_ lw l6
          refine hK.out _ _ (b3.range 0 2) (fun hHeld => ?_)
          clear hK K'
          try simp only [Act.put, List.setIfInBounds_toArray, List.set_cons_zero, List.set_cons_succ]
          refine wpAnyH_ready (rs := [7]) (by kernel_rfl) (by simp) (AllReadyH.cons (o := ⟨none, .store 24 (.tmp 1) (.tmp 35), _, _, _, none⟩) rfl (fun K' hK => ?_) AllReadyH.nil)
          refine wp_store_blk 24 _ _ rfl w1.heap.size 24 [.slice (some ⟨g0, 0, none⟩) 8 8] [.slice A3 8 c3] rfl rfl b1 memS rfl (one1 rfl) ?_
          intro wq bq oq
          have hne : ∀ ad, A3 = some ad → ad.block ≠ w1.heap.size := fun ad e => by subst e; exact sl_box s3 (by omega) b1
          replace s3 := s3.only_ne oq hne
          replace b3 := b3.only oq (by omega)
          replace lw := Below.only lw oq hw1
          refine hK.out _ _ (b3.range 0 2) (fun hHeld => ?_)
          clear hK K'
          try simp only [Act.put]
          refine wpAnyH_done (by kernel_rfl) ?_ _
          clear hHeld
          go_wp2
          go_meet
          exact ⟨A3, c3, bq, b3, s3, Lib.hid ⟨v3, v4⟩, lw⟩
      · refine wp_bs _ _ _ #[(0, .int .u32 600), (1, .int .u32 5), (2, .int .u32 1), (3, .int .u32 1)] _ rfl rfl (run_w4 600 5 1 1 _) ?_
        have q2 : Blk _ (w3.heap.size + 1) 25 (N32 [600, 5, 1, 1]) := Blk.new' (w3.drew.alloc (.cells (N32 [512, 3, 514, 1]).toArray 25)) (w3.heap.size + 1) 25 (N32 [600, 5, 1, 1]).toArray (N32 [600, 5, 1, 1]) (by simp) rfl
        replace d0 := d0.keep (later1 (w3.drew.alloc (.cells (N32 [512, 3, 514, 1]).toArray 25)) (.cells (N32 [600, 5, 1, 1]).toArray 25))
        replace b1 := b1.keep (later1 (w3.drew.alloc (.cells (N32 [512, 3, 514, 1]).toArray 25)) (.cells (N32 [600, 5, 1, 1]).toArray 25))
        replace b3 := b3.keep (later1 (w3.drew.alloc (.cells (N32 [512, 3, 514, 1]).toArray 25)) (.cells (N32 [600, 5, 1, 1]).toArray 25))
        replace lw := Later.trans_ lw (later1 (w3.drew.alloc (.cells (N32 [512, 3, 514, 1]).toArray 25)) (.cells (N32 [600, 5, 1, 1]).toArray 25))
        replace q1 := q1.keep (later1 (w3.drew.alloc (.cells (N32 [512, 3, 514, 1]).toArray 25)) (.cells (N32 [600, 5, 1, 1]).toArray 25))
        refine hK.out _ _ (b3.range 0 2) (fun hHeld => ?_)
        clear hK K'
        try simp only [Act.put, List.setIfInBounds_toArray, List.set_cons_zero, List.set_cons_succ]
        refine wpAnyH_ready (rs := [0]) (by kernel_rfl) (by simp) (AllReadyH.cons (o := ⟨some 29, .load 24 (.tmp 1), _, _, _, none⟩) rfl (fun K' hK => ?_) AllReadyH.nil)
        refine wp_load_blk 24 _ rfl w1.heap.size 24 ([.slice (some ⟨g0, 0, none⟩) 8 8]) _ rfl b1 Try.underlying24 rfl memS ?_
        refine hK.out _ _ (b3.range 0 2) (fun hHeld => ?_)
        clear hK K'
        try simp only [Act.put, List.setIfInBounds_toArray, List.set_cons_zero, List.set_cons_succ]
        refine wpAnyH_ready (rs := [3]) (by kernel_rfl) (by simp) (AllReadyH.cons (o := ⟨some 32, .call { callee := .value (.func 36), args := #[.tmp 29, .tmp 30, .const (.int .i64 1), .tmp 31], argTypes := #[24, 27, 3, 110] }, _, _, _, none⟩) rfl (fun K' hK => ?_) AllReadyH.nil)
        go_simp
        refine (k_ds _ _ _ _ d0.sl m0_bs 1 (by omega) (by omega) (Nat.le_refl _) (by unfold maxLen; omega) 512 3 514 1 (e4 rfl) _ q1).mono ?_
        rintro e u1 ⟨A2, c2, rfl, v1, v2, s2, l3⟩
        change Sl u1 128 A2 8 (U m1) at s2
        clear d0 q1
        replace b1 := b1.keep l3
        replace b3 := b3.keep l3
        replace q2 := q2.keep l3
        replace lw := Later.trans_ lw l3
        refine hK.out _ _ (b3.range 0 2) (fun hHeld => ?_)
        clear hK K'
        try simp only [Act.put, List.setIfInBounds_toArray, List.set_cons_zero, List.set_cons_succ]
        refine wpAnyH_ready (rs := [6]) (by kernel_rfl) (by simp) (AllReadyH.cons (o := ⟨some 35, .call { callee := .value (.func 36), args := #[.tmp 32, .tmp 33, .const (.int .i64 2), .tmp 34], argTypes := #[24, 27, 3, 110] }, _, _, _, none⟩) rfl (fun K' hK => ?_) AllReadyH.nil)
        go_simp
        refine (k_ds _ _ _ _ s2 m1_bs 2 (by omega) (by omega) v1 v2 600 5 1 1 (e4 rfl) _ q2).mono ?_
        rintro e u3 ⟨A3, c3, rfl, v3, v4, s3, l6⟩
        change Sl u3 128 A3 8 (U m2) at s3
        clear s2 q2
        replace b1 := b1.keep l6
        replace b3 := b3.keep l6
        replace lw := Later.trans_ lw l6
        refine hK.out _ _ (b3.range 0 2) (fun hHeld => ?_)
        clear hK K'
        try simp only [Act.put, List.setIfInBounds_toArray, List.set_cons_zero, List.set_cons_succ]
        refine wpAnyH_ready (rs := [7]) (by kernel_rfl) (by simp) (AllReadyH.cons (o := ⟨none, .store 24 (.tmp 1) (.tmp 35), _, _, _, none⟩) rfl (fun K' hK => ?_) AllReadyH.nil)
        refine wp_store_blk 24 _ _ rfl w1.heap.size 24 [.slice (some ⟨g0, 0, none⟩) 8 8] [.slice A3 8 c3] rfl rfl b1 memS rfl (one1 rfl) ?_
        intro wq bq oq
        have hne : ∀ ad, A3 = some ad → ad.block ≠ w1.heap.size := fun ad e => by subst e; exact sl_box s3 (by omega) b1
        replace s3 := s3.only_ne oq hne
        replace b3 := b3.only oq (by omega)
        replace lw := Below.only lw oq hw1
        refine hK.out _ _ (b3.range 0 2) (fun hHeld => ?_)
        clear hK K'
        try simp only [Act.put]
        refine wpAnyH_done (by kernel_rfl) ?_ _
        clear hHeld
        go_wp2
        go_meet
        exact ⟨A3, c3, bq, b3, s3, Lib.hid ⟨v3, v4⟩, lw⟩
    · refine wp_bs _ _ _ #[(0, .int .u32 600), (1, .int .u32 5), (2, .int .u32 1), (3, .int .u32 1)] _ rfl rfl (run_w4 600 5 1 1 _) ?_
      have q2 : Blk _ w3.heap.size 25 (N32 [600, 5, 1, 1]) := Blk.new' w3.drew w3.heap.size 25 (N32 [600, 5, 1, 1]).toArray (N32 [600, 5, 1, 1]) (by simp) rfl
      replace d0 := d0.keep (later1 w3.drew (.cells (N32 [600, 5, 1, 1]).toArray 25))
      replace b1 := b1.keep (later1 w3.drew (.cells (N32 [600, 5, 1, 1]).toArray 25))
      replace b3 := b3.keep (later1 w3.drew (.cells (N32 [600, 5, 1, 1]).toArray 25))
      replace lw := Later.trans_ lw (later1 w3.drew (.cells (N32 [600, 5, 1, 1]).toArray 25))
      refine hK.out _ _ (b3.range 0 2) (fun hHeld => ?_)
      clear hK K'
      try simp only [Act.put, List.setIfInBounds_toArray, List.set_cons_zero, List.set_cons_succ]
      refine wpAnyH_ready (rs := [0, 2]) (by kernel_rfl) (by simp) (AllReadyH.cons (o := ⟨some 29, .load 24 (.tmp 1), _, _, _, none⟩) rfl (fun K' hK => ?_) (AllReadyH.cons (o := ⟨some 31, .buildSlice 110 4 #[(0, .const (.int .u32 512)), (1, .const (.int .u32 3)), (2, .const (.int .u32 514)), (3, .const (.int .u32 1))], _, _, _, none⟩) rfl (fun K' hK => ?_) AllReadyH.nil))
      · refine wp_load_blk 24 _ rfl w1.heap.size 24 ([.slice (some ⟨g0, 0, none⟩) 8 8]) _ rfl b1 Try.underlying24 rfl memS ?_
        refine hK.out _ _ (b3.range 0 2) (fun hHeld => ?_)
        clear hK K'
        try simp only [Act.put, List.setIfInBounds_toArray, List.set_cons_zero, List.set_cons_succ]
        refine wpAnyH_ready (rs := [2]) (by kernel_rfl) (by simp) (AllReadyH.cons (o := ⟨some 31, .buildSlice 110 4 #[(0, .const (.int .u32 512)), (1, .const (.int .u32 3)), (2, .const (.int .u32 514)), (3, .const (.int .u32 1))], _, _, _, none⟩) rfl (fun K' hK => ?_) AllReadyH.nil)
        refine wp_bs _ _ _ #[(0, .int .u32 512), (1, .int .u32 3), (2, .int .u32 514), (3, .int .u32 1)] _ rfl rfl (run_w4 512 3 514 1 _) ?_
        have q1 : Blk _ (w3.heap.size + 1) 25 (N32 [512, 3, 514, 1]) := Blk.new' (w3.drew.alloc (.cells (N32 [600, 5, 1, 1]).toArray 25)) (w3.heap.size + 1) 25 (N32 [512, 3, 514, 1]).toArray (N32 [512, 3, 514, 1]) (by simp) rfl
        replace d0 := d0.keep (later1 (w3.drew.alloc (.cells (N32 [600, 5, 1, 1]).toArray 25)) (.cells (N32 [512, 3, 514, 1]).toArray 25))
        replace b1 := b1.keep (later1 (w3.drew.alloc (.cells (N32 [600, 5, 1, 1]).toArray 25)) (.cells (N32 [512, 3, 514, 1]).toArray 25))
        replace b3 := b3.keep (later1 (w3.drew.alloc (.cells (N32 [600, 5, 1, 1]).toArray 25)) (.cells (N32 [512, 3, 514, 1]).toArray 25))
        replace lw := Later.trans_ lw (later1 (w3.drew.alloc (.cells (N32 [600, 5, 1, 1]).toArray 25)) (.cells (N32 [512, 3, 514, 1]).toArray 25))
        replace q2 := q2.keep (later1 (w3.drew.alloc (.cells (N32 [600, 5, 1, 1]).toArray 25)) (.cells (N32 [512, 3, 514, 1]).toArray 25))
        refine hK.out _ _ (b3.range 0 2) (fun hHeld => ?_)
        clear hK K'
        try simp only [Act.put, List.setIfInBounds_toArray, List.set_cons_zero, List.set_cons_succ]
        refine wpAnyH_ready (rs := [3]) (by kernel_rfl) (by simp) (AllReadyH.cons (o := ⟨some 32, .call { callee := .value (.func 36), args := #[.tmp 29, .tmp 30, .const (.int .i64 1), .tmp 31], argTypes := #[24, 27, 3, 110] }, _, _, _, none⟩) rfl (fun K' hK => ?_) AllReadyH.nil)
        go_simp
        refine (k_ds _ _ _ _ d0.sl m0_bs 1 (by omega) (by omega) (Nat.le_refl _) (by unfold maxLen; omega) 512 3 514 1 (e4 rfl) _ q1).mono ?_
        rintro e u1 ⟨A2, c2, rfl, v1, v2, s2, l3⟩
        change Sl u1 128 A2 8 (U m1) at s2
        clear d0 q1
        replace b1 := b1.keep l3
        replace b3 := b3.keep l3
        replace q2 := q2.keep l3
        replace lw := Later.trans_ lw l3
        refine hK.out _ _ (b3.range 0 2) (fun hHeld => ?_)
        clear hK K'
        try simp only [Act.put, List.setIfInBounds_toArray, List.set_cons_zero, List.set_cons_succ]
        refine wpAnyH_ready (rs := [6]) (by kernel_rfl) (by simp) (AllReadyH.cons (o := ⟨some 35, .call { callee := .value (.func 36), args := #[.tmp 32, .tmp 33, .const (.int .i64 2), .tmp 34], argTypes := #[24, 27, 3, 110] }, _, _, _, none⟩) rfl (fun K' hK => ?_) AllReadyH.nil)
        go_simp
        refine (k_ds _ _ _ _ s2 m1_bs 2 (by omega) (by omega) v1 v2 600 5 1 1 (e4 rfl) _ q2).mono ?_
        rintro e u3 ⟨A3, c3, rfl, v3, v4, s3, l6⟩
        change Sl u3 128 A3 8 (U m2) at s3
        clear s2 q2
        replace b1 := b1.keep l6
        replace b3 := b3.keep l6
        replace lw := Later.trans_ lw l6
        refine hK.out _ _ (b3.range 0 2) (fun hHeld => ?_)
        clear hK K'
        try simp only [Act.put, List.setIfInBounds_toArray, List.set_cons_zero, List.set_cons_succ]
        refine wpAnyH_ready (rs := [7]) (by kernel_rfl) (by simp) (AllReadyH.cons (o := ⟨none, .store 24 (.tmp 1) (.tmp 35), _, _, _, none⟩) rfl (fun K' hK => ?_) AllReadyH.nil)
        refine wp_store_blk 24 _ _ rfl w1.heap.size 24 [.slice (some ⟨g0, 0, none⟩) 8 8] [.slice A3 8 c3] rfl rfl b1 memS rfl (one1 rfl) ?_
        intro wq bq oq
        have hne : ∀ ad, A3 = some ad → ad.block ≠ w1.heap.size := fun ad e => by subst e; exact sl_box s3 (by omega) b1
        replace s3 := s3.only_ne oq hne
        replace b3 := b3.only oq (by omega)
        replace lw := Below.only lw oq hw1
        refine hK.out _ _ (b3.range 0 2) (fun hHeld => ?_)
        clear hK K'
        try simp only [Act.put]
        refine wpAnyH_done (by kernel_rfl) ?_ _
        clear hHeld
        go_wp2
        go_meet
        exact ⟨A3, c3, bq, b3, s3, Lib.hid ⟨v3, v4⟩, lw⟩
      · refine wp_bs _ _ _ #[(0, .int .u32 512), (1, .int .u32 3), (2, .int .u32 514), (3, .int .u32 1)] _ rfl rfl (run_w4 512 3 514 1 _) ?_
        have q1 : Blk _ (w3.heap.size + 1) 25 (N32 [512, 3, 514, 1]) := Blk.new' (w3.drew.alloc (.cells (N32 [600, 5, 1, 1]).toArray 25)) (w3.heap.size + 1) 25 (N32 [512, 3, 514, 1]).toArray (N32 [512, 3, 514, 1]) (by simp) rfl
        replace d0 := d0.keep (later1 (w3.drew.alloc (.cells (N32 [600, 5, 1, 1]).toArray 25)) (.cells (N32 [512, 3, 514, 1]).toArray 25))
        replace b1 := b1.keep (later1 (w3.drew.alloc (.cells (N32 [600, 5, 1, 1]).toArray 25)) (.cells (N32 [512, 3, 514, 1]).toArray 25))
        replace b3 := b3.keep (later1 (w3.drew.alloc (.cells (N32 [600, 5, 1, 1]).toArray 25)) (.cells (N32 [512, 3, 514, 1]).toArray 25))
        replace lw := Later.trans_ lw (later1 (w3.drew.alloc (.cells (N32 [600, 5, 1, 1]).toArray 25)) (.cells (N32 [512, 3, 514, 1]).toArray 25))
        replace q2 := q2.keep (later1 (w3.drew.alloc (.cells (N32 [600, 5, 1, 1]).toArray 25)) (.cells (N32 [512, 3, 514, 1]).toArray 25))
        refine hK.out _ _ (b3.range 0 2) (fun hHeld => ?_)
        clear hK K'
        try simp only [Act.put, List.setIfInBounds_toArray, List.set_cons_zero, List.set_cons_succ]
        refine wpAnyH_ready (rs := [0]) (by kernel_rfl) (by simp) (AllReadyH.cons (o := ⟨some 29, .load 24 (.tmp 1), _, _, _, none⟩) rfl (fun K' hK => ?_) AllReadyH.nil)
        refine wp_load_blk 24 _ rfl w1.heap.size 24 ([.slice (some ⟨g0, 0, none⟩) 8 8]) _ rfl b1 Try.underlying24 rfl memS ?_
        refine hK.out _ _ (b3.range 0 2) (fun hHeld => ?_)
        clear hK K'
        try simp only [Act.put, List.setIfInBounds_toArray, List.set_cons_zero, List.set_cons_succ]
        refine wpAnyH_ready (rs := [3]) (by kernel_rfl) (by simp) (AllReadyH.cons (o := ⟨some 32, .call { callee := .value (.func 36), args := #[.tmp 29, .tmp 30, .const (.int .i64 1), .tmp 31], argTypes := #[24, 27, 3, 110] }, _, _, _, none⟩) rfl (fun K' hK => ?_) AllReadyH.nil)
        go_simp
        refine (k_ds _ _ _ _ d0.sl m0_bs 1 (by omega) (by omega) (Nat.le_refl _) (by unfold maxLen; omega) 512 3 514 1 (e4 rfl) _ q1).mono ?_
        rintro e u1 ⟨A2, c2, rfl, v1, v2, s2, l3⟩
        change Sl u1 128 A2 8 (U m1) at s2
        clear d0 q1
        replace b1 := b1.keep l3
        replace b3 := b3.keep l3
        replace q2 := q2.keep l3
        replace lw := Later.trans_ lw l3
        refine hK.out _ _ (b3.range 0 2) (fun hHeld => ?_)
        clear hK K'
        try simp only [Act.put, List.setIfInBounds_toArray, List.set_cons_zero, List.set_cons_succ]
        refine wpAnyH_ready (rs := [6]) (by kernel_rfl) (by simp) (AllReadyH.cons (o := ⟨some 35, .call { callee := .value (.func 36), args := #[.tmp 32, .tmp 33, .const (.int .i64 2), .tmp 34], argTypes := #[24, 27, 3, 110] }, _, _, _, none⟩) rfl (fun K' hK => ?_) AllReadyH.nil)
        go_simp
        refine (k_ds _ _ _ _ s2 m1_bs 2 (by omega) (by omega) v1 v2 600 5 1 1 (e4 rfl) _ q2).mono ?_
        rintro e u3 ⟨A3, c3, rfl, v3, v4, s3, l6⟩
        change Sl u3 128 A3 8 (U m2) at s3
        clear s2 q2
        replace b1 := b1.keep l6
        replace b3 := b3.keep l6
        replace lw := Later.trans_ lw l6
        refine hK.out _ _ (b3.range 0 2) (fun hHeld => ?_)
        clear hK K'
        try simp only [Act.put, List.setIfInBounds_toArray, List.set_cons_zero, List.set_cons_succ]
        refine wpAnyH_ready (rs := [7]) (by kernel_rfl) (by simp) (AllReadyH.cons (o := ⟨none, .store 24 (.tmp 1) (.tmp 35), _, _, _, none⟩) rfl (fun K' hK => ?_) AllReadyH.nil)
        refine wp_store_blk 24 _ _ rfl w1.heap.size 24 [.slice (some ⟨g0, 0, none⟩) 8 8] [.slice A3 8 c3] rfl rfl b1 memS rfl (one1 rfl) ?_
        intro wq bq oq
        have hne : ∀ ad, A3 = some ad → ad.block ≠ w1.heap.size := fun ad e => by subst e; exact sl_box s3 (by omega) b1
        replace s3 := s3.only_ne oq hne
        replace b3 := b3.only oq (by omega)
        replace lw := Below.only lw oq hw1
        refine hK.out _ _ (b3.range 0 2) (fun hHeld => ?_)
        clear hK K'
        try simp only [Act.put]
        refine wpAnyH_done (by kernel_rfl) ?_ _
        clear hHeld
        go_wp2
        go_meet
        exact ⟨A3, c3, bq, b3, s3, Lib.hid ⟨v3, v4⟩, lw⟩
  case rest =>
    clear b1 b3 d0 lw
    obtain ⟨A3, c3, b1, b3, s3, hA3, lw⟩ := hcut
    have KF0 := Lib.hid fun w' (h : Sl w' 128 A3 8 (U m2)) => k_first A3 c3 m2 w' h m2_bs 0 (by omega) (by omega)
    rw [x_f0] at KF0
    change Hid (∀ w', Sl w' 128 A3 8 (U m2) → Calls Try.prog 14 #[.agg #[.slice A3 8 c3], .agg #[.int .u32 256, .int .u32 4], .int .i64 0] w' fun e w'_1 => e = .returned (.tuple #[.int .i64 1, .bool true]) ∧ Later w' w'_1) at KF0
    have KF2 := Lib.hid fun w' (h : Sl w' 128 A3 8 (U m2)) => k_first A3 c3 m2 w' h m2_bs 2 (by omega) (by omega)
    rw [x_f2] at KF2
    change Hid (∀ w', Sl w' 128 A3 8 (U m2) → Calls Try.prog 14 #[.agg #[.slice A3 8 c3], .agg #[.int .u32 256, .int .u32 4], .int .i64 2] w' fun e w'_1 => e = .returned (.tuple #[.int .i64 2, .bool true]) ∧ Later w' w'_1) at KF2
    have KT1 := Lib.hid fun w' (h : Sl w' 128 A3 8 (U m2)) => k_take A3 c3 m2 w' h m2_bs 1 (by omega) (by omega)
    rw [x_te, x_tl] at KT1
    change Hid (∀ w', Sl w' 128 A3 8 (U m2) → Calls Try.prog 15 #[.agg #[.slice A3 8 c3], .agg #[.int .u32 256, .int .u32 4], .int .i64 1] w' (GotT 8 mN l1 0 w')) at KT1
    have KT2 := Lib.hid fun gN cN w' (h : Draft w' gN 8 mN) => k_take (some ⟨gN, 0, none⟩) cN mN w' h.sl mN_bs 1 (by omega) (by omega)
    rw [x_oe, x_ol, x_om] at KT2
    have KSC := Lib.hid fun gN cN AP cp w' (h : Draft w' gN 8 mN) (k : Sl w' 4 AP 2 (Ps l1)) => scatter_any (some ⟨gN, 0, none⟩) 8 cN mN AP 2 cp l1 abc w' h.sl mN_bs (by omega) (by omega) k rfl l1_sml (by decide)
    rw [x_n] at KSC
    change Hid (∀ gN cN AP cp w', Draft w' gN 8 mN → Sl w' 4 AP 2 (Ps l1) → Calls Try.prog 24 #[.agg #[.slice (some ⟨gN, 0, none⟩) 8 cN], .slice AP 2 cp, .string ⟨#[97, 98, 99, 100, 101, 102, 103]⟩] w' (GotSc 8 mP 5 w')) at KSC
    have KRD := Lib.hid fun gP cP w' (h : Draft w' gP 8 mP) => read_any (some ⟨gP, 0, none⟩) 8 cP 598 8 mP w' h.sl (by omega) (by omega) ⟨by omega, by omega⟩
    rw [x_r, show decide (Mm.Inside (8 * 128) 598 8) = true from by decide] at KRD
    have KC := Lib.hid fun w' => k_check A3 c3 4 0 w' ⟨by omega, by omega⟩ x_c4
    have KC3 := Lib.hid fun w' => k_check A3 c3 3 160 w' ⟨by omega, by omega⟩ x_c3
    have KDF := Lib.hid fun gN cN gO cO w' (h : Draft w' gN 8 mN) (k : Draft w' gO 8 mN) => diff_any (some ⟨gN, 0, none⟩) 8 cN (some ⟨gO, 0, none⟩) 8 cO mN mN w' h.sl k.sl (by omega) (by omega)
    rw [(Mm.diff_nil (show mN.length = 8 * 128 from by decide +kernel) (show mN.length = 8 * 128 from by decide +kernel)).2 rfl] at KDF
    have KRM := Lib.hid fun AP cp w' (k : Sl w' 4 AP 2 (Ps l1)) => room_any AP 2 cp l1 w' k rfl l1_sml
    rw [x_room] at KRM
    go_upto_region 12 with (first
      | ((with_reducible refine wpList_load_blk (o := ⟨some 37, .load 24 (.tmp 1), _, _, _, none⟩) rfl _ _ rfl w1.heap.size 24 ([.slice A3 8 c3]) _ ?_ ?_ Try.underlying24 rfl memS ?_); rfl; exact b1)
      | ((with_reducible refine wpList_load_blk (o := ⟨some 38, .load 27 (.tmp 3), _, _, _, none⟩) rfl _ _ rfl w2.heap.size 27 ([.int .u32 256, .int .u32 4]) _ ?_ ?_ Try.underlying27 rfl ring_sz ?_); rfl; exact b3)
      | ((with_reducible refine wpList_load_blk (o := ⟨some 43, .load 24 (.tmp 1), _, _, _, none⟩) rfl _ _ rfl w1.heap.size 24 ([.slice A3 8 c3]) _ ?_ ?_ Try.underlying24 rfl memS ?_); rfl; exact b1)
      | ((with_reducible refine wpList_load_blk (o := ⟨some 44, .load 27 (.tmp 3), _, _, _, none⟩) rfl _ _ rfl w2.heap.size 27 ([.int .u32 256, .int .u32 4]) _ ?_ ?_ Try.underlying27 rfl ring_sz ?_); rfl; exact b3)
      | ((with_reducible refine wpList_load_blk (o := ⟨some 49, .load 24 (.tmp 1), _, _, _, none⟩) rfl _ _ rfl w1.heap.size 24 ([.slice A3 8 c3]) _ ?_ ?_ Try.underlying24 rfl memS ?_); rfl; exact b1)
      | ((with_reducible refine wpList_load_blk (o := ⟨some 50, .load 27 (.tmp 3), _, _, _, none⟩) rfl _ _ rfl w2.heap.size 27 ([.int .u32 256, .int .u32 4]) _ ?_ ?_ Try.underlying27 rfl ring_sz ?_); rfl; exact b3)
      | (go_at_call 14; (with_reducible refine (KF0.out _ s3).mono ?_); rintro e v4 ⟨rfl, l4⟩; replace b1 := b1.keep l4; replace b3 := b3.keep l4; replace s3 := s3.keep l4; replace lw := Later.trans_ lw l4)
      | (go_at_call 14; (with_reducible refine (KF2.out _ s3).mono ?_); rintro e v5 ⟨rfl, l5⟩; replace b1 := b1.keep l5; replace b3 := b3.keep l5; replace s3 := s3.keep l5; replace lw := Later.trans_ lw l5)
      | (go_at_call 15; (with_reducible refine (KT2.out gN cN _ dN).mono ?_); rintro e v8 ⟨gO, cO, AQ, mq, cq, rfl, _, _, _, dO, _, _, _, hql, l8⟩; obtain rfl : mq = 0 := hql.symm; clear hql; replace b1 := b1.keep l8; replace b3 := b3.keep l8; replace s3 := s3.keep l8; replace dN := dN.keep l8; replace sP := sP.keep l8; replace b8 := b8.keep l8; replace lw := Later.trans_ lw l8)
      | (go_at_call 15; (with_reducible refine (KT1.out _ s3).mono ?_); rintro e v6 ⟨gN, cN, AP, mp, cp, rfl, _, hN2, hN3, dN, _, hp2, sP, hpl, l6⟩; obtain rfl : mp = 2 := hpl.symm; clear hpl; replace b1 := b1.keep l6; replace b3 := b3.keep l6; replace s3 := s3.keep l6; replace lw := Later.trans_ lw l6)
      | ((with_reducible refine wpList_store_abs (o := ⟨none, .store 24 (.tmp 8) (.tmp 52), _, _, _, none⟩) rfl _ _ _ rfl v6.heap.size 24 ([.slice none 0 0]) ([.slice (some ⟨gN, 0, none⟩) 8 cN]) ?_ ?_ ?_ ?_ ?_ ?_ ?_); rfl; rfl; exact (Blk.new _ _ _ _ rfl); exact memS; rfl; exact (one1 rfl); intro v7 b8 ob8; have lb8 := Below.only (later1 v6 (.cells #[.slice none 0 0] 24)) ob8 (Nat.le_refl _); replace b1 := b1.keep lb8; replace b3 := b3.keep lb8; replace s3 := s3.keep lb8; replace dN := dN.keep lb8; replace sP := sP.keep lb8; replace lw := Later.trans_ lw lb8; clear lb8 ob8)
      | ((with_reducible refine wpList_load_blk (o := ⟨some 56, .load 24 (.tmp 8), _, _, _, none⟩) rfl _ _ rfl v6.heap.size 24 ([.slice (some ⟨gN, 0, none⟩) 8 cN]) _ ?_ ?_ Try.underlying24 rfl memS ?_); rfl; exact b8)
      | ((with_reducible refine wpList_load_blk (o := ⟨some 57, .load 27 (.tmp 3), _, _, _, none⟩) rfl _ _ rfl w2.heap.size 27 ([.int .u32 256, .int .u32 4]) _ ?_ ?_ Try.underlying27 rfl ring_sz ?_); rfl; exact b3)
      | ((with_reducible refine wpList_store_abs (o := ⟨none, .store 24 (.tmp 11) (.tmp 59), _, _, _, none⟩) rfl _ _ _ rfl v8.heap.size 24 ([.slice none 0 0]) ([.slice (some ⟨gO, 0, none⟩) 8 cO]) ?_ ?_ ?_ ?_ ?_ ?_ ?_); rfl; rfl; exact (Blk.new _ _ _ _ rfl); exact memS; rfl; exact (one1 rfl); intro v9 b11 ob11; have lb11 := Below.only (later1 v8 (.cells #[.slice none 0 0] 24)) ob11 (Nat.le_refl _); replace b1 := b1.keep lb11; replace b3 := b3.keep lb11; replace s3 := s3.keep lb11; replace dN := dN.keep lb11; replace sP := sP.keep lb11; replace b8 := b8.keep lb11; replace dO := dO.keep lb11; replace lw := Later.trans_ lw lb11; clear lb11 ob11)
      | ((with_reducible refine wpList_load_blk (o := ⟨some 63, .load 24 (.tmp 8), _, _, _, none⟩) rfl _ _ rfl v6.heap.size 24 ([.slice (some ⟨gN, 0, none⟩) 8 cN]) _ ?_ ?_ Try.underlying24 rfl memS ?_); rfl; exact b8)
      | (go_at_call 24; (with_reducible refine (KSC.out gN cN AP cp _ dN sP).mono ?_); rintro e v10 ⟨gP, cP, rfl, _, _, _, dP, l10⟩; replace b1 := b1.keep l10; replace b3 := b3.keep l10; replace s3 := s3.keep l10; replace dN := dN.keep l10; replace sP := sP.keep l10; replace b8 := b8.keep l10; replace dO := dO.keep l10; replace b11 := b11.keep l10; replace lw := Later.trans_ lw l10)
      | ((with_reducible refine wpList_store_abs (o := ⟨none, .store 24 (.tmp 14) (.tmp 66), _, _, _, none⟩) rfl _ _ _ rfl v10.heap.size 24 ([.slice none 0 0]) ([.slice (some ⟨gP, 0, none⟩) 8 cP]) ?_ ?_ ?_ ?_ ?_ ?_ ?_); rfl; rfl; exact (Blk.new _ _ _ _ rfl); exact memS; rfl; exact (one1 rfl); intro v11 b14 ob14; have lb14 := Below.only (later1 v10 (.cells #[.slice none 0 0] 24)) ob14 (Nat.le_refl _); replace b1 := b1.keep lb14; replace b3 := b3.keep lb14; replace s3 := s3.keep lb14; replace dN := dN.keep lb14; replace sP := sP.keep lb14; replace b8 := b8.keep lb14; replace dO := dO.keep lb14; replace b11 := b11.keep lb14; replace dP := dP.keep lb14; replace lw := Later.trans_ lw lb14; clear lb14 ob14)
      | ((with_reducible refine wpList_load_blk (o := ⟨some 69, .load 24 (.tmp 14), _, _, _, none⟩) rfl _ _ rfl v10.heap.size 24 ([.slice (some ⟨gP, 0, none⟩) 8 cP]) _ ?_ ?_ Try.underlying24 rfl memS ?_); rfl; exact b14)
      | (go_at_call 37; (with_reducible refine (KRD.out gP cP _ dP).mono ?_); rintro e v12 ⟨rfl, l12⟩; replace b1 := b1.keep l12; replace b3 := b3.keep l12; replace s3 := s3.keep l12; replace dN := dN.keep l12; replace sP := sP.keep l12; replace b8 := b8.keep l12; replace dO := dO.keep l12; replace b11 := b11.keep l12; replace dP := dP.keep l12; replace b14 := b14.keep l12; replace lw := Later.trans_ lw l12)
      | ((with_reducible refine wpList_load_g (o := ⟨some 76, .load 24 (.tmp 1), _, _, _, _⟩) _ _ rfl w1.heap.size 24 ([.slice A3 8 c3]) _ ?_ ?_ ?_ Try.underlying24 ?_ memS ?_); rfl; rfl; exact b1; rfl)
      | ((with_reducible refine wpList_load_g (o := ⟨some 77, .load 27 (.tmp 3), _, _, _, _⟩) _ _ rfl w2.heap.size 27 ([.int .u32 256, .int .u32 4]) _ ?_ ?_ ?_ Try.underlying27 ?_ ring_sz ?_); rfl; rfl; exact b3; rfl)
      | (go_at_call 11; (with_reducible refine (KC.out _).mono ?_); rintro e v13 ⟨rfl, l13⟩; replace b1 := b1.keep l13; replace b3 := b3.keep l13; replace s3 := s3.keep l13; replace dN := dN.keep l13; replace sP := sP.keep l13; replace b8 := b8.keep l13; replace dO := dO.keep l13; replace b11 := b11.keep l13; replace dP := dP.keep l13; replace b14 := b14.keep l13; replace lw := Later.trans_ lw l13)
      | ((with_reducible refine wpList_load_g (o := ⟨some 106, .load 24 (.tmp 8), _, _, _, _⟩) _ _ rfl v6.heap.size 24 ([.slice (some ⟨gN, 0, none⟩) 8 cN]) _ ?_ ?_ ?_ Try.underlying24 ?_ memS ?_); rfl; rfl; exact b8; rfl)
      | ((with_reducible refine wpList_load_g (o := ⟨some 107, .load 24 (.tmp 11), _, _, _, _⟩) _ _ rfl v8.heap.size 24 ([.slice (some ⟨gO, 0, none⟩) 8 cO]) _ ?_ ?_ ?_ Try.underlying24 ?_ memS ?_); rfl; rfl; exact b11; rfl)
      | (go_at_call 33; (with_reducible refine (KDF.out gN cN gO cO _ dN dO).mono ?_); rintro e v14 ⟨AD, cD, rfl, _, _, _, l14⟩; replace b1 := b1.keep l14; replace b3 := b3.keep l14; replace s3 := s3.keep l14; replace dN := dN.keep l14; replace sP := sP.keep l14; replace b8 := b8.keep l14; replace dO := dO.keep l14; replace b11 := b11.keep l14; replace dP := dP.keep l14; replace b14 := b14.keep l14; replace lw := Later.trans_ lw l14)
      | (go_at_call 28; (with_reducible refine (KRM.out AP cp _ sP).mono ?_); rintro e v15 ⟨rfl, l15⟩; replace b1 := b1.keep l15; replace b3 := b3.keep l15; replace s3 := s3.keep l15; replace dN := dN.keep l15; replace sP := sP.keep l15; replace b8 := b8.keep l15; replace dO := dO.keep l15; replace b11 := b11.keep l15; replace dP := dP.keep l15; replace b14 := b14.keep l15; replace lw := Later.trans_ lw l15))
    have KDS := Lib.hid fun w' (h : Sl w' 128 A3 8 (U m2)) g (hg : Blk w' g 25 (N32 [600, 5, 259, 1])) => (show Calls Try.prog 36 #[.agg #[.slice A3 8 c3], .agg #[.int .u32 256, .int .u32 4], .int .i64 2, .slice (some ⟨g, 0, none⟩) 4 4] w' (GotV 8 mX w') from k_ds A3 c3 m2 w' h m2_bs 2 (by omega) (by omega) hA3.out.1 hA3.out.2 600 5 259 1 (e4 rfl) g hg)
    have KTK := Lib.hid fun A5 c5 w' (h : Sl w' 128 A5 8 (U mX)) => k_take A5 c5 mX w' h mX_bs 1 (by omega) (by omega)
    rw [x_xe] at KTK
    go_cut [18, 20] (fun q18 q20 wx => ∃ G g cx, q18 = .pointer (some ⟨G, 0, none⟩) ∧ q20 = .int .i64 163 ∧ Blk wx G 24 [.slice (some ⟨g, 0, none⟩) 8 cx] ∧ Draft wx g 8 (Rg.takM 1024 mX 256 4 1) ∧ Later v15 wx)
    case first => as_aux_lemma =>
      replace b1 := b1.drew
      replace b3 := b3.drew
      replace s3 : Sl v15.drew 128 A3 8 (U m2) := s3
      have lx : Later v15 v15.drew := (later0 _).drew
      have hsz1 : w1.heap.size < v15.heap.size := b1.lt
      have hsz3 : w2.heap.size < v15.heap.size := b3.lt
      refine wp_region_held_drew (S := fun w' => World.rangeAt w' w1.heap.size 0 [.slice A3 8 c3] ∧ World.rangeAt w' w2.heap.size 0 [.int .u32 256, .int .u32 4]) (by kernel_rfl) ⟨b1.range 0 1, b3.range 0 2⟩ (fun hHeld => ?_)
      refine wpAnyH_take (i := 0) (oi := ⟨some 126, .load 24 (.tmp 1), _, _, _, none⟩) (v := .agg ([.slice A3 8 c3]).toArray) rfl (by kernel_rfl) (by kernel_rfl) (by kernel_rfl) (fun _ _ _ h => h) (yieldsIf_load_mid (by rfl) _ _ rfl w1.heap.size 0 rfl ([.slice A3 8 c3]) _ (fun wz hSw => hSw.1) Try.underlying24 rfl memS) hHeld ?_
      simp only [Act.put, List.setIfInBounds_toArray, List.set_cons_zero, List.set_cons_succ]
      refine wpAnyH_take (i := 1) (oi := ⟨some 127, .load 27 (.tmp 3), _, _, _, none⟩) (v := .agg ([.int .u32 256, .int .u32 4]).toArray) rfl (by kernel_rfl) (by kernel_rfl) (by kernel_rfl) (fun _ _ _ h => h) (yieldsIf_load_mid (by rfl) _ _ rfl w2.heap.size 0 rfl ([.int .u32 256, .int .u32 4]) _ (fun wz hSw => hSw.2) Try.underlying27 rfl ring_sz) hHeld ?_
      simp only [Act.put, List.setIfInBounds_toArray, List.set_cons_zero, List.set_cons_succ]
      refine wpAnyH_take (i := 4) (oi := ⟨some 130, .load 27 (.tmp 3), _, _, _, none⟩) (v := .agg ([.int .u32 256, .int .u32 4]).toArray) rfl (by kernel_rfl) (by kernel_rfl) (by kernel_rfl) (fun _ _ _ h => h) (yieldsIf_load_mid (by rfl) _ _ rfl w2.heap.size 0 rfl ([.int .u32 256, .int .u32 4]) _ (fun wz hSw => hSw.2) Try.underlying27 rfl ring_sz) hHeld ?_
      simp only [Act.put, List.setIfInBounds_toArray, List.set_cons_zero, List.set_cons_succ]
      refine wpAnyH_ready (rs := [2, 10]) (by kernel_rfl) (by simp) (AllReadyH.cons (o := ⟨some 128, .buildSlice 110 4 #[(0, .const (.int .u32 600)), (1, .const (.int .u32 5)), (2, .const (.int .u32 259)), (3, .const (.int .u32 1))], _, _, _, none⟩) rfl (fun K' hK => ?_) (AllReadyH.cons (o := ⟨some 18, .alloc 24, _, _, _, none⟩) rfl (fun K' hK => ?_) AllReadyH.nil))
      · refine wp_bs _ _ _ #[(0, .int .u32 600), (1, .int .u32 5), (2, .int .u32 259), (3, .int .u32 1)] _ rfl rfl (run_w4 600 5 259 1 _) ?_
        have q1 : Blk _ v15.heap.size 25 (N32 [600, 5, 259, 1]) := Blk.new' v15.drew v15.heap.size 25 (N32 [600, 5, 259, 1]).toArray (N32 [600, 5, 259, 1]) (by simp) rfl
        replace b1 := b1.keep (later1 v15.drew (.cells (N32 [600, 5, 259, 1]).toArray 25))
        replace b3 := b3.keep (later1 v15.drew (.cells (N32 [600, 5, 259, 1]).toArray 25))
        replace s3 := s3.keep (later1 v15.drew (.cells (N32 [600, 5, 259, 1]).toArray 25))
        replace lx := Later.trans_ lx (later1 v15.drew (.cells (N32 [600, 5, 259, 1]).toArray 25))
        refine hK.out _ _ ⟨b1.range 0 1, b3.range 0 2⟩ (fun hHeld => ?_)
        clear hK K'
        try simp only [Act.put, List.setIfInBounds_toArray, List.set_cons_zero, List.set_cons_succ]
        refine wpAnyH_ready (rs := [3, 10]) (by kernel_rfl) (by simp) (AllReadyH.cons (o := ⟨some 129, .call { callee := .value (.func 36), args := #[.tmp 126, .tmp 127, .const (.int .i64 2), .tmp 128], argTypes := #[24, 27, 3, 110] }, _, _, _, none⟩) rfl (fun K' hK => ?_) (AllReadyH.cons (o := ⟨some 18, .alloc 24, _, _, _, none⟩) rfl (fun K' hK => ?_) AllReadyH.nil))
        · go_simp
          refine (KDS.out _ s3 _ q1).mono ?_
          rintro e u1 ⟨A5, c5, rfl, v1, v2, s5, l3⟩
          clear s3 q1
          replace b1 := b1.keep l3
          replace b3 := b3.keep l3
          replace lx := Later.trans_ lx l3
          have hd1 := b1.lt
          have hd3 := b3.lt
          refine hK.out _ _ ⟨b1.range 0 1, b3.range 0 2⟩ (fun hHeld => ?_)
          clear hK K'
          try simp only [Act.put, List.setIfInBounds_toArray, List.set_cons_zero, List.set_cons_succ]
          refine wpAnyH_ready (rs := [5, 10]) (by kernel_rfl) (by simp) (AllReadyH.cons (o := ⟨some 131, .call { callee := .value (.func 15), args := #[.tmp 129, .tmp 130, .const (.int .i64 1)], argTypes := #[24, 27, 3] }, _, _, _, none⟩) rfl (fun K' hK => ?_) (AllReadyH.cons (o := ⟨some 18, .alloc 24, _, _, _, none⟩) rfl (fun K' hK => ?_) AllReadyH.nil))
          · go_simp
            refine (KTK.out A5 c5 _ s5).mono ?_
            rintro e u3 ⟨gX, cX, AX, nX, pX, rfl, hx1, hx2, hx3, dX, _, _, _, _, l6⟩
            clear s5
            have hgb := dX.lt
            replace b1 := b1.keep l6
            replace b3 := b3.keep l6
            replace lx := Later.trans_ lx l6
            have hk1 := b1.lt
            have hk3 := b3.lt
            refine hK.out _ _ ⟨b1.range 0 1, b3.range 0 2⟩ (fun hHeld => ?_)
            clear hK K'
            try simp only [Act.put, List.setIfInBounds_toArray, List.set_cons_zero, List.set_cons_succ]
            refine wpAnyH_take (i := 6) (oi := ⟨some 125, .move (.tmp 131), _, _, _, none⟩) (v := .tuple #[.agg #[.slice (some ⟨gX, 0, none⟩) 8 cX], .slice AX nX pX, .int .i64 163]) rfl (by kernel_rfl) (by kernel_rfl) (by kernel_rfl) (fun _ _ _ h => h) (Or.inl ⟨by rfl, fun _ _ => rfl⟩) hHeld ?_
            simp only [Act.put, List.setIfInBounds_toArray, List.set_cons_zero, List.set_cons_succ]
            refine wpAnyH_take (i := 7) (oi := ⟨some 132, .extract (.tmp 125) 0, _, _, _, none⟩) (v := .agg #[.slice (some ⟨gX, 0, none⟩) 8 cX]) rfl (by kernel_rfl) (by kernel_rfl) (by kernel_rfl) (fun _ _ _ h => h) (Or.inl ⟨by rfl, fun w _ => by go_simp⟩) hHeld ?_
            simp only [Act.put, List.setIfInBounds_toArray, List.set_cons_zero, List.set_cons_succ]
            refine wpAnyH_take (i := 8) (oi := ⟨some 133, .extract (.tmp 125) 1, _, _, _, none⟩) (v := .slice AX nX pX) rfl (by kernel_rfl) (by kernel_rfl) (by kernel_rfl) (fun _ _ _ h => h) (Or.inl ⟨by rfl, fun w _ => by go_simp⟩) hHeld ?_
            simp only [Act.put, List.setIfInBounds_toArray, List.set_cons_zero, List.set_cons_succ]
            refine wpAnyH_take (i := 9) (oi := ⟨some 134, .extract (.tmp 125) 2, _, _, _, none⟩) (v := .int .i64 163) rfl (by kernel_rfl) (by kernel_rfl) (by kernel_rfl) (fun _ _ _ h => h) (Or.inl ⟨by rfl, fun w _ => by go_simp⟩) hHeld ?_
            simp only [Act.put, List.setIfInBounds_toArray, List.set_cons_zero, List.set_cons_succ]
            refine wpAnyH_ready (rs := [10]) (by kernel_rfl) (by simp) (AllReadyH.cons (o := ⟨some 18, .alloc 24, _, _, _, none⟩) rfl (fun K' hK => ?_) AllReadyH.nil)
            have hbx := lx.size
            go_simp
            have bb : Blk _ u3.heap.size 24 [.slice none 0 0] := Blk.new' u3 u3.heap.size 24 #[.slice none 0 0] [.slice none 0 0] (by simp) rfl
            replace b1 := b1.keep (later1 u3 (.cells #[.slice none 0 0] 24))
            replace b3 := b3.keep (later1 u3 (.cells #[.slice none 0 0] 24))
            replace dX := dX.keep (later1 u3 (.cells #[.slice none 0 0] 24))
            replace lx := Later.trans_ lx (later1 u3 (.cells #[.slice none 0 0] 24))
            refine hK.out _ _ ⟨b1.range 0 1, b3.range 0 2⟩ (fun hHeld => ?_)
            clear hK K'
            try simp only [Act.put, List.setIfInBounds_toArray, List.set_cons_zero, List.set_cons_succ]
            refine wpAnyH_ready (rs := [11]) (by kernel_rfl) (by simp) (AllReadyH.cons (o := ⟨none, .store 24 (.tmp 18) (.tmp 132), _, _, _, none⟩) rfl (fun K' hK => ?_) AllReadyH.nil)
            refine wp_store_blk 24 _ _ rfl u3.heap.size 24 [.slice none 0 0] [.slice (some ⟨gX, 0, none⟩) 8 cX] rfl rfl bb memS rfl (one1 rfl) ?_
            intro wq bq oq
            have hnb : gX ≠ u3.heap.size := by first | exact Nat.ne_of_gt hgb | exact Nat.ne_of_lt hgb
            replace dX := dX.only oq hnb
            replace b1 := b1.only oq (by omega)
            replace b3 := b3.only oq (by omega)
            replace lx := Below.only lx oq (by omega)
            refine hK.out _ _ ⟨b1.range 0 1, b3.range 0 2⟩ (fun hHeld => ?_)
            clear hK K'
            try simp only [Act.put]
            refine wpAnyH_take (i := 12) (oi := ⟨some 19, .assign (.tmp 133), _, _, _, none⟩) (v := .slice AX nX pX) rfl (by kernel_rfl) (by kernel_rfl) (by kernel_rfl) (fun _ _ _ h => h) (Or.inl ⟨by rfl, fun _ _ => rfl⟩) hHeld ?_
            simp only [Act.put, List.setIfInBounds_toArray, List.set_cons_zero, List.set_cons_succ]
            refine wpAnyH_take (i := 13) (oi := ⟨some 20, .assign (.tmp 134), _, _, _, none⟩) (v := .int .i64 163) rfl (by kernel_rfl) (by kernel_rfl) (by kernel_rfl) (fun _ _ _ h => h) (Or.inl ⟨by rfl, fun _ _ => rfl⟩) hHeld ?_
            simp only [Act.put, List.setIfInBounds_toArray, List.set_cons_zero, List.set_cons_succ]
            refine wpAnyH_done (by kernel_rfl) ?_ _
            clear hHeld
            go_wp2
            go_meet
            exact ⟨_, gX, cX, rfl, rfl, bq, dX, lx⟩
          · have hbx := lx.size
            go_simp
            have bb : Blk _ u1.heap.size 24 [.slice none 0 0] := Blk.new' u1 u1.heap.size 24 #[.slice none 0 0] [.slice none 0 0] (by simp) rfl
            replace b1 := b1.keep (later1 u1 (.cells #[.slice none 0 0] 24))
            replace b3 := b3.keep (later1 u1 (.cells #[.slice none 0 0] 24))
            replace s5 := s5.keep (later1 u1 (.cells #[.slice none 0 0] 24))
            replace lx := Later.trans_ lx (later1 u1 (.cells #[.slice none 0 0] 24))
            refine hK.out _ _ ⟨b1.range 0 1, b3.range 0 2⟩ (fun hHeld => ?_)
            clear hK K'
            try simp only [Act.put, List.setIfInBounds_toArray, List.set_cons_zero, List.set_cons_succ]
            refine wpAnyH_ready (rs := [5]) (by kernel_rfl) (by simp) (AllReadyH.cons (o := ⟨some 131, .call { callee := .value (.func 15), args := #[.tmp 129, .tmp 130, .const (.int .i64 1)], argTypes := #[24, 27, 3] }, _, _, _, none⟩) rfl (fun K' hK => ?_) AllReadyH.nil)
            go_simp
            refine (KTK.out A5 c5 _ s5).mono ?_
            rintro e u3 ⟨gX, cX, AX, nX, pX, rfl, hx1, hx2, hx3, dX, _, _, _, _, l6⟩
            clear s5
            have hgb := Nat.lt_of_lt_of_le bb.lt hx1
            replace b1 := b1.keep l6
            replace b3 := b3.keep l6
            replace bb := bb.keep l6
            replace lx := Later.trans_ lx l6
            have hk1 := b1.lt
            have hk3 := b3.lt
            refine hK.out _ _ ⟨b1.range 0 1, b3.range 0 2⟩ (fun hHeld => ?_)
            clear hK K'
            try simp only [Act.put, List.setIfInBounds_toArray, List.set_cons_zero, List.set_cons_succ]
            refine wpAnyH_take (i := 6) (oi := ⟨some 125, .move (.tmp 131), _, _, _, none⟩) (v := .tuple #[.agg #[.slice (some ⟨gX, 0, none⟩) 8 cX], .slice AX nX pX, .int .i64 163]) rfl (by kernel_rfl) (by kernel_rfl) (by kernel_rfl) (fun _ _ _ h => h) (Or.inl ⟨by rfl, fun _ _ => rfl⟩) hHeld ?_
            simp only [Act.put, List.setIfInBounds_toArray, List.set_cons_zero, List.set_cons_succ]
            refine wpAnyH_take (i := 7) (oi := ⟨some 132, .extract (.tmp 125) 0, _, _, _, none⟩) (v := .agg #[.slice (some ⟨gX, 0, none⟩) 8 cX]) rfl (by kernel_rfl) (by kernel_rfl) (by kernel_rfl) (fun _ _ _ h => h) (Or.inl ⟨by rfl, fun w _ => by go_simp⟩) hHeld ?_
            simp only [Act.put, List.setIfInBounds_toArray, List.set_cons_zero, List.set_cons_succ]
            refine wpAnyH_take (i := 8) (oi := ⟨some 133, .extract (.tmp 125) 1, _, _, _, none⟩) (v := .slice AX nX pX) rfl (by kernel_rfl) (by kernel_rfl) (by kernel_rfl) (fun _ _ _ h => h) (Or.inl ⟨by rfl, fun w _ => by go_simp⟩) hHeld ?_
            simp only [Act.put, List.setIfInBounds_toArray, List.set_cons_zero, List.set_cons_succ]
            refine wpAnyH_take (i := 9) (oi := ⟨some 134, .extract (.tmp 125) 2, _, _, _, none⟩) (v := .int .i64 163) rfl (by kernel_rfl) (by kernel_rfl) (by kernel_rfl) (fun _ _ _ h => h) (Or.inl ⟨by rfl, fun w _ => by go_simp⟩) hHeld ?_
            simp only [Act.put, List.setIfInBounds_toArray, List.set_cons_zero, List.set_cons_succ]
            refine wpAnyH_ready (rs := [11]) (by kernel_rfl) (by simp) (AllReadyH.cons (o := ⟨none, .store 24 (.tmp 18) (.tmp 132), _, _, _, none⟩) rfl (fun K' hK => ?_) AllReadyH.nil)
            refine wp_store_blk 24 _ _ rfl u1.heap.size 24 [.slice none 0 0] [.slice (some ⟨gX, 0, none⟩) 8 cX] rfl rfl bb memS rfl (one1 rfl) ?_
            intro wq bq oq
            have hnb : gX ≠ u1.heap.size := by first | exact Nat.ne_of_gt hgb | exact Nat.ne_of_lt hgb
            replace dX := dX.only oq hnb
            replace b1 := b1.only oq (by omega)
            replace b3 := b3.only oq (by omega)
            replace lx := Below.only lx oq (by omega)
            refine hK.out _ _ ⟨b1.range 0 1, b3.range 0 2⟩ (fun hHeld => ?_)
            clear hK K'
            try simp only [Act.put]
            refine wpAnyH_take (i := 12) (oi := ⟨some 19, .assign (.tmp 133), _, _, _, none⟩) (v := .slice AX nX pX) rfl (by kernel_rfl) (by kernel_rfl) (by kernel_rfl) (fun _ _ _ h => h) (Or.inl ⟨by rfl, fun _ _ => rfl⟩) hHeld ?_
            simp only [Act.put, List.setIfInBounds_toArray, List.set_cons_zero, List.set_cons_succ]
            refine wpAnyH_take (i := 13) (oi := ⟨some 20, .assign (.tmp 134), _, _, _, none⟩) (v := .int .i64 163) rfl (by kernel_rfl) (by kernel_rfl) (by kernel_rfl) (fun _ _ _ h => h) (Or.inl ⟨by rfl, fun _ _ => rfl⟩) hHeld ?_
            simp only [Act.put, List.setIfInBounds_toArray, List.set_cons_zero, List.set_cons_succ]
            refine wpAnyH_done (by kernel_rfl) ?_ _
            clear hHeld
            go_wp2
            go_meet
            exact ⟨_, gX, cX, rfl, rfl, bq, dX, lx⟩
        · go_simp
          have bb : Blk _ (v15.heap.size + 1) 24 [.slice none 0 0] := Blk.new' (v15.drew.alloc (.cells (N32 [600, 5, 259, 1]).toArray 25)) (v15.heap.size + 1) 24 #[.slice none 0 0] [.slice none 0 0] (by simp) rfl
          replace b1 := b1.keep (later1 (v15.drew.alloc (.cells (N32 [600, 5, 259, 1]).toArray 25)) (.cells #[.slice none 0 0] 24))
          replace b3 := b3.keep (later1 (v15.drew.alloc (.cells (N32 [600, 5, 259, 1]).toArray 25)) (.cells #[.slice none 0 0] 24))
          replace s3 := s3.keep (later1 (v15.drew.alloc (.cells (N32 [600, 5, 259, 1]).toArray 25)) (.cells #[.slice none 0 0] 24))
          replace q1 := q1.keep (later1 (v15.drew.alloc (.cells (N32 [600, 5, 259, 1]).toArray 25)) (.cells #[.slice none 0 0] 24))
          replace lx := Later.trans_ lx (later1 (v15.drew.alloc (.cells (N32 [600, 5, 259, 1]).toArray 25)) (.cells #[.slice none 0 0] 24))
          refine hK.out _ _ ⟨b1.range 0 1, b3.range 0 2⟩ (fun hHeld => ?_)
          clear hK K'
          try simp only [Act.put, List.setIfInBounds_toArray, List.set_cons_zero, List.set_cons_succ]
          refine wpAnyH_ready (rs := [3]) (by kernel_rfl) (by simp) (AllReadyH.cons (o := ⟨some 129, .call { callee := .value (.func 36), args := #[.tmp 126, .tmp 127, .const (.int .i64 2), .tmp 128], argTypes := #[24, 27, 3, 110] }, _, _, _, none⟩) rfl (fun K' hK => ?_) AllReadyH.nil)
          go_simp
          refine (KDS.out _ s3 _ q1).mono ?_
          rintro e u1 ⟨A5, c5, rfl, v1, v2, s5, l3⟩
          clear s3 q1
          replace b1 := b1.keep l3
          replace b3 := b3.keep l3
          replace bb := bb.keep l3
          replace lx := Later.trans_ lx l3
          have hd1 := b1.lt
          have hd3 := b3.lt
          refine hK.out _ _ ⟨b1.range 0 1, b3.range 0 2⟩ (fun hHeld => ?_)
          clear hK K'
          try simp only [Act.put, List.setIfInBounds_toArray, List.set_cons_zero, List.set_cons_succ]
          refine wpAnyH_ready (rs := [5]) (by kernel_rfl) (by simp) (AllReadyH.cons (o := ⟨some 131, .call { callee := .value (.func 15), args := #[.tmp 129, .tmp 130, .const (.int .i64 1)], argTypes := #[24, 27, 3] }, _, _, _, none⟩) rfl (fun K' hK => ?_) AllReadyH.nil)
          go_simp
          refine (KTK.out A5 c5 _ s5).mono ?_
          rintro e u3 ⟨gX, cX, AX, nX, pX, rfl, hx1, hx2, hx3, dX, _, _, _, _, l6⟩
          clear s5
          have hgb := Nat.lt_of_lt_of_le bb.lt hx1
          replace b1 := b1.keep l6
          replace b3 := b3.keep l6
          replace bb := bb.keep l6
          replace lx := Later.trans_ lx l6
          have hk1 := b1.lt
          have hk3 := b3.lt
          refine hK.out _ _ ⟨b1.range 0 1, b3.range 0 2⟩ (fun hHeld => ?_)
          clear hK K'
          try simp only [Act.put, List.setIfInBounds_toArray, List.set_cons_zero, List.set_cons_succ]
          refine wpAnyH_take (i := 6) (oi := ⟨some 125, .move (.tmp 131), _, _, _, none⟩) (v := .tuple #[.agg #[.slice (some ⟨gX, 0, none⟩) 8 cX], .slice AX nX pX, .int .i64 163]) rfl (by kernel_rfl) (by kernel_rfl) (by kernel_rfl) (fun _ _ _ h => h) (Or.inl ⟨by rfl, fun _ _ => rfl⟩) hHeld ?_
          simp only [Act.put, List.setIfInBounds_toArray, List.set_cons_zero, List.set_cons_succ]
          refine wpAnyH_take (i := 7) (oi := ⟨some 132, .extract (.tmp 125) 0, _, _, _, none⟩) (v := .agg #[.slice (some ⟨gX, 0, none⟩) 8 cX]) rfl (by kernel_rfl) (by kernel_rfl) (by kernel_rfl) (fun _ _ _ h => h) (Or.inl ⟨by rfl, fun w _ => by go_simp⟩) hHeld ?_
          simp only [Act.put, List.setIfInBounds_toArray, List.set_cons_zero, List.set_cons_succ]
          refine wpAnyH_take (i := 8) (oi := ⟨some 133, .extract (.tmp 125) 1, _, _, _, none⟩) (v := .slice AX nX pX) rfl (by kernel_rfl) (by kernel_rfl) (by kernel_rfl) (fun _ _ _ h => h) (Or.inl ⟨by rfl, fun w _ => by go_simp⟩) hHeld ?_
          simp only [Act.put, List.setIfInBounds_toArray, List.set_cons_zero, List.set_cons_succ]
          refine wpAnyH_take (i := 9) (oi := ⟨some 134, .extract (.tmp 125) 2, _, _, _, none⟩) (v := .int .i64 163) rfl (by kernel_rfl) (by kernel_rfl) (by kernel_rfl) (fun _ _ _ h => h) (Or.inl ⟨by rfl, fun w _ => by go_simp⟩) hHeld ?_
          simp only [Act.put, List.setIfInBounds_toArray, List.set_cons_zero, List.set_cons_succ]
          refine wpAnyH_ready (rs := [11]) (by kernel_rfl) (by simp) (AllReadyH.cons (o := ⟨none, .store 24 (.tmp 18) (.tmp 132), _, _, _, none⟩) rfl (fun K' hK => ?_) AllReadyH.nil)
          refine wp_store_blk 24 _ _ rfl (v15.heap.size + 1) 24 [.slice none 0 0] [.slice (some ⟨gX, 0, none⟩) 8 cX] rfl rfl bb memS rfl (one1 rfl) ?_
          intro wq bq oq
          have hnb : gX ≠ (v15.heap.size + 1) := by first | exact Nat.ne_of_gt hgb | exact Nat.ne_of_lt hgb
          replace dX := dX.only oq hnb
          replace b1 := b1.only oq (by omega)
          replace b3 := b3.only oq (by omega)
          replace lx := Below.only lx oq (by omega)
          refine hK.out _ _ ⟨b1.range 0 1, b3.range 0 2⟩ (fun hHeld => ?_)
          clear hK K'
          try simp only [Act.put]
          refine wpAnyH_take (i := 12) (oi := ⟨some 19, .assign (.tmp 133), _, _, _, none⟩) (v := .slice AX nX pX) rfl (by kernel_rfl) (by kernel_rfl) (by kernel_rfl) (fun _ _ _ h => h) (Or.inl ⟨by rfl, fun _ _ => rfl⟩) hHeld ?_
          simp only [Act.put, List.setIfInBounds_toArray, List.set_cons_zero, List.set_cons_succ]
          refine wpAnyH_take (i := 13) (oi := ⟨some 20, .assign (.tmp 134), _, _, _, none⟩) (v := .int .i64 163) rfl (by kernel_rfl) (by kernel_rfl) (by kernel_rfl) (fun _ _ _ h => h) (Or.inl ⟨by rfl, fun _ _ => rfl⟩) hHeld ?_
          simp only [Act.put, List.setIfInBounds_toArray, List.set_cons_zero, List.set_cons_succ]
          refine wpAnyH_done (by kernel_rfl) ?_ _
          clear hHeld
          go_wp2
          go_meet
          exact ⟨_, gX, cX, rfl, rfl, bq, dX, lx⟩
      · go_simp
        have bb : Blk _ v15.heap.size 24 [.slice none 0 0] := Blk.new' v15.drew v15.heap.size 24 #[.slice none 0 0] [.slice none 0 0] (by simp) rfl
        replace b1 := b1.keep (later1 v15.drew (.cells #[.slice none 0 0] 24))
        replace b3 := b3.keep (later1 v15.drew (.cells #[.slice none 0 0] 24))
        replace s3 := s3.keep (later1 v15.drew (.cells #[.slice none 0 0] 24))
        replace lx := Later.trans_ lx (later1 v15.drew (.cells #[.slice none 0 0] 24))
        refine hK.out _ _ ⟨b1.range 0 1, b3.range 0 2⟩ (fun hHeld => ?_)
        clear hK K'
        try simp only [Act.put, List.setIfInBounds_toArray, List.set_cons_zero, List.set_cons_succ]
        refine wpAnyH_ready (rs := [2]) (by kernel_rfl) (by simp) (AllReadyH.cons (o := ⟨some 128, .buildSlice 110 4 #[(0, .const (.int .u32 600)), (1, .const (.int .u32 5)), (2, .const (.int .u32 259)), (3, .const (.int .u32 1))], _, _, _, none⟩) rfl (fun K' hK => ?_) AllReadyH.nil)
        refine wp_bs _ _ _ #[(0, .int .u32 600), (1, .int .u32 5), (2, .int .u32 259), (3, .int .u32 1)] _ rfl rfl (run_w4 600 5 259 1 _) ?_
        have q1 : Blk _ (v15.heap.size + 1) 25 (N32 [600, 5, 259, 1]) := Blk.new' (v15.drew.alloc (.cells #[.slice none 0 0] 24)) (v15.heap.size + 1) 25 (N32 [600, 5, 259, 1]).toArray (N32 [600, 5, 259, 1]) (by simp) rfl
        replace b1 := b1.keep (later1 (v15.drew.alloc (.cells #[.slice none 0 0] 24)) (.cells (N32 [600, 5, 259, 1]).toArray 25))
        replace b3 := b3.keep (later1 (v15.drew.alloc (.cells #[.slice none 0 0] 24)) (.cells (N32 [600, 5, 259, 1]).toArray 25))
        replace s3 := s3.keep (later1 (v15.drew.alloc (.cells #[.slice none 0 0] 24)) (.cells (N32 [600, 5, 259, 1]).toArray 25))
        replace bb := bb.keep (later1 (v15.drew.alloc (.cells #[.slice none 0 0] 24)) (.cells (N32 [600, 5, 259, 1]).toArray 25))
        replace lx := Later.trans_ lx (later1 (v15.drew.alloc (.cells #[.slice none 0 0] 24)) (.cells (N32 [600, 5, 259, 1]).toArray 25))
        refine hK.out _ _ ⟨b1.range 0 1, b3.range 0 2⟩ (fun hHeld => ?_)
        clear hK K'
        try simp only [Act.put, List.setIfInBounds_toArray, List.set_cons_zero, List.set_cons_succ]
        refine wpAnyH_ready (rs := [3]) (by kernel_rfl) (by simp) (AllReadyH.cons (o := ⟨some 129, .call { callee := .value (.func 36), args := #[.tmp 126, .tmp 127, .const (.int .i64 2), .tmp 128], argTypes := #[24, 27, 3, 110] }, _, _, _, none⟩) rfl (fun K' hK => ?_) AllReadyH.nil)
        go_simp
        refine (KDS.out _ s3 _ q1).mono ?_
        rintro e u1 ⟨A5, c5, rfl, v1, v2, s5, l3⟩
        clear s3 q1
        replace b1 := b1.keep l3
        replace b3 := b3.keep l3
        replace bb := bb.keep l3
        replace lx := Later.trans_ lx l3
        have hd1 := b1.lt
        have hd3 := b3.lt
        refine hK.out _ _ ⟨b1.range 0 1, b3.range 0 2⟩ (fun hHeld => ?_)
        clear hK K'
        try simp only [Act.put, List.setIfInBounds_toArray, List.set_cons_zero, List.set_cons_succ]
        refine wpAnyH_ready (rs := [5]) (by kernel_rfl) (by simp) (AllReadyH.cons (o := ⟨some 131, .call { callee := .value (.func 15), args := #[.tmp 129, .tmp 130, .const (.int .i64 1)], argTypes := #[24, 27, 3] }, _, _, _, none⟩) rfl (fun K' hK => ?_) AllReadyH.nil)
        go_simp
        refine (KTK.out A5 c5 _ s5).mono ?_
        rintro e u3 ⟨gX, cX, AX, nX, pX, rfl, hx1, hx2, hx3, dX, _, _, _, _, l6⟩
        clear s5
        have hgb := Nat.lt_of_lt_of_le bb.lt hx1
        replace b1 := b1.keep l6
        replace b3 := b3.keep l6
        replace bb := bb.keep l6
        replace lx := Later.trans_ lx l6
        have hk1 := b1.lt
        have hk3 := b3.lt
        refine hK.out _ _ ⟨b1.range 0 1, b3.range 0 2⟩ (fun hHeld => ?_)
        clear hK K'
        try simp only [Act.put, List.setIfInBounds_toArray, List.set_cons_zero, List.set_cons_succ]
        refine wpAnyH_take (i := 6) (oi := ⟨some 125, .move (.tmp 131), _, _, _, none⟩) (v := .tuple #[.agg #[.slice (some ⟨gX, 0, none⟩) 8 cX], .slice AX nX pX, .int .i64 163]) rfl (by kernel_rfl) (by kernel_rfl) (by kernel_rfl) (fun _ _ _ h => h) (Or.inl ⟨by rfl, fun _ _ => rfl⟩) hHeld ?_
        simp only [Act.put, List.setIfInBounds_toArray, List.set_cons_zero, List.set_cons_succ]
        refine wpAnyH_take (i := 7) (oi := ⟨some 132, .extract (.tmp 125) 0, _, _, _, none⟩) (v := .agg #[.slice (some ⟨gX, 0, none⟩) 8 cX]) rfl (by kernel_rfl) (by kernel_rfl) (by kernel_rfl) (fun _ _ _ h => h) (Or.inl ⟨by rfl, fun w _ => by go_simp⟩) hHeld ?_
        simp only [Act.put, List.setIfInBounds_toArray, List.set_cons_zero, List.set_cons_succ]
        refine wpAnyH_take (i := 8) (oi := ⟨some 133, .extract (.tmp 125) 1, _, _, _, none⟩) (v := .slice AX nX pX) rfl (by kernel_rfl) (by kernel_rfl) (by kernel_rfl) (fun _ _ _ h => h) (Or.inl ⟨by rfl, fun w _ => by go_simp⟩) hHeld ?_
        simp only [Act.put, List.setIfInBounds_toArray, List.set_cons_zero, List.set_cons_succ]
        refine wpAnyH_take (i := 9) (oi := ⟨some 134, .extract (.tmp 125) 2, _, _, _, none⟩) (v := .int .i64 163) rfl (by kernel_rfl) (by kernel_rfl) (by kernel_rfl) (fun _ _ _ h => h) (Or.inl ⟨by rfl, fun w _ => by go_simp⟩) hHeld ?_
        simp only [Act.put, List.setIfInBounds_toArray, List.set_cons_zero, List.set_cons_succ]
        refine wpAnyH_ready (rs := [11]) (by kernel_rfl) (by simp) (AllReadyH.cons (o := ⟨none, .store 24 (.tmp 18) (.tmp 132), _, _, _, none⟩) rfl (fun K' hK => ?_) AllReadyH.nil)
        refine wp_store_blk 24 _ _ rfl v15.heap.size 24 [.slice none 0 0] [.slice (some ⟨gX, 0, none⟩) 8 cX] rfl rfl bb memS rfl (one1 rfl) ?_
        intro wq bq oq
        have hnb : gX ≠ v15.heap.size := by first | exact Nat.ne_of_gt hgb | exact Nat.ne_of_lt hgb
        replace dX := dX.only oq hnb
        replace b1 := b1.only oq (by omega)
        replace b3 := b3.only oq (by omega)
        replace lx := Below.only lx oq (by omega)
        refine hK.out _ _ ⟨b1.range 0 1, b3.range 0 2⟩ (fun hHeld => ?_)
        clear hK K'
        try simp only [Act.put]
        refine wpAnyH_take (i := 12) (oi := ⟨some 19, .assign (.tmp 133), _, _, _, none⟩) (v := .slice AX nX pX) rfl (by kernel_rfl) (by kernel_rfl) (by kernel_rfl) (fun _ _ _ h => h) (Or.inl ⟨by rfl, fun _ _ => rfl⟩) hHeld ?_
        simp only [Act.put, List.setIfInBounds_toArray, List.set_cons_zero, List.set_cons_succ]
        refine wpAnyH_take (i := 13) (oi := ⟨some 20, .assign (.tmp 134), _, _, _, none⟩) (v := .int .i64 163) rfl (by kernel_rfl) (by kernel_rfl) (by kernel_rfl) (fun _ _ _ h => h) (Or.inl ⟨by rfl, fun _ _ => rfl⟩) hHeld ?_
        simp only [Act.put, List.setIfInBounds_toArray, List.set_cons_zero, List.set_cons_succ]
        refine wpAnyH_done (by kernel_rfl) ?_ _
        clear hHeld
        go_wp2
        go_meet
        exact ⟨_, gX, cX, rfl, rfl, bq, dX, lx⟩
    case rest =>
      obtain ⟨G18, g18, c18, rfl, rfl, b18, d18, lc⟩ := hcut
      clear KDS KTK
      replace b1 := b1.keep lc
      replace b3 := b3.keep lc
      replace s3 := s3.keep lc
      replace dN := dN.keep lc
      replace sP := sP.keep lc
      replace b8 := b8.keep lc
      replace dO := dO.keep lc
      replace b11 := b11.keep lc
      replace dP := dP.keep lc
      replace b14 := b14.keep lc
      replace lw := Later.trans_ lw lc
      clear lc
      obtain ⟨v16, hv16⟩ : ∃ v, v = wc := ⟨_, rfl⟩
      rw [← hv16] at b1 b3 s3 dN sP b8 dO b11 dP b14 lw b18 d18 ⊢
      clear hv16
      go_upto_region 13 with fail
      have KDS := Lib.hid fun w' (h : Sl w' 128 A3 8 (U m2)) g (hg : Blk w' g 25 (N32 [1020, 5, 1, 1])) => (show Calls Try.prog 36 #[.agg #[.slice A3 8 c3], .agg #[.int .u32 256, .int .u32 4], .int .i64 2, .slice (some ⟨g, 0, none⟩) 4 4] w' (GotV 8 mY w') from k_ds A3 c3 m2 w' h m2_bs 2 (by omega) (by omega) hA3.out.1 hA3.out.2 1020 5 1 1 (e4 rfl) g hg)
      have KTK := Lib.hid fun A5 c5 w' (h : Sl w' 128 A5 8 (U mY)) => k_take A5 c5 mY w' h mY_bs 2 (by omega) (by omega)
      rw [x_ye] at KTK
      go_cut [21, 23] (fun q21 q23 wx => ∃ G g cx, q21 = .pointer (some ⟨G, 0, none⟩) ∧ q23 = .int .i64 161 ∧ Blk wx G 24 [.slice (some ⟨g, 0, none⟩) 8 cx] ∧ Draft wx g 8 (Rg.takM 1024 mY 256 4 2) ∧ Later v16 wx)
      case first => as_aux_lemma =>
        replace b1 := b1.drew
        replace b3 := b3.drew
        replace s3 : Sl v16.drew 128 A3 8 (U m2) := s3
        have lx : Later v16 v16.drew := (later0 _).drew
        have hsz1 : w1.heap.size < v16.heap.size := b1.lt
        have hsz3 : w2.heap.size < v16.heap.size := b3.lt
        refine wp_region_held_drew (S := fun w' => World.rangeAt w' w1.heap.size 0 [.slice A3 8 c3] ∧ World.rangeAt w' w2.heap.size 0 [.int .u32 256, .int .u32 4]) (by kernel_rfl) ⟨b1.range 0 1, b3.range 0 2⟩ (fun hHeld => ?_)
        refine wpAnyH_take (i := 0) (oi := ⟨some 136, .load 24 (.tmp 1), _, _, _, none⟩) (v := .agg ([.slice A3 8 c3]).toArray) rfl (by kernel_rfl) (by kernel_rfl) (by kernel_rfl) (fun _ _ _ h => h) (yieldsIf_load_mid (by rfl) _ _ rfl w1.heap.size 0 rfl ([.slice A3 8 c3]) _ (fun wz hSw => hSw.1) Try.underlying24 rfl memS) hHeld ?_
        simp only [Act.put, List.setIfInBounds_toArray, List.set_cons_zero, List.set_cons_succ]
        refine wpAnyH_take (i := 1) (oi := ⟨some 137, .load 27 (.tmp 3), _, _, _, none⟩) (v := .agg ([.int .u32 256, .int .u32 4]).toArray) rfl (by kernel_rfl) (by kernel_rfl) (by kernel_rfl) (fun _ _ _ h => h) (yieldsIf_load_mid (by rfl) _ _ rfl w2.heap.size 0 rfl ([.int .u32 256, .int .u32 4]) _ (fun wz hSw => hSw.2) Try.underlying27 rfl ring_sz) hHeld ?_
        simp only [Act.put, List.setIfInBounds_toArray, List.set_cons_zero, List.set_cons_succ]
        refine wpAnyH_take (i := 4) (oi := ⟨some 140, .load 27 (.tmp 3), _, _, _, none⟩) (v := .agg ([.int .u32 256, .int .u32 4]).toArray) rfl (by kernel_rfl) (by kernel_rfl) (by kernel_rfl) (fun _ _ _ h => h) (yieldsIf_load_mid (by rfl) _ _ rfl w2.heap.size 0 rfl ([.int .u32 256, .int .u32 4]) _ (fun wz hSw => hSw.2) Try.underlying27 rfl ring_sz) hHeld ?_
        simp only [Act.put, List.setIfInBounds_toArray, List.set_cons_zero, List.set_cons_succ]
        refine wpAnyH_ready (rs := [2, 10]) (by kernel_rfl) (by simp) (AllReadyH.cons (o := ⟨some 138, .buildSlice 110 4 #[(0, .const (.int .u32 1020)), (1, .const (.int .u32 5)), (2, .const (.int .u32 1)), (3, .const (.int .u32 1))], _, _, _, none⟩) rfl (fun K' hK => ?_) (AllReadyH.cons (o := ⟨some 21, .alloc 24, _, _, _, none⟩) rfl (fun K' hK => ?_) AllReadyH.nil))
        · refine wp_bs _ _ _ #[(0, .int .u32 1020), (1, .int .u32 5), (2, .int .u32 1), (3, .int .u32 1)] _ rfl rfl (run_w4 1020 5 1 1 _) ?_
          have q1 : Blk _ v16.heap.size 25 (N32 [1020, 5, 1, 1]) := Blk.new' v16.drew v16.heap.size 25 (N32 [1020, 5, 1, 1]).toArray (N32 [1020, 5, 1, 1]) (by simp) rfl
          replace b1 := b1.keep (later1 v16.drew (.cells (N32 [1020, 5, 1, 1]).toArray 25))
          replace b3 := b3.keep (later1 v16.drew (.cells (N32 [1020, 5, 1, 1]).toArray 25))
          replace s3 := s3.keep (later1 v16.drew (.cells (N32 [1020, 5, 1, 1]).toArray 25))
          replace lx := Later.trans_ lx (later1 v16.drew (.cells (N32 [1020, 5, 1, 1]).toArray 25))
          refine hK.out _ _ ⟨b1.range 0 1, b3.range 0 2⟩ (fun hHeld => ?_)
          clear hK K'
          try simp only [Act.put, List.setIfInBounds_toArray, List.set_cons_zero, List.set_cons_succ]
          refine wpAnyH_ready (rs := [3, 10]) (by kernel_rfl) (by simp) (AllReadyH.cons (o := ⟨some 139, .call { callee := .value (.func 36), args := #[.tmp 136, .tmp 137, .const (.int .i64 2), .tmp 138], argTypes := #[24, 27, 3, 110] }, _, _, _, none⟩) rfl (fun K' hK => ?_) (AllReadyH.cons (o := ⟨some 21, .alloc 24, _, _, _, none⟩) rfl (fun K' hK => ?_) AllReadyH.nil))
          · go_simp
            refine (KDS.out _ s3 _ q1).mono ?_
            rintro e u1 ⟨A5, c5, rfl, v1, v2, s5, l3⟩
            clear s3 q1
            replace b1 := b1.keep l3
            replace b3 := b3.keep l3
            replace lx := Later.trans_ lx l3
            have hd1 := b1.lt
            have hd3 := b3.lt
            refine hK.out _ _ ⟨b1.range 0 1, b3.range 0 2⟩ (fun hHeld => ?_)
            clear hK K'
            try simp only [Act.put, List.setIfInBounds_toArray, List.set_cons_zero, List.set_cons_succ]
            refine wpAnyH_ready (rs := [5, 10]) (by kernel_rfl) (by simp) (AllReadyH.cons (o := ⟨some 141, .call { callee := .value (.func 15), args := #[.tmp 139, .tmp 140, .const (.int .i64 2)], argTypes := #[24, 27, 3] }, _, _, _, none⟩) rfl (fun K' hK => ?_) (AllReadyH.cons (o := ⟨some 21, .alloc 24, _, _, _, none⟩) rfl (fun K' hK => ?_) AllReadyH.nil))
            · go_simp
              refine (KTK.out A5 c5 _ s5).mono ?_
              rintro e u3 ⟨gX, cX, AX, nX, pX, rfl, hx1, hx2, hx3, dX, _, _, _, _, l6⟩
              clear s5
              have hgb := dX.lt
              replace b1 := b1.keep l6
              replace b3 := b3.keep l6
              replace lx := Later.trans_ lx l6
              have hk1 := b1.lt
              have hk3 := b3.lt
              refine hK.out _ _ ⟨b1.range 0 1, b3.range 0 2⟩ (fun hHeld => ?_)
              clear hK K'
              try simp only [Act.put, List.setIfInBounds_toArray, List.set_cons_zero, List.set_cons_succ]
              refine wpAnyH_take (i := 6) (oi := ⟨some 135, .move (.tmp 141), _, _, _, none⟩) (v := .tuple #[.agg #[.slice (some ⟨gX, 0, none⟩) 8 cX], .slice AX nX pX, .int .i64 161]) rfl (by kernel_rfl) (by kernel_rfl) (by kernel_rfl) (fun _ _ _ h => h) (Or.inl ⟨by rfl, fun _ _ => rfl⟩) hHeld ?_
              simp only [Act.put, List.setIfInBounds_toArray, List.set_cons_zero, List.set_cons_succ]
              refine wpAnyH_take (i := 7) (oi := ⟨some 142, .extract (.tmp 135) 0, _, _, _, none⟩) (v := .agg #[.slice (some ⟨gX, 0, none⟩) 8 cX]) rfl (by kernel_rfl) (by kernel_rfl) (by kernel_rfl) (fun _ _ _ h => h) (Or.inl ⟨by rfl, fun w _ => by go_simp⟩) hHeld ?_
              simp only [Act.put, List.setIfInBounds_toArray, List.set_cons_zero, List.set_cons_succ]
              refine wpAnyH_take (i := 8) (oi := ⟨some 143, .extract (.tmp 135) 1, _, _, _, none⟩) (v := .slice AX nX pX) rfl (by kernel_rfl) (by kernel_rfl) (by kernel_rfl) (fun _ _ _ h => h) (Or.inl ⟨by rfl, fun w _ => by go_simp⟩) hHeld ?_
              simp only [Act.put, List.setIfInBounds_toArray, List.set_cons_zero, List.set_cons_succ]
              refine wpAnyH_take (i := 9) (oi := ⟨some 144, .extract (.tmp 135) 2, _, _, _, none⟩) (v := .int .i64 161) rfl (by kernel_rfl) (by kernel_rfl) (by kernel_rfl) (fun _ _ _ h => h) (Or.inl ⟨by rfl, fun w _ => by go_simp⟩) hHeld ?_
              simp only [Act.put, List.setIfInBounds_toArray, List.set_cons_zero, List.set_cons_succ]
              refine wpAnyH_ready (rs := [10]) (by kernel_rfl) (by simp) (AllReadyH.cons (o := ⟨some 21, .alloc 24, _, _, _, none⟩) rfl (fun K' hK => ?_) AllReadyH.nil)
              have hbx := lx.size
              go_simp
              have bb : Blk _ u3.heap.size 24 [.slice none 0 0] := Blk.new' u3 u3.heap.size 24 #[.slice none 0 0] [.slice none 0 0] (by simp) rfl
              replace b1 := b1.keep (later1 u3 (.cells #[.slice none 0 0] 24))
              replace b3 := b3.keep (later1 u3 (.cells #[.slice none 0 0] 24))
              replace dX := dX.keep (later1 u3 (.cells #[.slice none 0 0] 24))
              replace lx := Later.trans_ lx (later1 u3 (.cells #[.slice none 0 0] 24))
              refine hK.out _ _ ⟨b1.range 0 1, b3.range 0 2⟩ (fun hHeld => ?_)
              clear hK K'
              try simp only [Act.put, List.setIfInBounds_toArray, List.set_cons_zero, List.set_cons_succ]
              refine wpAnyH_ready (rs := [11]) (by kernel_rfl) (by simp) (AllReadyH.cons (o := ⟨none, .store 24 (.tmp 21) (.tmp 142), _, _, _, none⟩) rfl (fun K' hK => ?_) AllReadyH.nil)
              refine wp_store_blk 24 _ _ rfl u3.heap.size 24 [.slice none 0 0] [.slice (some ⟨gX, 0, none⟩) 8 cX] rfl rfl bb memS rfl (one1 rfl) ?_
              intro wq bq oq
              have hnb : gX ≠ u3.heap.size := by first | exact Nat.ne_of_gt hgb | exact Nat.ne_of_lt hgb
              replace dX := dX.only oq hnb
              replace b1 := b1.only oq (by omega)
              replace b3 := b3.only oq (by omega)
              replace lx := Below.only lx oq (by omega)
              refine hK.out _ _ ⟨b1.range 0 1, b3.range 0 2⟩ (fun hHeld => ?_)
              clear hK K'
              try simp only [Act.put]
              refine wpAnyH_take (i := 12) (oi := ⟨some 22, .assign (.tmp 143), _, _, _, none⟩) (v := .slice AX nX pX) rfl (by kernel_rfl) (by kernel_rfl) (by kernel_rfl) (fun _ _ _ h => h) (Or.inl ⟨by rfl, fun _ _ => rfl⟩) hHeld ?_
              simp only [Act.put, List.setIfInBounds_toArray, List.set_cons_zero, List.set_cons_succ]
              refine wpAnyH_take (i := 13) (oi := ⟨some 23, .assign (.tmp 144), _, _, _, none⟩) (v := .int .i64 161) rfl (by kernel_rfl) (by kernel_rfl) (by kernel_rfl) (fun _ _ _ h => h) (Or.inl ⟨by rfl, fun _ _ => rfl⟩) hHeld ?_
              simp only [Act.put, List.setIfInBounds_toArray, List.set_cons_zero, List.set_cons_succ]
              refine wpAnyH_done (by kernel_rfl) ?_ _
              clear hHeld
              go_wp2
              go_meet
              exact ⟨_, gX, cX, rfl, rfl, bq, dX, lx⟩
            · have hbx := lx.size
              go_simp
              have bb : Blk _ u1.heap.size 24 [.slice none 0 0] := Blk.new' u1 u1.heap.size 24 #[.slice none 0 0] [.slice none 0 0] (by simp) rfl
              replace b1 := b1.keep (later1 u1 (.cells #[.slice none 0 0] 24))
              replace b3 := b3.keep (later1 u1 (.cells #[.slice none 0 0] 24))
              replace s5 := s5.keep (later1 u1 (.cells #[.slice none 0 0] 24))
              replace lx := Later.trans_ lx (later1 u1 (.cells #[.slice none 0 0] 24))
              refine hK.out _ _ ⟨b1.range 0 1, b3.range 0 2⟩ (fun hHeld => ?_)
              clear hK K'
              try simp only [Act.put, List.setIfInBounds_toArray, List.set_cons_zero, List.set_cons_succ]
              refine wpAnyH_ready (rs := [5]) (by kernel_rfl) (by simp) (AllReadyH.cons (o := ⟨some 141, .call { callee := .value (.func 15), args := #[.tmp 139, .tmp 140, .const (.int .i64 2)], argTypes := #[24, 27, 3] }, _, _, _, none⟩) rfl (fun K' hK => ?_) AllReadyH.nil)
              go_simp
              refine (KTK.out A5 c5 _ s5).mono ?_
              rintro e u3 ⟨gX, cX, AX, nX, pX, rfl, hx1, hx2, hx3, dX, _, _, _, _, l6⟩
              clear s5
              have hgb := Nat.lt_of_lt_of_le bb.lt hx1
              replace b1 := b1.keep l6
              replace b3 := b3.keep l6
              replace bb := bb.keep l6
              replace lx := Later.trans_ lx l6
              have hk1 := b1.lt
              have hk3 := b3.lt
              refine hK.out _ _ ⟨b1.range 0 1, b3.range 0 2⟩ (fun hHeld => ?_)
              clear hK K'
              try simp only [Act.put, List.setIfInBounds_toArray, List.set_cons_zero, List.set_cons_succ]
              refine wpAnyH_take (i := 6) (oi := ⟨some 135, .move (.tmp 141), _, _, _, none⟩) (v := .tuple #[.agg #[.slice (some ⟨gX, 0, none⟩) 8 cX], .slice AX nX pX, .int .i64 161]) rfl (by kernel_rfl) (by kernel_rfl) (by kernel_rfl) (fun _ _ _ h => h) (Or.inl ⟨by rfl, fun _ _ => rfl⟩) hHeld ?_
              simp only [Act.put, List.setIfInBounds_toArray, List.set_cons_zero, List.set_cons_succ]
              refine wpAnyH_take (i := 7) (oi := ⟨some 142, .extract (.tmp 135) 0, _, _, _, none⟩) (v := .agg #[.slice (some ⟨gX, 0, none⟩) 8 cX]) rfl (by kernel_rfl) (by kernel_rfl) (by kernel_rfl) (fun _ _ _ h => h) (Or.inl ⟨by rfl, fun w _ => by go_simp⟩) hHeld ?_
              simp only [Act.put, List.setIfInBounds_toArray, List.set_cons_zero, List.set_cons_succ]
              refine wpAnyH_take (i := 8) (oi := ⟨some 143, .extract (.tmp 135) 1, _, _, _, none⟩) (v := .slice AX nX pX) rfl (by kernel_rfl) (by kernel_rfl) (by kernel_rfl) (fun _ _ _ h => h) (Or.inl ⟨by rfl, fun w _ => by go_simp⟩) hHeld ?_
              simp only [Act.put, List.setIfInBounds_toArray, List.set_cons_zero, List.set_cons_succ]
              refine wpAnyH_take (i := 9) (oi := ⟨some 144, .extract (.tmp 135) 2, _, _, _, none⟩) (v := .int .i64 161) rfl (by kernel_rfl) (by kernel_rfl) (by kernel_rfl) (fun _ _ _ h => h) (Or.inl ⟨by rfl, fun w _ => by go_simp⟩) hHeld ?_
              simp only [Act.put, List.setIfInBounds_toArray, List.set_cons_zero, List.set_cons_succ]
              refine wpAnyH_ready (rs := [11]) (by kernel_rfl) (by simp) (AllReadyH.cons (o := ⟨none, .store 24 (.tmp 21) (.tmp 142), _, _, _, none⟩) rfl (fun K' hK => ?_) AllReadyH.nil)
              refine wp_store_blk 24 _ _ rfl u1.heap.size 24 [.slice none 0 0] [.slice (some ⟨gX, 0, none⟩) 8 cX] rfl rfl bb memS rfl (one1 rfl) ?_
              intro wq bq oq
              have hnb : gX ≠ u1.heap.size := by first | exact Nat.ne_of_gt hgb | exact Nat.ne_of_lt hgb
              replace dX := dX.only oq hnb
              replace b1 := b1.only oq (by omega)
              replace b3 := b3.only oq (by omega)
              replace lx := Below.only lx oq (by omega)
              refine hK.out _ _ ⟨b1.range 0 1, b3.range 0 2⟩ (fun hHeld => ?_)
              clear hK K'
              try simp only [Act.put]
              refine wpAnyH_take (i := 12) (oi := ⟨some 22, .assign (.tmp 143), _, _, _, none⟩) (v := .slice AX nX pX) rfl (by kernel_rfl) (by kernel_rfl) (by kernel_rfl) (fun _ _ _ h => h) (Or.inl ⟨by rfl, fun _ _ => rfl⟩) hHeld ?_
              simp only [Act.put, List.setIfInBounds_toArray, List.set_cons_zero, List.set_cons_succ]
              refine wpAnyH_take (i := 13) (oi := ⟨some 23, .assign (.tmp 144), _, _, _, none⟩) (v := .int .i64 161) rfl (by kernel_rfl) (by kernel_rfl) (by kernel_rfl) (fun _ _ _ h => h) (Or.inl ⟨by rfl, fun _ _ => rfl⟩) hHeld ?_
              simp only [Act.put, List.setIfInBounds_toArray, List.set_cons_zero, List.set_cons_succ]
              refine wpAnyH_done (by kernel_rfl) ?_ _
              clear hHeld
              go_wp2
              go_meet
              exact ⟨_, gX, cX, rfl, rfl, bq, dX, lx⟩
          · go_simp
            have bb : Blk _ (v16.heap.size + 1) 24 [.slice none 0 0] := Blk.new' (v16.drew.alloc (.cells (N32 [1020, 5, 1, 1]).toArray 25)) (v16.heap.size + 1) 24 #[.slice none 0 0] [.slice none 0 0] (by simp) rfl
            replace b1 := b1.keep (later1 (v16.drew.alloc (.cells (N32 [1020, 5, 1, 1]).toArray 25)) (.cells #[.slice none 0 0] 24))
            replace b3 := b3.keep (later1 (v16.drew.alloc (.cells (N32 [1020, 5, 1, 1]).toArray 25)) (.cells #[.slice none 0 0] 24))
            replace s3 := s3.keep (later1 (v16.drew.alloc (.cells (N32 [1020, 5, 1, 1]).toArray 25)) (.cells #[.slice none 0 0] 24))
            replace q1 := q1.keep (later1 (v16.drew.alloc (.cells (N32 [1020, 5, 1, 1]).toArray 25)) (.cells #[.slice none 0 0] 24))
            replace lx := Later.trans_ lx (later1 (v16.drew.alloc (.cells (N32 [1020, 5, 1, 1]).toArray 25)) (.cells #[.slice none 0 0] 24))
            refine hK.out _ _ ⟨b1.range 0 1, b3.range 0 2⟩ (fun hHeld => ?_)
            clear hK K'
            try simp only [Act.put, List.setIfInBounds_toArray, List.set_cons_zero, List.set_cons_succ]
            refine wpAnyH_ready (rs := [3]) (by kernel_rfl) (by simp) (AllReadyH.cons (o := ⟨some 139, .call { callee := .value (.func 36), args := #[.tmp 136, .tmp 137, .const (.int .i64 2), .tmp 138], argTypes := #[24, 27, 3, 110] }, _, _, _, none⟩) rfl (fun K' hK => ?_) AllReadyH.nil)
            go_simp
            refine (KDS.out _ s3 _ q1).mono ?_
            rintro e u1 ⟨A5, c5, rfl, v1, v2, s5, l3⟩
            clear s3 q1
            replace b1 := b1.keep l3
            replace b3 := b3.keep l3
            replace bb := bb.keep l3
            replace lx := Later.trans_ lx l3
            have hd1 := b1.lt
            have hd3 := b3.lt
            refine hK.out _ _ ⟨b1.range 0 1, b3.range 0 2⟩ (fun hHeld => ?_)
            clear hK K'
            try simp only [Act.put, List.setIfInBounds_toArray, List.set_cons_zero, List.set_cons_succ]
            refine wpAnyH_ready (rs := [5]) (by kernel_rfl) (by simp) (AllReadyH.cons (o := ⟨some 141, .call { callee := .value (.func 15), args := #[.tmp 139, .tmp 140, .const (.int .i64 2)], argTypes := #[24, 27, 3] }, _, _, _, none⟩) rfl (fun K' hK => ?_) AllReadyH.nil)
            go_simp
            refine (KTK.out A5 c5 _ s5).mono ?_
            rintro e u3 ⟨gX, cX, AX, nX, pX, rfl, hx1, hx2, hx3, dX, _, _, _, _, l6⟩
            clear s5
            have hgb := Nat.lt_of_lt_of_le bb.lt hx1
            replace b1 := b1.keep l6
            replace b3 := b3.keep l6
            replace bb := bb.keep l6
            replace lx := Later.trans_ lx l6
            have hk1 := b1.lt
            have hk3 := b3.lt
            refine hK.out _ _ ⟨b1.range 0 1, b3.range 0 2⟩ (fun hHeld => ?_)
            clear hK K'
            try simp only [Act.put, List.setIfInBounds_toArray, List.set_cons_zero, List.set_cons_succ]
            refine wpAnyH_take (i := 6) (oi := ⟨some 135, .move (.tmp 141), _, _, _, none⟩) (v := .tuple #[.agg #[.slice (some ⟨gX, 0, none⟩) 8 cX], .slice AX nX pX, .int .i64 161]) rfl (by kernel_rfl) (by kernel_rfl) (by kernel_rfl) (fun _ _ _ h => h) (Or.inl ⟨by rfl, fun _ _ => rfl⟩) hHeld ?_
            simp only [Act.put, List.setIfInBounds_toArray, List.set_cons_zero, List.set_cons_succ]
            refine wpAnyH_take (i := 7) (oi := ⟨some 142, .extract (.tmp 135) 0, _, _, _, none⟩) (v := .agg #[.slice (some ⟨gX, 0, none⟩) 8 cX]) rfl (by kernel_rfl) (by kernel_rfl) (by kernel_rfl) (fun _ _ _ h => h) (Or.inl ⟨by rfl, fun w _ => by go_simp⟩) hHeld ?_
            simp only [Act.put, List.setIfInBounds_toArray, List.set_cons_zero, List.set_cons_succ]
            refine wpAnyH_take (i := 8) (oi := ⟨some 143, .extract (.tmp 135) 1, _, _, _, none⟩) (v := .slice AX nX pX) rfl (by kernel_rfl) (by kernel_rfl) (by kernel_rfl) (fun _ _ _ h => h) (Or.inl ⟨by rfl, fun w _ => by go_simp⟩) hHeld ?_
            simp only [Act.put, List.setIfInBounds_toArray, List.set_cons_zero, List.set_cons_succ]
            refine wpAnyH_take (i := 9) (oi := ⟨some 144, .extract (.tmp 135) 2, _, _, _, none⟩) (v := .int .i64 161) rfl (by kernel_rfl) (by kernel_rfl) (by kernel_rfl) (fun _ _ _ h => h) (Or.inl ⟨by rfl, fun w _ => by go_simp⟩) hHeld ?_
            simp only [Act.put, List.setIfInBounds_toArray, List.set_cons_zero, List.set_cons_succ]
            refine wpAnyH_ready (rs := [11]) (by kernel_rfl) (by simp) (AllReadyH.cons (o := ⟨none, .store 24 (.tmp 21) (.tmp 142), _, _, _, none⟩) rfl (fun K' hK => ?_) AllReadyH.nil)
            refine wp_store_blk 24 _ _ rfl (v16.heap.size + 1) 24 [.slice none 0 0] [.slice (some ⟨gX, 0, none⟩) 8 cX] rfl rfl bb memS rfl (one1 rfl) ?_
            intro wq bq oq
            have hnb : gX ≠ (v16.heap.size + 1) := by first | exact Nat.ne_of_gt hgb | exact Nat.ne_of_lt hgb
            replace dX := dX.only oq hnb
            replace b1 := b1.only oq (by omega)
            replace b3 := b3.only oq (by omega)
            replace lx := Below.only lx oq (by omega)
            refine hK.out _ _ ⟨b1.range 0 1, b3.range 0 2⟩ (fun hHeld => ?_)
            clear hK K'
            try simp only [Act.put]
            refine wpAnyH_take (i := 12) (oi := ⟨some 22, .assign (.tmp 143), _, _, _, none⟩) (v := .slice AX nX pX) rfl (by kernel_rfl) (by kernel_rfl) (by kernel_rfl) (fun _ _ _ h => h) (Or.inl ⟨by rfl, fun _ _ => rfl⟩) hHeld ?_
            simp only [Act.put, List.setIfInBounds_toArray, List.set_cons_zero, List.set_cons_succ]
            refine wpAnyH_take (i := 13) (oi := ⟨some 23, .assign (.tmp 144), _, _, _, none⟩) (v := .int .i64 161) rfl (by kernel_rfl) (by kernel_rfl) (by kernel_rfl) (fun _ _ _ h => h) (Or.inl ⟨by rfl, fun _ _ => rfl⟩) hHeld ?_
            simp only [Act.put, List.setIfInBounds_toArray, List.set_cons_zero, List.set_cons_succ]
            refine wpAnyH_done (by kernel_rfl) ?_ _
            clear hHeld
            go_wp2
            go_meet
            exact ⟨_, gX, cX, rfl, rfl, bq, dX, lx⟩
        · go_simp
          have bb : Blk _ v16.heap.size 24 [.slice none 0 0] := Blk.new' v16.drew v16.heap.size 24 #[.slice none 0 0] [.slice none 0 0] (by simp) rfl
          replace b1 := b1.keep (later1 v16.drew (.cells #[.slice none 0 0] 24))
          replace b3 := b3.keep (later1 v16.drew (.cells #[.slice none 0 0] 24))
          replace s3 := s3.keep (later1 v16.drew (.cells #[.slice none 0 0] 24))
          replace lx := Later.trans_ lx (later1 v16.drew (.cells #[.slice none 0 0] 24))
          refine hK.out _ _ ⟨b1.range 0 1, b3.range 0 2⟩ (fun hHeld => ?_)
          clear hK K'
          try simp only [Act.put, List.setIfInBounds_toArray, List.set_cons_zero, List.set_cons_succ]
          refine wpAnyH_ready (rs := [2]) (by kernel_rfl) (by simp) (AllReadyH.cons (o := ⟨some 138, .buildSlice 110 4 #[(0, .const (.int .u32 1020)), (1, .const (.int .u32 5)), (2, .const (.int .u32 1)), (3, .const (.int .u32 1))], _, _, _, none⟩) rfl (fun K' hK => ?_) AllReadyH.nil)
          refine wp_bs _ _ _ #[(0, .int .u32 1020), (1, .int .u32 5), (2, .int .u32 1), (3, .int .u32 1)] _ rfl rfl (run_w4 1020 5 1 1 _) ?_
          have q1 : Blk _ (v16.heap.size + 1) 25 (N32 [1020, 5, 1, 1]) := Blk.new' (v16.drew.alloc (.cells #[.slice none 0 0] 24)) (v16.heap.size + 1) 25 (N32 [1020, 5, 1, 1]).toArray (N32 [1020, 5, 1, 1]) (by simp) rfl
          replace b1 := b1.keep (later1 (v16.drew.alloc (.cells #[.slice none 0 0] 24)) (.cells (N32 [1020, 5, 1, 1]).toArray 25))
          replace b3 := b3.keep (later1 (v16.drew.alloc (.cells #[.slice none 0 0] 24)) (.cells (N32 [1020, 5, 1, 1]).toArray 25))
          replace s3 := s3.keep (later1 (v16.drew.alloc (.cells #[.slice none 0 0] 24)) (.cells (N32 [1020, 5, 1, 1]).toArray 25))
          replace bb := bb.keep (later1 (v16.drew.alloc (.cells #[.slice none 0 0] 24)) (.cells (N32 [1020, 5, 1, 1]).toArray 25))
          replace lx := Later.trans_ lx (later1 (v16.drew.alloc (.cells #[.slice none 0 0] 24)) (.cells (N32 [1020, 5, 1, 1]).toArray 25))
          refine hK.out _ _ ⟨b1.range 0 1, b3.range 0 2⟩ (fun hHeld => ?_)
          clear hK K'
          try simp only [Act.put, List.setIfInBounds_toArray, List.set_cons_zero, List.set_cons_succ]
          refine wpAnyH_ready (rs := [3]) (by kernel_rfl) (by simp) (AllReadyH.cons (o := ⟨some 139, .call { callee := .value (.func 36), args := #[.tmp 136, .tmp 137, .const (.int .i64 2), .tmp 138], argTypes := #[24, 27, 3, 110] }, _, _, _, none⟩) rfl (fun K' hK => ?_) AllReadyH.nil)
          go_simp
          refine (KDS.out _ s3 _ q1).mono ?_
          rintro e u1 ⟨A5, c5, rfl, v1, v2, s5, l3⟩
          clear s3 q1
          replace b1 := b1.keep l3
          replace b3 := b3.keep l3
          replace bb := bb.keep l3
          replace lx := Later.trans_ lx l3
          have hd1 := b1.lt
          have hd3 := b3.lt
          refine hK.out _ _ ⟨b1.range 0 1, b3.range 0 2⟩ (fun hHeld => ?_)
          clear hK K'
          try simp only [Act.put, List.setIfInBounds_toArray, List.set_cons_zero, List.set_cons_succ]
          refine wpAnyH_ready (rs := [5]) (by kernel_rfl) (by simp) (AllReadyH.cons (o := ⟨some 141, .call { callee := .value (.func 15), args := #[.tmp 139, .tmp 140, .const (.int .i64 2)], argTypes := #[24, 27, 3] }, _, _, _, none⟩) rfl (fun K' hK => ?_) AllReadyH.nil)
          go_simp
          refine (KTK.out A5 c5 _ s5).mono ?_
          rintro e u3 ⟨gX, cX, AX, nX, pX, rfl, hx1, hx2, hx3, dX, _, _, _, _, l6⟩
          clear s5
          have hgb := Nat.lt_of_lt_of_le bb.lt hx1
          replace b1 := b1.keep l6
          replace b3 := b3.keep l6
          replace bb := bb.keep l6
          replace lx := Later.trans_ lx l6
          have hk1 := b1.lt
          have hk3 := b3.lt
          refine hK.out _ _ ⟨b1.range 0 1, b3.range 0 2⟩ (fun hHeld => ?_)
          clear hK K'
          try simp only [Act.put, List.setIfInBounds_toArray, List.set_cons_zero, List.set_cons_succ]
          refine wpAnyH_take (i := 6) (oi := ⟨some 135, .move (.tmp 141), _, _, _, none⟩) (v := .tuple #[.agg #[.slice (some ⟨gX, 0, none⟩) 8 cX], .slice AX nX pX, .int .i64 161]) rfl (by kernel_rfl) (by kernel_rfl) (by kernel_rfl) (fun _ _ _ h => h) (Or.inl ⟨by rfl, fun _ _ => rfl⟩) hHeld ?_
          simp only [Act.put, List.setIfInBounds_toArray, List.set_cons_zero, List.set_cons_succ]
          refine wpAnyH_take (i := 7) (oi := ⟨some 142, .extract (.tmp 135) 0, _, _, _, none⟩) (v := .agg #[.slice (some ⟨gX, 0, none⟩) 8 cX]) rfl (by kernel_rfl) (by kernel_rfl) (by kernel_rfl) (fun _ _ _ h => h) (Or.inl ⟨by rfl, fun w _ => by go_simp⟩) hHeld ?_
          simp only [Act.put, List.setIfInBounds_toArray, List.set_cons_zero, List.set_cons_succ]
          refine wpAnyH_take (i := 8) (oi := ⟨some 143, .extract (.tmp 135) 1, _, _, _, none⟩) (v := .slice AX nX pX) rfl (by kernel_rfl) (by kernel_rfl) (by kernel_rfl) (fun _ _ _ h => h) (Or.inl ⟨by rfl, fun w _ => by go_simp⟩) hHeld ?_
          simp only [Act.put, List.setIfInBounds_toArray, List.set_cons_zero, List.set_cons_succ]
          refine wpAnyH_take (i := 9) (oi := ⟨some 144, .extract (.tmp 135) 2, _, _, _, none⟩) (v := .int .i64 161) rfl (by kernel_rfl) (by kernel_rfl) (by kernel_rfl) (fun _ _ _ h => h) (Or.inl ⟨by rfl, fun w _ => by go_simp⟩) hHeld ?_
          simp only [Act.put, List.setIfInBounds_toArray, List.set_cons_zero, List.set_cons_succ]
          refine wpAnyH_ready (rs := [11]) (by kernel_rfl) (by simp) (AllReadyH.cons (o := ⟨none, .store 24 (.tmp 21) (.tmp 142), _, _, _, none⟩) rfl (fun K' hK => ?_) AllReadyH.nil)
          refine wp_store_blk 24 _ _ rfl v16.heap.size 24 [.slice none 0 0] [.slice (some ⟨gX, 0, none⟩) 8 cX] rfl rfl bb memS rfl (one1 rfl) ?_
          intro wq bq oq
          have hnb : gX ≠ v16.heap.size := by first | exact Nat.ne_of_gt hgb | exact Nat.ne_of_lt hgb
          replace dX := dX.only oq hnb
          replace b1 := b1.only oq (by omega)
          replace b3 := b3.only oq (by omega)
          replace lx := Below.only lx oq (by omega)
          refine hK.out _ _ ⟨b1.range 0 1, b3.range 0 2⟩ (fun hHeld => ?_)
          clear hK K'
          try simp only [Act.put]
          refine wpAnyH_take (i := 12) (oi := ⟨some 22, .assign (.tmp 143), _, _, _, none⟩) (v := .slice AX nX pX) rfl (by kernel_rfl) (by kernel_rfl) (by kernel_rfl) (fun _ _ _ h => h) (Or.inl ⟨by rfl, fun _ _ => rfl⟩) hHeld ?_
          simp only [Act.put, List.setIfInBounds_toArray, List.set_cons_zero, List.set_cons_succ]
          refine wpAnyH_take (i := 13) (oi := ⟨some 23, .assign (.tmp 144), _, _, _, none⟩) (v := .int .i64 161) rfl (by kernel_rfl) (by kernel_rfl) (by kernel_rfl) (fun _ _ _ h => h) (Or.inl ⟨by rfl, fun _ _ => rfl⟩) hHeld ?_
          simp only [Act.put, List.setIfInBounds_toArray, List.set_cons_zero, List.set_cons_succ]
          refine wpAnyH_done (by kernel_rfl) ?_ _
          clear hHeld
          go_wp2
          go_meet
          exact ⟨_, gX, cX, rfl, rfl, bq, dX, lx⟩
      case rest =>
        obtain ⟨G21, g21, c21, rfl, rfl, b21, d21, lc⟩ := hcut
        clear KDS KTK
        replace b1 := b1.keep lc
        replace b3 := b3.keep lc
        replace s3 := s3.keep lc
        replace dN := dN.keep lc
        replace sP := sP.keep lc
        replace b8 := b8.keep lc
        replace dO := dO.keep lc
        replace b11 := b11.keep lc
        replace dP := dP.keep lc
        replace b14 := b14.keep lc
        replace b18 := b18.keep lc
        replace d18 := d18.keep lc
        replace lw := Later.trans_ lw lc
        clear lc
        have KS := Lib.hid fun gN cN w' (h : Draft w' gN 8 mN) => k_stat (some ⟨gN, 0, none⟩) cN mN w' h.sl mN_bs 1 (by omega) (by omega)
        rw [x_s1] at KS
        have KS2 := Lib.hid fun gN cN w' (h : Draft w' gN 8 mN) => k_stat (some ⟨gN, 0, none⟩) cN mN w' h.sl mN_bs 2 (by omega) (by omega)
        rw [x_s2] at KS2
        have KSX := Lib.hid fun gN cN w' (h : Draft w' gN 8 (Rg.takM 1024 mX 256 4 1)) => k_stat (some ⟨gN, 0, none⟩) cN (Rg.takM 1024 mX 256 4 1) w' h.sl (Rg.takM_bs _ _ _ _ mX_bs) 1 (by omega) (by omega)
        rw [x_xs] at KSX
        have KSY := Lib.hid fun gN cN w' (h : Draft w' gN 8 (Rg.takM 1024 mY 256 4 2)) => k_stat (some ⟨gN, 0, none⟩) cN (Rg.takM 1024 mY 256 4 2) w' h.sl (Rg.takM_bs _ _ _ _ mY_bs) 2 (by omega) (by omega)
        rw [x_ys] at KSY
        have KSM := Lib.hid fun AP cp A2 c2 w' (h : Sl w' 4 AP 2 (Ps l1)) (k : Sl w' 4 A2 2 (Ps l1)) => same_parts AP A2 2 cp c2 l1 w' h k rfl (by omega)
        go_wp2_with (first
          | ((with_reducible refine wpList_bld (o := ⟨some 146, .build 59 #[(0, .const (.int .i64 1)), (1, .const (.int .i64 512)), (2, .const (.int .i64 3))], _, _, _, none⟩) rfl _ #[(0, .const (.int .i64 1)), (1, .const (.int .i64 512)), (2, .const (.int .i64 3))] #[(0, .int .i64 1), (1, .int .i64 512), (2, .int .i64 3)] (Pc (1, 512, 3, false)).toArray rfl ?_ (run_pa _) ?_); rfl)
          | ((with_reducible refine wpList_bld (o := ⟨some 147, .build 59 #[(0, .const (.int .i64 2)), (1, .const (.int .i64 600)), (2, .const (.int .i64 5)), (3, .const (.bool true))], _, _, _, none⟩) rfl _ #[(0, .const (.int .i64 2)), (1, .const (.int .i64 600)), (2, .const (.int .i64 5)), (3, .const (.bool true))] #[(0, .int .i64 2), (1, .int .i64 600), (2, .int .i64 5), (3, .bool true)] (Pc (2, 600, 5, true)).toArray rfl ?_ (run_pt 2 600 5 true _) ?_); rfl)
          | ((with_reducible refine wpList_bs (o := ⟨some 148, .buildSlice 35 2 #[(0, .tmp 146), (1, .tmp 147)], _, _, _, none⟩) rfl _ _ _ #[(0, .agg (Pc (1, 512, 3, false)).toArray), (1, .agg (Pc (2, 600, 5, true)).toArray)] _ rfl ?_ (run_p2 _) ?_); rfl; have qs := blk_slK (size := 4) (n := 2) (Blk.new wc 59 (Ps l1).toArray (Ps l1) rfl) rfl; replace b1 := b1.keep (later1 wc (.cells (Ps l1).toArray 59)); replace b3 := b3.keep (later1 wc (.cells (Ps l1).toArray 59)); replace s3 := s3.keep (later1 wc (.cells (Ps l1).toArray 59)); replace dN := dN.keep (later1 wc (.cells (Ps l1).toArray 59)); replace sP := sP.keep (later1 wc (.cells (Ps l1).toArray 59)); replace b8 := b8.keep (later1 wc (.cells (Ps l1).toArray 59)); replace dO := dO.keep (later1 wc (.cells (Ps l1).toArray 59)); replace b11 := b11.keep (later1 wc (.cells (Ps l1).toArray 59)); replace dP := dP.keep (later1 wc (.cells (Ps l1).toArray 59)); replace b14 := b14.keep (later1 wc (.cells (Ps l1).toArray 59)); replace b18 := b18.keep (later1 wc (.cells (Ps l1).toArray 59)); replace d18 := d18.keep (later1 wc (.cells (Ps l1).toArray 59)); replace b21 := b21.keep (later1 wc (.cells (Ps l1).toArray 59)); replace d21 := d21.keep (later1 wc (.cells (Ps l1).toArray 59)); replace lw := Later.trans_ lw (later1 wc (.cells (Ps l1).toArray 59)))
          | (go_at_call 18; (with_reducible refine (KSM.out _ _ _ _ _ sP qs).mono ?_); rintro e y1 ⟨rfl, m1⟩; clear qs; replace b1 := b1.keep m1; replace b3 := b3.keep m1; replace s3 := s3.keep m1; replace dN := dN.keep m1; replace sP := sP.keep m1; replace b8 := b8.keep m1; replace dO := dO.keep m1; replace b11 := b11.keep m1; replace dP := dP.keep m1; replace b14 := b14.keep m1; replace b18 := b18.keep m1; replace d18 := d18.keep m1; replace b21 := b21.keep m1; replace d21 := d21.keep m1; replace lw := Later.trans_ lw m1)
          | ((with_reducible refine wpList_load_g (o := ⟨some 151, .load 24 (.tmp 8), _, _, _, _⟩) _ _ rfl v6.heap.size 24 ([.slice (some ⟨gN, 0, none⟩) 8 cN]) _ ?_ ?_ ?_ Try.underlying24 ?_ memS ?_); rfl; rfl; exact b8; rfl)
          | ((with_reducible refine wpList_load_g (o := ⟨some 157, .load 24 (.tmp 8), _, _, _, _⟩) _ _ rfl v6.heap.size 24 ([.slice (some ⟨gN, 0, none⟩) 8 cN]) _ ?_ ?_ ?_ Try.underlying24 ?_ memS ?_); rfl; rfl; exact b8; rfl)
          | ((with_reducible refine wpList_load_g (o := ⟨some 167, .load 24 (.tmp 18), _, _, _, _⟩) _ _ rfl G18 24 ([.slice (some ⟨g18, 0, none⟩) 8 c18]) _ ?_ ?_ ?_ Try.underlying24 ?_ memS ?_); rfl; rfl; exact b18; rfl)
          | ((with_reducible refine wpList_load_g (o := ⟨some 177, .load 24 (.tmp 21), _, _, _, _⟩) _ _ rfl G21 24 ([.slice (some ⟨g21, 0, none⟩) 8 c21]) _ ?_ ?_ ?_ Try.underlying24 ?_ memS ?_); rfl; rfl; exact b21; rfl)
          | ((with_reducible refine wpList_load_g (o := ⟨some 183, .load 24 (.tmp 1), _, _, _, _⟩) _ _ rfl w1.heap.size 24 ([.slice A3 8 c3]) _ ?_ ?_ ?_ Try.underlying24 ?_ memS ?_); rfl; rfl; exact b1; rfl)
          | ((with_reducible refine wpList_load_g (o := ⟨some 152, .load 27 (.tmp 3), _, _, _, _⟩) _ _ rfl w2.heap.size 27 ([.int .u32 256, .int .u32 4]) _ ?_ ?_ ?_ Try.underlying27 ?_ ring_sz ?_); rfl; rfl; exact b3; rfl)
          | ((with_reducible refine wpList_load_g (o := ⟨some 158, .load 27 (.tmp 3), _, _, _, _⟩) _ _ rfl w2.heap.size 27 ([.int .u32 256, .int .u32 4]) _ ?_ ?_ ?_ Try.underlying27 ?_ ring_sz ?_); rfl; rfl; exact b3; rfl)
          | ((with_reducible refine wpList_load_g (o := ⟨some 168, .load 27 (.tmp 3), _, _, _, _⟩) _ _ rfl w2.heap.size 27 ([.int .u32 256, .int .u32 4]) _ ?_ ?_ ?_ Try.underlying27 ?_ ring_sz ?_); rfl; rfl; exact b3; rfl)
          | ((with_reducible refine wpList_load_g (o := ⟨some 178, .load 27 (.tmp 3), _, _, _, _⟩) _ _ rfl w2.heap.size 27 ([.int .u32 256, .int .u32 4]) _ ?_ ?_ ?_ Try.underlying27 ?_ ring_sz ?_); rfl; rfl; exact b3; rfl)
          | (go_at_call 32; (with_reducible refine (KSY.out g21 c21 _ d21).mono ?_); rintro e y5 ⟨rfl, m5⟩; replace b1 := b1.keep m5; replace b3 := b3.keep m5; replace s3 := s3.keep m5; replace dN := dN.keep m5; replace sP := sP.keep m5; replace b8 := b8.keep m5; replace dO := dO.keep m5; replace b11 := b11.keep m5; replace dP := dP.keep m5; replace b14 := b14.keep m5; replace b18 := b18.keep m5; replace d18 := d18.keep m5; replace b21 := b21.keep m5; replace d21 := d21.keep m5; replace lw := Later.trans_ lw m5)
          | (go_at_call 32; (with_reducible refine (KSX.out g18 c18 _ d18).mono ?_); rintro e y4 ⟨rfl, m4⟩; replace b1 := b1.keep m4; replace b3 := b3.keep m4; replace s3 := s3.keep m4; replace dN := dN.keep m4; replace sP := sP.keep m4; replace b8 := b8.keep m4; replace dO := dO.keep m4; replace b11 := b11.keep m4; replace dP := dP.keep m4; replace b14 := b14.keep m4; replace b18 := b18.keep m4; replace d18 := d18.keep m4; replace b21 := b21.keep m4; replace d21 := d21.keep m4; replace lw := Later.trans_ lw m4)
          | (go_at_call 32; (with_reducible refine (KS2.out gN cN _ dN).mono ?_); rintro e y3 ⟨rfl, m3⟩; replace b1 := b1.keep m3; replace b3 := b3.keep m3; replace s3 := s3.keep m3; replace dN := dN.keep m3; replace sP := sP.keep m3; replace b8 := b8.keep m3; replace dO := dO.keep m3; replace b11 := b11.keep m3; replace dP := dP.keep m3; replace b14 := b14.keep m3; replace b18 := b18.keep m3; replace d18 := d18.keep m3; replace b21 := b21.keep m3; replace d21 := d21.keep m3; replace lw := Later.trans_ lw m3)
          | (go_at_call 32; (with_reducible refine (KS.out gN cN _ dN).mono ?_); rintro e y2 ⟨rfl, m2_⟩; replace b1 := b1.keep m2_; replace b3 := b3.keep m2_; replace s3 := s3.keep m2_; replace dN := dN.keep m2_; replace sP := sP.keep m2_; replace b8 := b8.keep m2_; replace dO := dO.keep m2_; replace b11 := b11.keep m2_; replace dP := dP.keep m2_; replace b14 := b14.keep m2_; replace b18 := b18.keep m2_; replace d18 := d18.keep m2_; replace b21 := b21.keep m2_; replace d21 := d21.keep m2_; replace lw := Later.trans_ lw m2_)
          | (go_at_call 11; (with_reducible refine (KC3.out _).mono ?_); rintro e y6 ⟨rfl, m6⟩; replace lw := Later.trans_ lw m6))
        go_ret
        exact ⟨rfl, lw⟩
end Go.Proofs.Ytffgbbfcbobecaa
