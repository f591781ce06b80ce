/-
  THE WALK OF A TRAIL: grow, whole.
-/
import Derived.Test.YtaihfkcoiagdaabDoorGf
import Derived.Great.BuildSlice
namespace Go.Proofs.YtaihfkcoiagdaabDoor
open Go.RowKit Go.ChangeShapes Go.WideShapes Go.ChangeAt

set_option maxRecDepth 100000 in
set_option maxHeartbeats 1000000 in
theorem grow_any (p : Nat) (N : Nat) : ∀ (B : Nat) (old : Wm.Bs) (m n : Nat) (known : Bool) (t : Mk.Tr Wm.Bs) (w : World), n ≤ N → 1 ≤ m → m ≤ n → n ≤ 4611686018427387904 → old.length = 16 ∧ Wm.isBs old → Trl w p B t → p ≤ w.heap.size → Tab w → B ≠ 0 →
    Calls Tryd.prog 53 #[.pointer (some ⟨B, 0, none⟩), .agg (U old).toArray, .int .i64 m, .int .i64 n, .bool known] w fun e w' => e = .returned (.tuple #[.agg (U (Mk.grow nodeD zD old m n known t).1.1).toArray, .agg (U (Mk.grow nodeD zD old m n known t).1.2).toArray]) ∧ Lx B w w' ∧ Trl w' p B (Mk.grow nodeD zD old m n known t).2 := by
  induction N with
  | zero => intro B old m n known t w h1 h2 h3; omega
  | succ N ih =>
    intro B old m n known t w hN h1 hmn hbig hd ht hp tab hB
    by_cases he : m = n
    · subst he
      rw [Mk.grow_all]
      cases known with
      | true => exact grow_eq p B old m t w hd ht
      | false => exact grow_new p B old m t w hd ht hp
    · obtain ⟨X, hX⟩ : ∃ X, X = (U old).toArray := ⟨_, rfl⟩
      have HX := Lib.hid hX
      have HDG := Lib.hid hd
      have h2 : 2 ≤ n := by omega
      have a1 := Mk.sp_lt h2
      have a0 := Mk.sp_pos n
      have hS := Lib.hid fun w' => split_any n w' h2 hbig
      have hn1' : ((m : Int) == (n : Int)) = false := by rw [beq_eq_false_iff_ne]; omega
      have HTb := Lib.hid tab
      have HM := Lib.hid ht.lt
      by_cases hlt : m ≤ Mk.sp n
      · rw [Mk.grow_left _ _ _ _ _ _ _ h2 he hlt]
        have HR := Lib.hid fun (w' : World) (hw : Later w w') => ih B old m (Mk.sp n) known t w' (by omega) h1 hlt (by omega) hd (ht.later hw) (Nat.le_trans hp hw.size) (tab.keep hw) hB
        have hcd := grow_dig old hd t ht.isD (Mk.sp n) m (Mk.sp n) known (Nat.le_refl _)
        obtain ⟨C, hC⟩ : ∃ C, C = Mk.grow nodeD zD old m (Mk.sp n) known t := ⟨_, rfl⟩
        rw [← hC] at HR hcd ⊢
        obtain ⟨K, hK⟩ : ∃ K, K = Mk.sp n := ⟨_, rfl⟩
        rw [← hK] at HR hlt a1 a0 hS
        rw [← hX] at HR ⊢
        have HC1 := Lib.hid hcd.1
        have HC2 := Lib.hid hcd.2
        obtain ⟨M, hM⟩ : ∃ M, M = Mk.nxt zD C.2 := ⟨_, rfl⟩
        have HMD := Lib.hid fun (w' : World) (h : Trl w' p B C.2) => nxt_dig h
        have HN := Lib.hid fun (w' : World) (h : Trl w' p B C.2) => next_any p B C.2 w' h
        rw [← hM] at HN HMD ⊢
        have HO := Lib.hid fun (w' : World) (hm : M.1.length = 16 ∧ Wm.isBs M.1) (tb : Tab w') => node_any C.1.2 M.1 w' HC2.out.1 hm.1 tb
        obtain ⟨F, hF⟩ : ∃ F, F = nodeD C.1.2 M.1 := ⟨_, rfl⟩
        rw [← hF] at HO ⊢
        have HF := Lib.hid (show F.length = 16 by rw [hF]; exact nodeD_len _ _)
        clear hF hM hC hK hX hd ih tab ht hcd he
        have hle : (m : Int) ≤ (K : Int) := by omega
        go_enter Tryd.func53, Tryd.ntmps53
        go_wp2_with (first
          | (go_at_call 54; refine (hS.out _).mono ?_; rintro e w' ⟨rfl, rfl⟩)
          | ((with_reducible refine wpList_load_blk (o := ⟨some 30, .load 31 (.tmp 6), _, _, _, none⟩) rfl _ _ rfl w.heap.size 31 (U old) _ ?_ (((Blk.new w _ _ _ HX.out).alloc _).alloc _) Tryd.underlying31 rfl (dig_sz HDG.out.1) ?_); rfl)
          | (go_at_call 53; rw [← HX.out]; refine (HR.out _ ((((Below.refl _ _).alloc (Nat.le_refl _) _).alloc (by simp) _).alloc (by simp; omega) _)).mono ?_; rintro e w2 ⟨rfl, x2, t2⟩; have q10 : Blk w2 (w.heap.size + 1) 31 (PartB [] 16) := (((Blk.new' (w.alloc (.cells X 31)) _ 31 _ _ (by simp) part16.symm).alloc _)).lx x2 (by have := HM.out; omega); have q11 : Blk w2 (w.heap.size + 1 + 1) 31 (PartB [] 16) := (Blk.new' ((w.alloc (.cells X 31)).alloc (.cells (PartB [] 16).toArray 31)) _ 31 _ _ (by simp) part16.symm).lx x2 (by have := HM.out; omega); have lx2 : Lx B w w2 := (Lx.of ((((Below.refl _ _).alloc (Nat.le_refl _) _).alloc (by simp) _).alloc (by simp; omega) _)).same x2; clear x2)
          | ((with_reducible refine wpList_store_abs (o := ⟨none, .store 31 (.tmp 10) (.tmp 35), _, _, _, none⟩) rfl _ _ _ rfl (w.heap.size + 1) 31 (PartB [] 16) (U C.1.1) ?_ ?_ q10 (dig_sz HC1.out.1) (dig_z HC1.out.1) (U_one _) ?_); rfl; rfl; intro w3 g10 z3; replace q11 := q11.only z3 (by omega))
          | ((with_reducible refine wpList_store_abs (o := ⟨none, .store 31 (.tmp 11) (.tmp 36), _, _, _, none⟩) rfl _ _ _ rfl (w.heap.size + 1 + 1) 31 (PartB [] 16) (U C.1.2) ?_ ?_ q11 (dig_sz HC2.out.1) (dig_z HC2.out.1) (U_one _) ?_); rfl; rfl; intro w4 g11 z4; replace g10 := g10.only z4 (by omega)))
        have l4 : Lx B w w4 := (lx2.new z3 (by omega)).new z4 (by omega)
        have t4 : Trl w4 p B C.2 := (t2.only z3 (by omega) (by have := HM.out; omega)).only z4 (by omega) (by have := HM.out; omega)
        clear lx2 z3 z4 t2 q10 q11
        have hMD := HMD.out _ t4
        have TB4 := Lib.hid fun (w' : World) (x : Lx B w4 w') => HTb.out.lx (l4.same x) hB
        have t4' : Hid (Trl w4.drew p B C.2) := Lib.hid t4
        clear t4
        have hM0 := HM.out
        refine wp_region_held_drew (S := fun w' => w'.rangeAt (w.heap.size + 1) 0 (U C.1.1)) (by kernel_rfl) (blk_at g10.drew) (fun hHeld => ?_)
        simp only [Act.put]
        refine wpAnyH_take (i := 0) (oi := ⟨some 37, .load 31 (.tmp 10), _, _, _, none⟩) (v := .agg (U C.1.1).toArray) rfl (by kernel_rfl) (by kernel_rfl) (by kernel_rfl) (fun _ _ _ h => h) (yieldsIf_load_mid (by rfl) _ _ rfl _ _ rfl _ _ (fun w h => h) Tryd.underlying31 rfl (dig_sz HC1.out.1)) hHeld ?_
        simp only [Act.put, List.setIfInBounds_toArray, List.set_cons_zero, List.set_cons_succ]
        refine wpAnyH_take (i := 2) (oi := ⟨some 39, .move (.tmp 0), _, _, _, none⟩) (v := .pointer (some ⟨B, 0, none⟩)) rfl (by kernel_rfl) (by kernel_rfl) (by kernel_rfl) (fun _ _ _ h => h) (Or.inl ⟨by rfl, fun _ _ => rfl⟩) hHeld ?_
        simp only [Act.put, List.setIfInBounds_toArray, List.set_cons_zero, List.set_cons_succ]
        refine wpAnyH_ready (rs := [1, 3]) (by kernel_rfl) (by simp) (AllReadyH.cons (o := ⟨some 38, .load 31 (.tmp 11), _, _, _, none⟩) rfl (fun K' hK => ?_) (AllReadyH.cons (o := ⟨some 40, .call { callee := .value (.func 65), args := #[.tmp 39], argTypes := #[111] }, _, _, _, none⟩) rfl (fun K' hK => ?_) (AllReadyH.nil)))
        · refine wp_load_mid _ _ rfl _ 0 rfl (U C.1.2) _ (blk_at g11.drew) Tryd.underlying31 rfl (dig_sz HC2.out.1) ?_
          refine hK.out _ _ (blk_at g10.drew) (fun hHeld => ?_)
          clear hK K'
          try simp only [Act.put, List.setIfInBounds_toArray, List.set_cons_zero, List.set_cons_succ]
          refine wpAnyH_ready (rs := [3]) (by kernel_rfl) (by simp) (AllReadyH.cons (o := ⟨some 40, .call { callee := .value (.func 65), args := #[.tmp 39], argTypes := #[111] }, _, _, _, none⟩) rfl (fun K' hK => ?_) (AllReadyH.nil))
          go_simp
          refine (HN.out _ t4'.out).mono ?_
          rintro e w5 ⟨rfl, x5, t5⟩
          have r10 := g10.drew.lx x5 (by omega)
          have r11 := g11.drew.lx x5 (by omega)
          refine hK.out _ _ (blk_at r10) (fun hHeld => ?_)
          clear hK K'
          try simp only [Act.put, List.setIfInBounds_toArray, List.set_cons_zero, List.set_cons_succ]
          refine wpAnyH_ready (rs := [4]) (by kernel_rfl) (by simp) (AllReadyH.cons (o := ⟨some 41, .call { callee := .value (.func 19), args := #[.tmp 38, .tmp 40], argTypes := #[31, 31] }, _, _, _, none⟩) rfl (fun K' hK => ?_) (AllReadyH.nil))
          go_simp
          refine (HO.out w5 hMD (TB4.out w5 x5)).mono ?_
          rintro e w6 ⟨rfl, l6⟩
          refine hK.out _ _ (blk_at (r10.keep l6)) (fun hHeld => ?_)
          clear hK K'
          try simp only [Act.put, List.setIfInBounds_toArray, List.set_cons_zero, List.set_cons_succ]
          refine wpAnyH_ready (rs := [5]) (by kernel_rfl) (by simp) (AllReadyH.cons (o := ⟨none, .store 31 (.tmp 10) (.tmp 37), _, _, _, none⟩) rfl (fun K' hK => ?_) (AllReadyH.nil))
          refine wp_store_whole _ _ _ rfl (w.heap.size + 1) 31 (U C.1.1) (U C.1.1) rfl rfl (r10.keep l6) (dig_sz HC1.out.1) rfl (U_one _) ?_
          intro w7 y1 y2
          refine hK.out _ _ (blk_at y1) (fun hHeld => ?_)
          clear hK K'
          try simp only [Act.put]
          refine wpAnyH_ready (rs := [6]) (by kernel_rfl) (by simp) (AllReadyH.cons (o := ⟨none, .store 31 (.tmp 11) (.tmp 41), _, _, _, none⟩) rfl (fun K' hK => ?_) (AllReadyH.nil))
          refine wp_store_whole _ _ _ rfl (w.heap.size + 1 + 1) 31 (U C.1.2) (U F) rfl rfl ((r11.keep l6).only y2 (by omega)) (dig_sz HF.out) (by rw [U_length, U_length, HF.out, HC2.out.1]) (U_one _) ?_
          intro w8 x1 x2
          refine hK.out _ _ (blk_at (y1.only x2 (by omega))) (fun hHeld => ?_)
          clear hK K'
          try simp only [Act.put]
          refine wpAnyH_done (by kernel_rfl) ?_ _
          go_wp2
          exact bodyPost_ret (v := .tuple #[.agg (U C.1.1).toArray, .agg (U F).toArray]) (results_two Tryd.results53 _ _ (w.heap.size + 1) (w.heap.size + 1 + 1) 31 _ _ _ rfl rfl (y1.only x2 (by omega)) x1 Tryd.underlying31 rfl (dig_sz HC1.out.1) (dig_sz HF.out)) rfl ⟨rfl, ((((l4.same x5).later l6).new y2 (by omega)).new x2 (by omega)), ((t5.later l6).only y2 (by omega) (by omega)).only x2 (by omega) (by omega)⟩
        · go_simp
          refine (HN.out _ t4'.out).mono ?_
          rintro e w5 ⟨rfl, x5, t5⟩
          have r10 := g10.drew.lx x5 (by omega)
          have r11 := g11.drew.lx x5 (by omega)
          refine hK.out _ _ (blk_at r10) (fun hHeld => ?_)
          clear hK K'
          try simp only [Act.put, List.setIfInBounds_toArray, List.set_cons_zero, List.set_cons_succ]
          refine wpAnyH_ready (rs := [1]) (by kernel_rfl) (by simp) (AllReadyH.cons (o := ⟨some 38, .load 31 (.tmp 11), _, _, _, none⟩) rfl (fun K' hK => ?_) (AllReadyH.nil))
          refine wp_load_mid _ _ rfl _ 0 rfl (U C.1.2) _ (blk_at r11) Tryd.underlying31 rfl (dig_sz HC2.out.1) ?_
          refine hK.out _ _ (blk_at r10) (fun hHeld => ?_)
          clear hK K'
          try simp only [Act.put, List.setIfInBounds_toArray, List.set_cons_zero, List.set_cons_succ]
          refine wpAnyH_ready (rs := [4]) (by kernel_rfl) (by simp) (AllReadyH.cons (o := ⟨some 41, .call { callee := .value (.func 19), args := #[.tmp 38, .tmp 40], argTypes := #[31, 31] }, _, _, _, none⟩) rfl (fun K' hK => ?_) (AllReadyH.nil))
          go_simp
          refine (HO.out w5 hMD (TB4.out w5 x5)).mono ?_
          rintro e w6 ⟨rfl, l6⟩
          refine hK.out _ _ (blk_at (r10.keep l6)) (fun hHeld => ?_)
          clear hK K'
          try simp only [Act.put, List.setIfInBounds_toArray, List.set_cons_zero, List.set_cons_succ]
          refine wpAnyH_ready (rs := [5]) (by kernel_rfl) (by simp) (AllReadyH.cons (o := ⟨none, .store 31 (.tmp 10) (.tmp 37), _, _, _, none⟩) rfl (fun K' hK => ?_) (AllReadyH.nil))
          refine wp_store_whole _ _ _ rfl (w.heap.size + 1) 31 (U C.1.1) (U C.1.1) rfl rfl (r10.keep l6) (dig_sz HC1.out.1) rfl (U_one _) ?_
          intro w7 y1 y2
          refine hK.out _ _ (blk_at y1) (fun hHeld => ?_)
          clear hK K'
          try simp only [Act.put]
          refine wpAnyH_ready (rs := [6]) (by kernel_rfl) (by simp) (AllReadyH.cons (o := ⟨none, .store 31 (.tmp 11) (.tmp 41), _, _, _, none⟩) rfl (fun K' hK => ?_) (AllReadyH.nil))
          refine wp_store_whole _ _ _ rfl (w.heap.size + 1 + 1) 31 (U C.1.2) (U F) rfl rfl ((r11.keep l6).only y2 (by omega)) (dig_sz HF.out) (by rw [U_length, U_length, HF.out, HC2.out.1]) (U_one _) ?_
          intro w8 x1 x2
          refine hK.out _ _ (blk_at (y1.only x2 (by omega))) (fun hHeld => ?_)
          clear hK K'
          try simp only [Act.put]
          refine wpAnyH_done (by kernel_rfl) ?_ _
          go_wp2
          exact bodyPost_ret (v := .tuple #[.agg (U C.1.1).toArray, .agg (U F).toArray]) (results_two Tryd.results53 _ _ (w.heap.size + 1) (w.heap.size + 1 + 1) 31 _ _ _ rfl rfl (y1.only x2 (by omega)) x1 Tryd.underlying31 rfl (dig_sz HC1.out.1) (dig_sz HF.out)) rfl ⟨rfl, ((((l4.same x5).later l6).new y2 (by omega)).new x2 (by omega)), ((t5.later l6).only y2 (by omega) (by omega)).only x2 (by omega) (by omega)⟩
      · rw [Mk.grow_right _ _ _ _ _ _ _ h2 he hlt]
        have HR := Lib.hid fun (w' : World) (hw : Later w w') => ih B old (m - Mk.sp n) (n - Mk.sp n) false t w' (by omega) (by omega) (by omega) (by omega) hd (ht.later hw) (Nat.le_trans hp hw.size) (tab.keep hw) hB
        have hcd := grow_dig old hd t ht.isD (n - Mk.sp n) (m - Mk.sp n) (n - Mk.sp n) false (Nat.le_refl _)
        obtain ⟨C, hC⟩ : ∃ C, C = Mk.grow nodeD zD old (m - Mk.sp n) (n - Mk.sp n) false t := ⟨_, rfl⟩
        rw [← hC] at HR hcd ⊢
        obtain ⟨K, hK⟩ : ∃ K, K = Mk.sp n := ⟨_, rfl⟩
        rw [← hK] at HR hlt a1 a0 hS
        rw [← hX, show ((m - K : Nat) : Int) = (m : Int) - (K : Int) by omega, show ((n - K : Nat) : Int) = (n : Int) - (K : Int) by omega] at HR
        rw [← hX]
        have b0 : (K : Int) ≤ (m : Int) := by omega
        have b1 : (m : Int) - (K : Int) ≤ 4611686018427387904 := by omega
        have b2 : (0 : Int) ≤ (m : Int) - (K : Int) := by omega
        have b3 : (n : Int) - (K : Int) ≤ 4611686018427387904 := by omega
        have b4 : (0 : Int) ≤ (n : Int) - (K : Int) := by omega
        have nlt : ¬ ((m : Int) ≤ (K : Int)) := by omega
        have HC1 := Lib.hid hcd.1
        have HC2 := Lib.hid hcd.2
        obtain ⟨M, hM⟩ : ∃ M, M = Mk.nxt zD C.2 := ⟨_, rfl⟩
        have HMD := Lib.hid fun (w' : World) (h : Trl w' p B C.2) => nxt_dig h
        have HN := Lib.hid fun (w' : World) (h : Trl w' p B C.2) => next_any p B C.2 w' h
        rw [← hM] at HN HMD ⊢
        have HO1 := Lib.hid fun (w' : World) (hm : M.1.length = 16 ∧ Wm.isBs M.1) (tb : Tab w') => node_any M.1 C.1.1 w' hm.1 HC1.out.1 tb
        have HO2 := Lib.hid fun (w' : World) (hm : M.1.length = 16 ∧ Wm.isBs M.1) (tb : Tab w') => node_any M.1 C.1.2 w' hm.1 HC2.out.1 tb
        obtain ⟨E, hE⟩ : ∃ E, E = nodeD M.1 C.1.1 := ⟨_, rfl⟩
        rw [← hE] at HO1 ⊢
        have HE := Lib.hid (show E.length = 16 by rw [hE]; exact nodeD_len _ _)
        obtain ⟨F, hF⟩ : ∃ F, F = nodeD M.1 C.1.2 := ⟨_, rfl⟩
        rw [← hF] at HO2 ⊢
        have HF := Lib.hid (show F.length = 16 by rw [hF]; exact nodeD_len _ _)
        clear hE
        clear hF hM hC hK hX hd ih tab ht hcd he
        go_enter Tryd.func53, Tryd.ntmps53
        go_wp2_with (first
          | (go_at_call 54; refine (hS.out _).mono ?_; rintro e w' ⟨rfl, rfl⟩)
          | ((with_reducible refine wpList_load_blk (o := ⟨some 44, .load 31 (.tmp 6), _, _, _, none⟩) rfl _ _ rfl w.heap.size 31 (U old) _ ?_ (((Blk.new w _ _ _ HX.out).alloc _).alloc _) Tryd.underlying31 rfl (dig_sz HDG.out.1) ?_); rfl)
          | (go_at_call 53; rw [← HX.out]; refine (HR.out _ ((((Below.refl _ _).alloc (Nat.le_refl _) _).alloc (by simp) _).alloc (by simp; omega) _)).mono ?_; rintro e w2 ⟨rfl, x2, t2⟩; have q10 : Blk w2 (w.heap.size + 1) 31 (PartB [] 16) := (((Blk.new' (w.alloc (.cells X 31)) _ 31 _ _ (by simp) part16.symm).alloc _)).lx x2 (by have := HM.out; omega); have q11 : Blk w2 (w.heap.size + 1 + 1) 31 (PartB [] 16) := (Blk.new' ((w.alloc (.cells X 31)).alloc (.cells (PartB [] 16).toArray 31)) _ 31 _ _ (by simp) part16.symm).lx x2 (by have := HM.out; omega); have lx2 : Lx B w w2 := (Lx.of ((((Below.refl _ _).alloc (Nat.le_refl _) _).alloc (by simp) _).alloc (by simp; omega) _)).same x2; clear x2)
          | ((with_reducible refine wpList_store_abs (o := ⟨none, .store 31 (.tmp 10) (.tmp 52), _, _, _, none⟩) rfl _ _ _ rfl (w.heap.size + 1) 31 (PartB [] 16) (U C.1.1) ?_ ?_ q10 (dig_sz HC1.out.1) (dig_z HC1.out.1) (U_one _) ?_); rfl; rfl; intro w3 g10 z3; replace q11 := q11.only z3 (by omega))
          | ((with_reducible refine wpList_store_abs (o := ⟨none, .store 31 (.tmp 11) (.tmp 53), _, _, _, none⟩) rfl _ _ _ rfl (w.heap.size + 1 + 1) 31 (PartB [] 16) (U C.1.2) ?_ ?_ q11 (dig_sz HC2.out.1) (dig_z HC2.out.1) (U_one _) ?_); rfl; rfl; intro w4 g11 z4; replace g10 := g10.only z4 (by omega); have l4 : Lx B w w4 := (lx2.new z3 (by omega)).new z4 (by omega); have t4 : Hid (Trl w4 p B C.2) := Lib.hid ((t2.only z3 (by omega) (by have := HM.out; omega)).only z4 (by omega) (by have := HM.out; omega)); have hMD := HMD.out _ t4.out; clear lx2 z3 z4 t2 q10 q11)
          | (go_at_call 65; refine (HN.out _ t4.out).mono ?_; rintro e w5 ⟨rfl, x5, t5⟩; replace g10 := g10.lx x5 (by have := HM.out; omega); replace g11 := g11.lx x5 (by have := HM.out; omega); replace l4 := l4.same x5; clear x5)
          | ((with_reducible refine wpList_store_abs (o := ⟨none, .store 31 (.tmp 13) (.tmp 55), _, _, _, none⟩) rfl _ _ _ rfl w5.heap.size 31 (PartB [] 16) (U M.1) ?_ ?_ (Blk.new w5 _ _ _ rfl) (dig_sz hMD.1) (dig_z hMD.1) (U_one _) ?_); rfl; rfl; intro w6 g13 z6))
        have hs5 := g11.lt
        have hM0 := HM.out
        have hB5 := t5.lt
        have l6 : Lx B w w6 := (l4.later ((Below.refl _ _).alloc (Nat.le_refl _) _)).new z6 (by omega)
        have t6 : Trl w6 p B M.2 := (t5.later ((Below.refl _ _).alloc (Nat.le_refl _) _)).only z6 (by omega) (by omega)
        replace g10 := (g10.alloc (.cells (PartB [] 16).toArray 31)).only z6 (by omega)
        replace g11 := (g11.alloc (.cells (PartB [] 16).toArray 31)).only z6 (by omega)
        clear z6 l4 t4 t5
        obtain ⟨G, hG⟩ : ∃ G, G = w5.heap.size := ⟨_, rfl⟩
        rw [← hG] at g13 hs5 hB5 ⊢
        clear hG
        have TB6 := Lib.hid fun (w' : World) (x : Later w6 w') => HTb.out.lx (l6.later x) hB
        refine wp_region_held_drew (S := fun w' => w'.rangeAt G 0 (U M.1)) (by kernel_rfl) (blk_at g13.drew) (fun hHeld => ?_)
        simp only [Act.put]
        refine wpAnyH_take (i := 0) (oi := ⟨some 56, .load 31 (.tmp 13), _, _, _, none⟩) (v := .agg (U M.1).toArray) rfl (by kernel_rfl) (by kernel_rfl) (by kernel_rfl) (fun _ _ _ h => h) (yieldsIf_load_mid (by rfl) _ _ rfl _ _ rfl _ _ (fun w h => h) Tryd.underlying31 rfl (dig_sz hMD.1)) hHeld ?_
        simp only [Act.put, List.setIfInBounds_toArray, List.set_cons_zero, List.set_cons_succ]
        refine wpAnyH_take (i := 3) (oi := ⟨some 59, .load 31 (.tmp 13), _, _, _, none⟩) (v := .agg (U M.1).toArray) rfl (by kernel_rfl) (by kernel_rfl) (by kernel_rfl) (fun _ _ _ h => h) (yieldsIf_load_mid (by rfl) _ _ rfl _ _ rfl _ _ (fun w h => h) Tryd.underlying31 rfl (dig_sz hMD.1)) hHeld ?_
        simp only [Act.put, List.setIfInBounds_toArray, List.set_cons_zero, List.set_cons_succ]
        refine wpAnyH_ready (rs := [1, 4]) (by kernel_rfl) (by simp) (AllReadyH.cons (o := ⟨some 57, .load 31 (.tmp 10), _, _, _, none⟩) rfl (fun K' hK => ?_) (AllReadyH.cons (o := ⟨some 60, .load 31 (.tmp 11), _, _, _, none⟩) rfl (fun K' hK => ?_) (AllReadyH.nil)))
        · refine wp_load_mid _ _ rfl _ 0 rfl (U C.1.1) _ (blk_at g10.drew) Tryd.underlying31 rfl (dig_sz HC1.out.1) ?_
          refine hK.out _ _ (blk_at g13.drew) (fun hHeld => ?_)
          clear hK K'
          try simp only [Act.put, List.setIfInBounds_toArray, List.set_cons_zero, List.set_cons_succ]
          refine wpAnyH_ready (rs := [2, 4]) (by kernel_rfl) (by simp) (AllReadyH.cons (o := ⟨some 58, .call { callee := .value (.func 19), args := #[.tmp 56, .tmp 57], argTypes := #[31, 31] }, _, _, _, none⟩) rfl (fun K' hK => ?_) (AllReadyH.cons (o := ⟨some 60, .load 31 (.tmp 11), _, _, _, none⟩) rfl (fun K' hK => ?_) (AllReadyH.nil)))
          · go_simp
            refine (HO1.out w6.drew hMD (TB6.out w6.drew (Below.refl _ _).drew)).mono ?_
            rintro e w7 ⟨rfl, l7'⟩
            have l7 : Later w6 w7 := Later.trans_ (Below.refl _ _).drew l7'
            refine hK.out _ _ (blk_at (g13.keep l7)) (fun hHeld => ?_)
            clear hK K'
            try simp only [Act.put, List.setIfInBounds_toArray, List.set_cons_zero, List.set_cons_succ]
            refine wpAnyH_ready (rs := [4]) (by kernel_rfl) (by simp) (AllReadyH.cons (o := ⟨some 60, .load 31 (.tmp 11), _, _, _, none⟩) rfl (fun K' hK => ?_) (AllReadyH.nil))
            refine wp_load_mid _ _ rfl _ 0 rfl (U C.1.2) _ (blk_at (g11.keep l7)) Tryd.underlying31 rfl (dig_sz HC2.out.1) ?_
            refine hK.out _ _ (blk_at (g13.keep l7)) (fun hHeld => ?_)
            clear hK K'
            try simp only [Act.put, List.setIfInBounds_toArray, List.set_cons_zero, List.set_cons_succ]
            refine wpAnyH_ready (rs := [5]) (by kernel_rfl) (by simp) (AllReadyH.cons (o := ⟨some 61, .call { callee := .value (.func 19), args := #[.tmp 59, .tmp 60], argTypes := #[31, 31] }, _, _, _, none⟩) rfl (fun K' hK => ?_) (AllReadyH.nil))
            go_simp
            refine (HO2.out w7 hMD (TB6.out w7 l7)).mono ?_
            rintro e w8 ⟨rfl, l8⟩
            refine hK.out _ _ (blk_at ((g13.keep l7).keep l8)) (fun hHeld => ?_)
            clear hK K'
            try simp only [Act.put, List.setIfInBounds_toArray, List.set_cons_zero, List.set_cons_succ]
            refine wpAnyH_ready (rs := [6]) (by kernel_rfl) (by simp) (AllReadyH.cons (o := ⟨none, .store 31 (.tmp 10) (.tmp 58), _, _, _, none⟩) rfl (fun K' hK => ?_) (AllReadyH.nil))
            refine wp_store_whole _ _ _ rfl (w.heap.size + 1) 31 (U C.1.1) (U E) rfl rfl ((g10.keep l7).keep l8) (dig_sz HE.out) (by rw [U_length, U_length, HE.out, HC1.out.1]) (U_one _) ?_
            intro w9 y1 y2
            refine hK.out _ _ (blk_at (((g13.keep l7).keep l8).only y2 (by omega))) (fun hHeld => ?_)
            clear hK K'
            try simp only [Act.put]
            refine wpAnyH_ready (rs := [7]) (by kernel_rfl) (by simp) (AllReadyH.cons (o := ⟨none, .store 31 (.tmp 11) (.tmp 61), _, _, _, none⟩) rfl (fun K' hK => ?_) (AllReadyH.nil))
            refine wp_store_whole _ _ _ rfl (w.heap.size + 1 + 1) 31 (U C.1.2) (U F) rfl rfl (((g11.keep l7).keep l8).only y2 (by omega)) (dig_sz HF.out) (by rw [U_length, U_length, HF.out, HC2.out.1]) (U_one _) ?_
            intro w10 x1 x2
            refine hK.out _ _ (blk_at ((((g13.keep l7).keep l8).only y2 (by omega)).only x2 (by omega))) (fun hHeld => ?_)
            clear hK K'
            try simp only [Act.put]
            refine wpAnyH_done (by kernel_rfl) ?_ _
            go_wp2
            exact bodyPost_ret (v := .tuple #[.agg (U E).toArray, .agg (U F).toArray]) (results_two Tryd.results53 _ _ (w.heap.size + 1) (w.heap.size + 1 + 1) 31 _ _ _ rfl rfl (y1.only x2 (by omega)) x1 Tryd.underlying31 rfl (dig_sz HE.out) (dig_sz HF.out)) rfl ⟨rfl, (((l6.later (Later.trans_ (a := w6) l7 l8)).new y2 (by omega)).new x2 (by omega)), (((t6.later l7).later l8).only y2 (by omega) (by omega)).only x2 (by omega) (by omega)⟩
          · refine wp_load_mid _ _ rfl _ 0 rfl (U C.1.2) _ (blk_at g11.drew) Tryd.underlying31 rfl (dig_sz HC2.out.1) ?_
            refine hK.out _ _ (blk_at g13.drew) (fun hHeld => ?_)
            clear hK K'
            try simp only [Act.put, List.setIfInBounds_toArray, List.set_cons_zero, List.set_cons_succ]
            refine wpAnyH_ready (rs := [2]) (by kernel_rfl) (by simp) (AllReadyH.cons (o := ⟨some 58, .call { callee := .value (.func 19), args := #[.tmp 56, .tmp 57], argTypes := #[31, 31] }, _, _, _, none⟩) rfl (fun K' hK => ?_) (AllReadyH.nil))
            go_simp
            refine (HO1.out w6.drew hMD (TB6.out w6.drew (Below.refl _ _).drew)).mono ?_
            rintro e w7 ⟨rfl, l7'⟩
            have l7 : Later w6 w7 := Later.trans_ (Below.refl _ _).drew l7'
            refine hK.out _ _ (blk_at (g13.keep l7)) (fun hHeld => ?_)
            clear hK K'
            try simp only [Act.put, List.setIfInBounds_toArray, List.set_cons_zero, List.set_cons_succ]
            refine wpAnyH_ready (rs := [5]) (by kernel_rfl) (by simp) (AllReadyH.cons (o := ⟨some 61, .call { callee := .value (.func 19), args := #[.tmp 59, .tmp 60], argTypes := #[31, 31] }, _, _, _, none⟩) rfl (fun K' hK => ?_) (AllReadyH.nil))
            go_simp
            refine (HO2.out w7 hMD (TB6.out w7 l7)).mono ?_
            rintro e w8 ⟨rfl, l8⟩
            refine hK.out _ _ (blk_at ((g13.keep l7).keep l8)) (fun hHeld => ?_)
            clear hK K'
            try simp only [Act.put, List.setIfInBounds_toArray, List.set_cons_zero, List.set_cons_succ]
            refine wpAnyH_ready (rs := [6]) (by kernel_rfl) (by simp) (AllReadyH.cons (o := ⟨none, .store 31 (.tmp 10) (.tmp 58), _, _, _, none⟩) rfl (fun K' hK => ?_) (AllReadyH.nil))
            refine wp_store_whole _ _ _ rfl (w.heap.size + 1) 31 (U C.1.1) (U E) rfl rfl ((g10.keep l7).keep l8) (dig_sz HE.out) (by rw [U_length, U_length, HE.out, HC1.out.1]) (U_one _) ?_
            intro w9 y1 y2
            refine hK.out _ _ (blk_at (((g13.keep l7).keep l8).only y2 (by omega))) (fun hHeld => ?_)
            clear hK K'
            try simp only [Act.put]
            refine wpAnyH_ready (rs := [7]) (by kernel_rfl) (by simp) (AllReadyH.cons (o := ⟨none, .store 31 (.tmp 11) (.tmp 61), _, _, _, none⟩) rfl (fun K' hK => ?_) (AllReadyH.nil))
            refine wp_store_whole _ _ _ rfl (w.heap.size + 1 + 1) 31 (U C.1.2) (U F) rfl rfl (((g11.keep l7).keep l8).only y2 (by omega)) (dig_sz HF.out) (by rw [U_length, U_length, HF.out, HC2.out.1]) (U_one _) ?_
            intro w10 x1 x2
            refine hK.out _ _ (blk_at ((((g13.keep l7).keep l8).only y2 (by omega)).only x2 (by omega))) (fun hHeld => ?_)
            clear hK K'
            try simp only [Act.put]
            refine wpAnyH_done (by kernel_rfl) ?_ _
            go_wp2
            exact bodyPost_ret (v := .tuple #[.agg (U E).toArray, .agg (U F).toArray]) (results_two Tryd.results53 _ _ (w.heap.size + 1) (w.heap.size + 1 + 1) 31 _ _ _ rfl rfl (y1.only x2 (by omega)) x1 Tryd.underlying31 rfl (dig_sz HE.out) (dig_sz HF.out)) rfl ⟨rfl, (((l6.later (Later.trans_ (a := w6) l7 l8)).new y2 (by omega)).new x2 (by omega)), (((t6.later l7).later l8).only y2 (by omega) (by omega)).only x2 (by omega) (by omega)⟩
        · refine wp_load_mid _ _ rfl _ 0 rfl (U C.1.2) _ (blk_at g11.drew) Tryd.underlying31 rfl (dig_sz HC2.out.1) ?_
          refine hK.out _ _ (blk_at g13.drew) (fun hHeld => ?_)
          clear hK K'
          try simp only [Act.put, List.setIfInBounds_toArray, List.set_cons_zero, List.set_cons_succ]
          refine wpAnyH_ready (rs := [1]) (by kernel_rfl) (by simp) (AllReadyH.cons (o := ⟨some 57, .load 31 (.tmp 10), _, _, _, none⟩) rfl (fun K' hK => ?_) (AllReadyH.nil))
          refine wp_load_mid _ _ rfl _ 0 rfl (U C.1.1) _ (blk_at g10.drew) Tryd.underlying31 rfl (dig_sz HC1.out.1) ?_
          refine hK.out _ _ (blk_at g13.drew) (fun hHeld => ?_)
          clear hK K'
          try simp only [Act.put, List.setIfInBounds_toArray, List.set_cons_zero, List.set_cons_succ]
          refine wpAnyH_ready (rs := [2]) (by kernel_rfl) (by simp) (AllReadyH.cons (o := ⟨some 58, .call { callee := .value (.func 19), args := #[.tmp 56, .tmp 57], argTypes := #[31, 31] }, _, _, _, none⟩) rfl (fun K' hK => ?_) (AllReadyH.nil))
          go_simp
          refine (HO1.out w6.drew hMD (TB6.out w6.drew (Below.refl _ _).drew)).mono ?_
          rintro e w7 ⟨rfl, l7'⟩
          have l7 : Later w6 w7 := Later.trans_ (Below.refl _ _).drew l7'
          refine hK.out _ _ (blk_at (g13.keep l7)) (fun hHeld => ?_)
          clear hK K'
          try simp only [Act.put, List.setIfInBounds_toArray, List.set_cons_zero, List.set_cons_succ]
          refine wpAnyH_ready (rs := [5]) (by kernel_rfl) (by simp) (AllReadyH.cons (o := ⟨some 61, .call { callee := .value (.func 19), args := #[.tmp 59, .tmp 60], argTypes := #[31, 31] }, _, _, _, none⟩) rfl (fun K' hK => ?_) (AllReadyH.nil))
          go_simp
          refine (HO2.out w7 hMD (TB6.out w7 l7)).mono ?_
          rintro e w8 ⟨rfl, l8⟩
          refine hK.out _ _ (blk_at ((g13.keep l7).keep l8)) (fun hHeld => ?_)
          clear hK K'
          try simp only [Act.put, List.setIfInBounds_toArray, List.set_cons_zero, List.set_cons_succ]
          refine wpAnyH_ready (rs := [6]) (by kernel_rfl) (by simp) (AllReadyH.cons (o := ⟨none, .store 31 (.tmp 10) (.tmp 58), _, _, _, none⟩) rfl (fun K' hK => ?_) (AllReadyH.nil))
          refine wp_store_whole _ _ _ rfl (w.heap.size + 1) 31 (U C.1.1) (U E) rfl rfl ((g10.keep l7).keep l8) (dig_sz HE.out) (by rw [U_length, U_length, HE.out, HC1.out.1]) (U_one _) ?_
          intro w9 y1 y2
          refine hK.out _ _ (blk_at (((g13.keep l7).keep l8).only y2 (by omega))) (fun hHeld => ?_)
          clear hK K'
          try simp only [Act.put]
          refine wpAnyH_ready (rs := [7]) (by kernel_rfl) (by simp) (AllReadyH.cons (o := ⟨none, .store 31 (.tmp 11) (.tmp 61), _, _, _, none⟩) rfl (fun K' hK => ?_) (AllReadyH.nil))
          refine wp_store_whole _ _ _ rfl (w.heap.size + 1 + 1) 31 (U C.1.2) (U F) rfl rfl (((g11.keep l7).keep l8).only y2 (by omega)) (dig_sz HF.out) (by rw [U_length, U_length, HF.out, HC2.out.1]) (U_one _) ?_
          intro w10 x1 x2
          refine hK.out _ _ (blk_at ((((g13.keep l7).keep l8).only y2 (by omega)).only x2 (by omega))) (fun hHeld => ?_)
          clear hK K'
          try simp only [Act.put]
          refine wpAnyH_done (by kernel_rfl) ?_ _
          go_wp2
          exact bodyPost_ret (v := .tuple #[.agg (U E).toArray, .agg (U F).toArray]) (results_two Tryd.results53 _ _ (w.heap.size + 1) (w.heap.size + 1 + 1) 31 _ _ _ rfl rfl (y1.only x2 (by omega)) x1 Tryd.underlying31 rfl (dig_sz HE.out) (dig_sz HF.out)) rfl ⟨rfl, (((l6.later (Later.trans_ (a := w6) l7 l8)).new y2 (by omega)).new x2 (by omega)), (((t6.later l7).later l8).only y2 (by omega) (by omega)).only x2 (by omega) (by omega)⟩
end Go.Proofs.YtaihfkcoiagdaabDoor

/-
  THE WALK OF A TRAIL: gather; the search among places.
-/
namespace Go.Proofs.YtaihfkcoiagdaabDoor
open Go.RowKit Go.ChangeShapes Go.WideShapes Go.ChangeAt

theorem Sl.ilen {w : World} {A : Option Addr} {n : Nat} {l : List Int} (h : Sl w 1 A n (N64 l)) : l.length = n := by have := h.1; unfold N64 at this; rw [List.length_map] at this; omega
theorem Sl.icells {w : World} {A : Option Addr} {n : Nat} {l : List Int} (h : Sl w 1 A n (N64 l)) (hn : 0 < n) :
    ∃ b off, A = some ⟨b, off, none⟩ ∧ b < w.heap.size ∧ ∀ j, j < l.length → w.cell? ⟨b, off + j, none⟩ = some (.int .i64 (l.getD j 0)) := by
  have hl := h.ilen
  obtain ⟨ad, e, hb, hc⟩ := h.2 hn
  have h0 := hc 0 (.int .i64 (l.getD 0 0)) (by unfold N64; rw [List.getElem?_map, List.getElem?_eq_getElem (by omega)]; simp [List.getD_eq_getElem?_getD, List.getElem?_eq_getElem (show 0 < l.length by omega)])
  have hs := World.cell?_spot h0
  obtain ⟨b, off, spot⟩ := ad
  have hs' : spot = none := by simpa [Addr.add] using hs
  subst hs'
  refine ⟨b, off, e, hb, fun j hj => ?_⟩
  have h1 := hc j (.int .i64 (l.getD j 0)) (by unfold N64; rw [List.getElem?_map, List.getElem?_eq_getElem hj]; simp [List.getD_eq_getElem?_getD, List.getElem?_eq_getElem hj])
  have e2 : (⟨b, off, none⟩ : Addr).add j = ⟨b, off + j, none⟩ := by
    unfold Addr.add; split
    · rename_i h; subst h; rfl
    · rfl
  rwa [e2] at h1

theorem bsearch_any (A : Option Addr) (n c : Nat) (l : List Int) (x : Int) (w : World) (h : Sl w 1 A n (N64 l)) (hs : l.Pairwise (· < ·)) (hbig : n < 4611686018427387904) :
    Calls Tryd.prog 44 #[.slice A n c, .int .i64 x] w fun e w' => (∃ b, e = .returned (.tuple #[.int .i64 (Mk.cnt l x : Nat), .bool b])) ∧ ∃ q, w' = w.drewN q := by
  have hl := h.ilen
  rcases Nat.eq_zero_or_pos n with h0 | h0
  · subst h0
    have : l = [] := List.eq_nil_of_length_eq_zero hl
    subst this
    refine (Tryd.slices_BinarySearch_int_empty A c x w).mono ?_
    rintro e w' ⟨rfl, rfl⟩
    exact ⟨⟨false, rfl⟩, 0, rfl⟩
  · obtain ⟨b, off, rfl, _, hc⟩ := h.icells h0
    refine (Tryd.slices_BinarySearch_int b off n c l x w (by omega) hbig hc ?_).mono ?_
    · exact (hs.imp fun h => Int.le_of_lt h).sublist (List.take_sublist _ _)
    · rintro e w' ⟨rfl, q, rfl⟩
      rw [List.take_of_length_le (by omega)]
      exact ⟨⟨_, rfl⟩, q, rfl⟩

theorem gather_dig (b : Int) (n : Nat) (ps : List Int) (fs : List Wm.Bs) (t : Mk.Tr Wm.Bs) (ht : isD t.rest) (hf : isD fs) :
    (Mk.gather nodeD zD b n ps fs t).1.length = 16 ∧ Wm.isBs (Mk.gather nodeD zD b n ps fs t).1 := by
  by_cases h0 : ps = []
  · subst h0; rw [Mk.gather_none]; exact isD_nxt ht
  · by_cases h2 : 2 ≤ n
    · rw [Mk.gather_two _ _ _ _ _ _ _ h0 h2]; exact ⟨nodeD_len _ _, nodeD_bs _ _⟩
    · rw [Mk.gather_one _ _ _ _ _ _ _ h0 h2]
      match fs, hf with
      | [], _ => exact ⟨zD_len, zD_bs⟩
      | d :: r, hf => exact hf d List.mem_cons_self

/-- What a check is given besides the trail: places and what is found there, in memory. -/
structure Fnd (w : World) (p B : Nat) (A1 A2 : Option Addr) (k c1 c2 : Nat) (ps : List Int) (fs : List Wm.Bs) : Prop where
  ints : Sl w 1 A1 k (N64 ps)
  digs : Sl w 16 A2 k (Ds fs)
  isd : isD fs
  asc : ps.Pairwise (· < ·)
  big : k < 4611686018427387904
  le1 : k ≤ c1
  le2 : k ≤ c2
  max1 : c1 ≤ 9223372036854775807
  max2 : c2 ≤ 9223372036854775807
  ne1 : 0 < k → ∀ ad, A1 = some ad → ad.block ≠ B
  ne2 : 0 < k → ∀ ad, A2 = some ad → ad.block ≠ B
theorem Fnd.lx {w w' : World} {p B : Nat} {A1 A2 : Option Addr} {k c1 c2 : Nat} {ps : List Int} {fs : List Wm.Bs} (h : Fnd w p B A1 A2 k c1 c2 ps fs) (x : Lx B w w') : Fnd w' p B A1 A2 k c1 c2 ps fs :=
  ⟨h.ints.lx x h.ne1, h.digs.lx x h.ne2, h.isd, h.asc, h.big, h.le1, h.le2, h.max1, h.max2, h.ne1, h.ne2⟩

set_option maxRecDepth 100000 in
set_option maxHeartbeats 1000000 in
theorem gather_none (p B : Nat) (b : Int) (n : Nat) (A1 A2 : Option Addr) (c1 c2 : Nat) (t : Mk.Tr Wm.Bs) (w : World) (ht : Trl w p B t) (hp : p ≤ w.heap.size) :
    Calls Tryd.prog 48 #[.pointer (some ⟨B, 0, none⟩), .int .i64 b, .int .i64 n, .slice A1 0 c1, .slice A2 0 c2] w fun e w' => e = .returned (.agg (U (Mk.nxt zD t).1).toArray) ∧ Lx B w w' ∧ Trl w' p B (Mk.nxt zD t).2 := by
  have HT := Lib.hid ht
  have HM := Lib.hid ht.lt
  obtain ⟨M, hM⟩ : ∃ M, M = Mk.nxt zD t := ⟨_, rfl⟩
  have HMD := Lib.hid (nxt_dig ht)
  have HN := Lib.hid fun (w' : World) (h : Trl w' p B t) => next_any p B t w' h
  rw [← hM] at HN HMD ⊢
  clear ht hM
  go_enter Tryd.func48, Tryd.ntmps48
  go_wp2_with (first
    | (go_at_call 65; refine (HN.out _ (HT.out.later ((Below.refl _ _).alloc (Nat.le_refl _) _))).mono ?_; rintro e w2 ⟨rfl, x2, t2⟩)
    | ((with_reducible refine wpList_store_abs (o := ⟨none, .store 31 (.tmp 10) (.tmp 20), _, _, _, none⟩) rfl _ _ _ rfl w.heap.size 31 (PartB [] 16) (U M.1) ?_ ?_ ((Blk.new w _ _ _ rfl).lx x2 (by have := HM.out; omega)) (dig_sz HMD.out.1) (dig_z HMD.out.1) (U_one _) ?_); rfl; rfl; intro w3 y1 z2))
  have l3 : Lx B w w3 := ((Lx.of ((Below.refl _ _).alloc (Nat.le_refl _) _)).same x2).new z2 (Nat.le_refl _)
  exact bodyPost_ret (v := .agg (U M.1).toArray) (dig_ret Tryd.results48 _ w.heap.size _ HMD.out.1 rfl y1) rfl ⟨rfl, l3, t2.only z2 hp (by have := HM.out; omega)⟩

set_option maxRecDepth 100000 in
set_option maxHeartbeats 1000000 in
theorem gather_one (p B : Nat) (b : Int) (A1 : Option Addr) (ad : Addr) (k c1 c2 : Nat) (d : Wm.Bs) (t : Mk.Tr Wm.Bs) (w : World) (ht : Trl w p B t) (hd : d.length = 16) (hv : ad.block < w.heap.size) (hc : ∀ j v, (U d)[j]? = some v → w.cell? (ad.add j) = some v) (hk : 1 ≤ k) :
    Calls Tryd.prog 48 #[.pointer (some ⟨B, 0, none⟩), .int .i64 b, .int .i64 1, .slice A1 k c1, .slice (some ad) k c2] w fun e w' => e = .returned (.agg (U d).toArray) ∧ Lx B w w' ∧ Trl w' p B t := by
  have HT := Lib.hid ht
  have HL := Lib.hid hd
  have HC : Hid (∀ j v, (U d)[j]? = some v → (w.alloc (.cells (PartB [] 16).toArray 31)).cell? (ad.add j) = some v) := Lib.hid fun j v h => by rw [World.cell?_alloc_lt _ _ _ (by rw [addr_add_block]; exact hv)]; exact hc j v h
  rw [part16] at HC
  have hk0 : ((k : Int) == 0) = false := by rw [beq_eq_false_iff_ne]; omega
  have hk1 : (1 : Int) ≤ (k : Int) := by omega
  clear ht hd hc
  go_enter Tryd.func48, Tryd.ntmps48
  go_wp2_with (first
    | ((with_reducible refine wpList_load_addr (o := ⟨some 25, .load 31 (.tmp 24), _, _, _, none⟩) rfl _ _ rfl ad (U d) _ ?_ HC.out Tryd.underlying31 rfl (dig_sz HL.out) ?_); rfl)
    | ((with_reducible refine wpList_store_abs (o := ⟨none, .store 31 (.tmp 10) (.tmp 25), _, _, _, none⟩) rfl _ _ _ rfl w.heap.size 31 (PartB [] 16) (U d) ?_ ?_ (Blk.new w _ _ _ rfl) (dig_sz HL.out) (dig_z HL.out) (U_one _) ?_); rfl; rfl; intro w3 y1 z2))
  have l3 : Later w w3 := Below.only ((Below.refl _ _).alloc (Nat.le_refl _) _) z2 (Nat.le_refl _)
  exact bodyPost_ret (v := .agg (U d).toArray) (dig_ret Tryd.results48 _ w.heap.size _ HL.out rfl y1) rfl ⟨rfl, Lx.of l3, HT.out.later l3⟩
end Go.Proofs.YtaihfkcoiagdaabDoor

/-
  THE WALK OF A TRAIL: gather, whole.
-/
namespace Go.Proofs.YtaihfkcoiagdaabDoor
open Go.RowKit Go.ChangeShapes Go.WideShapes Go.ChangeAt

theorem later_drewN (w : World) (n : Nat) : Later w (w.drewN n) := ⟨rfl, rfl, rfl, Nat.le_refl _, fun _ _ => rfl⟩
theorem N64_take (l : List Int) (q : Nat) : (N64 l).take q = N64 (l.take q) := by unfold N64; rw [List.map_take]
theorem N64_drop (l : List Int) (q : Nat) : (N64 l).drop q = N64 (l.drop q) := by unfold N64; rw [List.map_drop]
theorem Fnd.front {w : World} {p B : Nat} {A1 A2 : Option Addr} {k c1 c2 : Nat} {ps : List Int} {fs : List Wm.Bs} (h : Fnd w p B A1 A2 k c1 c2 ps fs) {q : Nat} (hq : q ≤ k) : Fnd w p B A1 A2 q c1 c2 (ps.take q) (fs.take q) :=
  ⟨by have h1 := h.ints.front hq; rwa [Nat.mul_one, N64_take] at h1, h.digs.dfront h.isd hq, isD_take h.isd q, h.asc.sublist (List.take_sublist _ _), by have := h.big; omega, Nat.le_trans hq h.le1, Nat.le_trans hq h.le2, h.max1, h.max2,
   fun h0 => h.ne1 (by omega), fun h0 => h.ne2 (by omega)⟩
theorem if_block {c q m B : Nat} {a1 a : Addr} (e : (if c = q then some a1 else some (a1.add m)) = some a) (h : a1.block ≠ B) : a.block ≠ B := by
  split at e
  · cases e; exact h
  · cases e; rw [addr_add_block]; exact h
theorem Fnd.back {w : World} {p B : Nat} {a1 a2 : Addr} {k c1 c2 : Nat} {ps : List Int} {fs : List Wm.Bs} (h : Fnd w p B (some a1) (some a2) k c1 c2 ps fs) {q : Nat} (hq : q ≤ k) :
    Fnd w p B (if c1 = q then some a1 else some (a1.add q)) (if c2 = q then some a2 else some (a2.add (q * 16))) (k - q) (c1 - q) (c2 - q) (ps.drop q) (fs.drop q) :=
  ⟨by have h1 := h.ints.cut hq h.le1; rwa [Nat.mul_one, N64_drop] at h1, by have h1 := h.digs.cut hq h.le2; rwa [Ds_drop h.isd] at h1, isD_drop h.isd q, h.asc.sublist (List.drop_sublist _ _), by have := h.big; omega,
   by have := h.le1; omega, by have := h.le2; omega, by have := h.max1; omega, by have := h.max2; omega,
   fun h0 _ e => if_block e (h.ne1 (by omega) a1 rfl), fun h0 _ e => if_block e (h.ne2 (by omega) a2 rfl)⟩

set_option maxRecDepth 100000 in
set_option maxHeartbeats 1000000 in
theorem gather_any (p : Nat) (N : Nat) : ∀ (B b n : Nat) (A1 A2 : Option Addr) (k c1 c2 : Nat) (ps : List Int) (fs : List Wm.Bs) (t : Mk.Tr Wm.Bs) (w : World), n ≤ N → 1 ≤ n → b + n ≤ 4611686018427387904 → Fnd w p B A1 A2 k c1 c2 ps fs → Trl w p B t → p ≤ w.heap.size → Tab w → B ≠ 0 →
    Calls Tryd.prog 48 #[.pointer (some ⟨B, 0, none⟩), .int .i64 b, .int .i64 n, .slice A1 k c1, .slice A2 k c2] w fun e w' => e = .returned (.agg (U (Mk.gather nodeD zD b n ps fs t).1).toArray) ∧ Lx B w w' ∧ Trl w' p B (Mk.gather nodeD zD b n ps fs t).2 := by
  induction N with
  | zero => intro B b n A1 A2 k c1 c2 ps fs t w h1 h2; omega
  | succ N ih =>
    intro B b n A1 A2 k c1 c2 ps fs t w hN h1 hbig hf ht hp tab hB
    have hpl := hf.ints.ilen
    by_cases h0 : k = 0
    · subst h0
      have e : ps = [] := List.eq_nil_of_length_eq_zero hpl
      subst e
      rw [Mk.gather_none]
      exact gather_none p B b n A1 A2 c1 c2 t w ht hp
    · have hps : ps ≠ [] := fun e => h0 (by rw [← hpl, e]; rfl)
      by_cases hn1 : n = 1
      · subst hn1
        rw [Mk.gather_one _ _ _ _ _ _ _ hps (by omega)]
        obtain ⟨ad, rfl, hv, hkl, hcc⟩ := hf.digs.digest hf.isd (k := 0) (by omega)
        have hd : fs.headD zD = fs[0] := by
          match fs, hkl with
          | d :: r, _ => rfl
        rw [hd]
        exact gather_one p B b A1 ad k c1 c2 fs[0] t w ht (hf.isd _ (List.getElem_mem hkl)).1 hv (fun j v hj => by have h9 := hcc j v hj; rwa [addr_add_add, Nat.zero_mul, Nat.zero_add] at h9) (by omega)
      · have h2 : 2 ≤ n := by omega
        have a1 := Mk.sp_lt h2
        have a0 := Mk.sp_pos n
        have hS := Lib.hid fun w' => split_any n w' h2 (by omega)
        rw [Mk.gather_two _ _ _ _ _ _ _ hps h2]
        obtain ⟨ad1, rfl, _, _⟩ := hf.ints.2 (by omega)
        obtain ⟨ad2, rfl, _, _⟩ := hf.digs.2 (by omega)
        have hq := Mk.cnt_le ps ((b : Int) + (Mk.sp n : Nat))
        have HB := Lib.hid fun (w' : World) (hw : Later w w') => bsearch_any (some ad1) k c1 ps ((b : Int) + (Mk.sp n : Nat)) w' (hf.ints.keep hw) hf.asc hf.big
        obtain ⟨q, hqe⟩ : ∃ q, q = Mk.cnt ps ((b : Int) + (Mk.sp n : Nat)) := ⟨_, rfl⟩
        rw [← hqe] at HB hq ⊢
        rw [hpl] at hq
        have HR1 := Lib.hid fun (w' : World) (hw : Later w w') => ih B b (Mk.sp n) (some ad1) (some ad2) q c1 c2 (ps.take q) (fs.take q) t w' (by omega) a0 (by omega) ((hf.front hq).lx (Lx.of hw)) (ht.later hw) (Nat.le_trans hp hw.size) (tab.keep hw) hB
        have hcd := gather_dig b (Mk.sp n) (ps.take q) (fs.take q) t ht.isD (isD_take hf.isd q)
        obtain ⟨C, hC⟩ : ∃ C, C = Mk.gather nodeD zD b (Mk.sp n) (ps.take q) (fs.take q) t := ⟨_, rfl⟩
        rw [← hC] at HR1 hcd ⊢
        have HR2 := Lib.hid fun (w' : World) (hw : Lx B w w') (t' : Trl w' p B C.2) => ih B (b + Mk.sp n) (n - Mk.sp n) _ _ (k - q) (c1 - q) (c2 - q) (ps.drop q) (fs.drop q) C.2 w' (by omega) (by omega) (by omega) ((hf.back hq).lx hw) t' (Nat.le_trans hp hw.size) (tab.lx hw hB) hB
        have HED := Lib.hid fun (ht' : isD C.2.rest) => gather_dig ((b + Mk.sp n : Nat) : Int) (n - Mk.sp n) (ps.drop q) (fs.drop q) C.2 ht' (isD_drop hf.isd q)
        obtain ⟨K, hK⟩ : ∃ K, K = Mk.sp n := ⟨_, rfl⟩
        rw [← hK] at HR1 HR2 HB HED a1 a0 hS ⊢
        rw [show (b : Int) + (K : Int) = ((b + K : Nat) : Int) by omega] at HB ⊢
        obtain ⟨E, hE⟩ : ∃ E, E = Mk.gather nodeD zD ((b + K : Nat) : Int) (n - K) (ps.drop q) (fs.drop q) C.2 := ⟨_, rfl⟩
        rw [← hE] at HR2 HED ⊢
        rw [show ((b + K : Nat) : Int) = (b : Int) + (K : Int) by omega] at HR2 HB
        rw [show ((n - K : Nat) : Int) = (n : Int) - (K : Int) by omega] at HR2
        have HCD := Lib.hid hcd
        have HO := Lib.hid fun (w' : World) (hm : E.1.length = 16 ∧ Wm.isBs E.1) (tb : Tab w') => node_any C.1 E.1 w' HCD.out.1 hm.1 tb
        obtain ⟨F, hF⟩ : ∃ F, F = nodeD C.1 E.1 := ⟨_, rfl⟩
        rw [← hF] at HO ⊢
        have HF := Lib.hid (show F.length = 16 by rw [hF]; exact nodeD_len _ _)
        have HTb := Lib.hid tab
        have HM := Lib.hid ht.lt
        have hk1 := hf.le1
        have hk2 := hf.le2
        have hm1 := hf.max1
        have hm2 := hf.max2
        clear hF hE hC hK ih tab ht hcd hqe hps hf hpl
        have hk0 : ((k : Int) == 0) = false := by rw [beq_eq_false_iff_ne]; omega
        have hn0 : ((n : Int) == 1) = false := by rw [beq_eq_false_iff_ne]; omega
        have z1 : (0 : Int) ≤ (b : Int) + (K : Int) := by omega
        have z2 : (b : Int) + (K : Int) ≤ 4611686018427387904 := by omega
        have z3 : (0 : Int) ≤ (n : Int) - (K : Int) := by omega
        have z4 : (n : Int) - (K : Int) ≤ 4611686018427387904 := by omega
        have z5 : (q : Int) ≤ (k : Int) := by omega
        have z6 : (k : Int) ≤ (c1 : Int) := by omega
        have z7 : (k : Int) ≤ (c2 : Int) := by omega
        have z8 : (q : Int) ≤ (c1 : Int) := by omega
        have z9 : (q : Int) ≤ (c2 : Int) := by omega
        have y1 : IntKind.i64.wrap ((b : Int) + (K : Int)) = (b : Int) + (K : Int) := IntWalk.i64_in _ (by omega)
        have y2 : IntKind.i64.wrap ((n : Int) - (K : Int)) = (n : Int) - (K : Int) := IntWalk.i64_in _ (by omega)
        go_enter Tryd.func48, Tryd.ntmps48
        go_wp2_with (first
          | (go_at_call 54; refine (hS.out _).mono ?_; rintro e w' ⟨rfl, rfl⟩)
          | (go_at_call 44; (with_reducible refine (HB.out _ ((Below.refl _ _).alloc (Nat.le_refl _) _)).mono ?_); rintro e w1 ⟨⟨fnd, rfl⟩, dr, rfl⟩))
        have g10 : Blk ((w.alloc (.cells (PartB [] 16).toArray 31)).drewN dr) w.heap.size 31 (PartB [] 16) := Blk.new w _ _ _ rfl
        have l1 : Later w ((w.alloc (.cells (PartB [] 16).toArray 31)).drewN dr) := Later.trans_ ((Below.refl _ _).alloc (Nat.le_refl _) _) (later_drewN _ _)
        change Code.wp _ _ _ _ ((w.alloc (.cells (PartB [] 16).toArray 31)).drewN dr)
        generalize ((w.alloc (.cells (PartB [] 16).toArray 31)).drewN dr) = w1 at g10 l1 ⊢
        have hM0 := HM.out
        have hs1 := g10.lt
        refine wp_region_held_drew (S := fun w' => True) (by kernel_rfl) trivial (fun hHeld => ?_)
        refine wpAnyH_take (i := 0) (oi := ⟨some 36, .move (.tmp 0), _, _, _, none⟩) (v := .pointer (some ⟨B, 0, none⟩)) rfl (by kernel_rfl) (by kernel_rfl) (by kernel_rfl) (fun _ _ _ h => h) (Or.inl ⟨by rfl, fun _ _ => rfl⟩) hHeld ?_
        simp only [Act.put, List.setIfInBounds_toArray, List.set_cons_zero, List.set_cons_succ]
        refine wpAnyH_take (i := 1) (oi := ⟨some 37, .move (.tmp 1), _, _, _, none⟩) (v := .int .i64 b) rfl (by kernel_rfl) (by kernel_rfl) (by kernel_rfl) (fun _ _ _ h => h) (Or.inl ⟨by rfl, fun _ _ => rfl⟩) hHeld ?_
        simp only [Act.put, List.setIfInBounds_toArray, List.set_cons_zero, List.set_cons_succ]
        refine wpAnyH_take (i := 2) (oi := ⟨some 38, .move (.tmp 11), _, _, _, none⟩) (v := .int .i64 K) rfl (by kernel_rfl) (by kernel_rfl) (by kernel_rfl) (fun _ _ _ h => h) (Or.inl ⟨by rfl, fun _ _ => rfl⟩) hHeld ?_
        simp only [Act.put, List.setIfInBounds_toArray, List.set_cons_zero, List.set_cons_succ]
        refine wpAnyH_take (i := 3) (oi := ⟨some 39, .move (.tmp 3), _, _, _, none⟩) (v := .slice (some ad1) k c1) rfl (by kernel_rfl) (by kernel_rfl) (by kernel_rfl) (fun _ _ _ h => h) (Or.inl ⟨by rfl, fun _ _ => rfl⟩) hHeld ?_
        simp only [Act.put, List.setIfInBounds_toArray, List.set_cons_zero, List.set_cons_succ]
        refine wpAnyH_take (i := 4) (oi := ⟨some 40, .move (.tmp 12), _, _, _, none⟩) (v := .int .i64 q) rfl (by kernel_rfl) (by kernel_rfl) (by kernel_rfl) (fun _ _ _ h => h) (Or.inl ⟨by rfl, fun _ _ => rfl⟩) hHeld ?_
        simp only [Act.put, List.setIfInBounds_toArray, List.set_cons_zero, List.set_cons_succ]
        refine wpAnyH_take (i := 5) (oi := ⟨some 41, .slice 37 (.tmp 39) none (some (.tmp 40)) none, _, _, _, none⟩) (v := .slice (some ad1) q c1) rfl (by kernel_rfl) (by kernel_rfl) (by kernel_rfl) (fun _ _ _ h => h) (Or.inl ⟨by rfl, fun w _ => by go_simp⟩) hHeld ?_
        simp only [Act.put, List.setIfInBounds_toArray, List.set_cons_zero, List.set_cons_succ]
        refine wpAnyH_take (i := 6) (oi := ⟨some 42, .move (.tmp 4), _, _, _, none⟩) (v := .slice (some ad2) k c2) rfl (by kernel_rfl) (by kernel_rfl) (by kernel_rfl) (fun _ _ _ h => h) (Or.inl ⟨by rfl, fun _ _ => rfl⟩) hHeld ?_
        simp only [Act.put, List.setIfInBounds_toArray, List.set_cons_zero, List.set_cons_succ]
        refine wpAnyH_take (i := 7) (oi := ⟨some 43, .move (.tmp 12), _, _, _, none⟩) (v := .int .i64 q) rfl (by kernel_rfl) (by kernel_rfl) (by kernel_rfl) (fun _ _ _ h => h) (Or.inl ⟨by rfl, fun _ _ => rfl⟩) hHeld ?_
        simp only [Act.put, List.setIfInBounds_toArray, List.set_cons_zero, List.set_cons_succ]
        refine wpAnyH_take (i := 8) (oi := ⟨some 44, .slice 22 (.tmp 42) none (some (.tmp 43)) none, _, _, _, none⟩) (v := .slice (some ad2) q c2) rfl (by kernel_rfl) (by kernel_rfl) (by kernel_rfl) (fun _ _ _ h => h) (Or.inl ⟨by rfl, fun w _ => by go_simp⟩) hHeld ?_
        simp only [Act.put, List.setIfInBounds_toArray, List.set_cons_zero, List.set_cons_succ]
        refine wpAnyH_ready (rs := [9, 10]) (by kernel_rfl) (by simp) (AllReadyH.cons (o := ⟨some 45, .call { callee := .value (.func 48), args := #[.tmp 36, .tmp 37, .tmp 38, .tmp 41, .tmp 44], argTypes := #[111, 3, 3, 37, 22] }, _, _, _, none⟩) rfl (fun K' hK => ?_) (AllReadyH.cons (o := ⟨some 14, .alloc 31, _, _, _, none⟩) rfl (fun K' hK => ?_) (AllReadyH.nil)))
        · go_simp
          refine (HR1.out _ (Later.trans_ l1 (Below.refl _ _).drew)).mono ?_
          rintro e w2 ⟨rfl, x2, t2⟩
          refine hK.out _ _ trivial (fun hHeld => ?_)
          clear hK K'
          try simp only [Act.put, List.setIfInBounds_toArray, List.set_cons_zero, List.set_cons_succ]
          refine wpAnyH_ready (rs := [10]) (by kernel_rfl) (by simp) (AllReadyH.cons (o := ⟨some 14, .alloc 31, _, _, _, none⟩) rfl (fun K' hK => ?_) (AllReadyH.nil))
          go_simp
          refine hK.out _ _ trivial (fun hHeld => ?_)
          clear hK K'
          try simp only [Act.put, List.setIfInBounds_toArray, List.set_cons_zero, List.set_cons_succ]
          refine wpAnyH_ready (rs := [11]) (by kernel_rfl) (by simp) (AllReadyH.cons (o := ⟨none, .store 31 (.tmp 14) (.tmp 45), _, _, _, none⟩) rfl (fun K' hK => ?_) (AllReadyH.nil))
          refine wp_store_whole _ _ _ rfl w2.heap.size 31 (PartB [] 16) (U C.1) rfl rfl (Blk.new w2 _ _ _ rfl) (dig_sz HCD.out.1) (dig_z HCD.out.1) (U_one _) ?_
          intro w3 g14 o3
          refine hK.out _ _ trivial (fun hHeld => ?_)
          clear hK K'
          try simp only [Act.put]
          have hs2 := x2.size
          have hs3 : w1.heap.size ≤ w2.heap.size := hs2
          have l3 : Lx B w w3 := (((Lx.of (Later.trans_ l1 (Below.refl _ _).drew)).same x2).later ((Below.refl _ _).alloc (Nat.le_refl _) _)).new o3 (by omega)
          have t3 : Trl w3 p B C.2 := (t2.later ((Below.refl _ _).alloc (Nat.le_refl _) _)).only o3 (by omega) (by omega)
          replace g10 := ((g10.drew.lx x2 (by omega)).alloc (.cells (PartB [] 16).toArray 31)).only o3 (by omega)
          have hG : w.heap.size < w2.heap.size ∧ w2.heap.size ≠ B := by omega
          clear x2 t2 o3 hs2 hs3 hs1 l1 HR1 HB
          generalize w2.heap.size = G at g14 hG ⊢
          refine wpAnyH_done (by kernel_rfl) ?_ _
          clear hHeld
          try simp only [Act.put]
          go_wp2_with fail
          have hED := HED.out t3.isD
          refine wp_region_held_drew (S := fun w' => True) (by kernel_rfl) trivial (fun hHeld => ?_)
          refine wpAnyH_take (i := 0) (oi := ⟨some 46, .move (.tmp 0), _, _, _, none⟩) (v := .pointer (some ⟨B, 0, none⟩)) rfl (by kernel_rfl) (by kernel_rfl) (by kernel_rfl) (fun _ _ _ h => h) (Or.inl ⟨by rfl, fun _ _ => rfl⟩) hHeld ?_
          simp only [Act.put, List.setIfInBounds_toArray, List.set_cons_zero, List.set_cons_succ]
          refine wpAnyH_take (i := 1) (oi := ⟨some 47, .move (.tmp 1), _, _, _, none⟩) (v := .int .i64 b) rfl (by kernel_rfl) (by kernel_rfl) (by kernel_rfl) (fun _ _ _ h => h) (Or.inl ⟨by rfl, fun _ _ => rfl⟩) hHeld ?_
          simp only [Act.put, List.setIfInBounds_toArray, List.set_cons_zero, List.set_cons_succ]
          refine wpAnyH_take (i := 2) (oi := ⟨some 48, .move (.tmp 11), _, _, _, none⟩) (v := .int .i64 K) rfl (by kernel_rfl) (by kernel_rfl) (by kernel_rfl) (fun _ _ _ h => h) (Or.inl ⟨by rfl, fun _ _ => rfl⟩) hHeld ?_
          simp only [Act.put, List.setIfInBounds_toArray, List.set_cons_zero, List.set_cons_succ]
          refine wpAnyH_take (i := 3) (oi := ⟨some 49, .binOp .add 3 (.tmp 47) (.tmp 48) 3, _, _, _, none⟩) (v := .int .i64 ((b : Int) + (K : Int))) rfl (by kernel_rfl) (by kernel_rfl) (by kernel_rfl) (fun _ _ _ h => h) (Or.inl ⟨by rfl, fun w _ => by go_simp⟩) hHeld ?_
          simp only [Act.put, List.setIfInBounds_toArray, List.set_cons_zero, List.set_cons_succ]
          refine wpAnyH_take (i := 4) (oi := ⟨some 50, .move (.tmp 2), _, _, _, none⟩) (v := .int .i64 n) rfl (by kernel_rfl) (by kernel_rfl) (by kernel_rfl) (fun _ _ _ h => h) (Or.inl ⟨by rfl, fun _ _ => rfl⟩) hHeld ?_
          simp only [Act.put, List.setIfInBounds_toArray, List.set_cons_zero, List.set_cons_succ]
          refine wpAnyH_take (i := 5) (oi := ⟨some 51, .move (.tmp 11), _, _, _, none⟩) (v := .int .i64 K) rfl (by kernel_rfl) (by kernel_rfl) (by kernel_rfl) (fun _ _ _ h => h) (Or.inl ⟨by rfl, fun _ _ => rfl⟩) hHeld ?_
          simp only [Act.put, List.setIfInBounds_toArray, List.set_cons_zero, List.set_cons_succ]
          refine wpAnyH_take (i := 6) (oi := ⟨some 52, .binOp .sub 3 (.tmp 50) (.tmp 51) 3, _, _, _, none⟩) (v := .int .i64 ((n : Int) - (K : Int))) rfl (by kernel_rfl) (by kernel_rfl) (by kernel_rfl) (fun _ _ _ h => h) (Or.inl ⟨by rfl, fun w _ => by go_simp⟩) hHeld ?_
          simp only [Act.put, List.setIfInBounds_toArray, List.set_cons_zero, List.set_cons_succ]
          refine wpAnyH_take (i := 7) (oi := ⟨some 53, .move (.tmp 3), _, _, _, none⟩) (v := .slice (some ad1) k c1) rfl (by kernel_rfl) (by kernel_rfl) (by kernel_rfl) (fun _ _ _ h => h) (Or.inl ⟨by rfl, fun _ _ => rfl⟩) hHeld ?_
          simp only [Act.put, List.setIfInBounds_toArray, List.set_cons_zero, List.set_cons_succ]
          refine wpAnyH_take (i := 8) (oi := ⟨some 54, .move (.tmp 12), _, _, _, none⟩) (v := .int .i64 q) rfl (by kernel_rfl) (by kernel_rfl) (by kernel_rfl) (fun _ _ _ h => h) (Or.inl ⟨by rfl, fun _ _ => rfl⟩) hHeld ?_
          simp only [Act.put, List.setIfInBounds_toArray, List.set_cons_zero, List.set_cons_succ]
          refine wpAnyH_take (i := 9) (oi := ⟨some 55, .slice 37 (.tmp 53) (some (.tmp 54)) none none, _, _, _, none⟩) (v := .slice (if c1 = q then some ad1 else some (ad1.add q)) (k - q) (c1 - q)) rfl (by kernel_rfl) (by kernel_rfl) (by kernel_rfl) (fun _ _ _ h => h) (Or.inl ⟨by rfl, fun w _ => by by_cases hcq : c1 = q <;> go_simp⟩) hHeld ?_
          simp only [Act.put, List.setIfInBounds_toArray, List.set_cons_zero, List.set_cons_succ]
          refine wpAnyH_take (i := 10) (oi := ⟨some 56, .move (.tmp 4), _, _, _, none⟩) (v := .slice (some ad2) k c2) rfl (by kernel_rfl) (by kernel_rfl) (by kernel_rfl) (fun _ _ _ h => h) (Or.inl ⟨by rfl, fun _ _ => rfl⟩) hHeld ?_
          simp only [Act.put, List.setIfInBounds_toArray, List.set_cons_zero, List.set_cons_succ]
          refine wpAnyH_take (i := 11) (oi := ⟨some 57, .move (.tmp 12), _, _, _, none⟩) (v := .int .i64 q) rfl (by kernel_rfl) (by kernel_rfl) (by kernel_rfl) (fun _ _ _ h => h) (Or.inl ⟨by rfl, fun _ _ => rfl⟩) hHeld ?_
          simp only [Act.put, List.setIfInBounds_toArray, List.set_cons_zero, List.set_cons_succ]
          refine wpAnyH_take (i := 12) (oi := ⟨some 58, .slice 22 (.tmp 56) (some (.tmp 57)) none none, _, _, _, none⟩) (v := .slice (if c2 = q then some ad2 else some (ad2.add (q * 16))) (k - q) (c2 - q)) rfl (by kernel_rfl) (by kernel_rfl) (by kernel_rfl) (fun _ _ _ h => h) (Or.inl ⟨by rfl, fun w _ => by by_cases hcq : c2 = q <;> go_simp⟩) hHeld ?_
          simp only [Act.put, List.setIfInBounds_toArray, List.set_cons_zero, List.set_cons_succ]
          refine wpAnyH_ready (rs := [13, 14]) (by kernel_rfl) (by simp) (AllReadyH.cons (o := ⟨some 59, .call { callee := .value (.func 48), args := #[.tmp 46, .tmp 49, .tmp 52, .tmp 55, .tmp 58], argTypes := #[111, 3, 3, 37, 22] }, _, _, _, none⟩) rfl (fun K' hK => ?_) (AllReadyH.cons (o := ⟨some 15, .alloc 31, _, _, _, none⟩) rfl (fun K' hK => ?_) (AllReadyH.nil)))
          · go_simp
            refine (HR2.out _ (l3.later (Below.refl _ _).drew) t3).mono ?_
            rintro e w4 ⟨rfl, x4, t4⟩
            refine hK.out _ _ trivial (fun hHeld => ?_)
            clear hK K'
            try simp only [Act.put, List.setIfInBounds_toArray, List.set_cons_zero, List.set_cons_succ]
            refine wpAnyH_ready (rs := [14]) (by kernel_rfl) (by simp) (AllReadyH.cons (o := ⟨some 15, .alloc 31, _, _, _, none⟩) rfl (fun K' hK => ?_) (AllReadyH.nil))
            go_simp
            refine hK.out _ _ trivial (fun hHeld => ?_)
            clear hK K'
            try simp only [Act.put, List.setIfInBounds_toArray, List.set_cons_zero, List.set_cons_succ]
            refine wpAnyH_ready (rs := [15]) (by kernel_rfl) (by simp) (AllReadyH.cons (o := ⟨none, .store 31 (.tmp 15) (.tmp 59), _, _, _, none⟩) rfl (fun K' hK => ?_) (AllReadyH.nil))
            refine wp_store_whole _ _ _ rfl w4.heap.size 31 (PartB [] 16) (U E.1) rfl rfl (Blk.new w4 _ _ _ rfl) (dig_sz hED.1) (dig_z hED.1) (U_one _) ?_
            intro w5 g15 o5
            refine hK.out _ _ trivial (fun hHeld => ?_)
            clear hK K'
            try simp only [Act.put]
            have hs4 : w3.heap.size ≤ w4.heap.size := x4.size
            have hs5 := g14.lt
            have l5 : Lx B w w5 := (((l3.later (Below.refl _ _).drew).same x4).later ((Below.refl _ _).alloc (Nat.le_refl _) _)).new o5 (by omega)
            have t5 : Trl w5 p B E.2 := (t4.later ((Below.refl _ _).alloc (Nat.le_refl _) _)).only o5 (by omega) (by omega)
            replace g10 := ((g10.drew.lx x4 (by omega)).alloc (.cells (PartB [] 16).toArray 31)).only o5 (by omega)
            replace g14 := ((g14.drew.lx x4 (by omega)).alloc (.cells (PartB [] 16).toArray 31)).only o5 (by omega)
            clear x4 t4 o5 hs4 hs5 l3 HR2
            generalize w4.heap.size = G2 at g15 ⊢
            refine wpAnyH_done (by kernel_rfl) ?_ _
            clear hHeld
            try simp only [Act.put]
            have TB := Lib.hid (HTb.out.lx l5 hB)
            go_wp2_with (first
              | ((with_reducible refine wpList_load_blk (o := ⟨some 60, .load 31 (.tmp 14), _, _, _, none⟩) rfl _ _ rfl G 31 (U C.1) _ ?_ g14 Tryd.underlying31 rfl (dig_sz HCD.out.1) ?_); rfl)
              | ((with_reducible refine wpList_load_blk (o := ⟨some 61, .load 31 (.tmp 15), _, _, _, none⟩) rfl _ _ rfl G2 31 (U E.1) _ ?_ g15 Tryd.underlying31 rfl (dig_sz hED.1) ?_); rfl)
              | (go_at_call 19; refine (HO.out w5 hED TB.out).mono ?_; rintro e w6 ⟨rfl, l6⟩)
              | ((with_reducible refine wpList_store_abs (o := ⟨none, .store 31 (.tmp 10) (.tmp 62), _, _, _, none⟩) rfl _ _ _ rfl w.heap.size 31 (PartB [] 16) (U F) ?_ ?_ (g10.keep l6) (dig_sz HF.out) (dig_z HF.out) (U_one _) ?_); rfl; rfl; intro w7 e1 e2))
            all_goals exact bodyPost_ret (v := .agg (U F).toArray) (dig_ret Tryd.results48 _ w.heap.size _ HF.out rfl e1) rfl ⟨rfl, ((l5.later l6).new e2 (Nat.le_refl _)), (t5.later l6).only e2 hp (by omega)⟩
          · go_simp
            refine hK.out _ _ trivial (fun hHeld => ?_)
            clear hK K'
            try simp only [Act.put, List.setIfInBounds_toArray, List.set_cons_zero, List.set_cons_succ]
            refine wpAnyH_ready (rs := [13]) (by kernel_rfl) (by simp) (AllReadyH.cons (o := ⟨some 59, .call { callee := .value (.func 48), args := #[.tmp 46, .tmp 49, .tmp 52, .tmp 55, .tmp 58], argTypes := #[111, 3, 3, 37, 22] }, _, _, _, none⟩) rfl (fun K' hK => ?_) (AllReadyH.nil))
            go_simp
            refine (HR2.out _ ((l3.later (Below.refl _ _).drew).later ((Below.refl _ _).alloc (Nat.le_refl _) _)) (t3.later ((Below.refl w3.heap.size w3).drew.alloc (Nat.le_refl _) (.cells (PartB [] 16).toArray 31)))).mono ?_
            rintro e w4 ⟨rfl, x4, t4⟩
            refine hK.out _ _ trivial (fun hHeld => ?_)
            clear hK K'
            try simp only [Act.put, List.setIfInBounds_toArray, List.set_cons_zero, List.set_cons_succ]
            refine wpAnyH_ready (rs := [15]) (by kernel_rfl) (by simp) (AllReadyH.cons (o := ⟨none, .store 31 (.tmp 15) (.tmp 59), _, _, _, none⟩) rfl (fun K' hK => ?_) (AllReadyH.nil))
            refine wp_store_whole _ _ _ rfl w3.heap.size 31 (PartB [] 16) (U E.1) rfl rfl ((Blk.new w3.drew _ _ _ rfl).lx x4 (by have := g10.lt; show w3.heap.size ≠ B; omega)) (dig_sz hED.1) (dig_z hED.1) (U_one _) ?_
            intro w5 g15 o5
            refine hK.out _ _ trivial (fun hHeld => ?_)
            clear hK K'
            try simp only [Act.put]
            have hs5 := g14.lt
            have l5 : Lx B w w5 := (((l3.later (Below.refl _ _).drew).later ((Below.refl _ _).alloc (Nat.le_refl _) _)).same x4).new o5 (by omega)
            have t5 : Trl w5 p B E.2 := t4.only o5 (by omega) (by omega)
            replace g10 := ((g10.drew.alloc (.cells (PartB [] 16).toArray 31)).lx x4 (by omega)).only o5 (by omega)
            replace g14 := ((g14.drew.alloc (.cells (PartB [] 16).toArray 31)).lx x4 (by omega)).only o5 (by omega)
            clear x4 t4 o5 hs5 l3 HR2
            generalize w3.heap.size = G2 at g15 ⊢
            refine wpAnyH_done (by kernel_rfl) ?_ _
            clear hHeld
            try simp only [Act.put]
            have TB := Lib.hid (HTb.out.lx l5 hB)
            go_wp2_with (first
              | ((with_reducible refine wpList_load_blk (o := ⟨some 60, .load 31 (.tmp 14), _, _, _, none⟩) rfl _ _ rfl G 31 (U C.1) _ ?_ g14 Tryd.underlying31 rfl (dig_sz HCD.out.1) ?_); rfl)
              | ((with_reducible refine wpList_load_blk (o := ⟨some 61, .load 31 (.tmp 15), _, _, _, none⟩) rfl _ _ rfl G2 31 (U E.1) _ ?_ g15 Tryd.underlying31 rfl (dig_sz hED.1) ?_); rfl)
              | (go_at_call 19; refine (HO.out w5 hED TB.out).mono ?_; rintro e w6 ⟨rfl, l6⟩)
              | ((with_reducible refine wpList_store_abs (o := ⟨none, .store 31 (.tmp 10) (.tmp 62), _, _, _, none⟩) rfl _ _ _ rfl w.heap.size 31 (PartB [] 16) (U F) ?_ ?_ (g10.keep l6) (dig_sz HF.out) (dig_z HF.out) (U_one _) ?_); rfl; rfl; intro w7 e1 e2))
            all_goals exact bodyPost_ret (v := .agg (U F).toArray) (dig_ret Tryd.results48 _ w.heap.size _ HF.out rfl e1) rfl ⟨rfl, ((l5.later l6).new e2 (Nat.le_refl _)), (t5.later l6).only e2 hp (by omega)⟩
        · go_simp
          refine hK.out _ _ trivial (fun hHeld => ?_)
          clear hK K'
          try simp only [Act.put, List.setIfInBounds_toArray, List.set_cons_zero, List.set_cons_succ]
          refine wpAnyH_ready (rs := [9]) (by kernel_rfl) (by simp) (AllReadyH.cons (o := ⟨some 45, .call { callee := .value (.func 48), args := #[.tmp 36, .tmp 37, .tmp 38, .tmp 41, .tmp 44], argTypes := #[111, 3, 3, 37, 22] }, _, _, _, none⟩) rfl (fun K' hK => ?_) (AllReadyH.nil))
          go_simp
          refine (HR1.out _ (Later.trans_ (Later.trans_ l1 (Below.refl _ _).drew) ((Below.refl _ _).alloc (Nat.le_refl _) _))).mono ?_
          rintro e w2 ⟨rfl, x2, t2⟩
          refine hK.out _ _ trivial (fun hHeld => ?_)
          clear hK K'
          try simp only [Act.put, List.setIfInBounds_toArray, List.set_cons_zero, List.set_cons_succ]
          refine wpAnyH_ready (rs := [11]) (by kernel_rfl) (by simp) (AllReadyH.cons (o := ⟨none, .store 31 (.tmp 14) (.tmp 45), _, _, _, none⟩) rfl (fun K' hK => ?_) (AllReadyH.nil))
          refine wp_store_whole _ _ _ rfl w1.heap.size 31 (PartB [] 16) (U C.1) rfl rfl ((Blk.new w1.drew _ _ _ rfl).lx x2 (by show w1.heap.size ≠ B; omega)) (dig_sz HCD.out.1) (dig_z HCD.out.1) (U_one _) ?_
          intro w3 g14 o3
          refine hK.out _ _ trivial (fun hHeld => ?_)
          clear hK K'
          try simp only [Act.put]
          have l3 : Lx B w w3 := ((Lx.of (Later.trans_ (Later.trans_ l1 (Below.refl _ _).drew) ((Below.refl _ _).alloc (Nat.le_refl _) _))).same x2).new o3 (by omega)
          have t3 : Trl w3 p B C.2 := t2.only o3 (by omega) (by omega)
          replace g10 := ((g10.drew.alloc (.cells (PartB [] 16).toArray 31)).lx x2 (by omega)).only o3 (by omega)
          have hG : w.heap.size < w1.heap.size ∧ w1.heap.size ≠ B := by omega
          clear x2 t2 o3 hs1 l1 HR1 HB
          generalize w1.heap.size = G at g14 hG ⊢
          refine wpAnyH_done (by kernel_rfl) ?_ _
          clear hHeld
          try simp only [Act.put]
          go_wp2_with fail
          have hED := HED.out t3.isD
          refine wp_region_held_drew (S := fun w' => True) (by kernel_rfl) trivial (fun hHeld => ?_)
          refine wpAnyH_take (i := 0) (oi := ⟨some 46, .move (.tmp 0), _, _, _, none⟩) (v := .pointer (some ⟨B, 0, none⟩)) rfl (by kernel_rfl) (by kernel_rfl) (by kernel_rfl) (fun _ _ _ h => h) (Or.inl ⟨by rfl, fun _ _ => rfl⟩) hHeld ?_
          simp only [Act.put, List.setIfInBounds_toArray, List.set_cons_zero, List.set_cons_succ]
          refine wpAnyH_take (i := 1) (oi := ⟨some 47, .move (.tmp 1), _, _, _, none⟩) (v := .int .i64 b) rfl (by kernel_rfl) (by kernel_rfl) (by kernel_rfl) (fun _ _ _ h => h) (Or.inl ⟨by rfl, fun _ _ => rfl⟩) hHeld ?_
          simp only [Act.put, List.setIfInBounds_toArray, List.set_cons_zero, List.set_cons_succ]
          refine wpAnyH_take (i := 2) (oi := ⟨some 48, .move (.tmp 11), _, _, _, none⟩) (v := .int .i64 K) rfl (by kernel_rfl) (by kernel_rfl) (by kernel_rfl) (fun _ _ _ h => h) (Or.inl ⟨by rfl, fun _ _ => rfl⟩) hHeld ?_
          simp only [Act.put, List.setIfInBounds_toArray, List.set_cons_zero, List.set_cons_succ]
          refine wpAnyH_take (i := 3) (oi := ⟨some 49, .binOp .add 3 (.tmp 47) (.tmp 48) 3, _, _, _, none⟩) (v := .int .i64 ((b : Int) + (K : Int))) rfl (by kernel_rfl) (by kernel_rfl) (by kernel_rfl) (fun _ _ _ h => h) (Or.inl ⟨by rfl, fun w _ => by go_simp⟩) hHeld ?_
          simp only [Act.put, List.setIfInBounds_toArray, List.set_cons_zero, List.set_cons_succ]
          refine wpAnyH_take (i := 4) (oi := ⟨some 50, .move (.tmp 2), _, _, _, none⟩) (v := .int .i64 n) rfl (by kernel_rfl) (by kernel_rfl) (by kernel_rfl) (fun _ _ _ h => h) (Or.inl ⟨by rfl, fun _ _ => rfl⟩) hHeld ?_
          simp only [Act.put, List.setIfInBounds_toArray, List.set_cons_zero, List.set_cons_succ]
          refine wpAnyH_take (i := 5) (oi := ⟨some 51, .move (.tmp 11), _, _, _, none⟩) (v := .int .i64 K) rfl (by kernel_rfl) (by kernel_rfl) (by kernel_rfl) (fun _ _ _ h => h) (Or.inl ⟨by rfl, fun _ _ => rfl⟩) hHeld ?_
          simp only [Act.put, List.setIfInBounds_toArray, List.set_cons_zero, List.set_cons_succ]
          refine wpAnyH_take (i := 6) (oi := ⟨some 52, .binOp .sub 3 (.tmp 50) (.tmp 51) 3, _, _, _, none⟩) (v := .int .i64 ((n : Int) - (K : Int))) rfl (by kernel_rfl) (by kernel_rfl) (by kernel_rfl) (fun _ _ _ h => h) (Or.inl ⟨by rfl, fun w _ => by go_simp⟩) hHeld ?_
          simp only [Act.put, List.setIfInBounds_toArray, List.set_cons_zero, List.set_cons_succ]
          refine wpAnyH_take (i := 7) (oi := ⟨some 53, .move (.tmp 3), _, _, _, none⟩) (v := .slice (some ad1) k c1) rfl (by kernel_rfl) (by kernel_rfl) (by kernel_rfl) (fun _ _ _ h => h) (Or.inl ⟨by rfl, fun _ _ => rfl⟩) hHeld ?_
          simp only [Act.put, List.setIfInBounds_toArray, List.set_cons_zero, List.set_cons_succ]
          refine wpAnyH_take (i := 8) (oi := ⟨some 54, .move (.tmp 12), _, _, _, none⟩) (v := .int .i64 q) rfl (by kernel_rfl) (by kernel_rfl) (by kernel_rfl) (fun _ _ _ h => h) (Or.inl ⟨by rfl, fun _ _ => rfl⟩) hHeld ?_
          simp only [Act.put, List.setIfInBounds_toArray, List.set_cons_zero, List.set_cons_succ]
          refine wpAnyH_take (i := 9) (oi := ⟨some 55, .slice 37 (.tmp 53) (some (.tmp 54)) none none, _, _, _, none⟩) (v := .slice (if c1 = q then some ad1 else some (ad1.add q)) (k - q) (c1 - q)) rfl (by kernel_rfl) (by kernel_rfl) (by kernel_rfl) (fun _ _ _ h => h) (Or.inl ⟨by rfl, fun w _ => by by_cases hcq : c1 = q <;> go_simp⟩) hHeld ?_
          simp only [Act.put, List.setIfInBounds_toArray, List.set_cons_zero, List.set_cons_succ]
          refine wpAnyH_take (i := 10) (oi := ⟨some 56, .move (.tmp 4), _, _, _, none⟩) (v := .slice (some ad2) k c2) rfl (by kernel_rfl) (by kernel_rfl) (by kernel_rfl) (fun _ _ _ h => h) (Or.inl ⟨by rfl, fun _ _ => rfl⟩) hHeld ?_
          simp only [Act.put, List.setIfInBounds_toArray, List.set_cons_zero, List.set_cons_succ]
          refine wpAnyH_take (i := 11) (oi := ⟨some 57, .move (.tmp 12), _, _, _, none⟩) (v := .int .i64 q) rfl (by kernel_rfl) (by kernel_rfl) (by kernel_rfl) (fun _ _ _ h => h) (Or.inl ⟨by rfl, fun _ _ => rfl⟩) hHeld ?_
          simp only [Act.put, List.setIfInBounds_toArray, List.set_cons_zero, List.set_cons_succ]
          refine wpAnyH_take (i := 12) (oi := ⟨some 58, .slice 22 (.tmp 56) (some (.tmp 57)) none none, _, _, _, none⟩) (v := .slice (if c2 = q then some ad2 else some (ad2.add (q * 16))) (k - q) (c2 - q)) rfl (by kernel_rfl) (by kernel_rfl) (by kernel_rfl) (fun _ _ _ h => h) (Or.inl ⟨by rfl, fun w _ => by by_cases hcq : c2 = q <;> go_simp⟩) hHeld ?_
          simp only [Act.put, List.setIfInBounds_toArray, List.set_cons_zero, List.set_cons_succ]
          refine wpAnyH_ready (rs := [13, 14]) (by kernel_rfl) (by simp) (AllReadyH.cons (o := ⟨some 59, .call { callee := .value (.func 48), args := #[.tmp 46, .tmp 49, .tmp 52, .tmp 55, .tmp 58], argTypes := #[111, 3, 3, 37, 22] }, _, _, _, none⟩) rfl (fun K' hK => ?_) (AllReadyH.cons (o := ⟨some 15, .alloc 31, _, _, _, none⟩) rfl (fun K' hK => ?_) (AllReadyH.nil)))
          · go_simp
            refine (HR2.out _ (l3.later (Below.refl _ _).drew) t3).mono ?_
            rintro e w4 ⟨rfl, x4, t4⟩
            refine hK.out _ _ trivial (fun hHeld => ?_)
            clear hK K'
            try simp only [Act.put, List.setIfInBounds_toArray, List.set_cons_zero, List.set_cons_succ]
            refine wpAnyH_ready (rs := [14]) (by kernel_rfl) (by simp) (AllReadyH.cons (o := ⟨some 15, .alloc 31, _, _, _, none⟩) rfl (fun K' hK => ?_) (AllReadyH.nil))
            go_simp
            refine hK.out _ _ trivial (fun hHeld => ?_)
            clear hK K'
            try simp only [Act.put, List.setIfInBounds_toArray, List.set_cons_zero, List.set_cons_succ]
            refine wpAnyH_ready (rs := [15]) (by kernel_rfl) (by simp) (AllReadyH.cons (o := ⟨none, .store 31 (.tmp 15) (.tmp 59), _, _, _, none⟩) rfl (fun K' hK => ?_) (AllReadyH.nil))
            refine wp_store_whole _ _ _ rfl w4.heap.size 31 (PartB [] 16) (U E.1) rfl rfl (Blk.new w4 _ _ _ rfl) (dig_sz hED.1) (dig_z hED.1) (U_one _) ?_
            intro w5 g15 o5
            refine hK.out _ _ trivial (fun hHeld => ?_)
            clear hK K'
            try simp only [Act.put]
            have hs4 : w3.heap.size ≤ w4.heap.size := x4.size
            have hs5 := g14.lt
            have l5 : Lx B w w5 := (((l3.later (Below.refl _ _).drew).same x4).later ((Below.refl _ _).alloc (Nat.le_refl _) _)).new o5 (by omega)
            have t5 : Trl w5 p B E.2 := (t4.later ((Below.refl _ _).alloc (Nat.le_refl _) _)).only o5 (by omega) (by omega)
            replace g10 := ((g10.drew.lx x4 (by omega)).alloc (.cells (PartB [] 16).toArray 31)).only o5 (by omega)
            replace g14 := ((g14.drew.lx x4 (by omega)).alloc (.cells (PartB [] 16).toArray 31)).only o5 (by omega)
            clear x4 t4 o5 hs4 hs5 l3 HR2
            generalize w4.heap.size = G2 at g15 ⊢
            refine wpAnyH_done (by kernel_rfl) ?_ _
            clear hHeld
            try simp only [Act.put]
            have TB := Lib.hid (HTb.out.lx l5 hB)
            go_wp2_with (first
              | ((with_reducible refine wpList_load_blk (o := ⟨some 60, .load 31 (.tmp 14), _, _, _, none⟩) rfl _ _ rfl G 31 (U C.1) _ ?_ g14 Tryd.underlying31 rfl (dig_sz HCD.out.1) ?_); rfl)
              | ((with_reducible refine wpList_load_blk (o := ⟨some 61, .load 31 (.tmp 15), _, _, _, none⟩) rfl _ _ rfl G2 31 (U E.1) _ ?_ g15 Tryd.underlying31 rfl (dig_sz hED.1) ?_); rfl)
              | (go_at_call 19; refine (HO.out w5 hED TB.out).mono ?_; rintro e w6 ⟨rfl, l6⟩)
              | ((with_reducible refine wpList_store_abs (o := ⟨none, .store 31 (.tmp 10) (.tmp 62), _, _, _, none⟩) rfl _ _ _ rfl w.heap.size 31 (PartB [] 16) (U F) ?_ ?_ (g10.keep l6) (dig_sz HF.out) (dig_z HF.out) (U_one _) ?_); rfl; rfl; intro w7 e1 e2))
            all_goals exact bodyPost_ret (v := .agg (U F).toArray) (dig_ret Tryd.results48 _ w.heap.size _ HF.out rfl e1) rfl ⟨rfl, ((l5.later l6).new e2 (Nat.le_refl _)), (t5.later l6).only e2 hp (by omega)⟩
          · go_simp
            refine hK.out _ _ trivial (fun hHeld => ?_)
            clear hK K'
            try simp only [Act.put, List.setIfInBounds_toArray, List.set_cons_zero, List.set_cons_succ]
            refine wpAnyH_ready (rs := [13]) (by kernel_rfl) (by simp) (AllReadyH.cons (o := ⟨some 59, .call { callee := .value (.func 48), args := #[.tmp 46, .tmp 49, .tmp 52, .tmp 55, .tmp 58], argTypes := #[111, 3, 3, 37, 22] }, _, _, _, none⟩) rfl (fun K' hK => ?_) (AllReadyH.nil))
            go_simp
            refine (HR2.out _ ((l3.later (Below.refl _ _).drew).later ((Below.refl _ _).alloc (Nat.le_refl _) _)) (t3.later ((Below.refl w3.heap.size w3).drew.alloc (Nat.le_refl _) (.cells (PartB [] 16).toArray 31)))).mono ?_
            rintro e w4 ⟨rfl, x4, t4⟩
            refine hK.out _ _ trivial (fun hHeld => ?_)
            clear hK K'
            try simp only [Act.put, List.setIfInBounds_toArray, List.set_cons_zero, List.set_cons_succ]
            refine wpAnyH_ready (rs := [15]) (by kernel_rfl) (by simp) (AllReadyH.cons (o := ⟨none, .store 31 (.tmp 15) (.tmp 59), _, _, _, none⟩) rfl (fun K' hK => ?_) (AllReadyH.nil))
            refine wp_store_whole _ _ _ rfl w3.heap.size 31 (PartB [] 16) (U E.1) rfl rfl ((Blk.new w3.drew _ _ _ rfl).lx x4 (by have := g10.lt; show w3.heap.size ≠ B; omega)) (dig_sz hED.1) (dig_z hED.1) (U_one _) ?_
            intro w5 g15 o5
            refine hK.out _ _ trivial (fun hHeld => ?_)
            clear hK K'
            try simp only [Act.put]
            have hs5 := g14.lt
            have l5 : Lx B w w5 := (((l3.later (Below.refl _ _).drew).later ((Below.refl _ _).alloc (Nat.le_refl _) _)).same x4).new o5 (by omega)
            have t5 : Trl w5 p B E.2 := t4.only o5 (by omega) (by omega)
            replace g10 := ((g10.drew.alloc (.cells (PartB [] 16).toArray 31)).lx x4 (by omega)).only o5 (by omega)
            replace g14 := ((g14.drew.alloc (.cells (PartB [] 16).toArray 31)).lx x4 (by omega)).only o5 (by omega)
            clear x4 t4 o5 hs5 l3 HR2
            generalize w3.heap.size = G2 at g15 ⊢
            refine wpAnyH_done (by kernel_rfl) ?_ _
            clear hHeld
            try simp only [Act.put]
            have TB := Lib.hid (HTb.out.lx l5 hB)
            go_wp2_with (first
              | ((with_reducible refine wpList_load_blk (o := ⟨some 60, .load 31 (.tmp 14), _, _, _, none⟩) rfl _ _ rfl G 31 (U C.1) _ ?_ g14 Tryd.underlying31 rfl (dig_sz HCD.out.1) ?_); rfl)
              | ((with_reducible refine wpList_load_blk (o := ⟨some 61, .load 31 (.tmp 15), _, _, _, none⟩) rfl _ _ rfl G2 31 (U E.1) _ ?_ g15 Tryd.underlying31 rfl (dig_sz hED.1) ?_); rfl)
              | (go_at_call 19; refine (HO.out w5 hED TB.out).mono ?_; rintro e w6 ⟨rfl, l6⟩)
              | ((with_reducible refine wpList_store_abs (o := ⟨none, .store 31 (.tmp 10) (.tmp 62), _, _, _, none⟩) rfl _ _ _ rfl w.heap.size 31 (PartB [] 16) (U F) ?_ ?_ (g10.keep l6) (dig_sz HF.out) (dig_z HF.out) (U_one _) ?_); rfl; rfl; intro w7 e1 e2))
            all_goals exact bodyPost_ret (v := .agg (U F).toArray) (dig_ret Tryd.results48 _ w.heap.size _ HF.out rfl e1) rfl ⟨rfl, ((l5.later l6).new e2 (Nat.le_refl _)), (t5.later l6).only e2 hp (by omega)⟩
end Go.Proofs.YtaihfkcoiagdaabDoor

/-
  WALKS: what appends to a path: the step; Inclusion's.
-/
namespace Go.Proofs.YtaihfkcoiagdaabDoor
open Go.RowKit Go.ChangeShapes Go.WideShapes Go.ChangeAt

/-- A function value stored. -/
theorem run_store_fn {P : Program} {w : World} {a : Addr} {m : Mode} (fn : Fn) (f c : Array Value) : (store a (.func fn f c) m).run P w = stored P w a (.func fn f c) m := run_store P w a _ m rfl

theorem foldl_set (xs : List Value) : ∀ (k : Nat) (Z : Array Value), k + xs.length ≤ Z.size →
    ((xs.zipIdx k).foldl (fun cs x => cs.setIfInBounds (0 + x.2) x.1) Z).toList = Z.toList.take k ++ xs ++ Z.toList.drop (k + xs.length) := by
  induction xs with
  | nil => intro k Z _; simp
  | cons x r ih =>
    intro k Z h
    rw [List.length_cons] at h
    rw [List.zipIdx_cons, List.foldl_cons, ih (k + 1) _ (by rw [Array.size_setIfInBounds]; omega)]
    have hk : k < Z.toList.length := by rw [Array.length_toList]; omega
    rw [Array.toList_setIfInBounds, Nat.zero_add, List.take_succ_eq_append_getElem (by rw [List.length_set]; exact hk), List.take_set_of_le (Nat.le_refl k), List.getElem_set_self, List.drop_set_of_lt (by omega)]
    rw [show k + 1 + r.length = k + (x :: r).length by rw [List.length_cons]; omega]
    simp only [List.append_assoc, List.cons_append, List.nil_append]

/-- A slice literal of one element that has many cells, at the operation. -/
theorem wp_build1 {P : Program} {o : Oper} {a : Act} {w : World} {K : Act → World → Prop} {Q : Exit → Act → World → Prop} (t e : TypeId) (x : Operand) (ho : o.op = .buildSlice t 1 #[(0, x)])
    (X : Array Value) (ie : TypeInfo) (z : Value) (hu : P.underlying t = some (.slice e)) (hie : P.info? e = some ie) (hz : ie.zero = some z) (hs : ie.size = X.size) (hpos : 0 < X.size) (hsm : X.size ≤ 16777216)
    (hx : a.eval x = .agg X) (h : K (a.put o.dst (.slice (some ⟨w.heap.size, 0, none⟩) 1 1)) (w.alloc (.cells X e))) : o.wp P a w K Q := by
  refine wp_buildSlice t e 1 _ ho X ie z hu hie hz (by rw [hs]; omega) (by rw [hs]; omega) ?_ h
  have e1 : (#[(0, x)].map fun (i, x) => (i, a.eval x)).toList = [(0, Value.agg X)] := by simp [hx]
  rw [e1, hs, Nat.one_mul]
  simp only [Instr.fill, Value.cells, Nat.zero_mul]
  rw [if_neg (by simp)]
  congr 1
  apply Array.ext'
  rw [← Array.foldl_toList, Array.toList_zipIdx]
  rw [foldl_set X.toList 0 _ (by simp)]
  simp

theorem Ds_snoc (l : List Wm.Bs) (d : Wm.Bs) : Ds (l ++ [d]) = Ds l ++ U d := by unfold Ds; rw [List.flatten_append, U_append]; simp
theorem isD_snoc {l : List Wm.Bs} {d : Wm.Bs} (h : isD l) (hd : d.length = 16 ∧ Wm.isBs d) : isD (l ++ [d]) := fun x hx => by
  rcases List.mem_append.1 hx with hx | hx
  · exact h x hx
  · obtain rfl : x = d := by simpa using hx
    exact hd

/-- A path under way: the variable that holds it in the block Q, the function that appends to it in the block F. -/
structure Pth (w : World) (base Q F : Nat) (tf : TypeId) (fv v : Value) (acc : List Wm.Bs) : Prop where
  blk : Blk w Q 22 [v]
  own : w.ownsRow base 31 16 v acc.length (Ds acc)
  fn : Blk w F tf [fv]
  leQ : base ≤ Q
  leF : base ≤ F
  ne : Q ≠ F
  far : ∀ g, v.ownBlock = some g → g ≠ Q ∧ g ≠ F
theorem Pth.later {w w' : World} {base Q F : Nat} {tf : TypeId} {fv v : Value} {acc : List Wm.Bs} (h : Pth w base Q F tf fv v acc) (k : Later w w') : Pth w' base Q F tf fv v acc :=
  ⟨h.blk.keep k, own_below h.own k, h.fn.keep k, h.leQ, h.leF, h.ne, h.far⟩
theorem Pth.grown {w w4 : World} {base Q F : Nat} {tf : TypeId} {fv v : Value} {acc : List Wm.Bs} (h : Pth w base Q F tf fv v acc) (hg : w.grownBy w4 v.ownBlock) : Blk w4 Q 22 [v] ∧ Blk w4 F tf [fv] := by
  constructor
  · unfold Blk; rw [hg.block Q h.blk.lt (fun e => (h.far Q e.symm).1 rfl)]; exact h.blk
  · unfold Blk; rw [hg.block F h.fn.lt (fun e => (h.far F e.symm).2 rfl)]; exact h.fn
theorem Pth.push {w w4 : World} {base Q F : Nat} {tf : TypeId} {fv v : Value} {acc : List Wm.Bs} {R : Wm.Bs} {g cap : Nat} (h : Pth w base Q F tf fv v acc) (hg : w.grownBy w4 v.ownBlock)
    (ho : w4.ownsRow base 31 16 (.slice (some ⟨g, 0, none⟩) (acc.length + 1) cap) (acc.length + 1) (Ds acc ++ U R)) (hat : v.ownBlock = some g ∨ g = w.heap.size) :
    Pth (w4.setCell ⟨Q, 0, none⟩ (.slice (some ⟨g, 0, none⟩) (acc.length + 1) cap)) base Q F tf fv (.slice (some ⟨g, 0, none⟩) (acc.length + 1) cap) (acc ++ [R]) := by
  have hb := h.grown hg
  have hgq : g ≠ Q ∧ g ≠ F := by
    rcases hat with e | e
    · exact h.far g e
    · have := h.blk.lt; have := h.fn.lt; omega
  refine ⟨by have h1 := hb.1.set 0 (.slice (some ⟨g, 0, none⟩) (acc.length + 1) cap); exact h1, ?_, hb.2.set_other _ _ (fun e => h.ne e.symm), h.leQ, h.leF, h.ne, fun x hx => ?_⟩
  · rw [Ds_snoc, List.length_append, List.length_singleton]
    have hG : w4.grownBy (w4.setCell ⟨Q, 0, none⟩ (.slice (some ⟨g, 0, none⟩) (acc.length + 1) cap)) (some Q) := ⟨rfl, rfl, rfl, by simp, fun k _ hk => heap_setCell_other w4 _ k _ (fun e => hk (by rw [e]))⟩
    exact ho.kept hG (.inr (fun e => hgq.1 (by simpa [Value.ownBlock] using e)))
  · have : x = g := by simpa [Value.ownBlock] using hx.symm
    rw [this]; exact hgq
theorem push_below {a w w4 : World} {base Q F : Nat} {tf : TypeId} {fv v u : Value} {acc : List Wm.Bs} (h : Pth w base Q F tf fv v acc) (hb : Below base a w) (hg : w.grownBy w4 v.ownBlock) : Below base a (w4.setCell ⟨Q, 0, none⟩ u) :=
  Below.only (hb.grown hg (Nat.le_of_lt (Nat.lt_of_le_of_lt h.leQ h.blk.lt)) (fun k hk => (h.own.lt k hk).1)) (Only.set _ _ _ _) h.leQ
theorem Tab.below {w w' : World} {base : Nat} (h : Tab w) (k : Below base w w') (hb : 0 < base) : Tab w' := fun j hj => by rw [k.cell (by exact hb)]; exact h j hj

/-- What an append asks of the table of types. -/
structure DgI (i : TypeInfo) : Prop where
  hi : Tryd.prog.info? 31 = some i
  hz : i.zero = some (.agg (Array.replicate 16 (.int .u8 0)))
  hs : i.size = 16
  hb : i.bytes = 16
theorem dgI : ∃ i, DgI i := by
  have h := dig_info
  cases e : Tryd.prog.info? 31 with
  | none => rw [e] at h; cases h
  | some i =>
    rw [e] at h
    simp only [Option.map_some, Option.some.injEq, Prod.mk.injEq] at h
    exact ⟨i, e, h.1, h.2.1, h.2.2⟩
end Go.Proofs.YtaihfkcoiagdaabDoor
