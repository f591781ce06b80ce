/-
  A CONSOLE: text, Valid, Feed (the program's and the reference's), first, put, take, count.
-/
import Derived.Test.YtkhgaikfomcjeaaConA
import Derived.Deep.RegionHeld
import Derived.Lib.Hide
import Derived.Laws.RangeAny
namespace Go.Proofs.Ytkhgaikfomcjeaa
open Go.RowKit Go.ChangeShapes Go.WideShapes Go.ChangeAt

theorem conv_one (b : Int) (u : World) : (convert 29 9 (.slice (some ⟨u.heap.size, 0, none⟩) 1 1)).run Try.prog (u.alloc (.cells #[.int .u8 b] 5)) = .ok (.string (one b)) (u.alloc (.cells #[.int .u8 b] 5)) := by
  have h := (Blk.new u 5 #[.int .u8 b] [.int .u8 b] rfl).sl 0 1 (Nat.le_refl 1)
  exact run_str 29 9 5 Try.underlying29 Try.underlying5 Try.underlying9 (b := [b]) h 1
set_option maxRecDepth 100000 in
theorem text_any (b : Int) (w : World) : Calls Try.prog 22 #[.int .u8 b] w fun e w' => e = .returned (.string (one b)) ∧ Later w w' := by
  have hc := conv_one b w
  have lw := later1 w (.cells #[.int .u8 b] 5)
  go_enter Try.func22, Try.ntmps22
  go_wp2
  go_ret
  exact ⟨rfl, lw⟩
set_option maxRecDepth 100000 in
theorem valid_any (x : Cn) (w : World) : Calls Try.prog 8 #[.agg x.cells.toArray] w fun e w' => e = .returned (.bool x.ok) ∧ Later w w' := by
  obtain ⟨s, n⟩ := x
  have lw := later1 w (.cells (⟨s, n⟩ : Cn).cells.toArray 23)
  obtain ⟨d1, h1⟩ : ∃ d, decide ((s.size : Int) ≤ 64) = d := ⟨_, rfl⟩
  obtain ⟨d2, h2⟩ : ∃ d, decide (0 ≤ n) = d := ⟨_, rfl⟩
  obtain ⟨d3, h3⟩ : ∃ d, decide (n ≤ 1099511627776) = d := ⟨_, rfl⟩
  have hok : Cn.ok ⟨s, n⟩ = (d1 && (d2 && d3)) := by
    rw [← h1, ← h2, ← h3, show decide ((s.size : Int) ≤ 64) = decide (s.size ≤ 64) from by rw [decide_eq_decide]; omega]; rfl
  rw [hok]
  clear hok
  show Calls Try.prog 8 #[.agg #[.string s, .int .i64 n]] w _
  cases d1 <;> cases d2 <;> cases d3 <;> (go_enter Try.func8, Try.ntmps8; go_wp2; go_ret; exact ⟨rfl, lw⟩)
set_option maxRecDepth 100000 in
theorem rvalid_any (x : Cn) (w : World) : Calls Try.prog 9 #[.agg x.cells.toArray] w fun e w' => e = .returned (.bool x.ok) ∧ Later w w' := by
  obtain ⟨s, n⟩ := x
  have lw := later1 w (.cells (⟨s, n⟩ : Cn).cells.toArray 23)
  obtain ⟨d1, h1⟩ : ∃ d, decide ((s.size : Int) ≤ 64) = d := ⟨_, rfl⟩
  obtain ⟨d2, h2⟩ : ∃ d, decide (0 ≤ n) = d := ⟨_, rfl⟩
  obtain ⟨d3, h3⟩ : ∃ d, decide (n ≤ 1099511627776) = d := ⟨_, rfl⟩
  have hok : Cn.ok ⟨s, n⟩ = (d1 && (d2 && d3)) := by
    rw [← h1, ← h2, ← h3, show decide ((s.size : Int) ≤ 64) = decide (s.size ≤ 64) from by rw [decide_eq_decide]; omega]; rfl
  rw [hok]
  clear hok
  show Calls Try.prog 9 #[.agg #[.string s, .int .i64 n]] w _
  cases d1 <;> cases d2 <;> cases d3 <;> (go_enter Try.func9, Try.ntmps9; go_wp2; go_ret; exact ⟨rfl, lw⟩)
theorem i_sz : (Try.prog.info? 3).map (·.size) = some 1 := by kernel_rfl
theorem s_sz : (Try.prog.info? 9).map (·.size) = some 1 := by kernel_rfl
theorem u_sz : (Try.prog.info? 24).map (·.size) = some 1 := by kernel_rfl
set_option maxRecDepth 100000 in
set_option maxHeartbeats 2000000 in
theorem feed_any (x : Cn) (b : Int) (w : World) (h0 : 0 ≤ x.n) (h1 : x.n ≤ 1099511627776) : Calls Try.prog 12 #[.agg x.cells.toArray, .int .u8 b] w fun e w' => e = .returned (.tuple #[.agg (x.feedC b).cells.toArray, .bool x.fed]) ∧ Later w w' := by
  by_cases hf : 64 ≤ x.s.size
  · have d1 : decide ((64 : Int) ≤ (x.s.size : Int)) = true := decide_eq_true (by omega)
    rw [show x.feedC b = ⟨x.s, min (x.n + 1) 1099511627776⟩ from if_pos hf, show x.fed = false from by unfold Cn.fed; rw [decide_eq_true hf]; rfl]
    have a1 : IntKind.i64.wrap (x.n + 1) = x.n + 1 := by rw [IntKind.wrap_i64]; omega
    obtain ⟨m, hm⟩ : ∃ m, (if 1099511627776 < x.n + 1 then (1099511627776 : Int) else x.n + 1) = m := ⟨_, rfl⟩
    rw [show min (x.n + 1) 1099511627776 = m from by rw [← hm]; split <;> omega]
    have b2 := (Blk.new w 23 x.cells.toArray x.cells rfl).alloc (.cells zC.cells.toArray 23)
    have b4 := Blk.new' (w.alloc (.cells x.cells.toArray 23)) (w.heap.size + 1) 23 zC.cells.toArray zC.cells (by simp) rfl
    have lw := (later1 w (.cells x.cells.toArray 23)).alloc (by simp) (.cells zC.cells.toArray 23)
    obtain ⟨u0, hu⟩ : ∃ u0, (w.alloc (.cells x.cells.toArray 23)).alloc (.cells zC.cells.toArray 23) = u0 := ⟨_, rfl⟩
    rw [hu] at b2 b4 lw
    clear hf
    go_enter Try.func12, Try.ntmps12
    go_upto_region 1 with fail
    have hu2 : (w.alloc (.cells x.cells.toArray 23)).alloc (.cells #[.string ⟨#[]⟩, .int .i64 0] 23) = u0 := hu
    rw [hu2]
    clear hu hu2
    have e0 := b2.cell (cn_s x)
    have e1 := b2.cell (cn_n x)
    go_wp2_with (first
      | ((with_reducible refine wpList_set1 (o := ⟨none, .store 3 (.tmp 14) (.tmp 13), _, _, _, none⟩) rfl _ _ _ rfl rfl w.heap.size 1 23 x.cells (.int .i64 m) ?_ ?_ ?_ ?_ ?_ ?_ ?_); rfl; rfl; exact b2; exact i_sz; exact (show 1 < 2 from by decide); rfl; intro w1 bq oq; clear b2 e0 e1; have b2 := bq; rw [set_n] at b2; clear bq; replace b4 := b4.only oq (by omega); replace lw := Below.only lw oq (Nat.le_refl _); clear oq)
      | ((with_reducible refine wpList_load_blk (o := ⟨some 15, .load 23 (.tmp 2), _, _, _, none⟩) rfl _ _ rfl w.heap.size 23 (⟨x.s, m⟩ : Cn).cells _ ?_ ?_ Try.underlying23 rfl (cn_sz _) ?_); rfl; exact b2)
      | ((with_reducible refine wpList_store_abs (o := ⟨none, .store 23 (.tmp 4) (.tmp 15), _, _, _, none⟩) rfl _ _ _ rfl (w.heap.size + 1) 23 zC.cells (⟨x.s, m⟩ : Cn).cells ?_ ?_ ?_ ?_ ?_ ?_ ?_); rfl; rfl; exact b4; exact cn_sz _; rfl; exact cn_one _; intro w9 b9 o9))
    exact bodyPost_ret (cn_ret2 Try.results12 _ _ (w.heap.size + 1) ⟨x.s, m⟩ (.bool false) rfl rfl b9) rfl ⟨rfl, Below.only lw o9 (by omega)⟩
  · have d1 : decide ((64 : Int) ≤ (x.s.size : Int)) = false := decide_eq_false (by omega)
    have KT := Lib.hid fun w' => text_any b w'
    rw [show x.feedC b = (⟨x.s ++ one b, x.n⟩ : Cn) from if_neg hf, show x.fed = true from by unfold Cn.fed; rw [decide_eq_false hf]; rfl]
    have hsum := run_string_add_sum (P := Try.prog) (w := w) x.s (one b) (by show x.s.size + 1 ≤ _; omega)
    have hz : x.s.size ≤ 64 := by omega
    have hz1 : (one b).size = 1 := rfl
    clear hsum
    have b2 := (Blk.new w 23 x.cells.toArray x.cells rfl).alloc (.cells zC.cells.toArray 23)
    have b4 := Blk.new' (w.alloc (.cells x.cells.toArray 23)) (w.heap.size + 1) 23 zC.cells.toArray zC.cells (by simp) rfl
    have lw := (later1 w (.cells x.cells.toArray 23)).alloc (by simp) (.cells zC.cells.toArray 23)
    obtain ⟨u0, hu⟩ : ∃ u0, (w.alloc (.cells x.cells.toArray 23)).alloc (.cells zC.cells.toArray 23) = u0 := ⟨_, rfl⟩
    rw [hu] at b2 b4 lw
    go_enter Try.func12, Try.ntmps12
    go_upto_region 1 with fail
    have hu2 : (w.alloc (.cells x.cells.toArray 23)).alloc (.cells #[.string ⟨#[]⟩, .int .i64 0] 23) = u0 := hu
    rw [hu2]
    clear hu hu2
    have e0 := b2.cell (cn_s x)
    have e1 := b2.cell (cn_n x)
    go_upto_region 4 with fail
    clear e1
    replace b2 := b2.drew
    replace b4 := b4.drew
    replace lw := lw.drew
    replace e0 := b2.cell (cn_s x)
    refine wp_region_held_drew (S := fun w' => True) (by kernel_rfl) trivial (fun hHeld => ?_)
    refine wpAnyH_take (i := 0) (oi := ⟨some 16, .fieldAddr 23 (.tmp 2) 0, _, _, _, none⟩) (v := .pointer (some ⟨w.heap.size, 0, none⟩)) rfl (by kernel_rfl) (by kernel_rfl) (by kernel_rfl) (fun _ _ _ h => h) (Or.inl ⟨by rfl, fun w _ => by go_simp⟩) hHeld ?_
    simp only [Act.put, List.setIfInBounds_toArray, List.set_cons_zero, List.set_cons_succ]
    refine wpAnyH_take (i := 2) (oi := ⟨some 18, .move (.tmp 1), _, _, _, none⟩) (v := .int .u8 b) rfl (by kernel_rfl) (by kernel_rfl) (by kernel_rfl) (fun _ _ _ h => h) (Or.inl ⟨by rfl, fun _ _ => rfl⟩) hHeld ?_
    simp only [Act.put, List.setIfInBounds_toArray, List.set_cons_zero, List.set_cons_succ]
    refine wpAnyH_ready (rs := [1, 3]) (by kernel_rfl) (by simp) (AllReadyH.cons (o := ⟨some 17, .load 9 (.tmp 16), _, _, _, none⟩) rfl (fun K' hK => ?_) (AllReadyH.cons (o := ⟨some 19, .call { callee := .value (.func 22), args := #[.tmp 18], argTypes := #[5] }, _, _, _, none⟩) rfl (fun K' hK => ?_) AllReadyH.nil))
    · go_simp
      refine hK.out _ _ trivial (fun hHeld => ?_)
      clear hK K'
      try simp only [Act.put, List.setIfInBounds_toArray, List.set_cons_zero, List.set_cons_succ]
      refine wpAnyH_ready (rs := [3]) (by kernel_rfl) (by simp) (AllReadyH.cons (o := ⟨some 19, .call { callee := .value (.func 22), args := #[.tmp 18], argTypes := #[5] }, _, _, _, none⟩) rfl (fun K' hK => ?_) AllReadyH.nil)
      go_simp
      (with_reducible refine (KT.out _).mono ?_)
      rintro e w1 ⟨rfl, l1⟩
      replace b2 := b2.keep l1
      replace b4 := b4.keep l1
      replace lw := Later.trans_ lw l1
      have e0 := b2.cell (cn_s x)
      refine hK.out _ _ trivial (fun hHeld => ?_)
      clear hK K'
      try simp only [Act.put, List.setIfInBounds_toArray, List.set_cons_zero, List.set_cons_succ]
      refine wpAnyH_take (i := 4) (oi := ⟨some 20, .binOp .add 9 (.tmp 17) (.tmp 19) 9, _, _, _, none⟩) (v := .string (x.s ++ one b)) rfl (by kernel_rfl) (by kernel_rfl) (by kernel_rfl) (fun _ _ _ h => h) (Or.inl ⟨by rfl, fun w _ => by go_simp <;> omega⟩) hHeld ?_
      simp only [Act.put, List.setIfInBounds_toArray, List.set_cons_zero, List.set_cons_succ]
      refine wpAnyH_take (i := 5) (oi := ⟨some 21, .fieldAddr 23 (.tmp 2) 0, _, _, _, none⟩) (v := .pointer (some ⟨w.heap.size, 0, none⟩)) rfl (by kernel_rfl) (by kernel_rfl) (by kernel_rfl) (fun _ _ _ h => h) (Or.inl ⟨by rfl, fun w _ => by go_simp⟩) hHeld ?_
      simp only [Act.put, List.setIfInBounds_toArray, List.set_cons_zero, List.set_cons_succ]
      refine wpAnyH_ready (rs := [6]) (by kernel_rfl) (by simp) (AllReadyH.cons (o := ⟨none, .store 9 (.tmp 21) (.tmp 20), _, _, _, none⟩) rfl (fun K' hK => ?_) AllReadyH.nil)
      refine wp_set1 9 _ _ rfl rfl w.heap.size 0 23 x.cells (.string (x.s ++ one b)) rfl rfl b2 s_sz (show 0 < 2 from by decide) rfl ?_
      intro w2 bq oq
      clear b2
      have b2 := bq
      rw [set_s] at b2
      clear bq
      replace b4 := b4.only oq (by omega)
      replace lw := Below.only lw oq (Nat.le_refl _)
      clear oq
      refine hK.out _ _ trivial (fun hHeld => ?_)
      clear hK K'
      try simp only [Act.put]
      refine wpAnyH_done (by kernel_rfl) ?_ _
      clear hHeld
      go_wp2_with (first
        | ((with_reducible refine wpList_load_blk (o := ⟨some 22, .load 23 (.tmp 2), _, _, _, none⟩) rfl _ _ rfl w.heap.size 23 (⟨x.s ++ one b, x.n⟩ : Cn).cells _ ?_ ?_ Try.underlying23 rfl (cn_sz _) ?_); rfl; exact b2)
        | ((with_reducible refine wpList_store_abs (o := ⟨none, .store 23 (.tmp 4) (.tmp 22), _, _, _, none⟩) rfl _ _ _ rfl (w.heap.size + 1) 23 zC.cells (⟨x.s ++ one b, x.n⟩ : Cn).cells ?_ ?_ ?_ ?_ ?_ ?_ ?_); rfl; rfl; exact b4; exact cn_sz _; rfl; exact cn_one _; intro w9 b9 o9))
      exact bodyPost_ret (cn_ret2 Try.results12 _ _ (w.heap.size + 1) (⟨x.s ++ one b, x.n⟩ : Cn) (.bool true) rfl rfl b9) rfl ⟨rfl, Below.only lw o9 (by omega)⟩
    · go_simp
      (with_reducible refine (KT.out _).mono ?_)
      rintro e w1 ⟨rfl, l1⟩
      replace b2 := b2.keep l1
      replace b4 := b4.keep l1
      replace lw := Later.trans_ lw l1
      have e0 := b2.cell (cn_s x)
      refine hK.out _ _ trivial (fun hHeld => ?_)
      clear hK K'
      try simp only [Act.put, List.setIfInBounds_toArray, List.set_cons_zero, List.set_cons_succ]
      refine wpAnyH_ready (rs := [1]) (by kernel_rfl) (by simp) (AllReadyH.cons (o := ⟨some 17, .load 9 (.tmp 16), _, _, _, none⟩) rfl (fun K' hK => ?_) AllReadyH.nil)
      go_simp
      refine hK.out _ _ trivial (fun hHeld => ?_)
      clear hK K'
      try simp only [Act.put, List.setIfInBounds_toArray, List.set_cons_zero, List.set_cons_succ]
      refine wpAnyH_take (i := 4) (oi := ⟨some 20, .binOp .add 9 (.tmp 17) (.tmp 19) 9, _, _, _, none⟩) (v := .string (x.s ++ one b)) rfl (by kernel_rfl) (by kernel_rfl) (by kernel_rfl) (fun _ _ _ h => h) (Or.inl ⟨by rfl, fun w _ => by go_simp <;> omega⟩) hHeld ?_
      simp only [Act.put, List.setIfInBounds_toArray, List.set_cons_zero, List.set_cons_succ]
      refine wpAnyH_take (i := 5) (oi := ⟨some 21, .fieldAddr 23 (.tmp 2) 0, _, _, _, none⟩) (v := .pointer (some ⟨w.heap.size, 0, none⟩)) rfl (by kernel_rfl) (by kernel_rfl) (by kernel_rfl) (fun _ _ _ h => h) (Or.inl ⟨by rfl, fun w _ => by go_simp⟩) hHeld ?_
      simp only [Act.put, List.setIfInBounds_toArray, List.set_cons_zero, List.set_cons_succ]
      refine wpAnyH_ready (rs := [6]) (by kernel_rfl) (by simp) (AllReadyH.cons (o := ⟨none, .store 9 (.tmp 21) (.tmp 20), _, _, _, none⟩) rfl (fun K' hK => ?_) AllReadyH.nil)
      refine wp_set1 9 _ _ rfl rfl w.heap.size 0 23 x.cells (.string (x.s ++ one b)) rfl rfl b2 s_sz (show 0 < 2 from by decide) rfl ?_
      intro w2 bq oq
      clear b2
      have b2 := bq
      rw [set_s] at b2
      clear bq
      replace b4 := b4.only oq (by omega)
      replace lw := Below.only lw oq (Nat.le_refl _)
      clear oq
      refine hK.out _ _ trivial (fun hHeld => ?_)
      clear hK K'
      try simp only [Act.put]
      refine wpAnyH_done (by kernel_rfl) ?_ _
      clear hHeld
      go_wp2_with (first
        | ((with_reducible refine wpList_load_blk (o := ⟨some 22, .load 23 (.tmp 2), _, _, _, none⟩) rfl _ _ rfl w.heap.size 23 (⟨x.s ++ one b, x.n⟩ : Cn).cells _ ?_ ?_ Try.underlying23 rfl (cn_sz _) ?_); rfl; exact b2)
        | ((with_reducible refine wpList_store_abs (o := ⟨none, .store 23 (.tmp 4) (.tmp 22), _, _, _, none⟩) rfl _ _ _ rfl (w.heap.size + 1) 23 zC.cells (⟨x.s ++ one b, x.n⟩ : Cn).cells ?_ ?_ ?_ ?_ ?_ ?_ ?_); rfl; rfl; exact b4; exact cn_sz _; rfl; exact cn_one _; intro w9 b9 o9))
      exact bodyPost_ret (cn_ret2 Try.results12 _ _ (w.heap.size + 1) (⟨x.s ++ one b, x.n⟩ : Cn) (.bool true) rfl rfl b9) rfl ⟨rfl, Below.only lw o9 (by omega)⟩
end Go.Proofs.Ytkhgaikfomcjeaa
