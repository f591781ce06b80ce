/-
  THE WALKS OF the reference's below and top.
-/
import Derived.Test.YtempcbdlaoblhabTabRf
namespace Go.Proofs.Ytempcbdlaoblhab
open Go.RowKit Go.ChangeShapes Go.WideShapes Go.ChangeAt

theorem first_sz (a b c d e : Value) : (Try.prog.info? 88).map (·.size) = some [a, b, c, d, e].length := by
  show _ = some 5
  kernel_rfl
theorem first_one (a e : Int) (x y z : Bool) : ∀ v ∈ [Value.int .i64 a, .int .i64 e, .bool x, .bool y, .bool z], v.oneCell' = true := by
  intro v hv
  simp only [List.mem_cons, List.not_mem_nil, or_false] at hv
  rcases hv with rfl | rfl | rfl | rfl | rfl <;> rfl
theorem rbelow_any (a e va : Int) (x y z : Bool) (w : World) (he : 0 ≤ e ∧ e < 1099511627776) (hv : 0 ≤ va ∧ va < 1099511627776) : Calls Try.prog 53 #[.agg #[.int .i64 a, .int .i64 e, .bool x, .bool y, .bool z], .int .i64 va] w fun r w' => r = .returned (.int .i64 (Tm.adr e + 4 * (va / 128 % 32))) ∧ Later w w' := by
  have HA := Lib.hid fun w' => raddress_any e w' he
  have hA : 0 ≤ Tm.adr e ∧ Tm.adr e < 1099511627776 := by unfold Tm.adr; omega
  obtain ⟨p, hp⟩ : ∃ p, p = Tm.adr e := ⟨_, rfl⟩
  rw [← hp] at HA hA ⊢
  have h0 : IntKind.i64.wrap (va / 128) = va / 128 := wrp64 _ (by omega) (by omega)
  have h1 : va.tdiv 128 = va / 128 := Int.tdiv_eq_ediv_of_nonneg hv.1
  have h2 : (va / 128).tmod 32 = va / 128 % 32 := Int.tmod_eq_emod_of_nonneg (by omega)
  have h3 : IntKind.i64.wrap (4 * (va / 128 % 32)) = 4 * (va / 128 % 32) := wrp64 _ (by omega) (by omega)
  have h4 : IntKind.i64.wrap (p + 4 * (va / 128 % 32)) = p + 4 * (va / 128 % 32) := wrp64 _ (by omega) (by omega)
  clear hp hA he hv
  go_enter Try.func53, Try.ntmps53
  go_wp2_with (go_at_call 59; refine (HA.out _).mono ?_; rintro r w' ⟨rfl, rfl⟩)
  go_ret
  exact ⟨rfl, later1 _ _⟩

set_option maxRecDepth 100000 in
set_option maxHeartbeats 4000000 in
theorem rtop_any (A : Option Addr) (n c : Nat) (root va : Int) (b : Wm.Bs) (w : World) (hs : Sl w 128 A n (U b)) (hb : Wm.isBs b) (hn : n ≤ 64) (hr : 0 ≤ root ∧ root < 4294967296) (hv : 0 ≤ va ∧ va < 131072) :
    Calls Try.prog 52 #[.agg #[.slice A n c], .int .i64 root, .int .i64 va] w fun r w' => r = .returned (.agg #[.int .i64 (Tm.fA root va), .int .i64 (Tm.wd b (Tm.fA root va)), .bool (Tm.has (Tm.wd b (Tm.fA root va)) 1), .bool (Tm.rF n (Tm.wd b (Tm.fA root va))), .bool (Tm.has (Tm.wd b (Tm.fA root va)) 64)]) ∧ Later w w' := by
  have hf : root + 4 * (va / 4096) = Tm.fA root va := by unfold Tm.fA; omega
  have hf1 : 0 ≤ Tm.fA root va ∧ Tm.fA root va < 1099511627776 := by unfold Tm.fA; omega
  have h1 : va.tdiv 4096 = va / 4096 := Int.tdiv_eq_ediv_of_nonneg hv.1
  have h3 : IntKind.i64.wrap (4 * (va / 4096)) = 4 * (va / 4096) := wrp64 _ (by omega) (by omega)
  have hq1 : IntKind.i64.wrap (va / 4096) = va / 4096 := wrp64 _ (by omega) (by omega)
  obtain ⟨a, ha⟩ : ∃ a, a = Tm.fA root va := ⟨_, rfl⟩
  rw [← ha] at hf hf1 ⊢
  have h4 : IntKind.i64.wrap a = a := wrp64 _ hf1.1 (by omega)
  have HW := Lib.hid fun w' (hl : Later w w') => rword_any A n c a b w' (hs.keep hl) hb hn hf1
  have he := Tm.wd_e hb a
  obtain ⟨e, hE⟩ : ∃ e, e = Tm.wd b a := ⟨_, rfl⟩
  rw [← hE] at HW he ⊢
  have he' : 0 ≤ e ∧ e < 1099511627776 := ⟨he.1, by have := he.2; omega⟩
  have HV := Lib.hid fun w' => rhas_any e 1 w' he' (by omega)
  have HG := Lib.hid fun w' => rhas_any e 64 w' he' (by omega)
  have HA := Lib.hid fun w' => raddress_any e w' he'
  have hpa : 0 ≤ Tm.adr e ∧ Tm.adr e < 1099511627776 := by unfold Tm.adr; omega
  have HP := Lib.hid fun w' => rpage_any A n c (Tm.adr e) w' hn hpa
  have h5 : (Tm.adr e).tmod 4096 = Tm.adr e % 4096 := Int.tmod_eq_emod_of_nonneg hpa.1
  have h6 : e.tdiv 2 = e / 2 := Int.tdiv_eq_ediv_of_nonneg he.1
  have h7 : (e / 2).tmod 32 = e / 2 % 32 := Int.tmod_eq_emod_of_nonneg (by have := he.1; omega)
  have hd2 : IntKind.i64.wrap (e / 2) = e / 2 := wrp64 _ (by have := he.1; omega) (by have := he.2; omega)
  unfold Tm.rF
  obtain ⟨p, hp⟩ : ∃ p, p = Tm.adr e := ⟨_, rfl⟩
  rw [← hp] at HA HP hpa h5 ⊢
  obtain ⟨vl, hvl⟩ : ∃ v, v = Tm.has e 1 := ⟨_, rfl⟩
  rw [← hvl] at HV ⊢
  obtain ⟨lg, hlg⟩ : ∃ v, v = Tm.has e 64 := ⟨_, rfl⟩
  rw [← hlg] at HG ⊢
  have b3 := (Blk.new w 24 #[.slice A n c] [.slice A n c] rfl).alloc (.cells #[.int .i64 0, .int .i64 0, .bool false, .bool false, .bool false] 88)
  have b6 := Blk.new' (w.alloc (.cells #[.slice A n c] 24)) (w.heap.size + 1) 88 #[.int .i64 0, .int .i64 0, .bool false, .bool false, .bool false] [.int .i64 0, .int .i64 0, .bool false, .bool false, .bool false] (by simp) rfl
  have lx := (later1 w (.cells #[.slice A n c] 24)).alloc (by simp) (.cells #[.int .i64 0, .int .i64 0, .bool false, .bool false, .bool false] 88)
  clear hs hb ha hE hp hvl hlg hv hr
  cases lg with
  | true =>
    rw [if_pos rfl]
    go_enter Try.func52, Try.ntmps52
    go_wp2_with (first
      | (go_at_call 56; refine (HW.out _ lx).mono ?_; rintro r w2 ⟨rfl, l2⟩; replace b3 := b3.keep l2; replace b6 := b6.keep l2; have lw := Later.trans_ lx l2; have h6' := b6.lt)
      | (go_at_call 36; (with_reducible refine (HV.out _).mono ?_); rintro r w' ⟨rfl, rfl⟩)
      | (go_at_call 36; (with_reducible refine (HG.out _).mono ?_); rintro r w' ⟨rfl, rfl⟩)
      | (go_at_call 59; refine (HA.out _).mono ?_; rintro r w' ⟨rfl, rfl⟩)
      | ((with_reducible refine wpList_store_abs (o := ⟨none, .store 88 (.tmp 6) (.tmp 43), _, _, _, none⟩) rfl _ _ _ rfl (w.heap.size + 1) 88 [.int .i64 0, .int .i64 0, .bool false, .bool false, .bool false] [.int .i64 a, .int .i64 e, .bool vl, .bool (p % 4096 == 0), .bool true] ?_ ?_ (b6.keep (later1 w2 (.cells #[.int .i64 a, .int .i64 e, .bool vl, .bool (p % 4096 == 0), .bool true] 88))) ?_ ?_ ?_ ?_); rfl; rfl; exact first_sz _ _ _ _ _; rfl; exact first_one _ _ _ _ _; intro w5 b7 o5))
    exact bodyPost_ret (v := .agg #[.int .i64 a, .int .i64 e, .bool vl, .bool (p % 4096 == 0), .bool true]) (results_blk Try.results52 _ _ (w.heap.size + 1) 88 [.int .i64 a, .int .i64 e, .bool vl, .bool (p % 4096 == 0), .bool true] _ rfl b7 Try.underlying88 rfl (first_sz _ _ _ _ _)) rfl
      ⟨rfl, Below.only (Later.trans_ lw (later1 w2 (.cells #[.int .i64 a, .int .i64 e, .bool vl, .bool (p % 4096 == 0), .bool true] 88))) o5 (by omega)⟩
  | false =>
    rw [if_neg (by decide)]
    obtain ⟨q, hq⟩ : ∃ q, q = decide (e / 2 % 32 = 0) := ⟨_, rfl⟩
    rw [← hq]
    have hq2 : (e / 2 % 32 == 0) = q := hq.symm
    clear hq
    cases q with
    | true =>
      rw [Bool.true_and]
      go_enter Try.func52, Try.ntmps52
      go_wp2_with (first
        | (go_at_call 56; refine (HW.out _ lx).mono ?_; rintro r w2 ⟨rfl, l2⟩; replace b3 := b3.keep l2; replace b6 := b6.keep l2; have lw := Later.trans_ lx l2; have h6' := b6.lt)
        | (go_at_call 36; (with_reducible refine (HV.out _).mono ?_); rintro r w' ⟨rfl, rfl⟩)
        | (go_at_call 36; (with_reducible refine (HG.out _).mono ?_); rintro r w' ⟨rfl, rfl⟩)
        | (go_at_call 59; refine (HA.out _).mono ?_; rintro r w' ⟨rfl, rfl⟩))
      have b9 := Blk.new w2 88 #[.int .i64 a, .int .i64 e, .bool vl, .bool false, .bool false] [.int .i64 a, .int .i64 e, .bool vl, .bool false, .bool false] rfl
      replace b3 := (b3.keep (later1 w2 (.cells #[.int .i64 a, .int .i64 e, .bool vl, .bool false, .bool false] 88))).drew
      replace b6 := (b6.keep (later1 w2 (.cells #[.int .i64 a, .int .i64 e, .bool vl, .bool false, .bool false] 88))).drew
      replace b9 := b9.drew
      replace lw := (Later.trans_ lw (later1 w2 (.cells #[.int .i64 a, .int .i64 e, .bool vl, .bool false, .bool false] 88))).drew
      have c9 := b9.cell (j := 3) (v := .bool false) rfl
      have f9 := b9.frz 3
      refine wp_region_held_drew (S := fun w' => w'.cell? ⟨w.heap.size, 0, none⟩ = some (.slice A n c)) (by kernel_rfl) (b3.cell (j := 0) rfl) (fun hHeld => ?_)
      refine wpAnyH_take (i := 0) (oi := ⟨some 32, .move (.tmp 8), _, _, _, none⟩) (v := .int .i64 e) rfl (by kernel_rfl) (by kernel_rfl) (by kernel_rfl) (fun _ _ _ h => h) (Or.inl ⟨by rfl, fun _ _ => rfl⟩) hHeld ?_
      simp only [Act.put, List.setIfInBounds_toArray, List.set_cons_zero, List.set_cons_succ]
      refine wpAnyH_take (i := 1) (oi := ⟨some 33, .binOp .quo 3 (.tmp 32) (.const (.int .i64 2)) 3, _, _, _, none⟩) (v := .int .i64 (e / 2)) rfl (by kernel_rfl) (by kernel_rfl) (by kernel_rfl) (fun _ _ _ h => h) (Or.inl ⟨by rfl, fun w _ => by go_simp⟩) hHeld ?_
      simp only [Act.put, List.setIfInBounds_toArray, List.set_cons_zero, List.set_cons_succ]
      refine wpAnyH_take (i := 2) (oi := ⟨some 34, .binOp .rem 3 (.tmp 33) (.const (.int .i64 32)) 3, _, _, _, none⟩) (v := .int .i64 (e / 2 % 32)) rfl (by kernel_rfl) (by kernel_rfl) (by kernel_rfl) (fun _ _ _ h => h) (Or.inl ⟨by rfl, fun w _ => by go_simp⟩) hHeld ?_
      simp only [Act.put, List.setIfInBounds_toArray, List.set_cons_zero, List.set_cons_succ]
      refine wpAnyH_take (i := 3) (oi := ⟨some 35, .binOp .eql 3 (.tmp 34) (.const (.int .i64 0)) 3, _, _, _, none⟩) (v := .bool true) rfl (by kernel_rfl) (by kernel_rfl) (by kernel_rfl) (fun _ _ _ h => h) (Or.inl ⟨by rfl, fun w _ => by go_simp⟩) hHeld ?_
      simp only [Act.put, List.setIfInBounds_toArray, List.set_cons_zero, List.set_cons_succ]
      refine wpAnyH_take (i := 4) (oi := ⟨some 36, .move (.tmp 35), _, _, _, none⟩) (v := .bool true) rfl (by kernel_rfl) (by kernel_rfl) (by kernel_rfl) (fun _ _ _ h => h) (Or.inl ⟨by rfl, fun _ _ => rfl⟩) hHeld ?_
      simp only [Act.put, List.setIfInBounds_toArray, List.set_cons_zero, List.set_cons_succ]
      refine wpAnyH_take (i := 5) (oi := ⟨some 37, .load 24 (.tmp 3), _, _, _, _⟩) (v := .agg #[.slice A n c]) rfl (by kernel_rfl) (by kernel_rfl) (by kernel_rfl) (fun _ _ _ h => h) (Or.inl ⟨by rfl, fun w hSw => by have e1 := hSw; clear hSw; go_simp⟩) hHeld ?_
      simp only [Act.put, List.setIfInBounds_toArray, List.set_cons_zero, List.set_cons_succ]
      refine wpAnyH_take (i := 6) (oi := ⟨some 38, .move (.tmp 8), _, _, _, _⟩) (v := .int .i64 e) rfl (by kernel_rfl) (by kernel_rfl) (by kernel_rfl) (fun _ _ _ h => h) (Or.inl ⟨by rfl, fun _ _ => rfl⟩) hHeld ?_
      simp only [Act.put, List.setIfInBounds_toArray, List.set_cons_zero, List.set_cons_succ]
      refine wpAnyH_ready (rs := [7]) (by kernel_rfl) (by simp) (AllReadyH.cons (o := ⟨some 39, .call { callee := .value (.func 59), args := #[.tmp 38], argTypes := #[3] }, _, _, _, _⟩) rfl (fun K' hK => ?_) (AllReadyH.nil))
      go_simp
      refine (HA.out _).mono ?_
      rintro r w' ⟨rfl, rfl⟩
      refine hK.out _ _ (b3.cell (j := 0) rfl) (fun hHeld => ?_)
      clear hK K'
      try simp only [Act.put, List.setIfInBounds_toArray, List.set_cons_zero, List.set_cons_succ]
      refine wpAnyH_ready (rs := [8]) (by kernel_rfl) (by simp) (AllReadyH.cons (o := ⟨some 40, .call { callee := .value (.func 34), args := #[.tmp 37, .tmp 39], argTypes := #[24, 3] }, _, _, _, _⟩) rfl (fun K' hK => ?_) (AllReadyH.nil))
      go_simp
      refine (HP.out _).mono ?_
      rintro r w4 ⟨rfl, l4⟩
      replace b3 := b3.keep l4
      replace b6 := b6.keep l4
      replace b9 := b9.keep l4
      replace lw := Later.trans_ lw l4
      clear c9 f9
      have c9 := b9.cell (j := 3) (v := .bool false) rfl
      have f9 := b9.frz 3
      refine hK.out _ _ (b3.cell (j := 0) rfl) (fun hHeld => ?_)
      clear hK K'
      try simp only [Act.put, List.setIfInBounds_toArray, List.set_cons_zero, List.set_cons_succ]
      refine wpAnyH_take (i := 9) (oi := ⟨some 41, .pick (.tmp 36) (.tmp 40) (.const (.bool false)), _, _, _, none⟩) (v := .bool (Tm.pageB n p)) rfl (by kernel_rfl) (by kernel_rfl) (by kernel_rfl) (fun _ _ _ h => h) (Or.inl ⟨by rfl, fun w _ => by go_simp⟩) hHeld ?_
      simp only [Act.put, List.setIfInBounds_toArray, List.set_cons_zero, List.set_cons_succ]
      refine wpAnyH_take (i := 10) (oi := ⟨some 42, .fieldAddr 88 (.tmp 9) 3, _, _, _, none⟩) (v := .pointer (some ⟨w2.heap.size, 3, none⟩)) rfl (by kernel_rfl) (by kernel_rfl) (by kernel_rfl) (fun _ _ _ h => h) (Or.inl ⟨by rfl, fun w _ => by go_simp⟩) hHeld ?_
      simp only [Act.put, List.setIfInBounds_toArray, List.set_cons_zero, List.set_cons_succ]
      refine wpAnyH_ready (rs := [11]) (by kernel_rfl) (by simp) (AllReadyH.cons (o := ⟨none, .store 4 (.tmp 42) (.tmp 41), _, _, _, none⟩) rfl (fun K' hK => ?_) (AllReadyH.nil))
      go_simp
      replace b6 := b6.set_other ⟨w2.heap.size, 3, none⟩ (.bool (Tm.pageB n p)) (by show w.heap.size + 1 ≠ w2.heap.size; omega)
      replace b3 := b3.set_other ⟨w2.heap.size, 3, none⟩ (.bool (Tm.pageB n p)) (by show w.heap.size ≠ w2.heap.size; omega)
      have b9' := b9.set 3 (.bool (Tm.pageB n p))
      replace lw := lw.setCell (p := ⟨w2.heap.size, 3, none⟩) (by show w.heap.size ≤ w2.heap.size; omega) (.bool (Tm.pageB n p))
      clear c9 f9
      have k0 := b9'.cell (j := 0) (v := .int .i64 a) rfl
      have k1 := b9'.cell (j := 1) (v := .int .i64 e) rfl
      have k2 := b9'.cell (j := 2) (v := .bool vl) rfl
      have k3 := b9'.cell (j := 3) (v := .bool (Tm.pageB n p)) rfl
      have k4 := b9'.cell (j := 4) (v := .bool false) rfl
      refine hK.out _ _ (b3.cell (j := 0) rfl) (fun hHeld => ?_)
      clear hK K'
      try simp only [Act.put, List.setIfInBounds_toArray, List.set_cons_zero, List.set_cons_succ]
      refine wpAnyH_done (by kernel_rfl) ?_ _
      clear hHeld
      go_wp2_with (first
        | ((with_reducible refine wpList_store_abs (o := ⟨none, .store 88 (.tmp 6) (.tmp 43), _, _, _, none⟩) rfl _ _ _ rfl (w.heap.size + 1) 88 [.int .i64 0, .int .i64 0, .bool false, .bool false, .bool false] [.int .i64 a, .int .i64 e, .bool vl, .bool (Tm.pageB n p), .bool false] ?_ ?_ b6 ?_ ?_ ?_ ?_); rfl; rfl; exact first_sz _ _ _ _ _; rfl; exact first_one _ _ _ _ _; intro w5 b7 o5))
      exact bodyPost_ret (v := .agg #[.int .i64 a, .int .i64 e, .bool vl, .bool (Tm.pageB n p), .bool false]) (results_blk Try.results52 _ _ (w.heap.size + 1) 88 [.int .i64 a, .int .i64 e, .bool vl, .bool (Tm.pageB n p), .bool false] _ rfl b7 Try.underlying88 rfl (first_sz _ _ _ _ _)) rfl
        ⟨rfl, Below.only lw o5 (by omega)⟩
    | false =>
      rw [Bool.false_and]
      go_enter Try.func52, Try.ntmps52
      go_wp2_with (first
        | (go_at_call 56; refine (HW.out _ lx).mono ?_; rintro r w2 ⟨rfl, l2⟩; replace b3 := b3.keep l2; replace b6 := b6.keep l2; have lw := Later.trans_ lx l2; have h6' := b6.lt)
        | (go_at_call 36; (with_reducible refine (HV.out _).mono ?_); rintro r w' ⟨rfl, rfl⟩)
        | (go_at_call 36; (with_reducible refine (HG.out _).mono ?_); rintro r w' ⟨rfl, rfl⟩)
        | (go_at_call 59; refine (HA.out _).mono ?_; rintro r w' ⟨rfl, rfl⟩))
      have b9 := Blk.new w2 88 #[.int .i64 a, .int .i64 e, .bool vl, .bool false, .bool false] [.int .i64 a, .int .i64 e, .bool vl, .bool false, .bool false] rfl
      replace b3 := (b3.keep (later1 w2 (.cells #[.int .i64 a, .int .i64 e, .bool vl, .bool false, .bool false] 88))).drew
      replace b6 := (b6.keep (later1 w2 (.cells #[.int .i64 a, .int .i64 e, .bool vl, .bool false, .bool false] 88))).drew
      replace b9 := b9.drew
      replace lw := (Later.trans_ lw (later1 w2 (.cells #[.int .i64 a, .int .i64 e, .bool vl, .bool false, .bool false] 88))).drew
      have c9 := b9.cell (j := 3) (v := .bool false) rfl
      have f9 := b9.frz 3
      refine wp_region_held_drew (S := fun w' => w'.cell? ⟨w.heap.size, 0, none⟩ = some (.slice A n c)) (by kernel_rfl) (b3.cell (j := 0) rfl) (fun hHeld => ?_)
      refine wpAnyH_take (i := 0) (oi := ⟨some 32, .move (.tmp 8), _, _, _, none⟩) (v := .int .i64 e) rfl (by kernel_rfl) (by kernel_rfl) (by kernel_rfl) (fun _ _ _ h => h) (Or.inl ⟨by rfl, fun _ _ => rfl⟩) hHeld ?_
      simp only [Act.put, List.setIfInBounds_toArray, List.set_cons_zero, List.set_cons_succ]
      refine wpAnyH_take (i := 1) (oi := ⟨some 33, .binOp .quo 3 (.tmp 32) (.const (.int .i64 2)) 3, _, _, _, none⟩) (v := .int .i64 (e / 2)) rfl (by kernel_rfl) (by kernel_rfl) (by kernel_rfl) (fun _ _ _ h => h) (Or.inl ⟨by rfl, fun w _ => by go_simp⟩) hHeld ?_
      simp only [Act.put, List.setIfInBounds_toArray, List.set_cons_zero, List.set_cons_succ]
      refine wpAnyH_take (i := 2) (oi := ⟨some 34, .binOp .rem 3 (.tmp 33) (.const (.int .i64 32)) 3, _, _, _, none⟩) (v := .int .i64 (e / 2 % 32)) rfl (by kernel_rfl) (by kernel_rfl) (by kernel_rfl) (fun _ _ _ h => h) (Or.inl ⟨by rfl, fun w _ => by go_simp⟩) hHeld ?_
      simp only [Act.put, List.setIfInBounds_toArray, List.set_cons_zero, List.set_cons_succ]
      refine wpAnyH_take (i := 3) (oi := ⟨some 35, .binOp .eql 3 (.tmp 34) (.const (.int .i64 0)) 3, _, _, _, none⟩) (v := .bool false) rfl (by kernel_rfl) (by kernel_rfl) (by kernel_rfl) (fun _ _ _ h => h) (Or.inl ⟨by rfl, fun w _ => by go_simp⟩) hHeld ?_
      simp only [Act.put, List.setIfInBounds_toArray, List.set_cons_zero, List.set_cons_succ]
      refine wpAnyH_take (i := 4) (oi := ⟨some 36, .move (.tmp 35), _, _, _, none⟩) (v := .bool false) rfl (by kernel_rfl) (by kernel_rfl) (by kernel_rfl) (fun _ _ _ h => h) (Or.inl ⟨by rfl, fun _ _ => rfl⟩) hHeld ?_
      simp only [Act.put, List.setIfInBounds_toArray, List.set_cons_zero, List.set_cons_succ]
      refine wpAnyH_take (i := 5) (oi := ⟨some 37, .load 24 (.tmp 3), _, _, _, _⟩) (v := undef) rfl (by kernel_rfl) (by kernel_rfl) (by kernel_rfl) (fun _ _ _ h => h) (Or.inr ⟨by rfl, rfl⟩) hHeld ?_
      simp only [Act.put, List.setIfInBounds_toArray, List.set_cons_zero, List.set_cons_succ]
      refine wpAnyH_take (i := 6) (oi := ⟨some 38, .move (.tmp 8), _, _, _, _⟩) (v := undef) rfl (by kernel_rfl) (by kernel_rfl) (by kernel_rfl) (fun _ _ _ h => h) (Or.inr ⟨by rfl, rfl⟩) hHeld ?_
      simp only [Act.put, List.setIfInBounds_toArray, List.set_cons_zero, List.set_cons_succ]
      refine wpAnyH_take (i := 7) (oi := ⟨some 39, .call { callee := .value (.func 59), args := #[.tmp 38], argTypes := #[3] }, _, _, _, _⟩) (v := undef) rfl (by kernel_rfl) (by kernel_rfl) (by kernel_rfl) (fun _ _ _ h => h) (Or.inr ⟨by rfl, rfl⟩) hHeld ?_
      simp only [Act.put, List.setIfInBounds_toArray, List.set_cons_zero, List.set_cons_succ]
      refine wpAnyH_take (i := 8) (oi := ⟨some 40, .call { callee := .value (.func 34), args := #[.tmp 37, .tmp 39], argTypes := #[24, 3] }, _, _, _, _⟩) (v := undef) rfl (by kernel_rfl) (by kernel_rfl) (by kernel_rfl) (fun _ _ _ h => h) (Or.inr ⟨by rfl, rfl⟩) hHeld ?_
      simp only [Act.put, List.setIfInBounds_toArray, List.set_cons_zero, List.set_cons_succ]
      refine wpAnyH_take (i := 9) (oi := ⟨some 41, .pick (.tmp 36) (.tmp 40) (.const (.bool false)), _, _, _, none⟩) (v := .bool false) rfl (by kernel_rfl) (by kernel_rfl) (by kernel_rfl) (fun _ _ _ h => h) (Or.inl ⟨by rfl, fun w _ => by go_simp⟩) hHeld ?_
      simp only [Act.put, List.setIfInBounds_toArray, List.set_cons_zero, List.set_cons_succ]
      refine wpAnyH_take (i := 10) (oi := ⟨some 42, .fieldAddr 88 (.tmp 9) 3, _, _, _, none⟩) (v := .pointer (some ⟨w2.heap.size, 3, none⟩)) rfl (by kernel_rfl) (by kernel_rfl) (by kernel_rfl) (fun _ _ _ h => h) (Or.inl ⟨by rfl, fun w _ => by go_simp⟩) hHeld ?_
      simp only [Act.put, List.setIfInBounds_toArray, List.set_cons_zero, List.set_cons_succ]
      refine wpAnyH_ready (rs := [11]) (by kernel_rfl) (by simp) (AllReadyH.cons (o := ⟨none, .store 4 (.tmp 42) (.tmp 41), _, _, _, none⟩) rfl (fun K' hK => ?_) (AllReadyH.nil))
      go_simp
      clear c9 f9
      have k0 := b9.cell (j := 0) (v := .int .i64 a) rfl
      have k1 := b9.cell (j := 1) (v := .int .i64 e) rfl
      have k2 := b9.cell (j := 2) (v := .bool vl) rfl
      have k3 := b9.cell (j := 3) (v := .bool false) rfl
      have k4 := b9.cell (j := 4) (v := .bool false) rfl
      refine hK.out _ _ (b3.cell (j := 0) rfl) (fun hHeld => ?_)
      clear hK K'
      try simp only [Act.put, List.setIfInBounds_toArray, List.set_cons_zero, List.set_cons_succ]
      refine wpAnyH_done (by kernel_rfl) ?_ _
      clear hHeld
      go_wp2_with (first
        | ((with_reducible refine wpList_store_abs (o := ⟨none, .store 88 (.tmp 6) (.tmp 43), _, _, _, none⟩) rfl _ _ _ rfl (w.heap.size + 1) 88 [.int .i64 0, .int .i64 0, .bool false, .bool false, .bool false] [.int .i64 a, .int .i64 e, .bool vl, .bool false, .bool false] ?_ ?_ b6 ?_ ?_ ?_ ?_); rfl; rfl; exact first_sz _ _ _ _ _; rfl; exact first_one _ _ _ _ _; intro w5 b7 o5))
      exact bodyPost_ret (v := .agg #[.int .i64 a, .int .i64 e, .bool vl, .bool false, .bool false]) (results_blk Try.results52 _ _ (w.heap.size + 1) 88 [.int .i64 a, .int .i64 e, .bool vl, .bool false, .bool false] _ rfl b7 Try.underlying88 rfl (first_sz _ _ _ _ _)) rfl
        ⟨rfl, Below.only lw o5 (by omega)⟩
end Go.Proofs.Ytempcbdlaoblhab
