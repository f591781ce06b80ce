/-
  A CONTROL: Encode.
-/
import Derived.Test.YtkpigonlnabmdabLinN
import Derived.Deep.RegionHeld
namespace Go.Proofs.Ytkpigonlnabmdab
open Go.RowKit Go.ChangeShapes Go.WideShapes Go.ChangeAt

def Ctl.upto (x : Ctl) (k : Nat) : Ctl := ⟨x.n, lt_ k x.r, lt_ k x.m, fun _ => 0⟩
def z14 : List Int := [0, 0, 0, 0, 0, 0, 0, 0, 0, 0, 0, 0, 0, 0]
theorem made_14 : madeCells (Value.int .i64 0).cells 14 = (N64 z14).toArray := by kernel_rfl
theorem nums_sr (x : Ctl) {k : Nat} (hk : k < 4) : ((N64 (x.upto k).nums).set (1 + k) (.int .i64 (x.r k))).set (5 + k) (.int .i64 (x.m k)) = N64 (x.upto (k + 1)).nums := by
  rcases (show k = 0 ∨ k = 1 ∨ k = 2 ∨ k = 3 by omega) with rfl | rfl | rfl | rfl <;> rfl
theorem nums_t (x : Ctl) : (N64 (x.upto 4).nums).take 9 ++ five x.t ++ (N64 (x.upto 4).nums).drop (9 + (five x.t).length) = N64 x.nums := rfl
theorem five_one (f : Nat → Int) : ∀ v ∈ five f, v.oneCell' = true := by
  intro v hv
  simp only [five, List.mem_cons, List.not_mem_nil, or_false] at hv
  rcases hv with rfl | rfl | rfl | rfl | rfl <;> rfl
theorem nums_len (x : Ctl) : (N64 x.nums).length = 14 := rfl
theorem i_sz : (Try.prog.info? 3).map (·.size) = some 1 := by kernel_rfl
theorem five_at (x : Ctl) {j : Nat} {v : Value} (h : (five x.t)[j]? = some v) : x.cells[9 + j]? = some v := by
  have hj : j < 5 := by
    rcases Nat.lt_or_ge j 5 with h1 | h1
    · exact h1
    · rw [List.getElem?_eq_none (show (five x.t).length ≤ j from h1)] at h; cases h
  rcases (show j = 0 ∨ j = 1 ∨ j = 2 ∨ j = 3 ∨ j = 4 by omega) with rfl | rfl | rfl | rfl | rfl <;> exact h
set_option maxRecDepth 100000 in
set_option maxHeartbeats 4000000 in
theorem enc_any (x : Ctl) (w : World) (hw : x.wf) : Calls Try.prog 20 #[.agg x.cells.toArray] w (GotBs (Wm.encL Wm.encI x.nums) w) := by
  have b1 := Blk.new w 26 x.cells.toArray x.cells rfl
  have lw := later1 w (.cells x.cells.toArray 26)
  obtain ⟨u0, hu⟩ : ∃ u0, w.alloc (.cells x.cells.toArray 26) = u0 := ⟨_, rfl⟩
  rw [hu] at b1 lw
  have e0 := b1.cell (ctl_n x)
  have HI := Lib.hid fun A c w' (hs : Sl w' 1 A 14 (N64 x.nums)) => wireInts_any A 14 c x.nums w' hs (nums_in hw) (by unfold maxLen; omega) (by have := encL_le x.nums (nums_in hw) rfl; omega)
  have HW := Lib.hid hw
  clear hw
  obtain ⟨i0, hi, hz0, hz1, hz2⟩ := info_parts int_info
  have hmk : ∀ w', (Instr.makeSlice 72 (.int .i64 14) (.int .i64 14)).run Try.prog w' = .ok (.slice (some ⟨w'.heap.size, 0, none⟩) 14 14) (w'.alloc (.cells (N64 z14).toArray 3)) := by
    intro w'
    have h := run_makeSlice (P := Try.prog) w' 72 3 i0 _ Try.underlying72 hi hz0 .i64 .i64 14 14 (by omega) (by omega) (by rw [hz1]; decide) (by rw [hz2]; decide) (by omega)
    rw [hz1, show Int.toNat 14 * 1 = 14 from rfl, made_14] at h
    exact h
  clear hi hz0 hz1 hz2
  go_enter Try.func20, Try.ntmps20
  go_upto_region 1 with fail
  clear hu
  go_upto_region 2 with fail
  have bl := Blk.new u0 3 (N64 z14).toArray (N64 z14) rfl
  have hgl := lw.size
  have hng := Nat.ne_of_lt b1.lt
  replace b1 := b1.alloc (.cells (N64 z14).toArray 3)
  replace lw := lw.alloc hgl (.cells (N64 z14).toArray 3)
  obtain ⟨g, hg⟩ : ∃ g, g = u0.heap.size := ⟨_, rfl⟩
  rw [← hg] at bl hgl hng ⊢
  obtain ⟨u1, hu1⟩ : ∃ u1, u1 = u0.alloc (.cells (N64 z14).toArray 3) := ⟨_, rfl⟩
  rw [← hu1] at b1 bl lw ⊢
  clear hg hu1 hmk
  have e1 := bl.cell (j := 0) (v := .int .i64 0) rfl
  have f1 := bl.frz 0
  replace e0 := b1.cell (ctl_n x)
  go_upto_region 3 with fail
  obtain ⟨u2, hu2⟩ : ∃ u2, u2 = u1.setCell ⟨g, 0, none⟩ (.int .i64 x.n) := ⟨_, rfl⟩
  rw [← hu2]
  have bl2 : Blk u2 g 3 (N64 (x.upto 0).nums) := by rw [hu2]; exact bl.set 0 (.int .i64 x.n)
  replace b1 : Blk u2 w.heap.size 26 x.cells := by rw [hu2]; exact b1.set_other ⟨g, 0, none⟩ (.int .i64 x.n) hng
  replace lw : Later w u2 := by rw [hu2]; exact lw.setCell (p := ⟨g, 0, none⟩) hgl (.int .i64 x.n)
  clear hu2 bl e0 e1 f1
  have bl := bl2
  clear bl2
  go_wp2
  go_loopw [10] (fun i wr => ∃ k : Nat, k ≤ 4 ∧ i = .int .i64 k ∧ Blk wr g 3 (N64 (x.upto k).nums) ∧ Blk wr w.heap.size 26 x.cells ∧ Later w wr) (fun i _ => 4 - (intOf i).toNat)
  case atStart => exact ⟨0, by omega, rfl, bl, b1, lw⟩
  case round =>
    clear bl b1 lw
    obtain ⟨k, hk, rfl, bl, b1, lw⟩ := hrel
    by_cases hlt : k < 4
    · have hkn : (k : Int) < 4 := by omega
      have hk0 : (0 : Int) ≤ k := by omega
      have e1 := b1.cell (ctl_r x hlt)
      have e2 := b1.cell (ctl_m x hlt)
      have i1 := wrap_in (x.r k) (by have := HW.out.r k hlt; exact ⟨this.1, by have := this.2; omega⟩)
      have i2 := wrap_in (x.m k) (by have := HW.out.m k hlt; exact ⟨this.1, by have := this.2; omega⟩)
      have HN := Lib.hid (nums_sr x hlt)
      obtain ⟨q1, g1⟩ := Option.isSome_iff_exists.1 (bl.there1 (j := 1 + k) (show 1 + k < 14 by omega))
      have f1 := bl.frz (1 + k)
      have a1 : IntKind.i64.wrap (1 + (k : Int)) = 1 + (k : Int) := by rw [IntKind.wrap_i64]; omega
      have a2 : IntKind.i64.wrap (5 + (k : Int)) = 5 + (k : Int) := by rw [IntKind.wrap_i64]; omega
      go_upto_region 7 with fail
      obtain ⟨u3, hu3⟩ : ∃ u3, u3 = wr.setCell ⟨g, 1 + k, none⟩ (.int .i64 (x.r k)) := ⟨_, rfl⟩
      rw [← hu3]
      replace bl := bl.set (1 + k) (.int .i64 (x.r k))
      replace b1 := b1.set_other ⟨g, 1 + k, none⟩ (.int .i64 (x.r k)) hng
      replace lw := lw.setCell (p := ⟨g, 1 + k, none⟩) hgl (.int .i64 (x.r k))
      rw [← hu3] at bl b1 lw
      clear hu3 e1 e2 g1 f1
      have e2 := b1.cell (ctl_m x hlt)
      obtain ⟨q2, g2⟩ := Option.isSome_iff_exists.1 (bl.there1 (j := 5 + k) (show 5 + k < (List.set _ _ _).length by rw [List.length_set]; show 5 + k < 14; omega))
      have f2 := bl.frz (5 + k)
      go_wp2
      replace bl := bl.set (5 + k) (.int .i64 (x.m k))
      rw [HN.out] at bl
      replace b1 := b1.set_other ⟨g, 5 + k, none⟩ (.int .i64 (x.m k)) hng
      replace lw := lw.setCell (p := ⟨g, 5 + k, none⟩) hgl (.int .i64 (x.m k))
      clear e2 g2 f2
      first
        | exact ⟨⟨k + 1, by omega, by first | go_num | (congr 1; omega), bl, b1, lw⟩, by simp [intOf]; omega⟩
        | (go_roundw
           case rel => first | exact ⟨k + 1, by omega, by go_num, bl, b1, lw⟩ | exact ⟨k + 1, by omega, by omega, bl, b1⟩
           case measure => simp [intOf]; omega)
    · obtain rfl : k = 4 := by omega
      clear hlt hk
      go_upto_region 9 with fail
      replace bl := bl.drew
      replace b1 := b1.drew
      replace lw := lw.drew
      refine wp_region_held_drew (S := fun w' => True) (by kernel_rfl) trivial (fun hHeld => ?_)
      refine wpAnyH_take (i := 0) (oi := ⟨some 32, .move (.tmp 3), _, _, _, none⟩) (v := .slice (some ⟨g, 0, none⟩) 14 14) rfl (by kernel_rfl) (by kernel_rfl) (by kernel_rfl) (fun _ _ _ h => h) (Or.inl ⟨by rfl, fun _ _ => rfl⟩) hHeld ?_
      simp only [Act.put, List.setIfInBounds_toArray, List.set_cons_zero, List.set_cons_succ]
      refine wpAnyH_take (i := 1) (oi := ⟨some 33, .slice 72 (.tmp 32) (some (.const (.int .i64 9))) none none, _, _, _, none⟩) (v := .slice (some ⟨g, 9, none⟩) 5 5) rfl (by kernel_rfl) (by kernel_rfl) (by kernel_rfl) (fun _ _ _ h => h) (Or.inl ⟨by rfl, fun w _ => by go_simp⟩) hHeld ?_
      simp only [Act.put, List.setIfInBounds_toArray, List.set_cons_zero, List.set_cons_succ]
      refine wpAnyH_take (i := 2) (oi := ⟨some 34, .fieldAddr 26 (.tmp 1) 3, _, _, _, none⟩) (v := .pointer (some ⟨w.heap.size, 9, none⟩)) rfl (by kernel_rfl) (by kernel_rfl) (by kernel_rfl) (fun _ _ _ h => h) (Or.inl ⟨by rfl, fun w _ => by go_simp⟩) hHeld ?_
      simp only [Act.put, List.setIfInBounds_toArray, List.set_cons_zero, List.set_cons_succ]
      refine wpAnyH_take (i := 3) (oi := ⟨some 35, .slice 24 (.tmp 34) none none none, _, _, _, none⟩) (v := .slice (some ⟨w.heap.size, 9, none⟩) 5 5) rfl (by kernel_rfl) (by kernel_rfl) (by kernel_rfl) (fun _ _ _ h => h) (Or.inl ⟨by rfl, fun w _ => by go_simp⟩) hHeld ?_
      simp only [Act.put, List.setIfInBounds_toArray, List.set_cons_zero, List.set_cons_succ]
      refine wpAnyH_ready (rs := [4]) (by kernel_rfl) (by simp) (AllReadyH.cons (o := ⟨some 36, .call { callee := .builtin .copy, args := #[.tmp 33, .tmp 35], argTypes := #[72, 72] }, _, _, _, none⟩) rfl (fun K' hK => ?_) (AllReadyH.nil))
      refine wp_copy_row _ _ rfl Try.underlying72 i_sz g 9 _ _ rfl ⟨w.heap.size, 9, none⟩ 5 5 rfl (five x.t) rfl (fun j v hj => by rw [Addr.add_mid]; exact b1.cell (five_at x hj)) 3 (N64 (x.upto 4).nums) bl (show 9 + 5 ≤ 14 from by decide) (five_one _) ?_
      intro w9 b9 o9
      rw [nums_t] at b9
      replace lw := Below.only lw o9 hgl
      refine hK.out _ _ trivial (fun hHeld => ?_)
      clear hK K'
      try simp only [Act.put, List.setIfInBounds_toArray, List.set_cons_zero, List.set_cons_succ]
      refine wpAnyH_done (by kernel_rfl) ?_ _
      clear hHeld
      go_wp2_with (go_at_call 38; refine (made_as (HI.out _ _ _ (sl_new64 b9))).mono ?_; rintro e w6 ⟨A6, c6, rfl, g1, g2, _, s6, l6⟩)
      go_ret
      exact ⟨A6, _, c6, rfl, g1, g2, rfl, s6, Later.trans_ lw l6⟩
end Go.Proofs.Ytkpigonlnabmdab
