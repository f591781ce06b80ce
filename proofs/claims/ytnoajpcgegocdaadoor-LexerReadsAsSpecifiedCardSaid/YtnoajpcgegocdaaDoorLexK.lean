/-
  THE WALK OF the reference's escaped.
-/
import Derived.Test.YtnoajpcgegocdaaDoorLexJ
namespace Go.Proofs.YtnoajpcgegocdaaDoor
open Go.RowKit Go.ChangeShapes Go.WideShapes Go.ChangeAt

/-- An escape's cells. -/
def Ex (r : UInt8 × Nat) : List Value := [.int .u8 r.1.toNat, .int .i64 r.2]
theorem ex_sz (r : UInt8 × Nat) : (Tryd.prog.info? 108).map (·.size) = some (Ex r).length := by kernel_rfl
theorem ex_one (r : UInt8 × Nat) : ∀ v ∈ Ex r, v.oneCell' = true := by
  intro v hv
  simp only [Ex, List.mem_cons, List.not_mem_nil, or_false] at hv
  rcases hv with rfl | rfl <;> rfl
theorem hexI_neg {c : UInt8} (h : ¬ Lx.hexV c < 16) : hexI c = -1 := by unfold hexI; rw [if_neg h]
theorem hexI_pos {c : UInt8} (h : Lx.hexV c < 16) : hexI c = (Lx.hexV c : Int) := by unfold hexI; rw [if_pos h]
theorem esc_other {c : UInt8} {r : Lx.Str} (h1 : c ≠ 110) (h2 : c ≠ 34) (h3 : c ≠ 92) (h4 : c ≠ 120) : Lx.esc (c :: r) = (0, 0) := by
  unfold Lx.esc
  simp only
  rw [if_neg h1, if_neg (by rintro (h | h); exact h2 h; exact h3 h), if_neg h4]

theorem wrap64_id {n : Int} (h1 : -9223372036854775808 ≤ n) (h2 : n ≤ 9223372036854775807) : IntKind.i64.wrap n = n := by
  rw [IntKind.wrap_i64]; omega
set_option maxRecDepth 100000 in
set_option maxHeartbeats 2000000 in
theorem rescaped_any (s : ByteArray) (i : Nat) (w : World) (hi : i < s.size) (hs : s.size ≤ 1000000) : Calls Tryd.prog 69 #[.string s, .int .i64 i] w fun e w' => e = .returned (.agg (Ex (Lx.esc ((L s).drop (i + 1)))).toArray) ∧ Later w w' := by
  have hlen := L_len s
  have n1 : ((i : Int) + 1).toNat = i + 1 := by omega
  have n2 : ((i : Int) + 2).toNat = i + 2 := by omega
  have n3 : ((i : Int) + 3).toNat = i + 3 := by omega
  by_cases h1 : s.size ≤ i + 1
  · rw [List.drop_eq_nil_of_le (by omega)]
    have g1 : decide ((s.size : Int) ≤ (i : Int) + 1) = true := decide_eq_true (by omega)
    go_enter Tryd.func69, Tryd.ntmps69
    go_wp2
    exact bodyPost_ret (v := .agg (Ex (0, 0)).toArray) (results_blk Tryd.results69 _ _ w.heap.size 108 (Ex (0, 0)) _ rfl (Blk.new w _ _ _ rfl) Tryd.underlying108 rfl (ex_sz _)) rfl ⟨rfl, later1 _ _⟩
  have g1 : decide ((s.size : Int) ≤ (i : Int) + 1) = false := decide_eq_false (by omega)
  have h1' : i + 1 < s.size := by omega
  obtain ⟨c, hc⟩ : ∃ c, s[i + 1]'h1' = c := ⟨_, rfl⟩
  have hd : (L s).drop (i + 1) = c :: (L s).drop (i + 2) := by
    rw [List.drop_eq_getElem_cons (by omega), ← L_get s (i + 1) h1', hc]
  rw [hd]
  clear hd
  have HX := Lib.hid fun c w' => hexadecimal_any c w'
  by_cases e2 : c = 34
  · have b2 := ceqT (k := 34) e2 rfl
    rw [show Lx.esc (c :: (L s).drop (i + 2)) = (c, 2) by subst e2; rfl]
    clear e2
    go_enter Tryd.func69, Tryd.ntmps69
    go_wp2
    exact bodyPost_ret (v := .agg (Ex (c, 2)).toArray) (results_blk Tryd.results69 _ _ w.heap.size 108 (Ex (c, 2)) _ rfl (Blk.new w _ _ _ rfl) Tryd.underlying108 rfl (ex_sz _)) rfl ⟨rfl, later1 _ _⟩
  have b2 := ceqF (k := 34) e2 rfl
  by_cases e3 : c = 92
  · have b3 := ceqT (k := 92) e3 rfl
    rw [show Lx.esc (c :: (L s).drop (i + 2)) = (c, 2) by subst e3; rfl]
    clear e2 e3
    go_enter Tryd.func69, Tryd.ntmps69
    go_wp2
    exact bodyPost_ret (v := .agg (Ex (c, 2)).toArray) (results_blk Tryd.results69 _ _ w.heap.size 108 (Ex (c, 2)) _ rfl (Blk.new w _ _ _ rfl) Tryd.underlying108 rfl (ex_sz _)) rfl ⟨rfl, later1 _ _⟩
  have b3 := ceqF (k := 92) e3 rfl
  by_cases e1 : c = 110
  · have b1 := ceqT (k := 110) e1 rfl
    rw [show Lx.esc (c :: (L s).drop (i + 2)) = (10, 2) by subst e1; rfl]
    clear e1 e2 e3
    go_enter Tryd.func69, Tryd.ntmps69
    go_wp2
    exact bodyPost_ret (v := .agg (Ex (10, 2)).toArray) (results_blk Tryd.results69 _ _ w.heap.size 108 (Ex (10, 2)) _ rfl (Blk.new w _ _ _ rfl) Tryd.underlying108 rfl (ex_sz _)) rfl ⟨rfl, later1 _ _⟩
  have b1 := ceqF (k := 110) e1 rfl
  by_cases e4 : c = 120
  · have b4 := ceqT (k := 120) e4 rfl
    subst e4
    by_cases h4 : s.size ≤ i + 3
    · rw [esc_short (by rw [List.length_drop]; omega)]
      have g4 : decide ((i : Int) + 3 < (s.size : Int)) = false := decide_eq_false (by omega)
      clear e1 e2 e3
      go_enter Tryd.func69, Tryd.ntmps69
      go_wp2
      exact bodyPost_ret (v := .agg (Ex (0, 0)).toArray) (results_blk Tryd.results69 _ _ w.heap.size 108 (Ex (0, 0)) _ rfl (Blk.new w _ _ _ rfl) Tryd.underlying108 rfl (ex_sz _)) rfl ⟨rfl, later1 _ _⟩
    have g4 : decide ((i : Int) + 3 < (s.size : Int)) = true := decide_eq_true (by omega)
    obtain ⟨a, ha⟩ : ∃ a, s[i + 2]'(by omega) = a := ⟨_, rfl⟩
    obtain ⟨b, hb⟩ : ∃ b, s[i + 3]'(by omega) = b := ⟨_, rfl⟩
    have hd2 : (L s).drop (i + 2) = a :: b :: (L s).drop (i + 4) := by
      rw [List.drop_eq_getElem_cons (by omega), List.drop_eq_getElem_cons (i := i + 2 + 1) (by omega), ← L_get s (i + 2) (by omega), ← L_get s (i + 2 + 1) (by omega), ha]
      rw [show s[i + 2 + 1]'(by omega) = b from hb]
    rw [hd2, esc_x]
    have HA := Lib.hid (HX.out a)
    have HB := Lib.hid (HX.out b)
    clear hd2 HX e1 e2 e3
    by_cases xa : Lx.hexV a < 16
    · rw [hexI_pos xa] at HA
      have ga : decide ((0 : Int) ≤ (Lx.hexV a : Int)) = true := decide_eq_true (by omega)
      by_cases xb : Lx.hexV b < 16
      · rw [hexI_pos xb] at HB
        have gb : decide ((0 : Int) ≤ (Lx.hexV b : Int)) = true := decide_eq_true (by omega)
        rw [if_pos ⟨xa, xb⟩]
        obtain ⟨va, hva⟩ : ∃ va, Lx.hexV a = va := ⟨_, rfl⟩
        obtain ⟨vb, hvb⟩ : ∃ vb, Lx.hexV b = vb := ⟨_, rfl⟩
        rw [hva] at HA ga xa ⊢
        rw [hvb] at HB gb xb ⊢
        clear hva hvb
        obtain ⟨z, hz⟩ : ∃ z, 16 * va + vb = z := ⟨_, rfl⟩
        have hz2 : z < 256 := by omega
        rw [hz]
        have hzi : (16 : Int) * (va : Int) + (vb : Int) = (z : Int) := by omega
        have hw8 : IntKind.u8.wrap (z : Int) = z := by rw [IntKind.wrap_u8]; omega
        have w2 : IntKind.i64.wrap ((i : Int) + 2) = (i : Int) + 2 := wrap64_id (by omega) (by omega)
        have w3 : IntKind.i64.wrap ((i : Int) + 3) = (i : Int) + 3 := wrap64_id (by omega) (by omega)
        have w16 : IntKind.i64.wrap (16 * (va : Int)) = 16 * (va : Int) := wrap64_id (by omega) (by omega)
        have wz : IntKind.i64.wrap (16 * (va : Int) + (vb : Int)) = (z : Int) := by rw [hzi]; exact wrap64_id (by omega) (by omega)
        have wz2 : IntKind.i64.wrap (z : Int) = (z : Int) := wrap64_id (by omega) (by omega)
        have hto : ((UInt8.ofNat z).toNat : Int) = z := by rw [UInt8.toNat_ofNat_of_lt' hz2]
        have HT := Lib.hid (show Ex (UInt8.ofNat z, 4) = [.int .u8 z, .int .i64 4] by unfold Ex; rw [hto]; rfl)
        have hone : ∀ v ∈ [Value.int .u8 (z : Int), .int .i64 4], v.oneCell' = true := by rw [← HT.out]; exact ex_one _
        have hszz : (Tryd.prog.info? 108).map (·.size) = some [Value.int .u8 (z : Int), .int .i64 4].length := by rw [← HT.out]; exact ex_sz _
        clear hz hto
        go_enter Tryd.func69, Tryd.ntmps69
        go_wp2_with (first
          | (go_at_call 68; (with_reducible refine (HA.out _).mono ?_); rintro e w' ⟨rfl, rfl⟩)
          | (go_at_call 68; (with_reducible refine (HB.out _).mono ?_); rintro e w' ⟨rfl, rfl⟩))
        refine wp_region_held_drew (S := fun w' => True) (by kernel_rfl) trivial (fun hHeld => ?_)
        refine wpAnyH_take (i := 0) (oi := ⟨some 49, .move (.tmp 0), _, _, _, none⟩) (v := .string s) rfl (by kernel_rfl) (by kernel_rfl) (by kernel_rfl) (fun _ _ _ h => h) (Or.inl ⟨by rfl, fun _ _ => rfl⟩) hHeld ?_
        simp only [Act.put, List.setIfInBounds_toArray, List.set_cons_zero, List.set_cons_succ]
        refine wpAnyH_take (i := 1) (oi := ⟨some 50, .move (.tmp 1), _, _, _, none⟩) (v := .int .i64 (i : Int)) rfl (by kernel_rfl) (by kernel_rfl) (by kernel_rfl) (fun _ _ _ h => h) (Or.inl ⟨by rfl, fun _ _ => rfl⟩) hHeld ?_
        simp only [Act.put, List.setIfInBounds_toArray, List.set_cons_zero, List.set_cons_succ]
        refine wpAnyH_take (i := 2) (oi := ⟨some 51, .binOp .add 3 (.tmp 50) (.const (.int .i64 2)) 3, _, _, _, none⟩) (v := .int .i64 ((i : Int) + 2)) rfl (by kernel_rfl) (by kernel_rfl) (by kernel_rfl) (fun _ _ _ h => h) (Or.inl ⟨by rfl, fun w _ => by go_simp <;> (first | omega | (intro h; omega))⟩) hHeld ?_
        simp only [Act.put, List.setIfInBounds_toArray, List.set_cons_zero, List.set_cons_succ]
        refine wpAnyH_take (i := 3) (oi := ⟨some 52, .index 9 (.tmp 49) (.tmp 51), _, _, _, none⟩) (v := .int .u8 (a.toNat : Int)) rfl (by kernel_rfl) (by kernel_rfl) (by kernel_rfl) (fun _ _ _ h => h) (Or.inl ⟨by rfl, fun w _ => by go_simp <;> (first | omega | (intro h; omega))⟩) hHeld ?_
        simp only [Act.put, List.setIfInBounds_toArray, List.set_cons_zero, List.set_cons_succ]
        refine wpAnyH_take (i := 6) (oi := ⟨some 55, .move (.tmp 0), _, _, _, none⟩) (v := .string s) rfl (by kernel_rfl) (by kernel_rfl) (by kernel_rfl) (fun _ _ _ h => h) (Or.inl ⟨by rfl, fun _ _ => rfl⟩) hHeld ?_
        simp only [Act.put, List.setIfInBounds_toArray, List.set_cons_zero, List.set_cons_succ]
        refine wpAnyH_take (i := 7) (oi := ⟨some 56, .move (.tmp 1), _, _, _, none⟩) (v := .int .i64 (i : Int)) rfl (by kernel_rfl) (by kernel_rfl) (by kernel_rfl) (fun _ _ _ h => h) (Or.inl ⟨by rfl, fun _ _ => rfl⟩) hHeld ?_
        simp only [Act.put, List.setIfInBounds_toArray, List.set_cons_zero, List.set_cons_succ]
        refine wpAnyH_take (i := 8) (oi := ⟨some 57, .binOp .add 3 (.tmp 56) (.const (.int .i64 3)) 3, _, _, _, none⟩) (v := .int .i64 ((i : Int) + 3)) rfl (by kernel_rfl) (by kernel_rfl) (by kernel_rfl) (fun _ _ _ h => h) (Or.inl ⟨by rfl, fun w _ => by go_simp <;> (first | omega | (intro h; omega))⟩) hHeld ?_
        simp only [Act.put, List.setIfInBounds_toArray, List.set_cons_zero, List.set_cons_succ]
        refine wpAnyH_take (i := 9) (oi := ⟨some 58, .index 9 (.tmp 55) (.tmp 57), _, _, _, none⟩) (v := .int .u8 (b.toNat : Int)) rfl (by kernel_rfl) (by kernel_rfl) (by kernel_rfl) (fun _ _ _ h => h) (Or.inl ⟨by rfl, fun w _ => by go_simp <;> (first | omega | (intro h; omega))⟩) hHeld ?_
        simp only [Act.put, List.setIfInBounds_toArray, List.set_cons_zero, List.set_cons_succ]
        refine wpAnyH_ready (rs := [4]) (by kernel_rfl) (by simp) (AllReadyH.cons (o := ⟨some 53, .call { callee := .value (.func 68), args := #[.tmp 52], argTypes := #[5] }, _, _, _, none⟩) rfl (fun K' hK => ?_) (AllReadyH.nil))
        go_simp
        (with_reducible refine (HA.out _).mono ?_)
        rintro e w' ⟨rfl, rfl⟩
        refine hK.out _ _ trivial (fun hHeld => ?_)
        clear hK K'
        try simp only [Act.put, List.setIfInBounds_toArray, List.set_cons_zero, List.set_cons_succ]
        refine wpAnyH_take (i := 5) (oi := ⟨some 54, .binOp .mul 3 (.const (.int .i64 16)) (.tmp 53) 3, _, _, _, none⟩) (v := .int .i64 (16 * (va : Int))) rfl (by kernel_rfl) (by kernel_rfl) (by kernel_rfl) (fun _ _ _ h => h) (Or.inl ⟨by rfl, fun w _ => by go_simp <;> (first | omega | (intro h; omega))⟩) hHeld ?_
        simp only [Act.put, List.setIfInBounds_toArray, List.set_cons_zero, List.set_cons_succ]
        refine wpAnyH_ready (rs := [10]) (by kernel_rfl) (by simp) (AllReadyH.cons (o := ⟨some 59, .call { callee := .value (.func 68), args := #[.tmp 58], argTypes := #[5] }, _, _, _, none⟩) rfl (fun K' hK => ?_) (AllReadyH.nil))
        go_simp
        (with_reducible refine (HB.out _).mono ?_)
        rintro e w' ⟨rfl, rfl⟩
        refine hK.out _ _ trivial (fun hHeld => ?_)
        clear hK K'
        try simp only [Act.put, List.setIfInBounds_toArray, List.set_cons_zero, List.set_cons_succ]
        refine wpAnyH_take (i := 11) (oi := ⟨some 60, .binOp .add 3 (.tmp 54) (.tmp 59) 3, _, _, _, none⟩) (v := .int .i64 (z : Int)) rfl (by kernel_rfl) (by kernel_rfl) (by kernel_rfl) (fun _ _ _ h => h) (Or.inl ⟨by rfl, fun w _ => by go_simp <;> (first | omega | (intro h; omega))⟩) hHeld ?_
        simp only [Act.put, List.setIfInBounds_toArray, List.set_cons_zero, List.set_cons_succ]
        refine wpAnyH_take (i := 12) (oi := ⟨some 61, .convert 3 5 (.tmp 60), _, _, _, none⟩) (v := .int .u8 (z : Int)) rfl (by kernel_rfl) (by kernel_rfl) (by kernel_rfl) (fun _ _ _ h => h) (Or.inl ⟨by rfl, fun w _ => by go_simp <;> (first | omega | (intro h; omega))⟩) hHeld ?_
        simp only [Act.put, List.setIfInBounds_toArray, List.set_cons_zero, List.set_cons_succ]
        refine wpAnyH_take (i := 13) (oi := ⟨some 62, .build 108 #[(0, .tmp 61), (1, .const (.int .i64 4))], _, _, _, none⟩) (v := .agg #[.int .u8 (z : Int), .int .i64 4]) rfl (by kernel_rfl) (by kernel_rfl) (by kernel_rfl) (fun _ _ _ h => h) (Or.inl ⟨by rfl, fun w _ => by go_simp <;> (first | omega | (intro h; omega))⟩) hHeld ?_
        simp only [Act.put, List.setIfInBounds_toArray, List.set_cons_zero, List.set_cons_succ]
        refine wpAnyH_ready (rs := [14]) (by kernel_rfl) (by simp) (AllReadyH.cons (o := ⟨none, .store 108 (.tmp 4) (.tmp 62), _, _, _, none⟩) rfl (fun K' hK => ?_) (AllReadyH.nil))
        refine wp_store_whole _ _ _ rfl w.heap.size 108 (Ex (0, 0)) [.int .u8 (z : Int), .int .i64 4] rfl rfl (Blk.new w _ _ _ rfl) hszz rfl hone ?_
        intro u5 b10 o5
        refine hK.out _ _ trivial (fun hHeld => ?_)
        clear hK K'
        try simp only [Act.put]
        refine wpAnyH_done (by kernel_rfl) ?_ _
        clear hHeld
        try simp only [Act.put]
        go_wp2_with fail
        rw [HT.out]
        exact bodyPost_ret (v := .agg #[.int .u8 (z : Int), .int .i64 4]) (results_blk Tryd.results69 _ _ w.heap.size 108 [.int .u8 (z : Int), .int .i64 4] _ rfl b10 Tryd.underlying108 rfl hszz) rfl ⟨rfl, Below.only (later1 _ _) o5 (Nat.le_refl _)⟩
      · rw [hexI_neg xb] at HB
        rw [if_neg (fun h => xb h.2)]
        clear xa xb
        go_enter Tryd.func69, Tryd.ntmps69
        go_wp2_with (first
          | (go_at_call 68; (with_reducible refine (HA.out _).mono ?_); rintro e w' ⟨rfl, rfl⟩)
          | (go_at_call 68; (with_reducible refine (HB.out _).mono ?_); rintro e w' ⟨rfl, rfl⟩))
        exact bodyPost_ret (v := .agg (Ex (0, 0)).toArray) (results_blk Tryd.results69 _ _ w.heap.size 108 (Ex (0, 0)) _ rfl (Blk.new w _ _ _ rfl) Tryd.underlying108 rfl (ex_sz _)) rfl ⟨rfl, later1 _ _⟩
    · rw [hexI_neg xa] at HA
      rw [if_neg (fun h => xa h.1)]
      clear xa
      go_enter Tryd.func69, Tryd.ntmps69
      go_wp2_with (go_at_call 68; (with_reducible refine (HA.out _).mono ?_); rintro e w' ⟨rfl, rfl⟩)
      exact bodyPost_ret (v := .agg (Ex (0, 0)).toArray) (results_blk Tryd.results69 _ _ w.heap.size 108 (Ex (0, 0)) _ rfl (Blk.new w _ _ _ rfl) Tryd.underlying108 rfl (ex_sz _)) rfl ⟨rfl, later1 _ _⟩
  have b4 := ceqF (k := 120) e4 rfl
  rw [esc_other e1 e2 e3 e4]
  clear e1 e2 e3 e4 HX
  go_enter Tryd.func69, Tryd.ntmps69
  go_wp2
  exact bodyPost_ret (v := .agg (Ex (0, 0)).toArray) (results_blk Tryd.results69 _ _ w.heap.size 108 (Ex (0, 0)) _ rfl (Blk.new w _ _ _ rfl) Tryd.underlying108 rfl (ex_sz _)) rfl ⟨rfl, later1 _ _⟩
end Go.Proofs.YtnoajpcgegocdaaDoor
