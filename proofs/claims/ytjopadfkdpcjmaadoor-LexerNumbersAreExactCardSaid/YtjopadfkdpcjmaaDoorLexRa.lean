/-
  THE WALK OF the reference's quoted.
-/
import Derived.Test.YtjopadfkdpcjmaaDoorLexQ
import Derived.Test.YtjopadfkdpcjmaaDoorLexY
namespace Go.Proofs.YtjopadfkdpcjmaaDoor
open Go.RowKit Go.ChangeShapes Go.WideShapes Go.ChangeAt

set_option maxRecDepth 100000 in
set_option maxHeartbeats 8000000 in
theorem rquoted_any (s : ByteArray) (w : World) (hs : s.size ≤ 100000) :
    Calls Tryd.prog 39 #[.string s] w fun e w' => ∃ x : ByteArray, e = .returned (.string x) ∧ L x = Lx.quoted (L s) ∧ Later w w' := by
  obtain ⟨i0, hi, hz0, hz1, hz2⟩ := info_parts u8_info
  have hlen := L_len s
  have hsl : ∀ c, (Lx.srcB c).length ≤ 4 := fun c => by unfold Lx.srcB; split <;> (try split) <;> (try split) <;> simp
  have hfl : ∀ l : Lx.Str, (l.flatMap Lx.srcB).length ≤ 4 * l.length := by
    intro l
    induction l with
    | nil => simp
    | cons c r ih => rw [List.flatMap_cons, List.length_append, List.length_cons]; have := hsl c; omega
  have HFL := Lib.hid hfl
  clear hsl hfl
  go_enter Tryd.func39, Tryd.ntmps39
  go_wp2
  have ho0 : (w.alloc (.cells #[.int .u8 34] 5)).ownsRow w.heap.size 5 1 (.slice (some ⟨w.heap.size, 0, none⟩) 1 1) (34 :: ((L s).take 0).flatMap Lx.srcB).length (Ub (34 :: ((L s).take 0).flatMap Lx.srcB)) :=
    World.ownsRow_lit (base := w.heap.size) (e := 5) (size := 1) w #[.int .u8 34] 1 (Nat.le_refl _) (by unfold maxLen; omega) rfl
  have hb0 := later1 w (.cells #[.int .u8 34] 5)
  go_loopw [4, 5] (fun x i wr => ∃ k : Nat, k ≤ s.size ∧ i = .int .i64 k ∧ wr.ownsRow w.heap.size 5 1 x (34 :: ((L s).take k).flatMap Lx.srcB).length (Ub (34 :: ((L s).take k).flatMap Lx.srcB)) ∧ Later w wr) (fun _ i _ => s.size - (intOf i).toNat)
  case atStart => exact ⟨0, by omega, rfl, ho0, hb0⟩
  case round =>
    obtain ⟨k, hk, rfl, hor, hbr⟩ := hrel
    rename_i wr
    clear ho0 hb0
    have hBr : w.heap.size ≤ wr.heap.size := hbr.size
    have hkl := HFL.out ((L s).take k)
    rw [List.length_take] at hkl
    by_cases hlt : k < s.size
    · obtain ⟨c, hc⟩ : ∃ c, s[k]'hlt = c := ⟨_, rfl⟩
      have htk : (L s).take (k + 1) = (L s).take k ++ [c] := by
        rw [List.take_succ_eq_append_getElem (by omega), ← L_get s k hlt, hc]
      have hnx : 34 :: ((L s).take (k + 1)).flatMap Lx.srcB = (34 :: ((L s).take k).flatMap Lx.srcB) ++ Lx.srcB c := by
        rw [htk, List.flatMap_append]; simp
      have hll : (34 :: ((L s).take k).flatMap Lx.srcB).length ≤ 1000000 := by rw [List.length_cons]; omega
      clear htk hkl
      obtain ⟨X, hX⟩ : ∃ X, 34 :: ((L s).take k).flatMap Lx.srcB = X := ⟨_, rfl⟩
      rw [hX] at hnx hll hor
      clear hX
      have hlt256 := c.toNat_lt
      by_cases e2 : c = 34
      · have b2 := ceqT (k := 34) e2 rfl
        rw [show Lx.srcB c = [92, c] by rw [e2]; rfl] at hnx
        clear e2
        have HN := Lib.hid hnx
        clear hnx
        go_wp2_with (at_builtin; refine wpList_append_own _ rfl _ _ 49 rfl w.heap.size 5 i0 (.int .u8 0) 1 1 Tryd.underlying49 hi hz0 hz1 hz2 rfl (by decide) _ _ _ rfl (hor.alloc _) ⟨wr.heap.size, 0, none⟩ 2 2 (Ub [92, c]) rfl rfl (fun j u hu => World.news_of_block (heap_alloc_new wr _) j u hu) (Ub_one _) (by unfold maxLen; omega) (by omega) (by simp; omega) ?_; intro v' w1 hown' hgrow _)
        go_roundw
        case rel => exact ⟨k + 1, by omega, by go_num, by rw [HN.out]; exact own_snocB (b := [92, c]) hown', (hbr.alloc hbr.size _).grown hgrow (by simp; omega) (fun j hj => (hor.lt j hj).1)⟩
        case measure => first | (simp [intOf]; omega) | (simp; omega)
      have b2 := ceqF (k := 34) e2 rfl
      by_cases e3 : c = 92
      · have b3 := ceqT (k := 92) e3 rfl
        rw [show Lx.srcB c = [92, c] by rw [e3]; rfl] at hnx
        clear e2 e3
        have HN := Lib.hid hnx
        clear hnx
        go_wp2_with (at_builtin; refine wpList_append_own _ rfl _ _ 49 rfl w.heap.size 5 i0 (.int .u8 0) 1 1 Tryd.underlying49 hi hz0 hz1 hz2 rfl (by decide) _ _ _ rfl (hor.alloc _) ⟨wr.heap.size, 0, none⟩ 2 2 (Ub [92, c]) rfl rfl (fun j u hu => World.news_of_block (heap_alloc_new wr _) j u hu) (Ub_one _) (by unfold maxLen; omega) (by omega) (by simp; omega) ?_; intro v' w1 hown' hgrow _)
        go_roundw
        case rel => exact ⟨k + 1, by omega, by go_num, by rw [HN.out]; exact own_snocB (b := [92, c]) hown', (hbr.alloc hbr.size _).grown hgrow (by simp; omega) (fun j hj => (hor.lt j hj).1)⟩
        case measure => first | (simp [intOf]; omega) | (simp; omega)
      have b3 := ceqF (k := 92) e3 rfl
      by_cases e1 : c = 10
      · have b1 := ceqT (k := 10) e1 rfl
        rw [show Lx.srcB c = [92, 110] by rw [e1]; rfl] at hnx
        clear e1 e2 e3
        have HN := Lib.hid hnx
        clear hnx
        go_wp2_with (at_builtin; refine wpList_append_own _ rfl _ _ 49 rfl w.heap.size 5 i0 (.int .u8 0) 1 1 Tryd.underlying49 hi hz0 hz1 hz2 rfl (by decide) _ _ _ rfl (hor.alloc _) ⟨wr.heap.size, 0, none⟩ 2 2 (Ub [92, 110]) rfl rfl (fun j u hu => World.news_of_block (heap_alloc_new wr _) j u hu) (Ub_one _) (by unfold maxLen; omega) (by omega) (by simp; omega) ?_; intro v' w1 hown' hgrow _)
        go_roundw
        case rel => exact ⟨k + 1, by omega, by go_num, by rw [HN.out]; exact own_snocB (b := [92, 110]) hown', (hbr.alloc hbr.size _).grown hgrow (by simp; omega) (fun j hj => (hor.lt j hj).1)⟩
        case measure => first | (simp [intOf]; omega) | (simp; omega)
      have b1 := ceqF (k := 10) e1 rfl
      have hs0 : Lx.srcB c = if Lx.plainB c then [c] else [92, 120, Lx.hexD (c.toNat / 16), Lx.hexD (c.toNat % 16)] := by
        unfold Lx.srcB
        rw [if_neg e1, if_neg (by rintro (h | h); exact e2 h; exact e3 h)]
      clear e1 e2 e3
      by_cases hp : 32 ≤ c.toNat ∧ c.toNat ≤ 126
      · rw [hs0, if_pos (show Lx.plainB c = true from decide_eq_true hp)] at hnx
        clear hs0
        have p1 : decide ((c.toNat : Int) < 32) = false := decide_eq_false (by omega)
        have p2 : decide ((126 : Int) < (c.toNat : Int)) = false := decide_eq_false (by omega)
        have p3 : ¬ (c.toNat : Int) < 32 := by omega
        have p4 : ¬ (126 : Int) < (c.toNat : Int) := by omega
        clear hp
        have HN := Lib.hid hnx
        clear hnx
        go_wp2_with (at_builtin; refine wpList_append_own _ rfl _ _ 49 rfl w.heap.size 5 i0 (.int .u8 0) 1 1 Tryd.underlying49 hi hz0 hz1 hz2 rfl (by decide) _ _ _ rfl (hor.alloc _) ⟨wr.heap.size, 0, none⟩ 1 1 (Ub [c]) rfl rfl (fun j u hu => World.news_of_block (heap_alloc_new wr _) j u hu) (Ub_one _) (by unfold maxLen; omega) (by omega) (by simp; omega) ?_; intro v' w1 hown' hgrow _)
        go_roundw
        case rel => exact ⟨k + 1, by omega, by go_num, by rw [HN.out]; exact own_snocB (b := [c]) hown', (hbr.alloc hbr.size _).grown hgrow (by simp; omega) (fun j hj => (hor.lt j hj).1)⟩
        case measure => first | (simp [intOf]; omega) | (simp; omega)
      · rw [hs0, if_neg (by unfold Lx.plainB; rw [decide_eq_true_eq]; exact hp)] at hnx
        clear hs0
        by_cases h32 : c.toNat < 32
        · have p1 : decide ((c.toNat : Int) < 32) = true := decide_eq_true (by omega)
          have p3 : (c.toNat : Int) < 32 := by omega
          clear hp
          have hv1 := digitS_at (((c.toNat : Int) / 16).toNat) (by omega)
          have hv2 := digitS_at (((c.toNat : Int) % 16).toNat) (by omega)
          rw [show ((c.toNat : Int) / 16).toNat = c.toNat / 16 by omega] at hv1
          rw [show ((c.toNat : Int) % 16).toNat = c.toNat % 16 by omega] at hv2
          have y1 : ((c.toNat : Int) / 16).toNat = c.toNat / 16 := by omega
          have y2 : ((c.toNat : Int) % 16).toNat = c.toNat % 16 := by omega
          have g1 : IntKind.u8.wrap ((c.toNat : Int) / 16) = (c.toNat : Int) / 16 := by rw [IntKind.wrap_u8]; omega
          have g2 : IntKind.u8.wrap ((c.toNat : Int) % 16) = (c.toNat : Int) % 16 := by rw [IntKind.wrap_u8]; omega
          have t2 : (c.toNat : Int).tmod 16 = (c.toNat : Int) % 16 := Int.tmod_eq_emod_of_nonneg (by omega)
          have q1 : (c.toNat : Int) / 16 < 16 := by omega
          have q2 : (c.toNat : Int) % 16 < 16 := by omega
          have r1 : (0 : Int) ≤ (c.toNat : Int) / 16 := by omega
          have r2 : (0 : Int) ≤ (c.toNat : Int) % 16 := by omega
          have q3 : c.toNat / 16 < 16 := by omega
          have q4 : c.toNat % 16 < 16 := by omega
          obtain ⟨x1, hx1⟩ : ∃ x1, x1 = Lx.hexD (c.toNat / 16) := ⟨_, rfl⟩
          obtain ⟨x2, hx2⟩ : ∃ x2, x2 = Lx.hexD (c.toNat % 16) := ⟨_, rfl⟩
          rw [← hx1] at hv1 hnx
          rw [← hx2] at hv2 hnx
          clear hx1 hx2
          have HN := Lib.hid hnx
          clear hnx
          go_wp2
          go_region_law (refine step_append_lies _ (by rfl) (.tmp 55) (.tmp 68) 49 (by rfl) w.heap.size 5 i0 (.int .u8 0) 1 1 Tryd.underlying49 hi hz0 hz1 hz2 rfl (by decide) _ _ _ (by rfl) (hor.drew.alloc _) ⟨wr.heap.size, 0, none⟩ 4 4 (Ub [92, 120, x1, x2]) (by rfl) (by rfl) (fun j u hu => World.news_of_block (heap_alloc_new wr.drew _) j u hu) (Ub_one _) (by decide) (by unfold maxLen; omega) (by omega) (by simp; omega) (wr.heap.size + 1) (by simp) (fun g cap w1 hown hgrow _ _ => ?_))
          all_goals
            go_wp2
            go_roundw
            case rel => exact ⟨k + 1, by omega, by go_num, by rw [HN.out]; exact own_snocB (b := [92, 120, x1, x2]) hown, ((hbr.alloc hbr.size _).drew).grown hgrow (by simp; omega) (fun j hj => (hor.lt j hj).1)⟩
            case measure => first | (simp [intOf]; omega) | (simp; omega)
        · have p1 : decide ((c.toNat : Int) < 32) = false := decide_eq_false (by omega)
          have p3 : ¬ (c.toNat : Int) < 32 := by omega
          have p2 : decide ((126 : Int) < (c.toNat : Int)) = true := decide_eq_true (by omega)
          have p4 : (126 : Int) < (c.toNat : Int) := by omega
          clear hp
          have hv1 := digitS_at (((c.toNat : Int) / 16).toNat) (by omega)
          have hv2 := digitS_at (((c.toNat : Int) % 16).toNat) (by omega)
          rw [show ((c.toNat : Int) / 16).toNat = c.toNat / 16 by omega] at hv1
          rw [show ((c.toNat : Int) % 16).toNat = c.toNat % 16 by omega] at hv2
          have y1 : ((c.toNat : Int) / 16).toNat = c.toNat / 16 := by omega
          have y2 : ((c.toNat : Int) % 16).toNat = c.toNat % 16 := by omega
          have g1 : IntKind.u8.wrap ((c.toNat : Int) / 16) = (c.toNat : Int) / 16 := by rw [IntKind.wrap_u8]; omega
          have g2 : IntKind.u8.wrap ((c.toNat : Int) % 16) = (c.toNat : Int) % 16 := by rw [IntKind.wrap_u8]; omega
          have t2 : (c.toNat : Int).tmod 16 = (c.toNat : Int) % 16 := Int.tmod_eq_emod_of_nonneg (by omega)
          have q1 : (c.toNat : Int) / 16 < 16 := by omega
          have q2 : (c.toNat : Int) % 16 < 16 := by omega
          have r1 : (0 : Int) ≤ (c.toNat : Int) / 16 := by omega
          have r2 : (0 : Int) ≤ (c.toNat : Int) % 16 := by omega
          have q3 : c.toNat / 16 < 16 := by omega
          have q4 : c.toNat % 16 < 16 := by omega
          obtain ⟨x1, hx1⟩ : ∃ x1, x1 = Lx.hexD (c.toNat / 16) := ⟨_, rfl⟩
          obtain ⟨x2, hx2⟩ : ∃ x2, x2 = Lx.hexD (c.toNat % 16) := ⟨_, rfl⟩
          rw [← hx1] at hv1 hnx
          rw [← hx2] at hv2 hnx
          clear hx1 hx2
          have HN := Lib.hid hnx
          clear hnx
          go_wp2
          go_region_law (refine step_append_lies _ (by rfl) (.tmp 55) (.tmp 68) 49 (by rfl) w.heap.size 5 i0 (.int .u8 0) 1 1 Tryd.underlying49 hi hz0 hz1 hz2 rfl (by decide) _ _ _ (by rfl) (hor.drew.alloc _) ⟨wr.heap.size, 0, none⟩ 4 4 (Ub [92, 120, x1, x2]) (by rfl) (by rfl) (fun j u hu => World.news_of_block (heap_alloc_new wr.drew _) j u hu) (Ub_one _) (by decide) (by unfold maxLen; omega) (by omega) (by simp; omega) (wr.heap.size + 1) (by simp) (fun g cap w1 hown hgrow _ _ => ?_))
          all_goals
            go_wp2
            go_roundw
            case rel => exact ⟨k + 1, by omega, by go_num, by rw [HN.out]; exact own_snocB (b := [92, 120, x1, x2]) hown, ((hbr.alloc hbr.size _).drew).grown hgrow (by simp; omega) (fun j hj => (hor.lt j hj).1)⟩
            case measure => first | (simp [intOf]; omega) | (simp; omega)
    · obtain rfl : k = s.size := by omega
      rw [List.take_of_length_le (by omega)] at hor hkl
      have hll : (34 :: (L s).flatMap Lx.srcB).length ≤ 1000000 := by
        have := HFL.out (L s)
        rw [List.length_cons]; omega
      obtain ⟨X, hX⟩ : ∃ X, 34 :: (L s).flatMap Lx.srcB = X := ⟨_, rfl⟩
      obtain ⟨Y, hY⟩ : ∃ Y, X ++ [34] = Y := ⟨_, rfl⟩
      have HQ := Lib.hid (show Lx.quoted (L s) = Y by rw [← hY, ← hX]; unfold Lx.quoted; simp)
      have HY := Lib.hid hY
      clear hY
      rw [hX] at hll hor
      clear hX hkl HFL
      go_wp2_with (at_builtin; refine wpList_append_own _ rfl _ _ 49 rfl w.heap.size 5 i0 (.int .u8 0) 1 1 Tryd.underlying49 hi hz0 hz1 hz2 rfl (by decide) _ _ _ rfl (hor.alloc _) ⟨wr.heap.size, 0, none⟩ 1 1 (Ub [34]) rfl rfl (fun j u hu => World.news_of_block (heap_alloc_new wr _) j u hu) (Ub_one _) (by unfold maxLen; omega) (by omega) (by simp; omega) ?_; intro v' w1 hown' hgrow _; have ho3 := own_snocB (b := [34]) hown'; rw [HY.out] at ho3; obtain ⟨A4, c4, rfl, _, _, hcv⟩ := conv_own ho3)
      go_ret
      exact ⟨_, rfl, by rw [HQ.out], (hbr.alloc hbr.size _).grown hgrow (by simp; omega) (fun j hj => (hor.lt j hj).1)⟩
end Go.Proofs.YtjopadfkdpcjmaaDoor
