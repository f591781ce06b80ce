/-
  THE WALKS OF lexer.putByte, putText, put.
-/
import Derived.Test.YtjopadfkdpcjmaaDoorLexG
import Derived.Deep.RegionLaw
import Derived.Lib.AppendStr
namespace Go.Proofs.YtjopadfkdpcjmaaDoor
open Go.RowKit Go.ChangeShapes Go.WideShapes Go.ChangeAt

theorem digitS_at (i : Nat) (h : i < 16) : ∀ h', (((⟨#[48, 49, 50, 51, 52, 53, 54, 55, 56, 57, 97, 98, 99, 100, 101, 102]⟩ : ByteArray)[i]'h').toNat : Int) = ((Lx.hexD i).toNat : Int) := by
  have h2 : ∀ i : Fin 16, ∀ h', (((⟨#[48, 49, 50, 51, 52, 53, 54, 55, 56, 57, 97, 98, 99, 100, 101, 102]⟩ : ByteArray)[i.1]'h').toNat : Int) = ((Lx.hexD i.1).toNat : Int) := by decide +kernel
  exact h2 ⟨i, h⟩
/-- What appends to a slice that it owns answers. -/
def GotRow (B : Nat) (acc : Lx.Str) (w : World) (e : Ending) (w' : World) : Prop := ∃ v', e = .returned v' ∧ w'.ownsRow B 5 1 v' acc.length (Ub acc) ∧ Below B w w'

set_option maxRecDepth 100000 in
set_option maxHeartbeats 2000000 in
theorem putByte_any (B : Nat) (v : Value) (acc : Lx.Str) (c : UInt8) (w : World) (hor : w.ownsRow B 5 1 v acc.length (Ub acc)) (hB : B ≤ w.heap.size) (hl : acc.length ≤ 1000000) :
    Calls Tryd.prog 73 #[v, .int .u8 c.toNat] w (GotRow B (acc ++ Lx.srcB c) w) := by
  obtain ⟨i0, hi, hz0, hz1, hz2⟩ := info_parts u8_info
  have HP := Lib.hid fun w' => plain_any c w'
  have hlt := c.toNat_lt
  by_cases e1 : c = 10
  · have b1 := ceqT (k := 10) e1 rfl
    rw [show Lx.srcB c = [92, 110] by unfold Lx.srcB; rw [if_pos e1]]
    clear e1
    go_enter Tryd.func73, Tryd.ntmps73
    go_wp2_with (at_builtin; refine wpList_append_own _ rfl _ _ 49 rfl B 5 i0 (.int .u8 0) 1 1 Tryd.underlying49 hi hz0 hz1 hz2 rfl (by decide) _ _ _ rfl (hor.alloc _) ⟨w.heap.size, 0, none⟩ 2 2 (Ub [92, 110]) rfl rfl (fun j u hu => World.news_of_block (heap_alloc_new w _) j u hu) (Ub_one _) (by unfold maxLen; omega) (by omega) (by simp; omega) ?_; intro v' w1 hown' hgrow _)
    go_ret
    exact ⟨_, rfl, own_snocB (b := [92, 110]) hown', ((Below.refl _ _).alloc hB _).grown hgrow (by simp; omega) (fun j hj => (hor.lt j hj).1)⟩
  have b1 := ceqF (k := 10) e1 rfl
  by_cases e2 : c = 34
  · have b2 := ceqT (k := 34) e2 rfl
    rw [show Lx.srcB c = [92, c] by unfold Lx.srcB; rw [if_neg e1, if_pos (.inl e2)]]
    clear e1 e2
    go_enter Tryd.func73, Tryd.ntmps73
    go_wp2_with (at_builtin; refine wpList_append_own _ rfl _ _ 49 rfl B 5 i0 (.int .u8 0) 1 1 Tryd.underlying49 hi hz0 hz1 hz2 rfl (by decide) _ _ _ rfl (hor.alloc _) ⟨w.heap.size, 0, none⟩ 2 2 (Ub [92, c]) rfl rfl (fun j u hu => World.news_of_block (heap_alloc_new w _) j u hu) (Ub_one _) (by unfold maxLen; omega) (by omega) (by simp; omega) ?_; intro v' w1 hown' hgrow _)
    go_ret
    exact ⟨_, rfl, own_snocB (b := [92, c]) hown', ((Below.refl _ _).alloc hB _).grown hgrow (by simp; omega) (fun j hj => (hor.lt j hj).1)⟩
  have b2 := ceqF (k := 34) e2 rfl
  by_cases e3 : c = 92
  · have b3 := ceqT (k := 92) e3 rfl
    rw [show Lx.srcB c = [92, c] by unfold Lx.srcB; rw [if_neg e1, if_pos (.inr e3)]]
    clear e1 e2 e3
    go_enter Tryd.func73, Tryd.ntmps73
    go_wp2_with (at_builtin; refine wpList_append_own _ rfl _ _ 49 rfl B 5 i0 (.int .u8 0) 1 1 Tryd.underlying49 hi hz0 hz1 hz2 rfl (by decide) _ _ _ rfl (hor.alloc _) ⟨w.heap.size, 0, none⟩ 2 2 (Ub [92, c]) rfl rfl (fun j u hu => World.news_of_block (heap_alloc_new w _) j u hu) (Ub_one _) (by unfold maxLen; omega) (by omega) (by simp; omega) ?_; intro v' w1 hown' hgrow _)
    go_ret
    exact ⟨_, rfl, own_snocB (b := [92, c]) hown', ((Below.refl _ _).alloc hB _).grown hgrow (by simp; omega) (fun j hj => (hor.lt j hj).1)⟩
  have b3 := ceqF (k := 92) e3 rfl
  have hs0 : Lx.srcB c = if Lx.plainB c then [c] else [92, 120, Lx.hexD (c.toNat / 16), Lx.hexD (c.toNat % 16)] := by
    unfold Lx.srcB
    rw [if_neg e1, if_neg (by rintro (h | h); exact e2 h; exact e3 h)]
  clear e1 e2 e3
  cases hp : Lx.plainB c with
  | true =>
    rw [hp] at HP hs0
    rw [hs0, if_pos rfl]
    clear hs0 hp
    go_enter Tryd.func73, Tryd.ntmps73
    go_wp2_with (first
      | (go_at_call 77; refine (HP.out _).mono ?_; rintro e w' ⟨rfl, hw'⟩; rw [hw']; clear hw' w')
      | (at_builtin; refine wpList_append_own _ rfl _ _ 49 rfl B 5 i0 (.int .u8 0) 1 1 Tryd.underlying49 hi hz0 hz1 hz2 rfl (by decide) _ _ _ rfl (hor.alloc _) ⟨w.heap.size, 0, none⟩ 1 1 (Ub [c]) rfl rfl (fun j u hu => World.news_of_block (heap_alloc_new w _) j u hu) (Ub_one _) (by unfold maxLen; omega) (by omega) (by simp; omega) ?_; intro v' w1 hown' hgrow _))
    go_ret
    exact ⟨_, rfl, own_snocB (b := [c]) hown', ((Below.refl _ _).alloc hB _).grown hgrow (by simp; omega) (fun j hj => (hor.lt j hj).1)⟩
  | false =>
    rw [hp] at HP hs0
    rw [hs0, if_neg (by decide)]
    clear hs0 hp
    have hv1 := digitS_at (((c.toNat : Int) / 16).toNat) (by omega)
    have hv2 := digitS_at (((c.toNat : Int) % 16).toNat) (by omega)
    rw [show ((c.toNat : Int) / 16).toNat = c.toNat / 16 by omega] at hv1
    rw [show ((c.toNat : Int) % 16).toNat = c.toNat % 16 by omega] at hv2
    have y1 : ((c.toNat : Int) / 16).toNat = c.toNat / 16 := by omega
    have y2 : ((c.toNat : Int) % 16).toNat = c.toNat % 16 := by omega
    have g1 : IntKind.u8.wrap ((c.toNat : Int) / 16) = (c.toNat : Int) / 16 := by rw [IntKind.wrap_u8]; omega
    have g2 : IntKind.u8.wrap ((c.toNat : Int) % 16) = (c.toNat : Int) % 16 := by rw [IntKind.wrap_u8]; omega
    have t2 : (c.toNat : Int).tmod 16 = (c.toNat : Int) % 16 := Int.tmod_eq_emod_of_nonneg (by omega)
    have q1 : (c.toNat : Int) / 16 < 16 := by omega
    have q2 : (c.toNat : Int) % 16 < 16 := by omega
    have p1 : (0 : Int) ≤ (c.toNat : Int) / 16 := by omega
    have p2 : (0 : Int) ≤ (c.toNat : Int) % 16 := by omega
    have q3 : c.toNat / 16 < 16 := by omega
    have q4 : c.toNat % 16 < 16 := by omega
    obtain ⟨x1, hx1⟩ : ∃ x1, x1 = Lx.hexD (c.toNat / 16) := ⟨_, rfl⟩
    obtain ⟨x2, hx2⟩ : ∃ x2, x2 = Lx.hexD (c.toNat % 16) := ⟨_, rfl⟩
    rw [← hx1] at hv1 ⊢
    rw [← hx2] at hv2 ⊢
    clear hx1 hx2
    go_enter Tryd.func73, Tryd.ntmps73
    go_wp2_with (go_at_call 77; refine (HP.out _).mono ?_; rintro e w' ⟨rfl, hw'⟩; rw [hw']; clear hw' w')
    go_region_law (refine step_append_lies _ (by rfl) (.tmp 24) (.tmp 31) 49 (by rfl) B 5 i0 (.int .u8 0) 1 1 Tryd.underlying49 hi hz0 hz1 hz2 rfl (by decide) _ _ _ (by rfl) (hor.drew.alloc _) ⟨w.heap.size, 0, none⟩ 4 4 (Ub [92, 120, x1, x2]) (by rfl) (by rfl) (fun j u hu => World.news_of_block (heap_alloc_new w.drew _) j u hu) (Ub_one _) (by decide) (by unfold maxLen; omega) (by omega) (by simp; omega) (w.heap.size + 1) (by simp) (fun g cap w1 hown hgrow _ _ => ?_))
    all_goals
      go_wp2
      go_ret
      exact ⟨_, rfl, own_snocB (b := [92, 120, x1, x2]) hown, (((Below.refl _ _).alloc hB _).drew).grown hgrow (by simp; omega) (fun j hj => (hor.lt j hj).1)⟩

set_option maxRecDepth 100000 in
set_option maxHeartbeats 2000000 in
theorem putText_any (B : Nat) (v : Value) (acc : Lx.Str) (s : ByteArray) (w : World) (hor : w.ownsRow B 5 1 v acc.length (Ub acc)) (hB : B ≤ w.heap.size) (hl : acc.length ≤ 100000) (hs : s.size ≤ 100000) :
    Calls Tryd.prog 58 #[v, .string s] w (GotRow B (acc ++ Lx.quoted (L s)) w) := by
  obtain ⟨i0, hi, hz0, hz1, hz2⟩ := info_parts u8_info
  have hlen := L_len s
  have hsl : ∀ c, (Lx.srcB c).length ≤ 4 := fun c => by unfold Lx.srcB; split <;> (try split) <;> (try split) <;> simp
  have hfl : ∀ l : Lx.Str, (l.flatMap Lx.srcB).length ≤ 4 * l.length := by
    intro l
    induction l with
    | nil => simp
    | cons c r ih => rw [List.flatMap_cons, List.length_append, List.length_cons]; have := hsl c; omega
  have HFL := Lib.hid hfl
  clear hsl hfl
  go_enter Tryd.func58, Tryd.ntmps58
  go_wp2_with (at_builtin; refine wpList_append_own _ rfl _ _ 49 rfl B 5 i0 (.int .u8 0) 1 1 Tryd.underlying49 hi hz0 hz1 hz2 rfl (by decide) _ _ _ rfl (hor.alloc _) ⟨w.heap.size, 0, none⟩ 1 1 (Ub [34]) rfl rfl (cell_one_new w _ _) (Ub_one _) (by unfold maxLen; omega) (by omega) (by simp; omega) ?_; intro v1 w1 hown1 hgrow1 _)
  have hb1 : Below B w w1 := ((Below.refl _ _).alloc hB _).grown hgrow1 (by simp; omega) (fun j hj => (hor.lt j hj).1)
  have ho1 := own_snocB (b := [34]) hown1
  clear hown1 hgrow1 hor
  go_wp2
  go_loopw [0, 11] (fun x i wr => ∃ k : Nat, k ≤ s.size ∧ i = .int .i64 k ∧ wr.ownsRow B 5 1 x (acc ++ 34 :: ((L s).take k).flatMap Lx.srcB).length (Ub (acc ++ 34 :: ((L s).take k).flatMap Lx.srcB)) ∧ Below B w wr) (fun _ i _ => s.size - (intOf i).toNat)
  case atStart => exact ⟨0, by omega, rfl, ho1, hb1⟩
  case round =>
    obtain ⟨k, hk, rfl, hor, hbr⟩ := hrel
    rename_i wr
    clear ho1 hb1
    have hBr : B ≤ wr.heap.size := Nat.le_trans hB hbr.size
    have hkl := HFL.out ((L s).take k)
    rw [List.length_take] at hkl
    by_cases hlt : k < s.size
    · obtain ⟨c, hc⟩ : ∃ c, s[k]'hlt = c := ⟨_, rfl⟩
      have htk : (L s).take (k + 1) = (L s).take k ++ [c] := by
        rw [List.take_succ_eq_append_getElem (by omega), ← L_get s k hlt, hc]
      have hnx : acc ++ 34 :: ((L s).take (k + 1)).flatMap Lx.srcB = (acc ++ 34 :: ((L s).take k).flatMap Lx.srcB) ++ Lx.srcB c := by
        rw [htk, List.flatMap_append]; simp
      have HN := Lib.hid hnx
      have hll : (acc ++ 34 :: ((L s).take k).flatMap Lx.srcB).length ≤ 1000000 := by rw [List.length_append, List.length_cons]; omega
      clear hnx htk hkl
      obtain ⟨X, hX⟩ : ∃ X, acc ++ 34 :: ((L s).take k).flatMap Lx.srcB = X := ⟨_, rfl⟩
      rw [hX] at HN hll hor
      clear hX
      have HPB := Lib.hid fun w' (h : wr = w') => putByte_any B _ X c w' (h ▸ hor) (h ▸ hBr) hll
      go_wp2_with (go_at_call 73; refine (HPB.out _ rfl).mono ?_; rintro e w' ⟨v', rfl, ho2, hb2⟩)
      go_roundw
      case rel => exact ⟨k + 1, by omega, by go_num, by rw [HN.out]; exact ho2, hbr.trans hb2⟩
      case measure => simp [intOf]; omega
    · obtain rfl : k = s.size := by omega
      rw [List.take_of_length_le (by omega)] at hor hkl
      have hll : (acc ++ 34 :: (L s).flatMap Lx.srcB).length ≤ 1000000 := by
        have := HFL.out (L s)
        rw [List.length_append, List.length_cons]; omega
      obtain ⟨X, hX⟩ : ∃ X, acc ++ 34 :: (L s).flatMap Lx.srcB = X := ⟨_, rfl⟩
      have HQ := Lib.hid (show acc ++ Lx.quoted (L s) = X ++ [34] by rw [← hX]; unfold Lx.quoted; simp)
      rw [hX] at hll hor
      clear hX hkl HFL
      go_wp2_with (at_builtin; refine wpList_append_own _ rfl _ _ 49 rfl B 5 i0 (.int .u8 0) 1 1 Tryd.underlying49 hi hz0 hz1 hz2 rfl (by decide) _ _ _ rfl (hor.alloc _) ⟨wr.heap.size, 0, none⟩ 1 1 (Ub [34]) rfl rfl (cell_one_new wr _ _) (Ub_one _) (by unfold maxLen; omega) (by omega) (by simp; omega) ?_; intro v3 w3 hown3 hgrow3 _)
      go_ret
      rw [HQ.out]
      exact ⟨_, rfl, own_snocB (b := [34]) hown3, (hbr.alloc hBr _).grown hgrow3 (by simp; omega) (fun j hj => (hor.lt j hj).1)⟩

theorem dec_eq : ∀ (k u : Nat), u ≤ k → Lx.dec u = Lib.decDigits u := by
  intro k
  induction k with
  | zero =>
    intro u hu
    obtain rfl : u = 0 := by omega
    rw [Lx.dec, Lib.decDigits, dif_pos (by omega), dif_pos (by omega)]
  | succ k ih =>
    intro u hu
    rw [Lx.dec, Lib.decDigits]
    split
    · rfl
    · rw [ih (u / 10) (by omega)]
theorem itoa_dec {n : Int} (h : 0 ≤ n) : Lib.itoa n = Lx.dec n.toNat := by
  unfold Lib.itoa
  rw [if_neg (by omega), dec_eq n.toNat n.toNat (Nat.le_refl _)]
theorem dec_len : ∀ (k u : Nat), u < 10 ^ (k + 1) → (Lx.dec u).length ≤ k + 1 := by
  intro k
  induction k with
  | zero => intro u hu; rw [Lx.dec, dif_pos (by simpa using hu)]; simp
  | succ k ih =>
    intro u hu
    rw [Lx.dec]
    split
    · simp
    · rw [List.length_append]
      have := ih (u / 10) (by rw [Nat.pow_succ] at hu; omega)
      simp; omega

end Go.Proofs.YtjopadfkdpcjmaaDoor
