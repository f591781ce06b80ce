/-
  THE WALK OF MerkleManyAsSpecified.
-/
import Derived.Test.YtaihfkcoiagdaabDoorGm
import Derived.Test.YtaihfkcoiagdaabDoorGwb
namespace Go.Proofs.YtaihfkcoiagdaabDoor
open Go.RowKit Go.ChangeShapes Go.WideShapes Go.ChangeAt

theorem many_both (A A1 : Option Addr) (n c k c1 : Nat) (l : List Wm.Bs) (ps : List Int) (w : World) (hs : Sl w 16 A n (Ds l)) (hl : isD l) (hn : n ≤ 40) (hnc : n ≤ c) (hc : c ≤ 9223372036854775807)
    (hsp : Sl w 1 A1 k (N64 ps)) (hk : k ≤ 12) (hkc : k ≤ c1) (hc1 : c1 ≤ 9223372036854775807) (tab : Tab w) (tab0 : Tab0 w) :
    ∃ J er, isD J ∧ (∀ w', Later w w' → Calls Tryd.prog 21 #[.slice A n c, .slice A1 k c1] w' (GotE J er w')) ∧
      (∀ w', Later w w' → Calls Tryd.prog 22 #[.slice A n c, .slice A1 k c1] w' (GotR J er w')) := by
  cases hb : arePl (-1) ps (n : Int) with
  | false => exact ⟨[], 1, fun _ h => (by cases h), fun w' hw => (many_bad A A1 n c k c1 ps w' (hsp.keep hw) (by omega) hb).mono fun _ _ => gotE_bad, fun w' hw => (refManyP_bad A A1 n c k c1 ps w' (hsp.keep hw) (by omega) hb).mono fun _ _ => gotR_p⟩
  | true =>
    rcases Nat.eq_zero_or_pos n with h0 | h0
    · subst h0
      exact ⟨[], 0, fun _ h => (by cases h), fun w' hw => (many_zero A A1 c k c1 ps w' (hsp.keep hw) (by omega) hb).mono fun _ _ => gotE_path, fun w' hw => (refManyP_zero A A1 c k c1 ps w' (hsp.keep hw) (by omega) hb).mono fun _ _ => gotR_p⟩
    · exact ⟨Mk.many nodeD emptyD l 0 ps, 0, many_isD _ l 0 ps (Nat.le_refl _) hl, fun w' hw => (many_any A A1 n c k c1 l ps w' h0 (by omega) hnc hc (hs.keep hw) hl (hsp.keep hw) hkc hc1 hb (tab.keep hw)).mono fun _ _ => gotE_path,
        fun w' hw => (refManyP_any A A1 n c k c1 l ps w' h0 (by omega) hnc hc (hs.keep hw) hl (hsp.keep hw) (by omega) hb (tab0.keep hw)).mono fun _ _ => gotR_p⟩

theorem check_both (rt : Wm.Bs) (z : Int) (A1 A2 : Option Addr) (k c1 kf c2 : Nat) (ps : List Int) (F : List Wm.Bs) (A3 : Option Addr) (k3 c3 : Nat) (T : List Wm.Bs) (w : World) (hdr : rt.length = 16 ∧ Wm.isBs rt)
    (hsp : Sl w 1 A1 k (N64 ps)) (hk : k ≤ 12) (hkc : k ≤ c1) (hc1 : c1 ≤ 9223372036854775807) (hsf : Sl w 16 A2 kf (Ds F)) (hlf : isD F) (hk2 : kf ≤ c2) (hc2 : c2 ≤ 9223372036854775807)
    (hs : Sl w 16 A3 k3 (Ds T)) (hl : isD T) (hk3 : k3 ≤ 60) (hkc3 : k3 ≤ c3) (hc3 : c3 ≤ 9223372036854775807) (tab : Tab w) (tab0 : Tab0 w) :
    ∃ q, (∀ w', Later w w' → Calls Tryd.prog 23 #[.int .i64 z, .slice A1 k c1, .slice A2 kf c2, .slice A3 k3 c3, .agg (U rt).toArray] w' fun e w'' => e = .returned (.bool q) ∧ Later w' w'') ∧
      (∀ w', Later w w' → Calls Tryd.prog 24 #[.int .i64 z, .slice A1 k c1, .slice A2 kf c2, .slice A3 k3 c3, .agg (U rt).toArray] w' fun e w'' => e = .returned (.bool q) ∧ Later w' w'') := by
  by_cases h : z < 0 ∨ 1099511627776 < z ∨ arePl (-1) ps z = false ∨ kf ≠ k
  · exact ⟨false, fun w' hw => checkMany_bad rt z A1 k c1 ps A2 kf c2 _ w' (hsp.keep hw) (by omega) h, fun w' hw => refCheckMany_bad rt z A1 k c1 ps A2 kf c2 _ w' (hsp.keep hw) (by omega) h⟩
  · simp only [not_or] at h
    obtain ⟨h1, h2, h3, h4⟩ := h
    obtain rfl : kf = k := by omega
    have hb : arePl (-1) ps z = true := by simpa using h3
    obtain ⟨n, rfl⟩ := Int.eq_ofNat_of_zero_le (show 0 ≤ z by omega)
    rcases Nat.eq_zero_or_pos n with h0 | h0
    · subst h0
      have hsp2 := arePl_spec ps _ _ hb
      have hp0 := asc_len ps 0 0 (fun p hp => by have := hsp2.1 p hp; omega) hsp2.2
      have hpl := hsp.ilen
      obtain rfl : kf = 0 := by omega
      exact ⟨_, fun w' hw => checkMany_zero rt A1 A2 c1 c2 A3 k3 c3 T w' hdr (hs.keep hw) hl hkc3 (by unfold maxLen; omega) (tab.keep hw), fun w' hw => refCheckMany_zero rt A1 A2 0 c1 c2 ps A3 k3 c3 T w' hdr (hsp.keep hw) (by omega) hb (hs.dlen hl) (tab0.keep hw)⟩
    · exact ⟨_, fun w' hw => checkMany_any rt n A1 A2 kf c1 c2 ps F A3 k3 c3 T w' h0 (by omega) hdr (hsp.keep hw) (hsf.keep hw) hlf hb hkc hk2 hc1 hc2 (hs.keep hw) hl hkc3 (by unfold maxLen; omega) (tab.keep hw),
        fun w' hw => refCheckMany_any rt n A1 A2 kf c1 c2 ps F A3 k3 c3 T w' h0 (by omega) hdr (hsp.keep hw) (hsf.keep hw) hlf hb (by omega) hk2 hc2 (hs.keep hw) hl (by omega) hkc3 hc3 (tab0.keep hw)⟩

set_option maxRecDepth 100000 in
set_option maxHeartbeats 1000000 in
theorem manySpec_big (A A1 A2 A3 : Option Addr) (n c k c1 kf c2 k3 c3 : Nat) (z : Int) (rt : Wm.Bs) (w : World) (tab : Tab w) (tab0 : Tab0 w) (h : 40 < n ∨ 12 < k ∨ 12 < kf ∨ 60 < k3) :
    Calls Tryd.prog 4 #[.slice A n c, .slice A1 k c1, .int .i64 z, .slice A2 kf c2, .slice A3 k3 c3, .agg (U rt).toArray] w fun e w' => e = .returned (.bool true) ∧ Later w w' := by
  have HS := Lib.hid fun w' (h : Later w w') => sanity_any w' (tab.keep h) (tab0.keep h)
  obtain ⟨Y, hY⟩ : ∃ Y, Y = (U rt).toArray := ⟨_, rfl⟩
  rw [← hY]
  clear tab tab0 hY
  have HL := Lib.hid (laterX w (.cells Y 31))
  by_cases h1 : 40 < n
  · clear h
    go_enter Tryd.func4, Tryd.ntmps4
    go_wp2_with (go_at_call 9; refine (HS.out _ HL.out).mono ?_; rintro e w1 ⟨rfl, l1⟩)
    go_ret
    exact ⟨rfl, Later.trans_ HL.out l1⟩
  · by_cases h2 : 12 < k
    · clear h
      go_enter Tryd.func4, Tryd.ntmps4
      go_wp2_with (go_at_call 9; refine (HS.out _ HL.out).mono ?_; rintro e w1 ⟨rfl, l1⟩)
      go_ret
      exact ⟨rfl, Later.trans_ HL.out l1⟩
    · by_cases h3 : 12 < kf
      · clear h
        go_enter Tryd.func4, Tryd.ntmps4
        go_wp2_with (go_at_call 9; refine (HS.out _ HL.out).mono ?_; rintro e w1 ⟨rfl, l1⟩)
        go_ret
        exact ⟨rfl, Later.trans_ HL.out l1⟩
      · have h4 : 60 < k3 := by omega
        clear h
        go_enter Tryd.func4, Tryd.ntmps4
        go_wp2_with (go_at_call 9; refine (HS.out _ HL.out).mono ?_; rintro e w1 ⟨rfl, l1⟩)
        go_ret
        exact ⟨rfl, Later.trans_ HL.out l1⟩
set_option maxRecDepth 100000 in
set_option maxHeartbeats 4000000 in
theorem manySpec_any (A A1 A2 A3 : Option Addr) (n c k c1 kf c2 k3 c3 : Nat) (z : Int) (rt : Wm.Bs) (l : List Wm.Bs) (ps : List Int) (F T : List Wm.Bs) (w : World) (tab : Tab w) (tab0 : Tab0 w) (hn : n ≤ 40) (hk : k ≤ 12) (hf : kf ≤ 12) (hk3 : k3 ≤ 60) (hdr : rt.length = 16 ∧ Wm.isBs rt)
    (hs : Sl w 16 A n (Ds l)) (hl : isD l) (hnc : n ≤ c) (hc : c ≤ 9223372036854775807) (hsp : Sl w 1 A1 k (N64 ps)) (hkc : k ≤ c1) (hc1 : c1 ≤ 9223372036854775807)
    (hsf : Sl w 16 A2 kf (Ds F)) (hlf : isD F) (hk2 : kf ≤ c2) (hc2 : c2 ≤ 9223372036854775807) (hst : Sl w 16 A3 k3 (Ds T)) (hlt : isD T) (hkc3 : k3 ≤ c3) (hc3 : c3 ≤ 9223372036854775807) :
    Calls Tryd.prog 4 #[.slice A n c, .slice A1 k c1, .int .i64 z, .slice A2 kf c2, .slice A3 k3 c3, .agg (U rt).toArray] w fun e w' => e = .returned (.bool true) ∧ Later w w' := by
  have HSN := Lib.hid fun w' (h : Later w w') => sanity_any w' (tab.keep h) (tab0.keep h)
  obtain ⟨J, er, jd, a1, a2⟩ := many_both A A1 n c k c1 l ps w hs hl hn hnc hc hsp hk hkc hc1 tab tab0
  obtain ⟨q, a3, a4⟩ := check_both rt z A1 A2 k c1 kf c2 ps F A3 k3 c3 T w hdr hsp hk hkc hc1 hsf hlf hk2 hc2 hst hlt hk3 hkc3 hc3 tab tab0
  have HM := Lib.hid a1; have HRM := Lib.hid a2; have HC := Lib.hid a3; have HRC := Lib.hid a4; have JD := Lib.hid jd; have HRt := Lib.hid hdr.1
  have HSM := Lib.hid fun (A B : Option Addr) (x y : Nat) (w' : World) (h1 : Pt w' A J.length x J) (h2 : Pt w' B J.length y J) => (by
    have h := same_any A B J.length x J.length y J J w' h1.1 jd h2.1 jd (by have := h1.2; unfold maxLen; omega)
    rw [decide_eq_true rfl] at h; exact h : Calls Tryd.prog 17 #[.slice A J.length x, .slice B J.length y] w' fun e w'' => e = .returned (.bool true) ∧ Later w' w'')
  have k1' : ¬ 40 < n := by omega
  have k2' : ¬ 12 < k := by omega
  have k3' : ¬ 12 < kf := by omega
  have k4' : ¬ 60 < k3 := by omega
  obtain ⟨Y, hY⟩ : ∃ Y, Y = (U rt).toArray := ⟨_, rfl⟩
  rw [← hY]
  clear tab tab0 hs hl a1 a2 a3 a4 jd hdr hsp hsf hlf hst hlt hn hk hf hk3
  have HY2 := Lib.hid hY
  clear hY
  go_enter Tryd.func4, Tryd.ntmps4
  go_wp2_with (first
    | (go_at_call 21; (with_reducible refine (HM.out _ (laterX _ _)).mono ?_); rintro e w1 ⟨A4, c4, rfl, p4, l1⟩; have lr : Later w w1 := Later.trans_ (laterX _ _) l1; have bY : Blk w1 w.heap.size 31 (U rt) := (Blk.new w _ _ _ HY2.out).keep l1)
    | (go_at_call 22; (with_reducible refine (HRM.out _ lr).mono ?_); rintro e w2 ⟨A5, c5, rfl, p5, l2⟩; replace lr := Later.trans_ lr l2; replace p4 := p4.keep l2; replace bY := bY.keep l2))
  have b15 : Blk (w2.alloc (.cells #[.slice A5 J.length c5, .int .i64 er] 28)) w2.heap.size 28 [.slice A5 J.length c5, .int .i64 er] := Blk.new w2 _ _ _ rfl
  have s0 := laterX w2 (.cells #[.slice A5 J.length c5, .int .i64 er] 28)
  replace lr := Later.trans_ lr s0; replace p4 := p4.keep s0; replace p5 := p5.keep s0; replace bY := bY.keep s0
  clear s0 l1 l2
  generalize w2.alloc (.cells #[.slice A5 J.length c5, .int .i64 er] 28) = w8 at b15 lr p4 p5 bY ⊢
  obtain ⟨B15, e15⟩ : ∃ B, B = w2.heap.size := ⟨_, rfl⟩
  rw [← e15] at b15 ⊢
  clear e15
  refine wp_region_held_drew (S := fun w' => w'.rangeAt w.heap.size 0 (U rt) ∧ w'.cell? ⟨B15, 0, none⟩ = some (.slice A5 J.length c5) ∧ w'.cell? ⟨B15, 1, none⟩ = some (.int .i64 er)) (by kernel_rfl) ⟨blk_at bY.drew, b15.drew.cell (j := 0) rfl, b15.drew.cell (j := 1) rfl⟩ (fun hHeld => ?_)
  refine wpAnyH_ready (rs := [0]) (by kernel_rfl) (by simp) (AllReadyH.cons (o := ⟨some 44, .call { callee := .value (.func 9), args := #[], argTypes := #[] }, _, _, _, none⟩) rfl (fun K' hK => ?_) (AllReadyH.nil))
  go_simp
  replace p4 := p4.drew; replace p5 := p5.drew; replace bY := bY.drew; replace b15 := b15.drew; replace lr : Later w w8.drew := lr.drew
  refine (HSN.out _ lr).mono ?_
  rintro e v1 ⟨rfl, h1⟩
  replace p4 := p4.keep h1; replace p5 := p5.keep h1; replace bY := bY.keep h1; replace b15 := b15.keep h1; replace lr := Later.trans_ lr h1
  refine hK.out _ _ ⟨blk_at bY, b15.cell (j := 0) rfl, b15.cell (j := 1) rfl⟩ (fun hHeld => ?_)
  clear hK K'
  try simp only [Act.put, List.setIfInBounds_toArray, List.set_cons_zero, List.set_cons_succ]
  refine wpAnyH_take (i := 1) (oi := ⟨some 45, .move (.tmp 44), _, _, _, none⟩) (v := .bool true) rfl (by kernel_rfl) (by kernel_rfl) (by kernel_rfl) (fun _ _ _ h => h) (Or.inl ⟨by rfl, fun _ _ => rfl⟩) hHeld ?_
  simp only [Act.put, List.setIfInBounds_toArray, List.set_cons_zero, List.set_cons_succ]
  refine wpAnyH_take (i := 2) (oi := ⟨some 46, .move (.tmp 13), _, _, _, _⟩) (v := .slice A4 J.length c4) rfl (by kernel_rfl) (by kernel_rfl) (by kernel_rfl) (fun _ _ _ h => h) (Or.inl ⟨by rfl, fun _ _ => rfl⟩) hHeld ?_
  simp only [Act.put, List.setIfInBounds_toArray, List.set_cons_zero, List.set_cons_succ]
  refine wpAnyH_take (i := 3) (oi := ⟨some 47, .fieldAddr 28 (.tmp 15) 0, _, _, _, _⟩) (v := .pointer (some ⟨B15, 0, none⟩)) rfl (by kernel_rfl) (by kernel_rfl) (by kernel_rfl) (fun _ _ _ h => h) (Or.inl ⟨by rfl, fun w _ => by go_simp⟩) hHeld ?_
  simp only [Act.put, List.setIfInBounds_toArray, List.set_cons_zero, List.set_cons_succ]
  refine wpAnyH_take (i := 4) (oi := ⟨some 48, .load 22 (.tmp 47), _, _, _, _⟩) (v := .slice A5 J.length c5) rfl (by kernel_rfl) (by kernel_rfl) (by kernel_rfl) (fun _ _ _ h => h) (Or.inl ⟨by rfl, fun w h => by have hc := h.2.1; go_simp⟩) hHeld ?_
  simp only [Act.put, List.setIfInBounds_toArray, List.set_cons_zero, List.set_cons_succ]
  refine wpAnyH_ready (rs := [5]) (by kernel_rfl) (by simp) (AllReadyH.cons (o := ⟨some 49, .call { callee := .value (.func 17), args := #[.tmp 46, .tmp 48], argTypes := #[22, 22] }, _, _, _, _⟩) rfl (fun K' hK => ?_) (AllReadyH.nil))
  go_simp
  refine (HSM.out A4 A5 c4 c5 _ p4 p5).mono ?_
  rintro e v2 ⟨rfl, h2⟩
  replace p4 := p4.keep h2; replace p5 := p5.keep h2; replace bY := bY.keep h2; replace b15 := b15.keep h2; replace lr := Later.trans_ lr h2
  refine hK.out _ _ ⟨blk_at bY, b15.cell (j := 0) rfl, b15.cell (j := 1) rfl⟩ (fun hHeld => ?_)
  clear hK K'
  try simp only [Act.put, List.setIfInBounds_toArray, List.set_cons_zero, List.set_cons_succ]
  refine wpAnyH_take (i := 6) (oi := ⟨some 50, .pick (.tmp 45) (.tmp 49) (.const (.bool false)), _, _, _, none⟩) (v := .bool true) rfl (by kernel_rfl) (by kernel_rfl) (by kernel_rfl) (fun _ _ _ h => h) (Or.inl ⟨by rfl, fun w _ => by go_simp⟩) hHeld ?_
  simp only [Act.put, List.setIfInBounds_toArray, List.set_cons_zero, List.set_cons_succ]
  refine wpAnyH_take (i := 7) (oi := ⟨some 51, .move (.tmp 50), _, _, _, none⟩) (v := .bool true) rfl (by kernel_rfl) (by kernel_rfl) (by kernel_rfl) (fun _ _ _ h => h) (Or.inl ⟨by rfl, fun _ _ => rfl⟩) hHeld ?_
  simp only [Act.put, List.setIfInBounds_toArray, List.set_cons_zero, List.set_cons_succ]
  refine wpAnyH_take (i := 8) (oi := ⟨some 52, .move (.tmp 14), _, _, _, _⟩) (v := .int .i64 er) rfl (by kernel_rfl) (by kernel_rfl) (by kernel_rfl) (fun _ _ _ h => h) (Or.inl ⟨by rfl, fun _ _ => rfl⟩) hHeld ?_
  simp only [Act.put, List.setIfInBounds_toArray, List.set_cons_zero, List.set_cons_succ]
  refine wpAnyH_take (i := 9) (oi := ⟨some 53, .fieldAddr 28 (.tmp 15) 1, _, _, _, _⟩) (v := .pointer (some ⟨B15, 1, none⟩)) rfl (by kernel_rfl) (by kernel_rfl) (by kernel_rfl) (fun _ _ _ h => h) (Or.inl ⟨by rfl, fun w _ => by go_simp⟩) hHeld ?_
  simp only [Act.put, List.setIfInBounds_toArray, List.set_cons_zero, List.set_cons_succ]
  refine wpAnyH_take (i := 10) (oi := ⟨some 54, .load 24 (.tmp 53), _, _, _, _⟩) (v := .int .i64 er) rfl (by kernel_rfl) (by kernel_rfl) (by kernel_rfl) (fun _ _ _ h => h) (Or.inl ⟨by rfl, fun w h => by have hc := h.2.2; go_simp⟩) hHeld ?_
  simp only [Act.put, List.setIfInBounds_toArray, List.set_cons_zero, List.set_cons_succ]
  refine wpAnyH_take (i := 11) (oi := ⟨some 55, .binOp .eql 24 (.tmp 52) (.tmp 54) 24, _, _, _, _⟩) (v := .bool true) rfl (by kernel_rfl) (by kernel_rfl) (by kernel_rfl) (fun _ _ _ h => h) (Or.inl ⟨by rfl, fun w _ => by go_simp⟩) hHeld ?_
  simp only [Act.put, List.setIfInBounds_toArray, List.set_cons_zero, List.set_cons_succ]
  refine wpAnyH_take (i := 12) (oi := ⟨some 56, .pick (.tmp 51) (.tmp 55) (.const (.bool false)), _, _, _, none⟩) (v := .bool true) rfl (by kernel_rfl) (by kernel_rfl) (by kernel_rfl) (fun _ _ _ h => h) (Or.inl ⟨by rfl, fun w _ => by go_simp⟩) hHeld ?_
  simp only [Act.put, List.setIfInBounds_toArray, List.set_cons_zero, List.set_cons_succ]
  refine wpAnyH_take (i := 13) (oi := ⟨some 57, .move (.tmp 56), _, _, _, none⟩) (v := .bool true) rfl (by kernel_rfl) (by kernel_rfl) (by kernel_rfl) (fun _ _ _ h => h) (Or.inl ⟨by rfl, fun _ _ => rfl⟩) hHeld ?_
  simp only [Act.put, List.setIfInBounds_toArray, List.set_cons_zero, List.set_cons_succ]
  refine wpAnyH_take (i := 14) (oi := ⟨some 58, .move (.tmp 2), _, _, _, _⟩) (v := .int .i64 z) rfl (by kernel_rfl) (by kernel_rfl) (by kernel_rfl) (fun _ _ _ h => h) (Or.inl ⟨by rfl, fun _ _ => rfl⟩) hHeld ?_
  simp only [Act.put, List.setIfInBounds_toArray, List.set_cons_zero, List.set_cons_succ]
  refine wpAnyH_take (i := 15) (oi := ⟨some 59, .move (.tmp 1), _, _, _, _⟩) (v := .slice A1 k c1) rfl (by kernel_rfl) (by kernel_rfl) (by kernel_rfl) (fun _ _ _ h => h) (Or.inl ⟨by rfl, fun _ _ => rfl⟩) hHeld ?_
  simp only [Act.put, List.setIfInBounds_toArray, List.set_cons_zero, List.set_cons_succ]
  refine wpAnyH_take (i := 16) (oi := ⟨some 60, .move (.tmp 3), _, _, _, _⟩) (v := .slice A2 kf c2) rfl (by kernel_rfl) (by kernel_rfl) (by kernel_rfl) (fun _ _ _ h => h) (Or.inl ⟨by rfl, fun _ _ => rfl⟩) hHeld ?_
  simp only [Act.put, List.setIfInBounds_toArray, List.set_cons_zero, List.set_cons_succ]
  refine wpAnyH_take (i := 17) (oi := ⟨some 61, .move (.tmp 4), _, _, _, _⟩) (v := .slice A3 k3 c3) rfl (by kernel_rfl) (by kernel_rfl) (by kernel_rfl) (fun _ _ _ h => h) (Or.inl ⟨by rfl, fun _ _ => rfl⟩) hHeld ?_
  simp only [Act.put, List.setIfInBounds_toArray, List.set_cons_zero, List.set_cons_succ]
  refine wpAnyH_take (i := 18) (oi := ⟨some 62, .load 31 (.tmp 11), _, _, _, _⟩) (v := .agg (U rt).toArray) rfl (by kernel_rfl) (by kernel_rfl) (by kernel_rfl) (fun _ _ _ h => h) (yieldsIf_load_mid (by rfl) _ _ rfl _ _ rfl _ _ (fun w h => h.1) Tryd.underlying31 rfl (dig_sz HRt.out)) hHeld ?_
  simp only [Act.put, List.setIfInBounds_toArray, List.set_cons_zero, List.set_cons_succ]
  refine wpAnyH_take (i := 20) (oi := ⟨some 64, .move (.tmp 2), _, _, _, _⟩) (v := .int .i64 z) rfl (by kernel_rfl) (by kernel_rfl) (by kernel_rfl) (fun _ _ _ h => h) (Or.inl ⟨by rfl, fun _ _ => rfl⟩) hHeld ?_
  simp only [Act.put, List.setIfInBounds_toArray, List.set_cons_zero, List.set_cons_succ]
  refine wpAnyH_take (i := 21) (oi := ⟨some 65, .move (.tmp 1), _, _, _, _⟩) (v := .slice A1 k c1) rfl (by kernel_rfl) (by kernel_rfl) (by kernel_rfl) (fun _ _ _ h => h) (Or.inl ⟨by rfl, fun _ _ => rfl⟩) hHeld ?_
  simp only [Act.put, List.setIfInBounds_toArray, List.set_cons_zero, List.set_cons_succ]
  refine wpAnyH_take (i := 22) (oi := ⟨some 66, .move (.tmp 3), _, _, _, _⟩) (v := .slice A2 kf c2) rfl (by kernel_rfl) (by kernel_rfl) (by kernel_rfl) (fun _ _ _ h => h) (Or.inl ⟨by rfl, fun _ _ => rfl⟩) hHeld ?_
  simp only [Act.put, List.setIfInBounds_toArray, List.set_cons_zero, List.set_cons_succ]
  refine wpAnyH_take (i := 23) (oi := ⟨some 67, .move (.tmp 4), _, _, _, _⟩) (v := .slice A3 k3 c3) rfl (by kernel_rfl) (by kernel_rfl) (by kernel_rfl) (fun _ _ _ h => h) (Or.inl ⟨by rfl, fun _ _ => rfl⟩) hHeld ?_
  simp only [Act.put, List.setIfInBounds_toArray, List.set_cons_zero, List.set_cons_succ]
  refine wpAnyH_take (i := 24) (oi := ⟨some 68, .load 31 (.tmp 11), _, _, _, _⟩) (v := .agg (U rt).toArray) rfl (by kernel_rfl) (by kernel_rfl) (by kernel_rfl) (fun _ _ _ h => h) (yieldsIf_load_mid (by rfl) _ _ rfl _ _ rfl _ _ (fun w h => h.1) Tryd.underlying31 rfl (dig_sz HRt.out)) hHeld ?_
  simp only [Act.put, List.setIfInBounds_toArray, List.set_cons_zero, List.set_cons_succ]
  refine wpAnyH_ready (rs := [19]) (by kernel_rfl) (by simp) (AllReadyH.cons (o := ⟨some 63, .call { callee := .value (.func 23), args := #[.tmp 58, .tmp 59, .tmp 60, .tmp 61, .tmp 62], argTypes := #[3, 37, 22, 22, 31] }, _, _, _, _⟩) rfl (fun K' hK => ?_) (AllReadyH.nil))
  go_simp
  refine (HC.out _ lr).mono ?_
  rintro e v3 ⟨rfl, h3⟩
  replace p4 := p4.keep h3; replace p5 := p5.keep h3; replace bY := bY.keep h3; replace b15 := b15.keep h3; replace lr := Later.trans_ lr h3
  refine hK.out _ _ ⟨blk_at bY, b15.cell (j := 0) rfl, b15.cell (j := 1) rfl⟩ (fun hHeld => ?_)
  clear hK K'
  try simp only [Act.put, List.setIfInBounds_toArray, List.set_cons_zero, List.set_cons_succ]
  refine wpAnyH_ready (rs := [25]) (by kernel_rfl) (by simp) (AllReadyH.cons (o := ⟨some 69, .call { callee := .value (.func 24), args := #[.tmp 64, .tmp 65, .tmp 66, .tmp 67, .tmp 68], argTypes := #[3, 37, 22, 22, 31] }, _, _, _, _⟩) rfl (fun K' hK => ?_) (AllReadyH.nil))
  go_simp
  refine (HRC.out _ lr).mono ?_
  rintro e v4 ⟨rfl, h4⟩
  replace p4 := p4.keep h4; replace p5 := p5.keep h4; replace bY := bY.keep h4; replace b15 := b15.keep h4; replace lr := Later.trans_ lr h4
  refine hK.out _ _ ⟨blk_at bY, b15.cell (j := 0) rfl, b15.cell (j := 1) rfl⟩ (fun hHeld => ?_)
  clear hK K'
  try simp only [Act.put, List.setIfInBounds_toArray, List.set_cons_zero, List.set_cons_succ]
  refine wpAnyH_take (i := 26) (oi := ⟨some 70, .binOp .eql 4 (.tmp 63) (.tmp 69) 4, _, _, _, _⟩) (v := .bool true) rfl (by kernel_rfl) (by kernel_rfl) (by kernel_rfl) (fun _ _ _ h => h) (Or.inl ⟨by rfl, fun w _ => by go_simp⟩) hHeld ?_
  simp only [Act.put, List.setIfInBounds_toArray, List.set_cons_zero, List.set_cons_succ]
  refine wpAnyH_take (i := 27) (oi := ⟨some 71, .pick (.tmp 57) (.tmp 70) (.const (.bool false)), _, _, _, none⟩) (v := .bool true) rfl (by kernel_rfl) (by kernel_rfl) (by kernel_rfl) (fun _ _ _ h => h) (Or.inl ⟨by rfl, fun w _ => by go_simp⟩) hHeld ?_
  simp only [Act.put, List.setIfInBounds_toArray, List.set_cons_zero, List.set_cons_succ]
  refine wpAnyH_take (i := 28) (oi := ⟨some 12, .assign (.tmp 71), _, _, _, none⟩) (v := .bool true) rfl (by kernel_rfl) (by kernel_rfl) (by kernel_rfl) (fun _ _ _ h => h) (Or.inl ⟨by rfl, fun _ _ => rfl⟩) hHeld ?_
  simp only [Act.put, List.setIfInBounds_toArray, List.set_cons_zero, List.set_cons_succ]
  refine wpAnyH_done (by kernel_rfl) ?_ _
  clear hHeld
  go_wp2
  go_ret
  exact ⟨rfl, lr⟩
end Go.Proofs.YtaihfkcoiagdaabDoor
