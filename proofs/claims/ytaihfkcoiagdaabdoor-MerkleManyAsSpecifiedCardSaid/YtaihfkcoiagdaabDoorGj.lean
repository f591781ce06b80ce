/-
  WALKS: the reference's Leaf, Node, Empty, split, Root.
-/
import Derived.Test.YtaihfkcoiagdaabDoorGi
namespace Go.Proofs.YtaihfkcoiagdaabDoor
open Go.RowKit Go.ChangeShapes Go.WideShapes Go.ChangeAt

set_option maxRecDepth 100000 in
set_option maxHeartbeats 1000000 in
theorem refLeaf_any (s : ByteArray) (w : World) (h4 : s.size ≤ 400) (tab : Tab0 w) :
    Calls Tryd.prog 18 #[.string s] w fun e w' => e = .returned (.agg (U (leafD s)).toArray) ∧ Later w w' := by
  obtain ⟨F, hF⟩ : ∃ F, F = leafD s := ⟨_, rfl⟩
  have hl : F.length = 16 := by rw [hF]; exact digOf_len _
  have HO := Lib.hid fun (w' : World) (B : Nat) (hB : Blk w' B 9 (Strs [s])) (hw : Later w w') => by
    have h := refOf_any 30 (some ⟨B, 0, none⟩) 1 1 [s] w' (blk_strs hB rfl) (fun x hx => by rw [List.mem_singleton.1 hx]; exact h4) (by omega) (tab.keep hw)
    rw [show digOf (inputB 30 [s]) = F from hF.symm] at h; exact h
  have HL := Lib.hid hl
  rw [← hF]
  clear hF hl tab
  go_enter Tryd.func18, Tryd.ntmps18
  go_wp2_with (first
    | (go_at_call 41; refine (HO.out _ (w.heap.size + 1) (Blk.new' _ _ _ _ _ (by simp) rfl) (((Below.refl _ _).alloc (Nat.le_refl _) _).alloc (by simp) _)).mono ?_; rintro e w1 ⟨rfl, l1⟩)
    | ((with_reducible refine wpList_store_abs (o := ⟨none, .store 31 (.tmp 2) (.tmp 5), _, _, _, none⟩) rfl _ _ _ rfl w.heap.size 31 (PartB [] 16) (U F) ?_ ?_ ?_ (dig_sz HL.out) (dig_z HL.out) (U_one _) ?_); rfl; rfl; exact ((Blk.new w _ _ _ rfl).alloc _).keep l1; intro w5 z1 z2))
  exact bodyPost_ret (v := .agg (U F).toArray) (dig_ret Tryd.results18 _ w.heap.size _ HL.out rfl z1) rfl ⟨rfl, Below.only (Later.trans_ (((Below.refl _ _).alloc (Nat.le_refl _) _).alloc (by simp) _) l1) z2 (Nat.le_refl _)⟩

set_option maxRecDepth 100000 in
set_option maxHeartbeats 1000000 in
theorem refEmpty_any (w : World) (tab : Tab0 w) :
    Calls Tryd.prog 39 #[] w fun e w' => e = .returned (.agg (U emptyD).toArray) ∧ Later w w' := by
  obtain ⟨F, hF⟩ : ∃ F, F = emptyD := ⟨_, rfl⟩
  have hl : F.length = 16 := by rw [hF]; exact digOf_len _
  have HO := Lib.hid fun (w' : World) (hw : Later w w') => by
    have h := refOf_any 32 none 0 0 [] w' (Sl.nil _ _ _) (fun x hx => by cases hx) (by omega) (tab.keep hw)
    rw [show digOf (inputB 32 []) = F from hF.symm] at h; exact h
  have HL := Lib.hid hl
  rw [← hF]
  clear hF hl tab
  go_enter Tryd.func39, Tryd.ntmps39
  go_wp2_with (first
    | (go_at_call 41; refine (HO.out _ ((Below.refl _ _).alloc (Nat.le_refl _) _)).mono ?_; rintro e w1 ⟨rfl, l1⟩)
    | ((with_reducible refine wpList_store_abs (o := ⟨none, .store 31 (.tmp 0) (.tmp 1), _, _, _, none⟩) rfl _ _ _ rfl w.heap.size 31 (PartB [] 16) (U F) ?_ ?_ ?_ (dig_sz HL.out) (dig_z HL.out) (U_one _) ?_); rfl; rfl; exact (Blk.new w _ _ _ rfl).keep l1; intro w5 z1 z2))
  exact bodyPost_ret (v := .agg (U F).toArray) (dig_ret Tryd.results39 _ w.heap.size _ HL.out rfl z1) rfl ⟨rfl, Below.only (Later.trans_ ((Below.refl _ _).alloc (Nat.le_refl _) _) l1) z2 (Nat.le_refl _)⟩

set_option maxRecDepth 100000 in
set_option maxHeartbeats 1000000 in
theorem refNode_any (a b : Wm.Bs) (w : World) (ha : a.length = 16) (hb : b.length = 16) (tab : Tab0 w) :
    Calls Tryd.prog 20 #[.agg (U a).toArray, .agg (U b).toArray] w fun e w' => e = .returned (.agg (U (nodeD a b)).toArray) ∧ Later w w' := by
  obtain ⟨F, hF⟩ : ∃ F, F = nodeD a b := ⟨_, rfl⟩
  have hl : F.length = 16 := by rw [hF]; exact digOf_len _
  obtain ⟨X, hX⟩ : ∃ X, X = (U a).toArray := ⟨_, rfl⟩
  obtain ⟨Y, hY⟩ : ∃ Y, Y = (U b).toArray := ⟨_, rfl⟩
  obtain ⟨sa, hsa⟩ : ∃ sa, sa = strOfNums a := ⟨_, rfl⟩
  obtain ⟨sc, hsc⟩ : ∃ sc, sc = strOfNums b := ⟨_, rfl⟩
  have HO := Lib.hid fun (w' : World) (B : Nat) (hB : Blk w' B 9 (Strs [sa, sc])) (hw : Later w w') => by
    have h := refOf_any 31 (some ⟨B, 0, none⟩) 2 2 [sa, sc] w' (blk_strs hB rfl) (fun x hx => by
      simp only [List.mem_cons, List.not_mem_nil, or_false] at hx
      rcases hx with rfl | rfl
      · rw [hsa, strOf_size]; omega
      · rw [hsc, strOf_size]; omega) (by omega) (tab.keep hw)
    rw [show digOf (inputB 31 [sa, sc]) = F from by rw [hsa, hsc]; exact hF.symm] at h; exact h
  have HL := Lib.hid hl
  rw [← hF, ← hX, ← hY]
  have HX := Lib.hid hX; have HY := Lib.hid hY; have HSA := Lib.hid hsa; have HSC := Lib.hid hsc
  have s1 : ∀ w' B t, Blk w' B t (U a) → Sl w' 1 (some ⟨B, 0, none⟩) 16 (U a) := fun w' B t h => by
    have h1 := h.sl 0 16 (by rw [U_length]; omega)
    rwa [List.drop_zero, List.take_of_length_le (by rw [U_length]; omega)] at h1
  have s2 : ∀ w' B t, Blk w' B t (U b) → Sl w' 1 (some ⟨B, 0, none⟩) 16 (U b) := fun w' B t h => by
    have h1 := h.sl 0 16 (by rw [U_length]; omega)
    rwa [List.drop_zero, List.take_of_length_le (by rw [U_length]; omega)] at h1
  have S1 := Lib.hid s1; have S2 := Lib.hid s2
  clear hF hl tab hX hY hsa hsc s1 s2
  go_enter Tryd.func20, Tryd.ntmps20
  go_wp2_with fail
  refine wp_region_still_tail 4 (by kernel_rfl) (by kernel_rfl) ?_
  simp only [List.take_succ_cons, List.take_zero, List.drop_succ_cons, List.drop_zero]
  still_step
  refine wpStill_str (o := ⟨some 6, .convert 75 9 (.tmp 5), _, _, _, none⟩) _ _ 5 _ rfl (by rfl) (some ⟨w.heap.size, 0, none⟩) 16 16 a (by rfl) Tryd.underlying75 Tryd.underlying5 Tryd.underlying9 (S1.out _ _ 31 ((((Blk.new w 31 X (U a) HX.out).alloc _).alloc _).drew)) ?_
  simp only [Act.put, List.setIfInBounds_toArray, List.set_cons_zero, List.set_cons_succ]
  still_step
  refine wpStill_str (o := ⟨some 8, .convert 75 9 (.tmp 7), _, _, _, none⟩) _ _ 5 _ rfl (by rfl) (some ⟨w.heap.size + 1, 0, none⟩) 16 16 b (by rfl) Tryd.underlying75 Tryd.underlying5 Tryd.underlying9 (S2.out _ _ 31 ((Blk.new' _ _ 31 Y (U b) (by simp) HY.out).alloc _).drew) ?_
  simp only [Act.put, List.setIfInBounds_toArray, List.set_cons_zero, List.set_cons_succ]
  refine wpStill_nil ?_
  rw [← HSA.out, ← HSC.out]
  change wpList _ _ _ _ _ ((((w.alloc (.cells X 31)).alloc (.cells Y 31)).alloc (.cells (PartB [] 16).toArray 31)).drew)
  have g4 : Blk ((((w.alloc (.cells X 31)).alloc (.cells Y 31)).alloc (.cells (PartB [] 16).toArray 31)).drew) (w.heap.size + 1 + 1) 31 (PartB [] 16) := (Blk.new' _ _ _ _ _ (by simp) rfl).drew
  have g0 : Later w ((((w.alloc (.cells X 31)).alloc (.cells Y 31)).alloc (.cells (PartB [] 16).toArray 31)).drew) := ((((Below.refl _ _).alloc (Nat.le_refl _) _).alloc (by simp) _).alloc (by simp; omega) _).drew
  generalize ((((w.alloc (.cells X 31)).alloc (.cells Y 31)).alloc (.cells (PartB [] 16).toArray 31)).drew) = w3 at g4 g0 ⊢
  clear HX HY S1 S2
  go_wp2_with (first
    | (go_at_call 41; refine (HO.out _ w3.heap.size (Blk.new _ _ _ _ rfl) (g0.alloc g0.size _)).mono ?_; rintro e w4 ⟨rfl, l4⟩)
    | ((with_reducible refine wpList_store_abs (o := ⟨none, .store 31 (.tmp 4) (.tmp 10), _, _, _, none⟩) rfl _ _ _ rfl (w.heap.size + 1 + 1) 31 (PartB [] 16) (U F) ?_ ?_ ((g4.alloc _).keep l4) (dig_sz HL.out) (dig_z HL.out) (U_one _) ?_); rfl; rfl; intro w5 z1 z2))
  exact bodyPost_ret (v := .agg (U F).toArray) (dig_ret Tryd.results20 _ (w.heap.size + 1 + 1) _ HL.out rfl z1) rfl ⟨rfl, Below.only (Later.trans_ (g0.alloc g0.size _) l4) z2 (by omega)⟩

set_option maxRecDepth 100000 in
set_option maxHeartbeats 1000000 in
theorem refSplit_any (n : Nat) (w : World) (h2 : 2 ≤ n) (hn : n ≤ 4611686018427387904) :
    Calls Tryd.prog 40 #[.int .i64 n] w fun e w' => e = .returned (.int .i64 (Mk.sp n)) ∧ w' = w := by
  obtain ⟨K, hK⟩ : ∃ K, K = Mk.sp n := ⟨_, rfl⟩
  rw [← hK]
  have HK : Hid (∀ j, 2 ^ j < n → n ≤ 2 * 2 ^ j → 2 ^ j = K) := Lib.hid fun j a b => by rw [hK, Mk.sp_is a b]
  clear hK
  go_enter Tryd.func40, Tryd.ntmps40
  go_wp2
  go_loopw [3] (fun k wr => ∃ (q : Nat), k = .int .i64 q ∧ 1 ≤ q ∧ q < n ∧ Hid (∃ j, q = 2 ^ j) ∧ w = wr) (fun k _ => n - (intOf k).toNat)
  case atStart => exact ⟨1, by go_num, by omega, by omega, Lib.hid ⟨0, rfl⟩, rfl⟩
  case round =>
    obtain ⟨q, rfl, hq1, hqn, hj, rfl⟩ := hrel
    have z0 : (0 : Int) ≤ (q : Int) := by omega
    by_cases hlt : 2 * q < n
    · have z1 : 2 * (q : Int) < (n : Int) := by omega
      have hj2 : Hid (∃ j, 2 * q = 2 ^ j) := Lib.hid (by obtain ⟨j, e⟩ := hj.out; exact ⟨j + 1, by rw [Nat.pow_succ, ← e]; omega⟩)
      go_wp2
      go_roundw
      case rel => exact ⟨2 * q, by go_num, by omega, by omega, hj2, by trivial⟩
      case measure => simp [intOf]; omega
    · have z1 : ¬ 2 * (q : Int) < (n : Int) := by omega
      have e : Hid (q = K) := Lib.hid (by obtain ⟨j, e⟩ := hj.out; rw [e]; exact HK.out j (by omega) (by omega))
      clear hj
      go_wp2
      go_ret
      exact ⟨by rw [e.out]; rfl, rfl⟩
end Go.Proofs.YtaihfkcoiagdaabDoor

/-
  WALKS: the reference's Root.
-/
namespace Go.Proofs.YtaihfkcoiagdaabDoor
open Go.RowKit Go.ChangeShapes Go.WideShapes Go.ChangeAt

theorem Sl.dback {w : World} {ad : Addr} {n k c : Nat} {l : List Wm.Bs} (h : Sl w 16 (some ad) n (Ds l)) (hl : isD l) (hk : k ≤ n) (hc : n ≤ c) : Sl w 16 (if c = k then some ad else some (ad.add (k * 16))) (n - k) (Ds (l.drop k)) := by
  have h1 := h.cut hk hc; rwa [Ds_drop hl] at h1

set_option maxRecDepth 100000 in
set_option maxHeartbeats 1000000 in
theorem refRoot_any (N : Nat) : ∀ (A : Option Addr) (n c : Nat) (l : List Wm.Bs) (w : World), n ≤ N → Sl w 16 A n (Ds l) → isD l → n ≤ 4611686018427387904 → n ≤ c → c ≤ 9223372036854775807 → Tab0 w →
    Calls Tryd.prog 16 #[.slice A n c] w fun e w' => e = .returned (.agg (U (rootD l)).toArray) ∧ Later w w' := by
  induction N with
  | zero =>
    intro A n c l w hn hs hl _ hnc hc tab
    obtain rfl : n = 0 := by omega
    have hll : l = [] := List.eq_nil_of_length_eq_zero (hs.dlen hl)
    subst hll
    have e : rootD [] = emptyD := Mk.root_nil _ _
    obtain ⟨F, hF⟩ : ∃ F, F = emptyD := ⟨_, rfl⟩
    have HE := Lib.hid fun (w' : World) (hw : Later w w') => by have h := refEmpty_any w' (tab.keep hw); rw [← hF] at h; exact h
    have HL := Lib.hid (show F.length = 16 by rw [hF]; exact digOf_len _)
    rw [e, ← hF]
    clear e hF tab hs hl
    go_enter Tryd.func16, Tryd.ntmps16
    go_wp2_with (first
      | (go_at_call 39; refine (HE.out _ ((Below.refl _ _).alloc (Nat.le_refl _) _)).mono ?_; rintro e w1 ⟨rfl, l1⟩)
      | ((with_reducible refine wpList_store_abs (o := ⟨none, .store 31 (.tmp 2) (.tmp 7), _, _, _, none⟩) rfl _ _ _ rfl w.heap.size 31 (PartB [] 16) (U F) ?_ ?_ ?_ (dig_sz HL.out) (dig_z HL.out) (U_one _) ?_); rfl; rfl; exact (Blk.new w _ _ _ rfl).keep l1; intro w5 z1 z2))
    exact bodyPost_ret (v := .agg (U F).toArray) (dig_ret Tryd.results16 _ w.heap.size _ HL.out rfl z1) rfl ⟨rfl, Below.only (Later.trans_ ((Below.refl _ _).alloc (Nat.le_refl _) _) l1) z2 (Nat.le_refl _)⟩
  | succ N ih =>
    intro A n c l w hn hs hl hbig hnc hc tab
    by_cases hsm : n ≤ 1
    · by_cases h0 : n = 0
      · exact ih A n c l w (by omega) hs hl hbig hnc hc tab
      · obtain rfl : n = 1 := by omega
        obtain ⟨d, rfl⟩ := List.length_eq_one_iff.1 (hs.dlen hl)
        have e : rootD [d] = d := Mk.root_one _ _ _
        rw [e]
        have hd := (hl d List.mem_cons_self).1
        have HL := Lib.hid hd
        have HSL := Lib.hid fun (w' : World) (hw : Later w w') => (hs.keep hw).digest hl (k := 0) (by decide)
        obtain ⟨ad, rfl, _, _⟩ := hs.2 (by decide)
        clear e hs hl hd tab ih
        go_enter Tryd.func16, Tryd.ntmps16
        go_wp2_with (first
          | ((with_reducible refine wpList_load_addr (o := ⟨some 13, .load 31 (.tmp 12), _, _, _, none⟩) rfl _ _ rfl ad (U d) _ ?_ ?_ Tryd.underlying31 rfl (dig_sz HL.out) ?_); rfl; (obtain ⟨ad', e', _, _, hc'⟩ := HSL.out _ ((Below.refl _ _).alloc (Nat.le_refl _) _); cases e'; intro j v hv; have h9 := hc' j v hv; rwa [Nat.zero_mul, addr_add_add, Nat.zero_add] at h9))
          | ((with_reducible refine wpList_store_abs (o := ⟨none, .store 31 (.tmp 2) (.tmp 13), _, _, _, none⟩) rfl _ _ _ rfl w.heap.size 31 (PartB [] 16) (U d) ?_ ?_ ?_ (dig_sz HL.out) (dig_z HL.out) (U_one _) ?_); rfl; rfl; exact Blk.new w _ _ _ rfl; intro w5 z1 z2))
        exact bodyPost_ret (v := .agg (U d).toArray) (dig_ret Tryd.results16 _ w.heap.size _ HL.out rfl z1) rfl ⟨rfl, Below.only ((Below.refl _ _).alloc (Nat.le_refl _) _) z2 (Nat.le_refl _)⟩
    · have h2 : 2 ≤ n := by omega
      have hll := hs.dlen hl
      obtain ⟨ad, rfl, _, _⟩ := hs.2 (by omega)
      have k1 := Mk.sp_lt h2
      have k0 := Mk.sp_pos n
      have hP := Lib.hid fun w' => refSplit_any n w' h2 hbig
      have e : rootD l = nodeD (rootD (l.take (Mk.sp n))) (rootD (l.drop (Mk.sp n))) := by unfold rootD; rw [Mk.root_two _ _ l (by omega), hll]
      have H1 := Lib.hid fun (w' : World) (hw : Later w w') => ih (some ad) (Mk.sp n) c (l.take (Mk.sp n)) w' (by omega) ((hs.keep hw).dfront hl (by omega)) (isD_take hl _) (by omega) (by omega) hc (tab.keep hw)
      have H2 := Lib.hid fun (w' : World) (hw : Later w w') => ih _ (n - Mk.sp n) (c - Mk.sp n) (l.drop (Mk.sp n)) w' (by omega) ((hs.keep hw).dback hl (k := Mk.sp n) (c := c) (by omega) hnc) (isD_drop hl _) (by omega) (by omega) (by omega) (tab.keep hw)
      have d1 := rootD_dig (isD_take hl (Mk.sp n))
      have d2 := rootD_dig (isD_drop hl (Mk.sp n))
      obtain ⟨X, hX⟩ : ∃ X, X = rootD (l.take (Mk.sp n)) := ⟨_, rfl⟩
      obtain ⟨Y, hY⟩ : ∃ Y, Y = rootD (l.drop (Mk.sp n)) := ⟨_, rfl⟩
      obtain ⟨K, hK⟩ : ∃ K, K = Mk.sp n := ⟨_, rfl⟩
      rw [← hX] at H1 e d1
      rw [← hY] at H2 e d2
      rw [← hK] at H1 H2 hP
      have HN := Lib.hid fun (w' : World) (hw : Later w w') => refNode_any X Y w' d1.1 d2.1 (tab.keep hw)
      obtain ⟨F, hF⟩ : ∃ F, F = nodeD X Y := ⟨_, rfl⟩
      rw [← hF] at HN e
      have HL := Lib.hid (show F.length = 16 by rw [hF]; exact nodeD_len _ _)
      rw [e]
      rw [← hK] at k1 k0
      clear e hF hX hY hK ih tab hs hl hll d1 d2
      have hn1 : ((n : Int) == 1) = false := by rw [beq_eq_false_iff_ne]; omega
      have hn0 : ((n : Int) == 0) = false := by rw [beq_eq_false_iff_ne]; omega
      have z0 : (0 : Int) ≤ (K : Int) := by omega
      have z1 : (K : Int) ≤ (n : Int) := by omega
      have z2 : (K : Int) ≤ (c : Int) := by omega
      have z3 : (n : Int) ≤ (c : Int) := by omega
      have g2 : Blk (w.alloc (.cells (PartB [] 16).toArray 31)) w.heap.size 31 (PartB [] 16) := Blk.new w _ _ _ rfl
      have m1 : Later w (w.alloc (.cells (PartB [] 16).toArray 31)) := (Below.refl _ _).alloc (Nat.le_refl _) _
      go_enter Tryd.func16, Tryd.ntmps16
      go_wp2_with (go_at_call 40; refine (hP.out _).mono ?_; rintro e w1 ⟨rfl, rfl⟩)
      change Code.wp _ _ _ _ (w.alloc (.cells (PartB [] 16).toArray 31))
      generalize (w.alloc (.cells (PartB [] 16).toArray 31)) = w1 at g2 m1 ⊢
      have m1d := Later.trans_ m1 (Below.refl w1.heap.size w1).drew
      refine wp_region_held_drew (S := fun w' => True) (by kernel_rfl) trivial (fun hHeld => ?_)
      refine wpAnyH_take (i := 0) (oi := ⟨some 17, .move (.tmp 0), _, _, _, none⟩) (v := .slice (some ad) n c) rfl (by kernel_rfl) (by kernel_rfl) (by kernel_rfl) (fun _ _ _ h => h) (Or.inl ⟨by rfl, fun _ _ => rfl⟩) hHeld ?_
      simp only [Act.put, List.setIfInBounds_toArray, List.set_cons_zero, List.set_cons_succ]
      refine wpAnyH_take (i := 1) (oi := ⟨some 18, .move (.tmp 3), _, _, _, none⟩) (v := .int .i64 K) rfl (by kernel_rfl) (by kernel_rfl) (by kernel_rfl) (fun _ _ _ h => h) (Or.inl ⟨by rfl, fun _ _ => rfl⟩) hHeld ?_
      simp only [Act.put, List.setIfInBounds_toArray, List.set_cons_zero, List.set_cons_succ]
      refine wpAnyH_take (i := 2) (oi := ⟨some 19, .slice 22 (.tmp 17) none (some (.tmp 18)) none, _, _, _, none⟩) (v := .slice (some ad) K c) rfl (by kernel_rfl) (by kernel_rfl) (by kernel_rfl) (fun _ _ _ h => h) (Or.inl ⟨by rfl, fun w _ => by go_simp⟩) hHeld ?_
      simp only [Act.put, List.setIfInBounds_toArray, List.set_cons_zero, List.set_cons_succ]
      refine wpAnyH_take (i := 4) (oi := ⟨some 21, .move (.tmp 0), _, _, _, none⟩) (v := .slice (some ad) n c) rfl (by kernel_rfl) (by kernel_rfl) (by kernel_rfl) (fun _ _ _ h => h) (Or.inl ⟨by rfl, fun _ _ => rfl⟩) hHeld ?_
      simp only [Act.put, List.setIfInBounds_toArray, List.set_cons_zero, List.set_cons_succ]
      refine wpAnyH_take (i := 5) (oi := ⟨some 22, .move (.tmp 3), _, _, _, none⟩) (v := .int .i64 K) rfl (by kernel_rfl) (by kernel_rfl) (by kernel_rfl) (fun _ _ _ h => h) (Or.inl ⟨by rfl, fun _ _ => rfl⟩) hHeld ?_
      simp only [Act.put, List.setIfInBounds_toArray, List.set_cons_zero, List.set_cons_succ]
      refine wpAnyH_take (i := 6) (oi := ⟨some 23, .slice 22 (.tmp 21) (some (.tmp 22)) none none, _, _, _, none⟩) (v := .slice (if c = K then some ad else some (ad.add (K * 16))) (n - K) (c - K)) rfl (by kernel_rfl) (by kernel_rfl) (by kernel_rfl) (fun _ _ _ h => h) (Or.inl ⟨by rfl, fun w _ => by by_cases hcq : c = K <;> go_simp⟩) hHeld ?_
      simp only [Act.put, List.setIfInBounds_toArray, List.set_cons_zero, List.set_cons_succ]
      refine wpAnyH_ready (rs := [3]) (by kernel_rfl) (by simp) (AllReadyH.cons (o := ⟨some 20, .call { callee := .value (.func 16), args := #[.tmp 19], argTypes := #[22] }, _, _, _, none⟩) rfl (fun K' hK => ?_) (AllReadyH.nil))
      go_simp
      refine (H1.out _ m1d).mono ?_
      rintro e w2 ⟨rfl, l2⟩
      have m2 := Later.trans_ m1d l2
      refine hK.out _ _ trivial (fun hHeld => ?_)
      clear hK K'
      try simp only [Act.put, List.setIfInBounds_toArray, List.set_cons_zero, List.set_cons_succ]
      refine wpAnyH_ready (rs := [7]) (by kernel_rfl) (by simp) (AllReadyH.cons (o := ⟨some 24, .call { callee := .value (.func 16), args := #[.tmp 23], argTypes := #[22] }, _, _, _, none⟩) rfl (fun K' hK => ?_) (AllReadyH.nil))
      go_simp
      refine (H2.out _ m2).mono ?_
      rintro e w3 ⟨rfl, l3⟩
      have m3 := Later.trans_ m2 l3
      refine hK.out _ _ trivial (fun hHeld => ?_)
      clear hK K'
      try simp only [Act.put, List.setIfInBounds_toArray, List.set_cons_zero, List.set_cons_succ]
      refine wpAnyH_ready (rs := [8]) (by kernel_rfl) (by simp) (AllReadyH.cons (o := ⟨some 25, .call { callee := .value (.func 20), args := #[.tmp 20, .tmp 24], argTypes := #[31, 31] }, _, _, _, none⟩) rfl (fun K' hK => ?_) (AllReadyH.nil))
      go_simp
      refine (HN.out _ m3).mono ?_
      rintro e w4 ⟨rfl, l4⟩
      refine hK.out _ _ trivial (fun hHeld => ?_)
      clear hK K'
      try simp only [Act.put, List.setIfInBounds_toArray, List.set_cons_zero, List.set_cons_succ]
      refine wpAnyH_ready (rs := [9]) (by kernel_rfl) (by simp) (AllReadyH.cons (o := ⟨none, .store 31 (.tmp 2) (.tmp 25), _, _, _, none⟩) rfl (fun K' hK => ?_) (AllReadyH.nil))
      refine wp_store_whole _ _ _ rfl w.heap.size 31 (PartB [] 16) (U F) rfl rfl (((g2.drew.keep l2).keep l3).keep l4) (dig_sz HL.out) (dig_z HL.out) (U_one _) ?_
      intro w5 y1 y2
      refine hK.out _ _ trivial (fun hHeld => ?_)
      clear hK K'
      try simp only [Act.put]
      refine wpAnyH_done (by kernel_rfl) ?_ _
      go_wp2
      all_goals exact bodyPost_ret (v := .agg (U F).toArray) (dig_ret Tryd.results16 _ w.heap.size _ HL.out rfl y1) rfl ⟨rfl, Below.only (Later.trans_ m3 l4) y2 (Nat.le_refl _)⟩
end Go.Proofs.YtaihfkcoiagdaabDoor

/-
  WALKS: the reference's with.
-/
namespace Go.Proofs.YtaihfkcoiagdaabDoor
open Go.RowKit Go.ChangeShapes Go.WideShapes Go.ChangeAt

/-- append, at the operation. -/
theorem wp_app {P : Program} (w : World) {o : Oper} {a : Act} {K : Act → World → Prop} {Q : Exit → Act → World → Prop} (s x : Operand) (t : TypeId)
    (ho : o.op = .call { callee := .builtin .append, args := #[s, x], argTypes := #[t, t] })
    (base : Nat) (e : TypeId) (i : TypeInfo) (z : Value) (size bytes : Nat) (ht : P.underlying t = some (.slice e)) (hi : P.info? e = some i) (hz : i.zero = some z)
    (hsize : i.size = size) (hby : i.bytes = bytes) (hzs : z.cells.size = size) (hsz : 0 < size)
    (v : Value) (n : Nat) (xs : List Value) (hsv : a.eval s = v) (hown : w.ownsRow base e size v n xs)
    (A : Option Addr) (m c : Nat) (news : List Value) (hx : a.eval x = .slice A m c) (hs : Sl w size A m news) (h1 : ∀ u ∈ news, u.oneCell' = true)
    (h63 : n + m ≤ maxLen) (hbytes : (n + m) * bytes ≤ 140737488355328) (hbase : base ≤ w.heap.size)
    (h : ∀ v' w', w'.ownsRow base e size v' (n + m) (xs ++ news) → w.grownBy w' v.ownBlock → K (a.put o.dst v') w') : o.wp P a w K Q := by
  obtain ⟨v', w', hr, h2, h3⟩ := run_app (P := P) w base t o.type e i z size bytes ht hi hz hsize hby hzs hsz v n xs hown A m c news hs h1 h63 hbytes hbase
  unfold Oper.wp execOp
  simp only [ho, resolve, invoke, builtin, Sem.run_bind, Sem.run_pure, Result.andThen_ok, List.map_toArray, List.map_cons, List.map_nil, hsv, hx, hr]
  exact h v' w' h2 h3
theorem own_empty (w : World) (base : Nat) (hb : base ≤ w.heap.size) : (w.alloc (.cells #[] 31)).ownsRow base 31 16 (.slice (some ⟨w.heap.size, 0, none⟩) 0 0) 0 [] :=
  ⟨rfl, .inr ⟨w.heap.size, 0, #[], rfl, hb, Blk.new w 31 #[] [] rfl, Nat.le_refl _, Nat.zero_le _, rfl, rfl⟩⟩
theorem blk_digs {w : World} {B : Nat} {d : Wm.Bs} (h : Blk w B 31 (U d)) (hd : d.length = 16) : Sl w 16 (some ⟨B, 0, none⟩) 1 (U d) :=
  ⟨by rw [U_length, hd], fun _ => ⟨_, rfl, h.lt, fun j u hu => by
    have e : (⟨B, 0, none⟩ : Addr).add j = ⟨B, j, none⟩ := by
      unfold Addr.add; split
      · rename_i h; subst h; rfl
      · simp
    rw [e]; exact h.cell hu⟩⟩
theorem Blk.grown {w w' : World} {B : Nat} {t : TypeId} {cs : List Value} {row : Option Nat} (h : Blk w B t cs) (g : w.grownBy w' row) (hne : some B ≠ row) : Blk w' B t cs := by
  unfold Blk; rw [g.block B h.lt hne]; exact h
/-- A list of digests handed back. -/
def GotDs (l : List Wm.Bs) (w : World) (e : Ending) (w' : World) : Prop :=
  ∃ A c, e = .returned (.slice A l.length c) ∧ l.length ≤ c ∧ c ≤ 9223372036854775807 ∧ Sl w' 16 A l.length (Ds l) ∧ (∀ ad, 0 < l.length → A = some ad → w.heap.size ≤ ad.block) ∧ Later w w'

set_option maxRecDepth 100000 in
set_option maxHeartbeats 1000000 in
theorem with_any (A : Option Addr) (n c : Nat) (l : List Wm.Bs) (d : Wm.Bs) (w : World) (hs : Sl w 16 A n (Ds l)) (hl : isD l) (hd : d.length = 16) (hn : n ≤ 8000000000000) :
    Calls Tryd.prog 55 #[.slice A n c, .agg (U d).toArray] w fun e w' => GotDs (l ++ [d]) w e w' := by
  have hll := hs.dlen hl
  obtain ⟨X, hX⟩ : ∃ X, X = (U d).toArray := ⟨_, rfl⟩
  have HX := Lib.hid hX
  rw [← hX]
  obtain ⟨i0, hI⟩ := dgI
  have HI := Lib.hid hI
  have HL := Lib.hid hd
  have HS := Lib.hid fun (w' : World) (hw : Below w.heap.size w w') => Sl.later hs hw (fun _ _ h => h)
  have HLL := Lib.hid hll
  have gB0 : Blk (w.alloc (.cells X 31)) w.heap.size 31 (U d) := Blk.new w _ _ _ HX.out
  have l10 : Later w (w.alloc (.cells X 31)) := (Below.refl _ _).alloc (Nat.le_refl _) _
  clear hX hI hd hs hl hll
  go_enter Tryd.func55, Tryd.ntmps55
  go_wp2
  have gB := gB0
  have l1 := l10
  have hs1 : w.heap.size + 1 ≤ (w.alloc (.cells X 31)).heap.size := by simp
  clear gB0 l10
  generalize (w.alloc (.cells X 31)) = w1 at gB l1 hs1 ⊢
  refine wp_region_held_drew (S := fun w' => w'.rangeAt w.heap.size 0 (U d)) (by kernel_rfl) (blk_at gB.drew) (fun hHeld => ?_)
  replace gB := gB.drew
  replace l1 := Below.trans l1 ((Below.refl w.heap.size w1).drew)
  have hsz : w.heap.size + 1 ≤ w1.drew.heap.size := hs1
  clear hs1
  generalize w1.drew = u0 at gB l1 hsz hHeld ⊢
  refine wpAnyH_take (i := 1) (oi := ⟨some 6, .move (.tmp 0), _, _, _, none⟩) (v := .slice A n c) rfl (by kernel_rfl) (by kernel_rfl) (by kernel_rfl) (fun _ _ _ h => h) (Or.inl ⟨by rfl, fun _ _ => rfl⟩) hHeld ?_
  simp only [Act.put, List.setIfInBounds_toArray, List.set_cons_zero, List.set_cons_succ]
  refine wpAnyH_take (i := 3) (oi := ⟨some 8, .load 31 (.tmp 3), _, _, _, none⟩) (v := .agg (U d).toArray) rfl (by kernel_rfl) (by kernel_rfl) (by kernel_rfl) (fun _ _ _ h => h) (yieldsIf_load_mid (by rfl) _ _ rfl _ _ rfl _ _ (fun w h => h) Tryd.underlying31 rfl (dig_sz HL.out)) hHeld ?_
  simp only [Act.put, List.setIfInBounds_toArray, List.set_cons_zero, List.set_cons_succ]
  refine wpAnyH_ready (rs := [0, 4]) (by kernel_rfl) (by simp) (AllReadyH.cons (o := ⟨some 5, .buildSlice 22 0 #[], _, _, _, none⟩) rfl (fun K' hK => ?_) (AllReadyH.cons (o := ⟨some 9, .buildSlice 22 1 #[(0, .tmp 8)], _, _, _, none⟩) rfl (fun K' hK => ?_) (AllReadyH.nil)))
  · go_simp
    refine hK.out _ _ (blk_at (gB.alloc _)) (fun hHeld => ?_)
    clear hK K'
    try simp only [Act.put, List.setIfInBounds_toArray, List.set_cons_zero, List.set_cons_succ]
    have own0 := own_empty u0 (w.heap.size + 1) hsz
    have hv0 : ∀ k, (Value.slice (some ⟨u0.heap.size, 0, none⟩) 0 0).ownBlock = some k → k = u0.heap.size := fun k hk => by simpa [Value.ownBlock] using hk.symm
    replace gB := gB.alloc (.cells #[] 31)
    replace l1 := l1.alloc (by omega) (.cells #[] 31)
    have hz0 : u0.heap.size < (u0.alloc (.cells #[] 31)).heap.size := by simp
    replace hsz : w.heap.size + 1 ≤ (u0.alloc (.cells #[] 31)).heap.size := by omega
    generalize u0.alloc (.cells #[] 31) = u1 at own0 gB l1 hz0 hsz hHeld ⊢
    refine wpAnyH_ready (rs := [2, 4]) (by kernel_rfl) (by simp) (AllReadyH.cons (o := ⟨some 7, .call { callee := .builtin .append, args := #[.tmp 5, .tmp 6], argTypes := #[22, 22] }, _, _, _, none⟩) rfl (fun K' hK => ?_) (AllReadyH.cons (o := ⟨some 9, .buildSlice 22 1 #[(0, .tmp 8)], _, _, _, none⟩) rfl (fun K' hK => ?_) (AllReadyH.nil)))
    · refine wp_app _ (.tmp 5) (.tmp 6) 22 rfl (w.heap.size + 1) 31 i0 _ 16 16 Tryd.underlying22 HI.out.hi HI.out.hz HI.out.hs HI.out.hb rfl (by decide) _ 0 [] rfl own0 A n c (Ds l) rfl (HS.out _ l1) (U_one _) (by unfold maxLen; omega) (by omega) hsz ?_
      intro v1 u2 own1 grow1
      have hr1 := fun k hk => (own0.lt k hk).1
      have gB' := gB.grown grow1 (fun e => by have := hr1 _ e.symm; omega)
      replace l1 := l1.grown grow1 (by omega) (fun k hk => by have := hr1 k hk; omega)
      replace hsz : w.heap.size + 1 ≤ u2.heap.size := Nat.le_trans hsz grow1.size
      refine hK.out _ _ (blk_at gB') (fun hHeld => ?_)
      clear hK K'
      try simp only [Act.put, List.setIfInBounds_toArray, List.set_cons_zero, List.set_cons_succ]
      replace gB := gB'
      clear gB' own0 hv0 hr1 grow1 hz0
      refine wpAnyH_ready (rs := [4]) (by kernel_rfl) (by simp) (AllReadyH.cons (o := ⟨some 9, .buildSlice 22 1 #[(0, .tmp 8)], _, _, _, none⟩) rfl (fun K' hK => ?_) (AllReadyH.nil))
      refine wp_build1 _ 31 _ rfl (U d).toArray i0 _ Tryd.underlying22 HI.out.hi HI.out.hz (by rw [HI.out.hs, List.size_toArray, U_length, HL.out]) (by rw [List.size_toArray, U_length, HL.out]; decide) (by rw [List.size_toArray, U_length, HL.out]; decide) rfl ?_
      refine hK.out _ _ (blk_at (gB.alloc _)) (fun hHeld => ?_)
      clear hK K'
      try simp only [Act.put, List.setIfInBounds_toArray, List.set_cons_zero, List.set_cons_succ]
      have gN : Blk (u2.alloc (.cells (U d).toArray 31)) u2.heap.size 31 (U d) := Blk.new _ _ _ _ rfl
      replace own1 := own1.alloc (.cells (U d).toArray 31)
      replace gB := gB.alloc (.cells (U d).toArray 31)
      replace l1 := l1.alloc (by omega) (.cells (U d).toArray 31)
      have hzN : u2.heap.size < (u2.alloc (.cells (U d).toArray 31)).heap.size := by simp
      replace hsz : w.heap.size + 1 ≤ (u2.alloc (.cells (U d).toArray 31)).heap.size := by omega
      generalize u2.alloc (.cells (U d).toArray 31) = u3 at own1 gB gN l1 hzN hsz hHeld ⊢
      refine wpAnyH_ready (rs := [5]) (by kernel_rfl) (by simp) (AllReadyH.cons (o := ⟨some 10, .call { callee := .builtin .append, args := #[.tmp 7, .tmp 9], argTypes := #[22, 22] }, _, _, _, none⟩) rfl (fun K' hK => ?_) (AllReadyH.nil))
      refine wp_app _ (.tmp 7) (.tmp 9) 22 rfl (w.heap.size + 1) 31 i0 _ 16 16 Tryd.underlying22 HI.out.hi HI.out.hz HI.out.hs HI.out.hb rfl (by decide) _ (0 + n) ([] ++ Ds l) rfl own1 (some ⟨u2.heap.size, 0, none⟩) 1 1 (U d) rfl (blk_digs gN HL.out) (U_one _) (by unfold maxLen; omega) (by omega) hsz ?_
      intro v2 ue own2 grow2
      have hr2 := fun k hk => (own1.lt k hk).1
      have gB' := gB.grown grow2 (fun e => by have := hr2 _ e.symm; omega)
      replace l1 := l1.grown grow2 (by omega) (fun k hk => by have := hr2 k hk; omega)
      refine hK.out _ _ (blk_at gB') (fun hHeld => ?_)
      clear hK K'
      try simp only [Act.put, List.setIfInBounds_toArray, List.set_cons_zero, List.set_cons_succ]
      have hfin := own2
      rw [List.nil_append, ← Ds_snoc, Nat.zero_add] at hfin
      refine wpAnyH_take (i := 6) (oi := ⟨some 4, .assign (.tmp 10), _, _, _, none⟩) (v := v2) rfl (by kernel_rfl) (by kernel_rfl) (by kernel_rfl) (fun _ _ _ h => h) (Or.inl ⟨by rfl, fun _ _ => rfl⟩) hHeld ?_
      simp only [Act.put, List.setIfInBounds_toArray, List.set_cons_zero, List.set_cons_succ]
      refine wpAnyH_done (by kernel_rfl) ?_ _
      go_wp2
      obtain ⟨A2, c2, rfl, q1, q2, q3, q4⟩ := own_form hfin
      have hlen : (l ++ [d]).length = n + 1 := by rw [List.length_append, List.length_singleton, HLL.out]
      go_ret
      exact ⟨A2, c2, by rw [hlen]; rfl, by rw [hlen]; exact q1, q2, by rw [hlen]; exact q3, fun ad _ e => by have := (q4 ad e).1; omega, l1⟩
    · refine wp_build1 _ 31 _ rfl (U d).toArray i0 _ Tryd.underlying22 HI.out.hi HI.out.hz (by rw [HI.out.hs, List.size_toArray, U_length, HL.out]) (by rw [List.size_toArray, U_length, HL.out]; decide) (by rw [List.size_toArray, U_length, HL.out]; decide) rfl ?_
      refine hK.out _ _ (blk_at (gB.alloc _)) (fun hHeld => ?_)
      clear hK K'
      try simp only [Act.put, List.setIfInBounds_toArray, List.set_cons_zero, List.set_cons_succ]
      have gN : Blk (u1.alloc (.cells (U d).toArray 31)) u1.heap.size 31 (U d) := Blk.new _ _ _ _ rfl
      replace own0 := own0.alloc (.cells (U d).toArray 31)
      replace gB := gB.alloc (.cells (U d).toArray 31)
      replace l1 := l1.alloc (by omega) (.cells (U d).toArray 31)
      have hzN : u1.heap.size < (u1.alloc (.cells (U d).toArray 31)).heap.size := by simp
      replace hsz : w.heap.size + 1 ≤ (u1.alloc (.cells (U d).toArray 31)).heap.size := by omega
      generalize u1.alloc (.cells (U d).toArray 31) = u2 at own0 gB gN l1 hzN hsz hHeld ⊢
      refine wpAnyH_ready (rs := [2]) (by kernel_rfl) (by simp) (AllReadyH.cons (o := ⟨some 7, .call { callee := .builtin .append, args := #[.tmp 5, .tmp 6], argTypes := #[22, 22] }, _, _, _, none⟩) rfl (fun K' hK => ?_) (AllReadyH.nil))
      refine wp_app _ (.tmp 5) (.tmp 6) 22 rfl (w.heap.size + 1) 31 i0 _ 16 16 Tryd.underlying22 HI.out.hi HI.out.hz HI.out.hs HI.out.hb rfl (by decide) _ 0 [] rfl own0 A n c (Ds l) rfl (HS.out _ l1) (U_one _) (by unfold maxLen; omega) (by omega) hsz ?_
      intro v1 u3 own1 grow1
      have hr1 := fun k hk => (own0.lt k hk).1
      have gB' := gB.grown grow1 (fun e => by have := hr1 _ e.symm; omega)
      replace gN := gN.grown grow1 (fun e => by have := hv0 _ e.symm; omega)
      replace l1 := l1.grown grow1 (by omega) (fun k hk => by have := hr1 k hk; omega)
      replace hsz : w.heap.size + 1 ≤ u3.heap.size := Nat.le_trans hsz grow1.size
      refine hK.out _ _ (blk_at gB') (fun hHeld => ?_)
      clear hK K'
      try simp only [Act.put, List.setIfInBounds_toArray, List.set_cons_zero, List.set_cons_succ]
      replace gB := gB'
      clear gB' own0 hv0 hr1 grow1 hz0
      refine wpAnyH_ready (rs := [5]) (by kernel_rfl) (by simp) (AllReadyH.cons (o := ⟨some 10, .call { callee := .builtin .append, args := #[.tmp 7, .tmp 9], argTypes := #[22, 22] }, _, _, _, none⟩) rfl (fun K' hK => ?_) (AllReadyH.nil))
      refine wp_app _ (.tmp 7) (.tmp 9) 22 rfl (w.heap.size + 1) 31 i0 _ 16 16 Tryd.underlying22 HI.out.hi HI.out.hz HI.out.hs HI.out.hb rfl (by decide) _ (0 + n) ([] ++ Ds l) rfl own1 (some ⟨u1.heap.size, 0, none⟩) 1 1 (U d) rfl (blk_digs gN HL.out) (U_one _) (by unfold maxLen; omega) (by omega) hsz ?_
      intro v2 ue own2 grow2
      have hr2 := fun k hk => (own1.lt k hk).1
      have gB' := gB.grown grow2 (fun e => by have := hr2 _ e.symm; omega)
      replace l1 := l1.grown grow2 (by omega) (fun k hk => by have := hr2 k hk; omega)
      refine hK.out _ _ (blk_at gB') (fun hHeld => ?_)
      clear hK K'
      try simp only [Act.put, List.setIfInBounds_toArray, List.set_cons_zero, List.set_cons_succ]
      have hfin := own2
      rw [List.nil_append, ← Ds_snoc, Nat.zero_add] at hfin
      refine wpAnyH_take (i := 6) (oi := ⟨some 4, .assign (.tmp 10), _, _, _, none⟩) (v := v2) rfl (by kernel_rfl) (by kernel_rfl) (by kernel_rfl) (fun _ _ _ h => h) (Or.inl ⟨by rfl, fun _ _ => rfl⟩) hHeld ?_
      simp only [Act.put, List.setIfInBounds_toArray, List.set_cons_zero, List.set_cons_succ]
      refine wpAnyH_done (by kernel_rfl) ?_ _
      go_wp2
      obtain ⟨A2, c2, rfl, q1, q2, q3, q4⟩ := own_form hfin
      have hlen : (l ++ [d]).length = n + 1 := by rw [List.length_append, List.length_singleton, HLL.out]
      go_ret
      exact ⟨A2, c2, by rw [hlen]; rfl, by rw [hlen]; exact q1, q2, by rw [hlen]; exact q3, fun ad _ e => by have := (q4 ad e).1; omega, l1⟩
  · refine wp_build1 _ 31 _ rfl (U d).toArray i0 _ Tryd.underlying22 HI.out.hi HI.out.hz (by rw [HI.out.hs, List.size_toArray, U_length, HL.out]) (by rw [List.size_toArray, U_length, HL.out]; decide) (by rw [List.size_toArray, U_length, HL.out]; decide) rfl ?_
    refine hK.out _ _ (blk_at (gB.alloc _)) (fun hHeld => ?_)
    clear hK K'
    try simp only [Act.put, List.setIfInBounds_toArray, List.set_cons_zero, List.set_cons_succ]
    have gN : Blk (u0.alloc (.cells (U d).toArray 31)) u0.heap.size 31 (U d) := Blk.new _ _ _ _ rfl
    replace gB := gB.alloc (.cells (U d).toArray 31)
    replace l1 := l1.alloc (by omega) (.cells (U d).toArray 31)
    have hzN : u0.heap.size < (u0.alloc (.cells (U d).toArray 31)).heap.size := by simp
    replace hsz : w.heap.size + 1 ≤ (u0.alloc (.cells (U d).toArray 31)).heap.size := by omega
    generalize u0.alloc (.cells (U d).toArray 31) = u1 at gB gN l1 hzN hsz hHeld ⊢
    refine wpAnyH_ready (rs := [0]) (by kernel_rfl) (by simp) (AllReadyH.cons (o := ⟨some 5, .buildSlice 22 0 #[], _, _, _, none⟩) rfl (fun K' hK => ?_) (AllReadyH.nil))
    go_simp
    refine hK.out _ _ (blk_at (gB.alloc _)) (fun hHeld => ?_)
    clear hK K'
    try simp only [Act.put, List.setIfInBounds_toArray, List.set_cons_zero, List.set_cons_succ]
    have own0 := own_empty u1 (w.heap.size + 1) hsz
    have hv0 : ∀ k, (Value.slice (some ⟨u1.heap.size, 0, none⟩) 0 0).ownBlock = some k → k = u1.heap.size := fun k hk => by simpa [Value.ownBlock] using hk.symm
    replace gB := gB.alloc (.cells #[] 31)
    replace gN := gN.alloc (.cells #[] 31)
    replace l1 := l1.alloc (by omega) (.cells #[] 31)
    have hz0 : u1.heap.size < (u1.alloc (.cells #[] 31)).heap.size := by simp
    replace hsz : w.heap.size + 1 ≤ (u1.alloc (.cells #[] 31)).heap.size := by omega
    generalize u1.alloc (.cells #[] 31) = u2 at own0 gB gN l1 hz0 hsz hHeld ⊢
    refine wpAnyH_ready (rs := [2]) (by kernel_rfl) (by simp) (AllReadyH.cons (o := ⟨some 7, .call { callee := .builtin .append, args := #[.tmp 5, .tmp 6], argTypes := #[22, 22] }, _, _, _, none⟩) rfl (fun K' hK => ?_) (AllReadyH.nil))
    refine wp_app _ (.tmp 5) (.tmp 6) 22 rfl (w.heap.size + 1) 31 i0 _ 16 16 Tryd.underlying22 HI.out.hi HI.out.hz HI.out.hs HI.out.hb rfl (by decide) _ 0 [] rfl own0 A n c (Ds l) rfl (HS.out _ l1) (U_one _) (by unfold maxLen; omega) (by omega) hsz ?_
    intro v1 u3 own1 grow1
    have hr1 := fun k hk => (own0.lt k hk).1
    have gB' := gB.grown grow1 (fun e => by have := hr1 _ e.symm; omega)
    replace gN := gN.grown grow1 (fun e => by have := hv0 _ e.symm; omega)
    replace l1 := l1.grown grow1 (by omega) (fun k hk => by have := hr1 k hk; omega)
    replace hsz : w.heap.size + 1 ≤ u3.heap.size := Nat.le_trans hsz grow1.size
    refine hK.out _ _ (blk_at gB') (fun hHeld => ?_)
    clear hK K'
    try simp only [Act.put, List.setIfInBounds_toArray, List.set_cons_zero, List.set_cons_succ]
    replace gB := gB'
    clear gB' own0 hv0 hr1 grow1 hz0
    refine wpAnyH_ready (rs := [5]) (by kernel_rfl) (by simp) (AllReadyH.cons (o := ⟨some 10, .call { callee := .builtin .append, args := #[.tmp 7, .tmp 9], argTypes := #[22, 22] }, _, _, _, none⟩) rfl (fun K' hK => ?_) (AllReadyH.nil))
    refine wp_app _ (.tmp 7) (.tmp 9) 22 rfl (w.heap.size + 1) 31 i0 _ 16 16 Tryd.underlying22 HI.out.hi HI.out.hz HI.out.hs HI.out.hb rfl (by decide) _ (0 + n) ([] ++ Ds l) rfl own1 (some ⟨u0.heap.size, 0, none⟩) 1 1 (U d) rfl (blk_digs gN HL.out) (U_one _) (by unfold maxLen; omega) (by omega) hsz ?_
    intro v2 ue own2 grow2
    have hr2 := fun k hk => (own1.lt k hk).1
    have gB' := gB.grown grow2 (fun e => by have := hr2 _ e.symm; omega)
    replace l1 := l1.grown grow2 (by omega) (fun k hk => by have := hr2 k hk; omega)
    refine hK.out _ _ (blk_at gB') (fun hHeld => ?_)
    clear hK K'
    try simp only [Act.put, List.setIfInBounds_toArray, List.set_cons_zero, List.set_cons_succ]
    have hfin := own2
    rw [List.nil_append, ← Ds_snoc, Nat.zero_add] at hfin
    refine wpAnyH_take (i := 6) (oi := ⟨some 4, .assign (.tmp 10), _, _, _, none⟩) (v := v2) rfl (by kernel_rfl) (by kernel_rfl) (by kernel_rfl) (fun _ _ _ h => h) (Or.inl ⟨by rfl, fun _ _ => rfl⟩) hHeld ?_
    simp only [Act.put, List.setIfInBounds_toArray, List.set_cons_zero, List.set_cons_succ]
    refine wpAnyH_done (by kernel_rfl) ?_ _
    go_wp2
    obtain ⟨A2, c2, rfl, q1, q2, q3, q4⟩ := own_form hfin
    have hlen : (l ++ [d]).length = n + 1 := by rw [List.length_append, List.length_singleton, HLL.out]
    go_ret
    exact ⟨A2, c2, by rw [hlen]; rfl, by rw [hlen]; exact q1, q2, by rw [hlen]; exact q3, fun ad _ e => by have := (q4 ad e).1; omega, l1⟩
end Go.Proofs.YtaihfkcoiagdaabDoor

/-
  WALKS: the reference's inclusion.
-/
namespace Go.Proofs.YtaihfkcoiagdaabDoor
open Go.RowKit Go.ChangeShapes Go.WideShapes Go.ChangeAt

set_option maxRecDepth 100000 in
set_option maxHeartbeats 1000000 in
theorem refIncl_any (N : Nat) : ∀ (A : Option Addr) (n c i : Nat) (l : List Wm.Bs) (w : World), n ≤ N → i < n → Sl w 16 A n (Ds l) → isD l → n ≤ 4000000000000 → n ≤ c → c ≤ 9223372036854775807 → Tab0 w →
    Calls Tryd.prog 35 #[.slice A n c, .int .i64 i] w fun e w' => GotDs (Mk.incl nodeD emptyD l i) w e w' := by
  induction N with
  | zero => intro A n c i l w h1 h2; omega
  | succ N ih =>
    intro A n c i l w hN hi hs hl hbig hnc hc tab
    have hll := hs.dlen hl
    by_cases hn1 : n = 1
    · subst hn1
      rw [Mk.incl_small _ _ _ _ (by omega)]
      clear hs hl hll ih tab
      go_enter Tryd.func35, Tryd.ntmps35
      go_wp2_with fail
      go_ret
      exact ⟨none, 0, rfl, Nat.le_refl _, by decide, ⟨rfl, fun h => absurd h (by decide)⟩, fun _ h => absurd h (by decide), Below.refl _ _⟩
    · have h2 : 2 ≤ n := by omega
      obtain ⟨ad, rfl, _, _⟩ := hs.2 (by omega)
      have k1 := Mk.sp_lt h2
      have k0 := Mk.sp_pos n
      have hP := Lib.hid fun w' => refSplit_any n w' h2 (by omega)
      have hn1' : ((n : Int) == 1) = false := by rw [beq_eq_false_iff_ne]; omega
      by_cases hlt : i < Mk.sp n
      · rw [Mk.incl_left _ _ _ _ (by omega) (by rw [hll]; exact hlt), hll]
        have HF := Lib.hid fun (w' : World) (hw : Later w w') => ih (some ad) (Mk.sp n) c i (l.take (Mk.sp n)) w' (by omega) hlt ((hs.keep hw).dfront hl (by omega)) (isD_take hl _) (by omega) (by omega) hc (tab.keep hw)
        have HR := Lib.hid fun (w' : World) (hw : Later w w') => refRoot_any (n - Mk.sp n) _ (n - Mk.sp n) (c - Mk.sp n) (l.drop (Mk.sp n)) w' (Nat.le_refl _) ((hs.keep hw).dback hl (k := Mk.sp n) (c := c) (by omega) hnc) (isD_drop hl _) (by omega) (by omega) (by omega) (tab.keep hw)
        have hR := rootD_dig (isD_drop hl (Mk.sp n))
        have hlen := incl_len (l.take (Mk.sp n)) l.length i (by rw [List.length_take]; omega)
        have hJD := incl_isD _ (l.take (Mk.sp n)) i (Nat.le_refl _) (isD_take hl _)
        rw [List.length_take, hll] at hlen
        obtain ⟨R, hRe⟩ : ∃ R, R = rootD (l.drop (Mk.sp n)) := ⟨_, rfl⟩
        have hRe' : Mk.root nodeD emptyD (l.drop (Mk.sp n)) = R := hRe.symm
        rw [hRe']
        rw [← hRe] at HR hR
        obtain ⟨J, hJ⟩ : ∃ J, J = Mk.incl nodeD emptyD (l.take (Mk.sp n)) i := ⟨_, rfl⟩
        rw [← hJ] at HF hlen hJD ⊢
        obtain ⟨K, hK⟩ : ∃ K, K = Mk.sp n := ⟨_, rfl⟩
        rw [← hK] at HF HR hlt hP k1 k0 hlen
        have HW := Lib.hid fun (w' : World) (A2 : Option Addr) (c2 : Nat) (h : Sl w' 16 A2 J.length (Ds J)) => with_any A2 J.length c2 J R w' h hJD hR.1 (by omega)
        clear hK hJ hRe hRe' ih hs hl hll tab hJD hlen
        have z0 : (0 : Int) ≤ (K : Int) := by omega
        have z1 : (K : Int) ≤ (n : Int) := by omega
        have z2 : (K : Int) ≤ (c : Int) := by omega
        have z3 : (n : Int) ≤ (c : Int) := by omega
        have z9 : (i : Int) < (K : Int) := by omega
        go_enter Tryd.func35, Tryd.ntmps35
        go_wp2_with (go_at_call 40; refine (hP.out _).mono ?_; rintro e w1 ⟨rfl, rfl⟩)
        refine wp_region_held_drew (S := fun w' => True) (by kernel_rfl) trivial (fun hHeld => ?_)
        refine wpAnyH_take (i := 0) (oi := ⟨some 15, .move (.tmp 0), _, _, _, none⟩) (v := .slice (some ad) n c) rfl (by kernel_rfl) (by kernel_rfl) (by kernel_rfl) (fun _ _ _ h => h) (Or.inl ⟨by rfl, fun _ _ => rfl⟩) hHeld ?_
        simp only [Act.put, List.setIfInBounds_toArray, List.set_cons_zero, List.set_cons_succ]
        refine wpAnyH_take (i := 1) (oi := ⟨some 16, .move (.tmp 5), _, _, _, none⟩) (v := .int .i64 K) rfl (by kernel_rfl) (by kernel_rfl) (by kernel_rfl) (fun _ _ _ h => h) (Or.inl ⟨by rfl, fun _ _ => rfl⟩) hHeld ?_
        simp only [Act.put, List.setIfInBounds_toArray, List.set_cons_zero, List.set_cons_succ]
        refine wpAnyH_take (i := 2) (oi := ⟨some 17, .slice 22 (.tmp 15) none (some (.tmp 16)) none, _, _, _, none⟩) (v := .slice (some ad) K c) rfl (by kernel_rfl) (by kernel_rfl) (by kernel_rfl) (fun _ _ _ h => h) (Or.inl ⟨by rfl, fun w _ => by go_simp⟩) hHeld ?_
        simp only [Act.put, List.setIfInBounds_toArray, List.set_cons_zero, List.set_cons_succ]
        refine wpAnyH_take (i := 3) (oi := ⟨some 18, .move (.tmp 1), _, _, _, none⟩) (v := .int .i64 i) rfl (by kernel_rfl) (by kernel_rfl) (by kernel_rfl) (fun _ _ _ h => h) (Or.inl ⟨by rfl, fun _ _ => rfl⟩) hHeld ?_
        simp only [Act.put, List.setIfInBounds_toArray, List.set_cons_zero, List.set_cons_succ]
        refine wpAnyH_take (i := 5) (oi := ⟨some 20, .move (.tmp 0), _, _, _, none⟩) (v := .slice (some ad) n c) rfl (by kernel_rfl) (by kernel_rfl) (by kernel_rfl) (fun _ _ _ h => h) (Or.inl ⟨by rfl, fun _ _ => rfl⟩) hHeld ?_
        simp only [Act.put, List.setIfInBounds_toArray, List.set_cons_zero, List.set_cons_succ]
        refine wpAnyH_take (i := 6) (oi := ⟨some 21, .move (.tmp 5), _, _, _, none⟩) (v := .int .i64 K) rfl (by kernel_rfl) (by kernel_rfl) (by kernel_rfl) (fun _ _ _ h => h) (Or.inl ⟨by rfl, fun _ _ => rfl⟩) hHeld ?_
        simp only [Act.put, List.setIfInBounds_toArray, List.set_cons_zero, List.set_cons_succ]
        refine wpAnyH_take (i := 7) (oi := ⟨some 22, .slice 22 (.tmp 20) (some (.tmp 21)) none none, _, _, _, none⟩) (v := .slice (if c = K then some ad else some (ad.add (K * 16))) (n - K) (c - K)) rfl (by kernel_rfl) (by kernel_rfl) (by kernel_rfl) (fun _ _ _ h => h) (Or.inl ⟨by rfl, fun w _ => by by_cases hcq : c = K <;> go_simp⟩) hHeld ?_
        simp only [Act.put, List.setIfInBounds_toArray, List.set_cons_zero, List.set_cons_succ]
        refine wpAnyH_ready (rs := [4]) (by kernel_rfl) (by simp) (AllReadyH.cons (o := ⟨some 19, .call { callee := .value (.func 35), args := #[.tmp 17, .tmp 18], argTypes := #[22, 3] }, _, _, _, none⟩) rfl (fun K' hK => ?_) (AllReadyH.nil))
        go_simp
        refine (HF.out _ (Below.refl _ _).drew).mono ?_
        rintro e w2 ⟨A2, c2, rfl, _, _, s2, _, l2⟩
        have m2 := Later.trans_ (Below.refl w1.heap.size w1).drew l2
        refine hK.out _ _ trivial (fun hHeld => ?_)
        clear hK K'
        try simp only [Act.put, List.setIfInBounds_toArray, List.set_cons_zero, List.set_cons_succ]
        refine wpAnyH_ready (rs := [8]) (by kernel_rfl) (by simp) (AllReadyH.cons (o := ⟨some 23, .call { callee := .value (.func 16), args := #[.tmp 22], argTypes := #[22] }, _, _, _, none⟩) rfl (fun K' hK => ?_) (AllReadyH.nil))
        go_simp
        refine (HR.out _ m2).mono ?_
        rintro e w3 ⟨rfl, l3⟩
        have m3 := Later.trans_ m2 l3
        refine hK.out _ _ trivial (fun hHeld => ?_)
        clear hK K'
        try simp only [Act.put, List.setIfInBounds_toArray, List.set_cons_zero, List.set_cons_succ]
        refine wpAnyH_ready (rs := [9]) (by kernel_rfl) (by simp) (AllReadyH.cons (o := ⟨some 24, .call { callee := .value (.func 55), args := #[.tmp 19, .tmp 23], argTypes := #[22, 31] }, _, _, _, none⟩) rfl (fun K' hK => ?_) (AllReadyH.nil))
        go_simp
        refine (HW.out _ A2 c2 (s2.keep l3)).mono ?_
        rintro e w4 ⟨A4, c4, rfl, q1, q2, q3, q4, l4⟩
        refine hK.out _ _ trivial (fun hHeld => ?_)
        clear hK K'
        try simp only [Act.put, List.setIfInBounds_toArray, List.set_cons_zero, List.set_cons_succ]
        refine wpAnyH_take (i := 10) (oi := ⟨some 4, .assign (.tmp 24), _, _, _, none⟩) (v := .slice A4 (J ++ [R]).length c4) rfl (by kernel_rfl) (by kernel_rfl) (by kernel_rfl) (fun _ _ _ h => h) (Or.inl ⟨by rfl, fun _ _ => rfl⟩) hHeld ?_
        simp only [Act.put, List.setIfInBounds_toArray, List.set_cons_zero, List.set_cons_succ]
        refine wpAnyH_done (by kernel_rfl) ?_ _
        obtain ⟨ln, hln⟩ : ∃ ln, ln = (J ++ [R]).length := ⟨_, rfl⟩
        have HE := Lib.hid hln
        rw [← hln] at q1 q3 ⊢
        clear hln
        go_wp2
        all_goals go_ret
        all_goals exact ⟨A4, c4, by rw [← HE.out]; rfl, by rw [← HE.out]; exact q1, q2, by rw [← HE.out]; exact q3, fun ad _ e => Nat.le_trans m3.size (q4 ad (by simp) e), Later.trans_ m3 l4⟩
      · rw [Mk.incl_right _ _ _ _ (by omega) (by rw [hll]; exact hlt), hll]
        have HF := Lib.hid fun (w' : World) (hw : Later w w') => ih _ (n - Mk.sp n) (c - Mk.sp n) (i - Mk.sp n) (l.drop (Mk.sp n)) w' (by omega) (by omega) ((hs.keep hw).dback hl (k := Mk.sp n) (c := c) (by omega) hnc) (isD_drop hl _) (by omega) (by omega) (by omega) (tab.keep hw)
        have HR := Lib.hid fun (w' : World) (hw : Later w w') => refRoot_any (Mk.sp n) (some ad) (Mk.sp n) c (l.take (Mk.sp n)) w' (Nat.le_refl _) ((hs.keep hw).dfront hl (by omega)) (isD_take hl _) (by omega) (by omega) hc (tab.keep hw)
        have hR := rootD_dig (isD_take hl (Mk.sp n))
        have hlen := incl_len (l.drop (Mk.sp n)) l.length (i - Mk.sp n) (by rw [List.length_drop]; omega)
        have hJD := incl_isD _ (l.drop (Mk.sp n)) (i - Mk.sp n) (Nat.le_refl _) (isD_drop hl _)
        rw [List.length_drop, hll] at hlen
        obtain ⟨R, hRe⟩ : ∃ R, R = rootD (l.take (Mk.sp n)) := ⟨_, rfl⟩
        have hRe' : Mk.root nodeD emptyD (l.take (Mk.sp n)) = R := hRe.symm
        rw [hRe']
        rw [← hRe] at HR hR
        obtain ⟨J, hJ⟩ : ∃ J, J = Mk.incl nodeD emptyD (l.drop (Mk.sp n)) (i - Mk.sp n) := ⟨_, rfl⟩
        rw [← hJ] at HF hlen hJD ⊢
        obtain ⟨K, hK⟩ : ∃ K, K = Mk.sp n := ⟨_, rfl⟩
        rw [← hK] at HF HR hlt hP k1 k0 hlen
        have HW := Lib.hid fun (w' : World) (A2 : Option Addr) (c2 : Nat) (h : Sl w' 16 A2 J.length (Ds J)) => with_any A2 J.length c2 J R w' h hJD hR.1 (by omega)
        clear hK hJ hRe hRe' ih hs hl hll tab hJD hlen
        have z0 : (0 : Int) ≤ (K : Int) := by omega
        have z1 : (K : Int) ≤ (n : Int) := by omega
        have z2 : (K : Int) ≤ (c : Int) := by omega
        have z3 : (n : Int) ≤ (c : Int) := by omega
        have z9 : ¬ (i : Int) < (K : Int) := by omega
        have z8 : (K : Int) ≤ (i : Int) := by omega
        have z7 : IntKind.i64.wrap ((i : Int) - (K : Int)) = (i : Int) - (K : Int) := IntWalk.i64_in _ (by omega)
        rw [show ((i - K : Nat) : Int) = (i : Int) - (K : Int) by omega] at HF
        go_enter Tryd.func35, Tryd.ntmps35
        go_wp2_with (go_at_call 40; refine (hP.out _).mono ?_; rintro e w1 ⟨rfl, rfl⟩)
        refine wp_region_held_drew (S := fun w' => True) (by kernel_rfl) trivial (fun hHeld => ?_)
        refine wpAnyH_take (i := 0) (oi := ⟨some 25, .move (.tmp 0), _, _, _, none⟩) (v := .slice (some ad) n c) rfl (by kernel_rfl) (by kernel_rfl) (by kernel_rfl) (fun _ _ _ h => h) (Or.inl ⟨by rfl, fun _ _ => rfl⟩) hHeld ?_
        simp only [Act.put, List.setIfInBounds_toArray, List.set_cons_zero, List.set_cons_succ]
        refine wpAnyH_take (i := 1) (oi := ⟨some 26, .move (.tmp 5), _, _, _, none⟩) (v := .int .i64 K) rfl (by kernel_rfl) (by kernel_rfl) (by kernel_rfl) (fun _ _ _ h => h) (Or.inl ⟨by rfl, fun _ _ => rfl⟩) hHeld ?_
        simp only [Act.put, List.setIfInBounds_toArray, List.set_cons_zero, List.set_cons_succ]
        refine wpAnyH_take (i := 2) (oi := ⟨some 27, .slice 22 (.tmp 25) (some (.tmp 26)) none none, _, _, _, none⟩) (v := .slice (if c = K then some ad else some (ad.add (K * 16))) (n - K) (c - K)) rfl (by kernel_rfl) (by kernel_rfl) (by kernel_rfl) (fun _ _ _ h => h) (Or.inl ⟨by rfl, fun w _ => by by_cases hcq : c = K <;> go_simp⟩) hHeld ?_
        simp only [Act.put, List.setIfInBounds_toArray, List.set_cons_zero, List.set_cons_succ]
        refine wpAnyH_take (i := 3) (oi := ⟨some 28, .move (.tmp 1), _, _, _, none⟩) (v := .int .i64 i) rfl (by kernel_rfl) (by kernel_rfl) (by kernel_rfl) (fun _ _ _ h => h) (Or.inl ⟨by rfl, fun _ _ => rfl⟩) hHeld ?_
        simp only [Act.put, List.setIfInBounds_toArray, List.set_cons_zero, List.set_cons_succ]
        refine wpAnyH_take (i := 4) (oi := ⟨some 29, .move (.tmp 5), _, _, _, none⟩) (v := .int .i64 K) rfl (by kernel_rfl) (by kernel_rfl) (by kernel_rfl) (fun _ _ _ h => h) (Or.inl ⟨by rfl, fun _ _ => rfl⟩) hHeld ?_
        simp only [Act.put, List.setIfInBounds_toArray, List.set_cons_zero, List.set_cons_succ]
        refine wpAnyH_take (i := 5) (oi := ⟨some 30, .binOp .sub 3 (.tmp 28) (.tmp 29) 3, _, _, _, none⟩) (v := .int .i64 ((i : Int) - (K : Int))) rfl (by kernel_rfl) (by kernel_rfl) (by kernel_rfl) (fun _ _ _ h => h) (Or.inl ⟨by rfl, fun w _ => by go_simp⟩) hHeld ?_
        simp only [Act.put, List.setIfInBounds_toArray, List.set_cons_zero, List.set_cons_succ]
        refine wpAnyH_take (i := 7) (oi := ⟨some 32, .move (.tmp 0), _, _, _, none⟩) (v := .slice (some ad) n c) rfl (by kernel_rfl) (by kernel_rfl) (by kernel_rfl) (fun _ _ _ h => h) (Or.inl ⟨by rfl, fun _ _ => rfl⟩) hHeld ?_
        simp only [Act.put, List.setIfInBounds_toArray, List.set_cons_zero, List.set_cons_succ]
        refine wpAnyH_take (i := 8) (oi := ⟨some 33, .move (.tmp 5), _, _, _, none⟩) (v := .int .i64 K) rfl (by kernel_rfl) (by kernel_rfl) (by kernel_rfl) (fun _ _ _ h => h) (Or.inl ⟨by rfl, fun _ _ => rfl⟩) hHeld ?_
        simp only [Act.put, List.setIfInBounds_toArray, List.set_cons_zero, List.set_cons_succ]
        refine wpAnyH_take (i := 9) (oi := ⟨some 34, .slice 22 (.tmp 32) none (some (.tmp 33)) none, _, _, _, none⟩) (v := .slice (some ad) K c) rfl (by kernel_rfl) (by kernel_rfl) (by kernel_rfl) (fun _ _ _ h => h) (Or.inl ⟨by rfl, fun w _ => by go_simp⟩) hHeld ?_
        simp only [Act.put, List.setIfInBounds_toArray, List.set_cons_zero, List.set_cons_succ]
        refine wpAnyH_ready (rs := [6]) (by kernel_rfl) (by simp) (AllReadyH.cons (o := ⟨some 31, .call { callee := .value (.func 35), args := #[.tmp 27, .tmp 30], argTypes := #[22, 3] }, _, _, _, none⟩) rfl (fun K' hK => ?_) (AllReadyH.nil))
        go_simp
        refine (HF.out _ (Below.refl _ _).drew).mono ?_
        rintro e w2 ⟨A2, c2, rfl, _, _, s2, _, l2⟩
        have m2 := Later.trans_ (Below.refl w1.heap.size w1).drew l2
        refine hK.out _ _ trivial (fun hHeld => ?_)
        clear hK K'
        try simp only [Act.put, List.setIfInBounds_toArray, List.set_cons_zero, List.set_cons_succ]
        refine wpAnyH_ready (rs := [10]) (by kernel_rfl) (by simp) (AllReadyH.cons (o := ⟨some 35, .call { callee := .value (.func 16), args := #[.tmp 34], argTypes := #[22] }, _, _, _, none⟩) rfl (fun K' hK => ?_) (AllReadyH.nil))
        go_simp
        refine (HR.out _ m2).mono ?_
        rintro e w3 ⟨rfl, l3⟩
        have m3 := Later.trans_ m2 l3
        refine hK.out _ _ trivial (fun hHeld => ?_)
        clear hK K'
        try simp only [Act.put, List.setIfInBounds_toArray, List.set_cons_zero, List.set_cons_succ]
        refine wpAnyH_ready (rs := [11]) (by kernel_rfl) (by simp) (AllReadyH.cons (o := ⟨some 36, .call { callee := .value (.func 55), args := #[.tmp 31, .tmp 35], argTypes := #[22, 31] }, _, _, _, none⟩) rfl (fun K' hK => ?_) (AllReadyH.nil))
        go_simp
        refine (HW.out _ A2 c2 (s2.keep l3)).mono ?_
        rintro e w4 ⟨A4, c4, rfl, q1, q2, q3, q4, l4⟩
        refine hK.out _ _ trivial (fun hHeld => ?_)
        clear hK K'
        try simp only [Act.put, List.setIfInBounds_toArray, List.set_cons_zero, List.set_cons_succ]
        refine wpAnyH_take (i := 12) (oi := ⟨some 4, .assign (.tmp 36), _, _, _, none⟩) (v := .slice A4 (J ++ [R]).length c4) rfl (by kernel_rfl) (by kernel_rfl) (by kernel_rfl) (fun _ _ _ h => h) (Or.inl ⟨by rfl, fun _ _ => rfl⟩) hHeld ?_
        simp only [Act.put, List.setIfInBounds_toArray, List.set_cons_zero, List.set_cons_succ]
        refine wpAnyH_done (by kernel_rfl) ?_ _
        obtain ⟨ln, hln⟩ : ∃ ln, ln = (J ++ [R]).length := ⟨_, rfl⟩
        have HE := Lib.hid hln
        rw [← hln] at q1 q3 ⊢
        clear hln
        go_wp2
        all_goals go_ret
        all_goals exact ⟨A4, c4, by rw [← HE.out]; rfl, by rw [← HE.out]; exact q1, q2, by rw [← HE.out]; exact q3, fun ad _ e => Nat.le_trans m3.size (q4 ad (by simp) e), Later.trans_ m3 l4⟩
end Go.Proofs.YtaihfkcoiagdaabDoor

/-
  WALKS: the reference's consistency.
-/
namespace Go.Proofs.YtaihfkcoiagdaabDoor
open Go.RowKit Go.ChangeShapes Go.WideShapes Go.ChangeAt

theorem wpList_buildOne {P : Program} {ops : Array Oper} {rest : List Oper} {o : Oper} {a : Act} {w : World} {Q : Exit → Act → World → Prop} (hg : o.guard = none) (t e : TypeId) (x : Operand) (ho : o.op = .buildSlice t 1 #[(0, x)])
    (X : Array Value) (ie : TypeInfo) (z : Value) (hu : P.underlying t = some (.slice e)) (hie : P.info? e = some ie) (hz : ie.zero = some z) (hs : ie.size = X.size) (hpos : 0 < X.size) (hsm : X.size ≤ 16777216)
    (hx : a.eval x = .agg X) (h : wpList P ops Q rest (a.put o.dst (.slice (some ⟨w.heap.size, 0, none⟩) 1 1)) (w.alloc (.cells X e))) : wpList P ops Q (o :: rest) a w :=
  wpList_plain hg fun _ hK => wp_build1 t e x ho X ie z hu hie hz hs hpos hsm hx (hK _ _ h)

set_option maxRecDepth 100000 in
set_option maxHeartbeats 1000000 in
theorem refCons_any (N : Nat) : ∀ (A : Option Addr) (n c m : Nat) (mark : Bool) (l : List Wm.Bs) (w : World), n ≤ N → 1 ≤ m → m ≤ n → Sl w 16 A n (Ds l) → isD l → n ≤ 4000000000000 → n ≤ c → c ≤ 9223372036854775807 → Tab0 w →
    Calls Tryd.prog 36 #[.slice A n c, .int .i64 m, .bool mark] w fun e w' => GotDs (Mk.cons nodeD emptyD l m mark) w e w' := by
  induction N with
  | zero => intro A n c m mark l w h1 h2; omega
  | succ N ih =>
    intro A n c m mark l w hN hm1 hmn hs hl hbig hnc hc tab
    have hll := hs.dlen hl
    by_cases he : m = n
    · subst he
      have e1 : Mk.cons nodeD emptyD l m mark = if mark then [] else [rootD l] := by
        have h := Mk.cons_all nodeD emptyD l mark
        rw [hll] at h; exact h
      rw [e1]
      cases mark with
      | true =>
        rw [if_pos rfl]
        clear hs hl hll ih tab e1
        go_enter Tryd.func36, Tryd.ntmps36
        go_wp2_with fail
        go_ret
        exact ⟨none, 0, rfl, Nat.le_refl _, by decide, ⟨rfl, fun h => absurd h (by decide)⟩, fun _ h => absurd h (by decide), Below.refl _ _⟩
      | false =>
        rw [if_neg (by decide)]
        have HR := Lib.hid fun (w' : World) (hw : Later w w') => refRoot_any m A m c l w' (Nat.le_refl _) (hs.keep hw) hl (by omega) hnc hc (tab.keep hw)
        have hR := rootD_dig hl
        obtain ⟨R, hRe⟩ : ∃ R, R = rootD l := ⟨_, rfl⟩
        rw [← hRe] at HR hR ⊢
        have HRl := Lib.hid hR.1
        obtain ⟨i0, hI⟩ := dgI
        have HI := Lib.hid hI
        clear hI hRe hR hs hl hll ih tab e1
        go_enter Tryd.func36, Tryd.ntmps36
        go_wp2_with (first
          | (go_at_call 16; refine (HR.out _ (Below.refl _ _)).mono ?_; rintro e w1 ⟨rfl, l1⟩)
          | ((with_reducible refine wpList_buildOne (o := ⟨some 15, .buildSlice 22 1 #[(0, .tmp 14)], _, _, _, none⟩) rfl _ _ _ rfl (U R).toArray i0 _ Tryd.underlying22 HI.out.hi HI.out.hz ?_ ?_ ?_ ?_ ?_); (rw [HI.out.hs, List.size_toArray, U_length, HRl.out]); (rw [List.size_toArray, U_length, HRl.out]; decide); (rw [List.size_toArray, U_length, HRl.out]; decide); rfl))
        go_ret
        have s1 := blk_digs (Blk.new w1 31 (U R).toArray (U R) rfl) HRl.out
        exact ⟨some ⟨w1.heap.size, 0, none⟩, 1, rfl, Nat.le_refl _, by decide, by simpa [Ds] using s1, fun ad _ e => by cases e; exact l1.size, l1.alloc l1.size _⟩
    · have h2 : 2 ≤ n := by omega
      obtain ⟨ad, rfl, _, _⟩ := hs.2 (by omega)
      have k1 := Mk.sp_lt h2
      have k0 := Mk.sp_pos n
      have hP := Lib.hid fun w' => refSplit_any n w' h2 (by omega)
      have hn1' : ((m : Int) == (n : Int)) = false := by rw [beq_eq_false_iff_ne]; omega
      by_cases hlt : m ≤ Mk.sp n
      · rw [Mk.cons_left _ _ _ _ _ (by omega) (by rw [hll]; exact he) (by rw [hll]; exact hlt), hll]
        have HF := Lib.hid fun (w' : World) (hw : Later w w') => ih (some ad) (Mk.sp n) c m mark (l.take (Mk.sp n)) w' (by omega) hm1 hlt ((hs.keep hw).dfront hl (by omega)) (isD_take hl _) (by omega) (by omega) hc (tab.keep hw)
        have HR := Lib.hid fun (w' : World) (hw : Later w w') => refRoot_any (n - Mk.sp n) _ (n - Mk.sp n) (c - Mk.sp n) (l.drop (Mk.sp n)) w' (Nat.le_refl _) ((hs.keep hw).dback hl (k := Mk.sp n) (c := c) (by omega) hnc) (isD_drop hl _) (by omega) (by omega) (by omega) (tab.keep hw)
        have hR := rootD_dig (isD_drop hl (Mk.sp n))
        have hlen := cons_len (l.take (Mk.sp n)) l.length m mark (by rw [List.length_take]; omega) hm1 (by rw [List.length_take, hll]; omega)
        have hJD := cons_isD _ (l.take (Mk.sp n)) m mark (Nat.le_refl _) (isD_take hl _)
        rw [List.length_take, hll] at hlen
        obtain ⟨R, hRe⟩ : ∃ R, R = rootD (l.drop (Mk.sp n)) := ⟨_, rfl⟩
        have hRe' : Mk.root nodeD emptyD (l.drop (Mk.sp n)) = R := hRe.symm
        rw [hRe']
        rw [← hRe] at HR hR
        obtain ⟨J, hJ⟩ : ∃ J, J = Mk.cons nodeD emptyD (l.take (Mk.sp n)) m mark := ⟨_, rfl⟩
        rw [← hJ] at HF hlen hJD ⊢
        obtain ⟨K, hK⟩ : ∃ K, K = Mk.sp n := ⟨_, rfl⟩
        rw [← hK] at HF HR hlt hP k1 k0 hlen
        have HW := Lib.hid fun (w' : World) (A2 : Option Addr) (c2 : Nat) (h : Sl w' 16 A2 J.length (Ds J)) => with_any A2 J.length c2 J R w' h hJD hR.1 (by omega)
        clear hK hJ hRe hRe' ih hs hl hll tab hJD hlen
        have z0 : (0 : Int) ≤ (K : Int) := by omega
        have z1 : (K : Int) ≤ (n : Int) := by omega
        have z2 : (K : Int) ≤ (c : Int) := by omega
        have z3 : (n : Int) ≤ (c : Int) := by omega
        have z9 : (m : Int) ≤ (K : Int) := by omega
        go_enter Tryd.func36, Tryd.ntmps36
        go_wp2_with (go_at_call 40; refine (hP.out _).mono ?_; rintro e w1 ⟨rfl, rfl⟩)
        refine wp_region_held_drew (S := fun w' => True) (by kernel_rfl) trivial (fun hHeld => ?_)
        refine wpAnyH_take (i := 0) (oi := ⟨some 22, .move (.tmp 0), _, _, _, none⟩) (v := .slice (some ad) n c) rfl (by kernel_rfl) (by kernel_rfl) (by kernel_rfl) (fun _ _ _ h => h) (Or.inl ⟨by rfl, fun _ _ => rfl⟩) hHeld ?_
        simp only [Act.put, List.setIfInBounds_toArray, List.set_cons_zero, List.set_cons_succ]
        refine wpAnyH_take (i := 1) (oi := ⟨some 23, .move (.tmp 7), _, _, _, none⟩) (v := .int .i64 K) rfl (by kernel_rfl) (by kernel_rfl) (by kernel_rfl) (fun _ _ _ h => h) (Or.inl ⟨by rfl, fun _ _ => rfl⟩) hHeld ?_
        simp only [Act.put, List.setIfInBounds_toArray, List.set_cons_zero, List.set_cons_succ]
        refine wpAnyH_take (i := 2) (oi := ⟨some 24, .slice 22 (.tmp 22) none (some (.tmp 23)) none, _, _, _, none⟩) (v := .slice (some ad) K c) rfl (by kernel_rfl) (by kernel_rfl) (by kernel_rfl) (fun _ _ _ h => h) (Or.inl ⟨by rfl, fun w _ => by go_simp⟩) hHeld ?_
        simp only [Act.put, List.setIfInBounds_toArray, List.set_cons_zero, List.set_cons_succ]
        refine wpAnyH_take (i := 3) (oi := ⟨some 25, .move (.tmp 1), _, _, _, none⟩) (v := .int .i64 m) rfl (by kernel_rfl) (by kernel_rfl) (by kernel_rfl) (fun _ _ _ h => h) (Or.inl ⟨by rfl, fun _ _ => rfl⟩) hHeld ?_
        simp only [Act.put, List.setIfInBounds_toArray, List.set_cons_zero, List.set_cons_succ]
        refine wpAnyH_take (i := 4) (oi := ⟨some 26, .move (.tmp 2), _, _, _, none⟩) (v := .bool mark) rfl (by kernel_rfl) (by kernel_rfl) (by kernel_rfl) (fun _ _ _ h => h) (Or.inl ⟨by rfl, fun _ _ => rfl⟩) hHeld ?_
        simp only [Act.put, List.setIfInBounds_toArray, List.set_cons_zero, List.set_cons_succ]
        refine wpAnyH_take (i := 6) (oi := ⟨some 28, .move (.tmp 0), _, _, _, none⟩) (v := .slice (some ad) n c) rfl (by kernel_rfl) (by kernel_rfl) (by kernel_rfl) (fun _ _ _ h => h) (Or.inl ⟨by rfl, fun _ _ => rfl⟩) hHeld ?_
        simp only [Act.put, List.setIfInBounds_toArray, List.set_cons_zero, List.set_cons_succ]
        refine wpAnyH_take (i := 7) (oi := ⟨some 29, .move (.tmp 7), _, _, _, none⟩) (v := .int .i64 K) rfl (by kernel_rfl) (by kernel_rfl) (by kernel_rfl) (fun _ _ _ h => h) (Or.inl ⟨by rfl, fun _ _ => rfl⟩) hHeld ?_
        simp only [Act.put, List.setIfInBounds_toArray, List.set_cons_zero, List.set_cons_succ]
        refine wpAnyH_take (i := 8) (oi := ⟨some 30, .slice 22 (.tmp 28) (some (.tmp 29)) none none, _, _, _, none⟩) (v := .slice (if c = K then some ad else some (ad.add (K * 16))) (n - K) (c - K)) rfl (by kernel_rfl) (by kernel_rfl) (by kernel_rfl) (fun _ _ _ h => h) (Or.inl ⟨by rfl, fun w _ => by by_cases hcq : c = K <;> go_simp⟩) hHeld ?_
        simp only [Act.put, List.setIfInBounds_toArray, List.set_cons_zero, List.set_cons_succ]
        refine wpAnyH_ready (rs := [5]) (by kernel_rfl) (by simp) (AllReadyH.cons (o := ⟨some 27, .call { callee := .value (.func 36), args := #[.tmp 24, .tmp 25, .tmp 26], argTypes := #[22, 3, 4] }, _, _, _, none⟩) rfl (fun K' hK => ?_) (AllReadyH.nil))
        go_simp
        refine (HF.out _ (Below.refl _ _).drew).mono ?_
        rintro e w2 ⟨A2, c2, rfl, _, _, s2, _, l2⟩
        have m2 := Later.trans_ (Below.refl w1.heap.size w1).drew l2
        refine hK.out _ _ trivial (fun hHeld => ?_)
        clear hK K'
        try simp only [Act.put, List.setIfInBounds_toArray, List.set_cons_zero, List.set_cons_succ]
        refine wpAnyH_ready (rs := [9]) (by kernel_rfl) (by simp) (AllReadyH.cons (o := ⟨some 31, .call { callee := .value (.func 16), args := #[.tmp 30], argTypes := #[22] }, _, _, _, none⟩) rfl (fun K' hK => ?_) (AllReadyH.nil))
        go_simp
        refine (HR.out _ m2).mono ?_
        rintro e w3 ⟨rfl, l3⟩
        have m3 := Later.trans_ m2 l3
        refine hK.out _ _ trivial (fun hHeld => ?_)
        clear hK K'
        try simp only [Act.put, List.setIfInBounds_toArray, List.set_cons_zero, List.set_cons_succ]
        refine wpAnyH_ready (rs := [10]) (by kernel_rfl) (by simp) (AllReadyH.cons (o := ⟨some 32, .call { callee := .value (.func 55), args := #[.tmp 27, .tmp 31], argTypes := #[22, 31] }, _, _, _, none⟩) rfl (fun K' hK => ?_) (AllReadyH.nil))
        go_simp
        refine (HW.out _ A2 c2 (s2.keep l3)).mono ?_
        rintro e w4 ⟨A4, c4, rfl, q1, q2, q3, q4, l4⟩
        refine hK.out _ _ trivial (fun hHeld => ?_)
        clear hK K'
        try simp only [Act.put, List.setIfInBounds_toArray, List.set_cons_zero, List.set_cons_succ]
        refine wpAnyH_take (i := 11) (oi := ⟨some 6, .assign (.tmp 32), _, _, _, none⟩) (v := .slice A4 (J ++ [R]).length c4) rfl (by kernel_rfl) (by kernel_rfl) (by kernel_rfl) (fun _ _ _ h => h) (Or.inl ⟨by rfl, fun _ _ => rfl⟩) hHeld ?_
        simp only [Act.put, List.setIfInBounds_toArray, List.set_cons_zero, List.set_cons_succ]
        refine wpAnyH_done (by kernel_rfl) ?_ _
        obtain ⟨ln, hln⟩ : ∃ ln, ln = (J ++ [R]).length := ⟨_, rfl⟩
        have HE := Lib.hid hln
        rw [← hln] at q1 q3 ⊢
        clear hln
        go_wp2
        all_goals go_ret
        all_goals exact ⟨A4, c4, by rw [← HE.out]; rfl, by rw [← HE.out]; exact q1, q2, by rw [← HE.out]; exact q3, fun ad _ e => Nat.le_trans m3.size (q4 ad (by simp) e), Later.trans_ m3 l4⟩
      · rw [Mk.cons_right _ _ _ _ _ (by omega) (by rw [hll]; exact he) (by rw [hll]; exact hlt), hll]
        have HF := Lib.hid fun (w' : World) (hw : Later w w') => ih _ (n - Mk.sp n) (c - Mk.sp n) (m - Mk.sp n) false (l.drop (Mk.sp n)) w' (by omega) (by omega) (by omega) ((hs.keep hw).dback hl (k := Mk.sp n) (c := c) (by omega) hnc) (isD_drop hl _) (by omega) (by omega) (by omega) (tab.keep hw)
        have HR := Lib.hid fun (w' : World) (hw : Later w w') => refRoot_any (Mk.sp n) (some ad) (Mk.sp n) c (l.take (Mk.sp n)) w' (Nat.le_refl _) ((hs.keep hw).dfront hl (by omega)) (isD_take hl _) (by omega) (by omega) hc (tab.keep hw)
        have hR := rootD_dig (isD_take hl (Mk.sp n))
        have hlen := cons_len (l.drop (Mk.sp n)) l.length (m - Mk.sp n) false (by rw [List.length_drop]; omega) (by omega) (by rw [List.length_drop, hll]; omega)
        have hJD := cons_isD _ (l.drop (Mk.sp n)) (m - Mk.sp n) false (Nat.le_refl _) (isD_drop hl _)
        rw [List.length_drop, hll] at hlen
        obtain ⟨R, hRe⟩ : ∃ R, R = rootD (l.take (Mk.sp n)) := ⟨_, rfl⟩
        have hRe' : Mk.root nodeD emptyD (l.take (Mk.sp n)) = R := hRe.symm
        rw [hRe']
        rw [← hRe] at HR hR
        obtain ⟨J, hJ⟩ : ∃ J, J = Mk.cons nodeD emptyD (l.drop (Mk.sp n)) (m - Mk.sp n) false := ⟨_, rfl⟩
        rw [← hJ] at HF hlen hJD ⊢
        obtain ⟨K, hK⟩ : ∃ K, K = Mk.sp n := ⟨_, rfl⟩
        rw [← hK] at HF HR hlt hP k1 k0 hlen
        have HW := Lib.hid fun (w' : World) (A2 : Option Addr) (c2 : Nat) (h : Sl w' 16 A2 J.length (Ds J)) => with_any A2 J.length c2 J R w' h hJD hR.1 (by omega)
        clear hK hJ hRe hRe' ih hs hl hll tab hJD hlen
        have z0 : (0 : Int) ≤ (K : Int) := by omega
        have z1 : (K : Int) ≤ (n : Int) := by omega
        have z2 : (K : Int) ≤ (c : Int) := by omega
        have z3 : (n : Int) ≤ (c : Int) := by omega
        have z9 : ¬ (m : Int) ≤ (K : Int) := by omega
        have z8 : (K : Int) ≤ (m : Int) := by omega
        have z7 : IntKind.i64.wrap ((m : Int) - (K : Int)) = (m : Int) - (K : Int) := IntWalk.i64_in _ (by omega)
        rw [show ((m - K : Nat) : Int) = (m : Int) - (K : Int) by omega] at HF
        go_enter Tryd.func36, Tryd.ntmps36
        go_wp2_with (go_at_call 40; refine (hP.out _).mono ?_; rintro e w1 ⟨rfl, rfl⟩)
        refine wp_region_held_drew (S := fun w' => True) (by kernel_rfl) trivial (fun hHeld => ?_)
        refine wpAnyH_take (i := 0) (oi := ⟨some 33, .move (.tmp 0), _, _, _, none⟩) (v := .slice (some ad) n c) rfl (by kernel_rfl) (by kernel_rfl) (by kernel_rfl) (fun _ _ _ h => h) (Or.inl ⟨by rfl, fun _ _ => rfl⟩) hHeld ?_
        simp only [Act.put, List.setIfInBounds_toArray, List.set_cons_zero, List.set_cons_succ]
        refine wpAnyH_take (i := 1) (oi := ⟨some 34, .move (.tmp 7), _, _, _, none⟩) (v := .int .i64 K) rfl (by kernel_rfl) (by kernel_rfl) (by kernel_rfl) (fun _ _ _ h => h) (Or.inl ⟨by rfl, fun _ _ => rfl⟩) hHeld ?_
        simp only [Act.put, List.setIfInBounds_toArray, List.set_cons_zero, List.set_cons_succ]
        refine wpAnyH_take (i := 2) (oi := ⟨some 35, .slice 22 (.tmp 33) (some (.tmp 34)) none none, _, _, _, none⟩) (v := .slice (if c = K then some ad else some (ad.add (K * 16))) (n - K) (c - K)) rfl (by kernel_rfl) (by kernel_rfl) (by kernel_rfl) (fun _ _ _ h => h) (Or.inl ⟨by rfl, fun w _ => by by_cases hcq : c = K <;> go_simp⟩) hHeld ?_
        simp only [Act.put, List.setIfInBounds_toArray, List.set_cons_zero, List.set_cons_succ]
        refine wpAnyH_take (i := 3) (oi := ⟨some 36, .move (.tmp 1), _, _, _, none⟩) (v := .int .i64 m) rfl (by kernel_rfl) (by kernel_rfl) (by kernel_rfl) (fun _ _ _ h => h) (Or.inl ⟨by rfl, fun _ _ => rfl⟩) hHeld ?_
        simp only [Act.put, List.setIfInBounds_toArray, List.set_cons_zero, List.set_cons_succ]
        refine wpAnyH_take (i := 4) (oi := ⟨some 37, .move (.tmp 7), _, _, _, none⟩) (v := .int .i64 K) rfl (by kernel_rfl) (by kernel_rfl) (by kernel_rfl) (fun _ _ _ h => h) (Or.inl ⟨by rfl, fun _ _ => rfl⟩) hHeld ?_
        simp only [Act.put, List.setIfInBounds_toArray, List.set_cons_zero, List.set_cons_succ]
        refine wpAnyH_take (i := 5) (oi := ⟨some 38, .binOp .sub 3 (.tmp 36) (.tmp 37) 3, _, _, _, none⟩) (v := .int .i64 ((m : Int) - (K : Int))) rfl (by kernel_rfl) (by kernel_rfl) (by kernel_rfl) (fun _ _ _ h => h) (Or.inl ⟨by rfl, fun w _ => by go_simp⟩) hHeld ?_
        simp only [Act.put, List.setIfInBounds_toArray, List.set_cons_zero, List.set_cons_succ]
        refine wpAnyH_take (i := 7) (oi := ⟨some 40, .move (.tmp 0), _, _, _, none⟩) (v := .slice (some ad) n c) rfl (by kernel_rfl) (by kernel_rfl) (by kernel_rfl) (fun _ _ _ h => h) (Or.inl ⟨by rfl, fun _ _ => rfl⟩) hHeld ?_
        simp only [Act.put, List.setIfInBounds_toArray, List.set_cons_zero, List.set_cons_succ]
        refine wpAnyH_take (i := 8) (oi := ⟨some 41, .move (.tmp 7), _, _, _, none⟩) (v := .int .i64 K) rfl (by kernel_rfl) (by kernel_rfl) (by kernel_rfl) (fun _ _ _ h => h) (Or.inl ⟨by rfl, fun _ _ => rfl⟩) hHeld ?_
        simp only [Act.put, List.setIfInBounds_toArray, List.set_cons_zero, List.set_cons_succ]
        refine wpAnyH_take (i := 9) (oi := ⟨some 42, .slice 22 (.tmp 40) none (some (.tmp 41)) none, _, _, _, none⟩) (v := .slice (some ad) K c) rfl (by kernel_rfl) (by kernel_rfl) (by kernel_rfl) (fun _ _ _ h => h) (Or.inl ⟨by rfl, fun w _ => by go_simp⟩) hHeld ?_
        simp only [Act.put, List.setIfInBounds_toArray, List.set_cons_zero, List.set_cons_succ]
        refine wpAnyH_ready (rs := [6]) (by kernel_rfl) (by simp) (AllReadyH.cons (o := ⟨some 39, .call { callee := .value (.func 36), args := #[.tmp 35, .tmp 38, .const (.bool false)], argTypes := #[22, 3, 4] }, _, _, _, none⟩) rfl (fun K' hK => ?_) (AllReadyH.nil))
        go_simp
        refine (HF.out _ (Below.refl _ _).drew).mono ?_
        rintro e w2 ⟨A2, c2, rfl, _, _, s2, _, l2⟩
        have m2 := Later.trans_ (Below.refl w1.heap.size w1).drew l2
        refine hK.out _ _ trivial (fun hHeld => ?_)
        clear hK K'
        try simp only [Act.put, List.setIfInBounds_toArray, List.set_cons_zero, List.set_cons_succ]
        refine wpAnyH_ready (rs := [10]) (by kernel_rfl) (by simp) (AllReadyH.cons (o := ⟨some 43, .call { callee := .value (.func 16), args := #[.tmp 42], argTypes := #[22] }, _, _, _, none⟩) rfl (fun K' hK => ?_) (AllReadyH.nil))
        go_simp
        refine (HR.out _ m2).mono ?_
        rintro e w3 ⟨rfl, l3⟩
        have m3 := Later.trans_ m2 l3
        refine hK.out _ _ trivial (fun hHeld => ?_)
        clear hK K'
        try simp only [Act.put, List.setIfInBounds_toArray, List.set_cons_zero, List.set_cons_succ]
        refine wpAnyH_ready (rs := [11]) (by kernel_rfl) (by simp) (AllReadyH.cons (o := ⟨some 44, .call { callee := .value (.func 55), args := #[.tmp 39, .tmp 43], argTypes := #[22, 31] }, _, _, _, none⟩) rfl (fun K' hK => ?_) (AllReadyH.nil))
        go_simp
        refine (HW.out _ A2 c2 (s2.keep l3)).mono ?_
        rintro e w4 ⟨A4, c4, rfl, q1, q2, q3, q4, l4⟩
        refine hK.out _ _ trivial (fun hHeld => ?_)
        clear hK K'
        try simp only [Act.put, List.setIfInBounds_toArray, List.set_cons_zero, List.set_cons_succ]
        refine wpAnyH_take (i := 12) (oi := ⟨some 6, .assign (.tmp 44), _, _, _, none⟩) (v := .slice A4 (J ++ [R]).length c4) rfl (by kernel_rfl) (by kernel_rfl) (by kernel_rfl) (fun _ _ _ h => h) (Or.inl ⟨by rfl, fun _ _ => rfl⟩) hHeld ?_
        simp only [Act.put, List.setIfInBounds_toArray, List.set_cons_zero, List.set_cons_succ]
        refine wpAnyH_done (by kernel_rfl) ?_ _
        obtain ⟨ln, hln⟩ : ∃ ln, ln = (J ++ [R]).length := ⟨_, rfl⟩
        have HE := Lib.hid hln
        rw [← hln] at q1 q3 ⊢
        clear hln
        go_wp2
        all_goals go_ret
        all_goals exact ⟨A4, c4, by rw [← HE.out]; rfl, by rw [← HE.out]; exact q1, q2, by rw [← HE.out]; exact q3, fun ad _ e => Nat.le_trans m3.size (q4 ad (by simp) e), Later.trans_ m3 l4⟩
end Go.Proofs.YtaihfkcoiagdaabDoor

/-
  WALKS: the reference's Inclusion, Consistency.
-/
namespace Go.Proofs.YtaihfkcoiagdaabDoor
open Go.RowKit Go.ChangeShapes Go.WideShapes Go.ChangeAt

/-- A proof of the reference. -/
def GotP (l : List Wm.Bs) (er : Int) (w : World) (e : Ending) (w' : World) : Prop :=
  ∃ A c, e = .returned (.agg #[.slice A l.length c, .int .i64 er]) ∧ l.length ≤ c ∧ c ≤ 9223372036854775807 ∧ Sl w' 16 A l.length (Ds l) ∧ Later w w'
theorem pth_size (v : Value) (er : Int) : (Tryd.prog.info? 28).map (·.size) = some [v, .int .i64 er].length := by kernel_rfl
theorem pth_ret {fn : Func} {p : Tmp} (h : fn.results = #[.cell p 28]) (tmps : Array Value) (w : World) (B : Nat) (v : Value) (er : Int) (hp : tmps.getD p undef = .pointer (some ⟨B, 0, none⟩)) (hg : Blk w B 28 [v, .int .i64 er]) :
    (results fn tmps).run Tryd.prog w = .ok (.agg #[v, .int .i64 er]) w :=
  results_blk h tmps w B 28 [v, .int .i64 er] _ hp hg Tryd.underlying28 rfl (pth_size v er)

set_option maxRecDepth 100000 in
set_option maxHeartbeats 1000000 in
theorem refInclusion_bad (A : Option Addr) (n c : Nat) (i : Int) (w : World) (h1 : i < 0 ∨ (n : Int) ≤ i) :
    Calls Tryd.prog 12 #[.slice A n c, .int .i64 i] w fun e w' => GotP [] 1 w e w' := by
  by_cases h0 : i < 0
  · go_enter Tryd.func12, Tryd.ntmps12
    go_wp2_with fail
    exact bodyPost_ret (v := .agg #[.slice none 0 0, .int .i64 1]) (pth_ret Tryd.results12 _ _ w.heap.size _ _ rfl (Blk.new w _ _ _ rfl)) rfl ⟨none, 0, rfl, Nat.le_refl _, by decide, ⟨rfl, fun h => absurd h (by decide)⟩, (Below.refl _ _).alloc (Nat.le_refl _) _⟩
  · have k0 : 0 ≤ i := by omega
    have k1 : (n : Int) ≤ i := by omega
    go_enter Tryd.func12, Tryd.ntmps12
    go_wp2_with fail
    exact bodyPost_ret (v := .agg #[.slice none 0 0, .int .i64 1]) (pth_ret Tryd.results12 _ _ w.heap.size _ _ rfl (Blk.new w _ _ _ rfl)) rfl ⟨none, 0, rfl, Nat.le_refl _, by decide, ⟨rfl, fun h => absurd h (by decide)⟩, (Below.refl _ _).alloc (Nat.le_refl _) _⟩

set_option maxRecDepth 100000 in
set_option maxHeartbeats 1000000 in
theorem refInclusion_any (A : Option Addr) (n c i : Nat) (l : List Wm.Bs) (w : World) (hi : i < n) (hs : Sl w 16 A n (Ds l)) (hl : isD l) (hbig : n ≤ 4000000000000) (hnc : n ≤ c) (hc : c ≤ 9223372036854775807) (tab : Tab0 w) :
    Calls Tryd.prog 12 #[.slice A n c, .int .i64 i] w fun e w' => GotP (Mk.incl nodeD emptyD l i) 0 w e w' := by
  have HI := Lib.hid fun (w' : World) (hw : Later w w') => refIncl_any n A n c i l w' (Nat.le_refl _) hi (hs.keep hw) hl hbig hnc hc (tab.keep hw)
  obtain ⟨J, hJ⟩ : ∃ J, J = Mk.incl nodeD emptyD l i := ⟨_, rfl⟩
  rw [← hJ] at HI ⊢
  have k0 : (0 : Int) ≤ (i : Int) := by omega
  have k1 : (i : Int) < (n : Int) := by omega
  clear hJ hs hl tab
  go_enter Tryd.func12, Tryd.ntmps12
  go_wp2_with (first
    | (go_at_call 35; refine (HI.out _ ((Below.refl _ _).alloc (Nat.le_refl _) _)).mono ?_; rintro e w1 ⟨A1, c1, rfl, q1, q2, q3, q4, l1⟩)
    | ((with_reducible refine wpList_store_abs (o := ⟨none, .store 28 (.tmp 4) (.tmp 17), _, _, _, none⟩) rfl _ _ _ rfl w.heap.size 28 [.slice none 0 0, .int .i64 0] [.slice A1 J.length c1, .int .i64 0] ?_ ?_ ((Blk.new w _ _ _ rfl).keep l1) (pth_size _ _) rfl ?_ ?_); rfl; rfl; (intro u hu; simp only [List.mem_cons, List.not_mem_nil, or_false] at hu; rcases hu with rfl | rfl <;> rfl); intro w5 z1 z2))
  exact bodyPost_ret (v := .agg #[.slice A1 J.length c1, .int .i64 0]) (pth_ret Tryd.results12 _ _ w.heap.size _ _ rfl z1) rfl ⟨A1, c1, rfl, q1, q2, q3.lx (Lx.only z2) (fun h0 ad e => by have h9 := q4 ad h0 e; simp at h9; omega), Below.only (Later.trans_ ((Below.refl _ _).alloc (Nat.le_refl _) _) l1) z2 (Nat.le_refl _)⟩

set_option maxRecDepth 100000 in
set_option maxHeartbeats 1000000 in
theorem refConsistency_bad (A : Option Addr) (n c : Nat) (m : Int) (w : World) (h1 : m < 0 ∨ (n : Int) < m) :
    Calls Tryd.prog 13 #[.slice A n c, .int .i64 m] w fun e w' => GotP [] 1 w e w' := by
  by_cases h0 : m < 0
  · go_enter Tryd.func13, Tryd.ntmps13
    go_wp2_with fail
    exact bodyPost_ret (v := .agg #[.slice none 0 0, .int .i64 1]) (pth_ret Tryd.results13 _ _ w.heap.size _ _ rfl (Blk.new w _ _ _ rfl)) rfl ⟨none, 0, rfl, Nat.le_refl _, by decide, ⟨rfl, fun h => absurd h (by decide)⟩, (Below.refl _ _).alloc (Nat.le_refl _) _⟩
  · have k0 : 0 ≤ m := by omega
    have k1 : (n : Int) < m := by omega
    go_enter Tryd.func13, Tryd.ntmps13
    go_wp2_with fail
    exact bodyPost_ret (v := .agg #[.slice none 0 0, .int .i64 1]) (pth_ret Tryd.results13 _ _ w.heap.size _ _ rfl (Blk.new w _ _ _ rfl)) rfl ⟨none, 0, rfl, Nat.le_refl _, by decide, ⟨rfl, fun h => absurd h (by decide)⟩, (Below.refl _ _).alloc (Nat.le_refl _) _⟩

set_option maxRecDepth 100000 in
set_option maxHeartbeats 1000000 in
theorem refConsistency_none (A : Option Addr) (n c m : Nat) (w : World) (hm : m = 0 ∨ m = n) (hmn : m ≤ n) :
    Calls Tryd.prog 13 #[.slice A n c, .int .i64 m] w fun e w' => GotP [] 0 w e w' := by
  have k0 : (0 : Int) ≤ (m : Int) := by omega
  have k1 : (m : Int) ≤ (n : Int) := by omega
  by_cases h0 : m = 0
  · subst h0
    go_enter Tryd.func13, Tryd.ntmps13
    go_wp2_with fail
    exact bodyPost_ret (v := .agg #[.slice none 0 0, .int .i64 0]) (pth_ret Tryd.results13 _ _ w.heap.size _ _ rfl (Blk.new w _ _ _ rfl)) rfl ⟨none, 0, rfl, Nat.le_refl _, by decide, ⟨rfl, fun h => absurd h (by decide)⟩, (Below.refl _ _).alloc (Nat.le_refl _) _⟩
  · have h1 : ((m : Int) == 0) = false := by rw [beq_eq_false_iff_ne]; omega
    obtain rfl : m = n := by omega
    go_enter Tryd.func13, Tryd.ntmps13
    go_wp2_with fail
    exact bodyPost_ret (v := .agg #[.slice none 0 0, .int .i64 0]) (pth_ret Tryd.results13 _ _ w.heap.size _ _ rfl (Blk.new w _ _ _ rfl)) rfl ⟨none, 0, rfl, Nat.le_refl _, by decide, ⟨rfl, fun h => absurd h (by decide)⟩, (Below.refl _ _).alloc (Nat.le_refl _) _⟩

set_option maxRecDepth 100000 in
set_option maxHeartbeats 1000000 in
theorem refConsistency_any (A : Option Addr) (n c m : Nat) (l : List Wm.Bs) (w : World) (hm : 1 ≤ m) (hmn : m < n) (hs : Sl w 16 A n (Ds l)) (hl : isD l) (hbig : n ≤ 4000000000000) (hnc : n ≤ c) (hc : c ≤ 9223372036854775807) (tab : Tab0 w) :
    Calls Tryd.prog 13 #[.slice A n c, .int .i64 m] w fun e w' => GotP (Mk.cons nodeD emptyD l m true) 0 w e w' := by
  have HI := Lib.hid fun (w' : World) (hw : Later w w') => refCons_any n A n c m true l w' (Nat.le_refl _) hm (by omega) (hs.keep hw) hl hbig hnc hc (tab.keep hw)
  obtain ⟨J, hJ⟩ : ∃ J, J = Mk.cons nodeD emptyD l m true := ⟨_, rfl⟩
  rw [← hJ] at HI ⊢
  have k0 : (0 : Int) ≤ (m : Int) := by omega
  have k1 : (m : Int) ≤ (n : Int) := by omega
  have h1 : ((m : Int) == 0) = false := by rw [beq_eq_false_iff_ne]; omega
  have h2 : ((m : Int) == (n : Int)) = false := by rw [beq_eq_false_iff_ne]; omega
  clear hJ hs hl tab
  go_enter Tryd.func13, Tryd.ntmps13
  go_wp2_with (first
    | (go_at_call 36; refine (HI.out _ ((Below.refl _ _).alloc (Nat.le_refl _) _)).mono ?_; rintro e w1 ⟨A1, c1, rfl, q1, q2, q3, q4, l1⟩)
    | ((with_reducible refine wpList_store_abs (o := ⟨none, .store 28 (.tmp 4) (.tmp 26), _, _, _, none⟩) rfl _ _ _ rfl w.heap.size 28 [.slice none 0 0, .int .i64 0] [.slice A1 J.length c1, .int .i64 0] ?_ ?_ ((Blk.new w _ _ _ rfl).keep l1) (pth_size _ _) rfl ?_ ?_); rfl; rfl; (intro u hu; simp only [List.mem_cons, List.not_mem_nil, or_false] at hu; rcases hu with rfl | rfl <;> rfl); intro w5 z1 z2))
  exact bodyPost_ret (v := .agg #[.slice A1 J.length c1, .int .i64 0]) (pth_ret Tryd.results13 _ _ w.heap.size _ _ rfl z1) rfl ⟨A1, c1, rfl, q1, q2, q3.lx (Lx.only z2) (fun h0 ad e => by have h9 := q4 ad h0 e; simp at h9; omega), Below.only (Later.trans_ ((Below.refl _ _).alloc (Nat.le_refl _) _) l1) z2 (Nat.le_refl _)⟩

end Go.Proofs.YtaihfkcoiagdaabDoor
