/-
  THE STATEMENT TableBuildsAsSpecified: Map, MapLarge, Unmap and List return what the specification returns; for every memory and numbers.
-/
import Derived.Test.YtempcbdlaoblhabTabBf
import Derived.Test.YtempcbdlaoblhabTabBd
import Derived.Test.YtempcbdlaoblhabTabU
import Derived.Test.YtempcbdlaoblhabMemL2
import Derived.Deep.MidRow
import Derived.Deep.DeepCutAuto
namespace Go.Proofs.Ytempcbdlaoblhab
open Go.RowKit Go.ChangeShapes Go.WideShapes Go.ChangeAt

theorem same_self (A : Option Addr) (na ca : Nat) (B : Option Addr) (cb : Nat) (a : Wm.Bs) (w : World) (hsa : Sl w 128 A na (U a)) (hsb : Sl w 128 B na (U a)) (hna : na ≤ 64) :
    Calls Try.prog 20 #[.agg #[.slice A na ca], .agg #[.slice B na cb]] w fun e w' => e = .returned (.bool true) ∧ Later w w' := by
  have h := same_any A na ca B na cb a a w hsa hsb hna hna
  rwa [decide_eq_true rfl] at h
theorem maps_self (A : Option Addr) (ca : Nat) (B : Option Addr) (cb : Nat) (l : List Mg) (k : Nat) (w : World) (hk : l.length = k) (hsa : Sl w 3 A k (Mgs l)) (hsb : Sl w 3 B k (Mgs l)) (hl : k ≤ 100000) :
    Calls Try.prog 21 #[.slice A k ca, .slice B k cb] w fun e w' => e = .returned (.bool true) ∧ Later w w' := by
  have h := sameMappings_any A k ca B k cb l l w hk hk hsa hsb hl hl
  rwa [decide_eq_true rfl] at h
set_option maxRecDepth 100000 in
theorem builds_bad (A : Option Addr) (n c : Nat) (root va pa r tb : Int) (_ : Wm.Bs) (w : World) (h : ¬ (1 ≤ n ∧ n ≤ 64)) :
    Calls Try.prog 4 #[.agg #[.slice A n c], .int .u32 root, .int .u32 va, .int .u32 pa, .int .i64 r, .int .u32 tb] w fun e w' => e = .returned (.bool true) ∧ Later w w' := by
  have HV := Lib.hid fun w' => rvalid_any A n c w'
  rw [decide_eq_false h] at HV
  have HN := Lib.hid fun w' => sanity_any w'
  clear h
  go_enter Try.func4, Try.ntmps4
  go_wp2_with (first
    | (go_at_call 8; refine (HV.out _).mono ?_; rintro e w1 ⟨rfl, l1⟩)
    | (go_at_call 10; refine (HN.out _).mono ?_; rintro e w2 ⟨rfl, l2⟩))
  go_ret
  exact ⟨rfl, Later.trans_ (Later.trans_ (later1 _ _) l1) l2⟩
theorem lst_le (n : Nat) (b : Wm.Bs) (root : Int) : (Tm.lst n b root).length ≤ 100000 := by
  unfold Tm.lst
  split
  · have := flat_len (Tm.topAt n b root) 32 (topAt_len n b root) (List.finRange 32)
    rw [List.length_finRange] at this
    omega
  · simp
set_option maxRecDepth 100000 in
set_option maxHeartbeats 16000000 in
theorem builds_yes (A : Option Addr) (n c : Nat) (root va pa r tb : Int) (b : Wm.Bs) (w : World) (hs : Sl w 128 A n (U b)) (hb : Wm.isBs b) (h1 : 1 ≤ n ∧ n ≤ 64) (hnc : n ≤ c ∧ c ≤ maxLen) (hr : 0 ≤ root ∧ root ≤ 4294967295) (hv : 0 ≤ va ∧ va ≤ 4294967295) (hp : 0 ≤ pa ∧ pa ≤ 4294967295) (hq : -9223372036854775808 ≤ r ∧ r ≤ 9223372036854775807) (ht : 0 ≤ tb ∧ tb ≤ 4294967295) :
    Calls Try.prog 4 #[.agg #[.slice A n c], .int .u32 root, .int .u32 va, .int .u32 pa, .int .i64 r, .int .u32 tb] w fun e w' => e = .returned (.bool true) ∧ Later w w' := by
  have HV := Lib.hid fun w' => rvalid_any A n c w'
  rw [decide_eq_true h1] at HV
  have HN := Lib.hid fun w' => sanity_any w'
  have HM := fun w' (hl : Later w w') => map_any A n c root va pa r tb b w' (hs.keep hl) hb h1.1 h1.2 (by omega) (by omega) (by omega) hq (by omega)
  have HL := fun w' (hl : Later w w') => mapLarge_any A n c root va pa r b w' (hs.keep hl) hb h1.1 h1.2 (by omega) (by omega) (by omega) hq
  have HU := fun w' (hl : Later w w') => unmap_any A n c root va b w' (hs.keep hl) hb h1.1 h1.2 (by omega) (by omega)
  have KM := fun w' (hl : Later w w') => rmap_any A n c root va pa r tb b w' (hs.keep hl) hb h1 hnc (by omega) (by omega) (by omega) (by omega)
  have KL := fun w' (hl : Later w w') => rlarge_any A n c root va pa r b w' (hs.keep hl) hb h1 (by omega) (by omega) (by omega)
  have KU := fun w' (hl : Later w w') => runmap_any A n c root va b w' (hs.keep hl) hb h1 (by omega) (by omega)
  have HT := fun w' (hl : Later w w') => tlist_any A n c root b w' (hs.keep hl) hb h1.1 h1.2 (by omega) (by omega)
  have KT := fun w' (hl : Later w w') => rlist_any A n c root b w' (hs.keep hl) hb h1 (by omega)
  have hll := lst_le n b root
  obtain ⟨L, hL⟩ : ∃ L, L = Tm.lst n b root := ⟨_, rfl⟩
  rw [← hL] at HT KT hll
  obtain ⟨nl, hnl⟩ : ∃ x, L.length = x := ⟨_, rfl⟩
  rw [hnl] at HT KT hll
  obtain ⟨xa, hxa⟩ : ∃ x, x = Tm.mapM n b root va pa r tb := ⟨_, rfl⟩
  rw [← hxa] at HM KM
  clear hxa
  obtain ⟨Ea, hEa⟩ : ∃ x, x = Tm.mapE n b root va pa r tb := ⟨_, rfl⟩
  rw [← hEa] at HM KM
  clear hEa
  obtain ⟨xb, hxb⟩ : ∃ x, x = Tm.largeM n b root va pa r := ⟨_, rfl⟩
  rw [← hxb] at HL KL
  clear hxb
  obtain ⟨Eb, hEb⟩ : ∃ x, x = Tm.largeE n b root va pa r := ⟨_, rfl⟩
  rw [← hEb] at HL KL
  clear hEb
  obtain ⟨xc, hxc⟩ : ∃ x, x = Tm.unmapM n b root va := ⟨_, rfl⟩
  rw [← hxc] at HU KU
  clear hxc
  obtain ⟨Ec, hEc⟩ : ∃ x, x = Tm.unmapE n b root va := ⟨_, rfl⟩
  rw [← hEc] at HU KU
  clear hEc
  replace HM := Lib.hid HM
  replace HL := Lib.hid HL
  replace HU := Lib.hid HU
  replace KM := Lib.hid KM
  replace KL := Lib.hid KL
  replace KU := Lib.hid KU
  replace HT := Lib.hid HT
  replace KT := Lib.hid KT
  have hn1 := h1.1
  have hn64 := h1.2
  clear hs hb h1 hnc hr hv hp hq ht hL
  have d1 : (Ea != Ea) = false := by simp
  have d2 : (Eb != Eb) = false := by simp
  have d3 : (Ec != Ec) = false := by simp
  go_enter Try.func4, Try.ntmps4
  go_upto_region 6 with (first
    | (go_at_call 8; refine (HV.out _).mono ?_; rintro e w1 ⟨rfl, l1⟩; have b6 := (Blk.new w 24 #[.slice A n c] [.slice A n c] rfl).keep l1; have lw := Later.trans_ (later1 w (.cells #[.slice A n c] 24)) l1; have c6 := b6.cell (j := 0) (v := .slice A n c) rfl)
    | (go_at_call 14; refine (HM.out _ lw).mono ?_; rintro e v1 ⟨ga, ca, rfl, _, _, _, da, z1⟩; clear c6; replace b6 := (b6.keep z1).alloc (.cells #[.slice (some ⟨ga, 0, none⟩) n ca] 24); replace lw := (Later.trans_ lw z1).alloc (Later.trans_ lw z1).size (.cells #[.slice (some ⟨ga, 0, none⟩) n ca] 24); have b13 := Blk.new v1 24 #[.slice (some ⟨ga, 0, none⟩) n ca] [.slice (some ⟨ga, 0, none⟩) n ca] rfl; replace da := da.keep (later1 v1 (.cells #[.slice (some ⟨ga, 0, none⟩) n ca] 24)); have c6 := b6.cell (j := 0) (v := .slice A n c) rfl)
    | (go_at_call 15; refine (HL.out _ lw).mono ?_; rintro e v2 ⟨gb, cb, rfl, _, _, _, db, z2⟩; clear c6; replace b6 := (b6.keep z2).alloc (.cells #[.slice (some ⟨gb, 0, none⟩) n cb] 24); replace lw := (Later.trans_ lw z2).alloc (Later.trans_ lw z2).size (.cells #[.slice (some ⟨gb, 0, none⟩) n cb] 24); have b15 := Blk.new v2 24 #[.slice (some ⟨gb, 0, none⟩) n cb] [.slice (some ⟨gb, 0, none⟩) n cb] rfl; replace db := db.keep (later1 v2 (.cells #[.slice (some ⟨gb, 0, none⟩) n cb] 24)); replace b13 := (b13.keep z2).alloc (.cells #[.slice (some ⟨gb, 0, none⟩) n cb] 24); replace da := (da.keep z2).keep (later1 v2 (.cells #[.slice (some ⟨gb, 0, none⟩) n cb] 24)); have c6 := b6.cell (j := 0) (v := .slice A n c) rfl)
    | (go_at_call 16; refine (HU.out _ lw).mono ?_; rintro e v3 ⟨gc, cc, rfl, _, _, _, dc, z3⟩; clear c6; replace b6 := (b6.keep z3).alloc (.cells #[.slice (some ⟨gc, 0, none⟩) n cc] 24); replace lw := (Later.trans_ lw z3).alloc (Later.trans_ lw z3).size (.cells #[.slice (some ⟨gc, 0, none⟩) n cc] 24); have b17 := Blk.new v3 24 #[.slice (some ⟨gc, 0, none⟩) n cc] [.slice (some ⟨gc, 0, none⟩) n cc] rfl; replace dc := dc.keep (later1 v3 (.cells #[.slice (some ⟨gc, 0, none⟩) n cc] 24)); replace b13 := (b13.keep z3).alloc (.cells #[.slice (some ⟨gc, 0, none⟩) n cc] 24); replace b15 := (b15.keep z3).alloc (.cells #[.slice (some ⟨gc, 0, none⟩) n cc] 24); replace da := (da.keep z3).keep (later1 v3 (.cells #[.slice (some ⟨gc, 0, none⟩) n cc] 24)); replace db := (db.keep z3).keep (later1 v3 (.cells #[.slice (some ⟨gc, 0, none⟩) n cc] 24)); have c6 := b6.cell (j := 0) (v := .slice A n c) rfl))
  have hS : BS w (v3.alloc (.cells #[.slice (some ⟨gc, 0, none⟩) n cc] 24)) A n c _ _ _ _ _ _ _ _ _ _ _ _ := ⟨lw, b6, b13, b15, b17, da, db, dc⟩
  clear lw b6 b13 b15 b17 da db dc c6 z1 z2 z3 l1
  obtain ⟨u, hu⟩ : ∃ x, x = v3.alloc (.cells #[.slice (some ⟨gc, 0, none⟩) n cc] 24) := ⟨_, rfl⟩
  rw [← hu] at hS ⊢
  clear hu
  obtain ⟨g13, hg13⟩ : ∃ x, x = v1.heap.size := ⟨_, rfl⟩
  obtain ⟨g15, hg15⟩ : ∃ x, x = v2.heap.size := ⟨_, rfl⟩
  obtain ⟨g17, hg17⟩ : ∃ x, x = v3.heap.size := ⟨_, rfl⟩
  rw [← hg13, ← hg15, ← hg17] at hS ⊢
  clear hg13 hg15 hg17 HV HM HL HU
  go_cut [19, 20, 21] (fun s19 s20 s21 wx => ∃ (A1 : Option Addr) (c1 : Nat) (A2 : Option Addr) (c2 : Nat) (A3 : Option Addr) (c3 B1 B2 B3 : Nat), s19 = .pointer (some ⟨B1, 0, none⟩) ∧ s20 = .pointer (some ⟨B2, 0, none⟩) ∧ s21 = .pointer (some ⟨B3, 0, none⟩) ∧ BI w wx A n c g13 g15 g17 ga gb gc ca cb cc xa xb xc Ea Eb Ec 6 true true true A1 c1 A2 c2 A3 c3 B1 B2 B3)
  case first =>
    have hS0 := hS.drew
    refine wp_region_held_drew (S := fun w' => w'.cell? ⟨w.heap.size, 0, none⟩ = some (.slice A n c)) (by kernel_rfl) (hS0.b6.cell (j := 0) rfl) (fun hHeld => ?_)
    refine wpAnyH_take (i := 0) (oi := ⟨some 52, .load 24 (.tmp 6), _, _, _, none⟩) (v := .agg #[.slice A n c]) rfl (by kernel_rfl) (by kernel_rfl) (by kernel_rfl) (fun _ _ _ h => h) (Or.inl ⟨by rfl, fun w hSw => by have e1 := hSw; clear hSw; go_simp⟩) hHeld ?_
    simp only [Act.put, List.setIfInBounds_toArray, List.set_cons_zero, List.set_cons_succ]
    refine wpAnyH_take (i := 1) (oi := ⟨some 53, .move (.tmp 1), _, _, _, none⟩) (v := .int .u32 root) rfl (by kernel_rfl) (by kernel_rfl) (by kernel_rfl) (fun _ _ _ h => h) (Or.inl ⟨by rfl, fun _ _ => rfl⟩) hHeld ?_
    simp only [Act.put, List.setIfInBounds_toArray, List.set_cons_zero, List.set_cons_succ]
    refine wpAnyH_take (i := 2) (oi := ⟨some 54, .move (.tmp 2), _, _, _, none⟩) (v := .int .u32 va) rfl (by kernel_rfl) (by kernel_rfl) (by kernel_rfl) (fun _ _ _ h => h) (Or.inl ⟨by rfl, fun _ _ => rfl⟩) hHeld ?_
    simp only [Act.put, List.setIfInBounds_toArray, List.set_cons_zero, List.set_cons_succ]
    refine wpAnyH_take (i := 3) (oi := ⟨some 55, .move (.tmp 3), _, _, _, none⟩) (v := .int .u32 pa) rfl (by kernel_rfl) (by kernel_rfl) (by kernel_rfl) (fun _ _ _ h => h) (Or.inl ⟨by rfl, fun _ _ => rfl⟩) hHeld ?_
    simp only [Act.put, List.setIfInBounds_toArray, List.set_cons_zero, List.set_cons_succ]
    refine wpAnyH_take (i := 4) (oi := ⟨some 56, .move (.tmp 4), _, _, _, none⟩) (v := .int .i64 r) rfl (by kernel_rfl) (by kernel_rfl) (by kernel_rfl) (fun _ _ _ h => h) (Or.inl ⟨by rfl, fun _ _ => rfl⟩) hHeld ?_
    simp only [Act.put, List.setIfInBounds_toArray, List.set_cons_zero, List.set_cons_succ]
    refine wpAnyH_take (i := 5) (oi := ⟨some 57, .move (.tmp 5), _, _, _, none⟩) (v := .int .u32 tb) rfl (by kernel_rfl) (by kernel_rfl) (by kernel_rfl) (fun _ _ _ h => h) (Or.inl ⟨by rfl, fun _ _ => rfl⟩) hHeld ?_
    simp only [Act.put, List.setIfInBounds_toArray, List.set_cons_zero, List.set_cons_succ]
    refine wpAnyH_take (i := 7) (oi := ⟨some 59, .load 24 (.tmp 6), _, _, _, none⟩) (v := .agg #[.slice A n c]) rfl (by kernel_rfl) (by kernel_rfl) (by kernel_rfl) (fun _ _ _ h => h) (Or.inl ⟨by rfl, fun w hSw => by have e1 := hSw; clear hSw; go_simp⟩) hHeld ?_
    simp only [Act.put, List.setIfInBounds_toArray, List.set_cons_zero, List.set_cons_succ]
    refine wpAnyH_take (i := 8) (oi := ⟨some 60, .move (.tmp 1), _, _, _, none⟩) (v := .int .u32 root) rfl (by kernel_rfl) (by kernel_rfl) (by kernel_rfl) (fun _ _ _ h => h) (Or.inl ⟨by rfl, fun _ _ => rfl⟩) hHeld ?_
    simp only [Act.put, List.setIfInBounds_toArray, List.set_cons_zero, List.set_cons_succ]
    refine wpAnyH_take (i := 9) (oi := ⟨some 61, .move (.tmp 2), _, _, _, none⟩) (v := .int .u32 va) rfl (by kernel_rfl) (by kernel_rfl) (by kernel_rfl) (fun _ _ _ h => h) (Or.inl ⟨by rfl, fun _ _ => rfl⟩) hHeld ?_
    simp only [Act.put, List.setIfInBounds_toArray, List.set_cons_zero, List.set_cons_succ]
    refine wpAnyH_take (i := 10) (oi := ⟨some 62, .move (.tmp 3), _, _, _, none⟩) (v := .int .u32 pa) rfl (by kernel_rfl) (by kernel_rfl) (by kernel_rfl) (fun _ _ _ h => h) (Or.inl ⟨by rfl, fun _ _ => rfl⟩) hHeld ?_
    simp only [Act.put, List.setIfInBounds_toArray, List.set_cons_zero, List.set_cons_succ]
    refine wpAnyH_take (i := 11) (oi := ⟨some 63, .move (.tmp 4), _, _, _, none⟩) (v := .int .i64 r) rfl (by kernel_rfl) (by kernel_rfl) (by kernel_rfl) (fun _ _ _ h => h) (Or.inl ⟨by rfl, fun _ _ => rfl⟩) hHeld ?_
    simp only [Act.put, List.setIfInBounds_toArray, List.set_cons_zero, List.set_cons_succ]
    refine wpAnyH_take (i := 13) (oi := ⟨some 65, .load 24 (.tmp 6), _, _, _, none⟩) (v := .agg #[.slice A n c]) rfl (by kernel_rfl) (by kernel_rfl) (by kernel_rfl) (fun _ _ _ h => h) (Or.inl ⟨by rfl, fun w hSw => by have e1 := hSw; clear hSw; go_simp⟩) hHeld ?_
    simp only [Act.put, List.setIfInBounds_toArray, List.set_cons_zero, List.set_cons_succ]
    refine wpAnyH_take (i := 14) (oi := ⟨some 66, .move (.tmp 1), _, _, _, none⟩) (v := .int .u32 root) rfl (by kernel_rfl) (by kernel_rfl) (by kernel_rfl) (fun _ _ _ h => h) (Or.inl ⟨by rfl, fun _ _ => rfl⟩) hHeld ?_
    simp only [Act.put, List.setIfInBounds_toArray, List.set_cons_zero, List.set_cons_succ]
    refine wpAnyH_take (i := 15) (oi := ⟨some 67, .move (.tmp 2), _, _, _, none⟩) (v := .int .u32 va) rfl (by kernel_rfl) (by kernel_rfl) (by kernel_rfl) (fun _ _ _ h => h) (Or.inl ⟨by rfl, fun _ _ => rfl⟩) hHeld ?_
    simp only [Act.put, List.setIfInBounds_toArray, List.set_cons_zero, List.set_cons_succ]
    refine region_ind (fun fuel listed a v => ∃ (p : Nat) (x y z : Bool) (A1 : Option Addr) (c1 : Nat) (A2 : Option Addr) (c2 : Nat) (A3 : Option Addr) (c3 B1 B2 B3 : Nat), (6 - p) + (!x).toNat + (!y).toNat + (!z).toNat ≤ fuel ∧ p ≤ 6 ∧ (4 ≤ p → x = true) ∧ (4 ≤ p → y = true) ∧ (4 ≤ p → z = true) ∧ BI w v A n c g13 g15 g17 ga gb gc ca cb cc xa xb xc Ea Eb Ec p x y z A1 c1 A2 c2 A3 c3 B1 B2 B3 ∧ listed = #[true, true, true, true, true, true, decide (1 ≤ p), true, true, true, true, true, decide (2 ≤ p), true, true, true, decide (3 ≤ p), x, y, z, decide (4 ≤ p), decide (5 ≤ p), decide (6 ≤ p)] ∧ a = { tmps := (.agg #[.slice A n c] :: .int .u32 root :: .int .u32 va :: .int .u32 pa :: .int .i64 r :: .int .u32 tb :: .pointer (some ⟨w.heap.size, 0, none⟩) :: undef :: undef :: undef :: undef :: undef :: .bool false :: .pointer (some ⟨g13, 0, none⟩) :: .int .i64 Ea :: .pointer (some ⟨g15, 0, none⟩) :: .int .i64 Eb :: .pointer (some ⟨g17, 0, none⟩) :: .int .i64 Ec :: (if x = true then .pointer (some ⟨B1, 0, none⟩) else undef) :: (if y = true then .pointer (some ⟨B2, 0, none⟩) else undef) :: (if z = true then .pointer (some ⟨B3, 0, none⟩) else undef) :: .agg #[.slice A n c] :: .bool true :: .bool false :: undef :: .tuple #[.agg #[.slice (some ⟨ga, 0, none⟩) n ca], .int .i64 Ea] :: .agg #[.slice A n c] :: .int .u32 root :: .int .u32 va :: .int .u32 pa :: .int .i64 r :: .int .u32 tb :: .tuple #[.agg #[.slice (some ⟨ga, 0, none⟩) n ca], .int .i64 Ea] :: .agg #[.slice (some ⟨ga, 0, none⟩) n ca] :: .int .i64 Ea :: .tuple #[.agg #[.slice (some ⟨gb, 0, none⟩) n cb], .int .i64 Eb] :: .agg #[.slice A n c] :: .int .u32 root :: .int .u32 va :: .int .u32 pa :: .int .i64 r :: .tuple #[.agg #[.slice (some ⟨gb, 0, none⟩) n cb], .int .i64 Eb] :: .agg #[.slice (some ⟨gb, 0, none⟩) n cb] :: .int .i64 Eb :: .tuple #[.agg #[.slice (some ⟨gc, 0, none⟩) n cc], .int .i64 Ec] :: .agg #[.slice A n c] :: .int .u32 root :: .int .u32 va :: .tuple #[.agg #[.slice (some ⟨gc, 0, none⟩) n cc], .int .i64 Ec] :: .agg #[.slice (some ⟨gc, 0, none⟩) n cc] :: .int .i64 Ec :: .agg #[.slice A n c] :: .int .u32 root :: .int .u32 va :: .int .u32 pa :: .int .i64 r :: .int .u32 tb :: (if 1 ≤ p then .agg #[.slice A1 n c1, .int .i64 Ea] else undef) :: .agg #[.slice A n c] :: .int .u32 root :: .int .u32 va :: .int .u32 pa :: .int .i64 r :: (if 2 ≤ p then .agg #[.slice A2 n c2, .int .i64 Eb] else undef) :: .agg #[.slice A n c] :: .int .u32 root :: .int .u32 va :: (if 3 ≤ p then .agg #[.slice A3 n c3, .int .i64 Ec] else undef) :: undef :: undef :: undef :: undef :: undef :: undef :: undef :: undef :: undef :: undef :: undef :: undef :: undef :: undef :: undef :: undef :: undef :: undef :: undef :: undef :: undef :: undef :: undef :: undef :: undef :: undef :: undef :: undef :: undef :: undef :: undef :: undef :: undef :: undef :: undef :: undef :: undef :: undef :: undef :: undef :: undef :: undef :: undef :: undef :: undef :: undef :: undef :: []).toArray, defers := [] }) ?step ?zero _ _ _ _ ⟨0, false, false, false, none, 0, none, 0, none, 0, w.heap.size, w.heap.size, w.heap.size, by decide, by decide, by decide, by decide, by decide, ⟨hS0, Nat.le_refl _, Nat.le_refl _, Nat.le_refl _, fun e => absurd e (by decide), fun e => absurd e (by decide), fun e => absurd e (by decide), fun e => absurd e (by decide), fun e => absurd e (by decide), fun e => absurd e (by decide), fun e => absurd e (by decide), fun e => absurd e (by decide), fun e => absurd e (by decide)⟩, rfl, rfl⟩
    case zero =>
      rintro listed a v ⟨p, x, y, z, A1, c1, A2, c2, A3, c3, B1, B2, B3, hf, hp, hv1, hv2, hv3, hB, rfl, rfl⟩
      obtain rfl : p = 6 := by omega
      obtain rfl : x = true := hv1 (by decide)
      obtain rfl : y = true := hv2 (by decide)
      obtain rfl : z = true := hv3 (by decide)
      refine wpAnyH_done (by kernel_rfl) ?_ _
      simp only [eq_self, if_true, Nat.reduceLeDiff]
      go_wp2
      go_meet
      exact ⟨A1, c1, A2, c2, A3, c3, B1, B2, B3, rfl, rfl, rfl, hB⟩
    case step =>
      intro fuel ih
      rintro listed a v ⟨p, x, y, z, A1, c1, A2, c2, A3, c3, B1, B2, B3, hf, hp, hv1, hv2, hv3, hB, rfl, rfl⟩
      rcases (show p = 0 ∨ p = 1 ∨ p = 2 ∨ p = 3 ∨ p = 4 ∨ p = 5 ∨ p = 6 by omega) with rfl | rfl | rfl | rfl | rfl | rfl | rfl
      · cases x with
        | false =>
          cases y with
          | false =>
            cases z with
            | false =>
              refine wpAnyH_ready (rs := [6, 17, 18, 19]) (by kernel_rfl) (by simp) (AllReadyH.cons (o := ⟨some 58, .call { callee := .value (.func 17), args := #[.tmp 52, .tmp 53, .tmp 54, .tmp 55, .tmp 56, .tmp 57], argTypes := #[24, 25, 25, 25, 3, 25] }, _, _, _, none⟩) rfl (fun K' hK => ?_) (AllReadyH.cons (o := ⟨some 19, .alloc 46, _, _, _, none⟩) rfl (fun K' hK => ?_) (AllReadyH.cons (o := ⟨some 20, .alloc 46, _, _, _, none⟩) rfl (fun K' hK => ?_) (AllReadyH.cons (o := ⟨some 21, .alloc 46, _, _, _, none⟩) rfl (fun K' hK => ?_) AllReadyH.nil))))
              · go_simp
                refine (KM.out _ hB.s.l).mono ?_
                rintro e v' ⟨A', c', rfl, s', l'⟩
                have hN := hB.call1 (c' := c') l' s'
                exact hK.out _ _ (hN.s.b6.cell (j := 0) rfl) (fun _ => ih _ _ _ ⟨1, false, false, false, A', c', A2, c2, A3, c3, B1, B2, B3, Nat.le_of_succ_le_succ (show 9 ≤ fuel + 1 from hf), by decide, by decide, by decide, by decide, hN, rfl, rfl⟩)
              · go_simp
                have hN := hB.new1 (by decide)
                exact hK.out _ _ (hN.s.b6.cell (j := 0) rfl) (fun _ => ih _ _ _ ⟨0, true, false, false, A1, c1, A2, c2, A3, c3, v.heap.size, B2, B3, Nat.le_of_succ_le_succ (show 9 ≤ fuel + 1 from hf), by decide, by decide, by decide, by decide, hN, rfl, rfl⟩)
              · go_simp
                have hN := hB.new2 (by decide)
                exact hK.out _ _ (hN.s.b6.cell (j := 0) rfl) (fun _ => ih _ _ _ ⟨0, false, true, false, A1, c1, A2, c2, A3, c3, B1, v.heap.size, B3, Nat.le_of_succ_le_succ (show 9 ≤ fuel + 1 from hf), by decide, by decide, by decide, by decide, hN, rfl, rfl⟩)
              · go_simp
                have hN := hB.new3 (by decide)
                exact hK.out _ _ (hN.s.b6.cell (j := 0) rfl) (fun _ => ih _ _ _ ⟨0, false, false, true, A1, c1, A2, c2, A3, c3, B1, B2, v.heap.size, Nat.le_of_succ_le_succ (show 9 ≤ fuel + 1 from hf), by decide, by decide, by decide, by decide, hN, rfl, rfl⟩)
            | true =>
              refine wpAnyH_ready (rs := [6, 17, 18]) (by kernel_rfl) (by simp) (AllReadyH.cons (o := ⟨some 58, .call { callee := .value (.func 17), args := #[.tmp 52, .tmp 53, .tmp 54, .tmp 55, .tmp 56, .tmp 57], argTypes := #[24, 25, 25, 25, 3, 25] }, _, _, _, none⟩) rfl (fun K' hK => ?_) (AllReadyH.cons (o := ⟨some 19, .alloc 46, _, _, _, none⟩) rfl (fun K' hK => ?_) (AllReadyH.cons (o := ⟨some 20, .alloc 46, _, _, _, none⟩) rfl (fun K' hK => ?_) AllReadyH.nil)))
              · go_simp
                refine (KM.out _ hB.s.l).mono ?_
                rintro e v' ⟨A', c', rfl, s', l'⟩
                have hN := hB.call1 (c' := c') l' s'
                exact hK.out _ _ (hN.s.b6.cell (j := 0) rfl) (fun _ => ih _ _ _ ⟨1, false, false, true, A', c', A2, c2, A3, c3, B1, B2, B3, Nat.le_of_succ_le_succ (show 8 ≤ fuel + 1 from hf), by decide, by decide, by decide, by decide, hN, rfl, rfl⟩)
              · go_simp
                have hN := hB.new1 (by decide)
                exact hK.out _ _ (hN.s.b6.cell (j := 0) rfl) (fun _ => ih _ _ _ ⟨0, true, false, true, A1, c1, A2, c2, A3, c3, v.heap.size, B2, B3, Nat.le_of_succ_le_succ (show 8 ≤ fuel + 1 from hf), by decide, by decide, by decide, by decide, hN, rfl, rfl⟩)
              · go_simp
                have hN := hB.new2 (by decide)
                exact hK.out _ _ (hN.s.b6.cell (j := 0) rfl) (fun _ => ih _ _ _ ⟨0, false, true, true, A1, c1, A2, c2, A3, c3, B1, v.heap.size, B3, Nat.le_of_succ_le_succ (show 8 ≤ fuel + 1 from hf), by decide, by decide, by decide, by decide, hN, rfl, rfl⟩)
          | true =>
            cases z with
            | false =>
              refine wpAnyH_ready (rs := [6, 17, 19]) (by kernel_rfl) (by simp) (AllReadyH.cons (o := ⟨some 58, .call { callee := .value (.func 17), args := #[.tmp 52, .tmp 53, .tmp 54, .tmp 55, .tmp 56, .tmp 57], argTypes := #[24, 25, 25, 25, 3, 25] }, _, _, _, none⟩) rfl (fun K' hK => ?_) (AllReadyH.cons (o := ⟨some 19, .alloc 46, _, _, _, none⟩) rfl (fun K' hK => ?_) (AllReadyH.cons (o := ⟨some 21, .alloc 46, _, _, _, none⟩) rfl (fun K' hK => ?_) AllReadyH.nil)))
              · go_simp
                refine (KM.out _ hB.s.l).mono ?_
                rintro e v' ⟨A', c', rfl, s', l'⟩
                have hN := hB.call1 (c' := c') l' s'
                exact hK.out _ _ (hN.s.b6.cell (j := 0) rfl) (fun _ => ih _ _ _ ⟨1, false, true, false, A', c', A2, c2, A3, c3, B1, B2, B3, Nat.le_of_succ_le_succ (show 8 ≤ fuel + 1 from hf), by decide, by decide, by decide, by decide, hN, rfl, rfl⟩)
              · go_simp
                have hN := hB.new1 (by decide)
                exact hK.out _ _ (hN.s.b6.cell (j := 0) rfl) (fun _ => ih _ _ _ ⟨0, true, true, false, A1, c1, A2, c2, A3, c3, v.heap.size, B2, B3, Nat.le_of_succ_le_succ (show 8 ≤ fuel + 1 from hf), by decide, by decide, by decide, by decide, hN, rfl, rfl⟩)
              · go_simp
                have hN := hB.new3 (by decide)
                exact hK.out _ _ (hN.s.b6.cell (j := 0) rfl) (fun _ => ih _ _ _ ⟨0, false, true, true, A1, c1, A2, c2, A3, c3, B1, B2, v.heap.size, Nat.le_of_succ_le_succ (show 8 ≤ fuel + 1 from hf), by decide, by decide, by decide, by decide, hN, rfl, rfl⟩)
            | true =>
              refine wpAnyH_ready (rs := [6, 17]) (by kernel_rfl) (by simp) (AllReadyH.cons (o := ⟨some 58, .call { callee := .value (.func 17), args := #[.tmp 52, .tmp 53, .tmp 54, .tmp 55, .tmp 56, .tmp 57], argTypes := #[24, 25, 25, 25, 3, 25] }, _, _, _, none⟩) rfl (fun K' hK => ?_) (AllReadyH.cons (o := ⟨some 19, .alloc 46, _, _, _, none⟩) rfl (fun K' hK => ?_) AllReadyH.nil))
              · go_simp
                refine (KM.out _ hB.s.l).mono ?_
                rintro e v' ⟨A', c', rfl, s', l'⟩
                have hN := hB.call1 (c' := c') l' s'
                exact hK.out _ _ (hN.s.b6.cell (j := 0) rfl) (fun _ => ih _ _ _ ⟨1, false, true, true, A', c', A2, c2, A3, c3, B1, B2, B3, Nat.le_of_succ_le_succ (show 7 ≤ fuel + 1 from hf), by decide, by decide, by decide, by decide, hN, rfl, rfl⟩)
              · go_simp
                have hN := hB.new1 (by decide)
                exact hK.out _ _ (hN.s.b6.cell (j := 0) rfl) (fun _ => ih _ _ _ ⟨0, true, true, true, A1, c1, A2, c2, A3, c3, v.heap.size, B2, B3, Nat.le_of_succ_le_succ (show 7 ≤ fuel + 1 from hf), by decide, by decide, by decide, by decide, hN, rfl, rfl⟩)
        | true =>
          cases y with
          | false =>
            cases z with
            | false =>
              refine wpAnyH_ready (rs := [6, 18, 19]) (by kernel_rfl) (by simp) (AllReadyH.cons (o := ⟨some 58, .call { callee := .value (.func 17), args := #[.tmp 52, .tmp 53, .tmp 54, .tmp 55, .tmp 56, .tmp 57], argTypes := #[24, 25, 25, 25, 3, 25] }, _, _, _, none⟩) rfl (fun K' hK => ?_) (AllReadyH.cons (o := ⟨some 20, .alloc 46, _, _, _, none⟩) rfl (fun K' hK => ?_) (AllReadyH.cons (o := ⟨some 21, .alloc 46, _, _, _, none⟩) rfl (fun K' hK => ?_) AllReadyH.nil)))
              · go_simp
                refine (KM.out _ hB.s.l).mono ?_
                rintro e v' ⟨A', c', rfl, s', l'⟩
                have hN := hB.call1 (c' := c') l' s'
                exact hK.out _ _ (hN.s.b6.cell (j := 0) rfl) (fun _ => ih _ _ _ ⟨1, true, false, false, A', c', A2, c2, A3, c3, B1, B2, B3, Nat.le_of_succ_le_succ (show 8 ≤ fuel + 1 from hf), by decide, by decide, by decide, by decide, hN, rfl, rfl⟩)
              · go_simp
                have hN := hB.new2 (by decide)
                exact hK.out _ _ (hN.s.b6.cell (j := 0) rfl) (fun _ => ih _ _ _ ⟨0, true, true, false, A1, c1, A2, c2, A3, c3, B1, v.heap.size, B3, Nat.le_of_succ_le_succ (show 8 ≤ fuel + 1 from hf), by decide, by decide, by decide, by decide, hN, rfl, rfl⟩)
              · go_simp
                have hN := hB.new3 (by decide)
                exact hK.out _ _ (hN.s.b6.cell (j := 0) rfl) (fun _ => ih _ _ _ ⟨0, true, false, true, A1, c1, A2, c2, A3, c3, B1, B2, v.heap.size, Nat.le_of_succ_le_succ (show 8 ≤ fuel + 1 from hf), by decide, by decide, by decide, by decide, hN, rfl, rfl⟩)
            | true =>
              refine wpAnyH_ready (rs := [6, 18]) (by kernel_rfl) (by simp) (AllReadyH.cons (o := ⟨some 58, .call { callee := .value (.func 17), args := #[.tmp 52, .tmp 53, .tmp 54, .tmp 55, .tmp 56, .tmp 57], argTypes := #[24, 25, 25, 25, 3, 25] }, _, _, _, none⟩) rfl (fun K' hK => ?_) (AllReadyH.cons (o := ⟨some 20, .alloc 46, _, _, _, none⟩) rfl (fun K' hK => ?_) AllReadyH.nil))
              · go_simp
                refine (KM.out _ hB.s.l).mono ?_
                rintro e v' ⟨A', c', rfl, s', l'⟩
                have hN := hB.call1 (c' := c') l' s'
                exact hK.out _ _ (hN.s.b6.cell (j := 0) rfl) (fun _ => ih _ _ _ ⟨1, true, false, true, A', c', A2, c2, A3, c3, B1, B2, B3, Nat.le_of_succ_le_succ (show 7 ≤ fuel + 1 from hf), by decide, by decide, by decide, by decide, hN, rfl, rfl⟩)
              · go_simp
                have hN := hB.new2 (by decide)
                exact hK.out _ _ (hN.s.b6.cell (j := 0) rfl) (fun _ => ih _ _ _ ⟨0, true, true, true, A1, c1, A2, c2, A3, c3, B1, v.heap.size, B3, Nat.le_of_succ_le_succ (show 7 ≤ fuel + 1 from hf), by decide, by decide, by decide, by decide, hN, rfl, rfl⟩)
          | true =>
            cases z with
            | false =>
              refine wpAnyH_ready (rs := [6, 19]) (by kernel_rfl) (by simp) (AllReadyH.cons (o := ⟨some 58, .call { callee := .value (.func 17), args := #[.tmp 52, .tmp 53, .tmp 54, .tmp 55, .tmp 56, .tmp 57], argTypes := #[24, 25, 25, 25, 3, 25] }, _, _, _, none⟩) rfl (fun K' hK => ?_) (AllReadyH.cons (o := ⟨some 21, .alloc 46, _, _, _, none⟩) rfl (fun K' hK => ?_) AllReadyH.nil))
              · go_simp
                refine (KM.out _ hB.s.l).mono ?_
                rintro e v' ⟨A', c', rfl, s', l'⟩
                have hN := hB.call1 (c' := c') l' s'
                exact hK.out _ _ (hN.s.b6.cell (j := 0) rfl) (fun _ => ih _ _ _ ⟨1, true, true, false, A', c', A2, c2, A3, c3, B1, B2, B3, Nat.le_of_succ_le_succ (show 7 ≤ fuel + 1 from hf), by decide, by decide, by decide, by decide, hN, rfl, rfl⟩)
              · go_simp
                have hN := hB.new3 (by decide)
                exact hK.out _ _ (hN.s.b6.cell (j := 0) rfl) (fun _ => ih _ _ _ ⟨0, true, true, true, A1, c1, A2, c2, A3, c3, B1, B2, v.heap.size, Nat.le_of_succ_le_succ (show 7 ≤ fuel + 1 from hf), by decide, by decide, by decide, by decide, hN, rfl, rfl⟩)
            | true =>
              refine wpAnyH_ready (rs := [6]) (by kernel_rfl) (by simp) (AllReadyH.cons (o := ⟨some 58, .call { callee := .value (.func 17), args := #[.tmp 52, .tmp 53, .tmp 54, .tmp 55, .tmp 56, .tmp 57], argTypes := #[24, 25, 25, 25, 3, 25] }, _, _, _, none⟩) rfl (fun K' hK => ?_) AllReadyH.nil)
              · go_simp
                refine (KM.out _ hB.s.l).mono ?_
                rintro e v' ⟨A', c', rfl, s', l'⟩
                have hN := hB.call1 (c' := c') l' s'
                exact hK.out _ _ (hN.s.b6.cell (j := 0) rfl) (fun _ => ih _ _ _ ⟨1, true, true, true, A', c', A2, c2, A3, c3, B1, B2, B3, Nat.le_of_succ_le_succ (show 6 ≤ fuel + 1 from hf), by decide, by decide, by decide, by decide, hN, rfl, rfl⟩)
      · cases x with
        | false =>
          cases y with
          | false =>
            cases z with
            | false =>
              refine wpAnyH_ready (rs := [12, 17, 18, 19]) (by kernel_rfl) (by simp) (AllReadyH.cons (o := ⟨some 64, .call { callee := .value (.func 18), args := #[.tmp 59, .tmp 60, .tmp 61, .tmp 62, .tmp 63], argTypes := #[24, 25, 25, 25, 3] }, _, _, _, none⟩) rfl (fun K' hK => ?_) (AllReadyH.cons (o := ⟨some 19, .alloc 46, _, _, _, none⟩) rfl (fun K' hK => ?_) (AllReadyH.cons (o := ⟨some 20, .alloc 46, _, _, _, none⟩) rfl (fun K' hK => ?_) (AllReadyH.cons (o := ⟨some 21, .alloc 46, _, _, _, none⟩) rfl (fun K' hK => ?_) AllReadyH.nil))))
              · go_simp
                refine (KL.out _ hB.s.l).mono ?_
                rintro e v' ⟨A', c', rfl, s', l'⟩
                have hN := hB.call2 (c' := c') l' s'
                exact hK.out _ _ (hN.s.b6.cell (j := 0) rfl) (fun _ => ih _ _ _ ⟨2, false, false, false, A1, c1, A', c', A3, c3, B1, B2, B3, Nat.le_of_succ_le_succ (show 8 ≤ fuel + 1 from hf), by decide, by decide, by decide, by decide, hN, rfl, rfl⟩)
              · go_simp
                have hN := hB.new1 (by decide)
                exact hK.out _ _ (hN.s.b6.cell (j := 0) rfl) (fun _ => ih _ _ _ ⟨1, true, false, false, A1, c1, A2, c2, A3, c3, v.heap.size, B2, B3, Nat.le_of_succ_le_succ (show 8 ≤ fuel + 1 from hf), by decide, by decide, by decide, by decide, hN, rfl, rfl⟩)
              · go_simp
                have hN := hB.new2 (by decide)
                exact hK.out _ _ (hN.s.b6.cell (j := 0) rfl) (fun _ => ih _ _ _ ⟨1, false, true, false, A1, c1, A2, c2, A3, c3, B1, v.heap.size, B3, Nat.le_of_succ_le_succ (show 8 ≤ fuel + 1 from hf), by decide, by decide, by decide, by decide, hN, rfl, rfl⟩)
              · go_simp
                have hN := hB.new3 (by decide)
                exact hK.out _ _ (hN.s.b6.cell (j := 0) rfl) (fun _ => ih _ _ _ ⟨1, false, false, true, A1, c1, A2, c2, A3, c3, B1, B2, v.heap.size, Nat.le_of_succ_le_succ (show 8 ≤ fuel + 1 from hf), by decide, by decide, by decide, by decide, hN, rfl, rfl⟩)
            | true =>
              refine wpAnyH_ready (rs := [12, 17, 18]) (by kernel_rfl) (by simp) (AllReadyH.cons (o := ⟨some 64, .call { callee := .value (.func 18), args := #[.tmp 59, .tmp 60, .tmp 61, .tmp 62, .tmp 63], argTypes := #[24, 25, 25, 25, 3] }, _, _, _, none⟩) rfl (fun K' hK => ?_) (AllReadyH.cons (o := ⟨some 19, .alloc 46, _, _, _, none⟩) rfl (fun K' hK => ?_) (AllReadyH.cons (o := ⟨some 20, .alloc 46, _, _, _, none⟩) rfl (fun K' hK => ?_) AllReadyH.nil)))
              · go_simp
                refine (KL.out _ hB.s.l).mono ?_
                rintro e v' ⟨A', c', rfl, s', l'⟩
                have hN := hB.call2 (c' := c') l' s'
                exact hK.out _ _ (hN.s.b6.cell (j := 0) rfl) (fun _ => ih _ _ _ ⟨2, false, false, true, A1, c1, A', c', A3, c3, B1, B2, B3, Nat.le_of_succ_le_succ (show 7 ≤ fuel + 1 from hf), by decide, by decide, by decide, by decide, hN, rfl, rfl⟩)
              · go_simp
                have hN := hB.new1 (by decide)
                exact hK.out _ _ (hN.s.b6.cell (j := 0) rfl) (fun _ => ih _ _ _ ⟨1, true, false, true, A1, c1, A2, c2, A3, c3, v.heap.size, B2, B3, Nat.le_of_succ_le_succ (show 7 ≤ fuel + 1 from hf), by decide, by decide, by decide, by decide, hN, rfl, rfl⟩)
              · go_simp
                have hN := hB.new2 (by decide)
                exact hK.out _ _ (hN.s.b6.cell (j := 0) rfl) (fun _ => ih _ _ _ ⟨1, false, true, true, A1, c1, A2, c2, A3, c3, B1, v.heap.size, B3, Nat.le_of_succ_le_succ (show 7 ≤ fuel + 1 from hf), by decide, by decide, by decide, by decide, hN, rfl, rfl⟩)
          | true =>
            cases z with
            | false =>
              refine wpAnyH_ready (rs := [12, 17, 19]) (by kernel_rfl) (by simp) (AllReadyH.cons (o := ⟨some 64, .call { callee := .value (.func 18), args := #[.tmp 59, .tmp 60, .tmp 61, .tmp 62, .tmp 63], argTypes := #[24, 25, 25, 25, 3] }, _, _, _, none⟩) rfl (fun K' hK => ?_) (AllReadyH.cons (o := ⟨some 19, .alloc 46, _, _, _, none⟩) rfl (fun K' hK => ?_) (AllReadyH.cons (o := ⟨some 21, .alloc 46, _, _, _, none⟩) rfl (fun K' hK => ?_) AllReadyH.nil)))
              · go_simp
                refine (KL.out _ hB.s.l).mono ?_
                rintro e v' ⟨A', c', rfl, s', l'⟩
                have hN := hB.call2 (c' := c') l' s'
                exact hK.out _ _ (hN.s.b6.cell (j := 0) rfl) (fun _ => ih _ _ _ ⟨2, false, true, false, A1, c1, A', c', A3, c3, B1, B2, B3, Nat.le_of_succ_le_succ (show 7 ≤ fuel + 1 from hf), by decide, by decide, by decide, by decide, hN, rfl, rfl⟩)
              · go_simp
                have hN := hB.new1 (by decide)
                exact hK.out _ _ (hN.s.b6.cell (j := 0) rfl) (fun _ => ih _ _ _ ⟨1, true, true, false, A1, c1, A2, c2, A3, c3, v.heap.size, B2, B3, Nat.le_of_succ_le_succ (show 7 ≤ fuel + 1 from hf), by decide, by decide, by decide, by decide, hN, rfl, rfl⟩)
              · go_simp
                have hN := hB.new3 (by decide)
                exact hK.out _ _ (hN.s.b6.cell (j := 0) rfl) (fun _ => ih _ _ _ ⟨1, false, true, true, A1, c1, A2, c2, A3, c3, B1, B2, v.heap.size, Nat.le_of_succ_le_succ (show 7 ≤ fuel + 1 from hf), by decide, by decide, by decide, by decide, hN, rfl, rfl⟩)
            | true =>
              refine wpAnyH_ready (rs := [12, 17]) (by kernel_rfl) (by simp) (AllReadyH.cons (o := ⟨some 64, .call { callee := .value (.func 18), args := #[.tmp 59, .tmp 60, .tmp 61, .tmp 62, .tmp 63], argTypes := #[24, 25, 25, 25, 3] }, _, _, _, none⟩) rfl (fun K' hK => ?_) (AllReadyH.cons (o := ⟨some 19, .alloc 46, _, _, _, none⟩) rfl (fun K' hK => ?_) AllReadyH.nil))
              · go_simp
                refine (KL.out _ hB.s.l).mono ?_
                rintro e v' ⟨A', c', rfl, s', l'⟩
                have hN := hB.call2 (c' := c') l' s'
                exact hK.out _ _ (hN.s.b6.cell (j := 0) rfl) (fun _ => ih _ _ _ ⟨2, false, true, true, A1, c1, A', c', A3, c3, B1, B2, B3, Nat.le_of_succ_le_succ (show 6 ≤ fuel + 1 from hf), by decide, by decide, by decide, by decide, hN, rfl, rfl⟩)
              · go_simp
                have hN := hB.new1 (by decide)
                exact hK.out _ _ (hN.s.b6.cell (j := 0) rfl) (fun _ => ih _ _ _ ⟨1, true, true, true, A1, c1, A2, c2, A3, c3, v.heap.size, B2, B3, Nat.le_of_succ_le_succ (show 6 ≤ fuel + 1 from hf), by decide, by decide, by decide, by decide, hN, rfl, rfl⟩)
        | true =>
          cases y with
          | false =>
            cases z with
            | false =>
              refine wpAnyH_ready (rs := [12, 18, 19]) (by kernel_rfl) (by simp) (AllReadyH.cons (o := ⟨some 64, .call { callee := .value (.func 18), args := #[.tmp 59, .tmp 60, .tmp 61, .tmp 62, .tmp 63], argTypes := #[24, 25, 25, 25, 3] }, _, _, _, none⟩) rfl (fun K' hK => ?_) (AllReadyH.cons (o := ⟨some 20, .alloc 46, _, _, _, none⟩) rfl (fun K' hK => ?_) (AllReadyH.cons (o := ⟨some 21, .alloc 46, _, _, _, none⟩) rfl (fun K' hK => ?_) AllReadyH.nil)))
              · go_simp
                refine (KL.out _ hB.s.l).mono ?_
                rintro e v' ⟨A', c', rfl, s', l'⟩
                have hN := hB.call2 (c' := c') l' s'
                exact hK.out _ _ (hN.s.b6.cell (j := 0) rfl) (fun _ => ih _ _ _ ⟨2, true, false, false, A1, c1, A', c', A3, c3, B1, B2, B3, Nat.le_of_succ_le_succ (show 7 ≤ fuel + 1 from hf), by decide, by decide, by decide, by decide, hN, rfl, rfl⟩)
              · go_simp
                have hN := hB.new2 (by decide)
                exact hK.out _ _ (hN.s.b6.cell (j := 0) rfl) (fun _ => ih _ _ _ ⟨1, true, true, false, A1, c1, A2, c2, A3, c3, B1, v.heap.size, B3, Nat.le_of_succ_le_succ (show 7 ≤ fuel + 1 from hf), by decide, by decide, by decide, by decide, hN, rfl, rfl⟩)
              · go_simp
                have hN := hB.new3 (by decide)
                exact hK.out _ _ (hN.s.b6.cell (j := 0) rfl) (fun _ => ih _ _ _ ⟨1, true, false, true, A1, c1, A2, c2, A3, c3, B1, B2, v.heap.size, Nat.le_of_succ_le_succ (show 7 ≤ fuel + 1 from hf), by decide, by decide, by decide, by decide, hN, rfl, rfl⟩)
            | true =>
              refine wpAnyH_ready (rs := [12, 18]) (by kernel_rfl) (by simp) (AllReadyH.cons (o := ⟨some 64, .call { callee := .value (.func 18), args := #[.tmp 59, .tmp 60, .tmp 61, .tmp 62, .tmp 63], argTypes := #[24, 25, 25, 25, 3] }, _, _, _, none⟩) rfl (fun K' hK => ?_) (AllReadyH.cons (o := ⟨some 20, .alloc 46, _, _, _, none⟩) rfl (fun K' hK => ?_) AllReadyH.nil))
              · go_simp
                refine (KL.out _ hB.s.l).mono ?_
                rintro e v' ⟨A', c', rfl, s', l'⟩
                have hN := hB.call2 (c' := c') l' s'
                exact hK.out _ _ (hN.s.b6.cell (j := 0) rfl) (fun _ => ih _ _ _ ⟨2, true, false, true, A1, c1, A', c', A3, c3, B1, B2, B3, Nat.le_of_succ_le_succ (show 6 ≤ fuel + 1 from hf), by decide, by decide, by decide, by decide, hN, rfl, rfl⟩)
              · go_simp
                have hN := hB.new2 (by decide)
                exact hK.out _ _ (hN.s.b6.cell (j := 0) rfl) (fun _ => ih _ _ _ ⟨1, true, true, true, A1, c1, A2, c2, A3, c3, B1, v.heap.size, B3, Nat.le_of_succ_le_succ (show 6 ≤ fuel + 1 from hf), by decide, by decide, by decide, by decide, hN, rfl, rfl⟩)
          | true =>
            cases z with
            | false =>
              refine wpAnyH_ready (rs := [12, 19]) (by kernel_rfl) (by simp) (AllReadyH.cons (o := ⟨some 64, .call { callee := .value (.func 18), args := #[.tmp 59, .tmp 60, .tmp 61, .tmp 62, .tmp 63], argTypes := #[24, 25, 25, 25, 3] }, _, _, _, none⟩) rfl (fun K' hK => ?_) (AllReadyH.cons (o := ⟨some 21, .alloc 46, _, _, _, none⟩) rfl (fun K' hK => ?_) AllReadyH.nil))
              · go_simp
                refine (KL.out _ hB.s.l).mono ?_
                rintro e v' ⟨A', c', rfl, s', l'⟩
                have hN := hB.call2 (c' := c') l' s'
                exact hK.out _ _ (hN.s.b6.cell (j := 0) rfl) (fun _ => ih _ _ _ ⟨2, true, true, false, A1, c1, A', c', A3, c3, B1, B2, B3, Nat.le_of_succ_le_succ (show 6 ≤ fuel + 1 from hf), by decide, by decide, by decide, by decide, hN, rfl, rfl⟩)
              · go_simp
                have hN := hB.new3 (by decide)
                exact hK.out _ _ (hN.s.b6.cell (j := 0) rfl) (fun _ => ih _ _ _ ⟨1, true, true, true, A1, c1, A2, c2, A3, c3, B1, B2, v.heap.size, Nat.le_of_succ_le_succ (show 6 ≤ fuel + 1 from hf), by decide, by decide, by decide, by decide, hN, rfl, rfl⟩)
            | true =>
              refine wpAnyH_ready (rs := [12]) (by kernel_rfl) (by simp) (AllReadyH.cons (o := ⟨some 64, .call { callee := .value (.func 18), args := #[.tmp 59, .tmp 60, .tmp 61, .tmp 62, .tmp 63], argTypes := #[24, 25, 25, 25, 3] }, _, _, _, none⟩) rfl (fun K' hK => ?_) AllReadyH.nil)
              · go_simp
                refine (KL.out _ hB.s.l).mono ?_
                rintro e v' ⟨A', c', rfl, s', l'⟩
                have hN := hB.call2 (c' := c') l' s'
                exact hK.out _ _ (hN.s.b6.cell (j := 0) rfl) (fun _ => ih _ _ _ ⟨2, true, true, true, A1, c1, A', c', A3, c3, B1, B2, B3, Nat.le_of_succ_le_succ (show 5 ≤ fuel + 1 from hf), by decide, by decide, by decide, by decide, hN, rfl, rfl⟩)
      · cases x with
        | false =>
          cases y with
          | false =>
            cases z with
            | false =>
              refine wpAnyH_ready (rs := [16, 17, 18, 19]) (by kernel_rfl) (by simp) (AllReadyH.cons (o := ⟨some 68, .call { callee := .value (.func 19), args := #[.tmp 65, .tmp 66, .tmp 67], argTypes := #[24, 25, 25] }, _, _, _, none⟩) rfl (fun K' hK => ?_) (AllReadyH.cons (o := ⟨some 19, .alloc 46, _, _, _, none⟩) rfl (fun K' hK => ?_) (AllReadyH.cons (o := ⟨some 20, .alloc 46, _, _, _, none⟩) rfl (fun K' hK => ?_) (AllReadyH.cons (o := ⟨some 21, .alloc 46, _, _, _, none⟩) rfl (fun K' hK => ?_) AllReadyH.nil))))
              · go_simp
                refine (KU.out _ hB.s.l).mono ?_
                rintro e v' ⟨A', c', rfl, s', l'⟩
                have hN := hB.call3 (c' := c') l' s'
                exact hK.out _ _ (hN.s.b6.cell (j := 0) rfl) (fun _ => ih _ _ _ ⟨3, false, false, false, A1, c1, A2, c2, A', c', B1, B2, B3, Nat.le_of_succ_le_succ (show 7 ≤ fuel + 1 from hf), by decide, by decide, by decide, by decide, hN, rfl, rfl⟩)
              · go_simp
                have hN := hB.new1 (by decide)
                exact hK.out _ _ (hN.s.b6.cell (j := 0) rfl) (fun _ => ih _ _ _ ⟨2, true, false, false, A1, c1, A2, c2, A3, c3, v.heap.size, B2, B3, Nat.le_of_succ_le_succ (show 7 ≤ fuel + 1 from hf), by decide, by decide, by decide, by decide, hN, rfl, rfl⟩)
              · go_simp
                have hN := hB.new2 (by decide)
                exact hK.out _ _ (hN.s.b6.cell (j := 0) rfl) (fun _ => ih _ _ _ ⟨2, false, true, false, A1, c1, A2, c2, A3, c3, B1, v.heap.size, B3, Nat.le_of_succ_le_succ (show 7 ≤ fuel + 1 from hf), by decide, by decide, by decide, by decide, hN, rfl, rfl⟩)
              · go_simp
                have hN := hB.new3 (by decide)
                exact hK.out _ _ (hN.s.b6.cell (j := 0) rfl) (fun _ => ih _ _ _ ⟨2, false, false, true, A1, c1, A2, c2, A3, c3, B1, B2, v.heap.size, Nat.le_of_succ_le_succ (show 7 ≤ fuel + 1 from hf), by decide, by decide, by decide, by decide, hN, rfl, rfl⟩)
            | true =>
              refine wpAnyH_ready (rs := [16, 17, 18]) (by kernel_rfl) (by simp) (AllReadyH.cons (o := ⟨some 68, .call { callee := .value (.func 19), args := #[.tmp 65, .tmp 66, .tmp 67], argTypes := #[24, 25, 25] }, _, _, _, none⟩) rfl (fun K' hK => ?_) (AllReadyH.cons (o := ⟨some 19, .alloc 46, _, _, _, none⟩) rfl (fun K' hK => ?_) (AllReadyH.cons (o := ⟨some 20, .alloc 46, _, _, _, none⟩) rfl (fun K' hK => ?_) AllReadyH.nil)))
              · go_simp
                refine (KU.out _ hB.s.l).mono ?_
                rintro e v' ⟨A', c', rfl, s', l'⟩
                have hN := hB.call3 (c' := c') l' s'
                exact hK.out _ _ (hN.s.b6.cell (j := 0) rfl) (fun _ => ih _ _ _ ⟨3, false, false, true, A1, c1, A2, c2, A', c', B1, B2, B3, Nat.le_of_succ_le_succ (show 6 ≤ fuel + 1 from hf), by decide, by decide, by decide, by decide, hN, rfl, rfl⟩)
              · go_simp
                have hN := hB.new1 (by decide)
                exact hK.out _ _ (hN.s.b6.cell (j := 0) rfl) (fun _ => ih _ _ _ ⟨2, true, false, true, A1, c1, A2, c2, A3, c3, v.heap.size, B2, B3, Nat.le_of_succ_le_succ (show 6 ≤ fuel + 1 from hf), by decide, by decide, by decide, by decide, hN, rfl, rfl⟩)
              · go_simp
                have hN := hB.new2 (by decide)
                exact hK.out _ _ (hN.s.b6.cell (j := 0) rfl) (fun _ => ih _ _ _ ⟨2, false, true, true, A1, c1, A2, c2, A3, c3, B1, v.heap.size, B3, Nat.le_of_succ_le_succ (show 6 ≤ fuel + 1 from hf), by decide, by decide, by decide, by decide, hN, rfl, rfl⟩)
          | true =>
            cases z with
            | false =>
              refine wpAnyH_ready (rs := [16, 17, 19]) (by kernel_rfl) (by simp) (AllReadyH.cons (o := ⟨some 68, .call { callee := .value (.func 19), args := #[.tmp 65, .tmp 66, .tmp 67], argTypes := #[24, 25, 25] }, _, _, _, none⟩) rfl (fun K' hK => ?_) (AllReadyH.cons (o := ⟨some 19, .alloc 46, _, _, _, none⟩) rfl (fun K' hK => ?_) (AllReadyH.cons (o := ⟨some 21, .alloc 46, _, _, _, none⟩) rfl (fun K' hK => ?_) AllReadyH.nil)))
              · go_simp
                refine (KU.out _ hB.s.l).mono ?_
                rintro e v' ⟨A', c', rfl, s', l'⟩
                have hN := hB.call3 (c' := c') l' s'
                exact hK.out _ _ (hN.s.b6.cell (j := 0) rfl) (fun _ => ih _ _ _ ⟨3, false, true, false, A1, c1, A2, c2, A', c', B1, B2, B3, Nat.le_of_succ_le_succ (show 6 ≤ fuel + 1 from hf), by decide, by decide, by decide, by decide, hN, rfl, rfl⟩)
              · go_simp
                have hN := hB.new1 (by decide)
                exact hK.out _ _ (hN.s.b6.cell (j := 0) rfl) (fun _ => ih _ _ _ ⟨2, true, true, false, A1, c1, A2, c2, A3, c3, v.heap.size, B2, B3, Nat.le_of_succ_le_succ (show 6 ≤ fuel + 1 from hf), by decide, by decide, by decide, by decide, hN, rfl, rfl⟩)
              · go_simp
                have hN := hB.new3 (by decide)
                exact hK.out _ _ (hN.s.b6.cell (j := 0) rfl) (fun _ => ih _ _ _ ⟨2, false, true, true, A1, c1, A2, c2, A3, c3, B1, B2, v.heap.size, Nat.le_of_succ_le_succ (show 6 ≤ fuel + 1 from hf), by decide, by decide, by decide, by decide, hN, rfl, rfl⟩)
            | true =>
              refine wpAnyH_ready (rs := [16, 17]) (by kernel_rfl) (by simp) (AllReadyH.cons (o := ⟨some 68, .call { callee := .value (.func 19), args := #[.tmp 65, .tmp 66, .tmp 67], argTypes := #[24, 25, 25] }, _, _, _, none⟩) rfl (fun K' hK => ?_) (AllReadyH.cons (o := ⟨some 19, .alloc 46, _, _, _, none⟩) rfl (fun K' hK => ?_) AllReadyH.nil))
              · go_simp
                refine (KU.out _ hB.s.l).mono ?_
                rintro e v' ⟨A', c', rfl, s', l'⟩
                have hN := hB.call3 (c' := c') l' s'
                exact hK.out _ _ (hN.s.b6.cell (j := 0) rfl) (fun _ => ih _ _ _ ⟨3, false, true, true, A1, c1, A2, c2, A', c', B1, B2, B3, Nat.le_of_succ_le_succ (show 5 ≤ fuel + 1 from hf), by decide, by decide, by decide, by decide, hN, rfl, rfl⟩)
              · go_simp
                have hN := hB.new1 (by decide)
                exact hK.out _ _ (hN.s.b6.cell (j := 0) rfl) (fun _ => ih _ _ _ ⟨2, true, true, true, A1, c1, A2, c2, A3, c3, v.heap.size, B2, B3, Nat.le_of_succ_le_succ (show 5 ≤ fuel + 1 from hf), by decide, by decide, by decide, by decide, hN, rfl, rfl⟩)
        | true =>
          cases y with
          | false =>
            cases z with
            | false =>
              refine wpAnyH_ready (rs := [16, 18, 19]) (by kernel_rfl) (by simp) (AllReadyH.cons (o := ⟨some 68, .call { callee := .value (.func 19), args := #[.tmp 65, .tmp 66, .tmp 67], argTypes := #[24, 25, 25] }, _, _, _, none⟩) rfl (fun K' hK => ?_) (AllReadyH.cons (o := ⟨some 20, .alloc 46, _, _, _, none⟩) rfl (fun K' hK => ?_) (AllReadyH.cons (o := ⟨some 21, .alloc 46, _, _, _, none⟩) rfl (fun K' hK => ?_) AllReadyH.nil)))
              · go_simp
                refine (KU.out _ hB.s.l).mono ?_
                rintro e v' ⟨A', c', rfl, s', l'⟩
                have hN := hB.call3 (c' := c') l' s'
                exact hK.out _ _ (hN.s.b6.cell (j := 0) rfl) (fun _ => ih _ _ _ ⟨3, true, false, false, A1, c1, A2, c2, A', c', B1, B2, B3, Nat.le_of_succ_le_succ (show 6 ≤ fuel + 1 from hf), by decide, by decide, by decide, by decide, hN, rfl, rfl⟩)
              · go_simp
                have hN := hB.new2 (by decide)
                exact hK.out _ _ (hN.s.b6.cell (j := 0) rfl) (fun _ => ih _ _ _ ⟨2, true, true, false, A1, c1, A2, c2, A3, c3, B1, v.heap.size, B3, Nat.le_of_succ_le_succ (show 6 ≤ fuel + 1 from hf), by decide, by decide, by decide, by decide, hN, rfl, rfl⟩)
              · go_simp
                have hN := hB.new3 (by decide)
                exact hK.out _ _ (hN.s.b6.cell (j := 0) rfl) (fun _ => ih _ _ _ ⟨2, true, false, true, A1, c1, A2, c2, A3, c3, B1, B2, v.heap.size, Nat.le_of_succ_le_succ (show 6 ≤ fuel + 1 from hf), by decide, by decide, by decide, by decide, hN, rfl, rfl⟩)
            | true =>
              refine wpAnyH_ready (rs := [16, 18]) (by kernel_rfl) (by simp) (AllReadyH.cons (o := ⟨some 68, .call { callee := .value (.func 19), args := #[.tmp 65, .tmp 66, .tmp 67], argTypes := #[24, 25, 25] }, _, _, _, none⟩) rfl (fun K' hK => ?_) (AllReadyH.cons (o := ⟨some 20, .alloc 46, _, _, _, none⟩) rfl (fun K' hK => ?_) AllReadyH.nil))
              · go_simp
                refine (KU.out _ hB.s.l).mono ?_
                rintro e v' ⟨A', c', rfl, s', l'⟩
                have hN := hB.call3 (c' := c') l' s'
                exact hK.out _ _ (hN.s.b6.cell (j := 0) rfl) (fun _ => ih _ _ _ ⟨3, true, false, true, A1, c1, A2, c2, A', c', B1, B2, B3, Nat.le_of_succ_le_succ (show 5 ≤ fuel + 1 from hf), by decide, by decide, by decide, by decide, hN, rfl, rfl⟩)
              · go_simp
                have hN := hB.new2 (by decide)
                exact hK.out _ _ (hN.s.b6.cell (j := 0) rfl) (fun _ => ih _ _ _ ⟨2, true, true, true, A1, c1, A2, c2, A3, c3, B1, v.heap.size, B3, Nat.le_of_succ_le_succ (show 5 ≤ fuel + 1 from hf), by decide, by decide, by decide, by decide, hN, rfl, rfl⟩)
          | true =>
            cases z with
            | false =>
              refine wpAnyH_ready (rs := [16, 19]) (by kernel_rfl) (by simp) (AllReadyH.cons (o := ⟨some 68, .call { callee := .value (.func 19), args := #[.tmp 65, .tmp 66, .tmp 67], argTypes := #[24, 25, 25] }, _, _, _, none⟩) rfl (fun K' hK => ?_) (AllReadyH.cons (o := ⟨some 21, .alloc 46, _, _, _, none⟩) rfl (fun K' hK => ?_) AllReadyH.nil))
              · go_simp
                refine (KU.out _ hB.s.l).mono ?_
                rintro e v' ⟨A', c', rfl, s', l'⟩
                have hN := hB.call3 (c' := c') l' s'
                exact hK.out _ _ (hN.s.b6.cell (j := 0) rfl) (fun _ => ih _ _ _ ⟨3, true, true, false, A1, c1, A2, c2, A', c', B1, B2, B3, Nat.le_of_succ_le_succ (show 5 ≤ fuel + 1 from hf), by decide, by decide, by decide, by decide, hN, rfl, rfl⟩)
              · go_simp
                have hN := hB.new3 (by decide)
                exact hK.out _ _ (hN.s.b6.cell (j := 0) rfl) (fun _ => ih _ _ _ ⟨2, true, true, true, A1, c1, A2, c2, A3, c3, B1, B2, v.heap.size, Nat.le_of_succ_le_succ (show 5 ≤ fuel + 1 from hf), by decide, by decide, by decide, by decide, hN, rfl, rfl⟩)
            | true =>
              refine wpAnyH_ready (rs := [16]) (by kernel_rfl) (by simp) (AllReadyH.cons (o := ⟨some 68, .call { callee := .value (.func 19), args := #[.tmp 65, .tmp 66, .tmp 67], argTypes := #[24, 25, 25] }, _, _, _, none⟩) rfl (fun K' hK => ?_) AllReadyH.nil)
              · go_simp
                refine (KU.out _ hB.s.l).mono ?_
                rintro e v' ⟨A', c', rfl, s', l'⟩
                have hN := hB.call3 (c' := c') l' s'
                exact hK.out _ _ (hN.s.b6.cell (j := 0) rfl) (fun _ => ih _ _ _ ⟨3, true, true, true, A1, c1, A2, c2, A', c', B1, B2, B3, Nat.le_of_succ_le_succ (show 4 ≤ fuel + 1 from hf), by decide, by decide, by decide, by decide, hN, rfl, rfl⟩)
      · cases x with
        | false =>
          cases y with
          | false =>
            cases z with
            | false =>
              refine wpAnyH_ready (rs := [17, 18, 19]) (by kernel_rfl) (by simp) (AllReadyH.cons (o := ⟨some 19, .alloc 46, _, _, _, none⟩) rfl (fun K' hK => ?_) (AllReadyH.cons (o := ⟨some 20, .alloc 46, _, _, _, none⟩) rfl (fun K' hK => ?_) (AllReadyH.cons (o := ⟨some 21, .alloc 46, _, _, _, none⟩) rfl (fun K' hK => ?_) AllReadyH.nil)))
              · go_simp
                have hN := hB.new1 (by decide)
                exact hK.out _ _ (hN.s.b6.cell (j := 0) rfl) (fun _ => ih _ _ _ ⟨3, true, false, false, A1, c1, A2, c2, A3, c3, v.heap.size, B2, B3, Nat.le_of_succ_le_succ (show 6 ≤ fuel + 1 from hf), by decide, by decide, by decide, by decide, hN, rfl, rfl⟩)
              · go_simp
                have hN := hB.new2 (by decide)
                exact hK.out _ _ (hN.s.b6.cell (j := 0) rfl) (fun _ => ih _ _ _ ⟨3, false, true, false, A1, c1, A2, c2, A3, c3, B1, v.heap.size, B3, Nat.le_of_succ_le_succ (show 6 ≤ fuel + 1 from hf), by decide, by decide, by decide, by decide, hN, rfl, rfl⟩)
              · go_simp
                have hN := hB.new3 (by decide)
                exact hK.out _ _ (hN.s.b6.cell (j := 0) rfl) (fun _ => ih _ _ _ ⟨3, false, false, true, A1, c1, A2, c2, A3, c3, B1, B2, v.heap.size, Nat.le_of_succ_le_succ (show 6 ≤ fuel + 1 from hf), by decide, by decide, by decide, by decide, hN, rfl, rfl⟩)
            | true =>
              refine wpAnyH_ready (rs := [17, 18]) (by kernel_rfl) (by simp) (AllReadyH.cons (o := ⟨some 19, .alloc 46, _, _, _, none⟩) rfl (fun K' hK => ?_) (AllReadyH.cons (o := ⟨some 20, .alloc 46, _, _, _, none⟩) rfl (fun K' hK => ?_) AllReadyH.nil))
              · go_simp
                have hN := hB.new1 (by decide)
                exact hK.out _ _ (hN.s.b6.cell (j := 0) rfl) (fun _ => ih _ _ _ ⟨3, true, false, true, A1, c1, A2, c2, A3, c3, v.heap.size, B2, B3, Nat.le_of_succ_le_succ (show 5 ≤ fuel + 1 from hf), by decide, by decide, by decide, by decide, hN, rfl, rfl⟩)
              · go_simp
                have hN := hB.new2 (by decide)
                exact hK.out _ _ (hN.s.b6.cell (j := 0) rfl) (fun _ => ih _ _ _ ⟨3, false, true, true, A1, c1, A2, c2, A3, c3, B1, v.heap.size, B3, Nat.le_of_succ_le_succ (show 5 ≤ fuel + 1 from hf), by decide, by decide, by decide, by decide, hN, rfl, rfl⟩)
          | true =>
            cases z with
            | false =>
              refine wpAnyH_ready (rs := [17, 19]) (by kernel_rfl) (by simp) (AllReadyH.cons (o := ⟨some 19, .alloc 46, _, _, _, none⟩) rfl (fun K' hK => ?_) (AllReadyH.cons (o := ⟨some 21, .alloc 46, _, _, _, none⟩) rfl (fun K' hK => ?_) AllReadyH.nil))
              · go_simp
                have hN := hB.new1 (by decide)
                exact hK.out _ _ (hN.s.b6.cell (j := 0) rfl) (fun _ => ih _ _ _ ⟨3, true, true, false, A1, c1, A2, c2, A3, c3, v.heap.size, B2, B3, Nat.le_of_succ_le_succ (show 5 ≤ fuel + 1 from hf), by decide, by decide, by decide, by decide, hN, rfl, rfl⟩)
              · go_simp
                have hN := hB.new3 (by decide)
                exact hK.out _ _ (hN.s.b6.cell (j := 0) rfl) (fun _ => ih _ _ _ ⟨3, false, true, true, A1, c1, A2, c2, A3, c3, B1, B2, v.heap.size, Nat.le_of_succ_le_succ (show 5 ≤ fuel + 1 from hf), by decide, by decide, by decide, by decide, hN, rfl, rfl⟩)
            | true =>
              refine wpAnyH_ready (rs := [17]) (by kernel_rfl) (by simp) (AllReadyH.cons (o := ⟨some 19, .alloc 46, _, _, _, none⟩) rfl (fun K' hK => ?_) AllReadyH.nil)
              · go_simp
                have hN := hB.new1 (by decide)
                exact hK.out _ _ (hN.s.b6.cell (j := 0) rfl) (fun _ => ih _ _ _ ⟨3, true, true, true, A1, c1, A2, c2, A3, c3, v.heap.size, B2, B3, Nat.le_of_succ_le_succ (show 4 ≤ fuel + 1 from hf), by decide, by decide, by decide, by decide, hN, rfl, rfl⟩)
        | true =>
          cases y with
          | false =>
            cases z with
            | false =>
              refine wpAnyH_ready (rs := [18, 19]) (by kernel_rfl) (by simp) (AllReadyH.cons (o := ⟨some 20, .alloc 46, _, _, _, none⟩) rfl (fun K' hK => ?_) (AllReadyH.cons (o := ⟨some 21, .alloc 46, _, _, _, none⟩) rfl (fun K' hK => ?_) AllReadyH.nil))
              · go_simp
                have hN := hB.new2 (by decide)
                exact hK.out _ _ (hN.s.b6.cell (j := 0) rfl) (fun _ => ih _ _ _ ⟨3, true, true, false, A1, c1, A2, c2, A3, c3, B1, v.heap.size, B3, Nat.le_of_succ_le_succ (show 5 ≤ fuel + 1 from hf), by decide, by decide, by decide, by decide, hN, rfl, rfl⟩)
              · go_simp
                have hN := hB.new3 (by decide)
                exact hK.out _ _ (hN.s.b6.cell (j := 0) rfl) (fun _ => ih _ _ _ ⟨3, true, false, true, A1, c1, A2, c2, A3, c3, B1, B2, v.heap.size, Nat.le_of_succ_le_succ (show 5 ≤ fuel + 1 from hf), by decide, by decide, by decide, by decide, hN, rfl, rfl⟩)
            | true =>
              refine wpAnyH_ready (rs := [18]) (by kernel_rfl) (by simp) (AllReadyH.cons (o := ⟨some 20, .alloc 46, _, _, _, none⟩) rfl (fun K' hK => ?_) AllReadyH.nil)
              · go_simp
                have hN := hB.new2 (by decide)
                exact hK.out _ _ (hN.s.b6.cell (j := 0) rfl) (fun _ => ih _ _ _ ⟨3, true, true, true, A1, c1, A2, c2, A3, c3, B1, v.heap.size, B3, Nat.le_of_succ_le_succ (show 4 ≤ fuel + 1 from hf), by decide, by decide, by decide, by decide, hN, rfl, rfl⟩)
          | true =>
            cases z with
            | false =>
              refine wpAnyH_ready (rs := [19]) (by kernel_rfl) (by simp) (AllReadyH.cons (o := ⟨some 21, .alloc 46, _, _, _, none⟩) rfl (fun K' hK => ?_) AllReadyH.nil)
              · go_simp
                have hN := hB.new3 (by decide)
                exact hK.out _ _ (hN.s.b6.cell (j := 0) rfl) (fun _ => ih _ _ _ ⟨3, true, true, true, A1, c1, A2, c2, A3, c3, B1, B2, v.heap.size, Nat.le_of_succ_le_succ (show 4 ≤ fuel + 1 from hf), by decide, by decide, by decide, by decide, hN, rfl, rfl⟩)
            | true =>
              refine wpAnyH_ready (rs := [20]) (by kernel_rfl) (by simp) (AllReadyH.cons (o := ⟨none, .store 46 (.tmp 19) (.tmp 58), _, _, _, none⟩) rfl (fun K' hK => ?_) AllReadyH.nil)
              · have hb := hB.m1 rfl
                rw [if_neg (by decide)] at hb
                refine wp_store_abs 46 _ _ rfl _ 46 [.slice none 0 0, .int .i64 0] [.slice A1 n c1, .int .i64 Ea] rfl rfl hb (mk_sz _ _) rfl (mk_one _ _ _ _) ?_
                intro v' hb' o'
                have hN := hB.put1 hn1 o' hb'
                exact hK.out _ _ (hN.s.b6.cell (j := 0) rfl) (fun _ => ih _ _ _ ⟨4, true, true, true, A1, c1, A2, c2, A3, c3, B1, B2, B3, Nat.le_of_succ_le_succ (show 3 ≤ fuel + 1 from hf), by decide, by decide, by decide, by decide, hN, rfl, rfl⟩)
      · cases x with
        | false =>
          exact absurd (hv1 (by decide)) (by decide)
        | true =>
          cases y with
          | false =>
            exact absurd (hv2 (by decide)) (by decide)
          | true =>
            cases z with
            | false =>
              exact absurd (hv3 (by decide)) (by decide)
            | true =>
              refine wpAnyH_ready (rs := [21]) (by kernel_rfl) (by simp) (AllReadyH.cons (o := ⟨none, .store 46 (.tmp 20) (.tmp 64), _, _, _, none⟩) rfl (fun K' hK => ?_) AllReadyH.nil)
              · have hb := hB.m2 rfl
                rw [if_neg (by decide)] at hb
                refine wp_store_abs 46 _ _ rfl _ 46 [.slice none 0 0, .int .i64 0] [.slice A2 n c2, .int .i64 Eb] rfl rfl hb (mk_sz _ _) rfl (mk_one _ _ _ _) ?_
                intro v' hb' o'
                have hN := hB.put2 hn1 o' hb'
                exact hK.out _ _ (hN.s.b6.cell (j := 0) rfl) (fun _ => ih _ _ _ ⟨5, true, true, true, A1, c1, A2, c2, A3, c3, B1, B2, B3, Nat.le_of_succ_le_succ (show 2 ≤ fuel + 1 from hf), by decide, by decide, by decide, by decide, hN, rfl, rfl⟩)
      · cases x with
        | false =>
          exact absurd (hv1 (by decide)) (by decide)
        | true =>
          cases y with
          | false =>
            exact absurd (hv2 (by decide)) (by decide)
          | true =>
            cases z with
            | false =>
              exact absurd (hv3 (by decide)) (by decide)
            | true =>
              refine wpAnyH_ready (rs := [22]) (by kernel_rfl) (by simp) (AllReadyH.cons (o := ⟨none, .store 46 (.tmp 21) (.tmp 68), _, _, _, none⟩) rfl (fun K' hK => ?_) AllReadyH.nil)
              · have hb := hB.m3 rfl
                rw [if_neg (by decide)] at hb
                refine wp_store_abs 46 _ _ rfl _ 46 [.slice none 0 0, .int .i64 0] [.slice A3 n c3, .int .i64 Ec] rfl rfl hb (mk_sz _ _) rfl (mk_one _ _ _ _) ?_
                intro v' hb' o'
                have hN := hB.put3 hn1 o' hb'
                exact hK.out _ _ (hN.s.b6.cell (j := 0) rfl) (fun _ => ih _ _ _ ⟨6, true, true, true, A1, c1, A2, c2, A3, c3, B1, B2, B3, Nat.le_of_succ_le_succ (show 1 ≤ fuel + 1 from hf), by decide, by decide, by decide, by decide, hN, rfl, rfl⟩)
      · cases x with
        | false =>
          exact absurd (hv1 (by decide)) (by decide)
        | true =>
          cases y with
          | false =>
            exact absurd (hv2 (by decide)) (by decide)
          | true =>
            cases z with
            | false =>
              exact absurd (hv3 (by decide)) (by decide)
            | true =>
              refine wpAnyH_done (by kernel_rfl) ?_ _
              simp only [eq_self, if_true, Nat.reduceLeDiff]
              go_wp2
              go_meet
              exact ⟨A1, c1, A2, c2, A3, c3, B1, B2, B3, rfl, rfl, rfl, hB⟩
  case rest =>
    clear hS KM KL KU
    obtain ⟨A1, c1, A2, c2, A3, c3, B1, B2, B3, rfl, rfl, rfl, hB⟩ := hcut
    have hS := hB.s
    have m1 := hB.m1 rfl
    have m2 := hB.m2 rfl
    have m3 := hB.m3 rfl
    rw [if_pos (by decide)] at m1 m2 m3
    have s1 := hB.s1 (by decide)
    have s2 := hB.s2 (by decide)
    have s3 := hB.s3 (by decide)
    clear hB
    have e19a := m1.cell (j := 0) (v := .slice A1 n c1) rfl
    have e19b := m1.cell (j := 1) (v := .int .i64 Ea) rfl
    have e20a := m2.cell (j := 0) (v := .slice A2 n c2) rfl
    have e20b := m2.cell (j := 1) (v := .int .i64 Eb) rfl
    have e21a := m3.cell (j := 0) (v := .slice A3 n c3) rfl
    have e21b := m3.cell (j := 1) (v := .int .i64 Ec) rfl
    have e6 := hS.b6.cell (j := 0) (v := .slice A n c) rfl
    have e13 := hS.b13.cell (j := 0) (v := .slice (some ⟨ga, 0, none⟩) n ca) rfl
    have e15 := hS.b15.cell (j := 0) (v := .slice (some ⟨gb, 0, none⟩) n cb) rfl
    have e17 := hS.b17.cell (j := 0) (v := .slice (some ⟨gc, 0, none⟩) n cc) rfl
    go_upto_region 9 with (first
      | (go_at_call 20; (first | (with_reducible refine (same_self (some ⟨ga, 0, none⟩) n ca A1 c1 xa _ hS.da.sl s1 hn64).mono ?_) | (with_reducible refine (same_self (some ⟨gb, 0, none⟩) n cb A2 c2 xb _ hS.db.sl s2 hn64).mono ?_) | (with_reducible refine (same_self (some ⟨gc, 0, none⟩) n cc A3 c3 xc _ hS.dc.sl s3 hn64).mono ?_)); rintro e y1 ⟨rfl, k1⟩; clear e19a e19b e20a e20b e21a e21b e6 e13 e15 e17; replace hS := hS.keep k1; replace m1 := m1.keep k1; replace m2 := m2.keep k1; replace m3 := m3.keep k1; replace s1 := s1.keep k1; replace s2 := s2.keep k1; replace s3 := s3.keep k1; have e19a := m1.cell (j := 0) (v := .slice A1 n c1) rfl; have e19b := m1.cell (j := 1) (v := .int .i64 Ea) rfl; have e20a := m2.cell (j := 0) (v := .slice A2 n c2) rfl; have e20b := m2.cell (j := 1) (v := .int .i64 Eb) rfl; have e21a := m3.cell (j := 0) (v := .slice A3 n c3) rfl; have e21b := m3.cell (j := 1) (v := .int .i64 Ec) rfl; have e6 := hS.b6.cell (j := 0) (v := .slice A n c) rfl; have e13 := hS.b13.cell (j := 0) (v := .slice (some ⟨ga, 0, none⟩) n ca) rfl; have e15 := hS.b15.cell (j := 0) (v := .slice (some ⟨gb, 0, none⟩) n cb) rfl; have e17 := hS.b17.cell (j := 0) (v := .slice (some ⟨gc, 0, none⟩) n cc) rfl))
    clear e19a e19b e20a e20b e21a e21b e6 e13 e15 e17
    clear m1 m2 m3 s1 s2 s3 d1 d2 d3
    replace hS := hS.drew
    refine wp_region_held_drew (S := fun w' => w'.cell? ⟨w.heap.size, 0, none⟩ = some (.slice A n c)) (by kernel_rfl) (hS.b6.cell (j := 0) rfl) (fun hHeld => ?_)
    refine wpAnyH_ready (rs := [0]) (by kernel_rfl) (by simp) (AllReadyH.cons (o := ⟨some 106, .call { callee := .value (.func 10), args := #[], argTypes := #[] }, _, _, _, none⟩) rfl (fun K' hK => ?_) (AllReadyH.nil))
    go_simp
    refine (HN.out _).mono ?_
    rintro e y2 ⟨rfl, k2⟩
    replace hS := hS.keep k2
    refine hK.out _ _ (hS.b6.cell (j := 0) rfl) (fun hHeld => ?_)
    clear hK K'
    try simp only [Act.put, List.setIfInBounds_toArray, List.set_cons_zero, List.set_cons_succ]
    refine wpAnyH_take (i := 1) (oi := ⟨some 107, .move (.tmp 106), _, _, _, none⟩) (v := .bool true) rfl (by kernel_rfl) (by kernel_rfl) (by kernel_rfl) (fun _ _ _ h => h) (Or.inl ⟨by rfl, fun _ _ => rfl⟩) hHeld ?_
    simp only [Act.put, List.setIfInBounds_toArray, List.set_cons_zero, List.set_cons_succ]
    refine wpAnyH_take (i := 2) (oi := ⟨some 108, .load 24 (.tmp 6), _, _, _, _⟩) (v := .agg #[.slice A n c]) rfl (by kernel_rfl) (by kernel_rfl) (by kernel_rfl) (fun _ _ _ h => h) (Or.inl ⟨by rfl, fun w hSw => by have e1 := hSw; clear hSw; go_simp⟩) hHeld ?_
    simp only [Act.put, List.setIfInBounds_toArray, List.set_cons_zero, List.set_cons_succ]
    refine wpAnyH_take (i := 3) (oi := ⟨some 109, .move (.tmp 1), _, _, _, _⟩) (v := .int .u32 root) rfl (by kernel_rfl) (by kernel_rfl) (by kernel_rfl) (fun _ _ _ h => h) (Or.inl ⟨by rfl, fun _ _ => rfl⟩) hHeld ?_
    simp only [Act.put, List.setIfInBounds_toArray, List.set_cons_zero, List.set_cons_succ]
    refine wpAnyH_take (i := 5) (oi := ⟨some 111, .load 24 (.tmp 6), _, _, _, _⟩) (v := .agg #[.slice A n c]) rfl (by kernel_rfl) (by kernel_rfl) (by kernel_rfl) (fun _ _ _ h => h) (Or.inl ⟨by rfl, fun w hSw => by have e1 := hSw; clear hSw; go_simp⟩) hHeld ?_
    simp only [Act.put, List.setIfInBounds_toArray, List.set_cons_zero, List.set_cons_succ]
    refine wpAnyH_take (i := 6) (oi := ⟨some 112, .move (.tmp 1), _, _, _, _⟩) (v := .int .u32 root) rfl (by kernel_rfl) (by kernel_rfl) (by kernel_rfl) (fun _ _ _ h => h) (Or.inl ⟨by rfl, fun _ _ => rfl⟩) hHeld ?_
    simp only [Act.put, List.setIfInBounds_toArray, List.set_cons_zero, List.set_cons_succ]
    refine wpAnyH_ready (rs := [4]) (by kernel_rfl) (by simp) (AllReadyH.cons (o := ⟨some 110, .call { callee := .value (.func 22), args := #[.tmp 108, .tmp 109], argTypes := #[24, 25] }, _, _, _, _⟩) rfl (fun K' hK => ?_) (AllReadyH.nil))
    go_simp
    refine (HT.out _ hS.l).mono ?_
    rintro e y3 ⟨L1, k1', rfl, q1, k3⟩
    replace hS := hS.keep k3
    refine hK.out _ _ (hS.b6.cell (j := 0) rfl) (fun hHeld => ?_)
    clear hK K'
    try simp only [Act.put, List.setIfInBounds_toArray, List.set_cons_zero, List.set_cons_succ]
    refine wpAnyH_ready (rs := [7]) (by kernel_rfl) (by simp) (AllReadyH.cons (o := ⟨some 113, .call { callee := .value (.func 23), args := #[.tmp 111, .tmp 112], argTypes := #[24, 25] }, _, _, _, _⟩) rfl (fun K' hK => ?_) (AllReadyH.nil))
    go_simp
    refine (KT.out _ hS.l).mono ?_
    rintro e y4 ⟨L2, k2', rfl, q2, k4⟩
    replace hS := hS.keep k4
    replace q1 := q1.keep k4
    refine hK.out _ _ (hS.b6.cell (j := 0) rfl) (fun hHeld => ?_)
    clear hK K'
    try simp only [Act.put, List.setIfInBounds_toArray, List.set_cons_zero, List.set_cons_succ]
    refine wpAnyH_ready (rs := [8]) (by kernel_rfl) (by simp) (AllReadyH.cons (o := ⟨some 114, .call { callee := .value (.func 21), args := #[.tmp 110, .tmp 113], argTypes := #[52, 52] }, _, _, _, _⟩) rfl (fun K' hK => ?_) (AllReadyH.nil))
    go_simp
    refine (maps_self L1 k1' L2 k2' L nl _ hnl q1 q2 hll).mono ?_
    rintro e y5 ⟨rfl, k5⟩
    replace hS := hS.keep k5
    refine hK.out _ _ (hS.b6.cell (j := 0) rfl) (fun hHeld => ?_)
    clear hK K'
    try simp only [Act.put, List.setIfInBounds_toArray, List.set_cons_zero, List.set_cons_succ]
    refine wpAnyH_take (i := 9) (oi := ⟨some 115, .pick (.tmp 107) (.tmp 114) (.const (.bool false)), _, _, _, none⟩) (v := .bool true) rfl (by kernel_rfl) (by kernel_rfl) (by kernel_rfl) (fun _ _ _ h => h) (Or.inl ⟨by rfl, fun w _ => by go_simp⟩) hHeld ?_
    simp only [Act.put, List.setIfInBounds_toArray, List.set_cons_zero, List.set_cons_succ]
    refine wpAnyH_take (i := 10) (oi := ⟨some 12, .assign (.tmp 115), _, _, _, none⟩) (v := .bool true) rfl (by kernel_rfl) (by kernel_rfl) (by kernel_rfl) (fun _ _ _ h => h) (Or.inl ⟨by rfl, fun _ _ => rfl⟩) hHeld ?_
    simp only [Act.put, List.setIfInBounds_toArray, List.set_cons_zero, List.set_cons_succ]
    refine wpAnyH_done (by kernel_rfl) ?_ _
    clear hHeld
    go_wp2
    go_ret
    exact ⟨rfl, hS.l⟩
theorem builds_all (A : Option Addr) (n c : Nat) (root va pa r tb : Int) (b : Wm.Bs) (w : World) (hs : Sl w 128 A n (U b)) (hb : Wm.isBs b) (hnc : n ≤ c ∧ c ≤ maxLen) (hr : 0 ≤ root ∧ root ≤ 4294967295) (hv : 0 ≤ va ∧ va ≤ 4294967295) (hp : 0 ≤ pa ∧ pa ≤ 4294967295) (hq : -9223372036854775808 ≤ r ∧ r ≤ 9223372036854775807) (ht : 0 ≤ tb ∧ tb ≤ 4294967295) :
    Calls Try.prog 4 #[.agg #[.slice A n c], .int .u32 root, .int .u32 va, .int .u32 pa, .int .i64 r, .int .u32 tb] w fun e w' => e = .returned (.bool true) ∧ Later w w' := by
  by_cases h1 : 1 ≤ n ∧ n ≤ 64
  · exact builds_yes A n c root va pa r tb b w hs hb h1 hnc hr hv hp hq ht
  · exact builds_bad A n c root va pa r tb b w h1

set_option maxRecDepth 100000 in
theorem tableBuildsAsSpecified_lifted (os : Os) (started : os.Started) (H : Type) (enc : TypeId × Value → H) :
    ReturnsInHanded {} Try.checked os 4 .any (Rows.tableBuildsAsSpecifiedSpec.pre6 enc Try.prog Try.f4 Rows.tableBuildsAsSpecifiedRow.domain false) (Rows.tableBuildsAsSpecifiedSpec.post enc Try.prog Try.f4 false true false false) := by
  refine returnsInHanded_of_change (C := Try.checked) ownK started (by kernel_rfl) Try.func4
    (ChangeSpec.witness6 (enc := enc) (C := Try.checked) false ⟨#[], #[.agg #[.slice none 0 0], .int .u32 0, .int .u32 0, .int .u32 0, .int .i64 0, .int .u32 0], []⟩ 8 (by kernel_rfl) (by kernel_rfl) (by kernel_rfl) (by kernel_rfl)) ?_
  intro W base args ds gs before hval0 hW hcnd _
  have hval : ∀ (j : Nat) t v, Try.f4.params[j]? = some t → args[j]? = some v → Value.okWide Try.prog W .any base t v := hval0
  have hW' := hW
  obtain ⟨p, q, hA0, hV, rfl, hfz, hnd⟩ := hW
  have hA : DataW.TrodAll enc Try.prog W 0 (fun _ => true) true Try.f4.params.toList args.toList ds p := hA0
  rw [Try.params4] at hA hval
  obtain ⟨v0, vs0, d0, ds0, p0, q0, hargs, rfl, rfl, h0, r0⟩ := trodAll_cons hA
  obtain ⟨v1, vs1, d1, ds1, p1, q1, rfl, rfl, rfl, h1, r1⟩ := trodAll_cons r0
  obtain ⟨v2, vs2, d2, ds2, p2, q2, rfl, rfl, rfl, h2, r2⟩ := trodAll_cons r1
  obtain ⟨v3, vs3, d3, ds3, p3, q3, rfl, rfl, rfl, h3, r3⟩ := trodAll_cons r2
  obtain ⟨v4, vs4, d4, ds4, p4, q4, rfl, rfl, rfl, h4, r4⟩ := trodAll_cons r3
  obtain ⟨v5, vs5, d5, ds5, p5, q5, rfl, rfl, rfl, h5, r5⟩ := trodAll_cons r4
  obtain ⟨rfl, rfl, rfl⟩ := trodAll_nil r5
  obtain rfl : args = #[v0, v1, v2, v3, v4, v5] := by cases args; simp_all
  obtain ⟨rfl, rfl⟩ := trodVars_none hV
  obtain ⟨A0, n0, c0, b0, rfl, x0, y0, s0, z0⟩ := mem_arg (K := 128) (by omega) Try.underlying24 rfl Try.underlying22 Try.underlying120 Try.underlying5 (by kernel_rfl) (by kernel_rfl) (by kernel_rfl) (by kernel_rfl) (hval 0 24 v0 rfl rfl) h0
  obtain ⟨a1, rfl, z1⟩ := u32_arg Try.underlying25 (hval 1 25 v1 rfl rfl) h1
  obtain ⟨a2, rfl, z2⟩ := u32_arg Try.underlying25 (hval 2 25 v2 rfl rfl) h2
  obtain ⟨a3, rfl, z3⟩ := u32_arg Try.underlying25 (hval 3 25 v3 rfl rfl) h3
  obtain ⟨a4, rfl, z4⟩ := int_arg Try.underlying3 (hval 4 3 v4 rfl rfl) h4
  obtain ⟨a5, rfl, z5⟩ := u32_arg Try.underlying25 (hval 5 25 v5 rfl rfl) h5
  clear hA0 hval0
  simp only [List.append_nil] at hW'
  refine (builds_all A0 n0 c0 a1 a2 a3 a4 a5 b0 W s0 z0 ⟨x0, y0⟩ z1 z2 z3 z4 z5).mono fun e W' ⟨he, hw⟩ => ?_
  subst he
  exact ⟨_, rfl, law_post laidK rfl (by kernel_rfl) (by kernel_rfl) Try.underlying4 (by kernel_rfl) hW' rfl hw⟩
set_option maxRecDepth 100000 in
/-- The statement. -/
theorem tableBuildsAsSpecified_said : Rows.TableBuildsAsSpecifiedSaid :=
  OpenClaim.holds_of_wide 4 Try.f4 rfl rfl rfl rfl rfl rfl rfl ⟨rfl, rfl, rfl, rfl, rfl⟩ rfl rfl rfl rfl rfl (by kernel_rfl) Try.func4 (by kernel_rfl)
    (of_decide_eq_true (by kernel_rfl)) (by unfold Func.isWrapper; first | (rw [if_pos (by decide +kernel)]; kernel_rfl) | (rw [if_neg (by decide +kernel)]; exact ⟨rfl, rfl⟩))
    (fun os started H enc _ => tableBuildsAsSpecified_lifted os started H enc)
#print axioms tableBuildsAsSpecified_said
end Go.Proofs.Ytempcbdlaoblhab
