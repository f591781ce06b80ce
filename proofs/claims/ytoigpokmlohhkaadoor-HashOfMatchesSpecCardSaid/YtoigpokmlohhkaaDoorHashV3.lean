/-
  THE STATEMENT HashOfMatchesSpec: Of returns the digest that the specification defines, and depends on the lowest byte of the tag alone.
-/
import Derived.Test.YtoigpokmlohhkaaDoorHashS2
import Derived.Test.YtoigpokmlohhkaaDoorHashFe
import Derived.Deep.RegionHeld3
namespace Go.Proofs.YtoigpokmlohhkaaDoor
open Go.RowKit Go.ChangeShapes Go.WideShapes Go.ChangeAt

theorem low8_is (x : Int) : bits .and .i64 x 255 = x % 256 := by
  have hn : (BitVec.ofInt 64 x &&& BitVec.ofInt 64 255).toNat = (x % 256).toNat := by
    have h1 : (BitVec.ofInt 64 255).toNat = 2 ^ 8 - 1 := by decide
    rw [BitVec.toNat_and, h1, Nat.and_two_pow_sub_one_eq_mod, BitVec.toNat_ofInt]
    show (x % 18446744073709551616).toNat % 256 = (x % 256).toNat
    omega
  show IntKind.i64.wrap (((BitVec.ofInt 64 x &&& BitVec.ofInt 64 255).toNat : Nat) : Int) = _
  rw [hn, wraps_i64 _ (by omega) (by omega)]
  omega
theorem inputB_low (tag : Int) (l : List ByteArray) : inputB (bits .and .i64 tag 255) l = inputB tag l := by
  unfold inputB
  congr 2
  have h : bits .and .i64 tag 255 % 256 = tag % 256 := by
    rw [low8_is]; omega
  rw [h]
set_option maxRecDepth 100000 in
set_option maxHeartbeats 1000000 in
theorem lawOf_any (tag : Int) (A : Option Addr) (n c : Nat) (l : List ByteArray) (w : World) (tab0 : Tab0 w) (tab : Tab w) (hs : Sl w 1 A n (Strs l)) (hn : n ≤ maxLen) (hz : ∀ s ∈ l, s.size ≤ maxLen) :
    Calls Tryd.prog 6 #[.int .i64 tag, .slice A n c] w fun e w' => e = .returned (.bool true) ∧ Later w w' := by
  have HS := Lib.hid (sanity_any w tab)
  obtain ⟨F, hF⟩ : ∃ F, F = fewB l := ⟨_, rfl⟩
  have HW := Lib.hid fun w' (hw : Later w w') => by have h := few_any A n c l w' (hs.keep hw) hn hz; rw [← hF] at h; exact h
  cases F with
  | false =>
    clear hF tab tab0 hs
    unfold maxLen at hn
    go_enter Tryd.func6, Tryd.ntmps6
    go_wp2_with (first
      | (go_at_call 14; refine HS.out.mono ?_; rintro e w1 ⟨rfl, l1⟩)
      | (go_at_call 15; refine (HW.out w1 l1).mono ?_; rintro e w2 ⟨rfl, rfl⟩))
    go_ret
    exact ⟨rfl, l1⟩
  | true =>
    have hln := hs.slen
    have hb : n ≤ 12 ∧ ∀ s ∈ l, s.size ≤ 400 := by
      unfold fewB at hF
      have h := hF.symm
      rw [Bool.and_eq_true, decide_eq_true_eq, List.all_eq_true] at h
      exact ⟨by omega, fun s hs => of_decide_eq_true (h.2 s hs)⟩
    obtain ⟨hn12, hall⟩ := hb
    obtain ⟨D, hD⟩ : ∃ D, D = digOf (inputB tag l) := ⟨_, rfl⟩
    have hDl : D.length = 16 := by rw [hD]; exact digOf_len _
    obtain ⟨G, hG⟩ : ∃ G, G = U D := ⟨_, rfl⟩
    have e1 : (shaC (inputB tag l)).take 16 = G := by rw [hG, hD, U_digOf]
    have e2 : U (digOf (inputB tag l)) = G := by rw [hG, hD]
    have C1 := Lib.hid fun w' (hw : Later w w') => by have h := of_any tag A n c l w' (hs.keep hw) hall (by omega) (tab.keep hw); rw [e1] at h; exact h
    have C2 := Lib.hid fun w' (hw : Later w w') => by have h := refOf_any tag A n c l w' (hs.keep hw) hall (by omega) (tab0.keep hw); rw [e2] at h; exact h
    have C3 := Lib.hid fun w' (hw : Later w w') => by have h := of_any (bits .and .i64 tag 255) A n c l w' (hs.keep hw) hall (by omega) (tab.keep hw); rw [inputB_low, e1] at h; exact h
    have heq : ∀ w' : World, (Op.equalIn 10000 47 (.agg G.toArray) (.agg G.toArray)).run Tryd.prog w' = .ok true w' := fun w' => by rw [hG, dig_eq hDl hDl w', decide_eq_true rfl]
    have hgd : Tryd.prog.eqGuardType Tryd.prog.depth 47 = false := by kernel_rfl
    have hszG : (Tryd.prog.info? 47).map (·.size) = some G.length := by rw [hG, U_length, hDl]; kernel_rfl
    have hG1 : ∀ v ∈ G, v.oneCell' = true := by rw [hG]; exact U_one _
    have hGl : (PartB [] 16).length = G.length := by rw [hG, U_length, hDl]; rfl
    have hG16 : G.length = 16 := by rw [hG, U_length, hDl]
    have hu47 := Tryd.underlying47
    have HG1 := Lib.hid hG1; have HGl := Lib.hid hGl; have HU := Lib.hid hu47
    clear hF hz hG hD hDl e1 e2 hG1 hGl tab tab0 hs hln hall hu47
    unfold maxLen at hn
    go_enter Tryd.func6, Tryd.ntmps6
    go_wp2_with (first
      | (go_at_call 14; refine HS.out.mono ?_; rintro e w1 ⟨rfl, l1⟩)
      | (go_at_call 15; refine (HW.out w1 l1).mono ?_; rintro e w2 ⟨rfl, rfl⟩)
      | (go_at_call 26; (with_reducible refine (C1.out w1 l1).mono ?_); rintro e w3 ⟨rfl, l3⟩)
      | ((with_reducible refine wpList_store_abs (o := ⟨none, .store 47 (.tmp 6) (.tmp 14), _, _, _, none⟩) rfl _ _ _ rfl w3.heap.size 47 (PartB [] 16) G ?_ ?_ ?_ hszG HGl.out HG1.out ?_); rfl; rfl; exact Blk.new _ _ _ _ rfl; intro w4 g6 o6))
    have l4 : Later w w4 := Below.only ((Later.trans_ l1 l3).alloc (Later.trans_ l1 l3).size _) o6 (Later.trans_ l1 l3).size
    have hu47 := HU.out
    have hG1 := HG1.out
    have KP : Hid (∀ w', Later w4 w' → (w'.rangeAt w3.heap.size 0 G ∧ True)) := Lib.hid fun w' hl => by
      have h := (g6.keep hl).range 0 16
      rw [List.drop_zero, List.take_of_length_le (by omega)] at h
      exact ⟨h, trivial⟩
    clear o6 l1 l3
    refine wp_region_held_drew (S := fun w' => w'.rangeAt w3.heap.size 0 G ∧ True) (by kernel_rfl) (KP.out _ (Below.refl _ _).drew) (fun hHeld => ?_)
    refine wpAnyH_take (i := 0) (oi := ⟨some 15, .move (.tmp 5), 4, _, _, none⟩) (v := .bool true) rfl (by kernel_rfl) (by kernel_rfl) (by kernel_rfl) (fun _ _ _ h => h) (Or.inl ⟨by rfl, ?_⟩) hHeld ?_
    · intro w hSw
      have hSw1 := hSw.1
      have hSw2 := hSw.2
      clear hSw
      go_simp
    simp only [Act.put, List.setIfInBounds_toArray, List.set_cons_zero, List.set_cons_succ]
    refine wpAnyH_take (i := 1) (oi := ⟨some 16, .move (.tmp 15), 4, _, _, none⟩) (v := .bool true) rfl (by kernel_rfl) (by kernel_rfl) (by kernel_rfl) (fun _ _ _ h => h) (Or.inl ⟨by rfl, ?_⟩) hHeld ?_
    · intro w hSw
      have hSw1 := hSw.1
      have hSw2 := hSw.2
      clear hSw
      go_simp
    simp only [Act.put, List.setIfInBounds_toArray, List.set_cons_zero, List.set_cons_succ]
    refine wpAnyH_take (i := 2) (oi := ⟨some 17, .load 47 (.tmp 6), 47, _, _, some (1, true)⟩) (v := .agg G.toArray) rfl (by kernel_rfl) (by kernel_rfl) (by kernel_rfl) (fun _ _ _ h => h) (yieldsIf_load_mid (by rfl) _ _ rfl _ _ rfl _ _ (fun w h => h.1) hu47 rfl hszG) hHeld ?_
    simp only [Act.put, List.setIfInBounds_toArray, List.set_cons_zero, List.set_cons_succ]
    refine wpAnyH_take (i := 3) (oi := ⟨some 18, .move (.tmp 0), 3, _, _, some (1, true)⟩) (v := .int .i64 tag) rfl (by kernel_rfl) (by kernel_rfl) (by kernel_rfl) (fun _ _ _ h => h) (Or.inl ⟨by rfl, ?_⟩) hHeld ?_
    · intro w hSw
      have hSw1 := hSw.1
      have hSw2 := hSw.2
      clear hSw
      go_simp
    simp only [Act.put, List.setIfInBounds_toArray, List.set_cons_zero, List.set_cons_succ]
    refine wpAnyH_take (i := 4) (oi := ⟨some 19, .move (.tmp 1), 22, _, _, some (1, true)⟩) (v := .slice A n c) rfl (by kernel_rfl) (by kernel_rfl) (by kernel_rfl) (fun _ _ _ h => h) (Or.inl ⟨by rfl, ?_⟩) hHeld ?_
    · intro w hSw
      have hSw1 := hSw.1
      have hSw2 := hSw.2
      clear hSw
      go_simp
    simp only [Act.put, List.setIfInBounds_toArray, List.set_cons_zero, List.set_cons_succ]
    refine wpAnyH_ready (rs := [5]) (by kernel_rfl) (by simp) (AllReadyH.cons (o := ⟨some 20, .call { callee := .value (.func 27), args := #[.tmp 18, .tmp 19], argTypes := #[3, 22] }, 47, _, _, some (1, true)⟩) rfl (fun K hK => ?_) AllReadyH.nil)
    go_simp
    refine (C2.out _ l4.drew).mono ?_
    rintro e w5 ⟨rfl, l5⟩
    refine hK.out _ _ (KP.out _ (Later.trans_ (Below.refl _ _).drew l5)) (fun hHeld => ?_)
    clear hK K
    try simp only [Act.put, List.setIfInBounds_toArray, List.set_cons_zero, List.set_cons_succ]
    refine wpAnyH_take (i := 6) (oi := ⟨some 21, .binOp .eql 47 (.tmp 17) (.tmp 20) 47, 4, _, _, some (1, true)⟩) (v := .bool true) rfl (by kernel_rfl) (by kernel_rfl) (by kernel_rfl) (fun _ _ _ h => h) (Or.inl ⟨by rfl, ?_⟩) hHeld ?_
    · intro w hSw
      have hSw1 := hSw.1
      have hSw2 := hSw.2
      clear hSw
      go_simp
    simp only [Act.put, List.setIfInBounds_toArray, List.set_cons_zero, List.set_cons_succ]
    refine wpAnyH_take (i := 7) (oi := ⟨some 22, .pick (.tmp 16) (.tmp 21) (.const (.bool false)), 4, _, _, none⟩) (v := .bool true) rfl (by kernel_rfl) (by kernel_rfl) (by kernel_rfl) (fun _ _ _ h => h) (Or.inl ⟨by rfl, ?_⟩) hHeld ?_
    · intro w hSw
      have hSw1 := hSw.1
      have hSw2 := hSw.2
      clear hSw
      go_simp
    simp only [Act.put, List.setIfInBounds_toArray, List.set_cons_zero, List.set_cons_succ]
    refine wpAnyH_take (i := 8) (oi := ⟨some 23, .move (.tmp 22), 4, _, _, none⟩) (v := .bool true) rfl (by kernel_rfl) (by kernel_rfl) (by kernel_rfl) (fun _ _ _ h => h) (Or.inl ⟨by rfl, ?_⟩) hHeld ?_
    · intro w hSw
      have hSw1 := hSw.1
      have hSw2 := hSw.2
      clear hSw
      go_simp
    simp only [Act.put, List.setIfInBounds_toArray, List.set_cons_zero, List.set_cons_succ]
    refine wpAnyH_take (i := 9) (oi := ⟨some 24, .load 47 (.tmp 6), 47, _, _, some (8, true)⟩) (v := .agg G.toArray) rfl (by kernel_rfl) (by kernel_rfl) (by kernel_rfl) (fun _ _ _ h => h) (yieldsIf_load_mid (by rfl) _ _ rfl _ _ rfl _ _ (fun w h => h.1) hu47 rfl hszG) hHeld ?_
    simp only [Act.put, List.setIfInBounds_toArray, List.set_cons_zero, List.set_cons_succ]
    refine wpAnyH_take (i := 10) (oi := ⟨some 25, .move (.tmp 0), 3, _, _, some (8, true)⟩) (v := .int .i64 tag) rfl (by kernel_rfl) (by kernel_rfl) (by kernel_rfl) (fun _ _ _ h => h) (Or.inl ⟨by rfl, ?_⟩) hHeld ?_
    · intro w hSw
      have hSw1 := hSw.1
      have hSw2 := hSw.2
      clear hSw
      go_simp
    simp only [Act.put, List.setIfInBounds_toArray, List.set_cons_zero, List.set_cons_succ]
    refine wpAnyH_take (i := 11) (oi := ⟨some 26, .binOp .and 3 (.tmp 25) (.const (.int .i64 255)) 3, 3, _, _, some (8, true)⟩) (v := .int .i64 (bits .and .i64 tag 255)) rfl (by kernel_rfl) (by kernel_rfl) (by kernel_rfl) (fun _ _ _ h => h) (Or.inl ⟨by rfl, ?_⟩) hHeld ?_
    · intro w hSw
      have hSw1 := hSw.1
      have hSw2 := hSw.2
      clear hSw
      go_simp
    simp only [Act.put, List.setIfInBounds_toArray, List.set_cons_zero, List.set_cons_succ]
    refine wpAnyH_take (i := 12) (oi := ⟨some 27, .move (.tmp 1), 22, _, _, some (8, true)⟩) (v := .slice A n c) rfl (by kernel_rfl) (by kernel_rfl) (by kernel_rfl) (fun _ _ _ h => h) (Or.inl ⟨by rfl, ?_⟩) hHeld ?_
    · intro w hSw
      have hSw1 := hSw.1
      have hSw2 := hSw.2
      clear hSw
      go_simp
    simp only [Act.put, List.setIfInBounds_toArray, List.set_cons_zero, List.set_cons_succ]
    refine wpAnyH_ready (rs := [13]) (by kernel_rfl) (by simp) (AllReadyH.cons (o := ⟨some 28, .call { callee := .value (.func 26), args := #[.tmp 26, .tmp 27], argTypes := #[3, 22] }, 47, _, _, some (8, true)⟩) rfl (fun K hK => ?_) AllReadyH.nil)
    go_simp
    refine (C3.out _ (Later.trans_ l4.drew l5)).mono ?_
    rintro e w6 ⟨rfl, l6⟩
    refine hK.out _ _ (KP.out _ (Later.trans_ (Later.trans_ (Below.refl _ _).drew l5) l6)) (fun hHeld => ?_)
    clear hK K
    try simp only [Act.put, List.setIfInBounds_toArray, List.set_cons_zero, List.set_cons_succ]
    refine wpAnyH_take (i := 14) (oi := ⟨some 29, .binOp .eql 47 (.tmp 24) (.tmp 28) 47, 4, _, _, some (8, true)⟩) (v := .bool true) rfl (by kernel_rfl) (by kernel_rfl) (by kernel_rfl) (fun _ _ _ h => h) (Or.inl ⟨by rfl, ?_⟩) hHeld ?_
    · intro w hSw
      have hSw1 := hSw.1
      have hSw2 := hSw.2
      clear hSw
      go_simp
    simp only [Act.put, List.setIfInBounds_toArray, List.set_cons_zero, List.set_cons_succ]
    refine wpAnyH_take (i := 15) (oi := ⟨some 30, .pick (.tmp 23) (.tmp 29) (.const (.bool false)), 4, _, _, none⟩) (v := .bool true) rfl (by kernel_rfl) (by kernel_rfl) (by kernel_rfl) (fun _ _ _ h => h) (Or.inl ⟨by rfl, ?_⟩) hHeld ?_
    · intro w hSw
      have hSw1 := hSw.1
      have hSw2 := hSw.2
      clear hSw
      go_simp
    simp only [Act.put, List.setIfInBounds_toArray, List.set_cons_zero, List.set_cons_succ]
    refine wpAnyH_take (i := 16) (oi := ⟨some 4, .assign (.tmp 30), 4, _, _, none⟩) (v := .bool true) rfl (by kernel_rfl) (by kernel_rfl) (by kernel_rfl) (fun _ _ _ h => h) (Or.inl ⟨by rfl, ?_⟩) hHeld ?_
    · intro w hSw
      have hSw1 := hSw.1
      have hSw2 := hSw.2
      clear hSw
      go_simp
    simp only [Act.put, List.setIfInBounds_toArray, List.set_cons_zero, List.set_cons_succ]
    refine wpAnyH_done (by kernel_rfl) ?_ _
    go_wp2
    go_ret
    exact ⟨rfl, Later.trans_ (Later.trans_ l4.drew l5) l6⟩


set_option maxRecDepth 100000 in
theorem hashOfMatchesSpec_contract (H : Type) (enc : TypeId × Value → H) (W : World) (base : Nat) (args : Array Value) (ds gs : List (DataW H)) (before : List MemPlace)
    (hval : ∀ (j : Nat) t v, Tryd.f6.params[j]? = some t → args[j]? = some v → Value.okWide Tryd.prog W .any base t v)
    (hW : DataW.Whole enc Tryd.prog Tryd.f6.params.toList Rows.hashOfMatchesSpecSpec.vars false W args.toList ds gs before) (hL : laidMetH Tryd.prog Rows.hashOfMatchesSpecRow.laid W) :
    Calls Tryd.prog 6 args W fun e W' => ∃ v, e = .returned v ∧ Rows.hashOfMatchesSpecSpec.post enc Tryd.prog Tryd.f6 false true false false W args v W' := by
  have hW' := hW
  obtain ⟨tab0, tab⟩ : Tab0 W ∧ Tab W := tabs_of hL
  obtain ⟨p, q, hA0, hV, rfl, _, _⟩ := hW
  have hA : DataW.TrodAll enc Tryd.prog W 0 (fun _ => true) true Tryd.f6.params.toList args.toList ds p := hA0
  rw [Tryd.params6] at hA hval
  obtain ⟨v0, vs0, d0, ds0, p0, q0, hargs, rfl, rfl, h0, r0⟩ := trodAll_cons hA
  obtain ⟨v1, vs1, d1, ds1, p1, q1, rfl, rfl, rfl, h1, r1⟩ := trodAll_cons r0
  obtain ⟨rfl, rfl, rfl⟩ := trodAll_nil r1
  obtain rfl : args = #[v0, v1] := by cases args; simp_all
  obtain ⟨rfl, rfl⟩ := trodVars_none hV
  obtain ⟨n0, rfl, x0, y0⟩ := int_arg Tryd.underlying3 (hval 0 3 v0 rfl rfl) h0
  obtain ⟨A1, n1, c1, l1, rfl, x1, y1, s1, z1⟩ := strs_arg Tryd.underlying22 Tryd.underlying9 (by kernel_rfl) (hval 1 22 v1 rfl rfl) h1
  clear hA0
  simp only [List.append_nil] at hW'
  refine (lawOf_any n0 A1 n1 c1 l1 W tab0 tab s1 (Nat.le_trans x1 y1) z1).mono fun e W' ⟨he, hw⟩ => ?_
  subst he
  exact ⟨_, rfl, law_post laidK rfl (by kernel_rfl) (by kernel_rfl) Tryd.underlying4 (by kernel_rfl) hW' rfl hw⟩
set_option maxRecDepth 100000 in
theorem hashOfMatchesSpec_met (os : Os) : laidMet Tryd.prog Rows.hashOfMatchesSpecRow.laid ((laidWorld2 os).forCall (fun _ _ => 0) ⟨#[], #[.int .i64 0, .slice none 0 0], []⟩).memory :=
  laidMet_of_run' 8 (by kernel_rfl) (by kernel_rfl)
set_option maxRecDepth 100000 in
theorem hashOfMatchesSpec_reads (os : Os) {H : Type} (enc : TypeId × Value → H) : ∃ places, DataW.whole enc Tryd.prog ((laidWorld2 os).forCall (fun _ _ => 0) ⟨#[], #[.int .i64 0, .slice none 0 0], []⟩).memory Tryd.f6.params.toList Rows.hashOfMatchesSpecSpec.vars false (#[.int .i64 0, .slice none 0 0] : Array Value).toList 8 = some ([.lit (.int .i64 0), .nil], [], places) :=
  ⟨[], by kernel_rfl⟩

set_option maxRecDepth 100000 in
theorem hashOfMatchesSpec_lifted (os : Os) (started : os.Started) (H : Type) (enc : TypeId × Value → H) (F : Stop.Interp) :
    ReturnsInHanded {} Tryd.checked os 6 .any ((OpenSpec.ofChange Rows.hashOfMatchesSpecSpec).preRow enc Tryd.prog Tryd.f6 Rows.hashOfMatchesSpecRow.domain false Rows.hashOfMatchesSpecRow.laid) (((OpenSpec.ofChange Rows.hashOfMatchesSpecSpec).at F).post enc Tryd.prog Tryd.f6 false true false false) := by
  obtain ⟨places, hx⟩ := hashOfMatchesSpec_reads os enc
  refine returnsInHanded_of_row (C := Tryd.checked) (s := OpenSpec.ofChange Rows.hashOfMatchesSpecSpec) ownK started (by kernel_rfl) Tryd.func6
    (witness_row_at (enc := enc) (C := Tryd.checked) false (laidWorld2 os) #[.int .i64 0, .slice none 0 0] rfl (by kernel_rfl) (by kernel_rfl) (by kernel_rfl)
      (OpenSpec.preRow_of_cond 8 hx (by kernel_rfl) (fun k hk => by cases hk) (by kernel_rfl) (hashOfMatchesSpec_met os))) ?_
  intro W base args ds gs before hval hW _ _ _ hL _ _
  exact hashOfMatchesSpec_contract H enc W base args ds gs before hval hW hL

set_option maxRecDepth 100000 in
theorem hashOfMatchesSpec_said : Rows.HashOfMatchesSpecSaid :=
  OpenClaim.holds_of_cond 6 Tryd.f6 rfl rfl rfl rfl rfl rfl rfl ⟨rfl, rfl, rfl, rfl, rfl⟩ rfl rfl rfl rfl rfl (by kernel_rfl) Tryd.func6 (by kernel_rfl)
    (of_decide_eq_true (by kernel_rfl)) (by unfold Func.isWrapper; first | (rw [if_pos (by decide +kernel)]; kernel_rfl) | (rw [if_neg (by decide +kernel)]; exact ⟨rfl, rfl⟩))
    (fun os started H enc _ F => by rw [OpenClaim.pre_eq_preRow]; exact hashOfMatchesSpec_lifted os started H enc F)

set_option maxRecDepth 100000 in
theorem hashOfMatchesSpec_plain (f : FuncId) (fn : Func) (hf : Tryd.pinned.checked.prog.funcNamed "simulacrum/simulacrumlaw02.HashOfMatchesSpec" = some f) (hfn : Tryd.pinned.checked.prog.funcs[f]? = some fn) :
    false = Tryd.pinned.checked.prog.looks [] ∧ ∀ (j : Nat) t, fn.params[j]? = some t → Tryd.pinned.checked.prog.wantsStandIn t = false := by
  obtain rfl : f = 6 := Option.some.inj ((show Tryd.prog.funcNamed "simulacrum/simulacrumlaw02.HashOfMatchesSpec" = some 6 by kernel_rfl).symm.trans hf) |>.symm
  obtain rfl : fn = Tryd.f6 := (Option.some.inj (Tryd.func6.symm.trans hfn)).symm
  refine ⟨by kernel_rfl, fun j t ht => ?_⟩
  exact wants_none 6 Tryd.f6.params (by kernel_rfl) j t ht

set_option maxRecDepth 100000 in
/-- The card. -/
theorem hashOfMatchesSpec_card : Rows.HashOfMatchesSpecCardSaid :=
  Claim7.holds_tied_plain_at .later [] _ _ _ _ hashOfMatchesSpec_said (fun _ h => by cases h) (by kernel_rfl) (fun _ h => by cases h) hashOfMatchesSpec_row_tie rfl ⟨rfl, rfl⟩ (by kernel_rfl) rfl hashOfMatchesSpec_plain (by kernel_rfl)
#print axioms hashOfMatchesSpec_card

end Go.Proofs.YtoigpokmlohhkaaDoor
