/-
  THE STATEMENT HashSumMatchesSpec: Sum of every byte sequence is the hash that the specification defines.
-/
import Derived.Test.YtoigpokmlohhkaaDoorHashS2
namespace Go.Proofs.YtoigpokmlohhkaaDoor
open Go.RowKit Go.ChangeShapes Go.WideShapes Go.ChangeAt

set_option maxRecDepth 100000 in
set_option maxHeartbeats 1000000 in
theorem lawSum_any (A : Option Addr) (n c : Nat) (b : Wm.Bs) (w : World) (tab0 : Tab0 w) (tab : Tab w) (hs : Sl w 1 A n (U b)) (hb : Wm.isBs b) (hnc : n ≤ c) (hc : c ≤ maxLen) :
    Calls Tryd.prog 4 #[.slice A n c] w fun e w' => e = .returned (.bool true) ∧ Later w w' := by
  have HS := Lib.hid (sanity_any w tab)
  rcases Nat.lt_or_ge 600 n with h3 | h3
  · clear tab
    unfold maxLen at hc
    go_enter Tryd.func4, Tryd.ntmps4
    go_wp2_with (go_at_call 14; refine HS.out.mono ?_; rintro e w1 ⟨rfl, l1⟩)
    go_ret
    exact ⟨rfl, l1⟩
  · obtain ⟨S, hS⟩ : ∃ S, S = strOfNums b := ⟨_, rfl⟩
    have hbl := hs.blen
    have hsb : sb S = b := by rw [hS]; exact sb_ofN hb
    have hsz : S.size = n := by rw [← sb_len, hsb, hbl]
    obtain ⟨H, hH⟩ : ∃ H, H = iv8 (Hs.sha (bv b)) := ⟨_, rfl⟩
    have hHl : H.length = 32 := by rw [hH]; exact sha_len b
    have hCH : shaC b = U H := by rw [hH]; rfl
    have HC := Lib.hid fun (w' : World) (hl : Later w w') => by
      have := hsum_any A n c b w' (hs.keep hl) hb hnc (by unfold maxLen at hc; omega) (by omega) (tab.keep hl)
      rw [hCH] at this; exact this
    have HR := Lib.hid fun (w' : World) (cap : Nat) (fr : Nat × Nat) (hl : Later w w') => by
      have := refSum_any (some ⟨w'.heap.size, 0, none⟩) S.size cap (sb S) ((w'.alloc (.cells (bytesRow S cap) 5 fr)).drew.drew) (sl_row2 w' S cap _ fr) (sb_bs S) (by omega) (tab0.keep ((hl.alloc hl.size _).drew.drew))
      rw [hsb, hCH] at this; exact this
    have HK := Lib.hid fun (w' : World) (hl : Later w w') => by
      have := run_str (P := Tryd.prog) 33 9 5 Tryd.underlying33 Tryd.underlying5 Tryd.underlying9 (hs.keep hl) c
      rw [← hS] at this; exact this
    have kb := fun (w : World) (s : ByteArray) => run_bytes_of_string (P := Tryd.prog) w 9 33 5 s Tryd.underlying9 Tryd.underlying33 Tryd.underlying5
    have heq : ∀ w' : World, (Op.equalIn 10000 35 (.agg (U H).toArray) (.agg (U H).toArray)).run Tryd.prog w' = .ok true w' := fun w' => by rw [sum_eq hHl hHl w', decide_eq_true rfl]
    have hgd : Tryd.prog.eqGuardType Tryd.prog.depth 35 = false := by kernel_rfl
    obtain ⟨F, hF⟩ : ∃ F, F = U H := ⟨_, rfl⟩
    have hszF : (Tryd.prog.info? 35).map (·.size) = some F.length := by rw [hF, U_length, hHl]; kernel_rfl
    have hF1 : ∀ v ∈ F, v.oneCell' = true := by rw [hF]; exact U_one _
    have hFl : (PartB [] 32).length = F.length := by rw [hF, U_length, hHl]; rfl
    have hu8 := Tryd.underlying35
    rw [← hF] at HC HR heq
    have HU8 := Lib.hid hu8; have HF1 := Lib.hid hF1; have HFl := Lib.hid hFl
    clear hS hsb hsz hbl hs tab tab0 hH hHl hCH hF hF1 hFl hu8
    unfold maxLen at hc
    go_enter Tryd.func4, Tryd.ntmps4
    go_wp2_with (first
      | (go_at_call 14; refine HS.out.mono ?_; rintro e w1 ⟨rfl, l1⟩; have k1 := HK.out w1 l1)
      | (go_at_call 21; (with_reducible refine (HC.out w1 l1).mono ?_); rintro e w2 ⟨rfl, h2⟩; have l2 : Later w w2 := l1.trans (h2.mono l1.size))
      | ((with_reducible refine wpList_store_abs (o := ⟨none, .store 35 (.tmp 5) (.tmp 14), _, _, _, none⟩) rfl _ _ _ rfl w2.heap.size 35 (PartB [] 32) F ?_ ?_ ?_ hszF HFl.out HF1.out ?_); rfl; rfl; exact Blk.new _ _ _ _ rfl; intro w4 g5 o5))
    have l4 : Later w w4 := Below.only (l2.alloc l2.size _) o5 l2.size
    have hu35 := Tryd.underlying35
    have hF32 : F.length = 32 := by have := HFl.out; rw [← this]; rfl
    have hF1 := HF1.out
    have KP : Hid (∀ w', Later w4 w' → (w'.rangeAt w2.heap.size 0 F ∧ (convert 33 9 (.slice A n c)).run Tryd.prog w' = .ok (.string S) w')) := Lib.hid fun w' hl => by
      refine ⟨?_, HK.out w' (Later.trans_ l4 hl)⟩
      have h := (g5.keep hl).range 0 32
      rwa [List.drop_zero, List.take_of_length_le (by omega)] at h
    clear k1 HC h2 l1 l2 o5
    refine wp_region_held_drew (S := fun w' => w'.rangeAt w2.heap.size 0 F ∧ (convert 33 9 (.slice A n c)).run Tryd.prog w' = .ok (.string S) w') (by kernel_rfl) (KP.out _ (Below.refl _ _).drew) (fun hHeld => ?_)
    refine wpAnyH_take (i := 0) (oi := ⟨some 15, .move (.tmp 3), 4, _, _, none⟩) (v := .bool true) rfl (by kernel_rfl) (by kernel_rfl) (by kernel_rfl) (fun _ _ _ h => h) (Or.inl ⟨by rfl, ?_⟩) hHeld ?_
    · intro w hSw
      have hSw1 := hSw.1
      have hSw2 := hSw.2
      clear hSw
      go_simp
    simp only [Act.put, List.setIfInBounds_toArray, List.set_cons_zero, List.set_cons_succ]
    refine wpAnyH_take (i := 1) (oi := ⟨some 16, .move (.tmp 15), 4, _, _, none⟩) (v := .bool true) rfl (by kernel_rfl) (by kernel_rfl) (by kernel_rfl) (fun _ _ _ h => h) (Or.inl ⟨by rfl, ?_⟩) hHeld ?_
    · intro w hSw
      have hSw1 := hSw.1
      have hSw2 := hSw.2
      clear hSw
      go_simp
    simp only [Act.put, List.setIfInBounds_toArray, List.set_cons_zero, List.set_cons_succ]
    refine wpAnyH_take (i := 3) (oi := ⟨some 18, .move (.tmp 4), 9, _, _, some (1, true)⟩) (v := .string S) rfl (by kernel_rfl) (by kernel_rfl) (by kernel_rfl) (fun _ _ _ h => h) (Or.inl ⟨by rfl, ?_⟩) hHeld ?_
    · intro w hSw
      have hSw1 := hSw.1
      have hSw2 := hSw.2
      clear hSw
      go_simp
    simp only [Act.put, List.setIfInBounds_toArray, List.set_cons_zero, List.set_cons_succ]
    refine wpAnyH_take (i := 2) (oi := ⟨some 17, .load 35 (.tmp 5), 35, _, _, some (1, true)⟩) (v := .agg F.toArray) rfl (by kernel_rfl) (by kernel_rfl) (by kernel_rfl) (fun _ _ _ h => h) (yieldsIf_load_mid (by rfl) _ _ rfl _ _ rfl _ _ (fun w h => h.1) hu35 rfl hszF) hHeld ?_
    simp only [Act.put, List.setIfInBounds_toArray, List.set_cons_zero, List.set_cons_succ]
    refine wpAnyH_ready (rs := [4]) (by kernel_rfl) (by simp) (AllReadyH.cons (o := ⟨some 19, .convert 9 33 (.tmp 18), 33, _, _, some (1, true)⟩) rfl (fun K hK => ?_) AllReadyH.nil)
    go_simp
    refine hK.out _ _ (KP.out _ (((Below.refl _ _).alloc (Nat.le_refl _) _).drew.drew)) (fun hHeld => ?_)
    clear hK K
    try simp only [Act.put, List.setIfInBounds_toArray, List.set_cons_zero, List.set_cons_succ]
    refine wpAnyH_ready (rs := [5]) (by kernel_rfl) (by simp) (AllReadyH.cons (o := ⟨some 20, .call { callee := .value (.func 22), args := #[.tmp 19], argTypes := #[33] }, 35, _, _, some (1, true)⟩) rfl (fun K hK => ?_) AllReadyH.nil)
    go_simp
    refine (HR.out w4 _ _ l4).mono ?_
    rintro e w3 ⟨rfl, h3'⟩
    have l3 := Later.trans_ (((Below.refl _ _).alloc (Nat.le_refl _) _).drew.drew) h3'
    refine hK.out _ _ (KP.out _ l3) (fun hHeld => ?_)
    clear hK K
    try simp only [Act.put, List.setIfInBounds_toArray, List.set_cons_zero, List.set_cons_succ]
    refine wpAnyH_take (i := 6) (oi := ⟨some 21, .binOp .eql 35 (.tmp 17) (.tmp 20) 35, 4, _, _, some (1, true)⟩) (v := .bool true) rfl (by kernel_rfl) (by kernel_rfl) (by kernel_rfl) (fun _ _ _ h => h) (Or.inl ⟨by rfl, ?_⟩) hHeld ?_
    · intro w hSw
      have hSw1 := hSw.1
      have hSw2 := hSw.2
      clear hSw
      go_simp
    simp only [Act.put, List.setIfInBounds_toArray, List.set_cons_zero, List.set_cons_succ]
    refine wpAnyH_take (i := 7) (oi := ⟨some 22, .pick (.tmp 16) (.tmp 21) (.const (.bool false)), 4, _, _, none⟩) (v := .bool true) rfl (by kernel_rfl) (by kernel_rfl) (by kernel_rfl) (fun _ _ _ h => h) (Or.inl ⟨by rfl, ?_⟩) hHeld ?_
    · intro w hSw
      have hSw1 := hSw.1
      have hSw2 := hSw.2
      clear hSw
      go_simp
    simp only [Act.put, List.setIfInBounds_toArray, List.set_cons_zero, List.set_cons_succ]
    refine wpAnyH_take (i := 8) (oi := ⟨some 23, .move (.tmp 22), 4, _, _, none⟩) (v := .bool true) rfl (by kernel_rfl) (by kernel_rfl) (by kernel_rfl) (fun _ _ _ h => h) (Or.inl ⟨by rfl, ?_⟩) hHeld ?_
    · intro w hSw
      have hSw1 := hSw.1
      have hSw2 := hSw.2
      clear hSw
      go_simp
    simp only [Act.put, List.setIfInBounds_toArray, List.set_cons_zero, List.set_cons_succ]
    refine wpAnyH_take (i := 9) (oi := ⟨some 24, .move (.tmp 0), 33, _, _, some (8, true)⟩) (v := .slice A n c) rfl (by kernel_rfl) (by kernel_rfl) (by kernel_rfl) (fun _ _ _ h => h) (Or.inl ⟨by rfl, ?_⟩) hHeld ?_
    · intro w hSw
      have hSw1 := hSw.1
      have hSw2 := hSw.2
      clear hSw
      go_simp
    simp only [Act.put, List.setIfInBounds_toArray, List.set_cons_zero, List.set_cons_succ]
    refine wpAnyH_take (i := 10) (oi := ⟨some 25, .convert 33 9 (.tmp 24), 9, _, _, some (8, true)⟩) (v := .string S) rfl (by kernel_rfl) (by kernel_rfl) (by kernel_rfl) (fun _ _ _ h => h) (Or.inl ⟨by rfl, ?_⟩) hHeld ?_
    · intro w hSw
      have hSw1 := hSw.1
      have hSw2 := hSw.2
      clear hSw
      go_simp
    simp only [Act.put, List.setIfInBounds_toArray, List.set_cons_zero, List.set_cons_succ]
    refine wpAnyH_take (i := 11) (oi := ⟨some 26, .move (.tmp 4), 9, _, _, some (8, true)⟩) (v := .string S) rfl (by kernel_rfl) (by kernel_rfl) (by kernel_rfl) (fun _ _ _ h => h) (Or.inl ⟨by rfl, ?_⟩) hHeld ?_
    · intro w hSw
      have hSw1 := hSw.1
      have hSw2 := hSw.2
      clear hSw
      go_simp
    simp only [Act.put, List.setIfInBounds_toArray, List.set_cons_zero, List.set_cons_succ]
    refine wpAnyH_take (i := 12) (oi := ⟨some 27, .binOp .eql 9 (.tmp 25) (.tmp 26) 9, 4, _, _, some (8, true)⟩) (v := .bool true) rfl (by kernel_rfl) (by kernel_rfl) (by kernel_rfl) (fun _ _ _ h => h) (Or.inl ⟨by rfl, ?_⟩) hHeld ?_
    · intro w hSw
      have hSw1 := hSw.1
      have hSw2 := hSw.2
      clear hSw
      go_simp
    simp only [Act.put, List.setIfInBounds_toArray, List.set_cons_zero, List.set_cons_succ]
    refine wpAnyH_take (i := 13) (oi := ⟨some 28, .pick (.tmp 23) (.tmp 27) (.const (.bool false)), 4, _, _, none⟩) (v := .bool true) rfl (by kernel_rfl) (by kernel_rfl) (by kernel_rfl) (fun _ _ _ h => h) (Or.inl ⟨by rfl, ?_⟩) hHeld ?_
    · intro w hSw
      have hSw1 := hSw.1
      have hSw2 := hSw.2
      clear hSw
      go_simp
    simp only [Act.put, List.setIfInBounds_toArray, List.set_cons_zero, List.set_cons_succ]
    refine wpAnyH_take (i := 14) (oi := ⟨some 2, .assign (.tmp 28), 4, _, _, none⟩) (v := .bool true) rfl (by kernel_rfl) (by kernel_rfl) (by kernel_rfl) (fun _ _ _ h => h) (Or.inl ⟨by rfl, ?_⟩) hHeld ?_
    · intro w hSw
      have hSw1 := hSw.1
      have hSw2 := hSw.2
      clear hSw
      go_simp
    simp only [Act.put, List.setIfInBounds_toArray, List.set_cons_zero, List.set_cons_succ]
    refine wpAnyH_done (by kernel_rfl) ?_ _
    go_wp2
    go_ret
    exact ⟨rfl, Later.trans_ l4 l3⟩


set_option maxRecDepth 100000 in
theorem hashSumMatchesSpec_contract (H : Type) (enc : TypeId × Value → H) (W : World) (base : Nat) (args : Array Value) (ds gs : List (DataW H)) (before : List MemPlace)
    (hval : ∀ (j : Nat) t v, Tryd.f4.params[j]? = some t → args[j]? = some v → Value.okWide Tryd.prog W .any base t v)
    (hW : DataW.Whole enc Tryd.prog Tryd.f4.params.toList Rows.hashSumMatchesSpecSpec.vars false W args.toList ds gs before) (hL : laidMetH Tryd.prog Rows.hashSumMatchesSpecRow.laid W) :
    Calls Tryd.prog 4 args W fun e W' => ∃ v, e = .returned v ∧ Rows.hashSumMatchesSpecSpec.post enc Tryd.prog Tryd.f4 false true false false W args v W' := by
  have hW' := hW
  obtain ⟨tab0, tab⟩ : Tab0 W ∧ Tab W := tabs_of hL
  obtain ⟨p, q, hA0, hV, rfl, _, _⟩ := hW
  have hA : DataW.TrodAll enc Tryd.prog W 0 (fun _ => true) true Tryd.f4.params.toList args.toList ds p := hA0
  rw [Tryd.params4] at hA hval
  obtain ⟨v0, vs0, d0, ds0, p0, q0, hargs, rfl, rfl, h0, r0⟩ := trodAll_cons hA
  obtain ⟨rfl, rfl, rfl⟩ := trodAll_nil r0
  obtain rfl : args = #[v0] := by cases args; simp_all
  obtain ⟨rfl, rfl⟩ := trodVars_none hV
  obtain ⟨A0, n0, c0, b0, rfl, x0, y0, s0, z0⟩ := bytes_arg Tryd.underlying33 Tryd.underlying5 (by kernel_rfl) (hval 0 33 v0 rfl rfl) h0
  clear hA0
  simp only [List.append_nil] at hW'
  refine (lawSum_any A0 n0 c0 b0 W tab0 tab s0 z0 x0 y0).mono fun e W' ⟨he, hw⟩ => ?_
  subst he
  exact ⟨_, rfl, law_post laidK rfl (by kernel_rfl) (by kernel_rfl) Tryd.underlying4 (by kernel_rfl) hW' rfl hw⟩
set_option maxRecDepth 100000 in
theorem hashSumMatchesSpec_met (os : Os) : laidMet Tryd.prog Rows.hashSumMatchesSpecRow.laid ((laidWorld2 os).forCall (fun _ _ => 0) ⟨#[], #[.slice none 0 0], []⟩).memory :=
  laidMet_of_run' 8 (by kernel_rfl) (by kernel_rfl)
set_option maxRecDepth 100000 in
theorem hashSumMatchesSpec_reads (os : Os) {H : Type} (enc : TypeId × Value → H) : ∃ places, DataW.whole enc Tryd.prog ((laidWorld2 os).forCall (fun _ _ => 0) ⟨#[], #[.slice none 0 0], []⟩).memory Tryd.f4.params.toList Rows.hashSumMatchesSpecSpec.vars false (#[.slice none 0 0] : Array Value).toList 8 = some ([.nil], [], places) :=
  ⟨[], by kernel_rfl⟩

set_option maxRecDepth 100000 in
theorem hashSumMatchesSpec_lifted (os : Os) (started : os.Started) (H : Type) (enc : TypeId × Value → H) (F : Stop.Interp) :
    ReturnsInHanded {} Tryd.checked os 4 .any ((OpenSpec.ofChange Rows.hashSumMatchesSpecSpec).preRow enc Tryd.prog Tryd.f4 Rows.hashSumMatchesSpecRow.domain false Rows.hashSumMatchesSpecRow.laid) (((OpenSpec.ofChange Rows.hashSumMatchesSpecSpec).at F).post enc Tryd.prog Tryd.f4 false true false false) := by
  obtain ⟨places, hx⟩ := hashSumMatchesSpec_reads os enc
  refine returnsInHanded_of_row (C := Tryd.checked) (s := OpenSpec.ofChange Rows.hashSumMatchesSpecSpec) ownK started (by kernel_rfl) Tryd.func4
    (witness_row_at (enc := enc) (C := Tryd.checked) false (laidWorld2 os) #[.slice none 0 0] rfl (by kernel_rfl) (by kernel_rfl) (by kernel_rfl)
      (OpenSpec.preRow_of_cond 8 hx (by kernel_rfl) (fun k hk => by cases hk) (by kernel_rfl) (hashSumMatchesSpec_met os))) ?_
  intro W base args ds gs before hval hW _ _ _ hL _ _
  exact hashSumMatchesSpec_contract H enc W base args ds gs before hval hW hL

set_option maxRecDepth 100000 in
theorem hashSumMatchesSpec_said : Rows.HashSumMatchesSpecSaid :=
  OpenClaim.holds_of_cond 4 Tryd.f4 rfl rfl rfl rfl rfl rfl rfl ⟨rfl, rfl, rfl, rfl, rfl⟩ rfl rfl rfl rfl rfl (by kernel_rfl) Tryd.func4 (by kernel_rfl)
    (of_decide_eq_true (by kernel_rfl)) (by unfold Func.isWrapper; first | (rw [if_pos (by decide +kernel)]; kernel_rfl) | (rw [if_neg (by decide +kernel)]; exact ⟨rfl, rfl⟩))
    (fun os started H enc _ F => by rw [OpenClaim.pre_eq_preRow]; exact hashSumMatchesSpec_lifted os started H enc F)

set_option maxRecDepth 100000 in
theorem hashSumMatchesSpec_plain (f : FuncId) (fn : Func) (hf : Tryd.pinned.checked.prog.funcNamed "simulacrum/simulacrumlaw02.HashSumMatchesSpec" = some f) (hfn : Tryd.pinned.checked.prog.funcs[f]? = some fn) :
    false = Tryd.pinned.checked.prog.looks [] ∧ ∀ (j : Nat) t, fn.params[j]? = some t → Tryd.pinned.checked.prog.wantsStandIn t = false := by
  obtain rfl : f = 4 := Option.some.inj ((show Tryd.prog.funcNamed "simulacrum/simulacrumlaw02.HashSumMatchesSpec" = some 4 by kernel_rfl).symm.trans hf) |>.symm
  obtain rfl : fn = Tryd.f4 := (Option.some.inj (Tryd.func4.symm.trans hfn)).symm
  refine ⟨by kernel_rfl, fun j t ht => ?_⟩
  exact wants_none 4 Tryd.f4.params (by kernel_rfl) j t ht

set_option maxRecDepth 100000 in
/-- The card. -/
theorem hashSumMatchesSpec_card : Rows.HashSumMatchesSpecCardSaid :=
  Claim7.holds_tied_plain_at .later [] _ _ _ _ hashSumMatchesSpec_said (fun _ h => by cases h) (by kernel_rfl) (fun _ h => by cases h) hashSumMatchesSpec_row_tie rfl ⟨rfl, rfl⟩ (by kernel_rfl) rfl hashSumMatchesSpec_plain (by kernel_rfl)
#print axioms hashSumMatchesSpec_card

end Go.Proofs.YtoigpokmlohhkaaDoor
