/-
  THE STATEMENT HashCrcJoins: the check of a concatenation is that of the joined checks.
-/
import Derived.Test.YtblakffpiimbdaaDoorHashS
namespace Go.Proofs.YtblakffpiimbdaaDoor
open Go.RowKit Go.ChangeShapes Go.WideShapes Go.ChangeAt

theorem join_crc (a b : Wm.Bs) : joinR (crcI a) (crcI b) b.length = crcI (a ++ b) := by
  unfold joinR crcI
  rw [o40_q40, o40_q40, bv_append, Hm.crc_append, bv_len]

set_option maxRecDepth 100000 in
set_option maxHeartbeats 2000000 in
theorem lawCrcJoins_any (A0 A1 A2 : Option Addr) (n0 n1 n2 c0 c1 c2 : Nat) (b0 b1 b2 : Wm.Bs) (w : World) (tab : Tab w) (s0 : Sl w 1 A0 n0 (U b0)) (s1 : Sl w 1 A1 n1 (U b1)) (s2 : Sl w 1 A2 n2 (U b2))
    (z0 : Wm.isBs b0) (z1 : Wm.isBs b1) (z2 : Wm.isBs b2) (y0 : n0 ≤ maxLen) (y1 : n1 ≤ maxLen) (y2 : n2 ≤ maxLen) :
    Calls Tryd.prog 7 #[.slice A0 n0 c0, .slice A1 n1 c1, .slice A2 n2 c2] w fun e w' => e = .returned (.bool true) ∧ Later w w' := by
  have HS := Lib.hid (sanity_any w tab)
  clear tab
  unfold maxLen at y0 y1 y2
  rcases Nat.lt_or_ge 400 n0 with h0 | h0
  · go_enter Tryd.func7, Tryd.ntmps7
    go_wp2_with (go_at_call 15; refine HS.out.mono ?_; rintro e w1 ⟨rfl, l1⟩)
    go_ret
    exact ⟨rfl, l1⟩
  rcases Nat.lt_or_ge 400 n1 with h1 | h1
  · go_enter Tryd.func7, Tryd.ntmps7
    go_wp2_with (go_at_call 15; refine HS.out.mono ?_; rintro e w1 ⟨rfl, l1⟩)
    go_ret
    exact ⟨rfl, l1⟩
  rcases Nat.lt_or_ge 400 n2 with h2 | h2
  · go_enter Tryd.func7, Tryd.ntmps7
    go_wp2_with (go_at_call 15; refine HS.out.mono ?_; rintro e w1 ⟨rfl, l1⟩)
    go_ret
    exact ⟨rfl, l1⟩
  clear y0 y1 y2
  obtain ⟨i0, hi, hz0, hz1, hz2⟩ := info_parts u8_info
  have e0 := s0.blen; have e1 := s1.blen; have e2 := s2.blen
  obtain ⟨x, hx⟩ : ∃ x, x = crcI b0 := ⟨_, rfl⟩
  obtain ⟨y, hy⟩ : ∃ x, x = crcI b1 := ⟨_, rfl⟩
  obtain ⟨z, hz⟩ : ∃ x, x = crcI b2 := ⟨_, rfl⟩
  obtain ⟨l, hl⟩ : ∃ x, x = crcI (b0 ++ b1) := ⟨_, rfl⟩
  obtain ⟨m, hm⟩ : ∃ x, x = crcI (b1 ++ b2) := ⟨_, rfl⟩
  obtain ⟨R, hR⟩ : ∃ x, x = crcI (b0 ++ b1 ++ b2) := ⟨_, rfl⟩
  have j1 : joinR x y n1 = l := by rw [hx, hy, hl, ← e1, join_crc]
  have j2 : joinR l z n2 = R := by rw [hl, hz, hR, ← e2, join_crc]
  have j3 : joinR y z n2 = m := by rw [hy, hz, hm, ← e2, join_crc]
  have j4 : joinR x m (n1 + n2) = R := by rw [hx, hm, hR, ← e1, ← e2, ← List.length_append, join_crc, List.append_assoc]
  have K1 := Lib.hid fun w' => by have h := join_any x y n1 w' (by omega); rw [j1] at h; exact h
  have K2 := Lib.hid fun w' => by have h := join_any l z n2 w' (by omega); rw [j2] at h; exact h
  have K3 := Lib.hid fun w' => by have h := join_any y z n2 w' (by omega); rw [j3] at h; exact h
  have K4 := Lib.hid fun w' => by have h := join_any x m (n1 + n2) w' (by omega); rw [j4, Int.natCast_add] at h; exact h
  have C0 := Lib.hid fun w' (hw : Later w w') => by have h := crc40_any A0 n0 c0 b0 w' (s0.keep hw) z0 (by unfold maxLen; omega); rw [← hx] at h; exact h
  have C1 := Lib.hid fun w' (hw : Later w w') => by have h := crc40_any A1 n1 c1 b1 w' (s1.keep hw) z1 (by unfold maxLen; omega); rw [← hy] at h; exact h
  have C2 := Lib.hid fun w' (hw : Later w w') => by have h := crc40_any A2 n2 c2 b2 w' (s2.keep hw) z2 (by unfold maxLen; omega); rw [← hz] at h; exact h
  obtain ⟨N, hN⟩ : ∃ N, N = (b0 ++ b1 ++ b2).length := ⟨_, rfl⟩
  have CR := Lib.hid fun w' A c (hs : Sl w' 1 A N (U (b0 ++ b1 ++ b2))) => by
    have h := crc40_any A N c (b0 ++ b1 ++ b2) w' hs (bs_app (bs_app z0 z1) z2) (by rw [hN, List.length_append, List.length_append, e0, e1, e2]; unfold maxLen; omega)
    rw [← hR] at h; exact h
  have HN := Lib.hid hN; have E0 := Lib.hid e0; have E1 := Lib.hid e1; have E2 := Lib.hid e2
  have t1 : (R == R) = true := by simp
  clear hN hx hy hz hl hm hR j1 j2 j3 j4 e0 e1 e2
  go_enter Tryd.func7, Tryd.ntmps7
  go_wp2_with (first
    | (go_at_call 15; refine HS.out.mono ?_; rintro e w1 ⟨rfl, l1⟩; have o1 : w1.ownsRow w.heap.size 5 1 (.slice none 0 0) ([] : Wm.Bs).length (U []) := World.ownsRow_nil _ _ _ _)
    | (at_builtin; refine wpList_app _ rfl _ _ 22 rfl w.heap.size 5 i0 (.int .u8 0) 1 1 Tryd.underlying22 hi hz0 hz1 hz2 rfl (by decide) _ _ _ rfl o3 A2 n2 c2 _ rfl (s2.keep l3) (U_one _) (by rw [List.length_append, E0.out, E1.out]; unfold maxLen; omega) (by rw [List.length_append, E0.out, E1.out]; omega) l3.size ?_; intro v4 w4 hown' hgrow; have l4 : Later w w4 := l3.grown hgrow l3.size (fun k hk => (o3.lt k hk).1); have o4 := own_app E2.out.symm hown'; clear hown' hgrow o3; rw [← HN.out] at o4; obtain ⟨V, cV, rfl, _, _, f3, _⟩ := own_form o4)
    | (at_builtin; refine wpList_app _ rfl _ _ 22 rfl w.heap.size 5 i0 (.int .u8 0) 1 1 Tryd.underlying22 hi hz0 hz1 hz2 rfl (by decide) _ _ _ rfl o2 A1 n1 c1 _ rfl (s1.keep l2) (U_one _) (by rw [E0.out]; unfold maxLen; omega) (by rw [E0.out]; omega) l2.size ?_; intro v3 w3 hown' hgrow; have l3 : Later w w3 := l2.grown hgrow l2.size (fun k hk => (o2.lt k hk).1); have o3 := own_app E1.out.symm hown'; clear hown' hgrow o2)
    | (at_builtin; refine wpList_app _ rfl _ _ 22 rfl w.heap.size 5 i0 (.int .u8 0) 1 1 Tryd.underlying22 hi hz0 hz1 hz2 rfl (by decide) _ _ _ rfl o1 A0 n0 c0 _ rfl (s0.keep l1) (U_one _) (by show 0 + n0 ≤ _; unfold maxLen; omega) (by show (0 + n0) * 1 ≤ _; omega) l1.size ?_; intro v2 w2 hown' hgrow; have l2 : Later w w2 := l1.grown hgrow l1.size (fun k hk => (o1.lt k hk).1); have o2 := own_app E0.out.symm hown'; rw [List.nil_append] at o2; clear hown' hgrow o1)
    | (go_at_call 16; with_reducible refine (CR.out _ V cV f7).mono ?_; rintro e w8 ⟨rfl, h8⟩; have l8 : Later w w8 := l7.trans (h8.mono l7.size))
    | (go_at_call 16; with_reducible refine (C2.out w6 l6).mono ?_; rintro e w7 ⟨rfl, h7⟩; have l7 : Later w w7 := l6.trans (h7.mono l6.size); have f7 := f6.keep h7; clear f6)
    | (go_at_call 16; with_reducible refine (C1.out w5 l5).mono ?_; rintro e w6 ⟨rfl, h6⟩; have l6 : Later w w6 := l5.trans (h6.mono l5.size); have f6 := f5.keep h6; clear f5)
    | (go_at_call 16; with_reducible refine (C0.out w4 l4).mono ?_; rintro e w5 ⟨rfl, h5⟩; have l5 : Later w w5 := l4.trans (h5.mono l4.size); have f5 := f3.keep h5; clear f3)
    | (go_at_call 26; with_reducible refine (K1.out _).mono ?_; rintro e w9 ⟨rfl, rfl⟩)
    | (go_at_call 26; with_reducible refine (K2.out _).mono ?_; rintro e w9 ⟨rfl, rfl⟩)
    | (go_at_call 26; with_reducible refine (K3.out _).mono ?_; rintro e w9 ⟨rfl, rfl⟩)
    | (go_at_call 26; with_reducible refine (K4.out _).mono ?_; rintro e w9 ⟨rfl, rfl⟩))
  go_ret
  exact ⟨rfl, l8⟩

theorem hashCrcJoins_contract (H : Type) (enc : TypeId × Value → H) (W : World) (base : Nat) (args : Array Value) (ds gs : List (DataW H)) (before : List MemPlace)
    (hval : ∀ (j : Nat) t v, Tryd.f7.params[j]? = some t → args[j]? = some v → Value.okWide Tryd.prog W .any base t v)
    (hW : DataW.Whole enc Tryd.prog Tryd.f7.params.toList Rows.hashCrcJoinsSpec.vars false W args.toList ds gs before) (hL : laidMetH Tryd.prog Rows.hashCrcJoinsRow.laid W) :
    Calls Tryd.prog 7 args W fun e W' => ∃ v, e = .returned v ∧ Rows.hashCrcJoinsSpec.post enc Tryd.prog Tryd.f7 false true false false W args v W' := by
  have hW' := hW
  have tab : Tab W := tab_of hL
  obtain ⟨p, q, hA0, hV, rfl, _, _⟩ := hW
  have hA : DataW.TrodAll enc Tryd.prog W 0 (fun _ => true) true Tryd.f7.params.toList args.toList ds p := hA0
  rw [Tryd.params7] at hA hval
  obtain ⟨v0, vs0, d0, ds0, p0, q0, hargs, rfl, rfl, h0, r0⟩ := trodAll_cons hA
  obtain ⟨v1, vs1, d1, ds1, p1, q1, rfl, rfl, rfl, h1, r1⟩ := trodAll_cons r0
  obtain ⟨v2, vs2, d2, ds2, p2, q2, rfl, rfl, rfl, h2, r2⟩ := trodAll_cons r1
  obtain ⟨rfl, rfl, rfl⟩ := trodAll_nil r2
  obtain rfl : args = #[v0, v1, v2] := by cases args; simp_all
  obtain ⟨rfl, rfl⟩ := trodVars_none hV
  obtain ⟨A0, n0, c0, b0, rfl, x0, y0, s0, z0⟩ := bytes_arg Tryd.underlying22 Tryd.underlying5 (by kernel_rfl) (hval 0 22 v0 rfl rfl) h0
  obtain ⟨A1, n1, c1, b1, rfl, x1, y1, s1, z1⟩ := bytes_arg Tryd.underlying22 Tryd.underlying5 (by kernel_rfl) (hval 1 22 v1 rfl rfl) h1
  obtain ⟨A2, n2, c2, b2, rfl, x2, y2, s2, z2⟩ := bytes_arg Tryd.underlying22 Tryd.underlying5 (by kernel_rfl) (hval 2 22 v2 rfl rfl) h2
  clear hA0
  simp only [List.append_nil] at hW'
  refine (lawCrcJoins_any A0 A1 A2 n0 n1 n2 c0 c1 c2 b0 b1 b2 W tab s0 s1 s2 z0 z1 z2 (Nat.le_trans x0 y0) (Nat.le_trans x1 y1) (Nat.le_trans x2 y2)).mono fun e W' ⟨he, hw⟩ => ?_
  subst he
  exact ⟨_, rfl, law_post laidK rfl (by kernel_rfl) (by kernel_rfl) Tryd.underlying4 (by kernel_rfl) hW' rfl hw⟩
theorem hashCrcJoins_met (os : Os) : laidMet Tryd.prog Rows.hashCrcJoinsRow.laid ((laidWorld os).forCall (fun _ _ => 0) ⟨#[], #[.slice none 0 0, .slice none 0 0, .slice none 0 0], []⟩).memory :=
  laidMet_of_run' 8 (by kernel_rfl) (by kernel_rfl)
theorem hashCrcJoins_reads (os : Os) {H : Type} (enc : TypeId × Value → H) : ∃ places, DataW.whole enc Tryd.prog ((laidWorld os).forCall (fun _ _ => 0) ⟨#[], #[.slice none 0 0, .slice none 0 0, .slice none 0 0], []⟩).memory Tryd.f7.params.toList Rows.hashCrcJoinsSpec.vars false (#[.slice none 0 0, .slice none 0 0, .slice none 0 0] : Array Value).toList 8 = some ([.nil, .nil, .nil], [], places) :=
  ⟨[], by kernel_rfl⟩

set_option maxRecDepth 100000 in
theorem hashCrcJoins_lifted (os : Os) (started : os.Started) (H : Type) (enc : TypeId × Value → H) (F : Stop.Interp) :
    ReturnsInHanded {} Tryd.checked os 7 .any ((OpenSpec.ofChange Rows.hashCrcJoinsSpec).preRow enc Tryd.prog Tryd.f7 Rows.hashCrcJoinsRow.domain false Rows.hashCrcJoinsRow.laid) (((OpenSpec.ofChange Rows.hashCrcJoinsSpec).at F).post enc Tryd.prog Tryd.f7 false true false false) := by
  obtain ⟨places, hx⟩ := hashCrcJoins_reads os enc
  refine returnsInHanded_of_row (C := Tryd.checked) (s := OpenSpec.ofChange Rows.hashCrcJoinsSpec) ownK started (by kernel_rfl) Tryd.func7
    (witness_row_at (enc := enc) (C := Tryd.checked) false (laidWorld os) #[.slice none 0 0, .slice none 0 0, .slice none 0 0] rfl (by kernel_rfl) (by kernel_rfl) (by kernel_rfl)
      (OpenSpec.preRow_of_cond 8 hx (by kernel_rfl) (fun k hk => by cases hk) (by kernel_rfl) (hashCrcJoins_met os))) ?_
  intro W base args ds gs before hval hW _ _ _ hL _ _
  exact hashCrcJoins_contract H enc W base args ds gs before hval hW hL

set_option maxRecDepth 100000 in
theorem hashCrcJoins_said : Rows.HashCrcJoinsSaid :=
  OpenClaim.holds_of_cond 7 Tryd.f7 rfl rfl rfl rfl rfl rfl rfl ⟨rfl, rfl, rfl, rfl, rfl⟩ rfl rfl rfl rfl rfl (by kernel_rfl) Tryd.func7 (by kernel_rfl)
    (of_decide_eq_true (by kernel_rfl)) (by unfold Func.isWrapper; first | (rw [if_pos (by decide +kernel)]; kernel_rfl) | (rw [if_neg (by decide +kernel)]; exact ⟨rfl, rfl⟩))
    (fun os started H enc _ F => by rw [OpenClaim.pre_eq_preRow]; exact hashCrcJoins_lifted os started H enc F)

theorem hashCrcJoins_plain (f : FuncId) (fn : Func) (hf : Tryd.pinned.checked.prog.funcNamed "simulacrum/simulacrumlaw02.HashCrcJoins" = some f) (hfn : Tryd.pinned.checked.prog.funcs[f]? = some fn) :
    false = Tryd.pinned.checked.prog.looks [] ∧ ∀ (j : Nat) t, fn.params[j]? = some t → Tryd.pinned.checked.prog.wantsStandIn t = false := by
  obtain rfl : f = 7 := Option.some.inj ((show Tryd.prog.funcNamed "simulacrum/simulacrumlaw02.HashCrcJoins" = some 7 by kernel_rfl).symm.trans hf) |>.symm
  obtain rfl : fn = Tryd.f7 := (Option.some.inj (Tryd.func7.symm.trans hfn)).symm
  refine ⟨by kernel_rfl, fun j t ht => ?_⟩
  exact wants_none 7 Tryd.f7.params (by kernel_rfl) j t ht

/-- The card. -/
theorem hashCrcJoins_card : Rows.HashCrcJoinsCardSaid :=
  Claim7.holds_tied_plain_at .later [] _ _ _ _ hashCrcJoins_said (fun _ h => by cases h) (by kernel_rfl) (fun _ h => by cases h) hashCrcJoins_row_tie rfl ⟨rfl, rfl⟩ (by kernel_rfl) rfl hashCrcJoins_plain (by kernel_rfl)
#print axioms hashCrcJoins_card

end Go.Proofs.YtblakffpiimbdaaDoor
