/-
  THE STATEMENT HashCrcBursts: a burst of at most 40 bits turns the check.
-/
import Derived.Test.YtblakffpiimbdaaDoorHashBa
import Derived.Laws.OwnMore
namespace Go.Proofs.YtblakffpiimbdaaDoor
open Go.RowKit Go.ChangeShapes Go.WideShapes Go.ChangeAt

theorem U_set (o : Wm.Bs) (j : Nat) (v : Int) : U (o.set j v) = (U o).set j (.int .u8 v) := by unfold U; rw [List.map_set]
theorem ob_two (t : Nat) (h : t < 8) : ob (2 ^ t % 256) = BitVec.twoPow 8 t := by
  have : (List.range 8).all (fun t => ob (2 ^ t % 256) == BitVec.twoPow 8 t) = true := by decide +kernel
  exact eq_of_beq (Hm.of_range this t h)
theorem u16_arg {H : Type} {enc : TypeId × Value → H} {P : Program} {W : World} {r : Reach} {b0 : Nat} {v : Value} {d : DataW H} {p : List MemPlace} {t : TypeId} (ht : P.underlying t = some (.int .u16)) (hv : Value.okWide P W r b0 t v) (h : DataW.Trod enc P W 0 (fun _ => true) true t v d p) : ∃ n : Int, v = .int .u16 n ∧ 0 ≤ n ∧ n ≤ 65535 := by
  obtain ⟨n, rfl, _, _, hw⟩ := open_int ht hv h
  have h1 : IntKind.u16.min = 0 := rfl
  have h2 : IntKind.u16.max = 65535 := rfl
  simp only [Lit.wf, Bool.and_eq_true, decide_eq_true_eq] at hw
  exact ⟨n, rfl, by omega, by omega⟩
theorem u64_arg {H : Type} {enc : TypeId × Value → H} {P : Program} {W : World} {r : Reach} {b0 : Nat} {v : Value} {d : DataW H} {p : List MemPlace} {t : TypeId} (ht : P.underlying t = some (.int .u64)) (hv : Value.okWide P W r b0 t v) (h : DataW.Trod enc P W 0 (fun _ => true) true t v d p) : ∃ n : Int, v = .int .u64 n ∧ 0 ≤ n ∧ n ≤ 18446744073709551615 := by
  obtain ⟨n, rfl, _, _, hw⟩ := open_int ht hv h
  have h1 : IntKind.u64.min = 0 := rfl
  have h2 : IntKind.u64.max = 18446744073709551615 := rfl
  simp only [Lit.wf, Bool.and_eq_true, decide_eq_true_eq] at hw
  exact ⟨n, rfl, by omega, by omega⟩

set_option maxRecDepth 100000 in
set_option maxHeartbeats 2000000 in
theorem lawBursts_any (A : Option Addr) (n c : Nat) (b : Wm.Bs) (x pat : Int) (w : World) (tab : Tab w) (s0 : Sl w 1 A n (U b)) (z0 : Wm.isBs b) (hn : n ≤ maxLen) (hx : 0 ≤ x ∧ x ≤ 65535) :
    Calls Tryd.prog 10 #[.slice A n c, .int .u16 x, .int .u64 pat] w fun e w' => e = .returned (.bool true) ∧ Later w w' := by
  have HS := Lib.hid (sanity_any w tab)
  clear tab
  unfold maxLen at hn
  rcases Nat.eq_zero_or_pos n with hz | hz
  · subst hz
    go_enter Tryd.func10, Tryd.ntmps10
    go_wp2_with (go_at_call 15; refine HS.out.mono ?_; rintro e w1 ⟨rfl, l1⟩)
    go_ret
    exact ⟨rfl, l1⟩
  have hne : ((n : Int) == 0) = false := by simp; omega
  rcases Nat.lt_or_ge 400 n with h0 | h0
  · go_enter Tryd.func10, Tryd.ntmps10
    go_wp2_with (go_at_call 15; refine HS.out.mono ?_; rintro e w1 ⟨rfl, l1⟩)
    go_ret
    exact ⟨rfl, l1⟩
  clear hn
  obtain ⟨i0, hi, hz0, hz1, hz2⟩ := info_parts u8_info
  have hbl := s0.blen
  obtain ⟨first, hf, hf2⟩ : ∃ f : Nat, x.tmod (8 * (n : Int)) = (f : Int) ∧ f < 8 * n := by
    rw [Int.tmod_eq_emod_of_nonneg hx.1]
    have h1 := Int.emod_nonneg x (show (8 * (n : Int)) ≠ 0 by omega)
    have h2 := Int.emod_lt_of_pos x (show (0 : Int) < 8 * (n : Int) by omega)
    exact ⟨(x % (8 * (n : Int))).toNat, by omega, by omega⟩
  have g1 : IntKind.i64.wrap x = x := IntWalk.i64_in _ (by omega)
  have g2 : IntKind.i64.wrap (8 * (n : Int)) = 8 * (n : Int) := IntWalk.i64_in _ (by omega)
  have g3 : IntKind.i64.wrap (first : Int) = (first : Int) := IntWalk.i64_in _ (by omega)
  have g4 : ¬ (8 * (n : Int) = 0) := by omega
  go_enter Tryd.func10, Tryd.ntmps10
  go_wp2_with (first
    | (go_at_call 15; refine HS.out.mono ?_; rintro e w1 ⟨rfl, l1⟩)
    | (at_builtin; (refine wpList_app _ rfl _ _ 22 rfl w.heap.size 5 i0 (.int .u8 0) 1 1 Tryd.underlying22 hi hz0 hz1 hz2 rfl (by decide) _ _ _ rfl (World.ownsRow_lit w1 #[] 0 l1.size (Nat.zero_le _) rfl) A n c _ rfl (s0.keep (l1.alloc l1.size _)) (U_one _) (by unfold maxLen; omega) (by omega) (l1.alloc l1.size _).size ?_; intro v2 w2 hown' hgrow; have l2 : Later w w2 := (l1.alloc l1.size _).grown hgrow (l1.alloc l1.size _).size (fun k hk => by cases hk; exact l1.size); have o2 : w2.ownsRow w.heap.size 5 1 v2 n (U b) := (by have h := hown'; rw [Nat.zero_add] at h; exact h); clear hown' hgrow; obtain ⟨g, cg, rfl, hg1, hg2⟩ := o2.form hz)))
  clear hf g1 hx hz1 hz2 hz0 hi
  go_loopw [10, 11, 12] (fun sm kk _ wr => ∃ (k : Nat) (o : Wm.Bs) (P : Hm.R), k ≤ 40 ∧ first + k ≤ 8 * n ∧ kk = .int .i64 k ∧ sm = .bool (decide (P ≠ 0#40)) ∧ Hid (Burst b o first k P) ∧ wr.ownsRow w.heap.size 5 1 (.slice (some ⟨g, 0, none⟩) n cg) n (U o) ∧ Later w wr) (fun _ kk _ _ => 40 - (intOf kk).toNat)
  case atStart => exact ⟨0, b, 0#40, by omega, by omega, rfl, by simp, Lib.hid (Burst.start z0 first), o2, l2⟩
  case round =>
    obtain ⟨k, o, P, hk, hfk, rfl, rfl, HB, hor, hbr⟩ := hrel
    have g5 : IntKind.i64.wrap ((first : Int) + (k : Int)) = (first : Int) + (k : Int) := IntWalk.i64_in _ (by omega)
    by_cases hlt : k < 40 ∧ first + k < 8 * n
    · obtain ⟨ha, hb⟩ := hlt
      obtain ⟨s, hs⟩ : ∃ s, s = decide (P ≠ 0#40) := ⟨_, rfl⟩
      rw [← hs]
      have HSs := Lib.hid hs; clear hs
      obtain ⟨j, hj⟩ : ∃ j, j = (first + k) / 8 := ⟨_, rfl⟩
      obtain ⟨r, hr⟩ : ∃ r, r = (first + k) % 8 := ⟨_, rfl⟩
      have d1 : ((first : Int) + (k : Int)).tdiv 8 = (j : Int) := by rw [Int.tdiv_eq_ediv_of_nonneg (by omega)]; omega
      have m1 : ((first : Int) + (k : Int)).tmod 8 = (r : Int) := by rw [Int.tmod_eq_emod_of_nonneg (by omega)]; omega
      have hjn : j < n := by omega
      have hjn2 : (j : Int) < (n : Int) := by omega
      have hr8 : r < 8 := by omega
      have v1 : IntKind.i64.wrap (j : Int) = (j : Int) := IntWalk.i64_in _ (by omega)
      have v2 : IntKind.i64.wrap (r : Int) = (r : Int) := IntWalk.i64_in _ (by omega)
      have v3 : IntKind.i64.wrap (7 - (r : Int)) = 7 - (r : Int) := IntWalk.i64_in _ (by omega)
      have v4 : ((7 : Int) - (r : Int)).toNat = 7 - r := by omega
      have v5 : (0 : Int) ≤ 7 - (r : Int) := by omega
      have v6 : (r : Int) ≤ 7 := by omega
      have hol : o.length = n := by rw [HB.out.2.2.2]; exact hbl
      obtain ⟨y, hy⟩ : ∃ y, o.getD j 0 = y := ⟨_, rfl⟩
      have hcell : wr.cell? ⟨g, j, none⟩ = some (.int .u8 y) := by rw [hor.cellAt j (by omega), U_get o j (by omega), hy]
      have hfr := hor.frozenAt j
      have HJ := Lib.hid hj; have HR := Lib.hid hr; have HY := Lib.hid hy
      clear hj hr hy hol
      go_wp2_with fail
      · go_still_tail 14, (by kernel_rfl)
        change wpList _ _ _ _ _ wr.drew
        go_wp2
        have hst := (hor.stored j (.int .u8 (bits .xor .u8 y (2 ^ (7 - r) % 256)))).1.drew
        have hb2 : Later w (wr.setCell ⟨g, j, none⟩ (.int .u8 (bits .xor .u8 y (2 ^ (7 - r) % 256)))).drew := (hbr.setCell hg1 _).drew
        rw [← U_set] at hst
        have hfl := HB.out.flip ha (by rw [hbl]; exact hb) (bits .xor .u8 y (2 ^ (7 - r) % 256)) (by rw [← HJ.out, ← HR.out, HY.out, u8_xor, ob_two _ (by omega)])
        rw [← HJ.out] at hfl
        go_roundw
        case rel => exact ⟨k + 1, _, _, by omega, by omega, by go_num, by rw [decide_eq_true hfl.2], Lib.hid hfl.1, hst, hb2⟩
        case measure => simp [intOf]; omega
      · go_roundw
        case rel => exact ⟨k + 1, o, P, by omega, by omega, by go_num, by rw [HSs.out], Lib.hid HB.out.pass, hor, hbr⟩
        case measure => simp [intOf]; omega
    · obtain ⟨s, hs⟩ : ∃ s, s = decide (P ≠ 0#40) := ⟨_, rfl⟩
      rw [← hs]
      obtain ⟨r0, hr0⟩ : ∃ x, x = crcI b := ⟨_, rfl⟩
      obtain ⟨r1, hr1⟩ : ∃ x, x = crcI o := ⟨_, rfl⟩
      have hsame := HB.out.same
      rw [← hr0, ← hr1, ← hs] at hsame
      have hbo := HB.out.2.2.1
      obtain ⟨V, cV, hv, _, _, q3, _⟩ := own_form hor
      cases hv
      have C0 := Lib.hid fun w' (hw : Later w w') => by have h := crc40_any A n c b w' (s0.keep hw) z0 (by unfold maxLen; omega); rw [← hr0] at h; exact h
      have C1 := Lib.hid fun w' (hs : Sl w' 1 (some ⟨g, 0, none⟩) n (U o)) => by have h := crc40_any (some ⟨g, 0, none⟩) n cg o w' hs hbo (by unfold maxLen; omega); rw [← hr1] at h; exact h
      clear hr0 hr1 hs hor hbo
      rcases Nat.lt_or_ge k 40 with hk4 | hk4
      · have hge : 8 * n ≤ first + k := by omega
        have hge2 : ¬ ((first : Int) + (k : Int) < 8 * (n : Int)) := by omega
        go_wp2_with (first
          | (go_at_call 16; (with_reducible refine (C1.out w3 (q3.keep h3)).mono ?_); rintro e w4 ⟨rfl, h4⟩; have l4 : Later w w4 := Later.trans_ l3 h4)
          | (go_at_call 16; (with_reducible refine (C0.out wr hbr).mono ?_); rintro e w3 ⟨rfl, h3⟩; have l3 : Later w w3 := Later.trans_ hbr h3))
        go_ret
        exact ⟨ret_bool (by simp), l4⟩
      · obtain rfl : k = 40 := by omega
        rw [show ((40 : Nat) : Int) = 40 from rfl]
        go_wp2_with (first
          | (go_at_call 16; (with_reducible refine (C1.out w3 (q3.keep h3)).mono ?_); rintro e w4 ⟨rfl, h4⟩; have l4 : Later w w4 := Later.trans_ l3 h4)
          | (go_at_call 16; (with_reducible refine (C0.out wr hbr).mono ?_); rintro e w3 ⟨rfl, h3⟩; have l3 : Later w w3 := Later.trans_ hbr h3))
        go_ret
        exact ⟨ret_bool (by simp), l4⟩

theorem hashCrcBursts_contract (H : Type) (enc : TypeId × Value → H) (W : World) (base : Nat) (args : Array Value) (ds gs : List (DataW H)) (before : List MemPlace)
    (hval : ∀ (j : Nat) t v, Tryd.f10.params[j]? = some t → args[j]? = some v → Value.okWide Tryd.prog W .any base t v)
    (hW : DataW.Whole enc Tryd.prog Tryd.f10.params.toList Rows.hashCrcBurstsSpec.vars false W args.toList ds gs before) (hL : laidMetH Tryd.prog Rows.hashCrcBurstsRow.laid W) :
    Calls Tryd.prog 10 args W fun e W' => ∃ v, e = .returned v ∧ Rows.hashCrcBurstsSpec.post enc Tryd.prog Tryd.f10 false true false false W args v W' := by
  have hW' := hW
  have tab : Tab W := tab_of hL
  obtain ⟨p, q, hA0, hV, rfl, _, _⟩ := hW
  have hA : DataW.TrodAll enc Tryd.prog W 0 (fun _ => true) true Tryd.f10.params.toList args.toList ds p := hA0
  rw [Tryd.params10] at hA hval
  obtain ⟨v0, vs0, d0, ds0, p0, q0, hargs, rfl, rfl, h0, r0⟩ := trodAll_cons hA
  obtain ⟨v1, vs1, d1, ds1, p1, q1, rfl, rfl, rfl, h1, r1⟩ := trodAll_cons r0
  obtain ⟨v2, vs2, d2, ds2, p2, q2, rfl, rfl, rfl, h2, r2⟩ := trodAll_cons r1
  obtain ⟨rfl, rfl, rfl⟩ := trodAll_nil r2
  obtain rfl : args = #[v0, v1, v2] := by cases args; simp_all
  obtain ⟨rfl, rfl⟩ := trodVars_none hV
  obtain ⟨A0, n0, c0, b0, rfl, x0, y0, s0, z0⟩ := bytes_arg Tryd.underlying22 Tryd.underlying5 (by kernel_rfl) (hval 0 22 v0 rfl rfl) h0
  obtain ⟨e1, rfl, f1, f2⟩ := u16_arg Tryd.underlying45 (hval 1 45 v1 rfl rfl) h1
  obtain ⟨e2, rfl, _, _⟩ := u64_arg Tryd.underlying28 (hval 2 28 v2 rfl rfl) h2
  clear hA0
  simp only [List.append_nil] at hW'
  refine (lawBursts_any A0 n0 c0 b0 e1 e2 W tab s0 z0 (Nat.le_trans x0 y0) ⟨f1, f2⟩).mono fun e W' ⟨he, hw⟩ => ?_
  subst he
  exact ⟨_, rfl, law_post laidK rfl (by kernel_rfl) (by kernel_rfl) Tryd.underlying4 (by kernel_rfl) hW' rfl hw⟩
theorem hashCrcBursts_met (os : Os) : laidMet Tryd.prog Rows.hashCrcBurstsRow.laid ((laidWorld os).forCall (fun _ _ => 0) ⟨#[], #[.slice none 0 0, .int .u16 0, .int .u64 0], []⟩).memory :=
  laidMet_of_run' 8 (by kernel_rfl) (by kernel_rfl)
theorem hashCrcBursts_reads (os : Os) {H : Type} (enc : TypeId × Value → H) : ∃ places, DataW.whole enc Tryd.prog ((laidWorld os).forCall (fun _ _ => 0) ⟨#[], #[.slice none 0 0, .int .u16 0, .int .u64 0], []⟩).memory Tryd.f10.params.toList Rows.hashCrcBurstsSpec.vars false (#[.slice none 0 0, .int .u16 0, .int .u64 0] : Array Value).toList 8 = some ([.nil, .lit (.int .u16 0), .lit (.int .u64 0)], [], places) :=
  ⟨[], by kernel_rfl⟩

set_option maxRecDepth 100000 in
theorem hashCrcBursts_lifted (os : Os) (started : os.Started) (H : Type) (enc : TypeId × Value → H) (F : Stop.Interp) :
    ReturnsInHanded {} Tryd.checked os 10 .any ((OpenSpec.ofChange Rows.hashCrcBurstsSpec).preRow enc Tryd.prog Tryd.f10 Rows.hashCrcBurstsRow.domain false Rows.hashCrcBurstsRow.laid) (((OpenSpec.ofChange Rows.hashCrcBurstsSpec).at F).post enc Tryd.prog Tryd.f10 false true false false) := by
  obtain ⟨places, hx⟩ := hashCrcBursts_reads os enc
  refine returnsInHanded_of_row (C := Tryd.checked) (s := OpenSpec.ofChange Rows.hashCrcBurstsSpec) ownK started (by kernel_rfl) Tryd.func10
    (witness_row_at (enc := enc) (C := Tryd.checked) false (laidWorld os) #[.slice none 0 0, .int .u16 0, .int .u64 0] rfl (by kernel_rfl) (by kernel_rfl) (by kernel_rfl)
      (OpenSpec.preRow_of_cond 8 hx (by kernel_rfl) (fun k hk => by cases hk) (by kernel_rfl) (hashCrcBursts_met os))) ?_
  intro W base args ds gs before hval hW _ _ _ hL _ _
  exact hashCrcBursts_contract H enc W base args ds gs before hval hW hL

set_option maxRecDepth 100000 in
theorem hashCrcBursts_said : Rows.HashCrcBurstsSaid :=
  OpenClaim.holds_of_cond 10 Tryd.f10 rfl rfl rfl rfl rfl rfl rfl ⟨rfl, rfl, rfl, rfl, rfl⟩ rfl rfl rfl rfl rfl (by kernel_rfl) Tryd.func10 (by kernel_rfl)
    (of_decide_eq_true (by kernel_rfl)) (by unfold Func.isWrapper; first | (rw [if_pos (by decide +kernel)]; kernel_rfl) | (rw [if_neg (by decide +kernel)]; exact ⟨rfl, rfl⟩))
    (fun os started H enc _ F => by rw [OpenClaim.pre_eq_preRow]; exact hashCrcBursts_lifted os started H enc F)

theorem hashCrcBursts_plain (f : FuncId) (fn : Func) (hf : Tryd.pinned.checked.prog.funcNamed "simulacrum/simulacrumlaw02.HashCrcBursts" = some f) (hfn : Tryd.pinned.checked.prog.funcs[f]? = some fn) :
    false = Tryd.pinned.checked.prog.looks [] ∧ ∀ (j : Nat) t, fn.params[j]? = some t → Tryd.pinned.checked.prog.wantsStandIn t = false := by
  obtain rfl : f = 10 := Option.some.inj ((show Tryd.prog.funcNamed "simulacrum/simulacrumlaw02.HashCrcBursts" = some 10 by kernel_rfl).symm.trans hf) |>.symm
  obtain rfl : fn = Tryd.f10 := (Option.some.inj (Tryd.func10.symm.trans hfn)).symm
  refine ⟨by kernel_rfl, fun j t ht => ?_⟩
  exact wants_none 10 Tryd.f10.params (by kernel_rfl) j t ht

/-- The card. -/
theorem hashCrcBursts_card : Rows.HashCrcBurstsCardSaid :=
  Claim7.holds_tied_plain_at .later [] _ _ _ _ hashCrcBursts_said (fun _ h => by cases h) (by kernel_rfl) (fun _ h => by cases h) hashCrcBursts_row_tie rfl ⟨rfl, rfl⟩ (by kernel_rfl) rfl hashCrcBursts_plain (by kernel_rfl)
#print axioms hashCrcBursts_card

end Go.Proofs.YtblakffpiimbdaaDoor
