/-
  THE STATEMENT LinesAreApart: what a processor does changes nothing at another one, but that a signal may come there; a line that is raised changes one bit of one processor at most; for every control and act.
-/
import Derived.Test.YtkpigonlnabmdabLinM
import Derived.Deep.RegionHeld
namespace Go.Proofs.Ytkpigonlnabmdab
open Go.RowKit Go.ChangeShapes Go.WideShapes Go.ChangeAt

set_option maxRecDepth 100000 in
set_option maxHeartbeats 8000000 in
theorem apart_all (x : Ctl) (a : Ac) (w : World) (hx : x.wf) (ha : a.wf) :
    Calls Try.prog 6 #[.agg x.cells.toArray, .agg a.cells.toArray] w fun e w' => e = .returned (.bool true) ∧ Later w w' := by
  have KS := Lib.hid fun w' => sanity_any w'
  have b2 := (Blk.new w 26 x.cells.toArray x.cells rfl).alloc (.cells a.cells.toArray 49)
  have b3 := Blk.new' (w.alloc (.cells x.cells.toArray 26)) (w.heap.size + 1) 49 a.cells.toArray a.cells (by simp) rfl
  have lw := (later1 w (.cells x.cells.toArray 26)).alloc (by simp) (.cells a.cells.toArray 49)
  by_cases hok : x.Ok
  · have KV := Lib.hid fun w' => rvalid_yes hx hok w'
    have hn1 := hok.n1
    have hn4 := hok.n4
    have hkn : (((a.cp % x.n).toNat : Nat) : Int) < x.n := by
      rw [Int.toNat_of_nonneg (Int.emod_nonneg _ (by omega))]; exact Int.emod_lt_of_pos _ (by omega)
    obtain ⟨k, hk⟩ : ∃ k, k = (a.cp % x.n).toNat := ⟨_, rfl⟩
    have KA := Lib.hid fun w' => act_any x a k w' hok hx ha hk
    rw [← hk] at hkn
    have hsh := act_shape hok hkn ha
    obtain ⟨j, hcame⟩ := act_came hok hx hkn ha
    obtain ⟨d, hd⟩ : ∃ d, d = actC x a k := ⟨_, rfl⟩
    rw [← hd] at KA hsh hcame
    obtain ⟨hdn, _, _, hdm⟩ := hsh
    have HC := Lib.hid hcame
    have HDN := Lib.hid hdn
    have HDM := Lib.hid hdm
    have HAW := Lib.hid ha
    obtain ⟨f, hf⟩ : ∃ f, f = fun p => bits .andNot .u32 (d.r p) (x.r p) := ⟨_, rfl⟩
    have HF := Lib.hid hf
    have h1 : ∀ m : Nat, (m : Int) ≤ x.n → cnt f m ≤ 1 := by
      intro m hm
      refine cnt_one (j := j) (fun p hp hne => ?_)
      rw [hf]
      exact (hcame p (by omega)).1 hne
    have H1 := Lib.hid h1
    clear hk hd hcame hdn hdm hf h1 hok hx ha
    go_enter Try.func6, Try.ntmps6
    go_upto_region 1 with fail
    go_wp2_with (first
      | ((with_reducible refine wpList_load_blk (o := ⟨some 11, .load 26 (.tmp 2), _, _, _, none⟩) rfl _ _ rfl w.heap.size 26 x.cells _ ?_ ?_ Try.underlying26 rfl (ctl_sz _) ?_); rfl; exact b2)
      | (go_at_call 9; (with_reducible refine (KV.out _).mono ?_); rintro e w1 ⟨rfl, l1⟩; replace b2 := b2.keep l1; replace b3 := b3.keep l1; replace lw := Later.trans_ lw l1)
      | ((with_reducible refine wpList_load_blk (o := ⟨some 16, .load 26 (.tmp 2), _, _, _, none⟩) rfl _ _ rfl w.heap.size 26 x.cells _ ?_ ?_ Try.underlying26 rfl (ctl_sz _) ?_); rfl; exact b2)
      | ((with_reducible refine wpList_load_blk (o := ⟨some 17, .load 49 (.tmp 3), _, _, _, none⟩) rfl _ _ rfl (w.heap.size + 1) 49 a.cells _ ?_ ?_ Try.underlying49 rfl (ac_sz _) ?_); rfl; exact b3)
      | (go_at_call 22; (with_reducible refine (KA.out _).mono ?_); rintro e w2 ⟨rfl, l2⟩; replace b2 := b2.keep l2; replace b3 := b3.keep l2; replace lw := Later.trans_ lw l2)
      | ((with_reducible refine wpList_store_abs (o := ⟨none, .store 26 (.tmp 5) (.tmp 19), _, _, _, none⟩) rfl _ _ _ rfl w2.heap.size 26 zK.cells d.cells ?_ ?_ ?_ ?_ ?_ ?_ ?_); rfl; rfl; exact (Blk.new _ _ _ _ rfl); exact ctl_sz _; rfl; exact ctl_one _; intro v2 b5 ob5; replace b2 := (b2.alloc (.cells zK.cells.toArray 26)).only ob5 (Nat.ne_of_lt b2.lt); replace b3 := (b3.alloc (.cells zK.cells.toArray 26)).only ob5 (Nat.ne_of_lt b3.lt); replace lw := Below.only (lw.alloc lw.size (.cells zK.cells.toArray 26)) ob5 lw.size; clear ob5; have e0 := b2.cell (ctl_n x)))
    clear e0
    go_loopw [23, 7] (fun i ch wr => ∃ p : Nat, (p : Int) ≤ x.n ∧ i = .int .i64 p ∧ ch = .int .i64 ((cnt f p : Nat) : Int) ∧ Blk wr w.heap.size 26 x.cells ∧ Blk wr (w.heap.size + 1) 49 a.cells ∧ Blk wr w2.heap.size 26 d.cells ∧ Later w wr) (fun i _ _ => x.n.toNat - (intOf i).toNat)
    case atStart => exact ⟨0, by omega, rfl, rfl, b2, b3, b5, lw⟩
    case round =>
      clear b2 b3 b5 lw
      obtain ⟨p, hp, rfl, rfl, b2, b3, b5, lw⟩ := hrel
      by_cases hlt : (p : Int) < x.n
      · have h4 : p < 4 := by omega
        have h4i : (p : Int) < 4 := by omega
        have hp0 : (0 : Int) ≤ p := by omega
        obtain ⟨_, i2, i3, _⟩ := HC.out p hlt
        have hfp : f p = bits .andNot .u32 (d.r p) (x.r p) := by rw [HF.out]
        obtain ⟨c, hc⟩ : ∃ c, bits .andNot .u32 (d.r p) (x.r p) = c := ⟨_, rfl⟩
        rw [hc] at i2 i3 hfp
        have hcn : cnt f (p + 1) = if f p = 0 then cnt f p else cnt f p + 1 := rfl
        rw [hfp] at hcn
        have hq1 := H1.out p hp
        obtain ⟨q, hq⟩ : ∃ q, q = cnt f p := ⟨_, rfl⟩
        have HQ := Lib.hid hq
        rw [← hq] at hcn hq1 ⊢
        have HCN := Lib.hid hcn
        clear hq hcn hfp
        go_wp2
        have e1 := b5.cell (ctl_r d h4)
        have e2 := b2.cell (ctl_r x h4)
        go_region
        clear e1 e2
        replace b2 := b2.drew
        replace b3 := b3.drew
        replace b5 := b5.drew
        replace lw := lw.drew
        have e1 := b5.cell (ctl_r d h4)
        have e2 := b2.cell (ctl_r x h4)
        have e3 := b5.cell (ctl_m d h4)
        have e4 := b2.cell (ctl_m x h4)
        have e5 := b3.cell (j := 0) (v := .bool a.rs) rfl
        have e6 := b3.cell (j := 3) (v := .bool a.inn) rfl
        have e7 := b3.cell (j := 4) (v := .int .i64 a.p) rfl
        have e8 := b3.cell (j := 5) (v := .int .u32 a.v) rfl
        by_cases hc0 : c = 0
        · subst hc0
          have hw1 : IntKind.u32.wrap (0 - 1) = 4294967295 := by decide
          by_cases hpk : p = k
          · have dk : ((p : Int) == (k : Int)) = true := by rw [hpk]; simp
            go_wp2
            clear e1 e2 e3 e4 e5 e6 e7 e8
            first
              | exact ⟨⟨p + 1, by omega, by first | go_num | (congr 1; omega), by rw [HCN.out, if_pos rfl], b2, b3, b5, lw⟩, by simp [intOf]; omega⟩
              | (go_roundw
                 case rel => first | exact ⟨p + 1, by omega, by go_num, by rw [HCN.out, if_pos rfl], b2, b3, b5, lw⟩ | exact ⟨p + 1, by omega, by omega, by rw [HCN.out, if_pos rfl]⟩
                 case measure => simp [intOf]; omega)
          · have dk : ((p : Int) == (k : Int)) = false := by rw [beq_eq_false_iff_ne]; omega
            cases hrs : a.rs with
            | true =>
              rw [hrs] at e5
              go_wp2
              clear e1 e2 e3 e4 e5 e6 e7 e8
              first
                | exact ⟨⟨p + 1, by omega, by first | go_num | (congr 1; omega), by rw [HCN.out, if_pos rfl], b2, b3, b5, lw⟩, by simp [intOf]; omega⟩
                | (go_roundw
                   case rel => first | exact ⟨p + 1, by omega, by go_num, by rw [HCN.out, if_pos rfl], b2, b3, b5, lw⟩ | exact ⟨p + 1, by omega, by omega, by rw [HCN.out, if_pos rfl]⟩
                   case measure => simp [intOf]; omega)
            | false =>
              rw [hrs] at e5
              obtain ⟨hmm, hlost, hsig⟩ := i3 hpk hrs
              rw [hmm] at e3
              cases hi : a.inn with
              | true =>
                rw [hi] at e6
                go_upto_region 15 with fail
                go_region
                clear e1 e2 e3 e4 e5 e6 e7 e8
                replace b2 := b2.drew
                replace b3 := b3.drew
                replace b5 := b5.drew
                replace lw := lw.drew
                go_wp2
                first
                  | exact ⟨⟨p + 1, by omega, by first | go_num | (congr 1; omega), by rw [HCN.out, if_pos rfl], b2, b3, b5, lw⟩, by simp [intOf]; omega⟩
                  | (go_roundw
                     case rel => first | exact ⟨p + 1, by omega, by go_num, by rw [HCN.out, if_pos rfl], b2, b3, b5, lw⟩ | exact ⟨p + 1, by omega, by omega, by rw [HCN.out, if_pos rfl]⟩
                     case measure => simp [intOf]; omega)
              | false =>
                rw [hi] at e6
                by_cases h3 : a.p = 3
                · rw [h3] at e7
                  have hcv : IntKind.i64.wrap a.v = a.v := by have := HAW.out.v; rw [IntKind.wrap_i64]; exact (by have h1 := this.1; have h2 := this.2; omega)
                  by_cases hv : a.v = (p : Int)
                  · have dv : (a.v == (p : Int)) = true := by simpa using hv
                    go_upto_region 15 with fail
                    go_region
                    clear e1 e2 e3 e4 e5 e6 e7 e8
                    replace b2 := b2.drew
                    replace b3 := b3.drew
                    replace b5 := b5.drew
                    replace lw := lw.drew
                    go_wp2
                    first
                      | exact ⟨⟨p + 1, by omega, by first | go_num | (congr 1; omega), by rw [HCN.out, if_pos rfl], b2, b3, b5, lw⟩, by simp [intOf]; omega⟩
                      | (go_roundw
                         case rel => first | exact ⟨p + 1, by omega, by go_num, by rw [HCN.out, if_pos rfl], b2, b3, b5, lw⟩ | exact ⟨p + 1, by omega, by omega, by rw [HCN.out, if_pos rfl]⟩
                         case measure => simp [intOf]; omega)
                  · have dv : (a.v == (p : Int)) = false := by simpa using hv
                    go_upto_region 15 with fail
                    go_region
                    clear e1 e2 e3 e4 e5 e6 e7 e8
                    replace b2 := b2.drew
                    replace b3 := b3.drew
                    replace b5 := b5.drew
                    replace lw := lw.drew
                    go_wp2
                    first
                      | exact ⟨⟨p + 1, by omega, by first | go_num | (congr 1; omega), by rw [HCN.out, if_pos rfl], b2, b3, b5, lw⟩, by simp [intOf]; omega⟩
                      | (go_roundw
                         case rel => first | exact ⟨p + 1, by omega, by go_num, by rw [HCN.out, if_pos rfl], b2, b3, b5, lw⟩ | exact ⟨p + 1, by omega, by omega, by rw [HCN.out, if_pos rfl]⟩
                         case measure => simp [intOf]; omega)
                · have d3 : (a.p == 3) = false := beq_false_of_ne h3
                  go_upto_region 15 with fail
                  go_region
                  clear e1 e2 e3 e4 e5 e6 e7 e8
                  replace b2 := b2.drew
                  replace b3 := b3.drew
                  replace b5 := b5.drew
                  replace lw := lw.drew
                  go_wp2
                  first
                    | exact ⟨⟨p + 1, by omega, by first | go_num | (congr 1; omega), by rw [HCN.out, if_pos rfl], b2, b3, b5, lw⟩, by simp [intOf]; omega⟩
                    | (go_roundw
                       case rel => first | exact ⟨p + 1, by omega, by go_num, by rw [HCN.out, if_pos rfl], b2, b3, b5, lw⟩ | exact ⟨p + 1, by omega, by omega, by rw [HCN.out, if_pos rfl]⟩
                       case measure => simp [intOf]; omega)
        · have dc : (c != 0) = true := by simpa using hc0
          have i2b : bits .and .u32 c ((c - 1) % 4294967296) = 0 := by rw [IntKind.wrap_u32] at i2; exact i2
          have hq2 : IntKind.i64.wrap ((q : Int) + 1) = (q : Int) + 1 := by rw [IntKind.wrap_i64]; omega
          have hcq : ((cnt f (p + 1) : Nat) : Int) = (q : Int) + 1 := by rw [HCN.out, if_neg hc0]; omega
          replace hcq := Lib.hid hcq
          by_cases hpk : p = k
          · have dk : ((p : Int) == (k : Int)) = true := by rw [hpk]; simp
            go_wp2
            clear e1 e2 e3 e4 e5 e6 e7 e8
            first
              | exact ⟨⟨p + 1, by omega, by first | go_num | (congr 1; omega), by rw [hcq.out], b2, b3, b5, lw⟩, by simp [intOf]; omega⟩
              | (go_roundw
                 case rel => first | exact ⟨p + 1, by omega, by go_num, by rw [hcq.out], b2, b3, b5, lw⟩ | exact ⟨p + 1, by omega, by omega, by rw [hcq.out]⟩
                 case measure => simp [intOf]; omega)
          · have dk : ((p : Int) == (k : Int)) = false := by rw [beq_eq_false_iff_ne]; omega
            cases hrs : a.rs with
            | true =>
              rw [hrs] at e5
              go_wp2
              clear e1 e2 e3 e4 e5 e6 e7 e8
              first
                | exact ⟨⟨p + 1, by omega, by first | go_num | (congr 1; omega), by rw [hcq.out], b2, b3, b5, lw⟩, by simp [intOf]; omega⟩
                | (go_roundw
                   case rel => first | exact ⟨p + 1, by omega, by go_num, by rw [hcq.out], b2, b3, b5, lw⟩ | exact ⟨p + 1, by omega, by omega, by rw [hcq.out]⟩
                   case measure => simp [intOf]; omega)
            | false =>
              rw [hrs] at e5
              obtain ⟨hmm, hlost, hsig⟩ := i3 hpk hrs
              rw [hmm] at e3
              obtain ⟨hi, h3, hv, h16⟩ := hsig hc0
              rw [hi] at e6
              rw [h3] at e7
              rw [hv] at e8
              have hcv : IntKind.i64.wrap (p : Int) = (p : Int) := by rw [IntKind.wrap_i64]; omega
              go_upto_region 15 with fail
              go_region
              clear e1 e2 e3 e4 e5 e6 e7 e8
              replace b2 := b2.drew
              replace b3 := b3.drew
              replace b5 := b5.drew
              replace lw := lw.drew
              go_wp2
              first
                | exact ⟨⟨p + 1, by omega, by first | go_num | (congr 1; omega), by rw [hcq.out], b2, b3, b5, lw⟩, by simp [intOf]; omega⟩
                | (go_roundw
                   case rel => first | exact ⟨p + 1, by omega, by go_num, by rw [hcq.out], b2, b3, b5, lw⟩ | exact ⟨p + 1, by omega, by omega, by rw [hcq.out]⟩
                   case measure => simp [intOf]; omega)
      · have hpn : (p : Int) = x.n := by omega
        have hch : ((cnt f p : Nat) : Int) ≤ 1 := by have := H1.out p hp; omega
        obtain ⟨q, hq⟩ : ∃ q, q = cnt f p := ⟨_, rfl⟩
        rw [← hq] at hch ⊢
        clear hq
        have e5 := b3.cell (j := 0) (v := .bool a.rs) rfl
        have en := b5.cell (ctl_n d)
        rw [HDN.out] at en
        have ex := b2.cell (ctl_n x)
        cases hrs : a.rs with
        | true =>
          obtain ⟨hm, ht⟩ := HDM.out hrs
          have hfm := fun w' => four_same x.m 9998 w'
          have hft := fun w' => five_same x.t 9998 w'
          have hdrm : (d.cells.drop 5).take 4 = four x.m := by rw [← hm]; exact drop_m d
          have hdrt : (d.cells.drop 9).take 5 = five x.t := by rw [← ht]; exact drop_t d
          rw [hrs] at e5
          clear hm ht hrs
          go_wp2_with (first
            | ((with_reducible refine wpList_load_atg (o := ⟨some 107, .load 23 (.tmp 106), _, _, _, _⟩) _ _ rfl w2.heap.size 5 4 26 d.cells (four x.m) _ ?_ ?_ ?_ hdrm Try.underlying23 ?_ (four_sz _) ?_); rfl; rfl; exact b5; rfl)
            | ((with_reducible refine wpList_load_atg (o := ⟨some 109, .load 23 (.tmp 108), _, _, _, _⟩) _ _ rfl w.heap.size 5 4 26 x.cells (four x.m) _ ?_ ?_ ?_ (drop_m x) Try.underlying23 ?_ (four_sz _) ?_); rfl; rfl; exact b2; rfl)
            | ((with_reducible refine wpList_load_atg (o := ⟨some 113, .load 24 (.tmp 112), _, _, _, _⟩) _ _ rfl w2.heap.size 9 5 26 d.cells (five x.t) _ ?_ ?_ ?_ hdrt Try.underlying24 ?_ (five_sz _) ?_); rfl; rfl; exact b5; rfl)
            | ((with_reducible refine wpList_load_atg (o := ⟨some 115, .load 24 (.tmp 114), _, _, _, _⟩) _ _ rfl w.heap.size 9 5 26 x.cells (five x.t) _ ?_ ?_ ?_ (drop_t x) Try.underlying24 ?_ (five_sz _) ?_); rfl; rfl; exact b2; rfl)
            | (go_at_call 11; clear e5 en ex; (with_reducible refine (KS.out _).mono ?_); rintro e w7 ⟨rfl, l7⟩; replace b5 := b5.keep l7; replace b2 := b2.keep l7; replace lw := Later.trans_ lw l7; have en := b5.cell (ctl_n d); rw [HDN.out] at en; have ex := b2.cell (ctl_n x)))
          go_ret
          exact ⟨rfl, lw⟩
        | false =>
          rw [hrs] at e5
          clear hrs
          go_wp2_with (go_at_call 11; clear e5 en ex; (with_reducible refine (KS.out _).mono ?_); rintro e w7 ⟨rfl, l7⟩; replace b5 := b5.keep l7; replace b2 := b2.keep l7; replace lw := Later.trans_ lw l7; have en := b5.cell (ctl_n d); rw [HDN.out] at en; have ex := b2.cell (ctl_n x))
          go_ret
          exact ⟨rfl, lw⟩
  · have KV := Lib.hid fun w' => rvalid_no hx hok w'
    clear hok hx ha
    go_enter Try.func6, Try.ntmps6
    go_wp2_with (first
      | ((with_reducible refine wpList_load_blk (o := ⟨some 11, .load 26 (.tmp 2), _, _, _, none⟩) rfl _ _ rfl w.heap.size 26 x.cells _ ?_ ?_ Try.underlying26 rfl (ctl_sz _) ?_); rfl; exact b2)
      | (go_at_call 9; (with_reducible refine (KV.out _).mono ?_); rintro e w1 ⟨rfl, l1⟩; replace b2 := b2.keep l1; replace lw := Later.trans_ lw l1)
      | (go_at_call 11; (with_reducible refine (KS.out _).mono ?_); rintro e w3 ⟨rfl, l3⟩; replace b2 := b2.keep l3; replace lw := Later.trans_ lw l3))
    go_ret
    exact ⟨rfl, lw⟩

set_option maxRecDepth 100000 in
theorem linesAreApart_lifted (os : Os) (started : os.Started) (H : Type) (enc : TypeId × Value → H) :
    ReturnsInHanded {} Try.checked os 6 .any (Rows.linesAreApartSpec.pre6 enc Try.prog Try.f6 Rows.linesAreApartRow.domain false) (Rows.linesAreApartSpec.post enc Try.prog Try.f6 false true false false) := by
  refine returnsInHanded_of_change (C := Try.checked) ownK started (by kernel_rfl) Try.func6
    (ChangeSpec.witness6 (enc := enc) (C := Try.checked) false ⟨#[], #[.agg #[.int .i64 0, .int .u32 0, .int .u32 0, .int .u32 0, .int .u32 0, .int .u32 0, .int .u32 0, .int .u32 0, .int .u32 0, .int .i64 0, .int .i64 0, .int .i64 0, .int .i64 0, .int .i64 0], .agg #[.bool false, .int .u8 0, .int .i64 0, .bool false, .int .i64 0, .int .u32 0]], []⟩ 8 (by kernel_rfl) (by kernel_rfl) (by kernel_rfl) (by kernel_rfl)) ?_
  intro W base args ds gs before hval0 hW hcnd _
  have hval : ∀ (j : Nat) t v, Try.f6.params[j]? = some t → args[j]? = some v → Value.okWide Try.prog W .any base t v := hval0
  have hW' := hW
  obtain ⟨p, q, hA0, hV, rfl, hfz, hnd⟩ := hW
  have hA : DataW.TrodAll enc Try.prog W 0 (fun _ => true) true Try.f6.params.toList args.toList ds p := hA0
  rw [Try.params6] at hA hval
  obtain ⟨v0, vs0, d0, ds0, p0, q0, hargs, rfl, rfl, h0, r0⟩ := trodAll_cons hA
  obtain ⟨v1, vs1, d1, ds1, p1, q1, rfl, rfl, rfl, h1, r1⟩ := trodAll_cons r0
  obtain ⟨rfl, rfl, rfl⟩ := trodAll_nil r1
  obtain rfl : args = #[v0, v1] := by cases args; simp_all
  obtain ⟨rfl, rfl⟩ := trodVars_none hV
  obtain ⟨a0, rfl, z0⟩ := ctl_open (hval 0 26 v0 rfl rfl) h0
  obtain ⟨a1, rfl, z1⟩ := act_open (hval 1 49 v1 rfl rfl) h1
  clear hA0 hval0
  simp only [List.append_nil] at hW'
  refine (apart_all a0 a1 W z0 z1).mono fun e W' ⟨he, hw⟩ => ?_
  subst he
  exact ⟨_, rfl, law_post laidK rfl (by kernel_rfl) (by kernel_rfl) Try.underlying4 (by kernel_rfl) hW' rfl hw⟩
set_option maxRecDepth 100000 in
/-- The statement. -/
theorem linesAreApart_said : Rows.LinesAreApartSaid :=
  OpenClaim.holds_of_wide 6 Try.f6 rfl rfl rfl rfl rfl rfl rfl ⟨rfl, rfl, rfl, rfl, rfl⟩ rfl rfl rfl rfl rfl (by kernel_rfl) Try.func6 (by kernel_rfl)
    (of_decide_eq_true (by kernel_rfl)) (by unfold Func.isWrapper; first | (rw [if_pos (by decide +kernel)]; kernel_rfl) | (rw [if_neg (by decide +kernel)]; exact ⟨rfl, rfl⟩))
    (fun os started H enc _ => linesAreApart_lifted os started H enc)
#print axioms linesAreApart_said
end Go.Proofs.Ytkpigonlnabmdab
