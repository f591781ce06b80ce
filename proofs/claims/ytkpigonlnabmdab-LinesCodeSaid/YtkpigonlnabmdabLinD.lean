/-
  A CONTROL: New, Valid.
-/
import Derived.Test.YtkpigonlnabmdabLinC
import Derived.Deep.RegionHeld
namespace Go.Proofs.Ytkpigonlnabmdab
open Go.RowKit Go.ChangeShapes Go.WideShapes Go.ChangeAt

theorem results_cell_tmp {P : Program} {fn : Func} {p q : Tmp} {ty : TypeId} (h : fn.results = #[.cell p ty, .tmp q]) (tmps : Array Value) (w : World) (g : Nat) (t : TypeId) (cs : List Value) (v : Value) (d : TypeDesc)
    (hp : tmps.getD p undef = .pointer (some ⟨g, 0, none⟩)) (hq : tmps.getD q undef = v) (hg : Blk w g t cs)
    (hu : P.underlying ty = some d) (hd : (match d with | .struct _ | .array _ _ => true | _ => false) = true) (hi : (P.info? ty).map (·.size) = some cs.length) :
    (results fn tmps).run P w = .ok (.tuple #[.agg cs.toArray, v]) w := by
  have hp' : tmps[p]?.getD undef = .pointer (some ⟨g, 0, none⟩) := by simpa using hp
  have hq' : tmps[q]?.getD undef = v := by simpa using hq
  simp [results, h, hp', hq', asAddr, run_loadVar_row w g t ty cs.toArray (0, 0) d hg hu hd (by rw [List.size_toArray]; exact hi)]
theorem results_c2 {P : Program} {fn : Func} {p q r : Tmp} {ty : TypeId} (h : fn.results = #[.cell p ty, .tmp q, .tmp r]) (tmps : Array Value) (w : World) (g : Nat) (t : TypeId) (cs : List Value) (v u : Value) (d : TypeDesc)
    (hp : tmps.getD p undef = .pointer (some ⟨g, 0, none⟩)) (hq : tmps.getD q undef = v) (hr : tmps.getD r undef = u) (hg : Blk w g t cs)
    (hu : P.underlying ty = some d) (hd : (match d with | .struct _ | .array _ _ => true | _ => false) = true) (hi : (P.info? ty).map (·.size) = some cs.length) :
    (results fn tmps).run P w = .ok (.tuple #[.agg cs.toArray, v, u]) w := by
  have hp' : tmps[p]?.getD undef = .pointer (some ⟨g, 0, none⟩) := by simpa using hp
  have hq' : tmps[q]?.getD undef = v := by simpa using hq
  have hr' : tmps[r]?.getD undef = u := by simpa using hr
  simp [results, h, hp', hq', hr', asAddr, run_loadVar_row w g t ty cs.toArray (0, 0) d hg hu hd (by rw [List.size_toArray]; exact hi)]
theorem ctl_ret2 {fn : Func} {p q : Tmp} (h : fn.results = #[.cell p 26, .tmp q]) (tmps : Array Value) (w : World) (B : Nat) (x : Ctl) (v : Value) (hp : tmps.getD p undef = .pointer (some ⟨B, 0, none⟩)) (hq : tmps.getD q undef = v) (hb : Blk w B 26 x.cells) :
    (results fn tmps).run Try.prog w = .ok (.tuple #[.agg x.cells.toArray, v]) w :=
  results_cell_tmp h tmps w B 26 x.cells v _ hp hq hb Try.underlying26 rfl (ctl_sz _)
theorem ctl_ret3 {fn : Func} {p q r : Tmp} (h : fn.results = #[.cell p 26, .tmp q, .tmp r]) (tmps : Array Value) (w : World) (B : Nat) (x : Ctl) (v u : Value) (hp : tmps.getD p undef = .pointer (some ⟨B, 0, none⟩)) (hq : tmps.getD q undef = v) (hr : tmps.getD r undef = u) (hb : Blk w B 26 x.cells) :
    (results fn tmps).run Try.prog w = .ok (.tuple #[.agg x.cells.toArray, v, u]) w :=
  results_c2 h tmps w B 26 x.cells v u _ hp hq hr hb Try.underlying26 rfl (ctl_sz _)
/-- The control of some processors. -/
def kN (n : Int) : Ctl := { zK with n := n }
def newC (n : Int) : Ctl := if 1 ≤ n ∧ n ≤ 4 then kN n else zK
def newE (n : Int) : Int := if 1 ≤ n ∧ n ≤ 4 then 0 else 1
theorem built_0 : Try.prog.built 26 [] = some zK.cells.toArray := by kernel_rfl
theorem run_0 (w : World) : (Instr.build 26 #[]).run Try.prog w = .ok (.agg zK.cells.toArray) w := run_build w _ _ _ built_0
theorem built_n (n : Int) : Try.prog.built 26 [(0, .int .i64 n)] = some (kN n).cells.toArray := by kernel_rfl
theorem run_n (n : Int) (w : World) : (Instr.build 26 #[(0, .int .i64 n)]).run Try.prog w = .ok (.agg (kN n).cells.toArray) w := run_build w _ _ _ (built_n n)
set_option maxRecDepth 100000 in
theorem new_any (n : Int) (w : World) : Calls Try.prog 8 #[.int .i64 n] w fun e w' => e = .returned (.tuple #[.agg (newC n).cells.toArray, .int .i64 (newE n)]) ∧ Later w w' := by
  have KC := Lib.hid fun w' => isCount_any n w'
  have b2 := Blk.new w 26 zK.cells.toArray zK.cells rfl
  have lw := later1 w (.cells zK.cells.toArray 26)
  unfold newC newE
  by_cases h : 1 ≤ n ∧ n ≤ 4
  · rw [if_pos h, if_pos h]
    rw [decide_eq_true h] at KC
    clear h
    go_enter Try.func8, Try.ntmps8
    go_upto_region 1 with fail
    obtain ⟨u0, hu⟩ : ∃ u0, w.alloc (.cells zK.cells.toArray 26) = u0 := ⟨_, rfl⟩
    rw [hu] at b2 lw
    have hu2 : w.alloc (.cells #[.int .i64 0, .int .u32 0, .int .u32 0, .int .u32 0, .int .u32 0, .int .u32 0, .int .u32 0, .int .u32 0, .int .u32 0, .int .i64 0, .int .i64 0, .int .i64 0, .int .i64 0, .int .i64 0] 26) = u0 := hu
    rw [hu2]
    clear hu hu2
    go_wp2_with (first
      | (go_at_call 24; (with_reducible refine (KC.out _).mono ?_); rintro e w1 ⟨rfl, rfl⟩)
      | ((with_reducible refine wpList_bld (o := ⟨some 9, .build 26 #[(0, .tmp 8)], _, _, _, none⟩) rfl _ #[(0, .tmp 8)] #[(0, .int .i64 n)] (kN n).cells.toArray rfl ?_ (run_n n _) ?_); rfl)
      | ((with_reducible refine wpList_store_abs (o := ⟨none, .store 26 (.tmp 2) (.tmp 9), _, _, _, none⟩) rfl _ _ _ rfl w.heap.size 26 zK.cells (kN n).cells ?_ ?_ ?_ ?_ ?_ ?_ ?_); rfl; rfl; exact b2; exact ctl_sz _; rfl; exact ctl_one _; intro w9 b9 o9))
    exact bodyPost_ret (ctl_ret2 Try.results8 _ _ w.heap.size (kN n) (.int .i64 0) rfl rfl b9) rfl ⟨rfl, Below.only lw o9 (Nat.le_refl _)⟩
  · rw [if_neg h, if_neg h]
    rw [decide_eq_false h] at KC
    clear h
    go_enter Try.func8, Try.ntmps8
    go_upto_region 1 with fail
    obtain ⟨u0, hu⟩ : ∃ u0, w.alloc (.cells zK.cells.toArray 26) = u0 := ⟨_, rfl⟩
    rw [hu] at b2 lw
    have hu2 : w.alloc (.cells #[.int .i64 0, .int .u32 0, .int .u32 0, .int .u32 0, .int .u32 0, .int .u32 0, .int .u32 0, .int .u32 0, .int .u32 0, .int .i64 0, .int .i64 0, .int .i64 0, .int .i64 0, .int .i64 0] 26) = u0 := hu
    rw [hu2]
    clear hu hu2
    go_wp2_with (first
      | (go_at_call 24; (with_reducible refine (KC.out _).mono ?_); rintro e w1 ⟨rfl, rfl⟩)
      | ((with_reducible refine wpList_bld (o := ⟨some 7, .build 26 #[], _, _, _, none⟩) rfl _ #[] #[] zK.cells.toArray rfl ?_ (run_0 _) ?_); rfl)
      | ((with_reducible refine wpList_store_abs (o := ⟨none, .store 26 (.tmp 2) (.tmp 7), _, _, _, none⟩) rfl _ _ _ rfl w.heap.size 26 zK.cells zK.cells ?_ ?_ ?_ ?_ ?_ ?_ ?_); rfl; rfl; exact b2; exact ctl_sz _; rfl; exact ctl_one _; intro w9 b9 o9))
    exact bodyPost_ret (ctl_ret2 Try.results8 _ _ w.heap.size zK (.int .i64 1) rfl rfl b9) rfl ⟨rfl, Below.only lw o9 (Nat.le_refl _)⟩
theorem idx_five (f : Nat → Int) {k : Nat} (hk : k < 5) (w : World) : (Instr.index 24 (.agg (five f).toArray) (.int .i64 (k : Int))).run Try.prog w = .ok (.int .i64 (f k)) w :=
  run_index_agg w 24 3 5 (five f).toArray .i64 .i64 (k : Int) Try.underlying24 Try.underlying3 (by kernel_rfl) (by omega) (by omega) _ (by
    rw [Int.toNat_natCast]
    rcases (show k = 0 ∨ k = 1 ∨ k = 2 ∨ k = 3 ∨ k = 4 by omega) with rfl | rfl | rfl | rfl | rfl <;> rfl)
theorem drop_t (x : Ctl) : (x.cells.drop 9).take 5 = five x.t := rfl
theorem drop_r (x : Ctl) : (x.cells.drop 1).take 4 = four x.r := rfl
theorem drop_m (x : Ctl) : (x.cells.drop 5).take 4 = four x.m := rfl
set_option maxRecDepth 100000 in
set_option maxHeartbeats 2000000 in
theorem valid_any (x : Ctl) (b : Bool) (w : World) (hw : x.wf) (hb : b = true ↔ x.Ok) : Calls Try.prog 10 #[.agg x.cells.toArray] w fun e w' => e = .returned (.bool b) ∧ Later w w' := by
  have b1 := Blk.new w 26 x.cells.toArray x.cells rfl
  have lw := later1 w (.cells x.cells.toArray 26)
  obtain ⟨u0, hu⟩ : ∃ u0, w.alloc (.cells x.cells.toArray 26) = u0 := ⟨_, rfl⟩
  rw [hu] at b1 lw
  have e0 := b1.cell (ctl_n x)
  have KC := Lib.hid fun w' => isCount_any x.n w'
  have HB := Lib.hid hb
  have HW := Lib.hid hw
  clear hb hw
  by_cases hn : 1 ≤ x.n ∧ x.n ≤ 4
  · rw [decide_eq_true hn] at KC
    have KH := Lib.hid fun (k : Int) w' => has_any x k w' hn.2
    have HN := Lib.hid hn
    clear hn
    go_enter Try.func10, Try.ntmps10
    go_upto_region 1 with fail
    clear hu
    go_wp2_with (go_at_call 24; (with_reducible refine (KC.out _).mono ?_); rintro e w1 ⟨rfl, rfl⟩)
    go_loopw [11] (fun i wr => ∃ k : Nat, k ≤ 4 ∧ i = .int .i64 k ∧ Hid (∀ j, j < k → okP x j) ∧ Blk wr w.heap.size 26 x.cells ∧ Later w wr) (fun i _ => 4 - (intOf i).toNat)
    case atStart => exact ⟨0, by omega, rfl, fun j hj => by omega, b1, lw⟩
    case round =>
      clear b1 lw e0
      obtain ⟨k, hk, rfl, HP, b1, lw⟩ := hrel
      by_cases hlt : k < 4
      · have hkn : (k : Int) < 4 := by omega
        have hk0 : (0 : Int) ≤ k := by omega
        have e1 := b1.cell (ctl_r x hlt)
        have e2 := b1.cell (ctl_m x hlt)
        have HO := Lib.hid (or_small (HW.out.r k hlt) (HW.out.m k hlt))
        obtain ⟨v, hv⟩ : ∃ v, bits .or .u32 (x.r k) (x.m k) = v := ⟨_, rfl⟩
        rw [hv] at HO
        have KHk := Lib.hid fun w' => KH.out (k : Int) w'
        go_wp2
        go_region
        replace b1 := b1.drew
        replace lw := lw.drew
        clear e1 e2
        by_cases h31 : v ≤ 31
        · have d31 : decide (31 < v) = false := decide_eq_false (by omega)
          by_cases hv0 : v = 0
          · subst hv0
            go_wp2
            go_roundw
            case rel => exact ⟨k + 1, by omega, by go_num, (fun j hj => by
              by_cases e : j = k
              · subst e; have h1 := HO.out.1.1 h31; have h2 := HO.out.2.1 rfl; exact ⟨h1.1, h1.2, fun _ => h2⟩
              · exact HP.out j (by omega)), b1, lw⟩
            case measure => simp [intOf]; omega
          · have dv : (v != 0) = true := by simpa using hv0
            by_cases hkx : (k : Int) < x.n
            · rw [decide_eq_true ⟨hk0, hkx⟩] at KHk
              go_wp2_with (first
                | ((with_reducible refine wpList_load_g (o := ⟨some 29, .load 26 (.tmp 1), _, _, _, _⟩) _ _ rfl w.heap.size 26 x.cells _ ?_ ?_ ?_ Try.underlying26 ?_ (ctl_sz _) ?_); rfl; rfl; exact b1; rfl)
                | (go_at_call 26; (with_reducible refine (KHk.out _).mono ?_); rintro e w5 ⟨rfl, l1⟩; replace b1 := b1.keep l1; replace lw := Later.trans_ lw l1))
              go_roundw
              case rel => exact ⟨k + 1, by omega, by go_num, (fun j hj => by
                by_cases e : j = k
                · subst e; have h1 := HO.out.1.1 h31; exact ⟨h1.1, h1.2, fun h9 => by omega⟩
                · exact HP.out j (by omega)), b1, lw⟩
              case measure => simp [intOf]; omega
            · rw [decide_eq_false (by omega)] at KHk
              have hbf : b = false := by
                cases b
                · rfl
                · have h9 := ((HB.out.1 rfl).p k hlt).2.2 (by omega)
                  exact absurd (HO.out.2.2 h9) hv0
              replace hbf := Lib.hid hbf
              go_wp2_with (first
                | ((with_reducible refine wpList_load_g (o := ⟨some 29, .load 26 (.tmp 1), _, _, _, _⟩) _ _ rfl w.heap.size 26 x.cells _ ?_ ?_ ?_ Try.underlying26 ?_ (ctl_sz _) ?_); rfl; rfl; exact b1; rfl)
                | (go_at_call 26; (with_reducible refine (KHk.out _).mono ?_); rintro e w5 ⟨rfl, l1⟩; replace b1 := b1.keep l1; replace lw := Later.trans_ lw l1))
              go_ret
              exact ⟨ret_bool hbf.out.symm, lw⟩
        · have d31 : decide (31 < v) = true := decide_eq_true (by omega)
          have hbf : b = false := by
            cases b
            · rfl
            · have h9 := (HB.out.1 rfl).p k hlt
              exact absurd (HO.out.1.2 ⟨h9.1, h9.2.1⟩) h31
          replace hbf := Lib.hid hbf
          go_wp2
          go_ret
          exact ⟨ret_bool hbf.out.symm, lw⟩
      · obtain rfl : k = 4 := by omega
        clear hlt hk
        go_wp2_with ((with_reducible refine wpList_load_at (o := ⟨some 37, .load 24 (.tmp 36), _, _, _, none⟩) rfl _ _ rfl w.heap.size 9 5 26 x.cells (five x.t) _ ?_ ?_ (drop_t x) Try.underlying24 rfl (five_sz _) ?_); rfl; exact b1)
        go_loopw [38] (fun i wr => ∃ k : Nat, k ≤ 5 ∧ i = .int .i64 k ∧ Hid (∀ j, j < k → okT x j) ∧ Blk wr w.heap.size 26 x.cells ∧ Later w wr) (fun i _ => 5 - (intOf i).toNat)
        case atStart => exact ⟨0, by omega, rfl, fun j hj => by omega, b1, lw⟩
        case round =>
          clear b1 lw
          obtain ⟨k, hk, rfl, HT, b1, lw⟩ := hrel
          by_cases hlt : k < 5
          · have hkn : (k : Int) < 5 := by omega
            have hk0 : (0 : Int) ≤ k := by omega
            have hix := fun w' => idx_five x.t hlt w'
            obtain ⟨v, hv⟩ : ∃ v, v = x.t k := ⟨_, rfl⟩
            rw [← hv] at hix
            have HV := Lib.hid hv
            have KHk := Lib.hid fun w' => KH.out v w'
            have KO := Lib.hid fun w' => ofDevice_any (k : Int) w'
            clear hv
            by_cases hr : 0 ≤ v ∧ v < x.n
            · rw [decide_eq_true hr] at KHk
              have HR := Lib.hid hr
              clear hr
              by_cases hv0 : v = 0
              · subst hv0
                go_wp2_with (first
                  | ((with_reducible refine wpList_load_blk (o := ⟨some 42, .load 26 (.tmp 1), _, _, _, none⟩) rfl _ _ rfl w.heap.size 26 x.cells _ ?_ ?_ Try.underlying26 rfl (ctl_sz _) ?_); rfl; exact b1)
                  | (go_at_call 26; (with_reducible refine (KHk.out _).mono ?_); rintro e w5 ⟨rfl, l1⟩; replace b1 := b1.keep l1; replace lw := Later.trans_ lw l1))
                go_roundw
                case rel => exact ⟨k + 1, by omega, by go_num, (fun j hj => by
                  by_cases e : j = k
                  · subst e; unfold okT; rw [← HV.out]; exact ⟨HR.out.1, HR.out.2, fun _ => rfl⟩
                  · exact HT.out j (by omega)), b1, lw⟩
                case measure => simp [intOf]; omega
              · have dv : (v != 0) = true := by simpa using hv0
                cases hd : dev (k : Int) with
                | true =>
                  rw [hd] at KO
                  have HD := Lib.hid hd
                  clear hd
                  go_wp2_with (first
                    | ((with_reducible refine wpList_load_blk (o := ⟨some 42, .load 26 (.tmp 1), _, _, _, none⟩) rfl _ _ rfl w.heap.size 26 x.cells _ ?_ ?_ Try.underlying26 rfl (ctl_sz _) ?_); rfl; exact b1)
                    | (go_at_call 26; (with_reducible refine (KHk.out _).mono ?_); rintro e w5 ⟨rfl, l1⟩; replace b1 := b1.keep l1; replace lw := Later.trans_ lw l1)
                    | (go_at_call 27; (with_reducible refine (KO.out _).mono ?_); rintro e w6 ⟨rfl, rfl⟩))
                  go_roundw
                  case rel => exact ⟨k + 1, by omega, by go_num, (fun j hj => by
                    by_cases e : j = k
                    · subst e; unfold okT; rw [← HV.out]; exact ⟨HR.out.1, HR.out.2, fun h9 => by rw [HD.out] at h9; cases h9⟩
                    · exact HT.out j (by omega)), b1, lw⟩
                  case measure => simp [intOf]; omega
                | false =>
                  rw [hd] at KO
                  have hbf : b = false := by
                    cases b
                    · rfl
                    · have h9 := ((HB.out.1 rfl).t k hlt).2.2 hd
                      rw [← HV.out] at h9
                      exact absurd h9 hv0
                  replace hbf := Lib.hid hbf
                  clear hd
                  go_wp2_with (first
                    | ((with_reducible refine wpList_load_blk (o := ⟨some 42, .load 26 (.tmp 1), _, _, _, none⟩) rfl _ _ rfl w.heap.size 26 x.cells _ ?_ ?_ Try.underlying26 rfl (ctl_sz _) ?_); rfl; exact b1)
                    | (go_at_call 26; (with_reducible refine (KHk.out _).mono ?_); rintro e w5 ⟨rfl, l1⟩; replace b1 := b1.keep l1; replace lw := Later.trans_ lw l1)
                    | (go_at_call 27; (with_reducible refine (KO.out _).mono ?_); rintro e w6 ⟨rfl, rfl⟩))
                  go_ret
                  exact ⟨ret_bool hbf.out.symm, lw⟩
            · rw [decide_eq_false hr] at KHk
              have hbf : b = false := by
                cases b
                · rfl
                · have h9 := (HB.out.1 rfl).t k hlt
                  unfold okT at h9
                  rw [← HV.out] at h9
                  exact absurd ⟨h9.1, h9.2.1⟩ hr
              replace hbf := Lib.hid hbf
              clear hr
              go_wp2_with (first
                | ((with_reducible refine wpList_load_blk (o := ⟨some 42, .load 26 (.tmp 1), _, _, _, none⟩) rfl _ _ rfl w.heap.size 26 x.cells _ ?_ ?_ Try.underlying26 rfl (ctl_sz _) ?_); rfl; exact b1)
                | (go_at_call 26; (with_reducible refine (KHk.out _).mono ?_); rintro e w5 ⟨rfl, l1⟩; replace b1 := b1.keep l1; replace lw := Later.trans_ lw l1))
              go_ret
              exact ⟨ret_bool hbf.out.symm, lw⟩
          · obtain rfl : k = 5 := by omega
            have hbt : b = true := HB.out.2 ⟨HN.out.1, HN.out.2, HP.out, HT.out⟩
            replace hbf := Lib.hid hbt
            clear hlt hk hbt
            go_wp2
            go_ret
            exact ⟨ret_bool hbf.out.symm, lw⟩
  · rw [decide_eq_false hn] at KC
    have hbf : b = false := by
      cases b
      · rfl
      · exact absurd ⟨(HB.out.1 rfl).n1, (HB.out.1 rfl).n4⟩ hn
    replace hbf := Lib.hid hbf
    clear hn
    go_enter Try.func10, Try.ntmps10
    go_upto_region 1 with fail
    clear hu
    go_wp2_with (go_at_call 24; (with_reducible refine (KC.out _).mono ?_); rintro e w1 ⟨rfl, rfl⟩)
    go_ret
    exact ⟨ret_bool hbf.out.symm, lw⟩
end Go.Proofs.Ytkpigonlnabmdab
