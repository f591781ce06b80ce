/-
  THE STATEMENT LinesStayRaised: a line that is raised at a processor stays so until this processor acknowledges it, and is pending exactly if the mask lets it through; for every control and at most 40 acts.
-/
import Derived.Test.YtkpigonlnabmdabLinM
import Derived.Deep.RegionHeld
import Derived.Deep.DeepCutAuto
namespace Go.Proofs.Ytkpigonlnabmdab
open Go.RowKit Go.ChangeShapes Go.WideShapes Go.ChangeAt

theorem run_loadAt_addr {P : Program} (w : World) (ad : Addr) (ty : TypeId) (cs : List Value) (d : TypeDesc) (hc : ∀ j v, cs[j]? = some v → w.cell? (ad.add j) = some v)
    (hu : P.underlying ty = some d) (hd : d.isRow = true) (hi : (P.info? ty).map (·.size) = some cs.length) :
    (Instr.loadAt ty (.pointer (some ad))).run P w = .ok (.agg cs.toArray) w := by
  have hl : (loadCells ad cs.length).run P w = .ok cs.toArray w := run_loadCells_list (P := P) w ad cs hc
  cases hq : P.info? ty with
  | none => simp [hq] at hi
  | some i =>
    have hs : i.size = cs.length := by simpa [hq] using hi
    have hagg : (isAgg ty).run P w = .ok true w := by
      unfold isAgg
      rw [Sem.run_bind, run_underlying hu w]
      cases d <;> simp_all
    simp [Instr.loadAt, Instr.sureAddr, loadVar, Sem.run_bind, hagg, sizeOf, typeInfo, hq, hs, hl]
theorem wpList_load_addr {P : Program} {ops : Array Oper} {rest : List Oper} {o : Oper} {a : Act} {w : World} {Q : Exit → Act → World → Prop} (hgd : o.guard = none) (ty : TypeId) (x : Operand) (ho : o.op = .load ty x)
    (ad : Addr) (cs : List Value) (d : TypeDesc) (hx : a.eval x = .pointer (some ad)) (hc : ∀ j v, cs[j]? = some v → w.cell? (ad.add j) = some v)
    (hu : P.underlying ty = some d) (hd : d.isRow = true) (hi : (P.info? ty).map (·.size) = some cs.length)
    (h : wpList P ops Q rest (a.put o.dst (.agg cs.toArray)) w) : wpList P ops Q (o :: rest) a w := by
  refine wpList_plain hgd fun K hK => ?_
  have hrun := run_loadAt_addr (P := P) w ad ty cs d hc hu hd hi
  unfold Oper.wp execOp
  simp only [ho, hx, Sem.run_bind, hrun, Sem.run_pure, Result.andThen_ok]
  exact hK _ _ h
set_option maxRecDepth 100000 in
set_option maxHeartbeats 8000000 in
theorem stay_all (x : Ctl) (S : Option Addr) (m c : Nat) (L : List Ac) (w : World) (hx : x.wf) (hs : Sl w 6 S m (Ax L)) (hL : L.length = m) (hwf : ∀ a ∈ L, a.wf) :
    Calls Try.prog 5 #[.agg x.cells.toArray, .slice S m c] w fun e w' => e = .returned (.bool true) ∧ Later w w' := by
  have KS := Lib.hid fun w' => sanity_any w'
  have b2 := Blk.new w 26 x.cells.toArray x.cells rfl
  have lw := later1 w (.cells x.cells.toArray 26)
  by_cases hok : x.Ok
  · have KV := Lib.hid fun w' => rvalid_yes hx hok w'
    by_cases h40 : (m : Int) ≤ 40
    · have d40 : decide (40 < (m : Int)) = false := decide_eq_false (by omega)
      have HOK := Lib.hid (show x.Ok ∧ x.wf from ⟨hok, hx⟩)
      have HS := Lib.hid fun (w' : World) (hl : Later w w') => hs.keep hl
      have HLN := Lib.hid hL
      have HWF := Lib.hid hwf
      clear hok hx hs hL hwf
      go_enter Try.func5, Try.ntmps5
      go_wp2_with (first
  | ((with_reducible refine wpList_load_blk (o := ⟨some 12, .load 26 (.tmp 2), _, _, _, none⟩) rfl _ _ rfl w.heap.size 26 x.cells _ ?_ ?_ Try.underlying26 rfl (ctl_sz _) ?_); rfl; exact b2)
  | (go_at_call 9; (with_reducible refine (KV.out _).mono ?_); rintro e w1 ⟨rfl, l1⟩; replace b2 := b2.keep l1; replace lw := Later.trans_ lw l1))
      go_loopw [23] (fun ix wr => ∃ (i : Nat) (y : Ctl), i ≤ m ∧ ix = .int .i64 i ∧ Hid ((y.Ok ∧ y.wf) ∧ y.n = x.n) ∧ Blk wr w.heap.size 26 y.cells ∧ Later w wr) (fun ix _ => m - (intOf ix).toNat)
      case atStart => exact ⟨0, x, by omega, rfl, ⟨HOK.out, rfl⟩, b2, lw⟩
      case round =>
        clear b2 lw
        obtain ⟨i, y, hi, rfl, HY, b2, lw⟩ := hrel
        obtain ⟨wo, hwo⟩ : ∃ wo, wo = wr := ⟨_, rfl⟩
        subst hwo
        by_cases him : i < m
        · have himi : (i : Int) < (m : Int) := by omega
          have hi0 : (0 : Int) ≤ i := by omega
          have hLi : i < L.length := by rw [HLN.out]; exact him
          obtain ⟨a, haL⟩ : ∃ a, a = L[i] := ⟨_, rfl⟩
          have HAW := Lib.hid (show a.wf by rw [haL]; exact HWF.out _ (List.getElem_mem _))
          obtain ⟨ad, hAd, _, hcell⟩ := (HS.out wo lw).2 (by omega)
          have HC := Lib.hid (show ∀ (j : Nat) (v : Value), a.cells[j]? = some v → wo.cell? ((ad.add (i * 6)).add j) = some v from by
            intro j v hj
            have hj6 : j < 6 := by
              rcases Nat.lt_or_ge j 6 with h | h
              · exact h
              · rw [List.getElem?_eq_none (show a.cells.length ≤ j from h)] at hj; cases hj
            rw [addr_add_add]
            refine hcell _ v ?_
            rw [Ax_at L i hLi j hj6, ← haL]
            exact hj)
          subst hAd
          have hn1 := HY.out.1.1.n1
          have hn4 := HY.out.1.1.n4
          have hkn : (((a.cp % y.n).toNat : Nat) : Int) < y.n := by
            rw [Int.toNat_of_nonneg (Int.emod_nonneg _ (by omega))]; exact Int.emod_lt_of_pos _ (by omega)
          obtain ⟨k, hk⟩ : ∃ k, k = (a.cp % y.n).toNat := ⟨_, rfl⟩
          have KA := Lib.hid fun w' => act_any y a k w' HY.out.1.1 HY.out.1.2 HAW.out hk
          rw [← hk] at hkn
          have hsh := act_shape HY.out.1.1 hkn HAW.out
          have hdk := act_ok HY.out.1.1 HY.out.1.2 hkn HAW.out
          obtain ⟨_, hcame⟩ := act_came HY.out.1.1 HY.out.1.2 hkn HAW.out
          obtain ⟨d, hd⟩ : ∃ d, d = actC y a k := ⟨_, rfl⟩
          rw [← hd] at KA hsh hcame hdk
          have HDN := Lib.hid (hsh.1.trans HY.out.2)
          have HDK := Lib.hid hdk
          have HCM := Lib.hid (fun p hp => (hcame p hp).2.2.2)
          have HYN := Lib.hid hsh.1
          have hyx : y.n = x.n := HY.out.2
          rw [hyx] at hn1 hn4 hkn
          clear hk hd hsh hdk hcame hcell haL hLi
          go_wp2_with (first
            | ((with_reducible refine wpList_load_addr (o := ⟨some 26, .load 49 (.tmp 25), _, _, _, none⟩) rfl _ _ rfl (ad.add (i * 6)) a.cells _ ?_ HC.out Try.underlying49 rfl (ac_sz _) ?_); rfl)
            | ((with_reducible refine wpList_store_abs (o := ⟨none, .store 49 (.tmp 6) (.tmp 26), _, _, _, none⟩) rfl _ _ _ rfl wo.heap.size 49 (⟨false, 0, 0, false, 0, 0⟩ : Ac).cells a.cells ?_ ?_ ?_ ?_ ?_ ?_ ?_); rfl; rfl; exact (Blk.new _ _ _ _ rfl); exact ac_sz _; rfl; exact ac_one _; have n26 := Nat.ne_of_lt b2.lt; intro v1 b6 o6; replace b2 := (b2.alloc (.cells (⟨false, 0, 0, false, 0, 0⟩ : Ac).cells.toArray 49)).only o6 n26; replace lw := Below.only (lw.alloc lw.size (.cells (⟨false, 0, 0, false, 0, 0⟩ : Ac).cells.toArray 49)) o6 lw.size; clear o6)
            | ((with_reducible refine wpList_load_blk (o := ⟨some 28, .load 26 (.tmp 2), _, _, _, none⟩) rfl _ _ rfl w.heap.size 26 y.cells _ ?_ ?_ Try.underlying26 rfl (ctl_sz _) ?_); rfl; exact b2)
            | ((with_reducible refine wpList_load_blk (o := ⟨some 29, .load 49 (.tmp 6), _, _, _, none⟩) rfl _ _ rfl wo.heap.size 49 a.cells _ ?_ ?_ Try.underlying49 rfl (ac_sz _) ?_); rfl; exact b6)
            | (go_at_call 22; (with_reducible refine (KA.out _).mono ?_); rintro e w2 ⟨rfl, l2⟩; replace b2 := b2.keep l2; replace b6 := b6.keep l2; replace lw := Later.trans_ lw l2)
            | ((with_reducible refine wpList_store_abs (o := ⟨none, .store 26 (.tmp 7) (.tmp 31), _, _, _, none⟩) rfl _ _ _ rfl w2.heap.size 26 zK.cells d.cells ?_ ?_ ?_ ?_ ?_ ?_ ?_); rfl; rfl; exact (Blk.new _ _ _ _ rfl); exact ctl_sz _; rfl; exact ctl_one _; have n27 := Nat.ne_of_lt b2.lt; have n67 := Nat.ne_of_lt b6.lt; have m27 := lw.size; intro v2 b7 o7; replace b2 := (b2.alloc (.cells zK.cells.toArray 26)).only o7 n27; replace b6 := (b6.alloc (.cells zK.cells.toArray 26)).only o7 n67; replace lw := Below.only (lw.alloc m27 (.cells zK.cells.toArray 26)) o7 m27; clear o7 n67 m27; have en := b2.cell (ctl_n y); rw [hyx] at en))
          clear en
          go_loopw [35] (fun ip wq => ∃ p : Nat, (p : Int) ≤ x.n ∧ ip = .int .i64 p ∧ Blk wq w.heap.size 26 y.cells ∧ Blk wq wo.heap.size 49 a.cells ∧ Blk wq w2.heap.size 26 d.cells ∧ Later w wq) (fun ip _ => x.n.toNat - (intOf ip).toNat)
          case atStart => exact ⟨0, by omega, rfl, b2, b6, b7, lw⟩
          case round =>
            clear b2 b6 b7 lw
            obtain ⟨p, hp, rfl, b2, b6, b7, lw⟩ := hrel
            by_cases hlt : (p : Int) < x.n
            · have h4 : p < 4 := by omega
              have h4i : (p : Int) < 4 := by omega
              have hp0 : (0 : Int) ≤ p := by omega
              have i4 := HCM.out p (by rw [hyx]; exact hlt)
              obtain ⟨lo, hlo⟩ : ∃ lo, bits .andNot .u32 (y.r p) (d.r p) = lo := ⟨_, rfl⟩
              rw [hlo] at i4
              have hpd := pend_is (HDK.out.1.r5 HDK.out.2 h4) (HDK.out.1.m5 HDK.out.2 h4)
              have KP := Lib.hid fun w' => pending_any d p w' HDK.out.1 HDK.out.2 (by rw [HDN.out]; exact hlt)
              obtain ⟨pe, hpe⟩ : ∃ pe, pe = d.pend p := ⟨_, rfl⟩
              rw [show pendTo (d.r p) (d.m p) 5 = d.pend p from rfl, ← hpe] at hpd
              rw [← hpe] at KP
              clear hpe
              have e1 := b2.cell (ctl_r y h4)
              have e2 := b7.cell (ctl_r d h4)
              go_wp2
              go_region
              clear e1 e2
              replace b2 := b2.drew
              replace b6 := b6.drew
              replace b7 := b7.drew
              replace lw := lw.drew
              have f5 := b6.cell (j := 0) (v := .bool a.rs) rfl
              have f6 := b6.cell (j := 3) (v := .bool a.inn) rfl
              have f7 := b6.cell (j := 4) (v := .int .i64 a.p) rfl
              have f8 := b6.cell (j := 5) (v := .int .u32 a.v) rfl
              go_upto_region 11 with fail
              by_cases hz : lo = 0
              · subst hz
                go_cut [11] (fun q11 wx => ∃ b : Bool, q11 = .bool b ∧ ((0 : Int) ≠ 0 → b = true) ∧ wr.drew = wx)
                case first =>
                  cases hrs : a.rs with
                  | true =>
                    rw [hrs] at f5
                    (go_wp2; go_meet; exact ⟨_, rfl, fun h => absurd rfl h, rfl⟩)
                  | false =>
                    rw [hrs] at f5
                    cases hin : a.inn with
                    | true =>
                      rw [hin] at f6
                      (go_wp2; go_meet; exact ⟨_, rfl, fun h => absurd rfl h, rfl⟩)
                    | false =>
                      rw [hin] at f6
                      by_cases h2 : a.p = 2
                      · rw [h2] at f7
                        by_cases hpk : p = k
                        · have dk : ((p : Int) == (k : Int)) = true := by rw [hpk]; simp
                          clear hpk
                          by_cases h5 : a.v < 5
                          · have hv0 := HAW.out.v.1
                            rcases (show a.v = 0 ∨ a.v = 1 ∨ a.v = 2 ∨ a.v = 3 ∨ a.v = 4 by omega) with h | h | h | h | h
                            all_goals
                              rw [h] at f8
                              (go_wp2; go_meet; exact ⟨_, rfl, fun h => absurd rfl h, rfl⟩)
                          · have d5 : decide (a.v < 5) = false := decide_eq_false h5
                            (go_wp2; go_meet; exact ⟨_, rfl, fun h => absurd rfl h, rfl⟩)
                        · have dk : ((p : Int) == (k : Int)) = false := by rw [beq_eq_false_iff_ne]; omega
                          (go_wp2; go_meet; exact ⟨_, rfl, fun h => absurd rfl h, rfl⟩)
                      · have d2 : (a.p == 2) = false := beq_false_of_ne h2
                        (go_wp2; go_meet; exact ⟨_, rfl, fun h => absurd rfl h, rfl⟩)
                case rest =>
                  obtain ⟨bk, rfl, _, rfl⟩ := hcut
                  clear f5 f6 f7 f8
                  go_upto_region 12 with fail
                  replace b2 := b2.drew
                  replace b6 := b6.drew
                  replace b7 := b7.drew
                  replace lw := lw.drew
                  refine wp_region_held_drew (S := fun w' => World.rangeAt w' w2.heap.size 0 d.cells ∧ w'.cell? ⟨w2.heap.size, 1 + p, none⟩ = some (.int .u32 (d.r p)) ∧ w'.cell? ⟨w2.heap.size, 5 + p, none⟩ = some (.int .u32 (d.m p))) (by kernel_rfl) ⟨(show World.rangeAt _ w2.heap.size 0 d.cells from b7.range 0 14), b7.cell (ctl_r d h4), b7.cell (ctl_m d h4)⟩ (fun hHeld => ?_)
                  refine wpAnyH_take (i := 0) (oi := ⟨some 81, .move (.tmp 10), _, _, _, none⟩) (v := .int .u32 0) rfl (by kernel_rfl) (by kernel_rfl) (by kernel_rfl) (fun _ _ _ h => h) (Or.inl ⟨by rfl, fun _ _ => rfl⟩) hHeld ?_
                  simp only [Act.put, List.setIfInBounds_toArray, List.set_cons_zero, List.set_cons_succ]
                  refine wpAnyH_take (i := 1) (oi := ⟨some 82, .binOp .neq 22 (.tmp 81) (.const (.int .u32 0)) 22, _, _, _, none⟩) (v := .bool false) rfl (by kernel_rfl) (by kernel_rfl) (by kernel_rfl) (fun _ _ _ h => h) (Or.inl ⟨by rfl, fun w _ => by go_simp⟩) hHeld ?_
                  simp only [Act.put, List.setIfInBounds_toArray, List.set_cons_zero, List.set_cons_succ]
                  refine wpAnyH_take (i := 2) (oi := ⟨some 83, .move (.tmp 82), _, _, _, none⟩) (v := .bool false) rfl (by kernel_rfl) (by kernel_rfl) (by kernel_rfl) (fun _ _ _ h => h) (Or.inl ⟨by rfl, fun _ _ => rfl⟩) hHeld ?_
                  simp only [Act.put, List.setIfInBounds_toArray, List.set_cons_zero, List.set_cons_succ]
                  refine wpAnyH_take (i := 3) (oi := ⟨some 84, .move (.tmp 11), _, _, _, _⟩) (v := undef) rfl (by kernel_rfl) (by kernel_rfl) (by kernel_rfl) (fun _ _ _ h => h) (Or.inr ⟨by rfl, rfl⟩) hHeld ?_
                  simp only [Act.put, List.setIfInBounds_toArray, List.set_cons_zero, List.set_cons_succ]
                  refine wpAnyH_take (i := 4) (oi := ⟨some 85, .unOp .not 4 (.tmp 84), _, _, _, _⟩) (v := undef) rfl (by kernel_rfl) (by kernel_rfl) (by kernel_rfl) (fun _ _ _ h => h) (Or.inr ⟨by rfl, rfl⟩) hHeld ?_
                  simp only [Act.put, List.setIfInBounds_toArray, List.set_cons_zero, List.set_cons_succ]
                  refine wpAnyH_take (i := 5) (oi := ⟨some 86, .pick (.tmp 83) (.tmp 85) (.const (.bool false)), _, _, _, none⟩) (v := .bool false) rfl (by kernel_rfl) (by kernel_rfl) (by kernel_rfl) (fun _ _ _ h => h) (Or.inl ⟨by rfl, fun w _ => by go_simp⟩) hHeld ?_
                  simp only [Act.put, List.setIfInBounds_toArray, List.set_cons_zero, List.set_cons_succ]
                  refine wpAnyH_take (i := 6) (oi := ⟨some 87, .move (.tmp 86), _, _, _, none⟩) (v := .bool false) rfl (by kernel_rfl) (by kernel_rfl) (by kernel_rfl) (fun _ _ _ h => h) (Or.inl ⟨by rfl, fun _ _ => rfl⟩) hHeld ?_
                  simp only [Act.put, List.setIfInBounds_toArray, List.set_cons_zero, List.set_cons_succ]
                  refine wpAnyH_take (i := 7) (oi := ⟨some 88, .load 26 (.tmp 7), _, _, _, _⟩) (v := .agg d.cells.toArray) rfl (by kernel_rfl) (by kernel_rfl) (by kernel_rfl) (fun _ _ _ h => h) (yieldsIf_load_mid (by rfl) _ _ rfl _ _ rfl d.cells _ (fun w h => h.1) Try.underlying26 rfl (ctl_sz _)) hHeld ?_
                  simp only [Act.put, List.setIfInBounds_toArray, List.set_cons_zero, List.set_cons_succ]
                  refine wpAnyH_take (i := 8) (oi := ⟨some 89, .move (.tmp 9), _, _, _, _⟩) (v := .int .i64 (p : Int)) rfl (by kernel_rfl) (by kernel_rfl) (by kernel_rfl) (fun _ _ _ h => h) (Or.inl ⟨by rfl, fun _ _ => rfl⟩) hHeld ?_
                  simp only [Act.put, List.setIfInBounds_toArray, List.set_cons_zero, List.set_cons_succ]
                  refine wpAnyH_take (i := 10) (oi := ⟨some 91, .move (.tmp 9), _, _, _, _⟩) (v := .int .i64 (p : Int)) rfl (by kernel_rfl) (by kernel_rfl) (by kernel_rfl) (fun _ _ _ h => h) (Or.inl ⟨by rfl, fun _ _ => rfl⟩) hHeld ?_
                  simp only [Act.put, List.setIfInBounds_toArray, List.set_cons_zero, List.set_cons_succ]
                  refine wpAnyH_take (i := 11) (oi := ⟨some 92, .fieldAddr 26 (.tmp 7) 1, _, _, _, _⟩) (v := .pointer (some ⟨w2.heap.size, 1, none⟩)) rfl (by kernel_rfl) (by kernel_rfl) (by kernel_rfl) (fun _ _ _ h => h) (Or.inl ⟨by rfl, fun w _ => by go_simp⟩) hHeld ?_
                  simp only [Act.put, List.setIfInBounds_toArray, List.set_cons_zero, List.set_cons_succ]
                  refine wpAnyH_take (i := 12) (oi := ⟨some 93, .indexAddr 23 (.tmp 92) (.tmp 91), _, _, _, _⟩) (v := .pointer (some ⟨w2.heap.size, 1 + p, none⟩)) rfl (by kernel_rfl) (by kernel_rfl) (by kernel_rfl) (fun _ _ _ h => h) (Or.inl ⟨by rfl, fun w _ => by go_simp⟩) hHeld ?_
                  simp only [Act.put, List.setIfInBounds_toArray, List.set_cons_zero, List.set_cons_succ]
                  refine wpAnyH_take (i := 13) (oi := ⟨some 94, .load 22 (.tmp 93), _, _, _, _⟩) (v := .int .u32 (d.r p)) rfl (by kernel_rfl) (by kernel_rfl) (by kernel_rfl) (fun _ _ _ h => h) (Or.inl ⟨by rfl, fun w hSw => by have e1 := hSw.2.1; clear hSw; go_simp⟩) hHeld ?_
                  simp only [Act.put, List.setIfInBounds_toArray, List.set_cons_zero, List.set_cons_succ]
                  refine wpAnyH_take (i := 14) (oi := ⟨some 95, .move (.tmp 9), _, _, _, _⟩) (v := .int .i64 (p : Int)) rfl (by kernel_rfl) (by kernel_rfl) (by kernel_rfl) (fun _ _ _ h => h) (Or.inl ⟨by rfl, fun _ _ => rfl⟩) hHeld ?_
                  simp only [Act.put, List.setIfInBounds_toArray, List.set_cons_zero, List.set_cons_succ]
                  refine wpAnyH_take (i := 15) (oi := ⟨some 96, .fieldAddr 26 (.tmp 7) 2, _, _, _, _⟩) (v := .pointer (some ⟨w2.heap.size, 5, none⟩)) rfl (by kernel_rfl) (by kernel_rfl) (by kernel_rfl) (fun _ _ _ h => h) (Or.inl ⟨by rfl, fun w _ => by go_simp⟩) hHeld ?_
                  simp only [Act.put, List.setIfInBounds_toArray, List.set_cons_zero, List.set_cons_succ]
                  refine wpAnyH_take (i := 16) (oi := ⟨some 97, .indexAddr 23 (.tmp 96) (.tmp 95), _, _, _, _⟩) (v := .pointer (some ⟨w2.heap.size, 5 + p, none⟩)) rfl (by kernel_rfl) (by kernel_rfl) (by kernel_rfl) (fun _ _ _ h => h) (Or.inl ⟨by rfl, fun w _ => by go_simp⟩) hHeld ?_
                  simp only [Act.put, List.setIfInBounds_toArray, List.set_cons_zero, List.set_cons_succ]
                  refine wpAnyH_take (i := 17) (oi := ⟨some 98, .load 22 (.tmp 97), _, _, _, _⟩) (v := .int .u32 (d.m p)) rfl (by kernel_rfl) (by kernel_rfl) (by kernel_rfl) (fun _ _ _ h => h) (Or.inl ⟨by rfl, fun w hSw => by have e1 := hSw.2.2; clear hSw; go_simp⟩) hHeld ?_
                  simp only [Act.put, List.setIfInBounds_toArray, List.set_cons_zero, List.set_cons_succ]
                  refine wpAnyH_take (i := 18) (oi := ⟨some 99, .binOp .and 22 (.tmp 94) (.tmp 98) 22, _, _, _, _⟩) (v := .int .u32 pe) rfl (by kernel_rfl) (by kernel_rfl) (by kernel_rfl) (fun _ _ _ h => h) (Or.inl ⟨by rfl, fun w _ => by go_simp⟩) hHeld ?_
                  simp only [Act.put, List.setIfInBounds_toArray, List.set_cons_zero, List.set_cons_succ]
                  refine wpAnyH_ready (rs := [9]) (by kernel_rfl) (by simp) (AllReadyH.cons (o := ⟨some 90, .call { callee := .value (.func 16), args := #[.tmp 88, .tmp 89], argTypes := #[26, 3] }, _, _, _, _⟩) rfl (fun K' hK => ?_) (AllReadyH.nil))
                  go_simp
                  (with_reducible refine (KP.out _).mono ?_)
                  rintro e v9 ⟨rfl, l9⟩
                  replace b2 := b2.keep l9
                  replace b6 := b6.keep l9
                  replace b7 := b7.keep l9
                  replace lw := Later.trans_ lw l9
                  refine hK.out _ _ ⟨(show World.rangeAt _ w2.heap.size 0 d.cells from b7.range 0 14), b7.cell (ctl_r d h4), b7.cell (ctl_m d h4)⟩ (fun hHeld => ?_)
                  clear hK K'
                  try simp only [Act.put, List.setIfInBounds_toArray, List.set_cons_zero, List.set_cons_succ]
                  refine wpAnyH_take (i := 19) (oi := ⟨some 100, .binOp .neq 22 (.tmp 90) (.tmp 99) 22, _, _, _, _⟩) (v := .bool false) rfl (by kernel_rfl) (by kernel_rfl) (by kernel_rfl) (fun _ _ _ h => h) (Or.inl ⟨by rfl, fun w _ => by go_simp⟩) hHeld ?_
                  simp only [Act.put, List.setIfInBounds_toArray, List.set_cons_zero, List.set_cons_succ]
                  refine wpAnyH_take (i := 20) (oi := ⟨some 101, .pick (.tmp 87) (.const (.bool true)) (.tmp 100), _, _, _, none⟩) (v := .bool false) rfl (by kernel_rfl) (by kernel_rfl) (by kernel_rfl) (fun _ _ _ h => h) (Or.inl ⟨by rfl, fun w _ => by go_simp⟩) hHeld ?_
                  simp only [Act.put, List.setIfInBounds_toArray, List.set_cons_zero, List.set_cons_succ]
                  refine wpAnyH_done (by kernel_rfl) ?_ _
                  clear hHeld
                  go_wp2
                  first
                    | exact ⟨⟨p + 1, by omega, by first | go_num | (congr 1; omega), b2, b6, b7, lw⟩, by simp [intOf]; omega⟩
                    | (go_roundw
                       case rel => first | exact ⟨p + 1, by omega, by go_num, b2, b6, b7, lw⟩ | exact ⟨p + 1, by omega, by omega⟩
                       case measure => simp [intOf]; omega)
              · have dz : (lo != 0) = true := by simpa using hz
                have hpk0 := (i4 hz).2.2.2.1
                subst hpk0
                go_cut [11] (fun q11 wx => q11 = .bool true ∧ wr.drew = wx)
                case first =>
                  obtain ⟨hrs, hin, h2, _, l, hl, hv, hlo⟩ := i4 hz
                  rw [hrs] at f5
                  rw [hin] at f6
                  rw [h2] at f7
                  rw [hv] at f8
                  rcases (show l = 0 ∨ l = 1 ∨ l = 2 ∨ l = 3 ∨ l = 4 by omega) with rfl | rfl | rfl | rfl | rfl
                  · obtain rfl : lo = 1 := hlo
                    change _ = some (Value.int .u32 0) at f8
                    go_wp2
                    go_meet
                    exact ⟨rfl, rfl⟩
                  · obtain rfl : lo = 2 := hlo
                    change _ = some (Value.int .u32 1) at f8
                    go_wp2
                    go_meet
                    exact ⟨rfl, rfl⟩
                  · obtain rfl : lo = 4 := hlo
                    change _ = some (Value.int .u32 2) at f8
                    go_wp2
                    go_meet
                    exact ⟨rfl, rfl⟩
                  · obtain rfl : lo = 8 := hlo
                    change _ = some (Value.int .u32 3) at f8
                    go_wp2
                    go_meet
                    exact ⟨rfl, rfl⟩
                  · obtain rfl : lo = 16 := hlo
                    change _ = some (Value.int .u32 4) at f8
                    go_wp2
                    go_meet
                    exact ⟨rfl, rfl⟩
                case rest =>
                  obtain ⟨rfl, rfl⟩ := hcut
                  clear f5 f6 f7 f8
                  go_upto_region 12 with fail
                  replace b2 := b2.drew
                  replace b6 := b6.drew
                  replace b7 := b7.drew
                  replace lw := lw.drew
                  refine wp_region_held_drew (S := fun w' => World.rangeAt w' w2.heap.size 0 d.cells ∧ w'.cell? ⟨w2.heap.size, 1 + p, none⟩ = some (.int .u32 (d.r p)) ∧ w'.cell? ⟨w2.heap.size, 5 + p, none⟩ = some (.int .u32 (d.m p))) (by kernel_rfl) ⟨(show World.rangeAt _ w2.heap.size 0 d.cells from b7.range 0 14), b7.cell (ctl_r d h4), b7.cell (ctl_m d h4)⟩ (fun hHeld => ?_)
                  refine wpAnyH_take (i := 0) (oi := ⟨some 81, .move (.tmp 10), _, _, _, none⟩) (v := .int .u32 lo) rfl (by kernel_rfl) (by kernel_rfl) (by kernel_rfl) (fun _ _ _ h => h) (Or.inl ⟨by rfl, fun _ _ => rfl⟩) hHeld ?_
                  simp only [Act.put, List.setIfInBounds_toArray, List.set_cons_zero, List.set_cons_succ]
                  refine wpAnyH_take (i := 1) (oi := ⟨some 82, .binOp .neq 22 (.tmp 81) (.const (.int .u32 0)) 22, _, _, _, none⟩) (v := .bool true) rfl (by kernel_rfl) (by kernel_rfl) (by kernel_rfl) (fun _ _ _ h => h) (Or.inl ⟨by rfl, fun w _ => by go_simp⟩) hHeld ?_
                  simp only [Act.put, List.setIfInBounds_toArray, List.set_cons_zero, List.set_cons_succ]
                  refine wpAnyH_take (i := 2) (oi := ⟨some 83, .move (.tmp 82), _, _, _, none⟩) (v := .bool true) rfl (by kernel_rfl) (by kernel_rfl) (by kernel_rfl) (fun _ _ _ h => h) (Or.inl ⟨by rfl, fun _ _ => rfl⟩) hHeld ?_
                  simp only [Act.put, List.setIfInBounds_toArray, List.set_cons_zero, List.set_cons_succ]
                  refine wpAnyH_take (i := 3) (oi := ⟨some 84, .move (.tmp 11), _, _, _, _⟩) (v := .bool true) rfl (by kernel_rfl) (by kernel_rfl) (by kernel_rfl) (fun _ _ _ h => h) (Or.inl ⟨by rfl, fun _ _ => rfl⟩) hHeld ?_
                  simp only [Act.put, List.setIfInBounds_toArray, List.set_cons_zero, List.set_cons_succ]
                  refine wpAnyH_take (i := 4) (oi := ⟨some 85, .unOp .not 4 (.tmp 84), _, _, _, _⟩) (v := .bool false) rfl (by kernel_rfl) (by kernel_rfl) (by kernel_rfl) (fun _ _ _ h => h) (Or.inl ⟨by rfl, fun w _ => by go_simp⟩) hHeld ?_
                  simp only [Act.put, List.setIfInBounds_toArray, List.set_cons_zero, List.set_cons_succ]
                  refine wpAnyH_take (i := 5) (oi := ⟨some 86, .pick (.tmp 83) (.tmp 85) (.const (.bool false)), _, _, _, none⟩) (v := .bool false) rfl (by kernel_rfl) (by kernel_rfl) (by kernel_rfl) (fun _ _ _ h => h) (Or.inl ⟨by rfl, fun w _ => by go_simp⟩) hHeld ?_
                  simp only [Act.put, List.setIfInBounds_toArray, List.set_cons_zero, List.set_cons_succ]
                  refine wpAnyH_take (i := 6) (oi := ⟨some 87, .move (.tmp 86), _, _, _, none⟩) (v := .bool false) rfl (by kernel_rfl) (by kernel_rfl) (by kernel_rfl) (fun _ _ _ h => h) (Or.inl ⟨by rfl, fun _ _ => rfl⟩) hHeld ?_
                  simp only [Act.put, List.setIfInBounds_toArray, List.set_cons_zero, List.set_cons_succ]
                  refine wpAnyH_take (i := 7) (oi := ⟨some 88, .load 26 (.tmp 7), _, _, _, _⟩) (v := .agg d.cells.toArray) rfl (by kernel_rfl) (by kernel_rfl) (by kernel_rfl) (fun _ _ _ h => h) (yieldsIf_load_mid (by rfl) _ _ rfl _ _ rfl d.cells _ (fun w h => h.1) Try.underlying26 rfl (ctl_sz _)) hHeld ?_
                  simp only [Act.put, List.setIfInBounds_toArray, List.set_cons_zero, List.set_cons_succ]
                  refine wpAnyH_take (i := 8) (oi := ⟨some 89, .move (.tmp 9), _, _, _, _⟩) (v := .int .i64 (p : Int)) rfl (by kernel_rfl) (by kernel_rfl) (by kernel_rfl) (fun _ _ _ h => h) (Or.inl ⟨by rfl, fun _ _ => rfl⟩) hHeld ?_
                  simp only [Act.put, List.setIfInBounds_toArray, List.set_cons_zero, List.set_cons_succ]
                  refine wpAnyH_take (i := 10) (oi := ⟨some 91, .move (.tmp 9), _, _, _, _⟩) (v := .int .i64 (p : Int)) rfl (by kernel_rfl) (by kernel_rfl) (by kernel_rfl) (fun _ _ _ h => h) (Or.inl ⟨by rfl, fun _ _ => rfl⟩) hHeld ?_
                  simp only [Act.put, List.setIfInBounds_toArray, List.set_cons_zero, List.set_cons_succ]
                  refine wpAnyH_take (i := 11) (oi := ⟨some 92, .fieldAddr 26 (.tmp 7) 1, _, _, _, _⟩) (v := .pointer (some ⟨w2.heap.size, 1, none⟩)) rfl (by kernel_rfl) (by kernel_rfl) (by kernel_rfl) (fun _ _ _ h => h) (Or.inl ⟨by rfl, fun w _ => by go_simp⟩) hHeld ?_
                  simp only [Act.put, List.setIfInBounds_toArray, List.set_cons_zero, List.set_cons_succ]
                  refine wpAnyH_take (i := 12) (oi := ⟨some 93, .indexAddr 23 (.tmp 92) (.tmp 91), _, _, _, _⟩) (v := .pointer (some ⟨w2.heap.size, 1 + p, none⟩)) rfl (by kernel_rfl) (by kernel_rfl) (by kernel_rfl) (fun _ _ _ h => h) (Or.inl ⟨by rfl, fun w _ => by go_simp⟩) hHeld ?_
                  simp only [Act.put, List.setIfInBounds_toArray, List.set_cons_zero, List.set_cons_succ]
                  refine wpAnyH_take (i := 13) (oi := ⟨some 94, .load 22 (.tmp 93), _, _, _, _⟩) (v := .int .u32 (d.r p)) rfl (by kernel_rfl) (by kernel_rfl) (by kernel_rfl) (fun _ _ _ h => h) (Or.inl ⟨by rfl, fun w hSw => by have e1 := hSw.2.1; clear hSw; go_simp⟩) hHeld ?_
                  simp only [Act.put, List.setIfInBounds_toArray, List.set_cons_zero, List.set_cons_succ]
                  refine wpAnyH_take (i := 14) (oi := ⟨some 95, .move (.tmp 9), _, _, _, _⟩) (v := .int .i64 (p : Int)) rfl (by kernel_rfl) (by kernel_rfl) (by kernel_rfl) (fun _ _ _ h => h) (Or.inl ⟨by rfl, fun _ _ => rfl⟩) hHeld ?_
                  simp only [Act.put, List.setIfInBounds_toArray, List.set_cons_zero, List.set_cons_succ]
                  refine wpAnyH_take (i := 15) (oi := ⟨some 96, .fieldAddr 26 (.tmp 7) 2, _, _, _, _⟩) (v := .pointer (some ⟨w2.heap.size, 5, none⟩)) rfl (by kernel_rfl) (by kernel_rfl) (by kernel_rfl) (fun _ _ _ h => h) (Or.inl ⟨by rfl, fun w _ => by go_simp⟩) hHeld ?_
                  simp only [Act.put, List.setIfInBounds_toArray, List.set_cons_zero, List.set_cons_succ]
                  refine wpAnyH_take (i := 16) (oi := ⟨some 97, .indexAddr 23 (.tmp 96) (.tmp 95), _, _, _, _⟩) (v := .pointer (some ⟨w2.heap.size, 5 + p, none⟩)) rfl (by kernel_rfl) (by kernel_rfl) (by kernel_rfl) (fun _ _ _ h => h) (Or.inl ⟨by rfl, fun w _ => by go_simp⟩) hHeld ?_
                  simp only [Act.put, List.setIfInBounds_toArray, List.set_cons_zero, List.set_cons_succ]
                  refine wpAnyH_take (i := 17) (oi := ⟨some 98, .load 22 (.tmp 97), _, _, _, _⟩) (v := .int .u32 (d.m p)) rfl (by kernel_rfl) (by kernel_rfl) (by kernel_rfl) (fun _ _ _ h => h) (Or.inl ⟨by rfl, fun w hSw => by have e1 := hSw.2.2; clear hSw; go_simp⟩) hHeld ?_
                  simp only [Act.put, List.setIfInBounds_toArray, List.set_cons_zero, List.set_cons_succ]
                  refine wpAnyH_take (i := 18) (oi := ⟨some 99, .binOp .and 22 (.tmp 94) (.tmp 98) 22, _, _, _, _⟩) (v := .int .u32 pe) rfl (by kernel_rfl) (by kernel_rfl) (by kernel_rfl) (fun _ _ _ h => h) (Or.inl ⟨by rfl, fun w _ => by go_simp⟩) hHeld ?_
                  simp only [Act.put, List.setIfInBounds_toArray, List.set_cons_zero, List.set_cons_succ]
                  refine wpAnyH_ready (rs := [9]) (by kernel_rfl) (by simp) (AllReadyH.cons (o := ⟨some 90, .call { callee := .value (.func 16), args := #[.tmp 88, .tmp 89], argTypes := #[26, 3] }, _, _, _, _⟩) rfl (fun K' hK => ?_) (AllReadyH.nil))
                  go_simp
                  (with_reducible refine (KP.out _).mono ?_)
                  rintro e v9 ⟨rfl, l9⟩
                  replace b2 := b2.keep l9
                  replace b6 := b6.keep l9
                  replace b7 := b7.keep l9
                  replace lw := Later.trans_ lw l9
                  refine hK.out _ _ ⟨(show World.rangeAt _ w2.heap.size 0 d.cells from b7.range 0 14), b7.cell (ctl_r d h4), b7.cell (ctl_m d h4)⟩ (fun hHeld => ?_)
                  clear hK K'
                  try simp only [Act.put, List.setIfInBounds_toArray, List.set_cons_zero, List.set_cons_succ]
                  refine wpAnyH_take (i := 19) (oi := ⟨some 100, .binOp .neq 22 (.tmp 90) (.tmp 99) 22, _, _, _, _⟩) (v := .bool false) rfl (by kernel_rfl) (by kernel_rfl) (by kernel_rfl) (fun _ _ _ h => h) (Or.inl ⟨by rfl, fun w _ => by go_simp⟩) hHeld ?_
                  simp only [Act.put, List.setIfInBounds_toArray, List.set_cons_zero, List.set_cons_succ]
                  refine wpAnyH_take (i := 20) (oi := ⟨some 101, .pick (.tmp 87) (.const (.bool true)) (.tmp 100), _, _, _, none⟩) (v := .bool false) rfl (by kernel_rfl) (by kernel_rfl) (by kernel_rfl) (fun _ _ _ h => h) (Or.inl ⟨by rfl, fun w _ => by go_simp⟩) hHeld ?_
                  simp only [Act.put, List.setIfInBounds_toArray, List.set_cons_zero, List.set_cons_succ]
                  refine wpAnyH_done (by kernel_rfl) ?_ _
                  clear hHeld
                  go_wp2
                  first
                    | exact ⟨⟨p + 1, by omega, by first | go_num | (congr 1; omega), b2, b6, b7, lw⟩, by simp [intOf]; omega⟩
                    | (go_roundw
                       case rel => first | exact ⟨p + 1, by omega, by go_num, b2, b6, b7, lw⟩ | exact ⟨p + 1, by omega, by omega⟩
                       case measure => simp [intOf]; omega)
            · have hpn : (p : Int) = x.n := by omega
              go_wp2_with (first
                | ((with_reducible refine wpList_load_blk (o := ⟨some 103, .load 26 (.tmp 7), _, _, _, none⟩) rfl _ _ rfl w2.heap.size 26 d.cells _ ?_ ?_ Try.underlying26 rfl (ctl_sz _) ?_); rfl; exact b7)
                | ((with_reducible refine wpList_store_abs (o := ⟨none, .store 26 (.tmp 2) (.tmp 103), _, _, _, none⟩) rfl _ _ _ rfl w.heap.size 26 y.cells d.cells ?_ ?_ ?_ ?_ ?_ ?_ ?_); rfl; rfl; exact b2; exact ctl_sz _; rfl; exact ctl_one _; intro wq2 bq oq; replace lw := Below.only lw oq (Nat.le_refl _); clear b2; have b2 := bq; clear bq oq))
              first
                | exact ⟨⟨i + 1, d, by omega, by first | go_num | (congr 1; omega), ⟨⟨HDK.out, HDN.out⟩⟩, b2, lw⟩, by simp [intOf]; omega⟩
                | (go_roundw
                   case rel => first | exact ⟨i + 1, d, by omega, by go_num, ⟨HDK.out, HDN.out⟩, b2, lw⟩ | exact ⟨i + 1, d, by omega, by omega, ⟨HDK.out, HDN.out⟩, b2⟩
                   case measure => simp [intOf]; omega)
        · obtain rfl : i = m := by omega
          have KW := Lib.hid fun w' => valid_any y true w' HY.out.1.2 (by simp [HY.out.1.1])
          go_wp2_with (first
            | (go_at_call 11; (with_reducible refine (KS.out _).mono ?_); rintro e w7 ⟨rfl, l7⟩; replace b2 := b2.keep l7; replace lw := Later.trans_ lw l7)
            | ((with_reducible refine wpList_load_g (o := ⟨some 107, .load 26 (.tmp 2), _, _, _, _⟩) _ _ rfl w.heap.size 26 y.cells _ ?_ ?_ ?_ Try.underlying26 ?_ (ctl_sz _) ?_); rfl; rfl; exact b2; rfl)
            | (go_at_call 10; (with_reducible refine (KW.out _).mono ?_); rintro e w8 ⟨rfl, l8⟩; replace lw := Later.trans_ lw l8))
          go_ret
          exact ⟨rfl, lw⟩
    · have d40 : decide (40 < (m : Int)) = true := decide_eq_true (by omega)
      clear hok hx hs hL hwf
      go_enter Try.func5, Try.ntmps5
      go_wp2_with (first
        | ((with_reducible refine wpList_load_blk (o := ⟨some 12, .load 26 (.tmp 2), _, _, _, none⟩) rfl _ _ rfl w.heap.size 26 x.cells _ ?_ ?_ Try.underlying26 rfl (ctl_sz _) ?_); rfl; exact b2)
        | (go_at_call 9; (with_reducible refine (KV.out _).mono ?_); rintro e w1 ⟨rfl, l1⟩; replace b2 := b2.keep l1; replace lw := Later.trans_ lw l1)
        | (go_at_call 11; (with_reducible refine (KS.out _).mono ?_); rintro e w3 ⟨rfl, l3⟩; replace b2 := b2.keep l3; replace lw := Later.trans_ lw l3))
      go_ret
      exact ⟨rfl, lw⟩
  · have KV := Lib.hid fun w' => rvalid_no hx hok w'
    clear hok hx hs hL hwf
    go_enter Try.func5, Try.ntmps5
    go_wp2_with (first
      | ((with_reducible refine wpList_load_blk (o := ⟨some 12, .load 26 (.tmp 2), _, _, _, none⟩) rfl _ _ rfl w.heap.size 26 x.cells _ ?_ ?_ Try.underlying26 rfl (ctl_sz _) ?_); rfl; exact b2)
      | (go_at_call 9; (with_reducible refine (KV.out _).mono ?_); rintro e w1 ⟨rfl, l1⟩; replace b2 := b2.keep l1; replace lw := Later.trans_ lw l1)
      | (go_at_call 11; (with_reducible refine (KS.out _).mono ?_); rintro e w3 ⟨rfl, l3⟩; replace b2 := b2.keep l3; replace lw := Later.trans_ lw l3))
    go_ret
    exact ⟨rfl, lw⟩

set_option maxRecDepth 100000 in
theorem linesStayRaised_lifted (os : Os) (started : os.Started) (H : Type) (enc : TypeId × Value → H) :
    ReturnsInHanded {} Try.checked os 5 .any (Rows.linesStayRaisedSpec.pre6 enc Try.prog Try.f5 Rows.linesStayRaisedRow.domain false) (Rows.linesStayRaisedSpec.post enc Try.prog Try.f5 false true false false) := by
  refine returnsInHanded_of_change (C := Try.checked) ownK started (by kernel_rfl) Try.func5
    (ChangeSpec.witness6 (enc := enc) (C := Try.checked) false ⟨#[], #[.agg #[.int .i64 0, .int .u32 0, .int .u32 0, .int .u32 0, .int .u32 0, .int .u32 0, .int .u32 0, .int .u32 0, .int .u32 0, .int .i64 0, .int .i64 0, .int .i64 0, .int .i64 0, .int .i64 0], .slice none 0 0], []⟩ 8 (by kernel_rfl) (by kernel_rfl) (by kernel_rfl) (by kernel_rfl)) ?_
  intro W base args ds gs before hval0 hW hcnd _
  have hval : ∀ (j : Nat) t v, Try.f5.params[j]? = some t → args[j]? = some v → Value.okWide Try.prog W .any base t v := hval0
  have hW' := hW
  obtain ⟨p, q, hA0, hV, rfl, hfz, hnd⟩ := hW
  have hA : DataW.TrodAll enc Try.prog W 0 (fun _ => true) true Try.f5.params.toList args.toList ds p := hA0
  rw [Try.params5] at hA hval
  obtain ⟨v0, vs0, d0, ds0, p0, q0, hargs, rfl, rfl, h0, r0⟩ := trodAll_cons hA
  obtain ⟨v1, vs1, d1, ds1, p1, q1, rfl, rfl, rfl, h1, r1⟩ := trodAll_cons r0
  obtain ⟨rfl, rfl, rfl⟩ := trodAll_nil r1
  obtain rfl : args = #[v0, v1] := by cases args; simp_all
  obtain ⟨rfl, rfl⟩ := trodVars_none hV
  obtain ⟨a0, rfl, z0⟩ := ctl_open (hval 0 26 v0 rfl rfl) h0
  obtain ⟨A1, n1, c1, l1, rfl, x1, y1, s1, hl1, z1⟩ := acts_open (hval 1 47 v1 rfl rfl) h1
  clear hA0 hval0
  simp only [List.append_nil] at hW'
  refine (stay_all a0 A1 n1 c1 l1 W z0 s1 hl1 z1).mono fun e W' ⟨he, hw⟩ => ?_
  subst he
  exact ⟨_, rfl, law_post laidK rfl (by kernel_rfl) (by kernel_rfl) Try.underlying4 (by kernel_rfl) hW' rfl hw⟩
set_option maxRecDepth 100000 in
/-- The statement. -/
theorem linesStayRaised_said : Rows.LinesStayRaisedSaid :=
  OpenClaim.holds_of_wide 5 Try.f5 rfl rfl rfl rfl rfl rfl rfl ⟨rfl, rfl, rfl, rfl, rfl⟩ rfl rfl rfl rfl rfl (by kernel_rfl) Try.func5 (by kernel_rfl)
    (of_decide_eq_true (by kernel_rfl)) (by unfold Func.isWrapper; first | (rw [if_pos (by decide +kernel)]; kernel_rfl) | (rw [if_neg (by decide +kernel)]; exact ⟨rfl, rfl⟩))
    (fun os started H enc _ => linesStayRaised_lifted os started H enc)
#print axioms linesStayRaised_said
end Go.Proofs.Ytkpigonlnabmdab
