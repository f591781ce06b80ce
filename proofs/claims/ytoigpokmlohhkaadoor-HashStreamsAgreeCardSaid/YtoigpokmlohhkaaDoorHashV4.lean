/-
  TOWARDS THE STATEMENT HashStreamsAgree: a stream's cells as a string's; its walk.
-/
import Derived.Test.YtoigpokmlohhkaaDoorHashSt
import Derived.Test.YtoigpokmlohhkaaDoorShaD
import Derived.StillTailTactics
namespace Go.Proofs.YtoigpokmlohhkaaDoor
open Go.RowKit Go.ChangeShapes Go.WideShapes Go.ChangeAt

/-- A whole array read in a region that draws its order, ahead of the one call and the one store. -/
theorem wpStill_load_blk {P : Program} {ops : Array Oper} {rest : List Oper} {o : Oper} {a : Act} {w : World} {Q : Act → Prop} (ty : TypeId) (x : Operand) (ho : o.op = .load ty x)
    (g : Nat) (t : TypeId) (cs : List Value) (d : TypeDesc) (hw : Region.wanted o (yielded ops a.tmps) = true) (hx : a.eval x = .pointer (some ⟨g, 0, none⟩)) (hg : Blk w g t cs)
    (hu : P.underlying ty = some d) (hd : (match d with | .struct _ | .array _ _ => true | _ => false) = true) (hi : (P.info? ty).map (·.size) = some cs.length)
    (h : wpStill P ops w Q rest (a.put o.dst (.agg cs.toArray))) : wpStill P ops w Q (o :: rest) a := by
  refine wpStill_step (fun K hK => ?_)
  rw [hw, if_pos rfl]
  unfold Oper.still execOp
  simp only [ho, hx, Instr.loadAt, Instr.sureAddr, Sem.run_bind, Sem.run_pure, Result.andThen_ok, run_loadVar_row w g t ty cs.toArray (0, 0) d hg hu hd (by rw [List.size_toArray]; exact hi), Oper.stillUpon]
  exact ⟨trivial, hK _ h⟩

/-- The cells of the stream whose message is a string. -/
def StrS (s : ByteArray) (cs : List Value) : Prop := StrOf (bv (sb s)) cs
theorem StrS.begin {cs : List Value} (h : StrOf [] cs) : StrS ⟨#[]⟩ cs := h
theorem addS (s t : ByteArray) (cs : List Value) (w : World) (h : StrS s cs) (hb : s.size + t.size ≤ 281474976710656) (tab : Tab w) :
    Calls Tryd.prog 24 #[.agg cs.toArray, .string t] w fun e w' => ∃ cs', e = .returned (.agg cs'.toArray) ∧ StrS (s ++ t) cs' ∧ Later w w' := by
  have h1 := strAdd_any (bv (sb s)) cs t w h (by rw [bv_len, sb_len]; exact hb) tab
  unfold StrS
  rw [sb_app, bv_append]
  exact h1
theorem sumS (s : ByteArray) (cs : List Value) (w : World) (h : StrS s cs) (hb : s.size ≤ 281474976710656) (tab : Tab w) :
    Calls Tryd.prog 25 #[.agg cs.toArray] w fun e w' => e = .returned (.agg (shaC (sb s)).toArray) ∧ Later w w' :=
  strSum_any (bv (sb s)) cs w h (by rw [bv_len, sb_len]; exact hb) tab
theorem hsumRow (s : ByteArray) (w : World) (cap : Nat) (fr : Nat × Nat) (hn : s.size ≤ 281474976710656) (h1 : s.size ≤ cap) (h2 : cap ≤ maxLen) (tab : Tab w) :
    Calls Tryd.prog 21 #[.slice (some ⟨w.heap.size, 0, none⟩) s.size cap] (w.alloc (.cells (bytesRow s cap) 5 fr)).drew fun e w' => e = .returned (.agg (shaC (sb s)).toArray) ∧ Later (w.alloc (.cells (bytesRow s cap) 5 fr)).drew w' :=
  hsum_any (some ⟨w.heap.size, 0, none⟩) s.size cap (sb s) (w.drew.alloc (.cells (bytesRow s cap) 5 fr)) (sl_row w s cap _ fr) (sb_bs s) h1 (by unfold maxLen at h2; omega) hn (tab.keep (((Below.refl _ _).drew).alloc (Nat.le_refl _) _))
theorem StrS.len {s : ByteArray} {cs : List Value} (h : StrS s cs) : cs.length = 73 := StrOf.len h
theorem StrS.one {s : ByteArray} {cs : List Value} (h : StrS s cs) : ∀ u ∈ cs, u.oneCell' = true := StrOf.one h
theorem str_size {cs : List Value} (h : cs.length = 73) : (Tryd.prog.info? 42).map (·.size) = some cs.length := by rw [h]; kernel_rfl

set_option maxRecDepth 100000 in
set_option maxHeartbeats 2000000 in
theorem lawStreams_any (A : Option Addr) (n c : Nat) (l : List ByteArray) (o : ByteArray) (x : Int) (w : World) (tab : Tab w) (hs : Sl w 1 A n (Strs l)) (hnc : n ≤ c) (hn : n ≤ maxLen) (hz : ∀ s ∈ l, s.size ≤ maxLen) (ho : o.size ≤ maxLen) (hx : 0 ≤ x ∧ x ≤ 255) :
    Calls Tryd.prog 5 #[.slice A n c, .string o, .int .u8 x] w fun e w' => e = .returned (.bool true) ∧ Later w w' := by
  have HS := Lib.hid (sanity_any w tab)
  obtain ⟨F, hF⟩ : ∃ F, F = fewB l := ⟨_, rfl⟩
  have HW := Lib.hid fun w' (hw : Later w w') => by have h := few_any A n c l w' (hs.keep hw) hn hz; rw [← hF] at h; exact h
  unfold maxLen at hn ho
  cases F with
  | false =>
    clear hF tab
    go_enter Tryd.func5, Tryd.ntmps5
    go_wp2_with (first
      | (go_at_call 14; refine HS.out.mono ?_; rintro e w1 ⟨rfl, l1⟩)
      | (go_at_call 15; refine (HW.out w1 l1).mono ?_; rintro e w2 ⟨rfl, rfl⟩))
    go_ret
    exact ⟨rfl, l1⟩
  | true =>
    rcases Nat.lt_or_ge 400 o.size with h4 | h4
    · clear hF tab
      go_enter Tryd.func5, Tryd.ntmps5
      go_wp2_with (first
        | (go_at_call 14; refine HS.out.mono ?_; rintro e w1 ⟨rfl, l1⟩)
        | (go_at_call 15; refine (HW.out w1 l1).mono ?_; rintro e w2 ⟨rfl, rfl⟩))
      go_ret
      exact ⟨rfl, l1⟩
    · have hln := hs.slen
      have hb : n ≤ 12 ∧ ∀ s ∈ l, s.size ≤ 400 := by
        unfold fewB at hF
        have h := hF.symm
        rw [Bool.and_eq_true, decide_eq_true_eq, List.all_eq_true] at h
        exact ⟨by omega, fun s hs => of_decide_eq_true (h.2 s hs)⟩
      obtain ⟨hn12, hall⟩ := hb
      clear hF hz hn ho
      have HA := Lib.hid hall; have HL := Lib.hid hln
      have HJ := Lib.hid fun (k : Nat) => by
        have := joined_size (l.take k) (fun s hs => hall s (List.mem_of_mem_take hs))
        rw [List.length_take] at this
        exact show (joined (l.take k)).size ≤ 4800 by omega
      clear hall hln
      obtain ⟨K, hK, hK2⟩ : ∃ K : Nat, x.tmod ((n : Int) + 1) = (K : Int) ∧ K ≤ n := by
        rw [Int.tmod_eq_emod_of_nonneg hx.1]
        have h1 := Int.emod_nonneg x (show ((n : Int) + 1) ≠ 0 by omega)
        have h2 := Int.emod_lt_of_pos x (show (0 : Int) < (n : Int) + 1 by omega)
        exact ⟨(x % ((n : Int) + 1)).toNat, by omega, by omega⟩
      have g1 : IntKind.i64.wrap x = x := IntWalk.i64_in _ (by omega)
      have g2 : IntKind.i64.wrap ((n : Int) + 1) = (n : Int) + 1 := IntWalk.i64_in _ (by omega)
      have g3 : IntKind.i64.wrap (K : Int) = (K : Int) := IntWalk.i64_in _ (by omega)
      have g4 : ¬ ((n : Int) + 1 = 0) := by omega
      have hu42 := Tryd.underlying42
      have HU := Lib.hid hu42
      have TB := Lib.hid tab
      clear hu42 tab
      go_enter Tryd.func5, Tryd.ntmps5
      go_wp2_with (first
        | (go_at_call 14; refine HS.out.mono ?_; rintro e w1 ⟨rfl, l1⟩)
        | (go_at_call 15; refine (HW.out w1 l1).mono ?_; rintro e w2 ⟨rfl, rfl⟩)
        | (go_at_call 23; refine (strBegin_any _).mono ?_; rintro e w3 ⟨c0, rfl, s0, h3⟩; have HZ0 : Hid (Tryd.zeroCells42.toList.length = c0.length) := Lib.hid (by rw [s0.len]; rfl); have HY0 := Lib.hid (str_size s0.len))
        | ((with_reducible refine wpList_store_abs (o := ⟨none, .store 42 (.tmp 9) (.tmp 32), _, _, _, none⟩) rfl _ _ _ rfl w3.heap.size 42 Tryd.zeroCells42.toList c0 ?_ ?_ ?_ HY0.out HZ0.out s0.one ?_); rfl; rfl; exact Blk.new _ _ _ _ (by simp); intro w4 b9 o9))
      have l3 : Later w w3 := Later.trans_ l1 h3
      have hw3 := l3.size
      have l4 : Later w w4 := Below.only (l3.alloc l3.size _) o9 l3.size
      have z0 := StrS.begin s0
      clear hK g1 g4 h3 hx s0 HZ0 HY0 o9 l1 l3
      obtain ⟨B9, hB9⟩ : ∃ b, b = w3.heap.size := ⟨_, rfl⟩
      rw [← hB9] at b9 hw3 ⊢
      clear hB9
      go_loopw [10] (fun i wr => ∃ (k : Nat) (cs : List Value), k ≤ K ∧ i = .int .i64 k ∧ StrS (joined (l.take k)) cs ∧ Blk wr B9 42 cs ∧ Later w wr) (fun i _ => K - (intOf i).toNat)
      case atStart => exact ⟨0, c0, by omega, rfl, z0, b9, l4⟩
      case round =>
        clear z0 b9 l4
        obtain ⟨k, cs, hk, rfl, hS, hbk, hbr⟩ := hrel
        by_cases hlt : k < K
        · obtain ⟨ad, s, rfl, hbl, hc, hmem, HX⟩ := (hs.keep hbr).str (show k < n by omega)
          have hsz : s.size ≤ 400 := HA.out s hmem
          have hj := HJ.out k
          have hsw := str_size hS.len
          have HA1 := Lib.hid fun w' (hl : Later w w') => by
            have h := addS (joined (l.take k)) s cs w' hS (by omega) (TB.out.keep hl)
            rw [← joined_snoc, ← HX.out.1] at h
            exact h
          have k0 : (0 : Int) ≤ (k : Int) := by omega
          have kn : (k : Int) < (n : Int) := by omega
          go_wp2_with fail
          refine wp_region_still_tail 5 (by kernel_rfl) (by kernel_rfl) ?_
          simp only [List.take_succ_cons, List.take_zero, List.drop_succ_cons, List.drop_zero]
          refine wpStill_load_blk (o := ⟨some 38, .load 42 (.tmp 9), _, _, _, none⟩) _ _ rfl B9 42 cs _ (by rfl) rfl hbk.drew HU.out rfl hsw ?_
          simp only [Act.put, List.setIfInBounds_toArray, List.set_cons_zero, List.set_cons_succ]
          repeat still_step
          refine wpStill_nil ?_
          change wpList _ _ _ _ _ wr.drew
          have hlen := hS.len
          have HCL := Lib.hid hlen
          clear hlen
          go_wp2_with (first
            | (go_at_call 24; refine (HA1.out wr.drew hbr.drew).mono ?_; rintro e w5 ⟨cs5, rfl, hS5, h5⟩; have l5 : Later w w5 := Later.trans_ hbr.drew h5; have HZ5 : Hid (cs.length = cs5.length) := Lib.hid (by rw [HCL.out, hS5.len]); have HY5 := Lib.hid (str_size hS5.len))
            | ((with_reducible refine wpList_store_abs (o := ⟨none, .store 42 (.tmp 9) (.tmp 43), _, _, _, none⟩) rfl _ _ _ rfl B9 42 cs cs5 ?_ ?_ (hbk.drew.keep h5) HY5.out HZ5.out hS5.one ?_); rfl; rfl; intro w6 b6 o6))
          have l6 : Later w w6 := Below.only l5 o6 hw3
          go_roundw
          case rel => exact ⟨k + 1, cs5, by omega, by go_num, hS5, b6, l6⟩
          case measure => simp [intOf]; omega
        · obtain rfl : k = K := by omega
          clear hlt g3
          have hsw := str_size hS.len
          have HZ1 : Hid (Tryd.zeroCells42.toList.length = cs.length) := Lib.hid (by rw [hS.len]; rfl)
          have HY1 := Lib.hid hsw
          have hkm : Hid (cs.length = 73) := Lib.hid hS.len
          clear hsw
          obtain ⟨wo, rfl⟩ : ∃ wo : World, wo = wr := ⟨_, rfl⟩
          go_wp2_with (first
            | ((with_reducible refine wpList_load_blk (o := ⟨some 44, .load 42 (.tmp 9), _, _, _, none⟩) rfl _ _ rfl B9 42 cs _ ?_ hbk HU.out rfl HY1.out ?_); rfl)
            | ((with_reducible refine wpList_store_abs (o := ⟨none, .store 42 (.tmp 11) (.tmp 44), _, _, _, none⟩) rfl _ _ _ rfl wo.heap.size 42 Tryd.zeroCells42.toList cs ?_ ?_ ?_ HY1.out HZ1.out hS.one ?_); rfl; rfl; exact Blk.new _ _ _ _ (by simp); intro w7 b11 o11))
          have l7 : Later w w7 := Below.only (hbr.alloc hbr.size _) o11 hbr.size
          have hne := hbk.lt
          have b9 := (hbk.alloc (.cells Tryd.zeroCells42 42)).only o11 (Nat.ne_of_lt hne)
          obtain ⟨B11, hB11⟩ : ∃ b, b = wo.heap.size := ⟨_, rfl⟩
          rw [← hB11] at b11 hne ⊢
          have hw11 : w.heap.size ≤ B11 := by have := hbr.size; omega
          clear hB11 hbk hbr o11 HZ1
          go_loopw [12] (fun i wq => ∃ (m : Nat) (cq : List Value), k ≤ m ∧ m ≤ n ∧ i = .int .i64 m ∧ StrS (joined (l.take m)) cq ∧ Blk wq B9 42 cq ∧ Blk wq B11 42 cs ∧ Later w wq) (fun i _ => n - (intOf i).toNat)
          case atStart => exact ⟨k, cs, by omega, by omega, rfl, hS, b9, b11, l7⟩
          case round =>
            clear b9 b11 l7
            obtain ⟨m, cq, hm1, hm2, rfl, hSq, hbk, hbe, hbr⟩ := hrel
            by_cases hlt : m < n
            · obtain ⟨ad, s, rfl, hbl, hc, hmem, HX⟩ := (hs.keep hbr).str hlt
              have hsz : s.size ≤ 400 := HA.out s hmem
              have hj := HJ.out m
              have hsw := str_size hSq.len
              have HA1 := Lib.hid fun w' (hl : Later w w') => by
                have h := addS (joined (l.take m)) s cq w' hSq (by omega) (TB.out.keep hl)
                rw [← joined_snoc, ← HX.out.1] at h
                exact h
              have k0 : (0 : Int) ≤ (m : Int) := by omega
              have kn : (m : Int) < (n : Int) := by omega
              go_wp2_with fail
              refine wp_region_still_tail 5 (by kernel_rfl) (by kernel_rfl) ?_
              simp only [List.take_succ_cons, List.take_zero, List.drop_succ_cons, List.drop_zero]
              refine wpStill_load_blk (o := ⟨some 52, .load 42 (.tmp 9), _, _, _, none⟩) _ _ rfl B9 42 cq _ (by rfl) rfl hbk.drew HU.out rfl hsw ?_
              simp only [Act.put, List.setIfInBounds_toArray, List.set_cons_zero, List.set_cons_succ]
              repeat still_step
              refine wpStill_nil ?_
              change wpList _ _ _ _ _ wr.drew
              have hlen := hSq.len
              have HCL := Lib.hid hlen
              clear hlen
              go_wp2_with (first
                | (go_at_call 24; refine (HA1.out wr.drew hbr.drew).mono ?_; rintro e w5 ⟨cs5, rfl, hS5, h5⟩; have l5 : Later w w5 := Later.trans_ hbr.drew h5; have HZ5 : Hid (cq.length = cs5.length) := Lib.hid (by rw [HCL.out, hS5.len]); have HY5 := Lib.hid (str_size hS5.len))
                | ((with_reducible refine wpList_store_abs (o := ⟨none, .store 42 (.tmp 9) (.tmp 57), _, _, _, none⟩) rfl _ _ _ rfl B9 42 cq cs5 ?_ ?_ (hbk.drew.keep h5) HY5.out HZ5.out hS5.one ?_); rfl; rfl; intro w6 b6 o6))
              have l6 : Later w w6 := Below.only l5 o6 hw3
              have e6 := (hbe.drew.keep h5).only o6 (Nat.ne_of_gt hne)
              go_roundw
              case rel => exact ⟨m + 1, cs5, by omega, by omega, by go_num, hS5, b6, e6, l6⟩
              case measure => simp [intOf]; omega
            · obtain rfl : m = n := by omega
              clear hlt
              have hjm := HJ.out m
              have hjk := HJ.out k
              have hfull : l.take m = l := List.take_of_length_le (by rw [HL.out]; omega)
              rw [hfull] at hSq hjm
              obtain ⟨W, hW⟩ : ∃ s, s = joined l := ⟨_, rfl⟩
              obtain ⟨H, hH⟩ : ∃ s, s = joined (l.take k) := ⟨_, rfl⟩
              rw [← hW] at hSq hjm
              rw [← hH] at hS hjk
              obtain ⟨T, hT⟩ : ∃ T, H ++ o = T := ⟨_, rfl⟩
              have hTs : T.size ≤ 5200 := by rw [← hT, ByteArray.size_append]; omega
              obtain ⟨vN, hvN⟩ : ∃ x, x = iv8 (Hs.sha (bv (sb W))) := ⟨_, rfl⟩
              obtain ⟨vH, hvH⟩ : ∃ x, x = iv8 (Hs.sha (bv (sb H))) := ⟨_, rfl⟩
              obtain ⟨vF, hvF⟩ : ∃ x, x = iv8 (Hs.sha (bv (sb T))) := ⟨_, rfl⟩
              have eN : shaC (sb W) = U vN := by rw [hvN]; rfl
              have eH : shaC (sb H) = U vH := by rw [hvH]; rfl
              have eF : shaC (sb T) = U vF := by rw [hvF]; rfl
              have lN : vN.length = 32 := by rw [hvN]; exact sha_len _
              have lH : vH.length = 32 := by rw [hvH]; exact sha_len _
              have lF : vF.length = 32 := by rw [hvF]; exact sha_len _
              obtain ⟨XN, hXN⟩ : ∃ x, x = (U vN).toArray := ⟨_, rfl⟩
              obtain ⟨XH, hXH⟩ : ∃ x, x = (U vH).toArray := ⟨_, rfl⟩
              obtain ⟨XF, hXF⟩ : ∃ x, x = (U vF).toArray := ⟨_, rfl⟩
              have qN : ∀ w' : World, (Op.equalIn 10000 35 (.agg XN) (.agg XN)).run Tryd.prog w' = .ok true w' := fun w' => by rw [hXN, sum_eq lN lN w', decide_eq_true rfl]
              have qH : ∀ w' : World, (Op.equalIn 10000 35 (.agg XH) (.agg XH)).run Tryd.prog w' = .ok true w' := fun w' => by rw [hXH, sum_eq lH lH w', decide_eq_true rfl]
              have qF : ∀ w' : World, (Op.equalIn 10000 35 (.agg XF) (.agg XF)).run Tryd.prog w' = .ok true w' := fun w' => by rw [hXF, sum_eq lF lF w', decide_eq_true rfl]
              have hgd : Tryd.prog.eqGuardType Tryd.prog.depth 35 = false := by kernel_rfl
              have AD := Lib.hid fun w' (hl : Later w w') => by have h := addS H o cs w' hS (by omega) (TB.out.keep hl); rw [hT] at h; exact h
              have J1 := Lib.hid fun w' (hw : Later w w') => by have h := joined_any A m c l w' (hs.keep hw) hn12 HA.out; rw [← hW] at h; exact h
              have J2 := Lib.hid fun w' c' (hw : Later w w') => by
                have hf : Sl w' 1 A k (Strs (l.take k)) := by
                  have h1 := (hs.keep hw).front hK2
                  rw [Nat.mul_one] at h1
                  rw [show Strs (l.take k) = (Strs l).take k by simp [Strs]]
                  exact h1
                have h := joined_any A k c' (l.take k) w' hf (by omega) (fun s hs => HA.out s (List.mem_of_mem_take hs)); rw [← hH] at h; exact h
              have V1 := Lib.hid fun w' (hl : Later w w') => by have h := sumS W cq w' hSq (by omega) (TB.out.keep hl); rw [eN, ← hXN] at h; exact h
              have V2 := Lib.hid fun w' (hl : Later w w') => by have h := sumS H cs w' hS (by omega) (TB.out.keep hl); rw [eH, ← hXH] at h; exact h
              have V3 := Lib.hid fun w' cx (hx : StrS T cx) (hl : Later w w') => by have h := sumS T cx w' hx (by omega) (TB.out.keep hl); rw [eF, ← hXF] at h; exact h
              have C1 := Lib.hid fun w' cap fr (h1 : W.size ≤ cap) (h2 : cap ≤ maxLen) (hl : Later w w') => by have h := hsumRow W w' cap fr (by omega) h1 h2 (TB.out.keep hl); rw [eN, ← hXN] at h; exact h
              have C2 := Lib.hid fun w' cap fr (h1 : H.size ≤ cap) (h2 : cap ≤ maxLen) (hl : Later w w') => by have h := hsumRow H w' cap fr (by omega) h1 h2 (TB.out.keep hl); rw [eH, ← hXH] at h; exact h
              have C3 := Lib.hid fun w' cap fr (h1 : T.size ≤ cap) (h2 : cap ≤ maxLen) (hl : Later w w') => by have h := hsumRow T w' cap fr (by omega) h1 h2 (TB.out.keep hl); rw [eF, ← hXF] at h; exact h
              have kb := fun (w : World) (s : ByteArray) => run_bytes_of_string (P := Tryd.prog) w 9 33 5 s Tryd.underlying9 Tryd.underlying33 Tryd.underlying5
              have hkm' : (k : Int) ≤ (m : Int) := by omega
              have hkc : (k : Int) ≤ (c : Int) := by omega
              have HYq := Lib.hid (str_size hSq.len)
              have HZ2 : Hid (Tryd.zeroCells42.toList.length = 73) := Lib.hid rfl
              clear hW hH hvN hvH hvF eN eH eF lN lH lF hXN hXH hXF hfull hm1 hm2 HA HL HJ hSq hS
              go_wp2_with (first
                | ((with_reducible refine wpList_load_blk (o := ⟨some 58, .load 42 (.tmp 11), _, _, _, none⟩) rfl _ _ rfl B11 42 cs _ ?_ hbe HU.out rfl HY1.out ?_); rfl)
                | (go_at_call 24; (with_reducible refine (AD.out _ hbr).mono ?_); rintro e w6 ⟨cF, rfl, sF, h6⟩; have l6 : Later w w6 := Later.trans_ hbr h6; have HYF := Lib.hid (str_size sF.len); have HZF : Hid (Tryd.zeroCells42.toList.length = cF.length) := Lib.hid (by rw [sF.len]; rfl))
                | ((with_reducible refine wpList_store_abs (o := ⟨none, .store 42 (.tmp 13) (.tmp 60), _, _, _, none⟩) rfl _ _ _ rfl w6.heap.size 42 Tryd.zeroCells42.toList cF ?_ ?_ ?_ HYF.out HZF.out sF.one ?_); rfl; rfl; exact Blk.new _ _ _ _ (by simp); intro w7 b13 o13; have l7 : Later w w7 := Below.only (l6.alloc l6.size _) o13 l6.size; have b9 := ((hbk.keep h6).alloc (.cells Tryd.zeroCells42 42)).only o13 (Nat.ne_of_lt (hbk.keep h6).lt); have b11 := ((hbe.keep h6).alloc (.cells Tryd.zeroCells42 42)).only o13 (Nat.ne_of_lt (hbe.keep h6).lt))
                | (go_at_call 18; (with_reducible refine (J1.out _ l7).mono ?_); rintro e wj ⟨rfl, rfl⟩)
                | (go_at_call 18; (with_reducible refine (J2.out _ _ l7).mono ?_); rintro e wj ⟨rfl, rfl⟩)
                | ((with_reducible refine wpList_load_g (o := ⟨some 69, .load 42 (.tmp 9), _, _, _, _⟩) _ _ rfl B9 42 cq _ ?_ ?_ b9 HU.out ?_ HYq.out ?_); rfl; rfl; rfl)
                | (go_at_call 25; (with_reducible refine (V1.out _ l7).mono ?_); rintro e w8 ⟨rfl, h8⟩; have l8 : Later w w8 := Later.trans_ l7 h8))
              refine (C1.out w8 _ _ (grownCap_ge _ _ _ _) (grownCap_le_maxLen _ _ _ _ (by unfold maxLen; omega)) l8).mono ?_
              rintro e w9 ⟨rfl, h9⟩
              have l9 : Later w w9 := Later.trans_ (l8.alloc l8.size _).drew h9
              have d11 := (((b11.keep h8).alloc (.cells (bytesRow W (grownCap w8 W.size 0 5)) 5 ((bytesRow W (grownCap w8 W.size 0 5)).size, (bytesRow W (grownCap w8 W.size 0 5)).size + 1))).drew).keep h9
              have d13 := (((b13.keep h8).alloc (.cells (bytesRow W (grownCap w8 W.size 0 5)) 5 ((bytesRow W (grownCap w8 W.size 0 5)).size, (bytesRow W (grownCap w8 W.size 0 5)).size + 1))).drew).keep h9
              go_wp2_with (first
                | ((with_reducible refine wpList_load_g (o := ⟨some 77, .load 42 (.tmp 11), _, _, _, _⟩) _ _ rfl B11 42 cs _ ?_ ?_ d11 HU.out ?_ HY1.out ?_); rfl; rfl; rfl)
                | (go_at_call 25; (with_reducible refine (V2.out _ l9).mono ?_); rintro e w10 ⟨rfl, h10⟩; have l10 : Later w w10 := Later.trans_ l9 h10))
              refine (C2.out w10 _ _ (grownCap_ge _ _ _ _) (grownCap_le_maxLen _ _ _ _ (by unfold maxLen; omega)) l10).mono ?_
              rintro e w11 ⟨rfl, h11⟩
              have l11 : Later w w11 := Later.trans_ (l10.alloc l10.size _).drew h11
              have e13 := (((d13.keep h10).alloc (.cells (bytesRow H (grownCap w10 H.size 0 5)) 5 ((bytesRow H (grownCap w10 H.size 0 5)).size, (bytesRow H (grownCap w10 H.size 0 5)).size + 1))).drew).keep h11
              go_wp2_with (first
                | ((with_reducible refine wpList_load_g (o := ⟨some 85, .load 42 (.tmp 13), _, _, _, _⟩) _ _ rfl w6.heap.size 42 cF _ ?_ ?_ e13 HU.out ?_ HYF.out ?_); rfl; rfl; rfl)
                | (go_at_call 25; (with_reducible refine (V3.out _ cF sF l11).mono ?_); rintro e w12 ⟨rfl, h12⟩; have l12 : Later w w12 := Later.trans_ l11 h12))
              refine (C3.out w12 _ _ (grownCap_ge _ _ _ _) (grownCap_le_maxLen _ _ _ _ (by unfold maxLen; omega)) l12).mono ?_
              rintro e w13 ⟨rfl, h13⟩
              have l13 : Later w w13 := Later.trans_ (l12.alloc l12.size _).drew h13
              go_wp2
              go_ret
              exact ⟨ret_bool (by simp), l13⟩
end Go.Proofs.YtoigpokmlohhkaaDoor
