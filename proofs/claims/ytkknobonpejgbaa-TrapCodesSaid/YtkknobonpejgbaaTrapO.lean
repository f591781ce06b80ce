/-
  PROCESSORS: the reference's Decode.
-/
import Derived.Test.YtkknobonpejgbaaTrapN
import Derived.Test.YtkknobonpejgbaaTrapZ1
namespace Go.Proofs.Ytkknobonpejgbaa
open Go.RowKit Go.ChangeShapes Go.WideShapes Go.ChangeAt

theorem wp_store_abs {P : Program} {o : Oper} {a : Act} {w : World} {K : Act → World → Prop} {Q : Exit → Act → World → Prop} (ty : TypeId) (x y : Operand) (ho : o.op = .store ty x y)
    (g : Nat) (t : TypeId) (old cs : List Value) (hx : a.eval x = .pointer (some ⟨g, 0, none⟩)) (hy : a.eval y = .agg cs.toArray) (hg : Blk w g t old)
    (hi : (P.info? ty).map (·.size) = some cs.length) (hold : old.length = cs.length) (h1 : ∀ v ∈ cs, v.oneCell' = true)
    (h : ∀ w', Blk w' g t cs → Only g w w' → K (a.put o.dst undef) w') : o.wp P a w K Q :=
  wp_store_row ty x y ho g cs.toArray hx hy t old.toArray hg (by rw [List.size_toArray]; exact hi) (by simpa using hold) (all_oneCell_toArray h1) (h _ (hg.row cs) (Only.row _ _ _))
theorem yieldsIf_build {ops : Array Oper} {S : World → Prop} {op : Oper} {a : Act} (hw : Region.wanted op (yielded ops a.tmps) = true) (t : TypeId) (fs : Array (Nat × Operand)) (vs : Array (Nat × Value)) (C : Array Value) (ho : op.op = .build t fs)
    (hv : fs.toList.map (fun x => (x.1, a.eval x.2)) = vs.toList) (hr : ∀ w, (Instr.build t vs).run Try.prog w = .ok (.agg C) w) : YieldsIf Try.prog ops S op (.agg C) a :=
  .inl ⟨hw, fun w _ => by
    have e : fs.map (fun x => (x.1, a.eval x.2)) = vs := by
      apply Array.toList_inj.1; rw [Array.toList_map]; exact hv
    unfold execOp
    simp only [ho, e, Sem.run_bind, hr, Sem.run_pure, Result.andThen_ok]⟩
theorem built_e : Try.prog.built 45 [(2, .int .i64 11)] = some (gotC 0 zC 11).toArray := by kernel_rfl
theorem run_e (w : World) : (Instr.build 45 #[(2, .int .i64 11)]).run Try.prog w = .ok (.agg (gotC 0 zC 11).toArray) w := run_build w _ _ _ built_e
theorem built_pn (v n : Int) : Try.prog.built 26 [(0, .int .u32 v), (6, .int .i64 n)] = some ({ zC with pc := v, cn := n } : Cpu).cells.toArray := by kernel_rfl
theorem run_pn (v n : Int) (w : World) : (Instr.build 26 #[(0, .int .u32 v), (6, .int .i64 n)]).run Try.prog w = .ok (.agg ({ zC with pc := v, cn := n } : Cpu).cells.toArray) w := run_build w _ _ _ (built_pn v n)
def fillQ (l : List Int) : Nat → List Value
  | 0 => ({ zC with pc := wr32 (l.getD 0 0), cn := l.getD 27 0 } : Cpu).cells
  | k + 1 => (fillQ l k).set (1 + k) (.int .u32 (wr32 (l.getD (1 + k) 0)))
def fillS (l : List Int) : Nat → List Value
  | 0 => fillQ l 16
  | k + 1 => (fillS l k).set (17 + k) (.int .u32 (wr32 (l.getD (17 + k) 0)))
theorem fillQ_len (l : List Int) : ∀ k, (fillQ l k).length = 30
  | 0 => rfl
  | k + 1 => by rw [fillQ, List.length_set]; exact fillQ_len l k
theorem fillS_len (l : List Int) : ∀ k, (fillS l k).length = 30
  | 0 => fillQ_len l 16
  | k + 1 => by rw [fillS, List.length_set]; exact fillS_len l k
theorem fill_most (l : List Int) : fillS l 9 = ({ Cpu.half l with cn := l.getD 27 0 } : Cpu).cells := by kernel_rfl
theorem okR_no {b : Wm.Bs} {l : List Int} {u : Nat} {e : Int} (hb : Wm.isBs b) (hd : Wm.decL Wm.decI 1 b = (l, u, e)) (h : okR b l u e = false) : dcdC b l e = zC ∧ dcdE b l e = 11 :=
  dcd_no (by rw [← ok_same hb hd]; exact h)
set_option maxRecDepth 100000 in
set_option maxHeartbeats 2000000 in
theorem rdecode_short (A : Option Addr) (n c : Nat) (b : Wm.Bs) (w : World) (hs : Sl w 1 A n (U b)) (hb : Wm.isBs b) (hnc : n ≤ c) (hn : c ≤ maxLen) (hsm : n ≤ 1000000) (l : List Int) (u : Nat) (e : Int) (hd : Wm.decL Wm.decI 1 b = (l, u, e)) (hbad : e ≠ 0 ∨ u ≠ b.length ∨ l.length ≠ 28) :
    Calls Try.prog 28 #[.slice A n c] w fun r w' => r = .returned (.agg (gotC 0 (dcdC b l e) (dcdE b l e)).toArray) ∧ Later w w' := by
  have HG := Lib.hid (refGetInts_any A n c b (w.alloc (.cells (gotC 0 zC 0).toArray 45)) (hs.alloc _) hb hnc hn hsm)
  rw [hd] at HG
  have hbl := hs.blen
  have hno : okR b l u e = false := by
    unfold okR
    rcases hbad with h | h | h
    · rw [decide_eq_false h]; rfl
    · rw [decide_eq_false h]; simp
    · rw [decide_eq_false h]; simp
  have HOK := Lib.hid (okR_no hb hd hno)
  by_cases he : e = 0
  · subst he
    by_cases hu : u = b.length
    · have hl : l.length ≠ 28 := by rcases hbad with h | h | h; exact absurd rfl h; exact absurd hu h; exact h
      have hun : ((u : Int) != (n : Int)) = false := by rw [hu, hbl]; simp
      have HL := Lib.hid hl
      clear hno hbad hd hs hb hn hsm hnc hu hl hbl
      go_enter Try.func28, Try.ntmps28
      go_wp2_with (first | (go_at_call 39; refine (HG.out).mono ?_; rintro r w1 ⟨A2, n2, c2, rfl, g1, g2, s2, l1⟩; replace s2 : Sl w1 1 A2 n2 (N64 l) := s2; have b2 := (Blk.new w 45 (gotC 0 zC 0).toArray (gotC 0 zC 0) rfl).keep l1; have lw := Later.trans_ (later1 w (.cells (gotC 0 zC 0).toArray 45)) l1; have hz1 := b2.lt; have hn2 : n2 = l.length := (by have := s2.1; rw [N64_len] at this; omega); have hnz : ((n2 : Int) != 28) = true := (by have := HL.out; simp; omega); clear hn2) | ((with_reducible refine wpList_bld (o := ⟨some 31, .build 45 #[(2, .const (.int .i64 11))], _, _, _, none⟩) rfl _ #[(2, .const (.int .i64 11))] #[(2, .int .i64 11)] (gotC 0 zC 11).toArray rfl ?_ (run_e _) ?_); rfl) | ((with_reducible refine wpList_store_abs (o := ⟨none, .store 45 (.tmp 2) (.tmp 31), _, _, _, none⟩) rfl _ _ _ rfl w.heap.size 45 (gotC 0 zC 0) (gotC 0 zC 11) ?_ ?_ ?_ ?_ ?_ ?_ ?_); rfl; rfl; exact b2; exact got_sz _ _ _; rfl; exact got_one _ _ _; intro w9 b9 o9))
      exact bodyPost_ret (got_ret Try.results28 _ _ w.heap.size 0 zC 11 rfl b9) rfl ⟨by rw [HOK.out.1, HOK.out.2], Below.only lw o9 (Nat.le_refl _)⟩
    · have hun : ((u : Int) != (n : Int)) = true := by simp; omega
      clear hno hbad hd hs hb hn hsm hnc hu hbl
      go_enter Try.func28, Try.ntmps28
      go_wp2_with (first | (go_at_call 39; refine (HG.out).mono ?_; rintro r w1 ⟨A2, n2, c2, rfl, g1, g2, s2, l1⟩; replace s2 : Sl w1 1 A2 n2 (N64 l) := s2; have b2 := (Blk.new w 45 (gotC 0 zC 0).toArray (gotC 0 zC 0) rfl).keep l1; have lw := Later.trans_ (later1 w (.cells (gotC 0 zC 0).toArray 45)) l1; have hz1 := b2.lt; have hn2 : n2 = l.length := (by have := s2.1; rw [N64_len] at this; omega); clear hn2) | ((with_reducible refine wpList_bld (o := ⟨some 31, .build 45 #[(2, .const (.int .i64 11))], _, _, _, none⟩) rfl _ #[(2, .const (.int .i64 11))] #[(2, .int .i64 11)] (gotC 0 zC 11).toArray rfl ?_ (run_e _) ?_); rfl) | ((with_reducible refine wpList_store_abs (o := ⟨none, .store 45 (.tmp 2) (.tmp 31), _, _, _, none⟩) rfl _ _ _ rfl w.heap.size 45 (gotC 0 zC 0) (gotC 0 zC 11) ?_ ?_ ?_ ?_ ?_ ?_ ?_); rfl; rfl; exact b2; exact got_sz _ _ _; rfl; exact got_one _ _ _; intro w9 b9 o9))
      exact bodyPost_ret (got_ret Try.results28 _ _ w.heap.size 0 zC 11 rfl b9) rfl ⟨by rw [HOK.out.1, HOK.out.2], Below.only lw o9 (Nat.le_refl _)⟩
  · have hne : (e != 0) = true := by simpa using he
    clear hno hbad hd hs hb hn hsm hnc he hbl
    go_enter Try.func28, Try.ntmps28
    go_wp2_with (first | (go_at_call 39; refine (HG.out).mono ?_; rintro r w1 ⟨A2, n2, c2, rfl, g1, g2, s2, l1⟩; replace s2 : Sl w1 1 A2 n2 (N64 l) := s2; have b2 := (Blk.new w 45 (gotC 0 zC 0).toArray (gotC 0 zC 0) rfl).keep l1; have lw := Later.trans_ (later1 w (.cells (gotC 0 zC 0).toArray 45)) l1; have hz1 := b2.lt; have hn2 : n2 = l.length := (by have := s2.1; rw [N64_len] at this; omega); clear hn2) | ((with_reducible refine wpList_bld (o := ⟨some 31, .build 45 #[(2, .const (.int .i64 11))], _, _, _, none⟩) rfl _ #[(2, .const (.int .i64 11))] #[(2, .int .i64 11)] (gotC 0 zC 11).toArray rfl ?_ (run_e _) ?_); rfl) | ((with_reducible refine wpList_store_abs (o := ⟨none, .store 45 (.tmp 2) (.tmp 31), _, _, _, none⟩) rfl _ _ _ rfl w.heap.size 45 (gotC 0 zC 0) (gotC 0 zC 11) ?_ ?_ ?_ ?_ ?_ ?_ ?_); rfl; rfl; exact b2; exact got_sz _ _ _; rfl; exact got_one _ _ _; intro w9 b9 o9))
    exact bodyPost_ret (got_ret Try.results28 _ _ w.heap.size 0 zC 11 rfl b9) rfl ⟨by rw [HOK.out.1, HOK.out.2], Below.only lw o9 (Nat.le_refl _)⟩
set_option maxRecDepth 100000 in
set_option maxHeartbeats 8000000 in
theorem rdecode_long (A : Option Addr) (n c : Nat) (b : Wm.Bs) (w : World) (hs : Sl w 1 A n (U b)) (hb : Wm.isBs b) (hnc : n ≤ c) (hn : c ≤ maxLen) (hsm : n ≤ 1000000) (l : List Int) (hd : Wm.decL Wm.decI 1 b = (l, b.length, 0)) (hl28 : l.length = 28) :
    Calls Try.prog 28 #[.slice A n c] w fun r w' => r = .returned (.agg (gotC 0 (dcdC b l 0) (dcdE b l 0)).toArray) ∧ Later w w' := by
  have HG := Lib.hid (refGetInts_any A n c b (w.alloc (.cells (gotC 0 zC 0).toArray 45)) (hs.alloc _) hb hnc hn hsm)
  rw [hd] at HG
  have hbl := hs.blen
  have hun : ((b.length : Int) != (n : Int)) = false := by rw [hbl]; simp
  have HNO := Lib.hid (okR_no hb hd)
  have HB := Lib.hid (ok_same hb hd)
  have HL := Lib.hid hl28
  clear hd hn hsm hnc hs hb hbl
  go_enter Try.func28, Try.ntmps28
  go_upto_region 4 with (go_at_call 39; refine (HG.out).mono ?_; rintro r w1 ⟨A2, n2, c2, rfl, g1, g2, s2, l1⟩; replace s2 : Sl w1 1 A2 n2 (N64 l) := s2; have b2 := (Blk.new w 45 (gotC 0 zC 0).toArray (gotC 0 zC 0) rfl).keep l1; have lw := Later.trans_ (later1 w (.cells (gotC 0 zC 0).toArray 45)) l1; have hz1 := b2.lt; have hn2 : n2 = l.length := (by have := s2.1; rw [N64_len] at this; omega); have hA2 : ∃ ad, A2 = some ad ∧ ∀ j u, (N64 l)[j]? = some u → w1.cell? (ad.add j) = some u := (by obtain ⟨ad, e', _, hc⟩ := s2.2 (by omega); exact ⟨ad, e', hc⟩); obtain ⟨ad, rfl, hel⟩ := hA2; have hlt2 : ad.block < w1.heap.size := (by obtain ⟨a', e', h, _⟩ := s2.2 (by omega); cases e'; exact h); obtain rfl : n2 = 28 := (by omega); clear hn2)
  have HC := Lib.hid (fun (j : Nat) (hj : j < 28) (w' : World) (hl : Later w1 w') => (show w'.cell? (ad.add j) = some (.int .i64 (l.getD j 0)) from by
    rw [hl.cell (by rw [addr_add_block]; exact hlt2)]
    refine hel j _ ?_
    rw [N64, List.getElem?_map, List.getD_eq_getElem?_getD, List.getElem?_eq_getElem (show j < l.length by have := HL.out; omega)]
    rfl))
  clear hel s2 HG hun g1 g2 l1 hl28
  go_wp2
  go_loopw [6] (fun i wr => ∃ k : Nat, k ≤ 27 ∧ i = .int .i64 k ∧ w1 = wr ∧ ∀ j, j < k → 0 ≤ l.getD j 0 ∧ l.getD j 0 ≤ 4294967295) (fun i _ => 27 - (intOf i).toNat)
  case atStart => exact ⟨0, by omega, rfl, rfl, fun j hj => by omega⟩
  case round =>
    obtain ⟨k, hk, rfl, rfl, hall⟩ := hrel
    by_cases hlt : k < 27
    · have hkn : (k : Int) < 27 := by omega
      have hk28 : (k : Int) < 28 := by omega
      have hk0 : (0 : Int) ≤ k := by omega
      have ey := HC.out k (by omega) _ (later0 _)
      have hbad : ¬ (0 ≤ l.getD k 0 ∧ l.getD k 0 ≤ 4294967295) → okR b l b.length 0 = false := by
        intro h
        unfold okR
        rw [decide_eq_false (p := ∀ k ∈ List.range 27, 0 ≤ l.getD k 0 ∧ l.getD k 0 ≤ 4294967295) (fun hh => h (hh k (List.mem_range.2 hlt)))]
        simp
      have hstep : (0 ≤ l.getD k 0 ∧ l.getD k 0 ≤ 4294967295) → ∀ j, j < k + 1 → 0 ≤ l.getD j 0 ∧ l.getD j 0 ≤ 4294967295 := fun h j hj => by
        by_cases hj2 : j = k
        · rw [hj2]; exact h
        · exact hall j (by omega)
      obtain ⟨y, hy⟩ : ∃ y, y = l.getD k 0 := ⟨_, rfl⟩
      rw [← hy] at ey hbad hstep
      clear hy hall
      by_cases h0 : y < 0
      · have HOK := Lib.hid (HNO.out (hbad (by omega)))
        have d0 : decide (y < 0) = true := decide_eq_true h0
        clear hbad hstep
        go_wp2_with (first | ((with_reducible refine wpList_bld (o := ⟨some 48, .build 45 #[(2, .const (.int .i64 11))], _, _, _, none⟩) rfl _ #[(2, .const (.int .i64 11))] #[(2, .int .i64 11)] (gotC 0 zC 11).toArray rfl ?_ (run_e _) ?_); rfl) | ((with_reducible refine wpList_store_abs (o := ⟨none, .store 45 (.tmp 2) (.tmp 48), _, _, _, none⟩) rfl _ _ _ rfl w.heap.size 45 (gotC 0 zC 0) (gotC 0 zC 11) ?_ ?_ ?_ ?_ ?_ ?_ ?_); rfl; rfl; exact b2; exact got_sz _ _ _; rfl; exact got_one _ _ _; intro w9 b9 o9))
        exact bodyPost_ret (got_ret Try.results28 _ _ w.heap.size 0 zC 11 rfl b9) rfl ⟨by rw [HOK.out.1, HOK.out.2], Below.only lw o9 (Nat.le_refl _)⟩
      · by_cases h1 : 4294967295 < y
        · have HOK := Lib.hid (HNO.out (hbad (by omega)))
          clear hbad hstep
          go_wp2_with (first | ((with_reducible refine wpList_bld (o := ⟨some 48, .build 45 #[(2, .const (.int .i64 11))], _, _, _, none⟩) rfl _ #[(2, .const (.int .i64 11))] #[(2, .int .i64 11)] (gotC 0 zC 11).toArray rfl ?_ (run_e _) ?_); rfl) | ((with_reducible refine wpList_store_abs (o := ⟨none, .store 45 (.tmp 2) (.tmp 48), _, _, _, none⟩) rfl _ _ _ rfl w.heap.size 45 (gotC 0 zC 0) (gotC 0 zC 11) ?_ ?_ ?_ ?_ ?_ ?_ ?_); rfl; rfl; exact b2; exact got_sz _ _ _; rfl; exact got_one _ _ _; intro w9 b9 o9))
          exact bodyPost_ret (got_ret Try.results28 _ _ w.heap.size 0 zC 11 rfl b9) rfl ⟨by rw [HOK.out.1, HOK.out.2], Below.only lw o9 (Nat.le_refl _)⟩
        · have hs2 := Lib.hid (hstep (by omega))
          clear hbad hstep
          go_wp2
          go_roundw
          case rel => exact ⟨k + 1, by omega, by go_num, trivial, hs2.out⟩
          case measure => simp [intOf]; omega
    · obtain rfl : k = 27 := by omega
      clear hlt hk
      have HA := Lib.hid hall
      have HC0 := Lib.hid (fun w' hl => HC.out 0 (by omega) w' hl)
      have HC7 := Lib.hid (fun w' hl => HC.out 27 (by omega) w' hl)
      have HC6 := Lib.hid (fun w' hl => HC.out 26 (by omega) w' hl)
      rw [show ad.add 0 = ad by cases ad; simp [Addr.add]] at HC0
      obtain ⟨y0, hy0⟩ : ∃ y, y = l.getD 0 0 := ⟨_, rfl⟩
      obtain ⟨z0, hz0⟩ : ∃ z, IntKind.u32.wrap y0 = z := ⟨_, rfl⟩
      have HZ0 := Lib.hid (show z0 = wr32 (l.getD 0 0) by rw [← hz0, hy0]; rfl)
      obtain ⟨y7, hy7⟩ : ∃ y, y = l.getD 27 0 := ⟨_, rfl⟩
      have HY7 := Lib.hid hy7
      rw [show ad.add 27 = (⟨ad.block, ad.off + 27, none⟩ : Addr) from rfl] at HC7
      rw [show ad.add 26 = (⟨ad.block, ad.off + 26, none⟩ : Addr) from rfl] at HC6
      rw [← hy0] at HC0
      rw [← hy7] at HC7
      clear hy0 hy7 hall
      go_wp2
      have lv : Later w1 w1.drew := (Below.refl _ w1).drew
      have e0 := HC0.out _ lv
      have e7 := HC7.out _ lv
      replace b2 := b2.drew
      refine wp_region_held_drew (S := fun w' => w'.cell? ad = some (.int .i64 y0) ∧ w'.cell? ⟨ad.block, ad.off + 27, none⟩ = some (.int .i64 y7)) (by kernel_rfl) ⟨e0, e7⟩ (fun hHeld => ?_)
      refine wpAnyH_take (i := 0) (oi := ⟨some 49, .move (.tmp 3), _, _, _, none⟩) (v := .slice (some ad) 28 c2) rfl (by kernel_rfl) (by kernel_rfl) (by kernel_rfl) (fun _ _ _ h => h) (Or.inl ⟨by rfl, fun _ _ => rfl⟩) hHeld ?_
      simp only [Act.put, List.setIfInBounds_toArray, List.set_cons_zero, List.set_cons_succ]
      refine wpAnyH_take (i := 1) (oi := ⟨some 50, .indexAddr 60 (.tmp 49) (.const (.int .i64 0)), _, _, _, none⟩) (v := .pointer (some ad)) rfl (by kernel_rfl) (by kernel_rfl) (by kernel_rfl) (fun _ _ _ h => h) (Or.inl ⟨by rfl, fun w _ => by go_simp⟩) hHeld ?_
      simp only [Act.put, List.setIfInBounds_toArray, List.set_cons_zero, List.set_cons_succ]
      refine wpAnyH_take (i := 2) (oi := ⟨some 51, .load 3 (.tmp 50), _, _, _, none⟩) (v := .int .i64 y0) rfl (by kernel_rfl) (by kernel_rfl) (by kernel_rfl) (fun _ _ _ h => h) (Or.inl ⟨by rfl, fun w hSw => by have e1 := hSw.1; clear hSw; go_simp⟩) hHeld ?_
      simp only [Act.put, List.setIfInBounds_toArray, List.set_cons_zero, List.set_cons_succ]
      refine wpAnyH_take (i := 3) (oi := ⟨some 52, .convert 3 22 (.tmp 51), _, _, _, none⟩) (v := .int .u32 z0) rfl (by kernel_rfl) (by kernel_rfl) (by kernel_rfl) (fun _ _ _ h => h) (Or.inl ⟨by rfl, fun w _ => by go_simp⟩) hHeld ?_
      simp only [Act.put, List.setIfInBounds_toArray, List.set_cons_zero, List.set_cons_succ]
      refine wpAnyH_take (i := 4) (oi := ⟨some 53, .move (.tmp 3), _, _, _, none⟩) (v := .slice (some ad) 28 c2) rfl (by kernel_rfl) (by kernel_rfl) (by kernel_rfl) (fun _ _ _ h => h) (Or.inl ⟨by rfl, fun _ _ => rfl⟩) hHeld ?_
      simp only [Act.put, List.setIfInBounds_toArray, List.set_cons_zero, List.set_cons_succ]
      refine wpAnyH_take (i := 5) (oi := ⟨some 54, .indexAddr 60 (.tmp 53) (.const (.int .i64 27)), _, _, _, none⟩) (v := .pointer (some ⟨ad.block, ad.off + 27, none⟩)) rfl (by kernel_rfl) (by kernel_rfl) (by kernel_rfl) (fun _ _ _ h => h) (Or.inl ⟨by rfl, fun w _ => by go_simp⟩) hHeld ?_
      simp only [Act.put, List.setIfInBounds_toArray, List.set_cons_zero, List.set_cons_succ]
      refine wpAnyH_take (i := 6) (oi := ⟨some 55, .load 3 (.tmp 54), _, _, _, none⟩) (v := .int .i64 y7) rfl (by kernel_rfl) (by kernel_rfl) (by kernel_rfl) (fun _ _ _ h => h) (Or.inl ⟨by rfl, fun w hSw => by have e1 := hSw.2; clear hSw; go_simp⟩) hHeld ?_
      simp only [Act.put, List.setIfInBounds_toArray, List.set_cons_zero, List.set_cons_succ]
      refine wpAnyH_take (i := 7) (oi := ⟨some 56, .build 26 #[(0, .tmp 52), (6, .tmp 55)], _, _, _, none⟩) (v := .agg ({ zC with pc := z0, cn := y7 } : Cpu).cells.toArray) rfl (by kernel_rfl) (by kernel_rfl) (by kernel_rfl) (fun _ _ _ h => h) (yieldsIf_build (by rfl) _ _ #[(0, .int .u32 z0), (6, .int .i64 y7)] _ rfl rfl (run_pn z0 y7)) hHeld ?_
      simp only [Act.put, List.setIfInBounds_toArray, List.set_cons_zero, List.set_cons_succ]
      refine wpAnyH_ready (rs := [8]) (by kernel_rfl) (by simp) (AllReadyH.cons (o := ⟨some 7, .alloc 26, _, _, _, none⟩) rfl (fun K' hK => ?_) AllReadyH.nil)
      go_simp
      have b7 := (Blk.new w1 26 zC.cells.toArray zC.cells rfl).drew
      replace b2 := (b2.alloc (.cells zC.cells.toArray 26)).drew
      replace lv := (lv.alloc lv.size (.cells zC.cells.toArray 26)).drew
      replace e0 := HC0.out _ lv
      replace e7 := HC7.out _ lv
      refine hK.out _ _ ⟨e0, e7⟩ (fun hHeld => ?_)
      clear hK K'
      try simp only [Act.put, List.setIfInBounds_toArray, List.set_cons_zero, List.set_cons_succ]
      refine wpAnyH_ready (rs := [9]) (by kernel_rfl) (by simp) (AllReadyH.cons (o := ⟨none, .store 26 (.tmp 7) (.tmp 56), _, _, _, none⟩) rfl (fun K' hK => ?_) AllReadyH.nil)
      refine wp_store_abs 26 _ _ rfl w1.heap.size 26 zC.cells ({ zC with pc := z0, cn := y7 } : Cpu).cells rfl rfl b7 (cpu_sz _) rfl (cpu_one _) ?_
      intro u1 b8 o8
      replace b2 := b2.only o8 (by omega)
      replace lv := Below.only lv o8 (Nat.le_refl _)
      clear b7
      replace e0 := HC0.out _ lv
      replace e7 := HC7.out _ lv
      refine hK.out _ _ ⟨e0, e7⟩ (fun hHeld => ?_)
      clear hK K'
      try simp only [Act.put]
      refine wpAnyH_done (by kernel_rfl) ?_ _
      clear hHeld
      replace b7 : Blk u1 w1.heap.size 26 (fillQ l 0) := (by rw [HZ0.out, HY7.out] at b8; exact b8)
      clear b8 e0 e7 o8 HC0 HC7 HZ0 hz0
      go_wp2
      go_loopw [8] (fun i wr => ∃ k : Nat, k ≤ 16 ∧ i = .int .i64 k ∧ Blk wr w1.heap.size 26 (fillQ l k) ∧ Blk wr w.heap.size 45 (gotC 0 zC 0) ∧ Later w1 wr) (fun i _ => 16 - (intOf i).toNat)
      case atStart => exact ⟨0, by omega, rfl, b7, b2, lv⟩
      case round =>
        clear b7 b2 lv
        obtain ⟨k, hk, rfl, b7, b2, lv⟩ := hrel
        by_cases hlt : k < 16
        · have hkn : (k : Int) < 16 := by omega
          have hk0 : (0 : Int) ≤ k := by omega
          have hwk : IntKind.i64.wrap (1 + (k : Int)) = 1 + (k : Int) := by rw [IntKind.wrap_i64]; omega
          have htn : (1 + (k : Int)).toNat = 1 + k := by omega
          have hp0 : (0 : Int) ≤ 1 + (k : Int) := by omega
          have hp1 : 1 + (k : Int) < 28 := by omega
          have ey := HC.out (1 + k) (by omega) _ lv
          obtain ⟨y, hy⟩ : ∃ y, y = l.getD (1 + k) 0 := ⟨_, rfl⟩
          obtain ⟨z, hz⟩ : ∃ z, IntKind.u32.wrap y = z := ⟨_, rfl⟩
          have HZ := Lib.hid (show z = wr32 (l.getD (1 + k) 0) by rw [← hz, hy]; rfl)
          rw [← hy] at ey
          clear hy
          obtain ⟨q, e8⟩ := Option.isSome_iff_exists.1 (b7.there1 (j := 1 + k) (by rw [fillQ_len]; omega))
          have f8 := b7.frz (1 + k)
          have hset := fun (ww : World) => Only.set ww w1.heap.size (1 + k) (.int .u32 z)
          go_wp2
          replace b7 := b7.set (1 + k) (.int .u32 z)
          replace b2 := b2.only (hset _) (by omega)
          replace lv := Below.only lv (hset _) (Nat.le_refl _)
          replace b7 : Blk _ w1.heap.size 26 (fillQ l (k + 1)) := (by rw [fillQ, ← HZ.out]; exact b7)
          clear ey e8 f8 hset hz HZ
          go_roundw
          case rel => first | exact ⟨k + 1, by omega, by go_num, b7, b2, lv⟩ | exact ⟨_, _, _, _, _, _, ⟨k + 1, by omega, by go_num, b7, b2, lv⟩, rfl⟩ | exact ⟨_, _, _, _, _, _, _, ⟨k + 1, by omega, by go_num, b7, b2, lv⟩, rfl⟩ | exact ⟨_, _, _, _, _, _, _, _, ⟨k + 1, by omega, by go_num, b7, b2, lv⟩, rfl⟩ | exact ⟨_, _, _, _, _, _, _, _, _, ⟨k + 1, by omega, by go_num, b7, b2, lv⟩, rfl⟩ | exact ⟨_, _, _, _, _, _, _, _, _, _, ⟨k + 1, by omega, by go_num, b7, b2, lv⟩, rfl⟩ | exact ⟨_, _, _, _, _, _, _, _, _, _, _, ⟨k + 1, by omega, by go_num, b7, b2, lv⟩, rfl⟩ | exact ⟨_, _, _, _, _, _, _, _, _, _, _, _, ⟨k + 1, by omega, by go_num, b7, b2, lv⟩, rfl⟩ | exact ⟨_, _, _, _, _, _, _, _, _, _, _, _, _, ⟨k + 1, by omega, by go_num, b7, b2, lv⟩, rfl⟩ | exact ⟨_, _, _, _, _, _, _, _, _, _, _, _, _, _, ⟨k + 1, by omega, by go_num, b7, b2, lv⟩, rfl⟩ | exact ⟨_, _, _, _, _, _, _, _, _, _, _, _, _, _, _, ⟨k + 1, by omega, by go_num, b7, b2, lv⟩, rfl⟩ | exact ⟨_, _, _, _, _, _, _, _, _, _, _, _, _, _, _, _, ⟨k + 1, by omega, by go_num, b7, b2, lv⟩, rfl⟩ | exact ⟨_, _, _, _, _, _, _, _, _, _, _, _, _, _, _, _, _, ⟨k + 1, by omega, by go_num, b7, b2, lv⟩, rfl⟩ | exact ⟨_, _, _, _, _, _, _, _, _, _, _, _, _, _, _, _, _, _, ⟨k + 1, by omega, by go_num, b7, b2, lv⟩, rfl⟩ | exact ⟨_, _, _, _, _, _, _, _, _, _, _, _, _, _, _, _, _, _, _, ⟨k + 1, by omega, by go_num, b7, b2, lv⟩, rfl⟩ | exact ⟨_, _, _, _, _, _, _, _, _, _, _, _, _, _, _, _, _, _, _, _, ⟨k + 1, by omega, by go_num, b7, b2, lv⟩, rfl⟩ | exact ⟨_, _, _, _, _, _, _, _, _, _, _, _, _, _, _, _, _, _, _, _, _, ⟨k + 1, by omega, by go_num, b7, b2, lv⟩, rfl⟩ | exact ⟨_, _, _, _, _, _, _, _, _, _, _, _, _, _, _, _, _, _, _, _, _, _, ⟨k + 1, by omega, by go_num, b7, b2, lv⟩, rfl⟩ | exact ⟨_, _, _, _, _, _, _, _, _, _, _, _, _, _, _, _, _, _, _, _, _, _, _, ⟨k + 1, by omega, by go_num, b7, b2, lv⟩, rfl⟩ | exact ⟨_, _, _, _, _, _, _, _, _, _, _, _, _, _, _, _, _, _, _, _, _, _, _, _, ⟨k + 1, by omega, by go_num, b7, b2, lv⟩, rfl⟩ | exact ⟨_, _, _, _, _, _, _, _, _, _, _, _, _, _, _, _, _, _, _, _, _, _, _, _, _, ⟨k + 1, by omega, by go_num, b7, b2, lv⟩, rfl⟩ | exact ⟨_, _, _, _, _, _, _, _, _, _, _, _, _, _, _, _, _, _, _, _, _, _, _, _, _, _, ⟨k + 1, by omega, by go_num, b7, b2, lv⟩, rfl⟩ | exact ⟨_, _, _, _, _, _, _, _, _, _, _, _, _, _, _, _, _, _, _, _, _, _, _, _, _, _, _, ⟨k + 1, by omega, by go_num, b7, b2, lv⟩, rfl⟩ | exact ⟨_, _, _, _, _, _, _, _, _, _, _, _, _, _, _, _, _, _, _, _, _, _, _, _, _, _, _, _, ⟨k + 1, by omega, by go_num, b7, b2, lv⟩, rfl⟩ | exact ⟨_, _, _, _, _, _, _, _, _, _, _, _, _, _, _, _, _, _, _, _, _, _, _, _, _, _, _, _, _, ⟨k + 1, by omega, by go_num, b7, b2, lv⟩, rfl⟩ | exact ⟨_, _, _, _, _, _, _, _, _, _, _, _, _, _, _, _, _, _, _, _, _, _, _, _, _, _, _, _, _, _, ⟨k + 1, by omega, by go_num, b7, b2, lv⟩, rfl⟩ | exact ⟨_, _, _, _, _, _, _, _, _, _, _, _, _, _, _, _, _, _, _, _, _, _, _, _, _, _, _, _, _, _, _, ⟨k + 1, by omega, by go_num, b7, b2, lv⟩, rfl⟩ | exact ⟨_, _, _, _, _, _, _, _, _, _, _, _, _, _, _, _, _, _, _, _, _, _, _, _, _, _, _, _, _, _, _, _, ⟨k + 1, by omega, by go_num, b7, b2, lv⟩, rfl⟩ | exact ⟨_, _, _, _, _, _, _, _, _, _, _, _, _, _, _, _, _, _, _, _, _, _, _, _, _, _, _, _, _, _, _, _, _, ⟨k + 1, by omega, by go_num, b7, b2, lv⟩, rfl⟩ | exact ⟨_, _, _, _, _, _, _, _, _, _, _, _, _, _, _, _, _, _, _, _, _, _, _, _, _, _, _, _, _, _, _, _, _, _, ⟨k + 1, by omega, by go_num, b7, b2, lv⟩, rfl⟩ | exact ⟨_, _, _, _, _, _, _, _, _, _, _, _, _, _, _, _, _, _, _, _, _, _, _, _, _, _, _, _, _, _, _, _, _, _, _, ⟨k + 1, by omega, by go_num, b7, b2, lv⟩, rfl⟩ | exact ⟨_, _, _, _, _, _, _, _, _, _, _, _, _, _, _, _, _, _, _, _, _, _, _, _, _, _, _, _, _, _, _, _, _, _, _, _, ⟨k + 1, by omega, by go_num, b7, b2, lv⟩, rfl⟩ | exact ⟨_, _, _, _, _, _, _, _, _, _, _, _, _, _, _, _, _, _, _, _, _, _, _, _, _, _, _, _, _, _, _, _, _, _, _, _, _, ⟨k + 1, by omega, by go_num, b7, b2, lv⟩, rfl⟩ | exact ⟨_, _, _, _, _, _, _, _, _, _, _, _, _, _, _, _, _, _, _, _, _, _, _, _, _, _, _, _, _, _, _, _, _, _, _, _, _, _, ⟨k + 1, by omega, by go_num, b7, b2, lv⟩, rfl⟩ | exact ⟨_, _, _, _, _, _, _, _, _, _, _, _, _, _, _, _, _, _, _, _, _, _, _, _, _, _, _, _, _, _, _, _, _, _, _, _, _, _, _, ⟨k + 1, by omega, by go_num, b7, b2, lv⟩, rfl⟩
          case measure => simp [intOf]; omega
        · obtain rfl : k = 16 := by omega
          clear hlt hk
          have b7n : Blk _ w1.heap.size 26 (fillS l 0) := b7
          clear b7
          have b7 := b7n
          clear b7n
          go_wp2
          go_loopw [9] (fun i wr => ∃ k : Nat, k ≤ 9 ∧ i = .int .i64 k ∧ Blk wr w1.heap.size 26 (fillS l k) ∧ Blk wr w.heap.size 45 (gotC 0 zC 0) ∧ Later w1 wr) (fun i _ => 9 - (intOf i).toNat)
          case atStart => exact ⟨0, by omega, rfl, b7, b2, lv⟩
          case round =>
            clear b7 b2 lv
            obtain ⟨k, hk, rfl, b7, b2, lv⟩ := hrel
            by_cases hlt : k < 9
            · have hkn : (k : Int) < 9 := by omega
              have hk0 : (0 : Int) ≤ k := by omega
              have hwk : IntKind.i64.wrap (17 + (k : Int)) = 17 + (k : Int) := by rw [IntKind.wrap_i64]; omega
              have htn : (17 + (k : Int)).toNat = 17 + k := by omega
              have hp0 : (0 : Int) ≤ 17 + (k : Int) := by omega
              have hp1 : 17 + (k : Int) < 28 := by omega
              have ey := HC.out (17 + k) (by omega) _ lv
              obtain ⟨y, hy⟩ : ∃ y, y = l.getD (17 + k) 0 := ⟨_, rfl⟩
              obtain ⟨z, hz⟩ : ∃ z, IntKind.u32.wrap y = z := ⟨_, rfl⟩
              have HZ := Lib.hid (show z = wr32 (l.getD (17 + k) 0) by rw [← hz, hy]; rfl)
              rw [← hy] at ey
              clear hy
              obtain ⟨q, e8⟩ := Option.isSome_iff_exists.1 (b7.there1 (j := 17 + k) (by rw [fillS_len]; omega))
              have f8 := b7.frz (17 + k)
              have hset := fun (ww : World) => Only.set ww w1.heap.size (17 + k) (.int .u32 z)
              go_wp2
              replace b7 := b7.set (17 + k) (.int .u32 z)
              replace b2 := b2.only (hset _) (by omega)
              replace lv := Below.only lv (hset _) (Nat.le_refl _)
              replace b7 : Blk _ w1.heap.size 26 (fillS l (k + 1)) := (by rw [fillS, ← HZ.out]; exact b7)
              clear ey e8 f8 hset hz HZ
              go_roundw
              case rel => first | exact ⟨k + 1, by omega, by go_num, b7, b2, lv⟩ | exact ⟨_, _, _, _, _, _, ⟨k + 1, by omega, by go_num, b7, b2, lv⟩, rfl⟩ | exact ⟨_, _, _, _, _, _, _, ⟨k + 1, by omega, by go_num, b7, b2, lv⟩, rfl⟩ | exact ⟨_, _, _, _, _, _, _, _, ⟨k + 1, by omega, by go_num, b7, b2, lv⟩, rfl⟩ | exact ⟨_, _, _, _, _, _, _, _, _, ⟨k + 1, by omega, by go_num, b7, b2, lv⟩, rfl⟩ | exact ⟨_, _, _, _, _, _, _, _, _, _, ⟨k + 1, by omega, by go_num, b7, b2, lv⟩, rfl⟩ | exact ⟨_, _, _, _, _, _, _, _, _, _, _, ⟨k + 1, by omega, by go_num, b7, b2, lv⟩, rfl⟩ | exact ⟨_, _, _, _, _, _, _, _, _, _, _, _, ⟨k + 1, by omega, by go_num, b7, b2, lv⟩, rfl⟩ | exact ⟨_, _, _, _, _, _, _, _, _, _, _, _, _, ⟨k + 1, by omega, by go_num, b7, b2, lv⟩, rfl⟩ | exact ⟨_, _, _, _, _, _, _, _, _, _, _, _, _, _, ⟨k + 1, by omega, by go_num, b7, b2, lv⟩, rfl⟩ | exact ⟨_, _, _, _, _, _, _, _, _, _, _, _, _, _, _, ⟨k + 1, by omega, by go_num, b7, b2, lv⟩, rfl⟩ | exact ⟨_, _, _, _, _, _, _, _, _, _, _, _, _, _, _, _, ⟨k + 1, by omega, by go_num, b7, b2, lv⟩, rfl⟩ | exact ⟨_, _, _, _, _, _, _, _, _, _, _, _, _, _, _, _, _, ⟨k + 1, by omega, by go_num, b7, b2, lv⟩, rfl⟩ | exact ⟨_, _, _, _, _, _, _, _, _, _, _, _, _, _, _, _, _, _, ⟨k + 1, by omega, by go_num, b7, b2, lv⟩, rfl⟩ | exact ⟨_, _, _, _, _, _, _, _, _, _, _, _, _, _, _, _, _, _, _, ⟨k + 1, by omega, by go_num, b7, b2, lv⟩, rfl⟩ | exact ⟨_, _, _, _, _, _, _, _, _, _, _, _, _, _, _, _, _, _, _, _, ⟨k + 1, by omega, by go_num, b7, b2, lv⟩, rfl⟩ | exact ⟨_, _, _, _, _, _, _, _, _, _, _, _, _, _, _, _, _, _, _, _, _, ⟨k + 1, by omega, by go_num, b7, b2, lv⟩, rfl⟩ | exact ⟨_, _, _, _, _, _, _, _, _, _, _, _, _, _, _, _, _, _, _, _, _, _, ⟨k + 1, by omega, by go_num, b7, b2, lv⟩, rfl⟩ | exact ⟨_, _, _, _, _, _, _, _, _, _, _, _, _, _, _, _, _, _, _, _, _, _, _, ⟨k + 1, by omega, by go_num, b7, b2, lv⟩, rfl⟩ | exact ⟨_, _, _, _, _, _, _, _, _, _, _, _, _, _, _, _, _, _, _, _, _, _, _, _, ⟨k + 1, by omega, by go_num, b7, b2, lv⟩, rfl⟩ | exact ⟨_, _, _, _, _, _, _, _, _, _, _, _, _, _, _, _, _, _, _, _, _, _, _, _, _, ⟨k + 1, by omega, by go_num, b7, b2, lv⟩, rfl⟩ | exact ⟨_, _, _, _, _, _, _, _, _, _, _, _, _, _, _, _, _, _, _, _, _, _, _, _, _, _, ⟨k + 1, by omega, by go_num, b7, b2, lv⟩, rfl⟩ | exact ⟨_, _, _, _, _, _, _, _, _, _, _, _, _, _, _, _, _, _, _, _, _, _, _, _, _, _, _, ⟨k + 1, by omega, by go_num, b7, b2, lv⟩, rfl⟩ | exact ⟨_, _, _, _, _, _, _, _, _, _, _, _, _, _, _, _, _, _, _, _, _, _, _, _, _, _, _, _, ⟨k + 1, by omega, by go_num, b7, b2, lv⟩, rfl⟩ | exact ⟨_, _, _, _, _, _, _, _, _, _, _, _, _, _, _, _, _, _, _, _, _, _, _, _, _, _, _, _, _, ⟨k + 1, by omega, by go_num, b7, b2, lv⟩, rfl⟩ | exact ⟨_, _, _, _, _, _, _, _, _, _, _, _, _, _, _, _, _, _, _, _, _, _, _, _, _, _, _, _, _, _, ⟨k + 1, by omega, by go_num, b7, b2, lv⟩, rfl⟩ | exact ⟨_, _, _, _, _, _, _, _, _, _, _, _, _, _, _, _, _, _, _, _, _, _, _, _, _, _, _, _, _, _, _, ⟨k + 1, by omega, by go_num, b7, b2, lv⟩, rfl⟩ | exact ⟨_, _, _, _, _, _, _, _, _, _, _, _, _, _, _, _, _, _, _, _, _, _, _, _, _, _, _, _, _, _, _, _, ⟨k + 1, by omega, by go_num, b7, b2, lv⟩, rfl⟩ | exact ⟨_, _, _, _, _, _, _, _, _, _, _, _, _, _, _, _, _, _, _, _, _, _, _, _, _, _, _, _, _, _, _, _, _, ⟨k + 1, by omega, by go_num, b7, b2, lv⟩, rfl⟩ | exact ⟨_, _, _, _, _, _, _, _, _, _, _, _, _, _, _, _, _, _, _, _, _, _, _, _, _, _, _, _, _, _, _, _, _, _, ⟨k + 1, by omega, by go_num, b7, b2, lv⟩, rfl⟩ | exact ⟨_, _, _, _, _, _, _, _, _, _, _, _, _, _, _, _, _, _, _, _, _, _, _, _, _, _, _, _, _, _, _, _, _, _, _, ⟨k + 1, by omega, by go_num, b7, b2, lv⟩, rfl⟩ | exact ⟨_, _, _, _, _, _, _, _, _, _, _, _, _, _, _, _, _, _, _, _, _, _, _, _, _, _, _, _, _, _, _, _, _, _, _, _, ⟨k + 1, by omega, by go_num, b7, b2, lv⟩, rfl⟩ | exact ⟨_, _, _, _, _, _, _, _, _, _, _, _, _, _, _, _, _, _, _, _, _, _, _, _, _, _, _, _, _, _, _, _, _, _, _, _, _, ⟨k + 1, by omega, by go_num, b7, b2, lv⟩, rfl⟩ | exact ⟨_, _, _, _, _, _, _, _, _, _, _, _, _, _, _, _, _, _, _, _, _, _, _, _, _, _, _, _, _, _, _, _, _, _, _, _, _, _, ⟨k + 1, by omega, by go_num, b7, b2, lv⟩, rfl⟩ | exact ⟨_, _, _, _, _, _, _, _, _, _, _, _, _, _, _, _, _, _, _, _, _, _, _, _, _, _, _, _, _, _, _, _, _, _, _, _, _, _, _, ⟨k + 1, by omega, by go_num, b7, b2, lv⟩, rfl⟩
              case measure => simp [intOf]; omega
            · obtain rfl : k = 9 := by omega
              clear hlt hk
              have e6 := HC6.out _ lv
              have hf := HA.out 26 (by omega)
              obtain ⟨f, hF⟩ : ∃ f, f = l.getD 26 0 := ⟨_, rfl⟩
              rw [← hF] at e6 hf
              have hfw : IntKind.u32.wrap f = f := by rw [IntKind.wrap_u32]; omega
              have hfe : Tm.isE f := ⟨hf.1, by omega⟩
              have K0 : ∀ w' : World, Calls Try.prog 32 #[.int .u32 f, .int .i64 0] w' fun e w'' => e = .returned (.bool (Tm.has f 1)) ∧ w' = w'' := fun w' => rset_any f 1 0 w' rfl hfe (by omega)
              have K1 : ∀ w' : World, Calls Try.prog 32 #[.int .u32 f, .int .i64 1] w' fun e w'' => e = .returned (.bool (Tm.has f 2)) ∧ w' = w'' := fun w' => rset_any f 2 1 w' rfl hfe (by omega)
              have K2 : ∀ w' : World, Calls Try.prog 32 #[.int .u32 f, .int .i64 2] w' fun e w'' => e = .returned (.bool (Tm.has f 4)) ∧ w' = w'' := fun w' => rset_any f 4 2 w' rfl hfe (by omega)
              have H0 := Lib.hid K0
              have H1 := Lib.hid K1
              have H2 := Lib.hid K2
              clear K0 K1 K2 hfe
              have HF := Lib.hid hF
              have hfr := Lib.hid hf
              clear hF hf
              rw [fill_most] at b7
              have q1 := b7.cell (j := 26) (v := .bool false) rfl
              have p1 := b7.frz 26
              have q2 := b7.cell (j := 27) (v := .bool false) rfl
              have p2 := b7.frz 27
              have q3 := b7.cell (j := 28) (v := .bool false) rfl
              have p3 := b7.frz 28
              have hs1 := fun (ww : World) => Only.set ww w1.heap.size 26 (.bool (Tm.has f 1))
              have hs2 := fun (ww : World) => Only.set ww w1.heap.size 27 (.bool (Tm.has f 2))
              have hs3 := fun (ww : World) => Only.set ww w1.heap.size 28 (.bool (Tm.has f 4))
              have b7n := (((b7.set 26 (.bool (Tm.has f 1))).set 27 (.bool (Tm.has f 2))).set 28 (.bool (Tm.has f 4)))
              replace b2 := ((b2.only (hs1 _) (by omega)).only (hs2 _) (by omega)).only (hs3 _) (by omega)
              replace lv := Below.only (Below.only (Below.only lv (hs1 _) (Nat.le_refl _)) (hs2 _) (Nat.le_refl _)) (hs3 _) (Nat.le_refl _)
              clear hs1 hs2 hs3 b7
              go_upto_region 22 with (first
                | (go_at_call 32; first | ((with_reducible refine (H0.out _).mono ?_); rintro e v9 ⟨rfl, rfl⟩) | ((with_reducible refine (H1.out _).mono ?_); rintro e v9 ⟨rfl, rfl⟩) | ((with_reducible refine (H2.out _).mono ?_); rintro e v9 ⟨rfl, rfl⟩)))
              obtain ⟨u2, hu2⟩ : ∃ u2, u2 = (((wr.setCell ⟨w1.heap.size, 26, none⟩ (.bool (Tm.has f 1))).setCell ⟨w1.heap.size, 27, none⟩ (.bool (Tm.has f 2))).setCell ⟨w1.heap.size, 28, none⟩ (.bool (Tm.has f 4))) := ⟨_, rfl⟩
              rw [← hu2]
              have b7 : Blk u2 w1.heap.size 26 ({ Cpu.half l with cn := l.getD 27 0, u := Tm.has f 1, wt := Tm.has f 2, hl := Tm.has f 4 } : Cpu).cells := by
                rw [hu2]
                exact b7n
              replace b2 : Blk u2 w.heap.size 45 (gotC 0 zC 0) := by
                rw [hu2]
                exact b2
              replace lw : Later w u2 := by
                rw [hu2]
                exact Later.trans_ lw lv
              clear hu2 b7n lv q1 q2 q3 p1 p2 p3 e6 H0 H1 H2 hfw HC6 HC
              have hR : okR b l b.length 0 = (okC (Cpu.ofL l).r0 (Cpu.ofL l).c5 (Cpu.ofL l).c7 (Cpu.ofL l).c8 (Cpu.ofL l).wt (Cpu.ofL l).hl (Cpu.ofL l).cn && decide (f ≤ 7)) := by
                unfold okR
                rw [decide_eq_true HL.out, decide_eq_true rfl, decide_eq_true rfl, decide_eq_true (p := ∀ k ∈ List.range 27, 0 ≤ l.getD k 0 ∧ l.getD k 0 ≤ 4294967295) (fun k hk => HA.out k (List.mem_range.1 hk)), HF.out]
                rfl
              by_cases h7 : f ≤ 7
              · rw [decide_eq_true h7, Bool.and_true] at hR
                have hmb := modes_back ⟨hfr.out.1, h7⟩
                have hY : ({ Cpu.half l with cn := l.getD 27 0, u := Tm.has f 1, wt := Tm.has f 2, hl := Tm.has f 4 } : Cpu) = (Cpu.ofL l) := by
                  rw [hmb.2.1, hmb.2.2.1, hmb.2.2.2, HF.out]
                  rfl
                rw [hY] at b7
                obtain ⟨X, hX⟩ : ∃ X, X = (Cpu.ofL l) := ⟨_, rfl⟩
                have HX := Lib.hid hX
                rw [← hX] at b7 hR
                have h7b : decide (7 < f) = false := decide_eq_false (by omega)
                clear hmb hY hX
                cases hV : okC X.r0 X.c5 X.c7 X.c8 X.wt X.hl X.cn with
                | false =>
                  have HOK := Lib.hid (HNO.out (hR.trans hV))
                  have KV := Lib.hid fun w' => rvalid_is hV w'
                  clear hV hR h7 h7b
                  go_wp2_with (first
                    | ((with_reducible refine wpList_load_blk (o := ⟨some 96, .load 26 (.tmp 7), _, _, _, none⟩) rfl _ _ rfl w1.heap.size 26 X.cells _ ?_ ?_ Try.underlying26 rfl (cpu_sz _) ?_); rfl; exact b7)
                    | (go_at_call 11; refine (KV.out _).mono ?_; rintro e w5 ⟨rfl, l5⟩; replace b2 := b2.keep l5; replace lw := Later.trans_ lw l5)
                    | ((with_reducible refine wpList_bld (o := ⟨some 104, .build 45 #[(2, .const (.int .i64 11))], _, _, _, none⟩) rfl _ #[(2, .const (.int .i64 11))] #[(2, .int .i64 11)] (gotC 0 zC 11).toArray rfl ?_ (run_e _) ?_); rfl) | ((with_reducible refine wpList_store_abs (o := ⟨none, .store 45 (.tmp 2) (.tmp 104), _, _, _, none⟩) rfl _ _ _ rfl w.heap.size 45 (gotC 0 zC 0) (gotC 0 zC 11) ?_ ?_ ?_ ?_ ?_ ?_ ?_); rfl; rfl; exact b2; exact got_sz _ _ _; rfl; exact got_one _ _ _; intro w9 b9 o9))
                  exact bodyPost_ret (got_ret Try.results28 _ _ w.heap.size 0 zC 11 rfl b9) rfl ⟨by rw [HOK.out.1, HOK.out.2], Below.only lw o9 (Nat.le_refl _)⟩
                | true =>
                  have HOK := Lib.hid (dcd_yes (HB.out.symm.trans (hR.trans hV)))
                  have KV := Lib.hid fun w' => rvalid_is hV w'
                  clear hV hR
                  go_wp2_with (first
                    | ((with_reducible refine wpList_load_blk (o := ⟨some 96, .load 26 (.tmp 7), _, _, _, none⟩) rfl _ _ rfl w1.heap.size 26 X.cells _ ?_ ?_ Try.underlying26 rfl (cpu_sz _) ?_); rfl; exact b7)
                    | (go_at_call 11; refine (KV.out _).mono ?_; rintro e w5 ⟨rfl, l5⟩; replace b2 := b2.keep l5; replace b7 := b7.keep l5; replace lw := Later.trans_ lw l5)
                    | ((with_reducible refine wpList_load_blk (o := ⟨some 105, .load 26 (.tmp 7), _, _, _, none⟩) rfl _ _ rfl w1.heap.size 26 X.cells _ ?_ ?_ Try.underlying26 rfl (cpu_sz _) ?_); rfl; exact b7)
                    | ((with_reducible refine wpList_bld (o := ⟨some 106, .build 45 #[(1, .tmp 105)], _, _, _, none⟩) rfl _ #[(1, .tmp 105)] #[(1, .agg X.cells.toArray)] (gotC 0 X 0).toArray rfl ?_ (run_c X _) ?_); rfl)
                    | ((with_reducible refine wpList_store_abs (o := ⟨none, .store 45 (.tmp 2) (.tmp 106), _, _, _, none⟩) rfl _ _ _ rfl w.heap.size 45 (gotC 0 zC 0) (gotC 0 X 0) ?_ ?_ ?_ ?_ ?_ ?_ ?_); rfl; rfl; exact b2; exact got_sz _ _ _; rfl; exact got_one _ _ _; intro w9 b9 o9))
                  exact bodyPost_ret (got_ret Try.results28 _ _ w.heap.size 0 X 0 rfl b9) rfl ⟨by rw [HOK.out.1, HOK.out.2, HX.out], Below.only lw o9 (Nat.le_refl _)⟩
              · have HOK := Lib.hid (HNO.out (hR.trans (by rw [decide_eq_false h7, Bool.and_false])))
                have h7b : decide (7 < f) = true := decide_eq_true (by omega)
                obtain ⟨X, hX⟩ : ∃ X, X = ({ Cpu.half l with cn := l.getD 27 0, u := Tm.has f 1, wt := Tm.has f 2, hl := Tm.has f 4 } : Cpu) := ⟨_, rfl⟩
                rw [← hX] at b7
                clear hX hR h7
                cases hV : okC X.r0 X.c5 X.c7 X.c8 X.wt X.hl X.cn with
                | false =>
                  have KV := Lib.hid fun w' => rvalid_is hV w'
                  clear hV h7b
                  go_wp2_with (first
                    | ((with_reducible refine wpList_load_blk (o := ⟨some 96, .load 26 (.tmp 7), _, _, _, none⟩) rfl _ _ rfl w1.heap.size 26 X.cells _ ?_ ?_ Try.underlying26 rfl (cpu_sz _) ?_); rfl; exact b7)
                    | (go_at_call 11; refine (KV.out _).mono ?_; rintro e w5 ⟨rfl, l5⟩; replace b2 := b2.keep l5; replace lw := Later.trans_ lw l5)
                    | ((with_reducible refine wpList_bld (o := ⟨some 104, .build 45 #[(2, .const (.int .i64 11))], _, _, _, none⟩) rfl _ #[(2, .const (.int .i64 11))] #[(2, .int .i64 11)] (gotC 0 zC 11).toArray rfl ?_ (run_e _) ?_); rfl) | ((with_reducible refine wpList_store_abs (o := ⟨none, .store 45 (.tmp 2) (.tmp 104), _, _, _, none⟩) rfl _ _ _ rfl w.heap.size 45 (gotC 0 zC 0) (gotC 0 zC 11) ?_ ?_ ?_ ?_ ?_ ?_ ?_); rfl; rfl; exact b2; exact got_sz _ _ _; rfl; exact got_one _ _ _; intro w9 b9 o9))
                  exact bodyPost_ret (got_ret Try.results28 _ _ w.heap.size 0 zC 11 rfl b9) rfl ⟨by rw [HOK.out.1, HOK.out.2], Below.only lw o9 (Nat.le_refl _)⟩
                | true =>
                  have KV := Lib.hid fun w' => rvalid_is hV w'
                  clear hV
                  go_wp2_with (first
                    | ((with_reducible refine wpList_load_blk (o := ⟨some 96, .load 26 (.tmp 7), _, _, _, none⟩) rfl _ _ rfl w1.heap.size 26 X.cells _ ?_ ?_ Try.underlying26 rfl (cpu_sz _) ?_); rfl; exact b7)
                    | (go_at_call 11; refine (KV.out _).mono ?_; rintro e w5 ⟨rfl, l5⟩; replace b2 := b2.keep l5; replace lw := Later.trans_ lw l5)
                    | ((with_reducible refine wpList_bld (o := ⟨some 104, .build 45 #[(2, .const (.int .i64 11))], _, _, _, none⟩) rfl _ #[(2, .const (.int .i64 11))] #[(2, .int .i64 11)] (gotC 0 zC 11).toArray rfl ?_ (run_e _) ?_); rfl) | ((with_reducible refine wpList_store_abs (o := ⟨none, .store 45 (.tmp 2) (.tmp 104), _, _, _, none⟩) rfl _ _ _ rfl w.heap.size 45 (gotC 0 zC 0) (gotC 0 zC 11) ?_ ?_ ?_ ?_ ?_ ?_ ?_); rfl; rfl; exact b2; exact got_sz _ _ _; rfl; exact got_one _ _ _; intro w9 b9 o9))
                  exact bodyPost_ret (got_ret Try.results28 _ _ w.heap.size 0 zC 11 rfl b9) rfl ⟨by rw [HOK.out.1, HOK.out.2], Below.only lw o9 (Nat.le_refl _)⟩
end Go.Proofs.Ytkknobonpejgbaa
