/-
  THE STATEMENT CoreTouchesWhatItSays: its walk.
-/
import Derived.Test.YtidhodalnikhlaaGreatDoorTouA
namespace Go.Proofs.YtidhodalnikhlaaGreatDoor
open Go.RowKit Go.ChangeShapes Go.WideShapes Go.ChangeAt

theorem wp_set1 {P : Program} {o : Oper} {a : Act} {w : World} {K : Act → World → Prop} {Q : Exit → Act → World → Prop} (ty : TypeId) (x y : Operand) (ho : o.op = .store ty x y) (hdn : o.dst = none)
    (g off : Nat) (t : TypeId) (cs : List Value) (v : Value) (hx : a.eval x = .pointer (some ⟨g, off, none⟩)) (hy : a.eval y = v) (hg : Blk w g t cs)
    (hi : (P.info? ty).map (·.size) = some 1) (hof : off < cs.length) (h1 : v.oneCell' = true)
    (h : ∀ w', Blk w' g t (cs.set off v) → Only g w w' → K a w') : o.wp P a w K Q := by
  have hc : v.cells = #[v] := by cases v <;> first | rfl | cases h1
  have h2 : (store ⟨g, off, none⟩ v).run P w = .ok () (w.setCell ⟨g, off, none⟩ v) := by
    rw [run_store P w _ v _ h1, hg.cell (List.getElem?_eq_getElem hof), hg.frz off]; rfl
  have hst : (storeVar ty ⟨g, off, none⟩ v).run P w = .ok () (w.setCell ⟨g, off, none⟩ v) := by
    cases hq : P.info? ty with
    | none => simp [hq] at hi
    | some i =>
      have hs : i.size = 1 := by simpa [hq] using hi
      simp [storeVar, sizeOf, typeInfo, hq, hc, hs, storeCells, Addr.add, h2]
  unfold Oper.wp execOp
  simp only [ho, hx, hy, Instr.storeAt, Instr.sureAddr, Sem.run_bind, Sem.run_pure, Result.andThen_ok, hst]
  show K (a.put o.dst undef) _
  rw [hdn]
  exact h _ (hg.set off v) (Only.set _ _ _ _)
theorem wpList_set1 {P : Program} {ops : Array Oper} {rest : List Oper} {o : Oper} {a : Act} {w : World} {Q : Exit → Act → World → Prop} (hgd : o.guard = none) (ty : TypeId) (x y : Operand) (ho : o.op = .store ty x y) (hdn : o.dst = none)
    (g off : Nat) (t : TypeId) (cs : List Value) (v : Value) (hx : a.eval x = .pointer (some ⟨g, off, none⟩)) (hy : a.eval y = v) (hg : Blk w g t cs)
    (hi : (P.info? ty).map (·.size) = some 1) (hof : off < cs.length) (h1 : v.oneCell' = true)
    (h : ∀ w', Blk w' g t (cs.set off v) → Only g w w' → wpList P ops Q rest a w') : wpList P ops Q (o :: rest) a w :=
  wpList_plain hgd fun _ hK => wp_set1 ty x y ho hdn g off t cs v hx hy hg hi hof h1 fun w' h2 h3 => hK _ _ (h w' h2 h3)
set_option maxRecDepth 100000 in
set_option maxHeartbeats 16000000 in
theorem tou_r (x : Cpu) (A O : Option Addr) (n c no co : Nat) (b ob : Wm.Bs) (p : Int) (w : World) (_hrv : x.Rv) (_hc0 : 0 ≤ x.c0 ∧ x.c0 ≤ 4294967295) (_hpcr : 0 ≤ x.pc ∧ x.pc ≤ 4294967295) (_hc5 : Tm.isE x.c5) (_hp : Tm.isE p) (_hs : Sl w 128 A n (U b)) (_hb : Wm.isBs b) (_ho : Sl w 1 O no (U ob)) (_hob : Wm.isBs ob) (tab : Tab w) (hS : ∀ w', Tab w' → Calls Tryz.prog 11 #[] w' fun e w'' => e = .returned (.bool true) ∧ Later w' w'') (hR : RightB x n = false) :
    Calls Tryz.prog 6 #[.agg x.cells.toArray, .agg #[.slice A n c], .int .u32 p, .slice O no co] w fun e w' => e = .returned (.bool true) ∧ Later w w' := by
  have KSN := Lib.hid fun w' (l : Later w w') => hS w' (tab.keep l)
  have KR := Lib.hid fun w' => cright_any x A n c w'
  have b4 := (Blk.new w 26 x.cells.toArray x.cells rfl).alloc (.cells #[.slice A n c] 29)
  have b5 := Blk.new' (w.alloc (.cells x.cells.toArray 26)) (w.heap.size + 1) 29 #[.slice A n c] [.slice A n c] (by simp) rfl
  have lw := (later1 w (.cells x.cells.toArray 26)).alloc (by simp) (.cells #[.slice A n c] 29)
  obtain ⟨u0, hu⟩ : ∃ u0, (w.alloc (.cells x.cells.toArray 26)).alloc (.cells #[.slice A n c] 29) = u0 := ⟨_, rfl⟩
  rw [hu] at b4 b5 lw
  rw [hR] at KR
  clear hS tab hR
  go_enter Tryz.func6, Tryz.ntmps6
  go_upto_region 1 with fail
  clear hu
  go_wp2_with (first
    | ((with_reducible refine wpList_load_blk (o := ⟨some 17, .load 26 (.tmp 4), _, _, _, none⟩) rfl _ _ rfl w.heap.size 26 x.cells _ ?_ ?_ Tryz.underlying26 rfl (cpu_sz _) ?_); rfl; exact b4)
    | ((with_reducible refine wpList_load_blk (o := ⟨some 18, .load 29 (.tmp 5), _, _, _, none⟩) rfl _ _ rfl (w.heap.size + 1) 29 [.slice A n c] _ ?_ ?_ Tryz.underlying29 rfl mem_sz ?_); rfl; exact b5)
    | (go_at_call 10; (with_reducible refine (KR.out _).mono ?_); rintro e w1 ⟨rfl, l1⟩; replace b4 := b4.keep l1; replace b5 := b5.keep l1; replace lw := Later.trans_ lw l1)
    | (go_at_call 11; refine (KSN.out _ lw).mono ?_; rintro e wS ⟨rfl, l1⟩; replace lw := Later.trans_ lw l1))
  go_ret
  exact ⟨rfl, lw⟩
set_option maxRecDepth 100000 in
set_option maxHeartbeats 16000000 in
theorem tou_l (x : Cpu) (A O : Option Addr) (n c no co : Nat) (b ob : Wm.Bs) (p : Int) (w : World) (_hrv : x.Rv) (_hc0 : 0 ≤ x.c0 ∧ x.c0 ≤ 4294967295) (_hpcr : 0 ≤ x.pc ∧ x.pc ≤ 4294967295) (_hc5 : Tm.isE x.c5) (_hp : Tm.isE p) (_hs : Sl w 128 A n (U b)) (_hb : Wm.isBs b) (_ho : Sl w 1 O no (U ob)) (_hob : Wm.isBs ob) (tab : Tab w) (hS : ∀ w', Tab w' → Calls Tryz.prog 11 #[] w' fun e w'' => e = .returned (.bool true) ∧ Later w' w'') (hR : RightB x n = true) (hl : 10000 < no) :
    Calls Tryz.prog 6 #[.agg x.cells.toArray, .agg #[.slice A n c], .int .u32 p, .slice O no co] w fun e w' => e = .returned (.bool true) ∧ Later w w' := by
  have KSN := Lib.hid fun w' (l : Later w w') => hS w' (tab.keep l)
  have KR := Lib.hid fun w' => cright_any x A n c w'
  have b4 := (Blk.new w 26 x.cells.toArray x.cells rfl).alloc (.cells #[.slice A n c] 29)
  have b5 := Blk.new' (w.alloc (.cells x.cells.toArray 26)) (w.heap.size + 1) 29 #[.slice A n c] [.slice A n c] (by simp) rfl
  have lw := (later1 w (.cells x.cells.toArray 26)).alloc (by simp) (.cells #[.slice A n c] 29)
  obtain ⟨u0, hu⟩ : ∃ u0, (w.alloc (.cells x.cells.toArray 26)).alloc (.cells #[.slice A n c] 29) = u0 := ⟨_, rfl⟩
  rw [hu] at b4 b5 lw
  rw [hR] at KR
  have d1 : decide ((10000 : Int) < (no : Int)) = true := decide_eq_true (by omega)
  clear hS tab hR hl
  go_enter Tryz.func6, Tryz.ntmps6
  go_upto_region 1 with fail
  clear hu
  go_wp2_with (first
    | ((with_reducible refine wpList_load_blk (o := ⟨some 17, .load 26 (.tmp 4), _, _, _, none⟩) rfl _ _ rfl w.heap.size 26 x.cells _ ?_ ?_ Tryz.underlying26 rfl (cpu_sz _) ?_); rfl; exact b4)
    | ((with_reducible refine wpList_load_blk (o := ⟨some 18, .load 29 (.tmp 5), _, _, _, none⟩) rfl _ _ rfl (w.heap.size + 1) 29 [.slice A n c] _ ?_ ?_ Tryz.underlying29 rfl mem_sz ?_); rfl; exact b5)
    | (go_at_call 10; (with_reducible refine (KR.out _).mono ?_); rintro e w1 ⟨rfl, l1⟩; replace b4 := b4.keep l1; replace b5 := b5.keep l1; replace lw := Later.trans_ lw l1)
    | (go_at_call 11; refine (KSN.out _ lw).mono ?_; rintro e wS ⟨rfl, l1⟩; replace lw := Later.trans_ lw l1))
  go_ret
  exact ⟨rfl, lw⟩
set_option maxRecDepth 100000 in
set_option maxHeartbeats 16000000 in
theorem tou_run (x : Cpu) (A O : Option Addr) (n c no co : Nat) (b ob : Wm.Bs) (p : Int) (w : World) (hrv : x.Rv) (hc0 : 0 ≤ x.c0 ∧ x.c0 ≤ 4294967295) (hpcr : 0 ≤ x.pc ∧ x.pc ≤ 4294967295) (hc5 : Tm.isE x.c5) (hp : Tm.isE p) (hs : Sl w 128 A n (U b)) (hb : Wm.isBs b) (ho : Sl w 1 O no (U ob)) (hob : Wm.isBs ob) (tab : Tab w) (hS : ∀ w', Tab w' → Calls Tryz.prog 11 #[] w' fun e w'' => e = .returned (.bool true) ∧ Later w' w'') (hR : RightB x n = true) (hl : ¬ 10000 < no) :
    Calls Tryz.prog 6 #[.agg x.cells.toArray, .agg #[.slice A n c], .int .u32 p, .slice O no co] w fun e w' => e = .returned (.bool true) ∧ Later w w' := by
  have KSN := Lib.hid fun w' (l : Later w w') => hS w' (tab.keep l)
  have KR := Lib.hid fun w' => cright_any x A n c w'
  have b4 := (Blk.new w 26 x.cells.toArray x.cells rfl).alloc (.cells #[.slice A n c] 29)
  have b5 := Blk.new' (w.alloc (.cells x.cells.toArray 26)) (w.heap.size + 1) 29 #[.slice A n c] [.slice A n c] (by simp) rfl
  have lw := (later1 w (.cells x.cells.toArray 26)).alloc (by simp) (.cells #[.slice A n c] 29)
  obtain ⟨u0, hu⟩ : ∃ u0, (w.alloc (.cells x.cells.toArray 26)).alloc (.cells #[.slice A n c] 29) = u0 := ⟨_, rfl⟩
  rw [hu] at b4 b5 lw
  have d1 : decide ((10000 : Int) < (no : Int)) = false := decide_eq_false (by omega)
  rw [hR] at KR
  unfold RightB at hR
  simp only [Bool.and_eq_true, decide_eq_true_eq] at hR
  have hk := Cm.of_okC hR.1
  have hcn : 0 ≤ x.cn ∧ x.cn < 1099511627776 := ⟨hk.2.2.2.2.1, hR.2.1⟩
  have hn1 : 1 ≤ n := hR.2.2.1
  have hn64 : n ≤ 64 := hR.2.2.2
  have hbl : b.length = n * 128 := by have := hs.1; rw [U_length] at this; exact this
  have KP := Lib.hid fun w' (l : Later w w') => kt_step x A n c b p w' (hs.keep l) hb hbl hn1 hn64 hrv hc0 hpcr hc5 hp hcn (tab.keep l)
  have KP2 := Lib.hid fun (g c' : Nat) (b' : Wm.Bs) (w' : World) (l : Later w w') (h1 : Sl w' 128 (some ⟨g, 0, none⟩) n (U b')) (h2 : Wm.isBs b') (h3 : b'.length = n * 128) => kt_step x (some ⟨g, 0, none⟩) n c' b' p w' h1 h2 h3 hn1 hn64 hrv hc0 hpcr hc5 hp hcn (tab.keep l)
  have HSL := Lib.hid fun w' (l : Later w w') => hs.keep l
  have HOL := Lib.hid fun w' (l : Later w w') => ho.keep l
  have HOB := Lib.hid hob
  have HNO := Lib.hid hl
  have HB := Lib.hid (And.intro hb (And.intro hn1 hn64))
  have HBL := Lib.hid hbl
  clear hS tab hs hb hbl hn1 hn64 hrv hc0 hpcr hc5 hp hk hcn hR ho hob hl
  go_enter Tryz.func6, Tryz.ntmps6
  go_upto_region 1 with fail
  clear hu
  go_upto_region 4 with (first
    | ((with_reducible refine wpList_load_blk (o := ⟨some 17, .load 26 (.tmp 4), _, _, _, none⟩) rfl _ _ rfl w.heap.size 26 x.cells _ ?_ ?_ Tryz.underlying26 rfl (cpu_sz _) ?_); rfl; exact b4)
    | ((with_reducible refine wpList_load_blk (o := ⟨some 18, .load 29 (.tmp 5), _, _, _, none⟩) rfl _ _ rfl (w.heap.size + 1) 29 [.slice A n c] _ ?_ ?_ Tryz.underlying29 rfl mem_sz ?_); rfl; exact b5)
    | (go_at_call 10; (with_reducible refine (KR.out _).mono ?_); rintro e w1 ⟨rfl, l1⟩; replace b4 := b4.keep l1; replace b5 := b5.keep l1; replace lw := Later.trans_ lw l1)
    | ((with_reducible refine wpList_load_blk (o := ⟨some 27, .load 26 (.tmp 4), _, _, _, none⟩) rfl _ _ rfl w.heap.size 26 x.cells _ ?_ ?_ Tryz.underlying26 rfl (cpu_sz _) ?_); rfl; exact b4)
    | ((with_reducible refine wpList_load_blk (o := ⟨some 28, .load 29 (.tmp 5), _, _, _, none⟩) rfl _ _ rfl (w.heap.size + 1) 29 [.slice A n c] _ ?_ ?_ Tryz.underlying29 rfl mem_sz ?_); rfl; exact b5)
    | (go_at_call 13; refine (KP.out _ lw).mono ?_; rintro e w2 ⟨s, AW, AA, cw, ca, ws, ac, rfl, ⟨g1, g2, g3, g4⟩, hres, hM, l1⟩; replace b4 := b4.keep l1; replace b5 := b5.keep l1; replace lw := Later.trans_ lw l1; have G1 := Lib.hid g1; have G2 := Lib.hid g2; have HRES := Lib.hid hres; have HM := Lib.hid hM; clear g1 g2 hres hM l1)
    | ((with_reducible refine wpList_store_abs (o := ⟨none, .store 38 (.tmp 9) (.tmp 30), _, _, _, none⟩) rfl _ _ _ rfl w2.heap.size 38 zS.eff s.eff ?_ ?_ ?_ ?_ ?_ ?_ ?_); rfl; rfl; exact (Blk.new _ _ _ _ rfl); exact eff_sz _; rfl; exact (eff_one _ (by rw [G1.out]; rfl) (by rw [G2.out]; rfl)); intro u3 b9 ob9; have l9 := Below.only (later1 w2 (.cells zS.eff.toArray 38)) ob9 (Nat.le_refl _); replace b4 := b4.keep l9; replace b5 := b5.keep l9; replace g3 := g3.keep l9; replace g4 := g4.keep l9; replace lw := Later.trans_ lw l9; clear ob9 l9))
  have e50 := b5.cell (j := 0) (v := .slice A n c) rfl
  have H4 := Lib.hid fun w' (l : Later u3 w') => b4.keep l
  have H5 := Lib.hid fun w' (l : Later u3 w') => b5.keep l
  have H9 := Lib.hid fun w' (l : Later u3 w') => b9.keep l
  have HG3 := Lib.hid fun w' (l : Later u3 w') => g3.keep l
  have HG4 := Lib.hid fun w' (l : Later u3 w') => g4.keep l
  have HLW := Lib.hid fun w' (l : Later u3 w') => Later.trans_ lw l
  have H4lt := Lib.hid b4.lt
  have H5lt := Lib.hid b5.lt
  have H9lt := Lib.hid b9.lt
  obtain ⟨SZ, hSZ⟩ : ∃ SZ, SZ = n * 128 := ⟨_, rfl⟩
  have hn64 := HB.out.2.2
  have hZ := Lib.hid hSZ
  have hS8 : SZ ≤ 8192 := by omega
  have aw : IntKind.i64.wrap ((n : Int) * 128) = (SZ : Int) := by rw [IntKind.wrap_i64]; omega
  clear hSZ hn64
  obtain ⟨i0, hi, hz0, hz1, hz2⟩ := info_parts bool_infoT
  have hmk := fun w' => run_makeSlice (P := Tryz.prog) w' 51 4 i0 _ Tryz.underlying51 hi hz0 .i64 .i64 (SZ : Int) (SZ : Int) (by omega) (by omega) (by rw [hz1]; omega) (by rw [hz2]; omega) (by omega)
  rw [Int.toNat_natCast, hz1, make_bools] at hmk
  clear hi hz0 hz1 hz2
  go_upto_region 6 with fail
  have bk := Blk.new u3 4 (KV (List.replicate SZ false)).toArray (KV (List.replicate SZ false)) rfl
  have l3 := later1 u3 (.cells (KV (List.replicate SZ false)).toArray 4)
  clear e50 aw hmk b4 b5 b9 g3 g4 lw
  go_wp2
  go_loopw [12] (fun i wr => ∃ (k : Nat) (kb : List Bool), k ≤ ac.length ∧ i = .int .i64 (k : Int) ∧ Hid (kb.length = SZ ∧ Cov (KS kb) (ac.take k)) ∧ Blk wr u3.heap.size 4 (KV kb) ∧ Later u3 wr) (fun i _ => ac.length - (intOf i).toNat)
  case atStart => exact ⟨0, _, Nat.zero_le _, rfl, ⟨List.length_replicate .., Cov.nil _⟩, bk, l3⟩
  case round =>
    clear bk l3
    rename World => wo
    obtain ⟨k, kb, hk, rfl, HK, bk, l3⟩ := hrel
    have e63 := (H9.out _ l3).cell (j := 63) (v := .slice AA ac.length ca) (congrArg some G2.out)
    by_cases hlt : k < ac.length
    · have hkn : (k : Int) < (ac.length : Int) := by omega
      have hk9 : (k : Int) < 9 := by have := HM.out.2.2; omega
      have hk0 : (0 : Int) ≤ k := by omega
      have g4 := HG4.out _ l3
      obtain ⟨ad, hAd⟩ := g4.addr (by omega)
      rw [hAd] at g4
      have hC := g4.acc hlt rfl
      have hth := HM.out.1 _ (List.getElem_mem hlt)
      rw [HBL.out] at hth
      obtain ⟨a, ha⟩ : ∃ a, a = ac[k].1 := ⟨_, rfl⟩
      obtain ⟨z, hz⟩ : ∃ z, z = ac[k].2.1 := ⟨_, rfl⟩
      obtain ⟨tt, htt⟩ : ∃ z, z = ac[k].2.2 := ⟨_, rfl⟩
      have HCS := Lib.hid (fun (S : Nat → Prop) (h : Cov S (ac.take k)) (h2 : CovA S a z) => (show Cov S (ac.take (k + 1)) from Cov.snoc hlt h (by rw [← ha, ← hz]; exact h2)))
      rw [← ha, ← hz, ← htt] at hC
      rw [← ha, ← hz] at hth
      obtain ⟨an, han⟩ : ∃ an : Nat, a = an := ⟨a.toNat, by have := hth.2.1; omega⟩
      obtain ⟨zn, hzn⟩ : ∃ zn : Nat, z = zn := ⟨z.toNat, by have := hth.1; omega⟩
      have hzz : 1 ≤ zn ∧ zn ≤ 4 := by have := hth.1; omega
      have haz : an + zn ≤ SZ := by have := hth.2.2; have := hZ.out; omega
      have da : decide (a < 0) = false := decide_eq_false (by omega)
      have db : decide (z < 1) = false := decide_eq_false (by omega)
      have dc : decide (4 < z) = false := decide_eq_false (by omega)
      have wz : IntKind.i64.wrap (a + z) = a + z := by rw [IntKind.wrap_i64]; omega
      have dd : decide ((SZ : Int) < a + z) = false := decide_eq_false (by omega)
      have HC := Lib.hid hC
      have HAZ := Lib.hid (And.intro han (And.intro hzn (And.intro hzz haz)))
      clear g4 hC hth ha hz htt han hzn hzz haz
      subst hAd
      go_upto_region 10 with (first
        | ((with_reducible refine wpList_load_addr (o := ⟨some 48, .load 53 (.tmp 47), _, _, _, none⟩) rfl _ _ rfl (ad.add (k * 3)) [.int .i64 a, .int .i64 z, .bool tt] _ ?_ HC.out Tryz.underlying53 rfl (ac_sz _ _ _) ?_); rfl))
      have hBK := bk.lt
      have b13 := Blk.new wo 53 #[.int .i64 a, .int .i64 z, .bool tt] [.int .i64 a, .int .i64 z, .bool tt] rfl
      obtain ⟨u8, hu8⟩ : ∃ u8, u8 = wo.alloc (.cells #[.int .i64 a, .int .i64 z, .bool tt] 53) := ⟨_, rfl⟩
      refine wp_eq_world (u := u8) hu8 ?_
      have l9 := later1 wo (.cells #[.int .i64 a, .int .i64 z, .bool tt] 53)
      rw [← hu8] at l9 b13
      replace bk := bk.keep l9
      replace l3 := Later.trans_ l3 l9
      clear hu8 l9 e63
      have c0 := b13.cell (j := 0) (v := .int .i64 a) rfl
      have c1 := b13.cell (j := 1) (v := .int .i64 z) rfl
      go_upto_region 12 with fail
      clear c0 c1 da db dc wz dd
      go_wp2
      have HBK := Lib.hid (Nat.ne_of_gt hBK)
      clear hBK
      go_loopw [14] (fun q wr => ∃ (j : Nat) (kb2 : List Bool), (j : Int) ≤ z ∧ q = .int .i64 (j : Int) ∧ Hid (kb2.length = SZ ∧ Cov (KS kb2) (ac.take k) ∧ CovA (KS kb2) a j) ∧ Blk wr u3.heap.size 4 (KV kb2) ∧ Blk wr wo.heap.size 53 [.int .i64 a, .int .i64 z, .bool tt] ∧ Later u3 wr) (fun q _ => z.toNat - (intOf q).toNat)
      case atStart => exact ⟨0, kb, by have := HAZ.out; omega, rfl, ⟨HK.out.1, HK.out.2, CovA.none _⟩, bk, b13, l3⟩
      case round =>
        clear bk b13 l3
        obtain ⟨j, kb2, hj, rfl, HJ, bk, b13, l3⟩ := hrel
        have c0 := b13.cell (j := 0) (v := .int .i64 a) rfl
        have c1 := b13.cell (j := 1) (v := .int .i64 z) rfl
        have hazo := HAZ.out
        by_cases hjz : (j : Int) < z
        · have hj0 : (0 : Int) ≤ j := by omega
          obtain ⟨qn, hqn⟩ : ∃ qn : Nat, qn = an + j := ⟨_, rfl⟩
          have wq : IntKind.i64.wrap (a + (j : Int)) = (qn : Int) := by rw [IntKind.wrap_i64]; omega
          have hq0 : (0 : Int) ≤ (qn : Int) := by omega
          have hqS : (qn : Int) < (SZ : Int) := by omega
          have HQ := Lib.hid (show qn < (KV kb2).length by rw [KV_len, HJ.out.1]; omega)
          have HQ2 := Lib.hid (show qn < kb2.length ∧ (qn : Int) = a + (j : Int) by rw [HJ.out.1]; omega)
          have hj5 : (j : Int) < 5 := by omega
          clear hqn hazo
          go_wp2_with (first
            | ((with_reducible refine wpList_set1 (o := ⟨none, .store 4 (.tmp 82) (.const (.bool true)), _, _, _, none⟩) rfl _ _ _ rfl rfl u3.heap.size qn 4 (KV kb2) (.bool true) ?_ ?_ ?_ ?_ ?_ ?_ ?_); rfl; rfl; exact bk; exact boolT_sz; exact HQ.out; rfl; intro u9 bq oq; clear bk; have bk := bq; rw [KV_set] at bk; clear bq; replace b13 := b13.only oq HBK.out; replace l3 := Below.only l3 oq (Nat.le_refl _); clear oq))
          have HN := Lib.hid (show (kb2.set qn true).length = SZ ∧ Cov (KS (kb2.set qn true)) (ac.take k) ∧ CovA (KS (kb2.set qn true)) a ((j + 1 : Nat) : Int) from ⟨by rw [List.length_set]; exact HJ.out.1, HJ.out.2.1.set qn, HJ.out.2.2.next HQ2.out.2 HQ2.out.1⟩)
          go_roundw
          case rel => exact ⟨j + 1, kb2.set qn true, by omega, by go_num, HN.out, bk, b13, l3⟩
          case measure => simp [intOf]; omega
        · have hjz2 : z = (j : Int) := by omega
          have HN := Lib.hid (show kb2.length = SZ ∧ Cov (KS kb2) (ac.take (k + 1)) from ⟨HJ.out.1, HCS.out _ HJ.out.2.1 (by rw [hjz2]; exact HJ.out.2.2)⟩)
          have hjz3 : ¬ (j : Int) < z := hjz
          clear hjz2 hazo
          go_wp2
          go_roundw
          case rel => exact ⟨k + 1, kb2, by omega, by go_num, HN.out, bk, l3⟩
          case measure => simp [intOf]; omega
    · obtain rfl : k = ac.length := by omega
      have HCV := Lib.hid (show kb.length = SZ ∧ Cov (KS kb) ac from ⟨HK.out.1, by have := HK.out.2; rwa [List.take_length] at this⟩)
      clear hlt hk HK
      have HKB := Lib.hid fun w' (l : Later wo w') => bk.keep l
      have HGK := Lib.hid bk.lt
      obtain ⟨i1, hi, hz0, hz1, hz2⟩ := info_parts page_info
      have e50 := (H5.out _ l3).cell (j := 0) (v := .slice A n c) rfl
      have e50b := (H5.out _ (l3.alloc l3.size (.cells #[] 55))).cell (j := 0) (v := .slice A n c) rfl
      have h5lt : w.heap.size + 1 ≠ wo.heap.size := Nat.ne_of_lt (Nat.lt_of_lt_of_le H5lt.out l3.size)
      have HSA := Lib.hid (HSL.out _ ((HLW.out _ l3).alloc (HLW.out _ l3).size (.cells #[] 55)))
      have hn1 := HB.out.2.1
      have hn64 := HB.out.2.2
      go_upto_region 17 with (first
        | ((with_reducible refine wpList_app_own rfl (.tmp 83) (.tmp 85) 27 rfl 55 i1 _ 128 128 Tryz.underlying27 hi hz0 hz1 hz2 ?_ ?_ ⟨wo.heap.size, 0, none⟩ ?_ A n c (U b) ?_ ?_ ?_ ?_ ?_ ?_); rfl; decide; rfl; rfl; omega; exact HSA.out; (unfold maxLen; omega); omega; intro g c' w5 k1 k2 k3 k4 k5))
      obtain ⟨rest, bg⟩ : ∃ rest, Blk w5 g 55 (U b ++ rest) := by
        obtain ⟨cur, q1, q2⟩ := k4
        refine ⟨cur.toList.drop (n * 128), ?_⟩
        rw [← q2, List.take_append_drop]
        exact q1
      have lo := later1 wo (.cells #[] 55)
      have hgo : wo.heap.size < g := by have := k3; simp only [World.alloc] at this; simp at this; omega
      have l4 := Later.trans_ lo k5
      have b15 := Blk.new w5 29 #[.slice (some ⟨g, 0, none⟩) n c'] [.slice (some ⟨g, 0, none⟩) n c'] rfl
      have hg15 : g ≠ w5.heap.size := Nat.ne_of_lt bg.lt
      obtain ⟨u7, hu7⟩ : ∃ u7, u7 = w5.alloc (.cells #[.slice (some ⟨g, 0, none⟩) n c'] 29) := ⟨_, rfl⟩
      refine wp_eq_world (u := u7) hu7 ?_
      have l9 := later1 w5 (.cells #[.slice (some ⟨g, 0, none⟩) n c'] 29)
      rw [← hu7] at l9 b15
      replace bg := bg.keep l9
      replace l4 := Later.trans_ l4 l9
      have HGO := Lib.hid hgo
      have H15 := Lib.hid hg15
      clear hu7 l9 lo k1 k2 k3 k4 k5 hi hz0 hz1 hz2 e50 e50b h5lt HSA hn1 hn64 e63 hgo hg15 bk
      have HU := Lib.hid fun w' (l : Later wo w') => Later.trans_ l3 l
      go_wp2
      go_loopw [16] (fun i wr => ∃ (k : Nat) (b' : Wm.Bs), k ≤ SZ ∧ i = .int .i64 (k : Int) ∧ Hid (AgrS (KS kb) b b' ∧ Wm.isBs b') ∧ Blk wr g 55 (U b' ++ rest) ∧ Blk wr w5.heap.size 29 [.slice (some ⟨g, 0, none⟩) n c'] ∧ Later wo wr) (fun i _ => SZ - (intOf i).toNat)
      case atStart => exact ⟨0, b, Nat.zero_le _, rfl, ⟨AgrS.refl _ _, HB.out.1⟩, bg, b15, l4⟩
      case round =>
        clear bg b15 l4
        obtain ⟨k, b', hk, rfl, HA, bg, b15, l4⟩ := hrel
        by_cases hgo : k < SZ ∧ 0 < no
        · obtain ⟨hlt, hno⟩ := hgo
          have hkS : (k : Int) < (SZ : Int) := by omega
          have hk0 : (0 : Int) ≤ k := by omega
          have hk8 : (k : Int) < 8192 := by omega
          have hno0 : (0 : Int) < (no : Int) := by omega
          have hkl : k < kb.length := by rw [HCV.out.1]; exact hlt
          have ek := (HKB.out _ l4).cell (KV_at hkl)
          cases hb9 : kb[k] with
          | true =>
            rw [hb9] at ek
            clear hb9
            go_wp2
            go_roundw
            case rel => exact ⟨k + 1, b', by omega, by go_num, HA.out, bg, b15, l4⟩
            case measure => simp [intOf]; omega
          | false =>
            rw [hb9] at ek
            have HNK := Lib.hid (show ¬ KS kb k by unfold KS; rw [List.getElem?_eq_getElem hkl, hb9]; simp)
            clear hb9 hkl
            obtain ⟨q1, hq1⟩ : ∃ q, q = k / 128 := ⟨_, rfl⟩
            obtain ⟨r1, hr1⟩ : ∃ q, q = k % 128 := ⟨_, rfl⟩
            obtain ⟨r2, hr2⟩ : ∃ q, q = k % no := ⟨_, rfl⟩
            have hr2n : r2 < no := by rw [hr2]; exact Nat.mod_lt _ hno
            have tq : (k : Int).tdiv 128 = (q1 : Int) := by rw [Int.tdiv_eq_ediv_of_nonneg hk0]; omega
            have tr : (k : Int).tmod 128 = (r1 : Int) := by rw [Int.tmod_eq_emod_of_nonneg hk0]; omega
            have tn : (k : Int).tmod (no : Int) = (r2 : Int) := by rw [Int.tmod_eq_emod_of_nonneg hk0, hr2]; exact (Int.natCast_emod k no).symm
            have aq : IntKind.i64.wrap (q1 : Int) = (q1 : Int) := by rw [IntKind.wrap_i64]; omega
            have hZZ := hZ.out
            have hno9 : no ≤ 10000 := Nat.le_of_not_lt HNO.out
            have z1 : (0 : Int) ≤ (q1 : Int) := by omega
            have z2 : (q1 : Int) < (n : Int) := by omega
            have z3 : (0 : Int) ≤ (r1 : Int) := by omega
            have z4 : (r1 : Int) < 128 := by omega
            have z5 : (0 : Int) ≤ (r2 : Int) := by omega
            have z6 : (r2 : Int) < (no : Int) := by omega
            have zn0 : ((no : Int) == 0) = false := beq_false_of_ne (by omega)
            have zn1 : ¬ (no : Int) = 0 := by omega
            have zn2 : ¬ no = 0 := by omega
            have hnn : (no : Int) ≤ 10000 := by omega
            have hkq : q1 * 128 + r1 = k := by omega
            have HKQ := Lib.hid hkq
            obtain ⟨ado, hado⟩ := (HOL.out _ (HLW.out _ (HU.out _ l4))).addr (by omega)
            have HBY := Lib.hid fun w' (l : Later wo w') => (show w'.cell? (ado.add r2) = some (.int .u8 (ob.getD r2 0)) from by
              have h1 := HOL.out _ (HLW.out _ (HU.out _ l))
              rw [hado] at h1
              obtain ⟨ad2, e2, _, h3⟩ := h1.2 hno
              cases e2
              refine h3 r2 _ ?_
              have hol : r2 < ob.length := by have := h1.1; rw [U_length] at this; omega
              unfold U
              rw [List.getElem?_map, List.getD_eq_getElem?_getD, List.getElem?_eq_getElem hol]
              rfl)
            have HBV := Lib.hid (show 0 ≤ ob.getD r2 0 ∧ ob.getD r2 0 < 256 from by
              have hol : r2 < ob.length := by have := (HOL.out _ (HLW.out _ (HU.out _ l4))).1; rw [U_length] at this; omega
              rw [List.getD_eq_getElem?_getD, List.getElem?_eq_getElem hol]
              exact HOB.out _ (List.getElem_mem hol))
            obtain ⟨y, hy⟩ : ∃ y, y = ob.getD r2 0 := ⟨_, rfl⟩
            rw [← hy] at HBY HBV
            have HBL2 := Lib.hid (show k < b'.length by rw [← HA.out.1.1, HBL.out]; omega)
            clear hq1 hr1 hr2 hy hr2n hkq hZZ hno9
            subst hado
            go_upto_region 21 with fail
            clear ek
            replace bg := bg.drew
            replace b15 := b15.drew
            replace l4 := l4.drew
            refine wp_region_held_drew (S := fun w' => w'.cell? ⟨w5.heap.size, 0, none⟩ = some (.slice (some ⟨g, 0, none⟩) n c') ∧ w'.cell? (ado.add r2) = some (.int .u8 y)) (by kernel_rfl) ⟨b15.cell (j := 0) (v := .slice (some ⟨g, 0, none⟩) n c') rfl, HBY.out _ l4⟩ (fun hHeld => ?_)
            refine wpAnyH_take (i := 0) (oi := ⟨some 103, .fieldAddr 29 (.tmp 15) 0, _, _, _, none⟩) (v := .pointer (some ⟨w5.heap.size, 0, none⟩)) rfl (by kernel_rfl) (by kernel_rfl) (by kernel_rfl) (fun _ _ _ h => h) (Or.inl ⟨by rfl, fun w _ => by go_simp⟩) hHeld ?_
            simp only [Act.put, List.setIfInBounds_toArray, List.set_cons_zero, List.set_cons_succ]
            refine wpAnyH_take (i := 1) (oi := ⟨some 104, .load 27 (.tmp 103), _, _, _, none⟩) (v := (.slice (some ⟨g, 0, none⟩) n c')) rfl (by kernel_rfl) (by kernel_rfl) (by kernel_rfl) (fun _ _ _ h => h) (Or.inl ⟨by rfl, fun w hSw => by have e1 := hSw.1; clear hSw; go_simp⟩) hHeld ?_
            simp only [Act.put, List.setIfInBounds_toArray, List.set_cons_zero, List.set_cons_succ]
            refine wpAnyH_take (i := 2) (oi := ⟨some 105, .move (.tmp 16), _, _, _, none⟩) (v := .int .i64 (k : Int)) rfl (by kernel_rfl) (by kernel_rfl) (by kernel_rfl) (fun _ _ _ h => h) (Or.inl ⟨by rfl, fun _ _ => rfl⟩) hHeld ?_
            simp only [Act.put, List.setIfInBounds_toArray, List.set_cons_zero, List.set_cons_succ]
            refine wpAnyH_take (i := 3) (oi := ⟨some 106, .binOp .quo 3 (.tmp 105) (.const (.int .i64 128)) 3, _, _, _, none⟩) (v := .int .i64 (q1 : Int)) rfl (by kernel_rfl) (by kernel_rfl) (by kernel_rfl) (fun _ _ _ h => h) (Or.inl ⟨by rfl, fun w _ => by go_simp⟩) hHeld ?_
            simp only [Act.put, List.setIfInBounds_toArray, List.set_cons_zero, List.set_cons_succ]
            refine wpAnyH_take (i := 4) (oi := ⟨some 107, .move (.tmp 16), _, _, _, none⟩) (v := .int .i64 (k : Int)) rfl (by kernel_rfl) (by kernel_rfl) (by kernel_rfl) (fun _ _ _ h => h) (Or.inl ⟨by rfl, fun _ _ => rfl⟩) hHeld ?_
            simp only [Act.put, List.setIfInBounds_toArray, List.set_cons_zero, List.set_cons_succ]
            refine wpAnyH_take (i := 5) (oi := ⟨some 108, .binOp .rem 3 (.tmp 107) (.const (.int .i64 128)) 3, _, _, _, none⟩) (v := .int .i64 (r1 : Int)) rfl (by kernel_rfl) (by kernel_rfl) (by kernel_rfl) (fun _ _ _ h => h) (Or.inl ⟨by rfl, fun w _ => by go_simp⟩) hHeld ?_
            simp only [Act.put, List.setIfInBounds_toArray, List.set_cons_zero, List.set_cons_succ]
            refine wpAnyH_take (i := 6) (oi := ⟨some 109, .move (.tmp 3), _, _, _, none⟩) (v := .slice (some ado) no co) rfl (by kernel_rfl) (by kernel_rfl) (by kernel_rfl) (fun _ _ _ h => h) (Or.inl ⟨by rfl, fun _ _ => rfl⟩) hHeld ?_
            simp only [Act.put, List.setIfInBounds_toArray, List.set_cons_zero, List.set_cons_succ]
            refine wpAnyH_take (i := 7) (oi := ⟨some 110, .move (.tmp 16), _, _, _, none⟩) (v := .int .i64 (k : Int)) rfl (by kernel_rfl) (by kernel_rfl) (by kernel_rfl) (fun _ _ _ h => h) (Or.inl ⟨by rfl, fun _ _ => rfl⟩) hHeld ?_
            simp only [Act.put, List.setIfInBounds_toArray, List.set_cons_zero, List.set_cons_succ]
            refine wpAnyH_take (i := 8) (oi := ⟨some 111, .move (.tmp 3), _, _, _, none⟩) (v := .slice (some ado) no co) rfl (by kernel_rfl) (by kernel_rfl) (by kernel_rfl) (fun _ _ _ h => h) (Or.inl ⟨by rfl, fun _ _ => rfl⟩) hHeld ?_
            simp only [Act.put, List.setIfInBounds_toArray, List.set_cons_zero, List.set_cons_succ]
            refine wpAnyH_take (i := 9) (oi := ⟨some 112, .call { callee := .builtin .len, args := #[.tmp 111], argTypes := #[50] }, _, _, _, none⟩) (v := .int .i64 (no : Int)) rfl (by kernel_rfl) (by kernel_rfl) (by kernel_rfl) (fun _ _ _ h => h) (Or.inl ⟨by rfl, fun w _ => by go_simp⟩) hHeld ?_
            simp only [Act.put, List.setIfInBounds_toArray, List.set_cons_zero, List.set_cons_succ]
            refine wpAnyH_take (i := 10) (oi := ⟨some 113, .binOp .rem 3 (.tmp 110) (.tmp 112) 3, _, _, _, none⟩) (v := .int .i64 (r2 : Int)) rfl (by kernel_rfl) (by kernel_rfl) (by kernel_rfl) (fun _ _ _ h => h) (Or.inl ⟨by rfl, fun w _ => by go_simp⟩) hHeld ?_
            simp only [Act.put, List.setIfInBounds_toArray, List.set_cons_zero, List.set_cons_succ]
            refine wpAnyH_take (i := 11) (oi := ⟨some 114, .indexAddr 50 (.tmp 109) (.tmp 113), _, _, _, none⟩) (v := .pointer (some (ado.add r2))) rfl (by kernel_rfl) (by kernel_rfl) (by kernel_rfl) (fun _ _ _ h => h) (Or.inl ⟨by rfl, fun w _ => by go_simp⟩) hHeld ?_
            simp only [Act.put, List.setIfInBounds_toArray, List.set_cons_zero, List.set_cons_succ]
            refine wpAnyH_take (i := 12) (oi := ⟨some 115, .load 5 (.tmp 114), _, _, _, none⟩) (v := .int .u8 y) rfl (by kernel_rfl) (by kernel_rfl) (by kernel_rfl) (fun _ _ _ h => h) (Or.inl ⟨by rfl, fun w hSw => by have e1 := hSw.2; clear hSw; go_simp⟩) hHeld ?_
            simp only [Act.put, List.setIfInBounds_toArray, List.set_cons_zero, List.set_cons_succ]
            refine wpAnyH_take (i := 13) (oi := ⟨some 116, .indexAddr 27 (.tmp 104) (.tmp 106), _, _, _, none⟩) (v := .pointer (some ⟨g, q1 * 128, none⟩)) rfl (by kernel_rfl) (by kernel_rfl) (by kernel_rfl) (fun _ _ _ h => h) (Or.inl ⟨by rfl, fun w _ => by go_simp⟩) hHeld ?_
            simp only [Act.put, List.setIfInBounds_toArray, List.set_cons_zero, List.set_cons_succ]
            refine wpAnyH_take (i := 14) (oi := ⟨some 117, .indexAddr 55 (.tmp 116) (.tmp 108), _, _, _, none⟩) (v := .pointer (some ⟨g, q1 * 128 + r1, none⟩)) rfl (by kernel_rfl) (by kernel_rfl) (by kernel_rfl) (fun _ _ _ h => h) (Or.inl ⟨by rfl, fun w _ => by go_simp⟩) hHeld ?_
            simp only [Act.put, List.setIfInBounds_toArray, List.set_cons_zero, List.set_cons_succ]
            refine wpAnyH_ready (rs := [15]) (by kernel_rfl) (by simp) (AllReadyH.cons (o := ⟨none, .store 5 (.tmp 117) (.tmp 115), _, _, _, none⟩) rfl (fun K' hK => ?_) (AllReadyH.nil))
            refine wp_set1 5 _ _ rfl rfl g k 55 (U b' ++ rest) (.int .u8 y) (by rw [← HKQ.out]; rfl) rfl bg u8T_sz (by rw [List.length_append, U_length]; have := HBL2.out; omega) rfl ?_
            intro wq bq oq
            clear bg
            have bg := bq
            rw [set_row _ _ _ _ HBL2.out] at bg
            clear bq
            replace b15 := b15.only oq (Ne.symm H15.out)
            replace l4 := Below.only l4 oq (Nat.le_of_lt HGO.out)
            clear oq
            refine hK.out _ _ ⟨b15.cell (j := 0) (v := .slice (some ⟨g, 0, none⟩) n c') rfl, HBY.out _ l4⟩ (fun hHeld => ?_)
            clear hK K'
            try simp only [Act.put]
            refine wpAnyH_done (by kernel_rfl) ?_ _
            clear hHeld
            have HN := Lib.hid (show AgrS (KS kb) b (b'.set k y) ∧ Wm.isBs (b'.set k y) from ⟨agr_set HA.out.1 y HNK.out, bs_set HA.out.2 k HBV.out⟩)
            go_wp2
            go_roundw
            case rel => exact ⟨k + 1, b'.set k y, by omega, by go_num, HN.out, bg, b15, l4⟩
            case measure => simp [intOf]; omega
        · have hnot : ¬ ((k : Int) < (SZ : Int)) ∨ ¬ ((0 : Int) < (no : Int)) := by omega
          have hbl2 : b'.length = n * 128 := by rw [← HA.out.1.1]; exact HBL.out
          have HBL3 := Lib.hid hbl2
          clear hgo hk hbl2
          by_cases hkS : (k : Int) < (SZ : Int)
          · have hno0 : ¬ (0 : Int) < (no : Int) := by omega
            clear hnot
            go_upto_region 22 with fail
            replace bg := bg.drew
            replace b15 := b15.drew
            replace l4 := l4.drew
            refine wp_region_held_drew (S := fun w' => World.rangeAt w' w.heap.size 0 x.cells ∧ World.rangeAt w' w5.heap.size 0 [.slice (some ⟨g, 0, none⟩) n c'] ∧ World.rangeAt w' w2.heap.size 0 s.eff) (by kernel_rfl) ⟨(H4.out _ (HU.out _ l4)).range 0 30, b15.range 0 1, (H9.out _ (HU.out _ l4)).range 0 71⟩ (fun hHeld => ?_)
            refine wpAnyH_ready (rs := [0]) (by kernel_rfl) (by simp) (AllReadyH.cons (o := ⟨some 118, .call { callee := .value (.func 11), args := #[], argTypes := #[] }, _, _, _, none⟩) rfl (fun K' hK => ?_) (AllReadyH.nil))
            go_simp
            (with_reducible refine (KSN.out _ (HLW.out _ (HU.out _ l4))).mono ?_)
            rintro e w6 ⟨rfl, l1⟩
            replace b15 := b15.keep l1
            replace bg := bg.keep l1
            replace l4 := Later.trans_ l4 l1
            refine hK.out _ _ ⟨(H4.out _ (HU.out _ l4)).range 0 30, b15.range 0 1, (H9.out _ (HU.out _ l4)).range 0 71⟩ (fun hHeld => ?_)
            clear hK K'
            try simp only [Act.put, List.setIfInBounds_toArray, List.set_cons_zero, List.set_cons_succ]
            refine wpAnyH_take (i := 1) (oi := ⟨some 119, .move (.tmp 118), _, _, _, none⟩) (v := .bool true) rfl (by kernel_rfl) (by kernel_rfl) (by kernel_rfl) (fun _ _ _ h => h) (Or.inl ⟨by rfl, fun _ _ => rfl⟩) hHeld ?_
            simp only [Act.put, List.setIfInBounds_toArray, List.set_cons_zero, List.set_cons_succ]
            refine wpAnyH_take (i := 2) (oi := ⟨some 120, .load 26 (.tmp 4), _, _, _, _⟩) (v := .agg (x.cells).toArray) rfl (by kernel_rfl) (by kernel_rfl) (by kernel_rfl) (fun _ _ _ h => h) (yieldsIf_load_mid (by rfl) _ _ rfl _ _ rfl (x.cells) _ (fun w h => h.1) Tryz.underlying26 rfl (cpu_sz _)) hHeld ?_
            simp only [Act.put, List.setIfInBounds_toArray, List.set_cons_zero, List.set_cons_succ]
            refine wpAnyH_take (i := 3) (oi := ⟨some 121, .load 29 (.tmp 15), _, _, _, _⟩) (v := .agg ([.slice (some ⟨g, 0, none⟩) n c']).toArray) rfl (by kernel_rfl) (by kernel_rfl) (by kernel_rfl) (fun _ _ _ h => h) (yieldsIf_load_mid (by rfl) _ _ rfl _ _ rfl ([.slice (some ⟨g, 0, none⟩) n c']) _ (fun w h => h.2.1) Tryz.underlying29 rfl mem_sz) hHeld ?_
            simp only [Act.put, List.setIfInBounds_toArray, List.set_cons_zero, List.set_cons_succ]
            refine wpAnyH_take (i := 4) (oi := ⟨some 122, .move (.tmp 2), _, _, _, _⟩) (v := .int .u32 p) rfl (by kernel_rfl) (by kernel_rfl) (by kernel_rfl) (fun _ _ _ h => h) (Or.inl ⟨by rfl, fun _ _ => rfl⟩) hHeld ?_
            simp only [Act.put, List.setIfInBounds_toArray, List.set_cons_zero, List.set_cons_succ]
            refine wpAnyH_take (i := 6) (oi := ⟨some 124, .load 38 (.tmp 9), _, _, _, _⟩) (v := .agg (s.eff).toArray) rfl (by kernel_rfl) (by kernel_rfl) (by kernel_rfl) (fun _ _ _ h => h) (yieldsIf_load_mid (by rfl) _ _ rfl _ _ rfl (s.eff) _ (fun w h => h.2.2) Tryz.underlying38 rfl (eff_sz _)) hHeld ?_
            simp only [Act.put, List.setIfInBounds_toArray, List.set_cons_zero, List.set_cons_succ]
            refine wpAnyH_ready (rs := [5]) (by kernel_rfl) (by simp) (AllReadyH.cons (o := ⟨some 123, .call { callee := .value (.func 13), args := #[.tmp 120, .tmp 121, .tmp 122], argTypes := #[26, 29, 22] }, _, _, _, _⟩) rfl (fun K' hK => ?_) (AllReadyH.nil))
            go_simp
            refine (KP2.out g c' b' _ (HLW.out _ (HU.out _ l4)) (Sl.row bg HBL3.out) HA.out.2 HBL3.out).mono ?_
            rintro e w7 ⟨s2, AW2, AA2, cw2, ca2, ws2, ac2, rfl, ⟨y1, y2, y3, y4⟩, hres2, hM2, l1⟩
            replace b15 := b15.keep l1
            replace l4 := Later.trans_ l4 l1
            have KM : ∀ w', Later w7 w' → Calls Tryz.prog 12 #[.agg s2.eff.toArray, .agg s.eff.toArray] w' fun e w'' => e = .returned (.bool true) ∧ Later w' w'' := by
              have hcv := HCV.out.2
              have hT := HRES.out
              have hac : (stepR x n b p).2.2.ac = ac := by rw [← hT]; rfl
              have hdep := stepR_dep x n p HA.out.1 (by rw [hac]; exact hcv)
              rw [hdep, ← hT] at hres2
              obtain ⟨e1, e2, e3⟩ := res_same hres2
              subst e1
              subst e2
              intro w' l
              have l7 := HU.out _ (Later.trans_ l4 l)
              rw [e3, y1, y2]
              exact same_T s _ AW AA AW2 AA2 cw ca cw2 ca2 ws2.length ac2.length ws2 ac2 w' rfl rfl (by have := hM2.2.1; omega) (by have := hM2.2.2; omega) G1.out G2.out rfl (HG3.out _ l7) (HG4.out _ l7) (y3.keep l) (y4.keep l)
            replace KM := Lib.hid KM
            have l7 := later0 w7
            clear y1 y2 y3 y4 hres2 hM2 l1
            refine hK.out _ _ ⟨(H4.out _ (HU.out _ l4)).range 0 30, b15.range 0 1, (H9.out _ (HU.out _ l4)).range 0 71⟩ (fun hHeld => ?_)
            clear hK K'
            try simp only [Act.put, List.setIfInBounds_toArray, List.set_cons_zero, List.set_cons_succ]
            refine wpAnyH_ready (rs := [7]) (by kernel_rfl) (by simp) (AllReadyH.cons (o := ⟨some 125, .call { callee := .value (.func 12), args := #[.tmp 123, .tmp 124], argTypes := #[38, 38] }, _, _, _, _⟩) rfl (fun K' hK => ?_) (AllReadyH.nil))
            go_simp
            (with_reducible refine (KM.out _ l7).mono ?_)
            rintro e w8 ⟨rfl, l1⟩
            replace b15 := b15.keep l1
            replace l4 := Later.trans_ l4 l1
            refine hK.out _ _ ⟨(H4.out _ (HU.out _ l4)).range 0 30, b15.range 0 1, (H9.out _ (HU.out _ l4)).range 0 71⟩ (fun hHeld => ?_)
            clear hK K'
            try simp only [Act.put, List.setIfInBounds_toArray, List.set_cons_zero, List.set_cons_succ]
            refine wpAnyH_take (i := 8) (oi := ⟨some 126, .pick (.tmp 119) (.tmp 125) (.const (.bool false)), _, _, _, none⟩) (v := .bool true) rfl (by kernel_rfl) (by kernel_rfl) (by kernel_rfl) (fun _ _ _ h => h) (Or.inl ⟨by rfl, fun w _ => by go_simp⟩) hHeld ?_
            simp only [Act.put, List.setIfInBounds_toArray, List.set_cons_zero, List.set_cons_succ]
            refine wpAnyH_take (i := 9) (oi := ⟨some 8, .assign (.tmp 126), _, _, _, none⟩) (v := .bool true) rfl (by kernel_rfl) (by kernel_rfl) (by kernel_rfl) (fun _ _ _ h => h) (Or.inl ⟨by rfl, fun _ _ => rfl⟩) hHeld ?_
            simp only [Act.put, List.setIfInBounds_toArray, List.set_cons_zero, List.set_cons_succ]
            refine wpAnyH_done (by kernel_rfl) ?_ _
            clear hHeld
            go_wp2
            go_ret
            exact ⟨rfl, HLW.out _ (HU.out _ l4)⟩
          · clear hnot
            go_upto_region 22 with fail
            replace bg := bg.drew
            replace b15 := b15.drew
            replace l4 := l4.drew
            refine wp_region_held_drew (S := fun w' => World.rangeAt w' w.heap.size 0 x.cells ∧ World.rangeAt w' w5.heap.size 0 [.slice (some ⟨g, 0, none⟩) n c'] ∧ World.rangeAt w' w2.heap.size 0 s.eff) (by kernel_rfl) ⟨(H4.out _ (HU.out _ l4)).range 0 30, b15.range 0 1, (H9.out _ (HU.out _ l4)).range 0 71⟩ (fun hHeld => ?_)
            refine wpAnyH_ready (rs := [0]) (by kernel_rfl) (by simp) (AllReadyH.cons (o := ⟨some 118, .call { callee := .value (.func 11), args := #[], argTypes := #[] }, _, _, _, none⟩) rfl (fun K' hK => ?_) (AllReadyH.nil))
            go_simp
            (with_reducible refine (KSN.out _ (HLW.out _ (HU.out _ l4))).mono ?_)
            rintro e w6 ⟨rfl, l1⟩
            replace b15 := b15.keep l1
            replace bg := bg.keep l1
            replace l4 := Later.trans_ l4 l1
            refine hK.out _ _ ⟨(H4.out _ (HU.out _ l4)).range 0 30, b15.range 0 1, (H9.out _ (HU.out _ l4)).range 0 71⟩ (fun hHeld => ?_)
            clear hK K'
            try simp only [Act.put, List.setIfInBounds_toArray, List.set_cons_zero, List.set_cons_succ]
            refine wpAnyH_take (i := 1) (oi := ⟨some 119, .move (.tmp 118), _, _, _, none⟩) (v := .bool true) rfl (by kernel_rfl) (by kernel_rfl) (by kernel_rfl) (fun _ _ _ h => h) (Or.inl ⟨by rfl, fun _ _ => rfl⟩) hHeld ?_
            simp only [Act.put, List.setIfInBounds_toArray, List.set_cons_zero, List.set_cons_succ]
            refine wpAnyH_take (i := 2) (oi := ⟨some 120, .load 26 (.tmp 4), _, _, _, _⟩) (v := .agg (x.cells).toArray) rfl (by kernel_rfl) (by kernel_rfl) (by kernel_rfl) (fun _ _ _ h => h) (yieldsIf_load_mid (by rfl) _ _ rfl _ _ rfl (x.cells) _ (fun w h => h.1) Tryz.underlying26 rfl (cpu_sz _)) hHeld ?_
            simp only [Act.put, List.setIfInBounds_toArray, List.set_cons_zero, List.set_cons_succ]
            refine wpAnyH_take (i := 3) (oi := ⟨some 121, .load 29 (.tmp 15), _, _, _, _⟩) (v := .agg ([.slice (some ⟨g, 0, none⟩) n c']).toArray) rfl (by kernel_rfl) (by kernel_rfl) (by kernel_rfl) (fun _ _ _ h => h) (yieldsIf_load_mid (by rfl) _ _ rfl _ _ rfl ([.slice (some ⟨g, 0, none⟩) n c']) _ (fun w h => h.2.1) Tryz.underlying29 rfl mem_sz) hHeld ?_
            simp only [Act.put, List.setIfInBounds_toArray, List.set_cons_zero, List.set_cons_succ]
            refine wpAnyH_take (i := 4) (oi := ⟨some 122, .move (.tmp 2), _, _, _, _⟩) (v := .int .u32 p) rfl (by kernel_rfl) (by kernel_rfl) (by kernel_rfl) (fun _ _ _ h => h) (Or.inl ⟨by rfl, fun _ _ => rfl⟩) hHeld ?_
            simp only [Act.put, List.setIfInBounds_toArray, List.set_cons_zero, List.set_cons_succ]
            refine wpAnyH_take (i := 6) (oi := ⟨some 124, .load 38 (.tmp 9), _, _, _, _⟩) (v := .agg (s.eff).toArray) rfl (by kernel_rfl) (by kernel_rfl) (by kernel_rfl) (fun _ _ _ h => h) (yieldsIf_load_mid (by rfl) _ _ rfl _ _ rfl (s.eff) _ (fun w h => h.2.2) Tryz.underlying38 rfl (eff_sz _)) hHeld ?_
            simp only [Act.put, List.setIfInBounds_toArray, List.set_cons_zero, List.set_cons_succ]
            refine wpAnyH_ready (rs := [5]) (by kernel_rfl) (by simp) (AllReadyH.cons (o := ⟨some 123, .call { callee := .value (.func 13), args := #[.tmp 120, .tmp 121, .tmp 122], argTypes := #[26, 29, 22] }, _, _, _, _⟩) rfl (fun K' hK => ?_) (AllReadyH.nil))
            go_simp
            refine (KP2.out g c' b' _ (HLW.out _ (HU.out _ l4)) (Sl.row bg HBL3.out) HA.out.2 HBL3.out).mono ?_
            rintro e w7 ⟨s2, AW2, AA2, cw2, ca2, ws2, ac2, rfl, ⟨y1, y2, y3, y4⟩, hres2, hM2, l1⟩
            replace b15 := b15.keep l1
            replace l4 := Later.trans_ l4 l1
            have KM : ∀ w', Later w7 w' → Calls Tryz.prog 12 #[.agg s2.eff.toArray, .agg s.eff.toArray] w' fun e w'' => e = .returned (.bool true) ∧ Later w' w'' := by
              have hcv := HCV.out.2
              have hT := HRES.out
              have hac : (stepR x n b p).2.2.ac = ac := by rw [← hT]; rfl
              have hdep := stepR_dep x n p HA.out.1 (by rw [hac]; exact hcv)
              rw [hdep, ← hT] at hres2
              obtain ⟨e1, e2, e3⟩ := res_same hres2
              subst e1
              subst e2
              intro w' l
              have l7 := HU.out _ (Later.trans_ l4 l)
              rw [e3, y1, y2]
              exact same_T s _ AW AA AW2 AA2 cw ca cw2 ca2 ws2.length ac2.length ws2 ac2 w' rfl rfl (by have := hM2.2.1; omega) (by have := hM2.2.2; omega) G1.out G2.out rfl (HG3.out _ l7) (HG4.out _ l7) (y3.keep l) (y4.keep l)
            replace KM := Lib.hid KM
            have l7 := later0 w7
            clear y1 y2 y3 y4 hres2 hM2 l1
            refine hK.out _ _ ⟨(H4.out _ (HU.out _ l4)).range 0 30, b15.range 0 1, (H9.out _ (HU.out _ l4)).range 0 71⟩ (fun hHeld => ?_)
            clear hK K'
            try simp only [Act.put, List.setIfInBounds_toArray, List.set_cons_zero, List.set_cons_succ]
            refine wpAnyH_ready (rs := [7]) (by kernel_rfl) (by simp) (AllReadyH.cons (o := ⟨some 125, .call { callee := .value (.func 12), args := #[.tmp 123, .tmp 124], argTypes := #[38, 38] }, _, _, _, _⟩) rfl (fun K' hK => ?_) (AllReadyH.nil))
            go_simp
            (with_reducible refine (KM.out _ l7).mono ?_)
            rintro e w8 ⟨rfl, l1⟩
            replace b15 := b15.keep l1
            replace l4 := Later.trans_ l4 l1
            refine hK.out _ _ ⟨(H4.out _ (HU.out _ l4)).range 0 30, b15.range 0 1, (H9.out _ (HU.out _ l4)).range 0 71⟩ (fun hHeld => ?_)
            clear hK K'
            try simp only [Act.put, List.setIfInBounds_toArray, List.set_cons_zero, List.set_cons_succ]
            refine wpAnyH_take (i := 8) (oi := ⟨some 126, .pick (.tmp 119) (.tmp 125) (.const (.bool false)), _, _, _, none⟩) (v := .bool true) rfl (by kernel_rfl) (by kernel_rfl) (by kernel_rfl) (fun _ _ _ h => h) (Or.inl ⟨by rfl, fun w _ => by go_simp⟩) hHeld ?_
            simp only [Act.put, List.setIfInBounds_toArray, List.set_cons_zero, List.set_cons_succ]
            refine wpAnyH_take (i := 9) (oi := ⟨some 8, .assign (.tmp 126), _, _, _, none⟩) (v := .bool true) rfl (by kernel_rfl) (by kernel_rfl) (by kernel_rfl) (fun _ _ _ h => h) (Or.inl ⟨by rfl, fun _ _ => rfl⟩) hHeld ?_
            simp only [Act.put, List.setIfInBounds_toArray, List.set_cons_zero, List.set_cons_succ]
            refine wpAnyH_done (by kernel_rfl) ?_ _
            clear hHeld
            go_wp2
            go_ret
            exact ⟨rfl, HLW.out _ (HU.out _ l4)⟩
end Go.Proofs.YtidhodalnikhlaaGreatDoor
