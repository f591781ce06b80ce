/-
  THE STATEMENT CoreConfinesUsers: its walk.
-/
import Derived.Test.YtidhodalnikhlaaGreatDoorZc
namespace Go.Proofs.YtidhodalnikhlaaGreatDoor
open Go.RowKit Go.ChangeShapes Go.WideShapes Go.ChangeAt

set_option maxRecDepth 100000 in
set_option maxHeartbeats 16000000 in
theorem cf_r (x : Cpu) (A : Option Addr) (n c : Nat) (b : Wm.Bs) (p : Int) (w : World) (_hrv : x.Rv) (_hc0 : 0 ≤ x.c0 ∧ x.c0 ≤ 4294967295) (_hpcr : 0 ≤ x.pc ∧ x.pc ≤ 4294967295) (_hc5 : Tm.isE x.c5) (_hp : Tm.isE p) (_hs : Sl w 128 A n (U b)) (_hb : Wm.isBs b) (tab : Tab w) (hS : ∀ w', Tab w' → Calls Tryz.prog 11 #[] w' fun e w'' => e = .returned (.bool true) ∧ Later w' w'') (hR : RightB x n = false) :
    Calls Tryz.prog 8 #[.agg x.cells.toArray, .agg #[.slice A n c], .int .u32 p] w fun e w' => e = .returned (.bool true) ∧ Later w w' := by
  obtain ⟨u, hux⟩ : ∃ u, x.u = u := ⟨_, rfl⟩
  have HU := Lib.hid hux
  clear hux
  have KSN := Lib.hid fun w' (l : Later w w') => hS w' (tab.keep l)
  have KR := Lib.hid fun w' => cright_any x A n c w'
  have b3 := (Blk.new w 26 x.cells.toArray x.cells rfl).alloc (.cells #[.slice A n c] 29)
  have b4 := Blk.new' (w.alloc (.cells x.cells.toArray 26)) (w.heap.size + 1) 29 #[.slice A n c] [.slice A n c] (by simp) rfl
  have lw := (later1 w (.cells x.cells.toArray 26)).alloc (by simp) (.cells #[.slice A n c] 29)
  obtain ⟨u0, hu9⟩ : ∃ u0, (w.alloc (.cells x.cells.toArray 26)).alloc (.cells #[.slice A n c] 29) = u0 := ⟨_, rfl⟩
  rw [hu9] at b3 b4 lw
  rw [hR] at KR
  clear hS tab hR
  go_enter Tryz.func8, Tryz.ntmps8
  go_upto_region 1 with fail
  clear hu9
  go_wp2_with (first
    | ((with_reducible refine wpList_load_blk (o := ⟨some 16, .load 26 (.tmp 3), _, _, _, none⟩) rfl _ _ rfl w.heap.size 26 x.cells _ ?_ ?_ Tryz.underlying26 rfl (cpu_sz _) ?_); rfl; exact b3)
    | ((with_reducible refine wpList_load_blk (o := ⟨some 17, .load 29 (.tmp 4), _, _, _, none⟩) rfl _ _ rfl (w.heap.size + 1) 29 [.slice A n c] _ ?_ ?_ Tryz.underlying29 rfl mem_sz ?_); rfl; exact b4)
    | (go_at_call 10; (with_reducible refine (KR.out _).mono ?_); rintro e w1 ⟨rfl, l1⟩; replace b3 := b3.keep l1; replace b4 := b4.keep l1; replace lw := Later.trans_ lw l1; have c26 := b3.cell (j := 26) (v := .bool u) (congrArg (fun z => some (Value.bool z)) HU.out))
    | (go_at_call 11; refine (KSN.out _ lw).mono ?_; rintro e wS ⟨rfl, l1⟩; replace lw := Later.trans_ lw l1))
  go_ret
  exact ⟨rfl, lw⟩
set_option maxRecDepth 100000 in
set_option maxHeartbeats 16000000 in
theorem cf_k (x : Cpu) (A : Option Addr) (n c : Nat) (b : Wm.Bs) (p : Int) (w : World) (_hrv : x.Rv) (_hc0 : 0 ≤ x.c0 ∧ x.c0 ≤ 4294967295) (_hpcr : 0 ≤ x.pc ∧ x.pc ≤ 4294967295) (_hc5 : Tm.isE x.c5) (_hp : Tm.isE p) (_hs : Sl w 128 A n (U b)) (_hb : Wm.isBs b) (tab : Tab w) (hS : ∀ w', Tab w' → Calls Tryz.prog 11 #[] w' fun e w'' => e = .returned (.bool true) ∧ Later w' w'') (hR : RightB x n = true) (hu : x.u = false) :
    Calls Tryz.prog 8 #[.agg x.cells.toArray, .agg #[.slice A n c], .int .u32 p] w fun e w' => e = .returned (.bool true) ∧ Later w w' := by
  have HU := Lib.hid hu
  clear hu
  have KSN := Lib.hid fun w' (l : Later w w') => hS w' (tab.keep l)
  have KR := Lib.hid fun w' => cright_any x A n c w'
  have b3 := (Blk.new w 26 x.cells.toArray x.cells rfl).alloc (.cells #[.slice A n c] 29)
  have b4 := Blk.new' (w.alloc (.cells x.cells.toArray 26)) (w.heap.size + 1) 29 #[.slice A n c] [.slice A n c] (by simp) rfl
  have lw := (later1 w (.cells x.cells.toArray 26)).alloc (by simp) (.cells #[.slice A n c] 29)
  obtain ⟨u0, hu9⟩ : ∃ u0, (w.alloc (.cells x.cells.toArray 26)).alloc (.cells #[.slice A n c] 29) = u0 := ⟨_, rfl⟩
  rw [hu9] at b3 b4 lw
  rw [hR] at KR
  clear hS tab hR
  go_enter Tryz.func8, Tryz.ntmps8
  go_upto_region 1 with fail
  clear hu9
  go_wp2_with (first
    | ((with_reducible refine wpList_load_blk (o := ⟨some 16, .load 26 (.tmp 3), _, _, _, none⟩) rfl _ _ rfl w.heap.size 26 x.cells _ ?_ ?_ Tryz.underlying26 rfl (cpu_sz _) ?_); rfl; exact b3)
    | ((with_reducible refine wpList_load_blk (o := ⟨some 17, .load 29 (.tmp 4), _, _, _, none⟩) rfl _ _ rfl (w.heap.size + 1) 29 [.slice A n c] _ ?_ ?_ Tryz.underlying29 rfl mem_sz ?_); rfl; exact b4)
    | (go_at_call 10; (with_reducible refine (KR.out _).mono ?_); rintro e w1 ⟨rfl, l1⟩; replace b3 := b3.keep l1; replace b4 := b4.keep l1; replace lw := Later.trans_ lw l1; have c26 := b3.cell (j := 26) (v := .bool false) (congrArg (fun z => some (Value.bool z)) HU.out))
    | (go_at_call 11; refine (KSN.out _ lw).mono ?_; rintro e wS ⟨rfl, l1⟩; replace lw := Later.trans_ lw l1))
  go_ret
  exact ⟨rfl, lw⟩
set_option maxRecDepth 100000 in
set_option maxHeartbeats 16000000 in
theorem cf_run (x : Cpu) (A : Option Addr) (n c : Nat) (b : Wm.Bs) (p : Int) (w : World) (hrv : x.Rv) (hc0 : 0 ≤ x.c0 ∧ x.c0 ≤ 4294967295) (hpcr : 0 ≤ x.pc ∧ x.pc ≤ 4294967295) (hc5 : Tm.isE x.c5) (hp : Tm.isE p) (hs : Sl w 128 A n (U b)) (hb : Wm.isBs b) (tab : Tab w) (hS : ∀ w', Tab w' → Calls Tryz.prog 11 #[] w' fun e w'' => e = .returned (.bool true) ∧ Later w' w'') (hR : RightB x n = true) (hu9 : x.u = true) :
    Calls Tryz.prog 8 #[.agg x.cells.toArray, .agg #[.slice A n c], .int .u32 p] w fun e w' => e = .returned (.bool true) ∧ Later w w' := by
  have KSN := Lib.hid fun w' (l : Later w w') => hS w' (tab.keep l)
  have KR := Lib.hid fun w' => cright_any x A n c w'
  have b3 := (Blk.new w 26 x.cells.toArray x.cells rfl).alloc (.cells #[.slice A n c] 29)
  have b4 := Blk.new' (w.alloc (.cells x.cells.toArray 26)) (w.heap.size + 1) 29 #[.slice A n c] [.slice A n c] (by simp) rfl
  have lw := (later1 w (.cells x.cells.toArray 26)).alloc (by simp) (.cells #[.slice A n c] 29)
  obtain ⟨u0, hu⟩ : ∃ u0, (w.alloc (.cells x.cells.toArray 26)).alloc (.cells #[.slice A n c] 29) = u0 := ⟨_, rfl⟩
  rw [hu] at b3 b4 lw
  have HU := Lib.hid hu9
  rw [hR] at KR
  unfold RightB at hR
  simp only [Bool.and_eq_true, decide_eq_true_eq] at hR
  have hk := Cm.of_okC hR.1
  have hcn : 0 ≤ x.cn ∧ x.cn < 1099511627776 := ⟨hk.2.2.2.2.1, hR.2.1⟩
  have hn1 : 1 ≤ n := hR.2.2.1
  have hn64 : n ≤ 64 := hR.2.2.2
  have hbl : b.length = n * 128 := by have := hs.1; rw [U_length] at this; exact this
  have KP := Lib.hid fun w' (l : Later w w') => cf_step x A n c b p w' (hs.keep l) hb hbl hn1 hn64 hrv hc0 hpcr hc5 hp hcn (tab.keep l) hu9
  have KL := Lib.hid fun w' (l : Later w w') => rlist_any A n c x.c0 b w' (hs.keep l) hb ⟨hn1, hn64⟩ ⟨hc0.1, by omega⟩
  have HB := Lib.hid hb
  clear hS tab hs hb hbl hn1 hn64 hrv hc0 hpcr hc5 hp hk hcn hR hu9
  go_enter Tryz.func8, Tryz.ntmps8
  go_upto_region 1 with fail
  clear hu
  go_upto_region 4 with (first
    | ((with_reducible refine wpList_load_blk (o := ⟨some 16, .load 26 (.tmp 3), _, _, _, none⟩) rfl _ _ rfl w.heap.size 26 x.cells _ ?_ ?_ Tryz.underlying26 rfl (cpu_sz _) ?_); rfl; exact b3)
    | ((with_reducible refine wpList_load_blk (o := ⟨some 17, .load 29 (.tmp 4), _, _, _, none⟩) rfl _ _ rfl (w.heap.size + 1) 29 [.slice A n c] _ ?_ ?_ Tryz.underlying29 rfl mem_sz ?_); rfl; exact b4)
    | (go_at_call 10; (with_reducible refine (KR.out _).mono ?_); rintro e w1 ⟨rfl, l1⟩; replace b3 := b3.keep l1; replace b4 := b4.keep l1; replace lw := Later.trans_ lw l1; have c26 := b3.cell (j := 26) (v := .bool true) (congrArg (fun z => some (Value.bool z)) HU.out))
    | ((with_reducible refine wpList_load_blk (o := ⟨some 26, .load 26 (.tmp 3), _, _, _, none⟩) rfl _ _ rfl w.heap.size 26 x.cells _ ?_ ?_ Tryz.underlying26 rfl (cpu_sz _) ?_); rfl; exact b3)
    | ((with_reducible refine wpList_load_blk (o := ⟨some 27, .load 29 (.tmp 4), _, _, _, none⟩) rfl _ _ rfl (w.heap.size + 1) 29 [.slice A n c] _ ?_ ?_ Tryz.underlying29 rfl mem_sz ?_); rfl; exact b4)
    | (go_at_call 13; clear c26; refine (KP.out _ lw).mono ?_; rintro e w2 ⟨s, AW, AA, cw, ca, ws, ac, rfl, ⟨g1, g2, g3, g4⟩, hF, hM, l1⟩; replace b3 := b3.keep l1; replace b4 := b4.keep l1; replace lw := Later.trans_ lw l1; have G1 := Lib.hid g1; have G2 := Lib.hid g2; have HF := Lib.hid hF; have HM := Lib.hid hM; clear g1 g2 hF hM l1)
    | ((with_reducible refine wpList_store_abs (o := ⟨none, .store 38 (.tmp 7) (.tmp 29), _, _, _, none⟩) rfl _ _ _ rfl w2.heap.size 38 zS.eff s.eff ?_ ?_ ?_ ?_ ?_ ?_ ?_); rfl; rfl; exact (Blk.new _ _ _ _ rfl); exact eff_sz _; rfl; exact (eff_one _ (by rw [G1.out]; rfl) (by rw [G2.out]; rfl)); intro u3 b9 ob9; have l9 := Below.only (later1 w2 (.cells zS.eff.toArray 38)) ob9 (Nat.le_refl _); replace b3 := b3.keep l9; replace b4 := b4.keep l9; replace g3 := g3.keep l9; replace g4 := g4.keep l9; replace lw := Later.trans_ lw l9; clear ob9 l9))
  have e64 := b9.cell (j := 64) (v := .bool false) (congrArg (fun z => some (Value.bool z)) HF.out.1.1)
  have e68 := b9.cell (j := 68) (v := .int .i64 0) (congrArg (fun z => some (Value.int .i64 z)) HF.out.1.2.1)
  have HIO := Lib.hid (show (s.eff.drop 65).take 3 = [.bool false, .int .i64 0, .int .u32 0] by rw [eT_io, HF.out.1.2.2.1, HF.out.1.2.2.2.1, HF.out.1.2.2.2.2])
  have heqI := io_eqT false 0 0
  go_upto_region 6 with (first
    | ((with_reducible refine wpList_load_atg (o := ⟨some 39, .load 36 (.tmp 38), _, _, _, _⟩) _ _ rfl w2.heap.size 65 3 38 s.eff [.bool false, .int .i64 0, .int .u32 0] _ ?_ ?_ ?_ HIO.out Tryz.underlying36 ?_ (ioT_sz _ _ _) ?_); rfl; rfl; exact b9; rfl)
    | ((refine wpList_bldg (o := ⟨some 40, .build 36 #[], _, _, _, _⟩) 36 _ rfl ?_ (run_io0 _) ?_); rfl))
  clear e64 e68 heqI
  go_cut [76] (fun q wx => q = .bool false ∧ wx = u3)
  case first => as_aux_lemma =>
    cases hdn : s.dn with
    | false =>
      have e0 := b9.cell (j := 0) (v := .bool false) (congrArg (fun z => some (Value.bool z)) hdn)
      clear hdn
      go_wp2
      go_meet
      exact ⟨rfl, rfl⟩
    | true =>
      by_cases htr : s.tr = 0
      · have e0 := b9.cell (j := 0) (v := .bool true) (congrArg (fun z => some (Value.bool z)) hdn)
        have e70 := b9.cell (j := 70) (v := .int .i64 0) (congrArg (fun z => some (Value.int .i64 z)) htr)
        obtain ⟨q1, q2, q3, q4⟩ := HF.out.2.1 hdn htr
        have e27 := b9.cell (j := 27) (v := .bool true) (congrArg (fun z => some (Value.bool z)) q2)
        have e28 := b9.cell (j := 28) (v := .bool false) (congrArg (fun z => some (Value.bool z)) q4)
        have e29 := b9.cell (j := 29) (v := .bool x.hl) (congrArg (fun z => some (Value.bool z)) q3)
        have m28 := b3.cell (j := 28) (v := .bool x.hl) rfl
        have HQ := Lib.hid (ctls_of q1 s rfl)
        have heqC := ctls_same x
        have hh : (x.hl == x.hl) = true := by simp
        clear hdn htr q1 q2 q3 q4
        go_wp2_with (first
          | ((with_reducible refine wpList_load_atg (o := ⟨some 53, .load 24 (.tmp 52), _, _, _, _⟩) _ _ rfl w2.heap.size 18 9 38 s.eff x.ctls _ ?_ ?_ ?_ HQ.out Tryz.underlying24 ?_ (ctls_sz _) ?_); rfl; rfl; exact b9; rfl)
          | ((with_reducible refine wpList_load_atg (o := ⟨some 55, .load 24 (.tmp 54), _, _, _, _⟩) _ _ rfl w.heap.size 17 9 26 x.cells x.ctls _ ?_ ?_ ?_ rfl Tryz.underlying24 ?_ (ctls_sz _) ?_); rfl; rfl; exact b3; rfl))
        go_meet
        exact ⟨rfl, rfl⟩
      · have e0 := b9.cell (j := 0) (v := .bool true) (congrArg (fun z => some (Value.bool z)) hdn)
        clear hdn
        obtain ⟨t, ht⟩ : ∃ t, s.tr = t := ⟨_, rfl⟩
        have e70 := b9.cell (j := 70) (v := .int .i64 t) (congrArg (fun z => some (Value.int .i64 z)) ht)
        rw [ht] at htr
        have dt : (t == 0) = false := by simpa using htr
        clear ht htr
        go_wp2
        go_meet
        exact ⟨rfl, rfl⟩
  case rest =>
    obtain ⟨rfl, rfl⟩ := hcut
    by_cases hz : x.c0 = 0
    · have e17 := b3.cell (j := 17) (v := .int .u32 x.c0) rfl
      have d80 : (x.c0 == 0) = true := by simpa using hz
      clear hz
      go_wp2_with (first
        | (go_at_call 11; refine (KSN.out _ lw).mono ?_; rintro e wS ⟨rfl, l1⟩; replace lw := Later.trans_ lw l1))
      go_ret
      exact ⟨rfl, lw⟩
    · have HZ := Lib.hid hz
      have e17 := b3.cell (j := 17) (v := .int .u32 x.c0) rfl
      have d80 : (x.c0 == 0) = false := by simpa using hz
      clear hz
      go_upto_region 11 with (first
        | ((with_reducible refine wpList_load_blk (o := ⟨some 82, .load 29 (.tmp 4), _, _, _, none⟩) rfl _ _ rfl (w.heap.size + 1) 29 [.slice A n c] _ ?_ ?_ Tryz.underlying29 rfl mem_sz ?_); rfl; exact b4)
        | (go_at_call 24; clear e17; refine (KL.out _ lw).mono ?_; rintro e w4 ⟨LA, kl, rfl, hg8, l1⟩; have HG8 := Lib.hid hg8; clear hg8; replace b3 := b3.keep l1; replace b4 := b4.keep l1; replace b9 := b9.keep l1; replace g3 := g3.keep l1; replace g4 := g4.keep l1; replace lw := Later.trans_ lw l1))
      obtain ⟨LL, hLL⟩ : ∃ LL, LL = Tm.lst n b x.c0 := ⟨_, rfl⟩
      have HMB := Lib.hid (fun k (hk : k < (Tm.lst n b x.c0).length) => Mgs_bits HB.out (root := x.c0) hk)
      have HFN := Lib.hid (fun y (hy : y ∈ ws) => fine_any (HF.out.2.2 HZ.out y hy))
      have HLN := Lib.hid (lst_len n b x.c0)
      rw [← hLL] at HG8 HMB HFN HLN ⊢
      clear hLL HF
      have H9 := Lib.hid fun w' (l : Later w4 w') => b9.keep l
      have HG3 := Lib.hid fun w' (l : Later w4 w') => g3.keep l
      have HG4 := Lib.hid fun w' (l : Later w4 w') => g4.keep l
      have HGL := Lib.hid fun w' (l : Later w4 w') => HG8.out.keep l
      have HLW := Lib.hid fun w' (l : Later w4 w') => Later.trans_ lw l
      have H9lt := Lib.hid b9.lt
      have l3 := later0 w4
      clear b3 b4 b9 g3 g4 lw HG8
      go_wp2
      go_loopw [9] (fun q wr => ∃ i : Nat, i ≤ ws.length ∧ q = .int .i64 (i : Int) ∧ Later w4 wr) (fun q _ => ws.length - (intOf q).toNat)
      case atStart => exact ⟨0, Nat.zero_le _, rfl, l3⟩
      case round =>
        clear l3
        rename World => wo
        obtain ⟨i, hi, rfl, l3⟩ := hrel
        have e62 := (H9.out _ l3).cell (j := 62) (v := .slice AW ws.length cw) (congrArg some G1.out)
        by_cases hilt : i < ws.length
        · have hin : (i : Int) < (ws.length : Int) := by omega
          have hi3 : (i : Int) < 3 := by have := HM.out.1; omega
          have hi0 : (0 : Int) ≤ i := by omega
          have g3 := HG3.out _ l3
          obtain ⟨ad, hAd⟩ := g3.addr (by omega)
          rw [hAd] at g3
          have hC := g3.write hilt rfl
          have hfy := HFN.out _ (List.getElem_mem hilt)
          obtain ⟨a, ha⟩ : ∃ a, a = ws[i].1 := ⟨_, rfl⟩
          obtain ⟨z, hz⟩ : ∃ z, z = ws[i].2.1 := ⟨_, rfl⟩
          obtain ⟨vv, hv⟩ : ∃ v, v = ws[i].2.2 := ⟨_, rfl⟩
          rw [← ha, ← hz, ← hv] at hC
          rw [← ha, ← hz] at hfy
          have HC := Lib.hid hC
          have HFY := Lib.hid hfy
          clear g3 hC hfy ha hz hv
          subst hAd
          go_upto_region 15 with (first
            | ((with_reducible refine wpList_load_addr (o := ⟨some 98, .load 64 (.tmp 97), _, _, _, none⟩) rfl _ _ rfl (ad.add (i * 3)) [.int .i64 a, .int .i64 z, .int .u32 vv] _ ?_ HC.out Tryz.underlying64 rfl (wr3_sz _ _ _) ?_); rfl))
          have b10 := Blk.new wo 64 #[.int .i64 a, .int .i64 z, .int .u32 vv] [.int .i64 a, .int .i64 z, .int .u32 vv] rfl
          obtain ⟨u8, hu8⟩ : ∃ u8, u8 = wo.alloc (.cells #[.int .i64 a, .int .i64 z, .int .u32 vv] 64) := ⟨_, rfl⟩
          refine wp_eq_world (u := u8) hu8 ?_
          have l9 := later1 wo (.cells #[.int .i64 a, .int .i64 z, .int .u32 vv] 64)
          rw [← hu8] at l9 b10
          have HU8 := Lib.hid fun w' (l : Later u8 w') => Later.trans_ (Later.trans_ l3 l9) l
          have H10 := Lib.hid fun w' (l : Later u8 w') => b10.keep l
          clear hu8 l9 e62 b10 l3 HC
          have l3 := later0 u8
          go_wp2
          go_loopw [11, 12] (fun f q wr => ∃ (k : Nat) (fb : Bool), k ≤ ac.length ∧ f = .bool fb ∧ q = .int .i64 (k : Int) ∧ Hid (fb = (ac.take k).any (entB a z)) ∧ Later u8 wr) (fun _ q _ => ac.length - (intOf q).toNat)
          case atStart => exact ⟨0, false, Nat.zero_le _, rfl, rfl, rfl, l3⟩
          case round =>
            clear l3
            obtain ⟨k, fb, hk, rfl, rfl, HFB, l3⟩ := hrel
            have e63 := (H9.out _ (HU8.out _ l3)).cell (j := 63) (v := .slice AA ac.length ca) (congrArg some G2.out)
            by_cases hlt : k < ac.length
            · have hkn : (k : Int) < (ac.length : Int) := by omega
              have hk9 : (k : Int) < 9 := by have := HM.out.2; omega
              have hk0 : (0 : Int) ≤ k := by omega
              have g4 := HG4.out _ (HU8.out _ l3)
              obtain ⟨ad2, hAd⟩ := g4.addr (by omega)
              have HAA := Lib.hid (fun w' (l : Later u8 w') => (show Sl w' 3 (some ad2) ac.length (Acs ac) by have h1 := HG4.out _ (HU8.out _ l); rw [hAd] at h1; exact h1))
              clear g4
              obtain ⟨a2, ha2⟩ : ∃ a2, a2 = ac[k].1 := ⟨_, rfl⟩
              have HA := Lib.hid ha2
              have HA0 := Lib.hid (fun w' (l : Later u8 w') => (show w'.cell? (ad2.add (k * 3)) = some (.int .i64 a2) by have h1 := (HAA.out _ l).acc hlt rfl 0 _ rfl; rw [ad_add0, ← HA.out] at h1; exact h1))
              have HA2' := Lib.hid (fun w' (l : Later u8 w') => (show w'.cell? ⟨(ad2.add (k * 3)).block, (ad2.add (k * 3)).off + 2, none⟩ = some (.bool ac[k].2.2) by have h1 := (HAA.out _ l).acc hlt rfl 2 _ rfl; rw [ad_add2] at h1; exact h1))
              have HS := Lib.hid (any_succ (entB a z) ac hlt)
              clear ha2 HAA
              subst hAd
              cases fb with
              | true =>
                obtain ⟨st, hst⟩ : ∃ st, ac[k].2.2 = st := ⟨_, rfl⟩
                have HA2 := HA2'
                rw [hst] at HA2
                clear HA2' hst
                go_upto_region 19 with fail
                replace l3 := l3.drew
                refine wp_region_held_drew (S := fun w' => w'.cell? ⟨w2.heap.size, 63, none⟩ = some (.slice (some ad2) ac.length ca) ∧ w'.cell? (ad2.add (k * 3)) = some (.int .i64 a2) ∧ w'.cell? ⟨(ad2.add (k * 3)).block, (ad2.add (k * 3)).off + 2, none⟩ = some (.bool st) ∧ w'.cell? ⟨wo.heap.size, 0, none⟩ = some (.int .i64 a) ∧ w'.cell? ⟨wo.heap.size, 1, none⟩ = some (.int .i64 z)) (by kernel_rfl) ⟨(H9.out _ (HU8.out _ l3)).cell (j := 63) (v := .slice (some ad2) ac.length ca) (congrArg some G2.out), HA0.out _ l3, HA2.out _ l3, (H10.out _ l3).cell (j := 0) (v := .int .i64 a) rfl, (H10.out _ l3).cell (j := 1) (v := .int .i64 z) rfl⟩ (fun hHeld => ?_)
                refine tk (i := 0) (oi := ⟨some 106, .move (.tmp 11), _, _, _, none⟩) (v := .bool true) rfl (Or.inl ⟨by rfl, fun _ _ => rfl⟩) hHeld ?_
                simp only [Act.put, sz0, sz1, sz2]
                refine tk (i := 1) (oi := ⟨some 107, .move (.tmp 106), _, _, _, none⟩) (v := .bool true) rfl (Or.inl ⟨by rfl, fun _ _ => rfl⟩) hHeld ?_
                simp only [Act.put, sz0, sz1, sz2]
                refine tk (i := 2) (oi := ⟨some 108, .fieldAddr 38 (.tmp 7) 5, _, _, _, _⟩) (v := undef) rfl (Or.inr ⟨by rfl, rfl⟩) hHeld ?_
                simp only [Act.put, sz0, sz1, sz2]
                refine tk (i := 3) (oi := ⟨some 109, .load 34 (.tmp 108), _, _, _, _⟩) (v := undef) rfl (Or.inr ⟨by rfl, rfl⟩) hHeld ?_
                simp only [Act.put, sz0, sz1, sz2]
                refine tk (i := 4) (oi := ⟨some 110, .move (.tmp 12), _, _, _, _⟩) (v := undef) rfl (Or.inr ⟨by rfl, rfl⟩) hHeld ?_
                simp only [Act.put, sz0, sz1, sz2]
                refine tk (i := 5) (oi := ⟨some 111, .indexAddr 34 (.tmp 109) (.tmp 110), _, _, _, _⟩) (v := undef) rfl (Or.inr ⟨by rfl, rfl⟩) hHeld ?_
                simp only [Act.put, sz0, sz1, sz2]
                refine tk (i := 6) (oi := ⟨some 112, .fieldAddr 53 (.tmp 111) 2, _, _, _, _⟩) (v := undef) rfl (Or.inr ⟨by rfl, rfl⟩) hHeld ?_
                simp only [Act.put, sz0, sz1, sz2]
                refine tk (i := 7) (oi := ⟨some 113, .load 4 (.tmp 112), _, _, _, _⟩) (v := undef) rfl (Or.inr ⟨by rfl, rfl⟩) hHeld ?_
                simp only [Act.put, sz0, sz1, sz2]
                refine tk (i := 8) (oi := ⟨some 114, .unOp .not 4 (.tmp 113), _, _, _, _⟩) (v := undef) rfl (Or.inr ⟨by rfl, rfl⟩) hHeld ?_
                simp only [Act.put, sz0, sz1, sz2]
                refine tk (i := 9) (oi := ⟨some 115, .move (.tmp 114), _, _, _, _⟩) (v := undef) rfl (Or.inr ⟨by rfl, rfl⟩) hHeld ?_
                simp only [Act.put, sz0, sz1, sz2]
                refine tk (i := 10) (oi := ⟨some 116, .fieldAddr 38 (.tmp 7) 5, _, _, _, _⟩) (v := undef) rfl (Or.inr ⟨by rfl, rfl⟩) hHeld ?_
                simp only [Act.put, sz0, sz1, sz2]
                refine tk (i := 11) (oi := ⟨some 117, .load 34 (.tmp 116), _, _, _, _⟩) (v := undef) rfl (Or.inr ⟨by rfl, rfl⟩) hHeld ?_
                simp only [Act.put, sz0, sz1, sz2]
                refine tk (i := 12) (oi := ⟨some 118, .move (.tmp 12), _, _, _, _⟩) (v := undef) rfl (Or.inr ⟨by rfl, rfl⟩) hHeld ?_
                simp only [Act.put, sz0, sz1, sz2]
                refine tk (i := 13) (oi := ⟨some 119, .indexAddr 34 (.tmp 117) (.tmp 118), _, _, _, _⟩) (v := undef) rfl (Or.inr ⟨by rfl, rfl⟩) hHeld ?_
                simp only [Act.put, sz0, sz1, sz2]
                refine tk (i := 14) (oi := ⟨some 120, .fieldAddr 53 (.tmp 119) 0, _, _, _, _⟩) (v := undef) rfl (Or.inr ⟨by rfl, rfl⟩) hHeld ?_
                simp only [Act.put, sz0, sz1, sz2]
                refine tk (i := 15) (oi := ⟨some 121, .load 3 (.tmp 120), _, _, _, _⟩) (v := undef) rfl (Or.inr ⟨by rfl, rfl⟩) hHeld ?_
                simp only [Act.put, sz0, sz1, sz2]
                refine tk (i := 16) (oi := ⟨some 122, .fieldAddr 64 (.tmp 10) 0, _, _, _, _⟩) (v := undef) rfl (Or.inr ⟨by rfl, rfl⟩) hHeld ?_
                simp only [Act.put, sz0, sz1, sz2]
                refine tk (i := 17) (oi := ⟨some 123, .load 3 (.tmp 122), _, _, _, _⟩) (v := undef) rfl (Or.inr ⟨by rfl, rfl⟩) hHeld ?_
                simp only [Act.put, sz0, sz1, sz2]
                refine tk (i := 18) (oi := ⟨some 124, .binOp .eql 3 (.tmp 121) (.tmp 123) 3, _, _, _, _⟩) (v := undef) rfl (Or.inr ⟨by rfl, rfl⟩) hHeld ?_
                simp only [Act.put, sz0, sz1, sz2]
                refine tk (i := 19) (oi := ⟨some 125, .pick (.tmp 115) (.tmp 124) (.const (.bool false)), _, _, _, _⟩) (v := undef) rfl (Or.inr ⟨by rfl, rfl⟩) hHeld ?_
                simp only [Act.put, sz0, sz1, sz2]
                refine tk (i := 20) (oi := ⟨some 126, .move (.tmp 125), _, _, _, _⟩) (v := undef) rfl (Or.inr ⟨by rfl, rfl⟩) hHeld ?_
                simp only [Act.put, sz0, sz1, sz2]
                refine tk (i := 21) (oi := ⟨some 127, .fieldAddr 64 (.tmp 10) 1, _, _, _, _⟩) (v := undef) rfl (Or.inr ⟨by rfl, rfl⟩) hHeld ?_
                simp only [Act.put, sz0, sz1, sz2]
                refine tk (i := 22) (oi := ⟨some 128, .load 3 (.tmp 127), _, _, _, _⟩) (v := undef) rfl (Or.inr ⟨by rfl, rfl⟩) hHeld ?_
                simp only [Act.put, sz0, sz1, sz2]
                refine tk (i := 23) (oi := ⟨some 129, .binOp .eql 3 (.tmp 128) (.const (.int .i64 4)) 3, _, _, _, _⟩) (v := undef) rfl (Or.inr ⟨by rfl, rfl⟩) hHeld ?_
                simp only [Act.put, sz0, sz1, sz2]
                refine tk (i := 24) (oi := ⟨some 130, .pick (.tmp 126) (.tmp 129) (.const (.bool false)), _, _, _, _⟩) (v := undef) rfl (Or.inr ⟨by rfl, rfl⟩) hHeld ?_
                simp only [Act.put, sz0, sz1, sz2]
                refine tk (i := 25) (oi := ⟨some 131, .pick (.tmp 107) (.const (.bool true)) (.tmp 130), _, _, _, none⟩) (v := .bool true) rfl (Or.inl ⟨by rfl, fun w _ => by go_simp⟩) hHeld ?_
                simp only [Act.put, sz0, sz1, sz2]
                refine tk (i := 26) (oi := ⟨some 11, .assign (.tmp 131), _, _, _, none⟩) (v := .bool true) rfl (Or.inl ⟨by rfl, fun _ _ => rfl⟩) hHeld ?_
                simp only [Act.put, sz0, sz1, sz2]
                refine wpAnyH_done (by kernel_rfl) ?_ _
                clear hHeld
                go_wp2
                have HN := Lib.hid (show true = (ac.take (k + 1)).any (entB a z) by rw [HS.out, ← HFB.out]; rfl)
                go_roundw
                case rel => exact ⟨k + 1, true, by omega, rfl, by go_num, HN.out, l3⟩
                case measure => simp [intOf]; omega
              | false =>
                cases hst : ac[k].2.2 with
                | true =>
                  have HA2 := HA2'
                  rw [hst] at HA2
                  have HST := Lib.hid hst
                  clear HA2' hst
                  go_upto_region 19 with fail
                  replace l3 := l3.drew
                  refine wp_region_held_drew (S := fun w' => w'.cell? ⟨w2.heap.size, 63, none⟩ = some (.slice (some ad2) ac.length ca) ∧ w'.cell? (ad2.add (k * 3)) = some (.int .i64 a2) ∧ w'.cell? ⟨(ad2.add (k * 3)).block, (ad2.add (k * 3)).off + 2, none⟩ = some (.bool true) ∧ w'.cell? ⟨wo.heap.size, 0, none⟩ = some (.int .i64 a) ∧ w'.cell? ⟨wo.heap.size, 1, none⟩ = some (.int .i64 z)) (by kernel_rfl) ⟨(H9.out _ (HU8.out _ l3)).cell (j := 63) (v := .slice (some ad2) ac.length ca) (congrArg some G2.out), HA0.out _ l3, HA2.out _ l3, (H10.out _ l3).cell (j := 0) (v := .int .i64 a) rfl, (H10.out _ l3).cell (j := 1) (v := .int .i64 z) rfl⟩ (fun hHeld => ?_)
                  refine tk (i := 0) (oi := ⟨some 106, .move (.tmp 11), _, _, _, none⟩) (v := .bool false) rfl (Or.inl ⟨by rfl, fun _ _ => rfl⟩) hHeld ?_
                  simp only [Act.put, sz0, sz1, sz2]
                  refine tk (i := 1) (oi := ⟨some 107, .move (.tmp 106), _, _, _, none⟩) (v := .bool false) rfl (Or.inl ⟨by rfl, fun _ _ => rfl⟩) hHeld ?_
                  simp only [Act.put, sz0, sz1, sz2]
                  refine tk (i := 2) (oi := ⟨some 108, .fieldAddr 38 (.tmp 7) 5, _, _, _, _⟩) (v := .pointer (some ⟨w2.heap.size, 63, none⟩)) rfl (Or.inl ⟨by rfl, fun w _ => by go_simp⟩) hHeld ?_
                  simp only [Act.put, sz0, sz1, sz2]
                  refine tk (i := 3) (oi := ⟨some 109, .load 34 (.tmp 108), _, _, _, _⟩) (v := .slice (some ad2) ac.length ca) rfl (Or.inl ⟨by rfl, fun w hSw => by have e1 := hSw.1; clear hSw; go_simp⟩) hHeld ?_
                  simp only [Act.put, sz0, sz1, sz2]
                  refine tk (i := 4) (oi := ⟨some 110, .move (.tmp 12), _, _, _, _⟩) (v := .int .i64 (k : Int)) rfl (Or.inl ⟨by rfl, fun _ _ => rfl⟩) hHeld ?_
                  simp only [Act.put, sz0, sz1, sz2]
                  refine tk (i := 5) (oi := ⟨some 111, .indexAddr 34 (.tmp 109) (.tmp 110), _, _, _, _⟩) (v := .pointer (some (ad2.add (k * 3)))) rfl (Or.inl ⟨by rfl, fun w _ => by go_simp⟩) hHeld ?_
                  simp only [Act.put, sz0, sz1, sz2]
                  refine tk (i := 6) (oi := ⟨some 112, .fieldAddr 53 (.tmp 111) 2, _, _, _, _⟩) (v := .pointer (some ⟨(ad2.add (k * 3)).block, (ad2.add (k * 3)).off + 2, none⟩)) rfl (Or.inl ⟨by rfl, fun w _ => by go_simp⟩) hHeld ?_
                  simp only [Act.put, sz0, sz1, sz2]
                  refine tk (i := 7) (oi := ⟨some 113, .load 4 (.tmp 112), _, _, _, _⟩) (v := .bool true) rfl (Or.inl ⟨by rfl, fun w hSw => by have e1 := hSw.2.2.1; clear hSw; go_simp⟩) hHeld ?_
                  simp only [Act.put, sz0, sz1, sz2]
                  refine tk (i := 8) (oi := ⟨some 114, .unOp .not 4 (.tmp 113), _, _, _, _⟩) (v := .bool false) rfl (Or.inl ⟨by rfl, fun w _ => by go_simp⟩) hHeld ?_
                  simp only [Act.put, sz0, sz1, sz2]
                  refine tk (i := 9) (oi := ⟨some 115, .move (.tmp 114), _, _, _, _⟩) (v := .bool false) rfl (Or.inl ⟨by rfl, fun _ _ => rfl⟩) hHeld ?_
                  simp only [Act.put, sz0, sz1, sz2]
                  refine tk (i := 10) (oi := ⟨some 116, .fieldAddr 38 (.tmp 7) 5, _, _, _, _⟩) (v := undef) rfl (Or.inr ⟨by rfl, rfl⟩) hHeld ?_
                  simp only [Act.put, sz0, sz1, sz2]
                  refine tk (i := 11) (oi := ⟨some 117, .load 34 (.tmp 116), _, _, _, _⟩) (v := undef) rfl (Or.inr ⟨by rfl, rfl⟩) hHeld ?_
                  simp only [Act.put, sz0, sz1, sz2]
                  refine tk (i := 12) (oi := ⟨some 118, .move (.tmp 12), _, _, _, _⟩) (v := undef) rfl (Or.inr ⟨by rfl, rfl⟩) hHeld ?_
                  simp only [Act.put, sz0, sz1, sz2]
                  refine tk (i := 13) (oi := ⟨some 119, .indexAddr 34 (.tmp 117) (.tmp 118), _, _, _, _⟩) (v := undef) rfl (Or.inr ⟨by rfl, rfl⟩) hHeld ?_
                  simp only [Act.put, sz0, sz1, sz2]
                  refine tk (i := 14) (oi := ⟨some 120, .fieldAddr 53 (.tmp 119) 0, _, _, _, _⟩) (v := undef) rfl (Or.inr ⟨by rfl, rfl⟩) hHeld ?_
                  simp only [Act.put, sz0, sz1, sz2]
                  refine tk (i := 15) (oi := ⟨some 121, .load 3 (.tmp 120), _, _, _, _⟩) (v := undef) rfl (Or.inr ⟨by rfl, rfl⟩) hHeld ?_
                  simp only [Act.put, sz0, sz1, sz2]
                  refine tk (i := 16) (oi := ⟨some 122, .fieldAddr 64 (.tmp 10) 0, _, _, _, _⟩) (v := undef) rfl (Or.inr ⟨by rfl, rfl⟩) hHeld ?_
                  simp only [Act.put, sz0, sz1, sz2]
                  refine tk (i := 17) (oi := ⟨some 123, .load 3 (.tmp 122), _, _, _, _⟩) (v := undef) rfl (Or.inr ⟨by rfl, rfl⟩) hHeld ?_
                  simp only [Act.put, sz0, sz1, sz2]
                  refine tk (i := 18) (oi := ⟨some 124, .binOp .eql 3 (.tmp 121) (.tmp 123) 3, _, _, _, _⟩) (v := undef) rfl (Or.inr ⟨by rfl, rfl⟩) hHeld ?_
                  simp only [Act.put, sz0, sz1, sz2]
                  refine tk (i := 19) (oi := ⟨some 125, .pick (.tmp 115) (.tmp 124) (.const (.bool false)), _, _, _, _⟩) (v := .bool false) rfl (Or.inl ⟨by rfl, fun w _ => by go_simp⟩) hHeld ?_
                  simp only [Act.put, sz0, sz1, sz2]
                  refine tk (i := 20) (oi := ⟨some 126, .move (.tmp 125), _, _, _, _⟩) (v := .bool false) rfl (Or.inl ⟨by rfl, fun _ _ => rfl⟩) hHeld ?_
                  simp only [Act.put, sz0, sz1, sz2]
                  refine tk (i := 21) (oi := ⟨some 127, .fieldAddr 64 (.tmp 10) 1, _, _, _, _⟩) (v := undef) rfl (Or.inr ⟨by rfl, rfl⟩) hHeld ?_
                  simp only [Act.put, sz0, sz1, sz2]
                  refine tk (i := 22) (oi := ⟨some 128, .load 3 (.tmp 127), _, _, _, _⟩) (v := undef) rfl (Or.inr ⟨by rfl, rfl⟩) hHeld ?_
                  simp only [Act.put, sz0, sz1, sz2]
                  refine tk (i := 23) (oi := ⟨some 129, .binOp .eql 3 (.tmp 128) (.const (.int .i64 4)) 3, _, _, _, _⟩) (v := undef) rfl (Or.inr ⟨by rfl, rfl⟩) hHeld ?_
                  simp only [Act.put, sz0, sz1, sz2]
                  refine tk (i := 24) (oi := ⟨some 130, .pick (.tmp 126) (.tmp 129) (.const (.bool false)), _, _, _, _⟩) (v := .bool false) rfl (Or.inl ⟨by rfl, fun w _ => by go_simp⟩) hHeld ?_
                  simp only [Act.put, sz0, sz1, sz2]
                  refine tk (i := 25) (oi := ⟨some 131, .pick (.tmp 107) (.const (.bool true)) (.tmp 130), _, _, _, none⟩) (v := .bool false) rfl (Or.inl ⟨by rfl, fun w _ => by go_simp⟩) hHeld ?_
                  simp only [Act.put, sz0, sz1, sz2]
                  refine tk (i := 26) (oi := ⟨some 11, .assign (.tmp 131), _, _, _, none⟩) (v := .bool false) rfl (Or.inl ⟨by rfl, fun _ _ => rfl⟩) hHeld ?_
                  simp only [Act.put, sz0, sz1, sz2]
                  refine wpAnyH_done (by kernel_rfl) ?_ _
                  clear hHeld
                  go_wp2
                  have HN := Lib.hid (show false = (ac.take (k + 1)).any (entB a z) by rw [HS.out, ← HFB.out]; unfold entB; rw [HST.out]; rfl)
                  go_roundw
                  case rel => exact ⟨k + 1, false, by omega, rfl, by go_num, HN.out, l3⟩
                  case measure => simp [intOf]; omega
                | false =>
                  have HA2 := HA2'
                  rw [hst] at HA2
                  have HST := Lib.hid hst
                  clear HA2' hst
                  cases de : (a2 == a) with
                  | false =>
                    go_upto_region 19 with fail
                    replace l3 := l3.drew
                    refine wp_region_held_drew (S := fun w' => w'.cell? ⟨w2.heap.size, 63, none⟩ = some (.slice (some ad2) ac.length ca) ∧ w'.cell? (ad2.add (k * 3)) = some (.int .i64 a2) ∧ w'.cell? ⟨(ad2.add (k * 3)).block, (ad2.add (k * 3)).off + 2, none⟩ = some (.bool false) ∧ w'.cell? ⟨wo.heap.size, 0, none⟩ = some (.int .i64 a) ∧ w'.cell? ⟨wo.heap.size, 1, none⟩ = some (.int .i64 z)) (by kernel_rfl) ⟨(H9.out _ (HU8.out _ l3)).cell (j := 63) (v := .slice (some ad2) ac.length ca) (congrArg some G2.out), HA0.out _ l3, HA2.out _ l3, (H10.out _ l3).cell (j := 0) (v := .int .i64 a) rfl, (H10.out _ l3).cell (j := 1) (v := .int .i64 z) rfl⟩ (fun hHeld => ?_)
                    refine tk (i := 0) (oi := ⟨some 106, .move (.tmp 11), _, _, _, none⟩) (v := .bool false) rfl (Or.inl ⟨by rfl, fun _ _ => rfl⟩) hHeld ?_
                    simp only [Act.put, sz0, sz1, sz2]
                    refine tk (i := 1) (oi := ⟨some 107, .move (.tmp 106), _, _, _, none⟩) (v := .bool false) rfl (Or.inl ⟨by rfl, fun _ _ => rfl⟩) hHeld ?_
                    simp only [Act.put, sz0, sz1, sz2]
                    refine tk (i := 2) (oi := ⟨some 108, .fieldAddr 38 (.tmp 7) 5, _, _, _, _⟩) (v := .pointer (some ⟨w2.heap.size, 63, none⟩)) rfl (Or.inl ⟨by rfl, fun w _ => by go_simp⟩) hHeld ?_
                    simp only [Act.put, sz0, sz1, sz2]
                    refine tk (i := 3) (oi := ⟨some 109, .load 34 (.tmp 108), _, _, _, _⟩) (v := .slice (some ad2) ac.length ca) rfl (Or.inl ⟨by rfl, fun w hSw => by have e1 := hSw.1; clear hSw; go_simp⟩) hHeld ?_
                    simp only [Act.put, sz0, sz1, sz2]
                    refine tk (i := 4) (oi := ⟨some 110, .move (.tmp 12), _, _, _, _⟩) (v := .int .i64 (k : Int)) rfl (Or.inl ⟨by rfl, fun _ _ => rfl⟩) hHeld ?_
                    simp only [Act.put, sz0, sz1, sz2]
                    refine tk (i := 5) (oi := ⟨some 111, .indexAddr 34 (.tmp 109) (.tmp 110), _, _, _, _⟩) (v := .pointer (some (ad2.add (k * 3)))) rfl (Or.inl ⟨by rfl, fun w _ => by go_simp⟩) hHeld ?_
                    simp only [Act.put, sz0, sz1, sz2]
                    refine tk (i := 6) (oi := ⟨some 112, .fieldAddr 53 (.tmp 111) 2, _, _, _, _⟩) (v := .pointer (some ⟨(ad2.add (k * 3)).block, (ad2.add (k * 3)).off + 2, none⟩)) rfl (Or.inl ⟨by rfl, fun w _ => by go_simp⟩) hHeld ?_
                    simp only [Act.put, sz0, sz1, sz2]
                    refine tk (i := 7) (oi := ⟨some 113, .load 4 (.tmp 112), _, _, _, _⟩) (v := .bool false) rfl (Or.inl ⟨by rfl, fun w hSw => by have e1 := hSw.2.2.1; clear hSw; go_simp⟩) hHeld ?_
                    simp only [Act.put, sz0, sz1, sz2]
                    refine tk (i := 8) (oi := ⟨some 114, .unOp .not 4 (.tmp 113), _, _, _, _⟩) (v := .bool true) rfl (Or.inl ⟨by rfl, fun w _ => by go_simp⟩) hHeld ?_
                    simp only [Act.put, sz0, sz1, sz2]
                    refine tk (i := 9) (oi := ⟨some 115, .move (.tmp 114), _, _, _, _⟩) (v := .bool true) rfl (Or.inl ⟨by rfl, fun _ _ => rfl⟩) hHeld ?_
                    simp only [Act.put, sz0, sz1, sz2]
                    refine tk (i := 10) (oi := ⟨some 116, .fieldAddr 38 (.tmp 7) 5, _, _, _, _⟩) (v := .pointer (some ⟨w2.heap.size, 63, none⟩)) rfl (Or.inl ⟨by rfl, fun w _ => by go_simp⟩) hHeld ?_
                    simp only [Act.put, sz0, sz1, sz2]
                    refine tk (i := 11) (oi := ⟨some 117, .load 34 (.tmp 116), _, _, _, _⟩) (v := .slice (some ad2) ac.length ca) rfl (Or.inl ⟨by rfl, fun w hSw => by have e1 := hSw.1; clear hSw; go_simp⟩) hHeld ?_
                    simp only [Act.put, sz0, sz1, sz2]
                    refine tk (i := 12) (oi := ⟨some 118, .move (.tmp 12), _, _, _, _⟩) (v := .int .i64 (k : Int)) rfl (Or.inl ⟨by rfl, fun _ _ => rfl⟩) hHeld ?_
                    simp only [Act.put, sz0, sz1, sz2]
                    refine tk (i := 13) (oi := ⟨some 119, .indexAddr 34 (.tmp 117) (.tmp 118), _, _, _, _⟩) (v := .pointer (some (ad2.add (k * 3)))) rfl (Or.inl ⟨by rfl, fun w _ => by go_simp⟩) hHeld ?_
                    simp only [Act.put, sz0, sz1, sz2]
                    refine tk (i := 14) (oi := ⟨some 120, .fieldAddr 53 (.tmp 119) 0, _, _, _, _⟩) (v := .pointer (some (ad2.add (k * 3)))) rfl (Or.inl ⟨by rfl, fun w _ => by go_simp⟩) hHeld ?_
                    simp only [Act.put, sz0, sz1, sz2]
                    refine tk (i := 15) (oi := ⟨some 121, .load 3 (.tmp 120), _, _, _, _⟩) (v := .int .i64 a2) rfl (Or.inl ⟨by rfl, fun w hSw => by have e1 := hSw.2.1; clear hSw; go_simp⟩) hHeld ?_
                    simp only [Act.put, sz0, sz1, sz2]
                    refine tk (i := 16) (oi := ⟨some 122, .fieldAddr 64 (.tmp 10) 0, _, _, _, _⟩) (v := .pointer (some ⟨wo.heap.size, 0, none⟩)) rfl (Or.inl ⟨by rfl, fun w _ => by go_simp⟩) hHeld ?_
                    simp only [Act.put, sz0, sz1, sz2]
                    refine tk (i := 17) (oi := ⟨some 123, .load 3 (.tmp 122), _, _, _, _⟩) (v := .int .i64 a) rfl (Or.inl ⟨by rfl, fun w hSw => by have e1 := hSw.2.2.2.1; clear hSw; go_simp⟩) hHeld ?_
                    simp only [Act.put, sz0, sz1, sz2]
                    refine tk (i := 18) (oi := ⟨some 124, .binOp .eql 3 (.tmp 121) (.tmp 123) 3, _, _, _, _⟩) (v := .bool false) rfl (Or.inl ⟨by rfl, fun w _ => by go_simp⟩) hHeld ?_
                    simp only [Act.put, sz0, sz1, sz2]
                    refine tk (i := 19) (oi := ⟨some 125, .pick (.tmp 115) (.tmp 124) (.const (.bool false)), _, _, _, _⟩) (v := .bool false) rfl (Or.inl ⟨by rfl, fun w _ => by go_simp⟩) hHeld ?_
                    simp only [Act.put, sz0, sz1, sz2]
                    refine tk (i := 20) (oi := ⟨some 126, .move (.tmp 125), _, _, _, _⟩) (v := .bool false) rfl (Or.inl ⟨by rfl, fun _ _ => rfl⟩) hHeld ?_
                    simp only [Act.put, sz0, sz1, sz2]
                    refine tk (i := 21) (oi := ⟨some 127, .fieldAddr 64 (.tmp 10) 1, _, _, _, _⟩) (v := undef) rfl (Or.inr ⟨by rfl, rfl⟩) hHeld ?_
                    simp only [Act.put, sz0, sz1, sz2]
                    refine tk (i := 22) (oi := ⟨some 128, .load 3 (.tmp 127), _, _, _, _⟩) (v := undef) rfl (Or.inr ⟨by rfl, rfl⟩) hHeld ?_
                    simp only [Act.put, sz0, sz1, sz2]
                    refine tk (i := 23) (oi := ⟨some 129, .binOp .eql 3 (.tmp 128) (.const (.int .i64 4)) 3, _, _, _, _⟩) (v := undef) rfl (Or.inr ⟨by rfl, rfl⟩) hHeld ?_
                    simp only [Act.put, sz0, sz1, sz2]
                    refine tk (i := 24) (oi := ⟨some 130, .pick (.tmp 126) (.tmp 129) (.const (.bool false)), _, _, _, _⟩) (v := .bool false) rfl (Or.inl ⟨by rfl, fun w _ => by go_simp⟩) hHeld ?_
                    simp only [Act.put, sz0, sz1, sz2]
                    refine tk (i := 25) (oi := ⟨some 131, .pick (.tmp 107) (.const (.bool true)) (.tmp 130), _, _, _, none⟩) (v := .bool false) rfl (Or.inl ⟨by rfl, fun w _ => by go_simp⟩) hHeld ?_
                    simp only [Act.put, sz0, sz1, sz2]
                    refine tk (i := 26) (oi := ⟨some 11, .assign (.tmp 131), _, _, _, none⟩) (v := .bool false) rfl (Or.inl ⟨by rfl, fun _ _ => rfl⟩) hHeld ?_
                    simp only [Act.put, sz0, sz1, sz2]
                    refine wpAnyH_done (by kernel_rfl) ?_ _
                    clear hHeld
                    go_wp2
                    have HN := Lib.hid (show false = (ac.take (k + 1)).any (entB a z) by rw [HS.out, ← HFB.out]; unfold entB; rw [HST.out, ← HA.out, de]; rfl)
                    go_roundw
                    case rel => exact ⟨k + 1, false, by omega, rfl, by go_num, HN.out, l3⟩
                    case measure => simp [intOf]; omega
                  | true =>
                    cases dz : (z == 4) with
                    | false =>
                      go_upto_region 19 with fail
                      replace l3 := l3.drew
                      refine wp_region_held_drew (S := fun w' => w'.cell? ⟨w2.heap.size, 63, none⟩ = some (.slice (some ad2) ac.length ca) ∧ w'.cell? (ad2.add (k * 3)) = some (.int .i64 a2) ∧ w'.cell? ⟨(ad2.add (k * 3)).block, (ad2.add (k * 3)).off + 2, none⟩ = some (.bool false) ∧ w'.cell? ⟨wo.heap.size, 0, none⟩ = some (.int .i64 a) ∧ w'.cell? ⟨wo.heap.size, 1, none⟩ = some (.int .i64 z)) (by kernel_rfl) ⟨(H9.out _ (HU8.out _ l3)).cell (j := 63) (v := .slice (some ad2) ac.length ca) (congrArg some G2.out), HA0.out _ l3, HA2.out _ l3, (H10.out _ l3).cell (j := 0) (v := .int .i64 a) rfl, (H10.out _ l3).cell (j := 1) (v := .int .i64 z) rfl⟩ (fun hHeld => ?_)
                      refine tk (i := 0) (oi := ⟨some 106, .move (.tmp 11), _, _, _, none⟩) (v := .bool false) rfl (Or.inl ⟨by rfl, fun _ _ => rfl⟩) hHeld ?_
                      simp only [Act.put, sz0, sz1, sz2]
                      refine tk (i := 1) (oi := ⟨some 107, .move (.tmp 106), _, _, _, none⟩) (v := .bool false) rfl (Or.inl ⟨by rfl, fun _ _ => rfl⟩) hHeld ?_
                      simp only [Act.put, sz0, sz1, sz2]
                      refine tk (i := 2) (oi := ⟨some 108, .fieldAddr 38 (.tmp 7) 5, _, _, _, _⟩) (v := .pointer (some ⟨w2.heap.size, 63, none⟩)) rfl (Or.inl ⟨by rfl, fun w _ => by go_simp⟩) hHeld ?_
                      simp only [Act.put, sz0, sz1, sz2]
                      refine tk (i := 3) (oi := ⟨some 109, .load 34 (.tmp 108), _, _, _, _⟩) (v := .slice (some ad2) ac.length ca) rfl (Or.inl ⟨by rfl, fun w hSw => by have e1 := hSw.1; clear hSw; go_simp⟩) hHeld ?_
                      simp only [Act.put, sz0, sz1, sz2]
                      refine tk (i := 4) (oi := ⟨some 110, .move (.tmp 12), _, _, _, _⟩) (v := .int .i64 (k : Int)) rfl (Or.inl ⟨by rfl, fun _ _ => rfl⟩) hHeld ?_
                      simp only [Act.put, sz0, sz1, sz2]
                      refine tk (i := 5) (oi := ⟨some 111, .indexAddr 34 (.tmp 109) (.tmp 110), _, _, _, _⟩) (v := .pointer (some (ad2.add (k * 3)))) rfl (Or.inl ⟨by rfl, fun w _ => by go_simp⟩) hHeld ?_
                      simp only [Act.put, sz0, sz1, sz2]
                      refine tk (i := 6) (oi := ⟨some 112, .fieldAddr 53 (.tmp 111) 2, _, _, _, _⟩) (v := .pointer (some ⟨(ad2.add (k * 3)).block, (ad2.add (k * 3)).off + 2, none⟩)) rfl (Or.inl ⟨by rfl, fun w _ => by go_simp⟩) hHeld ?_
                      simp only [Act.put, sz0, sz1, sz2]
                      refine tk (i := 7) (oi := ⟨some 113, .load 4 (.tmp 112), _, _, _, _⟩) (v := .bool false) rfl (Or.inl ⟨by rfl, fun w hSw => by have e1 := hSw.2.2.1; clear hSw; go_simp⟩) hHeld ?_
                      simp only [Act.put, sz0, sz1, sz2]
                      refine tk (i := 8) (oi := ⟨some 114, .unOp .not 4 (.tmp 113), _, _, _, _⟩) (v := .bool true) rfl (Or.inl ⟨by rfl, fun w _ => by go_simp⟩) hHeld ?_
                      simp only [Act.put, sz0, sz1, sz2]
                      refine tk (i := 9) (oi := ⟨some 115, .move (.tmp 114), _, _, _, _⟩) (v := .bool true) rfl (Or.inl ⟨by rfl, fun _ _ => rfl⟩) hHeld ?_
                      simp only [Act.put, sz0, sz1, sz2]
                      refine tk (i := 10) (oi := ⟨some 116, .fieldAddr 38 (.tmp 7) 5, _, _, _, _⟩) (v := .pointer (some ⟨w2.heap.size, 63, none⟩)) rfl (Or.inl ⟨by rfl, fun w _ => by go_simp⟩) hHeld ?_
                      simp only [Act.put, sz0, sz1, sz2]
                      refine tk (i := 11) (oi := ⟨some 117, .load 34 (.tmp 116), _, _, _, _⟩) (v := .slice (some ad2) ac.length ca) rfl (Or.inl ⟨by rfl, fun w hSw => by have e1 := hSw.1; clear hSw; go_simp⟩) hHeld ?_
                      simp only [Act.put, sz0, sz1, sz2]
                      refine tk (i := 12) (oi := ⟨some 118, .move (.tmp 12), _, _, _, _⟩) (v := .int .i64 (k : Int)) rfl (Or.inl ⟨by rfl, fun _ _ => rfl⟩) hHeld ?_
                      simp only [Act.put, sz0, sz1, sz2]
                      refine tk (i := 13) (oi := ⟨some 119, .indexAddr 34 (.tmp 117) (.tmp 118), _, _, _, _⟩) (v := .pointer (some (ad2.add (k * 3)))) rfl (Or.inl ⟨by rfl, fun w _ => by go_simp⟩) hHeld ?_
                      simp only [Act.put, sz0, sz1, sz2]
                      refine tk (i := 14) (oi := ⟨some 120, .fieldAddr 53 (.tmp 119) 0, _, _, _, _⟩) (v := .pointer (some (ad2.add (k * 3)))) rfl (Or.inl ⟨by rfl, fun w _ => by go_simp⟩) hHeld ?_
                      simp only [Act.put, sz0, sz1, sz2]
                      refine tk (i := 15) (oi := ⟨some 121, .load 3 (.tmp 120), _, _, _, _⟩) (v := .int .i64 a2) rfl (Or.inl ⟨by rfl, fun w hSw => by have e1 := hSw.2.1; clear hSw; go_simp⟩) hHeld ?_
                      simp only [Act.put, sz0, sz1, sz2]
                      refine tk (i := 16) (oi := ⟨some 122, .fieldAddr 64 (.tmp 10) 0, _, _, _, _⟩) (v := .pointer (some ⟨wo.heap.size, 0, none⟩)) rfl (Or.inl ⟨by rfl, fun w _ => by go_simp⟩) hHeld ?_
                      simp only [Act.put, sz0, sz1, sz2]
                      refine tk (i := 17) (oi := ⟨some 123, .load 3 (.tmp 122), _, _, _, _⟩) (v := .int .i64 a) rfl (Or.inl ⟨by rfl, fun w hSw => by have e1 := hSw.2.2.2.1; clear hSw; go_simp⟩) hHeld ?_
                      simp only [Act.put, sz0, sz1, sz2]
                      refine tk (i := 18) (oi := ⟨some 124, .binOp .eql 3 (.tmp 121) (.tmp 123) 3, _, _, _, _⟩) (v := .bool true) rfl (Or.inl ⟨by rfl, fun w _ => by go_simp⟩) hHeld ?_
                      simp only [Act.put, sz0, sz1, sz2]
                      refine tk (i := 19) (oi := ⟨some 125, .pick (.tmp 115) (.tmp 124) (.const (.bool false)), _, _, _, _⟩) (v := .bool true) rfl (Or.inl ⟨by rfl, fun w _ => by go_simp⟩) hHeld ?_
                      simp only [Act.put, sz0, sz1, sz2]
                      refine tk (i := 20) (oi := ⟨some 126, .move (.tmp 125), _, _, _, _⟩) (v := .bool true) rfl (Or.inl ⟨by rfl, fun _ _ => rfl⟩) hHeld ?_
                      simp only [Act.put, sz0, sz1, sz2]
                      refine tk (i := 21) (oi := ⟨some 127, .fieldAddr 64 (.tmp 10) 1, _, _, _, _⟩) (v := .pointer (some ⟨wo.heap.size, 1, none⟩)) rfl (Or.inl ⟨by rfl, fun w _ => by go_simp⟩) hHeld ?_
                      simp only [Act.put, sz0, sz1, sz2]
                      refine tk (i := 22) (oi := ⟨some 128, .load 3 (.tmp 127), _, _, _, _⟩) (v := .int .i64 z) rfl (Or.inl ⟨by rfl, fun w hSw => by have e1 := hSw.2.2.2.2; clear hSw; go_simp⟩) hHeld ?_
                      simp only [Act.put, sz0, sz1, sz2]
                      refine tk (i := 23) (oi := ⟨some 129, .binOp .eql 3 (.tmp 128) (.const (.int .i64 4)) 3, _, _, _, _⟩) (v := .bool false) rfl (Or.inl ⟨by rfl, fun w _ => by go_simp⟩) hHeld ?_
                      simp only [Act.put, sz0, sz1, sz2]
                      refine tk (i := 24) (oi := ⟨some 130, .pick (.tmp 126) (.tmp 129) (.const (.bool false)), _, _, _, _⟩) (v := .bool false) rfl (Or.inl ⟨by rfl, fun w _ => by go_simp⟩) hHeld ?_
                      simp only [Act.put, sz0, sz1, sz2]
                      refine tk (i := 25) (oi := ⟨some 131, .pick (.tmp 107) (.const (.bool true)) (.tmp 130), _, _, _, none⟩) (v := .bool false) rfl (Or.inl ⟨by rfl, fun w _ => by go_simp⟩) hHeld ?_
                      simp only [Act.put, sz0, sz1, sz2]
                      refine tk (i := 26) (oi := ⟨some 11, .assign (.tmp 131), _, _, _, none⟩) (v := .bool false) rfl (Or.inl ⟨by rfl, fun _ _ => rfl⟩) hHeld ?_
                      simp only [Act.put, sz0, sz1, sz2]
                      refine wpAnyH_done (by kernel_rfl) ?_ _
                      clear hHeld
                      go_wp2
                      have HN := Lib.hid (show false = (ac.take (k + 1)).any (entB a z) by rw [HS.out, ← HFB.out]; unfold entB; rw [HST.out, ← HA.out, de, dz]; rfl)
                      go_roundw
                      case rel => exact ⟨k + 1, false, by omega, rfl, by go_num, HN.out, l3⟩
                      case measure => simp [intOf]; omega
                    | true =>
                      go_upto_region 19 with fail
                      replace l3 := l3.drew
                      refine wp_region_held_drew (S := fun w' => w'.cell? ⟨w2.heap.size, 63, none⟩ = some (.slice (some ad2) ac.length ca) ∧ w'.cell? (ad2.add (k * 3)) = some (.int .i64 a2) ∧ w'.cell? ⟨(ad2.add (k * 3)).block, (ad2.add (k * 3)).off + 2, none⟩ = some (.bool false) ∧ w'.cell? ⟨wo.heap.size, 0, none⟩ = some (.int .i64 a) ∧ w'.cell? ⟨wo.heap.size, 1, none⟩ = some (.int .i64 z)) (by kernel_rfl) ⟨(H9.out _ (HU8.out _ l3)).cell (j := 63) (v := .slice (some ad2) ac.length ca) (congrArg some G2.out), HA0.out _ l3, HA2.out _ l3, (H10.out _ l3).cell (j := 0) (v := .int .i64 a) rfl, (H10.out _ l3).cell (j := 1) (v := .int .i64 z) rfl⟩ (fun hHeld => ?_)
                      refine tk (i := 0) (oi := ⟨some 106, .move (.tmp 11), _, _, _, none⟩) (v := .bool false) rfl (Or.inl ⟨by rfl, fun _ _ => rfl⟩) hHeld ?_
                      simp only [Act.put, sz0, sz1, sz2]
                      refine tk (i := 1) (oi := ⟨some 107, .move (.tmp 106), _, _, _, none⟩) (v := .bool false) rfl (Or.inl ⟨by rfl, fun _ _ => rfl⟩) hHeld ?_
                      simp only [Act.put, sz0, sz1, sz2]
                      refine tk (i := 2) (oi := ⟨some 108, .fieldAddr 38 (.tmp 7) 5, _, _, _, _⟩) (v := .pointer (some ⟨w2.heap.size, 63, none⟩)) rfl (Or.inl ⟨by rfl, fun w _ => by go_simp⟩) hHeld ?_
                      simp only [Act.put, sz0, sz1, sz2]
                      refine tk (i := 3) (oi := ⟨some 109, .load 34 (.tmp 108), _, _, _, _⟩) (v := .slice (some ad2) ac.length ca) rfl (Or.inl ⟨by rfl, fun w hSw => by have e1 := hSw.1; clear hSw; go_simp⟩) hHeld ?_
                      simp only [Act.put, sz0, sz1, sz2]
                      refine tk (i := 4) (oi := ⟨some 110, .move (.tmp 12), _, _, _, _⟩) (v := .int .i64 (k : Int)) rfl (Or.inl ⟨by rfl, fun _ _ => rfl⟩) hHeld ?_
                      simp only [Act.put, sz0, sz1, sz2]
                      refine tk (i := 5) (oi := ⟨some 111, .indexAddr 34 (.tmp 109) (.tmp 110), _, _, _, _⟩) (v := .pointer (some (ad2.add (k * 3)))) rfl (Or.inl ⟨by rfl, fun w _ => by go_simp⟩) hHeld ?_
                      simp only [Act.put, sz0, sz1, sz2]
                      refine tk (i := 6) (oi := ⟨some 112, .fieldAddr 53 (.tmp 111) 2, _, _, _, _⟩) (v := .pointer (some ⟨(ad2.add (k * 3)).block, (ad2.add (k * 3)).off + 2, none⟩)) rfl (Or.inl ⟨by rfl, fun w _ => by go_simp⟩) hHeld ?_
                      simp only [Act.put, sz0, sz1, sz2]
                      refine tk (i := 7) (oi := ⟨some 113, .load 4 (.tmp 112), _, _, _, _⟩) (v := .bool false) rfl (Or.inl ⟨by rfl, fun w hSw => by have e1 := hSw.2.2.1; clear hSw; go_simp⟩) hHeld ?_
                      simp only [Act.put, sz0, sz1, sz2]
                      refine tk (i := 8) (oi := ⟨some 114, .unOp .not 4 (.tmp 113), _, _, _, _⟩) (v := .bool true) rfl (Or.inl ⟨by rfl, fun w _ => by go_simp⟩) hHeld ?_
                      simp only [Act.put, sz0, sz1, sz2]
                      refine tk (i := 9) (oi := ⟨some 115, .move (.tmp 114), _, _, _, _⟩) (v := .bool true) rfl (Or.inl ⟨by rfl, fun _ _ => rfl⟩) hHeld ?_
                      simp only [Act.put, sz0, sz1, sz2]
                      refine tk (i := 10) (oi := ⟨some 116, .fieldAddr 38 (.tmp 7) 5, _, _, _, _⟩) (v := .pointer (some ⟨w2.heap.size, 63, none⟩)) rfl (Or.inl ⟨by rfl, fun w _ => by go_simp⟩) hHeld ?_
                      simp only [Act.put, sz0, sz1, sz2]
                      refine tk (i := 11) (oi := ⟨some 117, .load 34 (.tmp 116), _, _, _, _⟩) (v := .slice (some ad2) ac.length ca) rfl (Or.inl ⟨by rfl, fun w hSw => by have e1 := hSw.1; clear hSw; go_simp⟩) hHeld ?_
                      simp only [Act.put, sz0, sz1, sz2]
                      refine tk (i := 12) (oi := ⟨some 118, .move (.tmp 12), _, _, _, _⟩) (v := .int .i64 (k : Int)) rfl (Or.inl ⟨by rfl, fun _ _ => rfl⟩) hHeld ?_
                      simp only [Act.put, sz0, sz1, sz2]
                      refine tk (i := 13) (oi := ⟨some 119, .indexAddr 34 (.tmp 117) (.tmp 118), _, _, _, _⟩) (v := .pointer (some (ad2.add (k * 3)))) rfl (Or.inl ⟨by rfl, fun w _ => by go_simp⟩) hHeld ?_
                      simp only [Act.put, sz0, sz1, sz2]
                      refine tk (i := 14) (oi := ⟨some 120, .fieldAddr 53 (.tmp 119) 0, _, _, _, _⟩) (v := .pointer (some (ad2.add (k * 3)))) rfl (Or.inl ⟨by rfl, fun w _ => by go_simp⟩) hHeld ?_
                      simp only [Act.put, sz0, sz1, sz2]
                      refine tk (i := 15) (oi := ⟨some 121, .load 3 (.tmp 120), _, _, _, _⟩) (v := .int .i64 a2) rfl (Or.inl ⟨by rfl, fun w hSw => by have e1 := hSw.2.1; clear hSw; go_simp⟩) hHeld ?_
                      simp only [Act.put, sz0, sz1, sz2]
                      refine tk (i := 16) (oi := ⟨some 122, .fieldAddr 64 (.tmp 10) 0, _, _, _, _⟩) (v := .pointer (some ⟨wo.heap.size, 0, none⟩)) rfl (Or.inl ⟨by rfl, fun w _ => by go_simp⟩) hHeld ?_
                      simp only [Act.put, sz0, sz1, sz2]
                      refine tk (i := 17) (oi := ⟨some 123, .load 3 (.tmp 122), _, _, _, _⟩) (v := .int .i64 a) rfl (Or.inl ⟨by rfl, fun w hSw => by have e1 := hSw.2.2.2.1; clear hSw; go_simp⟩) hHeld ?_
                      simp only [Act.put, sz0, sz1, sz2]
                      refine tk (i := 18) (oi := ⟨some 124, .binOp .eql 3 (.tmp 121) (.tmp 123) 3, _, _, _, _⟩) (v := .bool true) rfl (Or.inl ⟨by rfl, fun w _ => by go_simp⟩) hHeld ?_
                      simp only [Act.put, sz0, sz1, sz2]
                      refine tk (i := 19) (oi := ⟨some 125, .pick (.tmp 115) (.tmp 124) (.const (.bool false)), _, _, _, _⟩) (v := .bool true) rfl (Or.inl ⟨by rfl, fun w _ => by go_simp⟩) hHeld ?_
                      simp only [Act.put, sz0, sz1, sz2]
                      refine tk (i := 20) (oi := ⟨some 126, .move (.tmp 125), _, _, _, _⟩) (v := .bool true) rfl (Or.inl ⟨by rfl, fun _ _ => rfl⟩) hHeld ?_
                      simp only [Act.put, sz0, sz1, sz2]
                      refine tk (i := 21) (oi := ⟨some 127, .fieldAddr 64 (.tmp 10) 1, _, _, _, _⟩) (v := .pointer (some ⟨wo.heap.size, 1, none⟩)) rfl (Or.inl ⟨by rfl, fun w _ => by go_simp⟩) hHeld ?_
                      simp only [Act.put, sz0, sz1, sz2]
                      refine tk (i := 22) (oi := ⟨some 128, .load 3 (.tmp 127), _, _, _, _⟩) (v := .int .i64 z) rfl (Or.inl ⟨by rfl, fun w hSw => by have e1 := hSw.2.2.2.2; clear hSw; go_simp⟩) hHeld ?_
                      simp only [Act.put, sz0, sz1, sz2]
                      refine tk (i := 23) (oi := ⟨some 129, .binOp .eql 3 (.tmp 128) (.const (.int .i64 4)) 3, _, _, _, _⟩) (v := .bool true) rfl (Or.inl ⟨by rfl, fun w _ => by go_simp⟩) hHeld ?_
                      simp only [Act.put, sz0, sz1, sz2]
                      refine tk (i := 24) (oi := ⟨some 130, .pick (.tmp 126) (.tmp 129) (.const (.bool false)), _, _, _, _⟩) (v := .bool true) rfl (Or.inl ⟨by rfl, fun w _ => by go_simp⟩) hHeld ?_
                      simp only [Act.put, sz0, sz1, sz2]
                      refine tk (i := 25) (oi := ⟨some 131, .pick (.tmp 107) (.const (.bool true)) (.tmp 130), _, _, _, none⟩) (v := .bool true) rfl (Or.inl ⟨by rfl, fun w _ => by go_simp⟩) hHeld ?_
                      simp only [Act.put, sz0, sz1, sz2]
                      refine tk (i := 26) (oi := ⟨some 11, .assign (.tmp 131), _, _, _, none⟩) (v := .bool true) rfl (Or.inl ⟨by rfl, fun _ _ => rfl⟩) hHeld ?_
                      simp only [Act.put, sz0, sz1, sz2]
                      refine wpAnyH_done (by kernel_rfl) ?_ _
                      clear hHeld
                      go_wp2
                      have HN := Lib.hid (show true = (ac.take (k + 1)).any (entB a z) by rw [HS.out, ← HFB.out]; unfold entB; rw [HST.out, ← HA.out, de, dz]; rfl)
                      go_roundw
                      case rel => exact ⟨k + 1, true, by omega, rfl, by go_num, HN.out, l3⟩
                      case measure => simp [intOf]; omega
            · obtain rfl : k = ac.length := by omega
              have HF1 := Lib.hid (show fb = ac.any (entB a z) by have := HFB.out; rwa [List.take_length] at this)
              clear hlt hk HFB
              go_wp2
              clear e63
              go_loopw [11, 13] (fun f q wr => ∃ (k : Nat) (fb : Bool), k ≤ LL.length ∧ f = .bool fb ∧ q = .int .i64 (k : Int) ∧ Hid (fb = (ac.any (entB a z) || (LL.take k).any (inB a))) ∧ Later u8 wr) (fun _ q _ => LL.length - (intOf q).toNat)
              case atStart => exact ⟨0, fb, Nat.zero_le _, rfl, rfl, (show fb = (ac.any (entB a z) || (LL.take 0).any (inB a)) from by rw [HF1.out, List.take_zero, List.any_nil, Bool.or_false]), l3⟩
              case round =>
                clear l3 HF1
                obtain ⟨k, fb, hk, rfl, rfl, HF2, l3⟩ := hrel
                by_cases hlt : k < LL.length
                · have hkn : (k : Int) < (LL.length : Int) := by omega
                  have hk9 : (k : Int) < 1025 := by have := HLN.out; omega
                  have hk0 : (0 : Int) ≤ k := by omega
                  obtain ⟨ad3, hAd⟩ := (HGL.out _ (HU8.out _ l3)).addr (by omega)
                  have HAA := Lib.hid (fun w' (l : Later u8 w') => (show Sl w' 3 (some ad3) LL.length (Mgs LL) by have h1 := HGL.out _ (HU8.out _ l); rw [hAd] at h1; exact h1))
                  obtain ⟨pa, hpa⟩ : ∃ pa, pa = LL[k].1.2.1 := ⟨_, rfl⟩
                  obtain ⟨q, hq⟩ : ∃ q, q = LL[k].1.2.2 := ⟨_, rfl⟩
                  have HPA := Lib.hid hpa
                  have HQB := Lib.hid hq
                  have HP1 := Lib.hid (fun w' (l : Later u8 w') => (show w'.cell? ⟨(ad3.add (k * 3)).block, (ad3.add (k * 3)).off + 1, none⟩ = some (.int .u32 pa) by have h1 := (HAA.out _ l).mg hlt rfl 1 _ rfl; rw [ad_add1] at h1; rw [HPA.out]; exact h1))
                  have HP2 := Lib.hid (fun w' (l : Later u8 w') => (show w'.cell? ⟨(ad3.add (k * 3)).block, (ad3.add (k * 3)).off + 2, none⟩ = some (.int .i64 q) by have h1 := (HAA.out _ l).mg hlt rfl 2 _ rfl; rw [ad_add2] at h1; rw [HQB.out]; exact h1))
                  have HS := Lib.hid (any_succ (inB a) LL hlt)
                  have hpr : 0 ≤ pa ∧ pa < 4294967296 := by rw [hpa]; exact LL[k].2
                  have wp : IntKind.i64.wrap pa = pa := by rw [IntKind.wrap_i64]; omega
                  have m1 : IntKind.i64.wrap 128 = 128 := by decide
                  have m2 : IntKind.i64.wrap 4096 = 4096 := by decide
                  have wp1 : IntKind.i64.wrap (pa + 128) = pa + 128 := by rw [IntKind.wrap_i64]; omega
                  have wp2 : IntKind.i64.wrap (pa + 4096) = pa + 4096 := by rw [IntKind.wrap_i64]; omega
                  obtain ⟨x6, x4, x2⟩ := band_has (show 0 ≤ q ∧ q < 128 by rw [hq]; exact HMB.out k hlt)
                  have X4 := Lib.hid x4
                  have X2 := Lib.hid x2
                  clear x4 x2
                  have hsz : Tm.szM LL[k] = if Tm.has q 64 then 4096 else 128 := by rw [hq]; rfl
                  have e2 := HP2.out _ l3
                  clear hpa hq HAA hpr
                  subst hAd
                  cases h6 : Tm.has q 64 with
                  | true =>
                    rw [h6, if_pos rfl] at x6 hsz
                    have HSZ := Lib.hid (show Tm.szM LL[k] = 4096 from hsz)
                    clear hsz h6
                    go_upto_region 26 with fail
                    replace l3 := l3.drew
                    clear e2
                    cases dg : decide (pa ≤ a) with
                    | false =>
                      have HIN := Lib.hid (show inB a LL[k] = false by unfold inB; rw [← HPA.out, dg]; rfl)
                      refine wp_region_held_drew (S := fun w' => w'.cell? ⟨wo.heap.size, 0, none⟩ = some (.int .i64 a) ∧ w'.cell? ⟨(ad3.add (k * 3)).block, (ad3.add (k * 3)).off + 1, none⟩ = some (.int .u32 pa)) (by kernel_rfl) ⟨(H10.out _ l3).cell (j := 0) (v := .int .i64 a) rfl, HP1.out _ l3⟩ (fun hHeld => ?_)
                      refine tk (i := 0) (oi := ⟨some 145, .fieldAddr 64 (.tmp 10) 0, _, _, _, none⟩) (v := .pointer (some ⟨wo.heap.size, 0, none⟩)) rfl (Or.inl ⟨by rfl, fun w _ => by go_simp⟩) hHeld ?_
                      simp only [Act.put, sz0, sz1, sz2]
                      refine tk (i := 1) (oi := ⟨some 146, .load 3 (.tmp 145), _, _, _, none⟩) (v := .int .i64 a) rfl (Or.inl ⟨by rfl, fun w hSw => by have e1 := hSw.1; clear hSw; go_simp⟩) hHeld ?_
                      simp only [Act.put, sz0, sz1, sz2]
                      refine tk (i := 2) (oi := ⟨some 147, .move (.tmp 8), _, _, _, none⟩) (v := .slice (some ad3) LL.length kl) rfl (Or.inl ⟨by rfl, fun _ _ => rfl⟩) hHeld ?_
                      simp only [Act.put, sz0, sz1, sz2]
                      refine tk (i := 3) (oi := ⟨some 148, .move (.tmp 13), _, _, _, none⟩) (v := .int .i64 (k : Int)) rfl (Or.inl ⟨by rfl, fun _ _ => rfl⟩) hHeld ?_
                      simp only [Act.put, sz0, sz1, sz2]
                      refine tk (i := 4) (oi := ⟨some 149, .indexAddr 65 (.tmp 147) (.tmp 148), _, _, _, none⟩) (v := .pointer (some (ad3.add (k * 3)))) rfl (Or.inl ⟨by rfl, fun w _ => by go_simp⟩) hHeld ?_
                      simp only [Act.put, sz0, sz1, sz2]
                      refine tk (i := 5) (oi := ⟨some 150, .fieldAddr 68 (.tmp 149) 1, _, _, _, none⟩) (v := .pointer (some ⟨(ad3.add (k * 3)).block, (ad3.add (k * 3)).off + 1, none⟩)) rfl (Or.inl ⟨by rfl, fun w _ => by go_simp⟩) hHeld ?_
                      simp only [Act.put, sz0, sz1, sz2]
                      refine tk (i := 6) (oi := ⟨some 151, .load 22 (.tmp 150), _, _, _, none⟩) (v := .int .u32 pa) rfl (Or.inl ⟨by rfl, fun w hSw => by have e1 := hSw.2; clear hSw; go_simp⟩) hHeld ?_
                      simp only [Act.put, sz0, sz1, sz2]
                      refine tk (i := 7) (oi := ⟨some 152, .convert 22 3 (.tmp 151), _, _, _, none⟩) (v := .int .i64 pa) rfl (Or.inl ⟨by rfl, fun w _ => by go_simp⟩) hHeld ?_
                      simp only [Act.put, sz0, sz1, sz2]
                      refine tk (i := 8) (oi := ⟨some 153, .binOp .geq 3 (.tmp 146) (.tmp 152) 3, _, _, _, none⟩) (v := .bool false) rfl (Or.inl ⟨by rfl, fun w _ => by go_simp⟩) hHeld ?_
                      simp only [Act.put, sz0, sz1, sz2]
                      refine tk (i := 9) (oi := ⟨some 154, .move (.tmp 153), _, _, _, none⟩) (v := .bool false) rfl (Or.inl ⟨by rfl, fun _ _ => rfl⟩) hHeld ?_
                      simp only [Act.put, sz0, sz1, sz2]
                      refine tk (i := 10) (oi := ⟨some 155, .fieldAddr 64 (.tmp 10) 0, _, _, _, _⟩) (v := undef) rfl (Or.inr ⟨by rfl, rfl⟩) hHeld ?_
                      simp only [Act.put, sz0, sz1, sz2]
                      refine tk (i := 11) (oi := ⟨some 156, .load 3 (.tmp 155), _, _, _, _⟩) (v := undef) rfl (Or.inr ⟨by rfl, rfl⟩) hHeld ?_
                      simp only [Act.put, sz0, sz1, sz2]
                      refine tk (i := 12) (oi := ⟨some 157, .move (.tmp 8), _, _, _, _⟩) (v := undef) rfl (Or.inr ⟨by rfl, rfl⟩) hHeld ?_
                      simp only [Act.put, sz0, sz1, sz2]
                      refine tk (i := 13) (oi := ⟨some 158, .move (.tmp 13), _, _, _, _⟩) (v := undef) rfl (Or.inr ⟨by rfl, rfl⟩) hHeld ?_
                      simp only [Act.put, sz0, sz1, sz2]
                      refine tk (i := 14) (oi := ⟨some 159, .indexAddr 65 (.tmp 157) (.tmp 158), _, _, _, _⟩) (v := undef) rfl (Or.inr ⟨by rfl, rfl⟩) hHeld ?_
                      simp only [Act.put, sz0, sz1, sz2]
                      refine tk (i := 15) (oi := ⟨some 160, .fieldAddr 68 (.tmp 159) 1, _, _, _, _⟩) (v := undef) rfl (Or.inr ⟨by rfl, rfl⟩) hHeld ?_
                      simp only [Act.put, sz0, sz1, sz2]
                      refine tk (i := 16) (oi := ⟨some 161, .load 22 (.tmp 160), _, _, _, _⟩) (v := undef) rfl (Or.inr ⟨by rfl, rfl⟩) hHeld ?_
                      simp only [Act.put, sz0, sz1, sz2]
                      refine tk (i := 17) (oi := ⟨some 162, .convert 22 3 (.tmp 161), _, _, _, _⟩) (v := undef) rfl (Or.inr ⟨by rfl, rfl⟩) hHeld ?_
                      simp only [Act.put, sz0, sz1, sz2]
                      refine tk (i := 18) (oi := ⟨some 163, .move (.tmp 14), _, _, _, _⟩) (v := undef) rfl (Or.inr ⟨by rfl, rfl⟩) hHeld ?_
                      simp only [Act.put, sz0, sz1, sz2]
                      refine tk (i := 19) (oi := ⟨some 164, .binOp .mul 3 (.tmp 163) (.const (.int .i64 128)) 3, _, _, _, _⟩) (v := undef) rfl (Or.inr ⟨by rfl, rfl⟩) hHeld ?_
                      simp only [Act.put, sz0, sz1, sz2]
                      refine tk (i := 20) (oi := ⟨some 165, .binOp .add 3 (.tmp 162) (.tmp 164) 3, _, _, _, _⟩) (v := undef) rfl (Or.inr ⟨by rfl, rfl⟩) hHeld ?_
                      simp only [Act.put, sz0, sz1, sz2]
                      refine tk (i := 21) (oi := ⟨some 166, .binOp .lss 3 (.tmp 156) (.tmp 165) 3, _, _, _, _⟩) (v := undef) rfl (Or.inr ⟨by rfl, rfl⟩) hHeld ?_
                      simp only [Act.put, sz0, sz1, sz2]
                      refine tk (i := 22) (oi := ⟨some 167, .pick (.tmp 154) (.tmp 166) (.const (.bool false)), _, _, _, none⟩) (v := .bool false) rfl (Or.inl ⟨by rfl, fun w _ => by go_simp⟩) hHeld ?_
                      simp only [Act.put, sz0, sz1, sz2]
                      refine tk (i := 23) (oi := ⟨some 15, .assign (.tmp 167), _, _, _, none⟩) (v := .bool false) rfl (Or.inl ⟨by rfl, fun _ _ => rfl⟩) hHeld ?_
                      simp only [Act.put, sz0, sz1, sz2]
                      refine wpAnyH_done (by kernel_rfl) ?_ _
                      clear hHeld
                      have e2 := HP2.out _ l3
                      cases fb with
                      | true =>
                        go_wp2
                        have HN := Lib.hid (show true = (ac.any (entB a z) || (LL.take (k + 1)).any (inB a)) by rw [HS.out, ← Bool.or_assoc, ← HF2.out]; rfl)
                        go_roundw
                        case rel => exact ⟨k + 1, true, by omega, rfl, by go_num, HN.out, l3⟩
                        case measure => simp [intOf]; omega
                      | false =>
                        go_wp2
                        have HN := Lib.hid (show false = (ac.any (entB a z) || (LL.take (k + 1)).any (inB a)) by rw [HS.out, ← Bool.or_assoc, ← HF2.out]; rw [HIN.out]; rfl)
                        go_roundw
                        case rel => exact ⟨k + 1, false, by omega, rfl, by go_num, HN.out, l3⟩
                        case measure => simp [intOf]; omega
                    | true =>
                      cases dl : decide (a < pa + 4096) with
                      | false =>
                        have HIN := Lib.hid (show inB a LL[k] = false by unfold inB; rw [HSZ.out, ← HPA.out, dg, dl]; rfl)
                        refine wp_region_held_drew (S := fun w' => w'.cell? ⟨wo.heap.size, 0, none⟩ = some (.int .i64 a) ∧ w'.cell? ⟨(ad3.add (k * 3)).block, (ad3.add (k * 3)).off + 1, none⟩ = some (.int .u32 pa)) (by kernel_rfl) ⟨(H10.out _ l3).cell (j := 0) (v := .int .i64 a) rfl, HP1.out _ l3⟩ (fun hHeld => ?_)
                        refine tk (i := 0) (oi := ⟨some 145, .fieldAddr 64 (.tmp 10) 0, _, _, _, none⟩) (v := .pointer (some ⟨wo.heap.size, 0, none⟩)) rfl (Or.inl ⟨by rfl, fun w _ => by go_simp⟩) hHeld ?_
                        simp only [Act.put, sz0, sz1, sz2]
                        refine tk (i := 1) (oi := ⟨some 146, .load 3 (.tmp 145), _, _, _, none⟩) (v := .int .i64 a) rfl (Or.inl ⟨by rfl, fun w hSw => by have e1 := hSw.1; clear hSw; go_simp⟩) hHeld ?_
                        simp only [Act.put, sz0, sz1, sz2]
                        refine tk (i := 2) (oi := ⟨some 147, .move (.tmp 8), _, _, _, none⟩) (v := .slice (some ad3) LL.length kl) rfl (Or.inl ⟨by rfl, fun _ _ => rfl⟩) hHeld ?_
                        simp only [Act.put, sz0, sz1, sz2]
                        refine tk (i := 3) (oi := ⟨some 148, .move (.tmp 13), _, _, _, none⟩) (v := .int .i64 (k : Int)) rfl (Or.inl ⟨by rfl, fun _ _ => rfl⟩) hHeld ?_
                        simp only [Act.put, sz0, sz1, sz2]
                        refine tk (i := 4) (oi := ⟨some 149, .indexAddr 65 (.tmp 147) (.tmp 148), _, _, _, none⟩) (v := .pointer (some (ad3.add (k * 3)))) rfl (Or.inl ⟨by rfl, fun w _ => by go_simp⟩) hHeld ?_
                        simp only [Act.put, sz0, sz1, sz2]
                        refine tk (i := 5) (oi := ⟨some 150, .fieldAddr 68 (.tmp 149) 1, _, _, _, none⟩) (v := .pointer (some ⟨(ad3.add (k * 3)).block, (ad3.add (k * 3)).off + 1, none⟩)) rfl (Or.inl ⟨by rfl, fun w _ => by go_simp⟩) hHeld ?_
                        simp only [Act.put, sz0, sz1, sz2]
                        refine tk (i := 6) (oi := ⟨some 151, .load 22 (.tmp 150), _, _, _, none⟩) (v := .int .u32 pa) rfl (Or.inl ⟨by rfl, fun w hSw => by have e1 := hSw.2; clear hSw; go_simp⟩) hHeld ?_
                        simp only [Act.put, sz0, sz1, sz2]
                        refine tk (i := 7) (oi := ⟨some 152, .convert 22 3 (.tmp 151), _, _, _, none⟩) (v := .int .i64 pa) rfl (Or.inl ⟨by rfl, fun w _ => by go_simp⟩) hHeld ?_
                        simp only [Act.put, sz0, sz1, sz2]
                        refine tk (i := 8) (oi := ⟨some 153, .binOp .geq 3 (.tmp 146) (.tmp 152) 3, _, _, _, none⟩) (v := .bool true) rfl (Or.inl ⟨by rfl, fun w _ => by go_simp⟩) hHeld ?_
                        simp only [Act.put, sz0, sz1, sz2]
                        refine tk (i := 9) (oi := ⟨some 154, .move (.tmp 153), _, _, _, none⟩) (v := .bool true) rfl (Or.inl ⟨by rfl, fun _ _ => rfl⟩) hHeld ?_
                        simp only [Act.put, sz0, sz1, sz2]
                        refine tk (i := 10) (oi := ⟨some 155, .fieldAddr 64 (.tmp 10) 0, _, _, _, _⟩) (v := .pointer (some ⟨wo.heap.size, 0, none⟩)) rfl (Or.inl ⟨by rfl, fun w _ => by go_simp⟩) hHeld ?_
                        simp only [Act.put, sz0, sz1, sz2]
                        refine tk (i := 11) (oi := ⟨some 156, .load 3 (.tmp 155), _, _, _, _⟩) (v := .int .i64 a) rfl (Or.inl ⟨by rfl, fun w hSw => by have e1 := hSw.1; clear hSw; go_simp⟩) hHeld ?_
                        simp only [Act.put, sz0, sz1, sz2]
                        refine tk (i := 12) (oi := ⟨some 157, .move (.tmp 8), _, _, _, _⟩) (v := .slice (some ad3) LL.length kl) rfl (Or.inl ⟨by rfl, fun _ _ => rfl⟩) hHeld ?_
                        simp only [Act.put, sz0, sz1, sz2]
                        refine tk (i := 13) (oi := ⟨some 158, .move (.tmp 13), _, _, _, _⟩) (v := .int .i64 (k : Int)) rfl (Or.inl ⟨by rfl, fun _ _ => rfl⟩) hHeld ?_
                        simp only [Act.put, sz0, sz1, sz2]
                        refine tk (i := 14) (oi := ⟨some 159, .indexAddr 65 (.tmp 157) (.tmp 158), _, _, _, _⟩) (v := .pointer (some (ad3.add (k * 3)))) rfl (Or.inl ⟨by rfl, fun w _ => by go_simp⟩) hHeld ?_
                        simp only [Act.put, sz0, sz1, sz2]
                        refine tk (i := 15) (oi := ⟨some 160, .fieldAddr 68 (.tmp 159) 1, _, _, _, _⟩) (v := .pointer (some ⟨(ad3.add (k * 3)).block, (ad3.add (k * 3)).off + 1, none⟩)) rfl (Or.inl ⟨by rfl, fun w _ => by go_simp⟩) hHeld ?_
                        simp only [Act.put, sz0, sz1, sz2]
                        refine tk (i := 16) (oi := ⟨some 161, .load 22 (.tmp 160), _, _, _, _⟩) (v := .int .u32 pa) rfl (Or.inl ⟨by rfl, fun w hSw => by have e1 := hSw.2; clear hSw; go_simp⟩) hHeld ?_
                        simp only [Act.put, sz0, sz1, sz2]
                        refine tk (i := 17) (oi := ⟨some 162, .convert 22 3 (.tmp 161), _, _, _, _⟩) (v := .int .i64 pa) rfl (Or.inl ⟨by rfl, fun w _ => by go_simp⟩) hHeld ?_
                        simp only [Act.put, sz0, sz1, sz2]
                        refine tk (i := 18) (oi := ⟨some 163, .move (.tmp 14), _, _, _, _⟩) (v := .int .i64 32) rfl (Or.inl ⟨by rfl, fun _ _ => rfl⟩) hHeld ?_
                        simp only [Act.put, sz0, sz1, sz2]
                        refine tk (i := 19) (oi := ⟨some 164, .binOp .mul 3 (.tmp 163) (.const (.int .i64 128)) 3, _, _, _, _⟩) (v := .int .i64 4096) rfl (Or.inl ⟨by rfl, fun w _ => by go_simp⟩) hHeld ?_
                        simp only [Act.put, sz0, sz1, sz2]
                        refine tk (i := 20) (oi := ⟨some 165, .binOp .add 3 (.tmp 162) (.tmp 164) 3, _, _, _, _⟩) (v := .int .i64 (pa + 4096)) rfl (Or.inl ⟨by rfl, fun w _ => by go_simp⟩) hHeld ?_
                        simp only [Act.put, sz0, sz1, sz2]
                        refine tk (i := 21) (oi := ⟨some 166, .binOp .lss 3 (.tmp 156) (.tmp 165) 3, _, _, _, _⟩) (v := .bool false) rfl (Or.inl ⟨by rfl, fun w _ => by go_simp⟩) hHeld ?_
                        simp only [Act.put, sz0, sz1, sz2]
                        refine tk (i := 22) (oi := ⟨some 167, .pick (.tmp 154) (.tmp 166) (.const (.bool false)), _, _, _, none⟩) (v := .bool false) rfl (Or.inl ⟨by rfl, fun w _ => by go_simp⟩) hHeld ?_
                        simp only [Act.put, sz0, sz1, sz2]
                        refine tk (i := 23) (oi := ⟨some 15, .assign (.tmp 167), _, _, _, none⟩) (v := .bool false) rfl (Or.inl ⟨by rfl, fun _ _ => rfl⟩) hHeld ?_
                        simp only [Act.put, sz0, sz1, sz2]
                        refine wpAnyH_done (by kernel_rfl) ?_ _
                        clear hHeld
                        have e2 := HP2.out _ l3
                        cases fb with
                        | true =>
                          go_wp2
                          have HN := Lib.hid (show true = (ac.any (entB a z) || (LL.take (k + 1)).any (inB a)) by rw [HS.out, ← Bool.or_assoc, ← HF2.out]; rfl)
                          go_roundw
                          case rel => exact ⟨k + 1, true, by omega, rfl, by go_num, HN.out, l3⟩
                          case measure => simp [intOf]; omega
                        | false =>
                          go_wp2
                          have HN := Lib.hid (show false = (ac.any (entB a z) || (LL.take (k + 1)).any (inB a)) by rw [HS.out, ← Bool.or_assoc, ← HF2.out]; rw [HIN.out]; rfl)
                          go_roundw
                          case rel => exact ⟨k + 1, false, by omega, rfl, by go_num, HN.out, l3⟩
                          case measure => simp [intOf]; omega
                      | true =>
                        have HIN1 := Lib.hid (show inB a LL[k] = (Tm.has q 4 && Tm.has q 2) by unfold inB; rw [HSZ.out, ← HPA.out, ← HQB.out, dg, dl]; rfl)
                        refine wp_region_held_drew (S := fun w' => w'.cell? ⟨wo.heap.size, 0, none⟩ = some (.int .i64 a) ∧ w'.cell? ⟨(ad3.add (k * 3)).block, (ad3.add (k * 3)).off + 1, none⟩ = some (.int .u32 pa)) (by kernel_rfl) ⟨(H10.out _ l3).cell (j := 0) (v := .int .i64 a) rfl, HP1.out _ l3⟩ (fun hHeld => ?_)
                        refine tk (i := 0) (oi := ⟨some 145, .fieldAddr 64 (.tmp 10) 0, _, _, _, none⟩) (v := .pointer (some ⟨wo.heap.size, 0, none⟩)) rfl (Or.inl ⟨by rfl, fun w _ => by go_simp⟩) hHeld ?_
                        simp only [Act.put, sz0, sz1, sz2]
                        refine tk (i := 1) (oi := ⟨some 146, .load 3 (.tmp 145), _, _, _, none⟩) (v := .int .i64 a) rfl (Or.inl ⟨by rfl, fun w hSw => by have e1 := hSw.1; clear hSw; go_simp⟩) hHeld ?_
                        simp only [Act.put, sz0, sz1, sz2]
                        refine tk (i := 2) (oi := ⟨some 147, .move (.tmp 8), _, _, _, none⟩) (v := .slice (some ad3) LL.length kl) rfl (Or.inl ⟨by rfl, fun _ _ => rfl⟩) hHeld ?_
                        simp only [Act.put, sz0, sz1, sz2]
                        refine tk (i := 3) (oi := ⟨some 148, .move (.tmp 13), _, _, _, none⟩) (v := .int .i64 (k : Int)) rfl (Or.inl ⟨by rfl, fun _ _ => rfl⟩) hHeld ?_
                        simp only [Act.put, sz0, sz1, sz2]
                        refine tk (i := 4) (oi := ⟨some 149, .indexAddr 65 (.tmp 147) (.tmp 148), _, _, _, none⟩) (v := .pointer (some (ad3.add (k * 3)))) rfl (Or.inl ⟨by rfl, fun w _ => by go_simp⟩) hHeld ?_
                        simp only [Act.put, sz0, sz1, sz2]
                        refine tk (i := 5) (oi := ⟨some 150, .fieldAddr 68 (.tmp 149) 1, _, _, _, none⟩) (v := .pointer (some ⟨(ad3.add (k * 3)).block, (ad3.add (k * 3)).off + 1, none⟩)) rfl (Or.inl ⟨by rfl, fun w _ => by go_simp⟩) hHeld ?_
                        simp only [Act.put, sz0, sz1, sz2]
                        refine tk (i := 6) (oi := ⟨some 151, .load 22 (.tmp 150), _, _, _, none⟩) (v := .int .u32 pa) rfl (Or.inl ⟨by rfl, fun w hSw => by have e1 := hSw.2; clear hSw; go_simp⟩) hHeld ?_
                        simp only [Act.put, sz0, sz1, sz2]
                        refine tk (i := 7) (oi := ⟨some 152, .convert 22 3 (.tmp 151), _, _, _, none⟩) (v := .int .i64 pa) rfl (Or.inl ⟨by rfl, fun w _ => by go_simp⟩) hHeld ?_
                        simp only [Act.put, sz0, sz1, sz2]
                        refine tk (i := 8) (oi := ⟨some 153, .binOp .geq 3 (.tmp 146) (.tmp 152) 3, _, _, _, none⟩) (v := .bool true) rfl (Or.inl ⟨by rfl, fun w _ => by go_simp⟩) hHeld ?_
                        simp only [Act.put, sz0, sz1, sz2]
                        refine tk (i := 9) (oi := ⟨some 154, .move (.tmp 153), _, _, _, none⟩) (v := .bool true) rfl (Or.inl ⟨by rfl, fun _ _ => rfl⟩) hHeld ?_
                        simp only [Act.put, sz0, sz1, sz2]
                        refine tk (i := 10) (oi := ⟨some 155, .fieldAddr 64 (.tmp 10) 0, _, _, _, _⟩) (v := .pointer (some ⟨wo.heap.size, 0, none⟩)) rfl (Or.inl ⟨by rfl, fun w _ => by go_simp⟩) hHeld ?_
                        simp only [Act.put, sz0, sz1, sz2]
                        refine tk (i := 11) (oi := ⟨some 156, .load 3 (.tmp 155), _, _, _, _⟩) (v := .int .i64 a) rfl (Or.inl ⟨by rfl, fun w hSw => by have e1 := hSw.1; clear hSw; go_simp⟩) hHeld ?_
                        simp only [Act.put, sz0, sz1, sz2]
                        refine tk (i := 12) (oi := ⟨some 157, .move (.tmp 8), _, _, _, _⟩) (v := .slice (some ad3) LL.length kl) rfl (Or.inl ⟨by rfl, fun _ _ => rfl⟩) hHeld ?_
                        simp only [Act.put, sz0, sz1, sz2]
                        refine tk (i := 13) (oi := ⟨some 158, .move (.tmp 13), _, _, _, _⟩) (v := .int .i64 (k : Int)) rfl (Or.inl ⟨by rfl, fun _ _ => rfl⟩) hHeld ?_
                        simp only [Act.put, sz0, sz1, sz2]
                        refine tk (i := 14) (oi := ⟨some 159, .indexAddr 65 (.tmp 157) (.tmp 158), _, _, _, _⟩) (v := .pointer (some (ad3.add (k * 3)))) rfl (Or.inl ⟨by rfl, fun w _ => by go_simp⟩) hHeld ?_
                        simp only [Act.put, sz0, sz1, sz2]
                        refine tk (i := 15) (oi := ⟨some 160, .fieldAddr 68 (.tmp 159) 1, _, _, _, _⟩) (v := .pointer (some ⟨(ad3.add (k * 3)).block, (ad3.add (k * 3)).off + 1, none⟩)) rfl (Or.inl ⟨by rfl, fun w _ => by go_simp⟩) hHeld ?_
                        simp only [Act.put, sz0, sz1, sz2]
                        refine tk (i := 16) (oi := ⟨some 161, .load 22 (.tmp 160), _, _, _, _⟩) (v := .int .u32 pa) rfl (Or.inl ⟨by rfl, fun w hSw => by have e1 := hSw.2; clear hSw; go_simp⟩) hHeld ?_
                        simp only [Act.put, sz0, sz1, sz2]
                        refine tk (i := 17) (oi := ⟨some 162, .convert 22 3 (.tmp 161), _, _, _, _⟩) (v := .int .i64 pa) rfl (Or.inl ⟨by rfl, fun w _ => by go_simp⟩) hHeld ?_
                        simp only [Act.put, sz0, sz1, sz2]
                        refine tk (i := 18) (oi := ⟨some 163, .move (.tmp 14), _, _, _, _⟩) (v := .int .i64 32) rfl (Or.inl ⟨by rfl, fun _ _ => rfl⟩) hHeld ?_
                        simp only [Act.put, sz0, sz1, sz2]
                        refine tk (i := 19) (oi := ⟨some 164, .binOp .mul 3 (.tmp 163) (.const (.int .i64 128)) 3, _, _, _, _⟩) (v := .int .i64 4096) rfl (Or.inl ⟨by rfl, fun w _ => by go_simp⟩) hHeld ?_
                        simp only [Act.put, sz0, sz1, sz2]
                        refine tk (i := 20) (oi := ⟨some 165, .binOp .add 3 (.tmp 162) (.tmp 164) 3, _, _, _, _⟩) (v := .int .i64 (pa + 4096)) rfl (Or.inl ⟨by rfl, fun w _ => by go_simp⟩) hHeld ?_
                        simp only [Act.put, sz0, sz1, sz2]
                        refine tk (i := 21) (oi := ⟨some 166, .binOp .lss 3 (.tmp 156) (.tmp 165) 3, _, _, _, _⟩) (v := .bool true) rfl (Or.inl ⟨by rfl, fun w _ => by go_simp⟩) hHeld ?_
                        simp only [Act.put, sz0, sz1, sz2]
                        refine tk (i := 22) (oi := ⟨some 167, .pick (.tmp 154) (.tmp 166) (.const (.bool false)), _, _, _, none⟩) (v := .bool true) rfl (Or.inl ⟨by rfl, fun w _ => by go_simp⟩) hHeld ?_
                        simp only [Act.put, sz0, sz1, sz2]
                        refine tk (i := 23) (oi := ⟨some 15, .assign (.tmp 167), _, _, _, none⟩) (v := .bool true) rfl (Or.inl ⟨by rfl, fun _ _ => rfl⟩) hHeld ?_
                        simp only [Act.put, sz0, sz1, sz2]
                        refine wpAnyH_done (by kernel_rfl) ?_ _
                        clear hHeld
                        have e2 := HP2.out _ l3
                        cases fb with
                        | true =>
                          go_wp2
                          have HN := Lib.hid (show true = (ac.any (entB a z) || (LL.take (k + 1)).any (inB a)) by rw [HS.out, ← Bool.or_assoc, ← HF2.out]; rfl)
                          go_roundw
                          case rel => exact ⟨k + 1, true, by omega, rfl, by go_num, HN.out, l3⟩
                          case measure => simp [intOf]; omega
                        | false =>
                          cases h4 : Tm.has q 4 with
                          | false =>
                            have x4 := X4.out
                            rw [h4, if_neg (by decide)] at x4
                            have HIN := Lib.hid (show inB a LL[k] = false from HIN1.out.trans (by simp [h4]))
                            clear h4
                            go_wp2
                            have HN := Lib.hid (show false = (ac.any (entB a z) || (LL.take (k + 1)).any (inB a)) by rw [HS.out, ← Bool.or_assoc, ← HF2.out]; rw [HIN.out]; rfl)
                            go_roundw
                            case rel => exact ⟨k + 1, false, by omega, rfl, by go_num, HN.out, l3⟩
                            case measure => simp [intOf]; omega
                          | true =>
                            have x4 := X4.out
                            rw [h4, if_pos rfl] at x4
                            cases h2 : Tm.has q 2 with
                            | false =>
                              have x2 := X2.out
                              rw [h2, if_neg (by decide)] at x2
                              have HIN := Lib.hid (show inB a LL[k] = false from HIN1.out.trans (by simp [h2]))
                              clear h4 h2
                              go_wp2
                              have HN := Lib.hid (show false = (ac.any (entB a z) || (LL.take (k + 1)).any (inB a)) by rw [HS.out, ← Bool.or_assoc, ← HF2.out]; rw [HIN.out]; rfl)
                              go_roundw
                              case rel => exact ⟨k + 1, false, by omega, rfl, by go_num, HN.out, l3⟩
                              case measure => simp [intOf]; omega
                            | true =>
                              have x2 := X2.out
                              rw [h2, if_pos rfl] at x2
                              have HIN := Lib.hid (show inB a LL[k] = true from HIN1.out.trans (by simp [h4, h2]))
                              clear h4 h2
                              go_wp2
                              have HN := Lib.hid (show true = (ac.any (entB a z) || (LL.take (k + 1)).any (inB a)) by rw [HS.out, ← Bool.or_assoc, ← HF2.out]; rw [HIN.out]; rfl)
                              go_roundw
                              case rel => exact ⟨k + 1, true, by omega, rfl, by go_num, HN.out, l3⟩
                              case measure => simp [intOf]; omega
                  | false =>
                    rw [h6, if_neg (by decide)] at x6 hsz
                    have HSZ := Lib.hid (show Tm.szM LL[k] = 128 from hsz)
                    clear hsz h6
                    go_upto_region 26 with fail
                    replace l3 := l3.drew
                    clear e2
                    cases dg : decide (pa ≤ a) with
                    | false =>
                      have HIN := Lib.hid (show inB a LL[k] = false by unfold inB; rw [← HPA.out, dg]; rfl)
                      refine wp_region_held_drew (S := fun w' => w'.cell? ⟨wo.heap.size, 0, none⟩ = some (.int .i64 a) ∧ w'.cell? ⟨(ad3.add (k * 3)).block, (ad3.add (k * 3)).off + 1, none⟩ = some (.int .u32 pa)) (by kernel_rfl) ⟨(H10.out _ l3).cell (j := 0) (v := .int .i64 a) rfl, HP1.out _ l3⟩ (fun hHeld => ?_)
                      refine tk (i := 0) (oi := ⟨some 145, .fieldAddr 64 (.tmp 10) 0, _, _, _, none⟩) (v := .pointer (some ⟨wo.heap.size, 0, none⟩)) rfl (Or.inl ⟨by rfl, fun w _ => by go_simp⟩) hHeld ?_
                      simp only [Act.put, sz0, sz1, sz2]
                      refine tk (i := 1) (oi := ⟨some 146, .load 3 (.tmp 145), _, _, _, none⟩) (v := .int .i64 a) rfl (Or.inl ⟨by rfl, fun w hSw => by have e1 := hSw.1; clear hSw; go_simp⟩) hHeld ?_
                      simp only [Act.put, sz0, sz1, sz2]
                      refine tk (i := 2) (oi := ⟨some 147, .move (.tmp 8), _, _, _, none⟩) (v := .slice (some ad3) LL.length kl) rfl (Or.inl ⟨by rfl, fun _ _ => rfl⟩) hHeld ?_
                      simp only [Act.put, sz0, sz1, sz2]
                      refine tk (i := 3) (oi := ⟨some 148, .move (.tmp 13), _, _, _, none⟩) (v := .int .i64 (k : Int)) rfl (Or.inl ⟨by rfl, fun _ _ => rfl⟩) hHeld ?_
                      simp only [Act.put, sz0, sz1, sz2]
                      refine tk (i := 4) (oi := ⟨some 149, .indexAddr 65 (.tmp 147) (.tmp 148), _, _, _, none⟩) (v := .pointer (some (ad3.add (k * 3)))) rfl (Or.inl ⟨by rfl, fun w _ => by go_simp⟩) hHeld ?_
                      simp only [Act.put, sz0, sz1, sz2]
                      refine tk (i := 5) (oi := ⟨some 150, .fieldAddr 68 (.tmp 149) 1, _, _, _, none⟩) (v := .pointer (some ⟨(ad3.add (k * 3)).block, (ad3.add (k * 3)).off + 1, none⟩)) rfl (Or.inl ⟨by rfl, fun w _ => by go_simp⟩) hHeld ?_
                      simp only [Act.put, sz0, sz1, sz2]
                      refine tk (i := 6) (oi := ⟨some 151, .load 22 (.tmp 150), _, _, _, none⟩) (v := .int .u32 pa) rfl (Or.inl ⟨by rfl, fun w hSw => by have e1 := hSw.2; clear hSw; go_simp⟩) hHeld ?_
                      simp only [Act.put, sz0, sz1, sz2]
                      refine tk (i := 7) (oi := ⟨some 152, .convert 22 3 (.tmp 151), _, _, _, none⟩) (v := .int .i64 pa) rfl (Or.inl ⟨by rfl, fun w _ => by go_simp⟩) hHeld ?_
                      simp only [Act.put, sz0, sz1, sz2]
                      refine tk (i := 8) (oi := ⟨some 153, .binOp .geq 3 (.tmp 146) (.tmp 152) 3, _, _, _, none⟩) (v := .bool false) rfl (Or.inl ⟨by rfl, fun w _ => by go_simp⟩) hHeld ?_
                      simp only [Act.put, sz0, sz1, sz2]
                      refine tk (i := 9) (oi := ⟨some 154, .move (.tmp 153), _, _, _, none⟩) (v := .bool false) rfl (Or.inl ⟨by rfl, fun _ _ => rfl⟩) hHeld ?_
                      simp only [Act.put, sz0, sz1, sz2]
                      refine tk (i := 10) (oi := ⟨some 155, .fieldAddr 64 (.tmp 10) 0, _, _, _, _⟩) (v := undef) rfl (Or.inr ⟨by rfl, rfl⟩) hHeld ?_
                      simp only [Act.put, sz0, sz1, sz2]
                      refine tk (i := 11) (oi := ⟨some 156, .load 3 (.tmp 155), _, _, _, _⟩) (v := undef) rfl (Or.inr ⟨by rfl, rfl⟩) hHeld ?_
                      simp only [Act.put, sz0, sz1, sz2]
                      refine tk (i := 12) (oi := ⟨some 157, .move (.tmp 8), _, _, _, _⟩) (v := undef) rfl (Or.inr ⟨by rfl, rfl⟩) hHeld ?_
                      simp only [Act.put, sz0, sz1, sz2]
                      refine tk (i := 13) (oi := ⟨some 158, .move (.tmp 13), _, _, _, _⟩) (v := undef) rfl (Or.inr ⟨by rfl, rfl⟩) hHeld ?_
                      simp only [Act.put, sz0, sz1, sz2]
                      refine tk (i := 14) (oi := ⟨some 159, .indexAddr 65 (.tmp 157) (.tmp 158), _, _, _, _⟩) (v := undef) rfl (Or.inr ⟨by rfl, rfl⟩) hHeld ?_
                      simp only [Act.put, sz0, sz1, sz2]
                      refine tk (i := 15) (oi := ⟨some 160, .fieldAddr 68 (.tmp 159) 1, _, _, _, _⟩) (v := undef) rfl (Or.inr ⟨by rfl, rfl⟩) hHeld ?_
                      simp only [Act.put, sz0, sz1, sz2]
                      refine tk (i := 16) (oi := ⟨some 161, .load 22 (.tmp 160), _, _, _, _⟩) (v := undef) rfl (Or.inr ⟨by rfl, rfl⟩) hHeld ?_
                      simp only [Act.put, sz0, sz1, sz2]
                      refine tk (i := 17) (oi := ⟨some 162, .convert 22 3 (.tmp 161), _, _, _, _⟩) (v := undef) rfl (Or.inr ⟨by rfl, rfl⟩) hHeld ?_
                      simp only [Act.put, sz0, sz1, sz2]
                      refine tk (i := 18) (oi := ⟨some 163, .move (.tmp 14), _, _, _, _⟩) (v := undef) rfl (Or.inr ⟨by rfl, rfl⟩) hHeld ?_
                      simp only [Act.put, sz0, sz1, sz2]
                      refine tk (i := 19) (oi := ⟨some 164, .binOp .mul 3 (.tmp 163) (.const (.int .i64 128)) 3, _, _, _, _⟩) (v := undef) rfl (Or.inr ⟨by rfl, rfl⟩) hHeld ?_
                      simp only [Act.put, sz0, sz1, sz2]
                      refine tk (i := 20) (oi := ⟨some 165, .binOp .add 3 (.tmp 162) (.tmp 164) 3, _, _, _, _⟩) (v := undef) rfl (Or.inr ⟨by rfl, rfl⟩) hHeld ?_
                      simp only [Act.put, sz0, sz1, sz2]
                      refine tk (i := 21) (oi := ⟨some 166, .binOp .lss 3 (.tmp 156) (.tmp 165) 3, _, _, _, _⟩) (v := undef) rfl (Or.inr ⟨by rfl, rfl⟩) hHeld ?_
                      simp only [Act.put, sz0, sz1, sz2]
                      refine tk (i := 22) (oi := ⟨some 167, .pick (.tmp 154) (.tmp 166) (.const (.bool false)), _, _, _, none⟩) (v := .bool false) rfl (Or.inl ⟨by rfl, fun w _ => by go_simp⟩) hHeld ?_
                      simp only [Act.put, sz0, sz1, sz2]
                      refine tk (i := 23) (oi := ⟨some 15, .assign (.tmp 167), _, _, _, none⟩) (v := .bool false) rfl (Or.inl ⟨by rfl, fun _ _ => rfl⟩) hHeld ?_
                      simp only [Act.put, sz0, sz1, sz2]
                      refine wpAnyH_done (by kernel_rfl) ?_ _
                      clear hHeld
                      have e2 := HP2.out _ l3
                      cases fb with
                      | true =>
                        go_wp2
                        have HN := Lib.hid (show true = (ac.any (entB a z) || (LL.take (k + 1)).any (inB a)) by rw [HS.out, ← Bool.or_assoc, ← HF2.out]; rfl)
                        go_roundw
                        case rel => exact ⟨k + 1, true, by omega, rfl, by go_num, HN.out, l3⟩
                        case measure => simp [intOf]; omega
                      | false =>
                        go_wp2
                        have HN := Lib.hid (show false = (ac.any (entB a z) || (LL.take (k + 1)).any (inB a)) by rw [HS.out, ← Bool.or_assoc, ← HF2.out]; rw [HIN.out]; rfl)
                        go_roundw
                        case rel => exact ⟨k + 1, false, by omega, rfl, by go_num, HN.out, l3⟩
                        case measure => simp [intOf]; omega
                    | true =>
                      cases dl : decide (a < pa + 128) with
                      | false =>
                        have HIN := Lib.hid (show inB a LL[k] = false by unfold inB; rw [HSZ.out, ← HPA.out, dg, dl]; rfl)
                        refine wp_region_held_drew (S := fun w' => w'.cell? ⟨wo.heap.size, 0, none⟩ = some (.int .i64 a) ∧ w'.cell? ⟨(ad3.add (k * 3)).block, (ad3.add (k * 3)).off + 1, none⟩ = some (.int .u32 pa)) (by kernel_rfl) ⟨(H10.out _ l3).cell (j := 0) (v := .int .i64 a) rfl, HP1.out _ l3⟩ (fun hHeld => ?_)
                        refine tk (i := 0) (oi := ⟨some 145, .fieldAddr 64 (.tmp 10) 0, _, _, _, none⟩) (v := .pointer (some ⟨wo.heap.size, 0, none⟩)) rfl (Or.inl ⟨by rfl, fun w _ => by go_simp⟩) hHeld ?_
                        simp only [Act.put, sz0, sz1, sz2]
                        refine tk (i := 1) (oi := ⟨some 146, .load 3 (.tmp 145), _, _, _, none⟩) (v := .int .i64 a) rfl (Or.inl ⟨by rfl, fun w hSw => by have e1 := hSw.1; clear hSw; go_simp⟩) hHeld ?_
                        simp only [Act.put, sz0, sz1, sz2]
                        refine tk (i := 2) (oi := ⟨some 147, .move (.tmp 8), _, _, _, none⟩) (v := .slice (some ad3) LL.length kl) rfl (Or.inl ⟨by rfl, fun _ _ => rfl⟩) hHeld ?_
                        simp only [Act.put, sz0, sz1, sz2]
                        refine tk (i := 3) (oi := ⟨some 148, .move (.tmp 13), _, _, _, none⟩) (v := .int .i64 (k : Int)) rfl (Or.inl ⟨by rfl, fun _ _ => rfl⟩) hHeld ?_
                        simp only [Act.put, sz0, sz1, sz2]
                        refine tk (i := 4) (oi := ⟨some 149, .indexAddr 65 (.tmp 147) (.tmp 148), _, _, _, none⟩) (v := .pointer (some (ad3.add (k * 3)))) rfl (Or.inl ⟨by rfl, fun w _ => by go_simp⟩) hHeld ?_
                        simp only [Act.put, sz0, sz1, sz2]
                        refine tk (i := 5) (oi := ⟨some 150, .fieldAddr 68 (.tmp 149) 1, _, _, _, none⟩) (v := .pointer (some ⟨(ad3.add (k * 3)).block, (ad3.add (k * 3)).off + 1, none⟩)) rfl (Or.inl ⟨by rfl, fun w _ => by go_simp⟩) hHeld ?_
                        simp only [Act.put, sz0, sz1, sz2]
                        refine tk (i := 6) (oi := ⟨some 151, .load 22 (.tmp 150), _, _, _, none⟩) (v := .int .u32 pa) rfl (Or.inl ⟨by rfl, fun w hSw => by have e1 := hSw.2; clear hSw; go_simp⟩) hHeld ?_
                        simp only [Act.put, sz0, sz1, sz2]
                        refine tk (i := 7) (oi := ⟨some 152, .convert 22 3 (.tmp 151), _, _, _, none⟩) (v := .int .i64 pa) rfl (Or.inl ⟨by rfl, fun w _ => by go_simp⟩) hHeld ?_
                        simp only [Act.put, sz0, sz1, sz2]
                        refine tk (i := 8) (oi := ⟨some 153, .binOp .geq 3 (.tmp 146) (.tmp 152) 3, _, _, _, none⟩) (v := .bool true) rfl (Or.inl ⟨by rfl, fun w _ => by go_simp⟩) hHeld ?_
                        simp only [Act.put, sz0, sz1, sz2]
                        refine tk (i := 9) (oi := ⟨some 154, .move (.tmp 153), _, _, _, none⟩) (v := .bool true) rfl (Or.inl ⟨by rfl, fun _ _ => rfl⟩) hHeld ?_
                        simp only [Act.put, sz0, sz1, sz2]
                        refine tk (i := 10) (oi := ⟨some 155, .fieldAddr 64 (.tmp 10) 0, _, _, _, _⟩) (v := .pointer (some ⟨wo.heap.size, 0, none⟩)) rfl (Or.inl ⟨by rfl, fun w _ => by go_simp⟩) hHeld ?_
                        simp only [Act.put, sz0, sz1, sz2]
                        refine tk (i := 11) (oi := ⟨some 156, .load 3 (.tmp 155), _, _, _, _⟩) (v := .int .i64 a) rfl (Or.inl ⟨by rfl, fun w hSw => by have e1 := hSw.1; clear hSw; go_simp⟩) hHeld ?_
                        simp only [Act.put, sz0, sz1, sz2]
                        refine tk (i := 12) (oi := ⟨some 157, .move (.tmp 8), _, _, _, _⟩) (v := .slice (some ad3) LL.length kl) rfl (Or.inl ⟨by rfl, fun _ _ => rfl⟩) hHeld ?_
                        simp only [Act.put, sz0, sz1, sz2]
                        refine tk (i := 13) (oi := ⟨some 158, .move (.tmp 13), _, _, _, _⟩) (v := .int .i64 (k : Int)) rfl (Or.inl ⟨by rfl, fun _ _ => rfl⟩) hHeld ?_
                        simp only [Act.put, sz0, sz1, sz2]
                        refine tk (i := 14) (oi := ⟨some 159, .indexAddr 65 (.tmp 157) (.tmp 158), _, _, _, _⟩) (v := .pointer (some (ad3.add (k * 3)))) rfl (Or.inl ⟨by rfl, fun w _ => by go_simp⟩) hHeld ?_
                        simp only [Act.put, sz0, sz1, sz2]
                        refine tk (i := 15) (oi := ⟨some 160, .fieldAddr 68 (.tmp 159) 1, _, _, _, _⟩) (v := .pointer (some ⟨(ad3.add (k * 3)).block, (ad3.add (k * 3)).off + 1, none⟩)) rfl (Or.inl ⟨by rfl, fun w _ => by go_simp⟩) hHeld ?_
                        simp only [Act.put, sz0, sz1, sz2]
                        refine tk (i := 16) (oi := ⟨some 161, .load 22 (.tmp 160), _, _, _, _⟩) (v := .int .u32 pa) rfl (Or.inl ⟨by rfl, fun w hSw => by have e1 := hSw.2; clear hSw; go_simp⟩) hHeld ?_
                        simp only [Act.put, sz0, sz1, sz2]
                        refine tk (i := 17) (oi := ⟨some 162, .convert 22 3 (.tmp 161), _, _, _, _⟩) (v := .int .i64 pa) rfl (Or.inl ⟨by rfl, fun w _ => by go_simp⟩) hHeld ?_
                        simp only [Act.put, sz0, sz1, sz2]
                        refine tk (i := 18) (oi := ⟨some 163, .move (.tmp 14), _, _, _, _⟩) (v := .int .i64 1) rfl (Or.inl ⟨by rfl, fun _ _ => rfl⟩) hHeld ?_
                        simp only [Act.put, sz0, sz1, sz2]
                        refine tk (i := 19) (oi := ⟨some 164, .binOp .mul 3 (.tmp 163) (.const (.int .i64 128)) 3, _, _, _, _⟩) (v := .int .i64 128) rfl (Or.inl ⟨by rfl, fun w _ => by go_simp⟩) hHeld ?_
                        simp only [Act.put, sz0, sz1, sz2]
                        refine tk (i := 20) (oi := ⟨some 165, .binOp .add 3 (.tmp 162) (.tmp 164) 3, _, _, _, _⟩) (v := .int .i64 (pa + 128)) rfl (Or.inl ⟨by rfl, fun w _ => by go_simp⟩) hHeld ?_
                        simp only [Act.put, sz0, sz1, sz2]
                        refine tk (i := 21) (oi := ⟨some 166, .binOp .lss 3 (.tmp 156) (.tmp 165) 3, _, _, _, _⟩) (v := .bool false) rfl (Or.inl ⟨by rfl, fun w _ => by go_simp⟩) hHeld ?_
                        simp only [Act.put, sz0, sz1, sz2]
                        refine tk (i := 22) (oi := ⟨some 167, .pick (.tmp 154) (.tmp 166) (.const (.bool false)), _, _, _, none⟩) (v := .bool false) rfl (Or.inl ⟨by rfl, fun w _ => by go_simp⟩) hHeld ?_
                        simp only [Act.put, sz0, sz1, sz2]
                        refine tk (i := 23) (oi := ⟨some 15, .assign (.tmp 167), _, _, _, none⟩) (v := .bool false) rfl (Or.inl ⟨by rfl, fun _ _ => rfl⟩) hHeld ?_
                        simp only [Act.put, sz0, sz1, sz2]
                        refine wpAnyH_done (by kernel_rfl) ?_ _
                        clear hHeld
                        have e2 := HP2.out _ l3
                        cases fb with
                        | true =>
                          go_wp2
                          have HN := Lib.hid (show true = (ac.any (entB a z) || (LL.take (k + 1)).any (inB a)) by rw [HS.out, ← Bool.or_assoc, ← HF2.out]; rfl)
                          go_roundw
                          case rel => exact ⟨k + 1, true, by omega, rfl, by go_num, HN.out, l3⟩
                          case measure => simp [intOf]; omega
                        | false =>
                          go_wp2
                          have HN := Lib.hid (show false = (ac.any (entB a z) || (LL.take (k + 1)).any (inB a)) by rw [HS.out, ← Bool.or_assoc, ← HF2.out]; rw [HIN.out]; rfl)
                          go_roundw
                          case rel => exact ⟨k + 1, false, by omega, rfl, by go_num, HN.out, l3⟩
                          case measure => simp [intOf]; omega
                      | true =>
                        have HIN1 := Lib.hid (show inB a LL[k] = (Tm.has q 4 && Tm.has q 2) by unfold inB; rw [HSZ.out, ← HPA.out, ← HQB.out, dg, dl]; rfl)
                        refine wp_region_held_drew (S := fun w' => w'.cell? ⟨wo.heap.size, 0, none⟩ = some (.int .i64 a) ∧ w'.cell? ⟨(ad3.add (k * 3)).block, (ad3.add (k * 3)).off + 1, none⟩ = some (.int .u32 pa)) (by kernel_rfl) ⟨(H10.out _ l3).cell (j := 0) (v := .int .i64 a) rfl, HP1.out _ l3⟩ (fun hHeld => ?_)
                        refine tk (i := 0) (oi := ⟨some 145, .fieldAddr 64 (.tmp 10) 0, _, _, _, none⟩) (v := .pointer (some ⟨wo.heap.size, 0, none⟩)) rfl (Or.inl ⟨by rfl, fun w _ => by go_simp⟩) hHeld ?_
                        simp only [Act.put, sz0, sz1, sz2]
                        refine tk (i := 1) (oi := ⟨some 146, .load 3 (.tmp 145), _, _, _, none⟩) (v := .int .i64 a) rfl (Or.inl ⟨by rfl, fun w hSw => by have e1 := hSw.1; clear hSw; go_simp⟩) hHeld ?_
                        simp only [Act.put, sz0, sz1, sz2]
                        refine tk (i := 2) (oi := ⟨some 147, .move (.tmp 8), _, _, _, none⟩) (v := .slice (some ad3) LL.length kl) rfl (Or.inl ⟨by rfl, fun _ _ => rfl⟩) hHeld ?_
                        simp only [Act.put, sz0, sz1, sz2]
                        refine tk (i := 3) (oi := ⟨some 148, .move (.tmp 13), _, _, _, none⟩) (v := .int .i64 (k : Int)) rfl (Or.inl ⟨by rfl, fun _ _ => rfl⟩) hHeld ?_
                        simp only [Act.put, sz0, sz1, sz2]
                        refine tk (i := 4) (oi := ⟨some 149, .indexAddr 65 (.tmp 147) (.tmp 148), _, _, _, none⟩) (v := .pointer (some (ad3.add (k * 3)))) rfl (Or.inl ⟨by rfl, fun w _ => by go_simp⟩) hHeld ?_
                        simp only [Act.put, sz0, sz1, sz2]
                        refine tk (i := 5) (oi := ⟨some 150, .fieldAddr 68 (.tmp 149) 1, _, _, _, none⟩) (v := .pointer (some ⟨(ad3.add (k * 3)).block, (ad3.add (k * 3)).off + 1, none⟩)) rfl (Or.inl ⟨by rfl, fun w _ => by go_simp⟩) hHeld ?_
                        simp only [Act.put, sz0, sz1, sz2]
                        refine tk (i := 6) (oi := ⟨some 151, .load 22 (.tmp 150), _, _, _, none⟩) (v := .int .u32 pa) rfl (Or.inl ⟨by rfl, fun w hSw => by have e1 := hSw.2; clear hSw; go_simp⟩) hHeld ?_
                        simp only [Act.put, sz0, sz1, sz2]
                        refine tk (i := 7) (oi := ⟨some 152, .convert 22 3 (.tmp 151), _, _, _, none⟩) (v := .int .i64 pa) rfl (Or.inl ⟨by rfl, fun w _ => by go_simp⟩) hHeld ?_
                        simp only [Act.put, sz0, sz1, sz2]
                        refine tk (i := 8) (oi := ⟨some 153, .binOp .geq 3 (.tmp 146) (.tmp 152) 3, _, _, _, none⟩) (v := .bool true) rfl (Or.inl ⟨by rfl, fun w _ => by go_simp⟩) hHeld ?_
                        simp only [Act.put, sz0, sz1, sz2]
                        refine tk (i := 9) (oi := ⟨some 154, .move (.tmp 153), _, _, _, none⟩) (v := .bool true) rfl (Or.inl ⟨by rfl, fun _ _ => rfl⟩) hHeld ?_
                        simp only [Act.put, sz0, sz1, sz2]
                        refine tk (i := 10) (oi := ⟨some 155, .fieldAddr 64 (.tmp 10) 0, _, _, _, _⟩) (v := .pointer (some ⟨wo.heap.size, 0, none⟩)) rfl (Or.inl ⟨by rfl, fun w _ => by go_simp⟩) hHeld ?_
                        simp only [Act.put, sz0, sz1, sz2]
                        refine tk (i := 11) (oi := ⟨some 156, .load 3 (.tmp 155), _, _, _, _⟩) (v := .int .i64 a) rfl (Or.inl ⟨by rfl, fun w hSw => by have e1 := hSw.1; clear hSw; go_simp⟩) hHeld ?_
                        simp only [Act.put, sz0, sz1, sz2]
                        refine tk (i := 12) (oi := ⟨some 157, .move (.tmp 8), _, _, _, _⟩) (v := .slice (some ad3) LL.length kl) rfl (Or.inl ⟨by rfl, fun _ _ => rfl⟩) hHeld ?_
                        simp only [Act.put, sz0, sz1, sz2]
                        refine tk (i := 13) (oi := ⟨some 158, .move (.tmp 13), _, _, _, _⟩) (v := .int .i64 (k : Int)) rfl (Or.inl ⟨by rfl, fun _ _ => rfl⟩) hHeld ?_
                        simp only [Act.put, sz0, sz1, sz2]
                        refine tk (i := 14) (oi := ⟨some 159, .indexAddr 65 (.tmp 157) (.tmp 158), _, _, _, _⟩) (v := .pointer (some (ad3.add (k * 3)))) rfl (Or.inl ⟨by rfl, fun w _ => by go_simp⟩) hHeld ?_
                        simp only [Act.put, sz0, sz1, sz2]
                        refine tk (i := 15) (oi := ⟨some 160, .fieldAddr 68 (.tmp 159) 1, _, _, _, _⟩) (v := .pointer (some ⟨(ad3.add (k * 3)).block, (ad3.add (k * 3)).off + 1, none⟩)) rfl (Or.inl ⟨by rfl, fun w _ => by go_simp⟩) hHeld ?_
                        simp only [Act.put, sz0, sz1, sz2]
                        refine tk (i := 16) (oi := ⟨some 161, .load 22 (.tmp 160), _, _, _, _⟩) (v := .int .u32 pa) rfl (Or.inl ⟨by rfl, fun w hSw => by have e1 := hSw.2; clear hSw; go_simp⟩) hHeld ?_
                        simp only [Act.put, sz0, sz1, sz2]
                        refine tk (i := 17) (oi := ⟨some 162, .convert 22 3 (.tmp 161), _, _, _, _⟩) (v := .int .i64 pa) rfl (Or.inl ⟨by rfl, fun w _ => by go_simp⟩) hHeld ?_
                        simp only [Act.put, sz0, sz1, sz2]
                        refine tk (i := 18) (oi := ⟨some 163, .move (.tmp 14), _, _, _, _⟩) (v := .int .i64 1) rfl (Or.inl ⟨by rfl, fun _ _ => rfl⟩) hHeld ?_
                        simp only [Act.put, sz0, sz1, sz2]
                        refine tk (i := 19) (oi := ⟨some 164, .binOp .mul 3 (.tmp 163) (.const (.int .i64 128)) 3, _, _, _, _⟩) (v := .int .i64 128) rfl (Or.inl ⟨by rfl, fun w _ => by go_simp⟩) hHeld ?_
                        simp only [Act.put, sz0, sz1, sz2]
                        refine tk (i := 20) (oi := ⟨some 165, .binOp .add 3 (.tmp 162) (.tmp 164) 3, _, _, _, _⟩) (v := .int .i64 (pa + 128)) rfl (Or.inl ⟨by rfl, fun w _ => by go_simp⟩) hHeld ?_
                        simp only [Act.put, sz0, sz1, sz2]
                        refine tk (i := 21) (oi := ⟨some 166, .binOp .lss 3 (.tmp 156) (.tmp 165) 3, _, _, _, _⟩) (v := .bool true) rfl (Or.inl ⟨by rfl, fun w _ => by go_simp⟩) hHeld ?_
                        simp only [Act.put, sz0, sz1, sz2]
                        refine tk (i := 22) (oi := ⟨some 167, .pick (.tmp 154) (.tmp 166) (.const (.bool false)), _, _, _, none⟩) (v := .bool true) rfl (Or.inl ⟨by rfl, fun w _ => by go_simp⟩) hHeld ?_
                        simp only [Act.put, sz0, sz1, sz2]
                        refine tk (i := 23) (oi := ⟨some 15, .assign (.tmp 167), _, _, _, none⟩) (v := .bool true) rfl (Or.inl ⟨by rfl, fun _ _ => rfl⟩) hHeld ?_
                        simp only [Act.put, sz0, sz1, sz2]
                        refine wpAnyH_done (by kernel_rfl) ?_ _
                        clear hHeld
                        have e2 := HP2.out _ l3
                        cases fb with
                        | true =>
                          go_wp2
                          have HN := Lib.hid (show true = (ac.any (entB a z) || (LL.take (k + 1)).any (inB a)) by rw [HS.out, ← Bool.or_assoc, ← HF2.out]; rfl)
                          go_roundw
                          case rel => exact ⟨k + 1, true, by omega, rfl, by go_num, HN.out, l3⟩
                          case measure => simp [intOf]; omega
                        | false =>
                          cases h4 : Tm.has q 4 with
                          | false =>
                            have x4 := X4.out
                            rw [h4, if_neg (by decide)] at x4
                            have HIN := Lib.hid (show inB a LL[k] = false from HIN1.out.trans (by simp [h4]))
                            clear h4
                            go_wp2
                            have HN := Lib.hid (show false = (ac.any (entB a z) || (LL.take (k + 1)).any (inB a)) by rw [HS.out, ← Bool.or_assoc, ← HF2.out]; rw [HIN.out]; rfl)
                            go_roundw
                            case rel => exact ⟨k + 1, false, by omega, rfl, by go_num, HN.out, l3⟩
                            case measure => simp [intOf]; omega
                          | true =>
                            have x4 := X4.out
                            rw [h4, if_pos rfl] at x4
                            cases h2 : Tm.has q 2 with
                            | false =>
                              have x2 := X2.out
                              rw [h2, if_neg (by decide)] at x2
                              have HIN := Lib.hid (show inB a LL[k] = false from HIN1.out.trans (by simp [h2]))
                              clear h4 h2
                              go_wp2
                              have HN := Lib.hid (show false = (ac.any (entB a z) || (LL.take (k + 1)).any (inB a)) by rw [HS.out, ← Bool.or_assoc, ← HF2.out]; rw [HIN.out]; rfl)
                              go_roundw
                              case rel => exact ⟨k + 1, false, by omega, rfl, by go_num, HN.out, l3⟩
                              case measure => simp [intOf]; omega
                            | true =>
                              have x2 := X2.out
                              rw [h2, if_pos rfl] at x2
                              have HIN := Lib.hid (show inB a LL[k] = true from HIN1.out.trans (by simp [h4, h2]))
                              clear h4 h2
                              go_wp2
                              have HN := Lib.hid (show true = (ac.any (entB a z) || (LL.take (k + 1)).any (inB a)) by rw [HS.out, ← Bool.or_assoc, ← HF2.out]; rw [HIN.out]; rfl)
                              go_roundw
                              case rel => exact ⟨k + 1, true, by omega, rfl, by go_num, HN.out, l3⟩
                              case measure => simp [intOf]; omega
                · obtain rfl : k = LL.length := by omega
                  have hfb : fb = true := by have := HF2.out; rw [List.take_length] at this; exact this.trans HFY.out
                  subst hfb
                  clear hlt hk HF2
                  go_wp2
                  go_roundw
                  case rel => exact ⟨i + 1, by omega, by go_num, HU8.out _ l3⟩
                  case measure => simp [intOf]; omega
        · obtain rfl : i = ws.length := by omega
          clear hilt hi
          have lw := HLW.out _ l3
          go_wp2_with (first
            | (go_at_call 11; refine (KSN.out _ lw).mono ?_; rintro e wS ⟨rfl, l1⟩; replace lw := Later.trans_ lw l1))
          go_ret
          exact ⟨rfl, lw⟩
end Go.Proofs.YtidhodalnikhlaaGreatDoor
