/-
  THE STATEMENT CoreComputes: addi.
-/
import Derived.Test.YtbhhhpglljkcpaaGreatDoorWza
namespace Go.Proofs.YtbhhhpglljkcpaaGreatDoor
open Go.RowKit Go.ChangeShapes Go.WideShapes Go.ChangeAt

set_option maxRecDepth 100000 in
set_option maxHeartbeats 16000000 in
theorem comp_16 (x : Cpu) (A : Option Addr) (n c : Nat) (b : Wm.Bs) (i : Im.I) (w : World) (hrv : x.Rv) (hc0 : 0 ≤ x.c0 ∧ x.c0 ≤ 4294967295) (hpcr : 0 ≤ x.pc ∧ x.pc ≤ 4294967295) (hc5 : Tm.isE x.c5) (hs : Sl w 128 A n (U b)) (hb : Wm.isBs b) (tab : Tab w) (hS : ∀ w', Tab w' → Calls Tryz.prog 11 #[] w' fun e w'' => e = .returned (.bool true) ∧ Later w' w'') (hR : RightB x n = true) (z0 : x.c0 = 0) (hr4z : x.pc % 4 = 0) (z2 : x.pc ≤ (n : Int) * 128 - 4) (hwt : x.wt = false) (hhl : x.hl = false) (hRi : Im.Right i) (hop : i.op = 16) :
    Calls Tryz.prog 9 #[.agg x.cells.toArray, .agg #[.slice A n c], .agg #[.int .i64 i.op, .int .i64 i.a, .int .i64 i.b, .int .i64 i.c, .int .i64 i.imm]] w fun e w' => e = .returned (.bool true) ∧ Later w w' := by
  have KS := Lib.hid fun w' (l : Later w w') => hS w' (tab.keep l)
  have KR := Lib.hid fun w' => cright_any x A n c w'
  have KI := Lib.hid fun w' => refRight_any i w'
  have KE := Lib.hid fun w' => refEncode_any i w'
  have b3 := ((Blk.new w 26 x.cells.toArray x.cells rfl).alloc (.cells #[.slice A n c] 29)).alloc (.cells #[.int .i64 i.op, .int .i64 i.a, .int .i64 i.b, .int .i64 i.c, .int .i64 i.imm] 70)
  have b4 := (Blk.new' (w.alloc (.cells x.cells.toArray 26)) (w.heap.size + 1) 29 #[.slice A n c] [.slice A n c] (by simp) rfl).alloc (.cells #[.int .i64 i.op, .int .i64 i.a, .int .i64 i.b, .int .i64 i.c, .int .i64 i.imm] 70)
  have b5 := Blk.new' ((w.alloc (.cells x.cells.toArray 26)).alloc (.cells #[.slice A n c] 29)) (w.heap.size + 1 + 1) 70 #[.int .i64 i.op, .int .i64 i.a, .int .i64 i.b, .int .i64 i.c, .int .i64 i.imm] [.int .i64 i.op, .int .i64 i.a, .int .i64 i.b, .int .i64 i.c, .int .i64 i.imm] (by simp) rfl
  have lw := ((later1 w (.cells x.cells.toArray 26)).alloc (by simp) (.cells #[.slice A n c] 29)).alloc (by simp; omega) (.cells #[.int .i64 i.op, .int .i64 i.a, .int .i64 i.b, .int .i64 i.c, .int .i64 i.imm] 70)
  obtain ⟨u0, hu⟩ : ∃ u0, ((w.alloc (.cells x.cells.toArray 26)).alloc (.cells #[.slice A n c] 29)).alloc (.cells #[.int .i64 i.op, .int .i64 i.a, .int .i64 i.b, .int .i64 i.c, .int .i64 i.imm] 70) = u0 := ⟨_, rfl⟩
  rw [hu] at b3 b4 b5 lw
  have eo := b5.cell (j := 0) (v := .int .i64 i.op) rfl
  rw [hR] at KR
  unfold RightB okC at hR
  simp only [Bool.and_eq_true, decide_eq_true_eq] at hR
  have hn1 : 1 ≤ n := hR.2.2.1
  have hn64 : n ≤ 64 := hR.2.2.2
  have hcnr : 0 ≤ x.cn ∧ x.cn < 1099511627776 := ⟨hR.1.2.2.2.2.1, hR.2.1⟩
  have hbl : b.length = n * 128 := by have := hs.1; rw [U_length] at this; exact this
  have w1' : IntKind.i64.wrap ((n : Int) * 128) = (n : Int) * 128 := by rw [IntKind.wrap_i64]; omega
  have w2' : IntKind.i64.wrap ((n : Int) * 128 - 4) = (n : Int) * 128 - 4 := by rw [IntKind.wrap_i64]; omega
  have w3' : IntKind.i64.wrap x.pc = x.pc := by rw [IntKind.wrap_i64]; omega
  obtain ⟨r4, hr4⟩ : ∃ z, z = x.pc % 4 := ⟨_, rfl⟩
  have w4' : x.pc.tmod 4 = r4 := by rw [hr4]; exact Int.tmod_eq_emod_of_nonneg hpcr.1
  have w5' : IntKind.u32.wrap r4 = r4 := by rw [hr4, IntKind.wrap_u32]; omega
  clear hS hR
  have p1' : decide (1 ≤ i.op) = true := decide_eq_true (by omega)
  have p2' : decide (i.op ≤ 12) = false := decide_eq_false (by omega)
  have p3' : (i.op != 16) = false := by rw [hop]; decide
  have d0 : (x.c0 != 0) = false := by simpa using z0
  have d1 : (r4 != 0) = false := by rw [hr4]; simpa using hr4z
  have d2 : decide ((n : Int) * 128 - 4 < x.pc) = false := decide_eq_false (by omega)
  rw [show decide (Im.Right i) = true from decide_eq_true hRi] at KI
  obtain ⟨pk, hpk⟩ : ∃ k : Nat, x.pc = (k : Int) := ⟨x.pc.toNat, by omega⟩
  have ghr3 := hRi.2.2.1
  have ghr4 := hRi.2.2.2.1
  have ghr5 := hRi.2.2.2.2.1
  unfold Im.reg at ghr3 ghr4 ghr5
  obtain ⟨ka, hka⟩ : ∃ k : Nat, i.a = (k : Int) := ⟨i.a.toNat, by omega⟩
  obtain ⟨kb, hkb⟩ : ∃ k : Nat, i.b = (k : Int) := ⟨i.b.toNat, by omega⟩
  obtain ⟨kc, hkc⟩ : ∃ k : Nat, i.c = (k : Int) := ⟨i.c.toNat, by omega⟩
  have hkb6 : kb < 16 := by omega
  have hkc6 : kc < 16 := by omega
  have i1 : (kb : Int) < 16 := by omega
  have i2 : (0 : Int) ≤ (kb : Int) := by omega
  have i3 : (kc : Int) < 16 := by omega
  have i4 : (0 : Int) ≤ (kc : Int) := by omega
  have hWB := Im.word_bd hRi
  have hWe : encW i = Im.word i := if_pos hRi
  have hEe : encE i = 0 := if_pos hRi
  rw [hWe, hEe] at KE
  obtain ⟨W, hW⟩ : ∃ W, W = Im.word i := ⟨_, rfl⟩
  rw [← hW] at KE hWB
  have KT := Lib.hid fun w' (l : Later w w') => rstore_there A n c pk 4 W b w' (hs.keep l) hn1 hn64 (by rw [← hpk]; exact ⟨Or.inr ⟨rfl, hr4z⟩, by omega, by push_cast; omega⟩) hWB.1 hWB.2
  rw [← hpk] at KT
  obtain ⟨rb, hrb⟩ : ∃ z, z = x.reg kb := ⟨_, rfl⟩
  obtain ⟨rc, hrc⟩ : ∃ z, z = x.reg kc := ⟨_, rfl⟩
  have hrbb : 0 ≤ rb ∧ rb < 4294967296 := by rw [hrb]; exact hrv kb hkb6
  have hrcb : 0 ≤ rc ∧ rc < 4294967296 := by rw [hrc]; exact hrv kc hkc6
  have HRB := Lib.hid (cpu_reg x hkb6)
  have HRC := Lib.hid (cpu_reg x hkc6)
  rw [← hrb] at HRB
  rw [← hrc] at HRC
  have HKA := Lib.hid hka
  have HKB := Lib.hid hkb
  have HKC := Lib.hid hkc
  obtain ⟨vv, hvv⟩ : ∃ z, z = i.imm % 4294967296 := ⟨_, rfl⟩
  have v1 : IntKind.u32.wrap i.imm = vv := by rw [IntKind.wrap_u32, hvv]
  obtain ⟨pn, hpn⟩ : ∃ z, z = (x.pc + 4) % 4294967296 := ⟨_, rfl⟩
  have p1 : IntKind.u32.wrap (x.pc + 4) = pn := by rw [IntKind.wrap_u32, hpn]
  have KD1 := Lib.hid fun w' => do_any (b := rb) (c := vv) hrbb.1 hrbb.2 (by omega) (by omega) w' 1
  rw [show Al.Er 1 = 0 from by decide] at KD1
  have hcv : compV x i = Al.I 1 rb vv := by
    unfold compV
    rw [if_pos hop]
    unfold Cpu.rg
    rw [hkb, Int.toNat_natCast, ← hrb]
    exact add_comp rb i.imm vv hvv (by rw [hrb]; exact hrv kb hkb6)
  have hcmp : Comp i := Or.inr hop
  have KP := Lib.hid fun (w' : World) (g c' : Nat) (h1 : Sl w' 128 (some ⟨g, 0, none⟩) n (U (Mm.put b pk (Mm.el 4 W)))) (l : Later w w') => comp_step x i g n c' b pk W w' h1 hb hbl hn1 hn64 hrv hc0 hpk hpcr.2 hc5 hcnr z0 hr4z (by omega) hwt hhl hRi hcmp hW (tab.keep l)
  rw [hcv, hka, ← hpn] at KP
  clear hRi hop hcmp hrbb hrcb hka hkb hkc ghr3 ghr4 ghr5 hr4 hkb6 hkc6 hWe hEe hW hWB hrb hrc hvv hpn hcv hpk hs hb hbl hn1 hn64 hrv hc0 hpcr hc5 hcnr hr4z tab
  go_enter Tryz.func9, Tryz.ntmps9
  go_upto_region 1 with fail
  clear hu
  go_upto_region 7 with (first
    | ((with_reducible refine wpList_load_blk (o := ⟨some 22, .load 26 (.tmp 3), _, _, _, none⟩) rfl _ _ rfl w.heap.size 26 x.cells _ ?_ ?_ Tryz.underlying26 rfl (cpu_sz _) ?_); rfl; exact b3)
    | ((with_reducible refine wpList_load_blk (o := ⟨some 23, .load 29 (.tmp 4), _, _, _, none⟩) rfl _ _ rfl (w.heap.size + 1) 29 [.slice A n c] _ ?_ ?_ Tryz.underlying29 rfl mem_sz ?_); rfl; exact b4)
    | (go_at_call 10; clear eo; (with_reducible refine (KR.out _).mono ?_); rintro e w1 ⟨rfl, l1⟩; replace b3 := b3.keep l1; replace b4 := b4.keep l1; replace b5 := b5.keep l1; replace lw := Later.trans_ lw l1; have e0 := b3.cell (j := 0) (v := .int .u32 x.pc) rfl; have e17 := b3.cell (j := 17) (v := .int .u32 x.c0) rfl; have e27 := b3.cell (j := 27) (v := .bool x.wt) rfl; have e28 := b3.cell (j := 28) (v := .bool x.hl) rfl; (try rw [hwt] at e27); (try rw [hhl] at e28); have em := b4.cell (j := 0) (v := .slice A n c) rfl; have eo := b5.cell (j := 0) (v := .int .i64 i.op) rfl)
    | ((with_reducible refine wpList_load_g (o := ⟨some 67, .load 70 (.tmp 5), _, _, _, _⟩) _ _ rfl (w.heap.size + 1 + 1) 70 [.int .i64 i.op, .int .i64 i.a, .int .i64 i.b, .int .i64 i.c, .int .i64 i.imm] _ ?_ ?_ ?_ Tryz.underlying70 ?_ (ins_sz5 _ _ _ _ _) ?_); rfl; rfl; exact b5; rfl)
    | (go_at_call 25; clear e0 e17 e27 e28 em eo; (with_reducible refine (KI.out _).mono ?_); rintro e w2 ⟨rfl, l1⟩; replace b3 := b3.keep l1; replace b4 := b4.keep l1; replace b5 := b5.keep l1; replace lw := Later.trans_ lw l1)
    | ((with_reducible refine wpList_load_blk (o := ⟨some 72, .load 70 (.tmp 5), _, _, _, none⟩) rfl _ _ rfl (w.heap.size + 1 + 1) 70 [.int .i64 i.op, .int .i64 i.a, .int .i64 i.b, .int .i64 i.c, .int .i64 i.imm] _ ?_ ?_ Tryz.underlying70 rfl (ins_sz5 _ _ _ _ _) ?_); rfl; exact b5)
    | (go_at_call 26; (with_reducible refine (KE.out _).mono ?_); rintro e w3 ⟨rfl, l1⟩; replace b3 := b3.keep l1; replace b4 := b4.keep l1; replace b5 := b5.keep l1; replace lw := Later.trans_ lw l1)
    | ((with_reducible refine wpList_store_abs (o := ⟨none, .store 74 (.tmp 8) (.tmp 73), _, _, _, none⟩) rfl _ _ _ rfl w3.heap.size 74 (encC 0 0) (encC W 0) ?_ ?_ (Blk.new _ _ _ _ rfl) (enc_sz _ _) rfl (enc_one _ _) ?_); rfl; rfl; intro u3 b8 ob; replace b3 := (b3.alloc (.cells (encC 0 0).toArray 74)).only ob (Nat.ne_of_lt b3.lt); replace b4 := (b4.alloc (.cells (encC 0 0).toArray 74)).only ob (Nat.ne_of_lt b4.lt); replace b5 := (b5.alloc (.cells (encC 0 0).toArray 74)).only ob (Nat.ne_of_lt b5.lt); replace lw := Below.only (lw.alloc lw.size (.cells (encC 0 0).toArray 74)) ob lw.size; clear ob; have e0 := b3.cell (j := 0) (v := .int .u32 x.pc) rfl; have eW := b8.cell (j := 0) (v := .int .u32 W) rfl)
    | ((with_reducible refine wpList_load_blk (o := ⟨some 74, .load 29 (.tmp 4), _, _, _, none⟩) rfl _ _ rfl (w.heap.size + 1) 29 [.slice A n c] _ ?_ ?_ Tryz.underlying29 rfl mem_sz ?_); rfl; exact b4)
    | (go_at_call 27; clear e0 eW; refine (KT.out _ lw).mono ?_; rintro e w4 ⟨g, c', rfl, hg1, hg2, hg3, d4, l1⟩; replace b3 := b3.keep l1; replace b4 := b4.keep l1; replace b5 := b5.keep l1; replace lw := Later.trans_ lw l1; clear b8)
    | ((with_reducible refine wpList_store_abs (o := ⟨none, .store 77 (.tmp 9) (.tmp 81), _, _, _, none⟩) rfl _ _ _ rfl w4.heap.size 77 [.slice none 0 0, .bool false] [.slice (some ⟨g, 0, none⟩) n c', .bool true] ?_ ?_ (Blk.new _ _ _ _ rfl) (sto_sz _ _) rfl (st_one _ _ _ _) ?_); rfl; rfl; intro u4 b9 ob; replace b3 := (b3.alloc (.cells #[.slice none 0 0, .bool false] 77)).only ob (Nat.ne_of_lt b3.lt); replace b4 := (b4.alloc (.cells #[.slice none 0 0, .bool false] 77)).only ob (Nat.ne_of_lt b4.lt); replace b5 := (b5.alloc (.cells #[.slice none 0 0, .bool false] 77)).only ob (Nat.ne_of_lt b5.lt); replace lw := Below.only (lw.alloc lw.size (.cells #[.slice none 0 0, .bool false] 77)) ob lw.size; have hgo : g ≠ w4.heap.size := Nat.ne_of_lt (d4lt d4); replace d4 := (d4.alloc' (.cells #[.slice none 0 0, .bool false] 77)).only ob hgo; clear ob hgo)
    | ((with_reducible refine wpList_load_blk (o := ⟨some 82, .load 26 (.tmp 3), _, _, _, none⟩) rfl _ _ rfl w.heap.size 26 x.cells _ ?_ ?_ Tryz.underlying26 rfl (cpu_sz _) ?_); rfl; exact b3)
    | ((refine wpList_load_at (o := ⟨some 84, .load 29 (.tmp 83), _, _, _, none⟩) rfl _ _ rfl w4.heap.size 0 1 77 [.slice (some ⟨g, 0, none⟩) n c', .bool true] [.slice (some ⟨g, 0, none⟩) n c'] _ ?_ b9 rfl Tryz.underlying29 rfl mem_sz ?_); rfl)
    | (go_at_call 13; refine (KP.out _ g c' (d4.sl) lw).mono ?_; rintro e w5 ⟨s2, AW, cw, AA, na, ca, rfl, q1, q2, q3, q4, l1⟩; replace b3 := b3.keep l1; replace b4 := b4.keep l1; replace b5 := b5.keep l1; replace lw := Later.trans_ lw l1; clear b9 b4 d4)
    | ((with_reducible refine wpList_store_abs (o := ⟨none, .store 38 (.tmp 10) (.tmp 85), _, _, _, none⟩) rfl _ _ _ rfl w5.heap.size 38 zS.eff s2.eff ?_ ?_ ?_ ?_ ?_ ?_ ?_); rfl; rfl; exact (Blk.new _ _ _ _ rfl); exact eff_sz _; rfl; exact (eff_one _ (by rw [q4.1]; rfl) (by rw [q4.2.1]; rfl)); intro u5 b10 ob; replace b3 := (b3.alloc (.cells zS.eff.toArray 38)).only ob (Nat.ne_of_lt b3.lt); replace b5 := (b5.alloc (.cells zS.eff.toArray 38)).only ob (Nat.ne_of_lt b5.lt); replace lw := Below.only (lw.alloc lw.size (.cells zS.eff.toArray 38)) ob lw.size; clear ob))
  have HDN := Lib.hid q1
  have HTR := Lib.hid q2.1
  have HPC := Lib.hid q2.2.1
  have HREG := Lib.hid q2.2.2
  have HWV := Lib.hid q4.1
  clear q1 q2 q3 q4
  replace b3 := b3.drew
  replace b5 := b5.drew
  replace b10 := b10.drew
  replace lw := lw.drew
  refine wp_region_held_drew (S := fun w' => w'.cell? ⟨(w.heap.size + 1 + 1), 2, none⟩ = some (.int .i64 (kb : Int)) ∧ w'.cell? ⟨w.heap.size, 1 + kb, none⟩ = some (.int .u32 rb) ∧ w'.cell? ⟨(w.heap.size + 1 + 1), 4, none⟩ = some (.int .i64 i.imm)) (by kernel_rfl) ⟨b5.cell (j := 2) (congrArg (fun z => some (Value.int .i64 z)) HKB.out), b3.cell HRB.out, b5.cell (j := 4) rfl⟩ (fun hHeld => ?_)
  refine wpAnyH_take (i := 0) (oi := ⟨some 87, .fieldAddr 70 (.tmp 5) 2, _, _, _, none⟩) (v := .pointer (some ⟨(w.heap.size + 1 + 1), 2, none⟩)) rfl (by kernel_rfl) (by kernel_rfl) (by kernel_rfl) (fun _ _ _ h => h) (Or.inl ⟨by rfl, fun w _ => by go_simp⟩) hHeld ?_
  simp only [Act.put, List.setIfInBounds_toArray, List.set_cons_zero, List.set_cons_succ]
  refine wpAnyH_take (i := 1) (oi := ⟨some 88, .load 3 (.tmp 87), _, _, _, none⟩) (v := .int .i64 (kb : Int)) rfl (by kernel_rfl) (by kernel_rfl) (by kernel_rfl) (fun _ _ _ h => h) (Or.inl ⟨by rfl, fun w hSw => by have e1 := hSw.1; clear hSw; go_simp⟩) hHeld ?_
  simp only [Act.put, List.setIfInBounds_toArray, List.set_cons_zero, List.set_cons_succ]
  refine wpAnyH_take (i := 2) (oi := ⟨some 89, .fieldAddr 26 (.tmp 3) 1, _, _, _, none⟩) (v := .pointer (some ⟨w.heap.size, 1, none⟩)) rfl (by kernel_rfl) (by kernel_rfl) (by kernel_rfl) (fun _ _ _ h => h) (Or.inl ⟨by rfl, fun w _ => by go_simp⟩) hHeld ?_
  simp only [Act.put, List.setIfInBounds_toArray, List.set_cons_zero, List.set_cons_succ]
  refine wpAnyH_take (i := 3) (oi := ⟨some 90, .indexAddr 23 (.tmp 89) (.tmp 88), _, _, _, none⟩) (v := .pointer (some ⟨w.heap.size, 1 + kb, none⟩)) rfl (by kernel_rfl) (by kernel_rfl) (by kernel_rfl) (fun _ _ _ h => h) (Or.inl ⟨by rfl, fun w _ => by go_simp⟩) hHeld ?_
  simp only [Act.put, List.setIfInBounds_toArray, List.set_cons_zero, List.set_cons_succ]
  refine wpAnyH_take (i := 4) (oi := ⟨some 91, .load 22 (.tmp 90), _, _, _, none⟩) (v := .int .u32 rb) rfl (by kernel_rfl) (by kernel_rfl) (by kernel_rfl) (fun _ _ _ h => h) (Or.inl ⟨by rfl, fun w hSw => by have e1 := hSw.2.1; clear hSw; go_simp⟩) hHeld ?_
  simp only [Act.put, List.setIfInBounds_toArray, List.set_cons_zero, List.set_cons_succ]
  refine wpAnyH_take (i := 5) (oi := ⟨some 92, .fieldAddr 70 (.tmp 5) 4, _, _, _, none⟩) (v := .pointer (some ⟨(w.heap.size + 1 + 1), 4, none⟩)) rfl (by kernel_rfl) (by kernel_rfl) (by kernel_rfl) (fun _ _ _ h => h) (Or.inl ⟨by rfl, fun w _ => by go_simp⟩) hHeld ?_
  simp only [Act.put, List.setIfInBounds_toArray, List.set_cons_zero, List.set_cons_succ]
  refine wpAnyH_take (i := 6) (oi := ⟨some 93, .load 3 (.tmp 92), _, _, _, none⟩) (v := .int .i64 i.imm) rfl (by kernel_rfl) (by kernel_rfl) (by kernel_rfl) (fun _ _ _ h => h) (Or.inl ⟨by rfl, fun w hSw => by have e1 := hSw.2.2; clear hSw; go_simp⟩) hHeld ?_
  simp only [Act.put, List.setIfInBounds_toArray, List.set_cons_zero, List.set_cons_succ]
  refine wpAnyH_take (i := 7) (oi := ⟨some 94, .convert 3 22 (.tmp 93), _, _, _, none⟩) (v := .int .u32 vv) rfl (by kernel_rfl) (by kernel_rfl) (by kernel_rfl) (fun _ _ _ h => h) (Or.inl ⟨by rfl, fun w _ => by go_simp⟩) hHeld ?_
  simp only [Act.put, List.setIfInBounds_toArray, List.set_cons_zero, List.set_cons_succ]
  refine wpAnyH_ready (rs := [8]) (by kernel_rfl) (by simp) (AllReadyH.cons (o := ⟨some 95, .call { callee := .value (.func 28), args := #[.const (.int .i64 1), .tmp 91, .tmp 94], argTypes := #[3, 22, 22] }, _, _, _, none⟩) rfl (fun K' hK => ?_) (AllReadyH.nil))
  go_simp
  (with_reducible refine (KD1.out _).mono ?_)
  rintro e w6 ⟨rfl, l1⟩
  replace b3 := b3.keep l1
  replace b5 := b5.keep l1
  replace b10 := b10.keep l1
  replace lw := Later.trans_ lw l1
  refine hK.out _ _ ⟨b5.cell (j := 2) (congrArg (fun z => some (Value.int .i64 z)) HKB.out), b3.cell HRB.out, b5.cell (j := 4) rfl⟩ (fun hHeld => ?_)
  clear hK K'
  try simp only [Act.put, List.setIfInBounds_toArray, List.set_cons_zero, List.set_cons_succ]
  refine wpAnyH_take (i := 9) (oi := ⟨some 86, .move (.tmp 95), _, _, _, none⟩) (v := (.tuple #[.int .u32 (Al.I 1 rb vv), .int .i64 0])) rfl (by kernel_rfl) (by kernel_rfl) (by kernel_rfl) (fun _ _ _ h => h) (Or.inl ⟨by rfl, fun _ _ => rfl⟩) hHeld ?_
  simp only [Act.put, List.setIfInBounds_toArray, List.set_cons_zero, List.set_cons_succ]
  refine wpAnyH_take (i := 10) (oi := ⟨some 96, .extract (.tmp 86) 0, _, _, _, none⟩) (v := .int .u32 (Al.I 1 rb vv)) rfl (by kernel_rfl) (by kernel_rfl) (by kernel_rfl) (fun _ _ _ h => h) (Or.inl ⟨by rfl, fun w _ => by go_simp⟩) hHeld ?_
  simp only [Act.put, List.setIfInBounds_toArray, List.set_cons_zero, List.set_cons_succ]
  refine wpAnyH_take (i := 11) (oi := ⟨some 97, .extract (.tmp 86) 1, _, _, _, none⟩) (v := .int .i64 0) rfl (by kernel_rfl) (by kernel_rfl) (by kernel_rfl) (fun _ _ _ h => h) (Or.inl ⟨by rfl, fun w _ => by go_simp⟩) hHeld ?_
  simp only [Act.put, List.setIfInBounds_toArray, List.set_cons_zero, List.set_cons_succ]
  refine wpAnyH_take (i := 12) (oi := ⟨some 11, .assign (.tmp 96), _, _, _, none⟩) (v := .int .u32 (Al.I 1 rb vv)) rfl (by kernel_rfl) (by kernel_rfl) (by kernel_rfl) (fun _ _ _ h => h) (Or.inl ⟨by rfl, fun _ _ => rfl⟩) hHeld ?_
  simp only [Act.put, List.setIfInBounds_toArray, List.set_cons_zero, List.set_cons_succ]
  refine wpAnyH_take (i := 13) (oi := ⟨some 12, .assign (.tmp 97), _, _, _, none⟩) (v := .int .i64 0) rfl (by kernel_rfl) (by kernel_rfl) (by kernel_rfl) (fun _ _ _ h => h) (Or.inl ⟨by rfl, fun _ _ => rfl⟩) hHeld ?_
  simp only [Act.put, List.setIfInBounds_toArray, List.set_cons_zero, List.set_cons_succ]
  refine wpAnyH_done (by kernel_rfl) ?_ _
  clear hHeld
  have e0 := b3.cell (j := 0) (v := .int .u32 x.pc) rfl
  have f0 := b10.cell (j := 0) (v := .bool true) (congrArg (fun z => some (Value.bool z)) HDN.out)
  have f70 := b10.cell (j := 70) (v := .int .i64 0) (congrArg (fun z => some (Value.int .i64 z)) HTR.out)
  have f1 := b10.cell (j := 1) (v := .int .u32 pn) (congrArg (fun z => some (Value.int .u32 z)) HPC.out)
  have f62 := b10.cell (j := 62) (v := .slice AW 0 cw) (congrArg some HWV.out)
  go_upto_region 12 with fail
  clear e0 f0 f70 f1 f62
  go_wp2
  go_loopw [13] (fun ix wr => ∃ k : Nat, k ≤ 16 ∧ ix = .int .i64 k ∧ Blk wr w.heap.size 26 x.cells ∧ Blk wr (w.heap.size + 1 + 1) 70 [.int .i64 i.op, .int .i64 i.a, .int .i64 i.b, .int .i64 i.c, .int .i64 i.imm] ∧ Blk wr w5.heap.size 38 s2.eff ∧ Later w wr) (fun ix _ => 16 - (intOf ix).toNat)
  case atStart => exact ⟨0, by omega, rfl, b3, b5, b10, lw⟩
  case round =>
    clear b3 b5 b10 lw
    obtain ⟨k, hk, rfl, b3, b5, b10, lw⟩ := hrel
    by_cases hlt : k < 16
    · have hkn : (k : Int) < 16 := by omega
      have hk0 : (0 : Int) ≤ k := by omega
      have hEK := (eff_reg s2 k hlt).trans (congrArg (fun z => some (Value.int .u32 z)) (HREG.out k hlt))
      have HXK := Lib.hid (cpu_reg x hlt)
      obtain ⟨xk, hxk⟩ : ∃ z, z = x.reg k := ⟨_, rfl⟩
      rw [← hxk] at hEK HXK
      clear hxk
      by_cases hA : (k : Int) = (ka : Int)
      · have dA : ((k : Int) == (ka : Int)) = true := by simpa using hA
        have dN : ((k : Int) != (ka : Int)) = false := by simpa using hA
        by_cases hz : (k : Int) = 0
        · have z1 : ((k : Int) != 0) = false := by simpa using hz
          have z2 : ((k : Int) == 0) = true := by simpa using hz
          rw [if_neg (by omega)] at hEK
          clear hA hz
          have HEK := Lib.hid hEK
          clear hEK
          go_upto_region 15 with fail
          replace b3 := b3.drew
          replace b5 := b5.drew
          replace b10 := b10.drew
          replace lw := lw.drew
          refine wp_region_held_drew (S := fun w' => w'.cell? ⟨(w.heap.size + 1 + 1), 1, none⟩ = some (.int .i64 (ka : Int)) ∧ w'.cell? ⟨w5.heap.size, 2 + k, none⟩ = some (.int .u32 xk) ∧ w'.cell? ⟨w.heap.size, 1 + k, none⟩ = some (.int .u32 xk)) (by kernel_rfl) ⟨b5.cell (j := 1) (congrArg (fun z => some (Value.int .i64 z)) HKA.out), b10.cell HEK.out, b3.cell HXK.out⟩ (fun hHeld => ?_)
          refine wpAnyH_take (i := 0) (oi := ⟨some 146, .move (.tmp 13), _, _, _, none⟩) (v := .int .i64 (k : Int)) rfl (by kernel_rfl) (by kernel_rfl) (by kernel_rfl) (fun _ _ _ h => h) (Or.inl ⟨by rfl, fun _ _ => rfl⟩) hHeld ?_
          simp only [Act.put, List.setIfInBounds_toArray, List.set_cons_zero, List.set_cons_succ]
          refine wpAnyH_take (i := 1) (oi := ⟨some 147, .fieldAddr 70 (.tmp 5) 1, _, _, _, none⟩) (v := .pointer (some ⟨(w.heap.size + 1 + 1), 1, none⟩)) rfl (by kernel_rfl) (by kernel_rfl) (by kernel_rfl) (fun _ _ _ h => h) (Or.inl ⟨by rfl, fun w _ => by go_simp⟩) hHeld ?_
          simp only [Act.put, List.setIfInBounds_toArray, List.set_cons_zero, List.set_cons_succ]
          refine wpAnyH_take (i := 2) (oi := ⟨some 148, .load 3 (.tmp 147), _, _, _, none⟩) (v := .int .i64 (ka : Int)) rfl (by kernel_rfl) (by kernel_rfl) (by kernel_rfl) (fun _ _ _ h => h) (Or.inl ⟨by rfl, fun w hSw => by have e1 := hSw.1; clear hSw; go_simp⟩) hHeld ?_
          simp only [Act.put, List.setIfInBounds_toArray, List.set_cons_zero, List.set_cons_succ]
          refine wpAnyH_take (i := 3) (oi := ⟨some 149, .binOp .eql 3 (.tmp 146) (.tmp 148) 3, _, _, _, none⟩) (v := .bool true) rfl (by kernel_rfl) (by kernel_rfl) (by kernel_rfl) (fun _ _ _ h => h) (Or.inl ⟨by rfl, fun w _ => by go_simp⟩) hHeld ?_
          simp only [Act.put, List.setIfInBounds_toArray, List.set_cons_zero, List.set_cons_succ]
          refine wpAnyH_take (i := 4) (oi := ⟨some 150, .move (.tmp 149), _, _, _, none⟩) (v := .bool true) rfl (by kernel_rfl) (by kernel_rfl) (by kernel_rfl) (fun _ _ _ h => h) (Or.inl ⟨by rfl, fun _ _ => rfl⟩) hHeld ?_
          simp only [Act.put, List.setIfInBounds_toArray, List.set_cons_zero, List.set_cons_succ]
          refine wpAnyH_take (i := 5) (oi := ⟨some 151, .move (.tmp 13), _, _, _, _⟩) (v := .int .i64 (k : Int)) rfl (by kernel_rfl) (by kernel_rfl) (by kernel_rfl) (fun _ _ _ h => h) (Or.inl ⟨by rfl, fun _ _ => rfl⟩) hHeld ?_
          simp only [Act.put, List.setIfInBounds_toArray, List.set_cons_zero, List.set_cons_succ]
          refine wpAnyH_take (i := 6) (oi := ⟨some 152, .binOp .neq 3 (.tmp 151) (.const (.int .i64 0)) 3, _, _, _, _⟩) (v := .bool false) rfl (by kernel_rfl) (by kernel_rfl) (by kernel_rfl) (fun _ _ _ h => h) (Or.inl ⟨by rfl, fun w _ => by go_simp⟩) hHeld ?_
          simp only [Act.put, List.setIfInBounds_toArray, List.set_cons_zero, List.set_cons_succ]
          refine wpAnyH_take (i := 7) (oi := ⟨some 153, .pick (.tmp 150) (.tmp 152) (.const (.bool false)), _, _, _, none⟩) (v := .bool false) rfl (by kernel_rfl) (by kernel_rfl) (by kernel_rfl) (fun _ _ _ h => h) (Or.inl ⟨by rfl, fun w _ => by go_simp⟩) hHeld ?_
          simp only [Act.put, List.setIfInBounds_toArray, List.set_cons_zero, List.set_cons_succ]
          refine wpAnyH_take (i := 8) (oi := ⟨some 154, .move (.tmp 153), _, _, _, none⟩) (v := .bool false) rfl (by kernel_rfl) (by kernel_rfl) (by kernel_rfl) (fun _ _ _ h => h) (Or.inl ⟨by rfl, fun _ _ => rfl⟩) hHeld ?_
          simp only [Act.put, List.setIfInBounds_toArray, List.set_cons_zero, List.set_cons_succ]
          refine wpAnyH_take (i := 9) (oi := ⟨some 155, .move (.tmp 13), _, _, _, _⟩) (v := undef) rfl (by kernel_rfl) (by kernel_rfl) (by kernel_rfl) (fun _ _ _ h => h) (Or.inr ⟨by rfl, rfl⟩) hHeld ?_
          simp only [Act.put, List.setIfInBounds_toArray, List.set_cons_zero, List.set_cons_succ]
          refine wpAnyH_take (i := 10) (oi := ⟨some 156, .fieldAddr 38 (.tmp 10) 1, _, _, _, _⟩) (v := undef) rfl (by kernel_rfl) (by kernel_rfl) (by kernel_rfl) (fun _ _ _ h => h) (Or.inr ⟨by rfl, rfl⟩) hHeld ?_
          simp only [Act.put, List.setIfInBounds_toArray, List.set_cons_zero, List.set_cons_succ]
          refine wpAnyH_take (i := 11) (oi := ⟨some 157, .fieldAddr 26 (.tmp 156) 1, _, _, _, _⟩) (v := undef) rfl (by kernel_rfl) (by kernel_rfl) (by kernel_rfl) (fun _ _ _ h => h) (Or.inr ⟨by rfl, rfl⟩) hHeld ?_
          simp only [Act.put, List.setIfInBounds_toArray, List.set_cons_zero, List.set_cons_succ]
          refine wpAnyH_take (i := 12) (oi := ⟨some 158, .indexAddr 23 (.tmp 157) (.tmp 155), _, _, _, _⟩) (v := undef) rfl (by kernel_rfl) (by kernel_rfl) (by kernel_rfl) (fun _ _ _ h => h) (Or.inr ⟨by rfl, rfl⟩) hHeld ?_
          simp only [Act.put, List.setIfInBounds_toArray, List.set_cons_zero, List.set_cons_succ]
          refine wpAnyH_take (i := 13) (oi := ⟨some 159, .load 22 (.tmp 158), _, _, _, _⟩) (v := undef) rfl (by kernel_rfl) (by kernel_rfl) (by kernel_rfl) (fun _ _ _ h => h) (Or.inr ⟨by rfl, rfl⟩) hHeld ?_
          simp only [Act.put, List.setIfInBounds_toArray, List.set_cons_zero, List.set_cons_succ]
          refine wpAnyH_take (i := 14) (oi := ⟨some 160, .move (.tmp 11), _, _, _, _⟩) (v := undef) rfl (by kernel_rfl) (by kernel_rfl) (by kernel_rfl) (fun _ _ _ h => h) (Or.inr ⟨by rfl, rfl⟩) hHeld ?_
          simp only [Act.put, List.setIfInBounds_toArray, List.set_cons_zero, List.set_cons_succ]
          refine wpAnyH_take (i := 15) (oi := ⟨some 161, .binOp .neq 22 (.tmp 159) (.tmp 160) 22, _, _, _, _⟩) (v := undef) rfl (by kernel_rfl) (by kernel_rfl) (by kernel_rfl) (fun _ _ _ h => h) (Or.inr ⟨by rfl, rfl⟩) hHeld ?_
          simp only [Act.put, List.setIfInBounds_toArray, List.set_cons_zero, List.set_cons_succ]
          refine wpAnyH_take (i := 16) (oi := ⟨some 162, .pick (.tmp 154) (.tmp 161) (.const (.bool false)), _, _, _, none⟩) (v := .bool false) rfl (by kernel_rfl) (by kernel_rfl) (by kernel_rfl) (fun _ _ _ h => h) (Or.inl ⟨by rfl, fun w _ => by go_simp⟩) hHeld ?_
          simp only [Act.put, List.setIfInBounds_toArray, List.set_cons_zero, List.set_cons_succ]
          refine wpAnyH_take (i := 17) (oi := ⟨some 163, .move (.tmp 162), _, _, _, none⟩) (v := .bool false) rfl (by kernel_rfl) (by kernel_rfl) (by kernel_rfl) (fun _ _ _ h => h) (Or.inl ⟨by rfl, fun _ _ => rfl⟩) hHeld ?_
          simp only [Act.put, List.setIfInBounds_toArray, List.set_cons_zero, List.set_cons_succ]
          refine wpAnyH_take (i := 18) (oi := ⟨some 164, .move (.tmp 13), _, _, _, _⟩) (v := .int .i64 (k : Int)) rfl (by kernel_rfl) (by kernel_rfl) (by kernel_rfl) (fun _ _ _ h => h) (Or.inl ⟨by rfl, fun _ _ => rfl⟩) hHeld ?_
          simp only [Act.put, List.setIfInBounds_toArray, List.set_cons_zero, List.set_cons_succ]
          refine wpAnyH_take (i := 19) (oi := ⟨some 165, .fieldAddr 70 (.tmp 5) 1, _, _, _, _⟩) (v := .pointer (some ⟨(w.heap.size + 1 + 1), 1, none⟩)) rfl (by kernel_rfl) (by kernel_rfl) (by kernel_rfl) (fun _ _ _ h => h) (Or.inl ⟨by rfl, fun w _ => by go_simp⟩) hHeld ?_
          simp only [Act.put, List.setIfInBounds_toArray, List.set_cons_zero, List.set_cons_succ]
          refine wpAnyH_take (i := 20) (oi := ⟨some 166, .load 3 (.tmp 165), _, _, _, _⟩) (v := .int .i64 (ka : Int)) rfl (by kernel_rfl) (by kernel_rfl) (by kernel_rfl) (fun _ _ _ h => h) (Or.inl ⟨by rfl, fun w hSw => by have e1 := hSw.1; clear hSw; go_simp⟩) hHeld ?_
          simp only [Act.put, List.setIfInBounds_toArray, List.set_cons_zero, List.set_cons_succ]
          refine wpAnyH_take (i := 21) (oi := ⟨some 167, .binOp .neq 3 (.tmp 164) (.tmp 166) 3, _, _, _, _⟩) (v := .bool false) rfl (by kernel_rfl) (by kernel_rfl) (by kernel_rfl) (fun _ _ _ h => h) (Or.inl ⟨by rfl, fun w _ => by go_simp⟩) hHeld ?_
          simp only [Act.put, List.setIfInBounds_toArray, List.set_cons_zero, List.set_cons_succ]
          refine wpAnyH_take (i := 22) (oi := ⟨some 168, .move (.tmp 167), _, _, _, _⟩) (v := .bool false) rfl (by kernel_rfl) (by kernel_rfl) (by kernel_rfl) (fun _ _ _ h => h) (Or.inl ⟨by rfl, fun _ _ => rfl⟩) hHeld ?_
          simp only [Act.put, List.setIfInBounds_toArray, List.set_cons_zero, List.set_cons_succ]
          refine wpAnyH_take (i := 23) (oi := ⟨some 169, .move (.tmp 13), _, _, _, _⟩) (v := .int .i64 (k : Int)) rfl (by kernel_rfl) (by kernel_rfl) (by kernel_rfl) (fun _ _ _ h => h) (Or.inl ⟨by rfl, fun _ _ => rfl⟩) hHeld ?_
          simp only [Act.put, List.setIfInBounds_toArray, List.set_cons_zero, List.set_cons_succ]
          refine wpAnyH_take (i := 24) (oi := ⟨some 170, .binOp .eql 3 (.tmp 169) (.const (.int .i64 0)) 3, _, _, _, _⟩) (v := .bool true) rfl (by kernel_rfl) (by kernel_rfl) (by kernel_rfl) (fun _ _ _ h => h) (Or.inl ⟨by rfl, fun w _ => by go_simp⟩) hHeld ?_
          simp only [Act.put, List.setIfInBounds_toArray, List.set_cons_zero, List.set_cons_succ]
          refine wpAnyH_take (i := 25) (oi := ⟨some 171, .pick (.tmp 168) (.const (.bool true)) (.tmp 170), _, _, _, _⟩) (v := .bool true) rfl (by kernel_rfl) (by kernel_rfl) (by kernel_rfl) (fun _ _ _ h => h) (Or.inl ⟨by rfl, fun w _ => by go_simp⟩) hHeld ?_
          simp only [Act.put, List.setIfInBounds_toArray, List.set_cons_zero, List.set_cons_succ]
          refine wpAnyH_take (i := 26) (oi := ⟨some 172, .move (.tmp 171), _, _, _, _⟩) (v := .bool true) rfl (by kernel_rfl) (by kernel_rfl) (by kernel_rfl) (fun _ _ _ h => h) (Or.inl ⟨by rfl, fun _ _ => rfl⟩) hHeld ?_
          simp only [Act.put, List.setIfInBounds_toArray, List.set_cons_zero, List.set_cons_succ]
          refine wpAnyH_take (i := 27) (oi := ⟨some 173, .move (.tmp 13), _, _, _, _⟩) (v := .int .i64 (k : Int)) rfl (by kernel_rfl) (by kernel_rfl) (by kernel_rfl) (fun _ _ _ h => h) (Or.inl ⟨by rfl, fun _ _ => rfl⟩) hHeld ?_
          simp only [Act.put, List.setIfInBounds_toArray, List.set_cons_zero, List.set_cons_succ]
          refine wpAnyH_take (i := 28) (oi := ⟨some 174, .fieldAddr 38 (.tmp 10) 1, _, _, _, _⟩) (v := .pointer (some ⟨w5.heap.size, 1, none⟩)) rfl (by kernel_rfl) (by kernel_rfl) (by kernel_rfl) (fun _ _ _ h => h) (Or.inl ⟨by rfl, fun w _ => by go_simp⟩) hHeld ?_
          simp only [Act.put, List.setIfInBounds_toArray, List.set_cons_zero, List.set_cons_succ]
          refine wpAnyH_take (i := 29) (oi := ⟨some 175, .fieldAddr 26 (.tmp 174) 1, _, _, _, _⟩) (v := .pointer (some ⟨w5.heap.size, 2, none⟩)) rfl (by kernel_rfl) (by kernel_rfl) (by kernel_rfl) (fun _ _ _ h => h) (Or.inl ⟨by rfl, fun w _ => by go_simp⟩) hHeld ?_
          simp only [Act.put, List.setIfInBounds_toArray, List.set_cons_zero, List.set_cons_succ]
          refine wpAnyH_take (i := 30) (oi := ⟨some 176, .indexAddr 23 (.tmp 175) (.tmp 173), _, _, _, _⟩) (v := .pointer (some ⟨w5.heap.size, 2 + k, none⟩)) rfl (by kernel_rfl) (by kernel_rfl) (by kernel_rfl) (fun _ _ _ h => h) (Or.inl ⟨by rfl, fun w _ => by go_simp⟩) hHeld ?_
          simp only [Act.put, List.setIfInBounds_toArray, List.set_cons_zero, List.set_cons_succ]
          refine wpAnyH_take (i := 31) (oi := ⟨some 177, .load 22 (.tmp 176), _, _, _, _⟩) (v := .int .u32 xk) rfl (by kernel_rfl) (by kernel_rfl) (by kernel_rfl) (fun _ _ _ h => h) (Or.inl ⟨by rfl, fun w hSw => by have e1 := hSw.2.1; clear hSw; go_simp⟩) hHeld ?_
          simp only [Act.put, List.setIfInBounds_toArray, List.set_cons_zero, List.set_cons_succ]
          refine wpAnyH_take (i := 32) (oi := ⟨some 178, .move (.tmp 13), _, _, _, _⟩) (v := .int .i64 (k : Int)) rfl (by kernel_rfl) (by kernel_rfl) (by kernel_rfl) (fun _ _ _ h => h) (Or.inl ⟨by rfl, fun _ _ => rfl⟩) hHeld ?_
          simp only [Act.put, List.setIfInBounds_toArray, List.set_cons_zero, List.set_cons_succ]
          refine wpAnyH_take (i := 33) (oi := ⟨some 179, .fieldAddr 26 (.tmp 3) 1, _, _, _, _⟩) (v := .pointer (some ⟨w.heap.size, 1, none⟩)) rfl (by kernel_rfl) (by kernel_rfl) (by kernel_rfl) (fun _ _ _ h => h) (Or.inl ⟨by rfl, fun w _ => by go_simp⟩) hHeld ?_
          simp only [Act.put, List.setIfInBounds_toArray, List.set_cons_zero, List.set_cons_succ]
          refine wpAnyH_take (i := 34) (oi := ⟨some 180, .indexAddr 23 (.tmp 179) (.tmp 178), _, _, _, _⟩) (v := .pointer (some ⟨w.heap.size, 1 + k, none⟩)) rfl (by kernel_rfl) (by kernel_rfl) (by kernel_rfl) (fun _ _ _ h => h) (Or.inl ⟨by rfl, fun w _ => by go_simp⟩) hHeld ?_
          simp only [Act.put, List.setIfInBounds_toArray, List.set_cons_zero, List.set_cons_succ]
          refine wpAnyH_take (i := 35) (oi := ⟨some 181, .load 22 (.tmp 180), _, _, _, _⟩) (v := .int .u32 xk) rfl (by kernel_rfl) (by kernel_rfl) (by kernel_rfl) (fun _ _ _ h => h) (Or.inl ⟨by rfl, fun w hSw => by have e1 := hSw.2.2; clear hSw; go_simp⟩) hHeld ?_
          simp only [Act.put, List.setIfInBounds_toArray, List.set_cons_zero, List.set_cons_succ]
          refine wpAnyH_take (i := 36) (oi := ⟨some 182, .binOp .neq 22 (.tmp 177) (.tmp 181) 22, _, _, _, _⟩) (v := .bool false) rfl (by kernel_rfl) (by kernel_rfl) (by kernel_rfl) (fun _ _ _ h => h) (Or.inl ⟨by rfl, fun w _ => by go_simp⟩) hHeld ?_
          simp only [Act.put, List.setIfInBounds_toArray, List.set_cons_zero, List.set_cons_succ]
          refine wpAnyH_take (i := 37) (oi := ⟨some 183, .pick (.tmp 172) (.tmp 182) (.const (.bool false)), _, _, _, _⟩) (v := .bool false) rfl (by kernel_rfl) (by kernel_rfl) (by kernel_rfl) (fun _ _ _ h => h) (Or.inl ⟨by rfl, fun w _ => by go_simp⟩) hHeld ?_
          simp only [Act.put, List.setIfInBounds_toArray, List.set_cons_zero, List.set_cons_succ]
          refine wpAnyH_take (i := 38) (oi := ⟨some 184, .pick (.tmp 163) (.const (.bool true)) (.tmp 183), _, _, _, none⟩) (v := .bool false) rfl (by kernel_rfl) (by kernel_rfl) (by kernel_rfl) (fun _ _ _ h => h) (Or.inl ⟨by rfl, fun w _ => by go_simp⟩) hHeld ?_
          simp only [Act.put, List.setIfInBounds_toArray, List.set_cons_zero, List.set_cons_succ]
          refine wpAnyH_done (by kernel_rfl) ?_ _
          clear hHeld
          go_wp2
          go_roundw
          case rel => exact ⟨k + 1, by omega, by go_num, b3, b5, b10, lw⟩
          case measure => simp [intOf]; omega
        · have z1 : ((k : Int) != 0) = true := by simpa using hz
          have z2 : ((k : Int) == 0) = false := by simpa using hz
          rw [if_pos ⟨by omega, by omega⟩] at hEK
          clear hA hz
          have HEK := Lib.hid hEK
          clear hEK
          go_upto_region 15 with fail
          replace b3 := b3.drew
          replace b5 := b5.drew
          replace b10 := b10.drew
          replace lw := lw.drew
          refine wp_region_held_drew (S := fun w' => w'.cell? ⟨(w.heap.size + 1 + 1), 1, none⟩ = some (.int .i64 (ka : Int)) ∧ w'.cell? ⟨w5.heap.size, 2 + k, none⟩ = some (.int .u32 (Al.I 1 rb vv)) ∧ w'.cell? ⟨w.heap.size, 1 + k, none⟩ = some (.int .u32 xk)) (by kernel_rfl) ⟨b5.cell (j := 1) (congrArg (fun z => some (Value.int .i64 z)) HKA.out), b10.cell HEK.out, b3.cell HXK.out⟩ (fun hHeld => ?_)
          refine wpAnyH_take (i := 0) (oi := ⟨some 146, .move (.tmp 13), _, _, _, none⟩) (v := .int .i64 (k : Int)) rfl (by kernel_rfl) (by kernel_rfl) (by kernel_rfl) (fun _ _ _ h => h) (Or.inl ⟨by rfl, fun _ _ => rfl⟩) hHeld ?_
          simp only [Act.put, List.setIfInBounds_toArray, List.set_cons_zero, List.set_cons_succ]
          refine wpAnyH_take (i := 1) (oi := ⟨some 147, .fieldAddr 70 (.tmp 5) 1, _, _, _, none⟩) (v := .pointer (some ⟨(w.heap.size + 1 + 1), 1, none⟩)) rfl (by kernel_rfl) (by kernel_rfl) (by kernel_rfl) (fun _ _ _ h => h) (Or.inl ⟨by rfl, fun w _ => by go_simp⟩) hHeld ?_
          simp only [Act.put, List.setIfInBounds_toArray, List.set_cons_zero, List.set_cons_succ]
          refine wpAnyH_take (i := 2) (oi := ⟨some 148, .load 3 (.tmp 147), _, _, _, none⟩) (v := .int .i64 (ka : Int)) rfl (by kernel_rfl) (by kernel_rfl) (by kernel_rfl) (fun _ _ _ h => h) (Or.inl ⟨by rfl, fun w hSw => by have e1 := hSw.1; clear hSw; go_simp⟩) hHeld ?_
          simp only [Act.put, List.setIfInBounds_toArray, List.set_cons_zero, List.set_cons_succ]
          refine wpAnyH_take (i := 3) (oi := ⟨some 149, .binOp .eql 3 (.tmp 146) (.tmp 148) 3, _, _, _, none⟩) (v := .bool true) rfl (by kernel_rfl) (by kernel_rfl) (by kernel_rfl) (fun _ _ _ h => h) (Or.inl ⟨by rfl, fun w _ => by go_simp⟩) hHeld ?_
          simp only [Act.put, List.setIfInBounds_toArray, List.set_cons_zero, List.set_cons_succ]
          refine wpAnyH_take (i := 4) (oi := ⟨some 150, .move (.tmp 149), _, _, _, none⟩) (v := .bool true) rfl (by kernel_rfl) (by kernel_rfl) (by kernel_rfl) (fun _ _ _ h => h) (Or.inl ⟨by rfl, fun _ _ => rfl⟩) hHeld ?_
          simp only [Act.put, List.setIfInBounds_toArray, List.set_cons_zero, List.set_cons_succ]
          refine wpAnyH_take (i := 5) (oi := ⟨some 151, .move (.tmp 13), _, _, _, _⟩) (v := .int .i64 (k : Int)) rfl (by kernel_rfl) (by kernel_rfl) (by kernel_rfl) (fun _ _ _ h => h) (Or.inl ⟨by rfl, fun _ _ => rfl⟩) hHeld ?_
          simp only [Act.put, List.setIfInBounds_toArray, List.set_cons_zero, List.set_cons_succ]
          refine wpAnyH_take (i := 6) (oi := ⟨some 152, .binOp .neq 3 (.tmp 151) (.const (.int .i64 0)) 3, _, _, _, _⟩) (v := .bool true) rfl (by kernel_rfl) (by kernel_rfl) (by kernel_rfl) (fun _ _ _ h => h) (Or.inl ⟨by rfl, fun w _ => by go_simp⟩) hHeld ?_
          simp only [Act.put, List.setIfInBounds_toArray, List.set_cons_zero, List.set_cons_succ]
          refine wpAnyH_take (i := 7) (oi := ⟨some 153, .pick (.tmp 150) (.tmp 152) (.const (.bool false)), _, _, _, none⟩) (v := .bool true) rfl (by kernel_rfl) (by kernel_rfl) (by kernel_rfl) (fun _ _ _ h => h) (Or.inl ⟨by rfl, fun w _ => by go_simp⟩) hHeld ?_
          simp only [Act.put, List.setIfInBounds_toArray, List.set_cons_zero, List.set_cons_succ]
          refine wpAnyH_take (i := 8) (oi := ⟨some 154, .move (.tmp 153), _, _, _, none⟩) (v := .bool true) rfl (by kernel_rfl) (by kernel_rfl) (by kernel_rfl) (fun _ _ _ h => h) (Or.inl ⟨by rfl, fun _ _ => rfl⟩) hHeld ?_
          simp only [Act.put, List.setIfInBounds_toArray, List.set_cons_zero, List.set_cons_succ]
          refine wpAnyH_take (i := 9) (oi := ⟨some 155, .move (.tmp 13), _, _, _, _⟩) (v := .int .i64 (k : Int)) rfl (by kernel_rfl) (by kernel_rfl) (by kernel_rfl) (fun _ _ _ h => h) (Or.inl ⟨by rfl, fun _ _ => rfl⟩) hHeld ?_
          simp only [Act.put, List.setIfInBounds_toArray, List.set_cons_zero, List.set_cons_succ]
          refine wpAnyH_take (i := 10) (oi := ⟨some 156, .fieldAddr 38 (.tmp 10) 1, _, _, _, _⟩) (v := .pointer (some ⟨w5.heap.size, 1, none⟩)) rfl (by kernel_rfl) (by kernel_rfl) (by kernel_rfl) (fun _ _ _ h => h) (Or.inl ⟨by rfl, fun w _ => by go_simp⟩) hHeld ?_
          simp only [Act.put, List.setIfInBounds_toArray, List.set_cons_zero, List.set_cons_succ]
          refine wpAnyH_take (i := 11) (oi := ⟨some 157, .fieldAddr 26 (.tmp 156) 1, _, _, _, _⟩) (v := .pointer (some ⟨w5.heap.size, 2, none⟩)) rfl (by kernel_rfl) (by kernel_rfl) (by kernel_rfl) (fun _ _ _ h => h) (Or.inl ⟨by rfl, fun w _ => by go_simp⟩) hHeld ?_
          simp only [Act.put, List.setIfInBounds_toArray, List.set_cons_zero, List.set_cons_succ]
          refine wpAnyH_take (i := 12) (oi := ⟨some 158, .indexAddr 23 (.tmp 157) (.tmp 155), _, _, _, _⟩) (v := .pointer (some ⟨w5.heap.size, 2 + k, none⟩)) rfl (by kernel_rfl) (by kernel_rfl) (by kernel_rfl) (fun _ _ _ h => h) (Or.inl ⟨by rfl, fun w _ => by go_simp⟩) hHeld ?_
          simp only [Act.put, List.setIfInBounds_toArray, List.set_cons_zero, List.set_cons_succ]
          refine wpAnyH_take (i := 13) (oi := ⟨some 159, .load 22 (.tmp 158), _, _, _, _⟩) (v := .int .u32 (Al.I 1 rb vv)) rfl (by kernel_rfl) (by kernel_rfl) (by kernel_rfl) (fun _ _ _ h => h) (Or.inl ⟨by rfl, fun w hSw => by have e1 := hSw.2.1; clear hSw; go_simp⟩) hHeld ?_
          simp only [Act.put, List.setIfInBounds_toArray, List.set_cons_zero, List.set_cons_succ]
          refine wpAnyH_take (i := 14) (oi := ⟨some 160, .move (.tmp 11), _, _, _, _⟩) (v := .int .u32 (Al.I 1 rb vv)) rfl (by kernel_rfl) (by kernel_rfl) (by kernel_rfl) (fun _ _ _ h => h) (Or.inl ⟨by rfl, fun _ _ => rfl⟩) hHeld ?_
          simp only [Act.put, List.setIfInBounds_toArray, List.set_cons_zero, List.set_cons_succ]
          refine wpAnyH_take (i := 15) (oi := ⟨some 161, .binOp .neq 22 (.tmp 159) (.tmp 160) 22, _, _, _, _⟩) (v := .bool false) rfl (by kernel_rfl) (by kernel_rfl) (by kernel_rfl) (fun _ _ _ h => h) (Or.inl ⟨by rfl, fun w _ => by go_simp⟩) hHeld ?_
          simp only [Act.put, List.setIfInBounds_toArray, List.set_cons_zero, List.set_cons_succ]
          refine wpAnyH_take (i := 16) (oi := ⟨some 162, .pick (.tmp 154) (.tmp 161) (.const (.bool false)), _, _, _, none⟩) (v := .bool false) rfl (by kernel_rfl) (by kernel_rfl) (by kernel_rfl) (fun _ _ _ h => h) (Or.inl ⟨by rfl, fun w _ => by go_simp⟩) hHeld ?_
          simp only [Act.put, List.setIfInBounds_toArray, List.set_cons_zero, List.set_cons_succ]
          refine wpAnyH_take (i := 17) (oi := ⟨some 163, .move (.tmp 162), _, _, _, none⟩) (v := .bool false) rfl (by kernel_rfl) (by kernel_rfl) (by kernel_rfl) (fun _ _ _ h => h) (Or.inl ⟨by rfl, fun _ _ => rfl⟩) hHeld ?_
          simp only [Act.put, List.setIfInBounds_toArray, List.set_cons_zero, List.set_cons_succ]
          refine wpAnyH_take (i := 18) (oi := ⟨some 164, .move (.tmp 13), _, _, _, _⟩) (v := .int .i64 (k : Int)) rfl (by kernel_rfl) (by kernel_rfl) (by kernel_rfl) (fun _ _ _ h => h) (Or.inl ⟨by rfl, fun _ _ => rfl⟩) hHeld ?_
          simp only [Act.put, List.setIfInBounds_toArray, List.set_cons_zero, List.set_cons_succ]
          refine wpAnyH_take (i := 19) (oi := ⟨some 165, .fieldAddr 70 (.tmp 5) 1, _, _, _, _⟩) (v := .pointer (some ⟨(w.heap.size + 1 + 1), 1, none⟩)) rfl (by kernel_rfl) (by kernel_rfl) (by kernel_rfl) (fun _ _ _ h => h) (Or.inl ⟨by rfl, fun w _ => by go_simp⟩) hHeld ?_
          simp only [Act.put, List.setIfInBounds_toArray, List.set_cons_zero, List.set_cons_succ]
          refine wpAnyH_take (i := 20) (oi := ⟨some 166, .load 3 (.tmp 165), _, _, _, _⟩) (v := .int .i64 (ka : Int)) rfl (by kernel_rfl) (by kernel_rfl) (by kernel_rfl) (fun _ _ _ h => h) (Or.inl ⟨by rfl, fun w hSw => by have e1 := hSw.1; clear hSw; go_simp⟩) hHeld ?_
          simp only [Act.put, List.setIfInBounds_toArray, List.set_cons_zero, List.set_cons_succ]
          refine wpAnyH_take (i := 21) (oi := ⟨some 167, .binOp .neq 3 (.tmp 164) (.tmp 166) 3, _, _, _, _⟩) (v := .bool false) rfl (by kernel_rfl) (by kernel_rfl) (by kernel_rfl) (fun _ _ _ h => h) (Or.inl ⟨by rfl, fun w _ => by go_simp⟩) hHeld ?_
          simp only [Act.put, List.setIfInBounds_toArray, List.set_cons_zero, List.set_cons_succ]
          refine wpAnyH_take (i := 22) (oi := ⟨some 168, .move (.tmp 167), _, _, _, _⟩) (v := .bool false) rfl (by kernel_rfl) (by kernel_rfl) (by kernel_rfl) (fun _ _ _ h => h) (Or.inl ⟨by rfl, fun _ _ => rfl⟩) hHeld ?_
          simp only [Act.put, List.setIfInBounds_toArray, List.set_cons_zero, List.set_cons_succ]
          refine wpAnyH_take (i := 23) (oi := ⟨some 169, .move (.tmp 13), _, _, _, _⟩) (v := .int .i64 (k : Int)) rfl (by kernel_rfl) (by kernel_rfl) (by kernel_rfl) (fun _ _ _ h => h) (Or.inl ⟨by rfl, fun _ _ => rfl⟩) hHeld ?_
          simp only [Act.put, List.setIfInBounds_toArray, List.set_cons_zero, List.set_cons_succ]
          refine wpAnyH_take (i := 24) (oi := ⟨some 170, .binOp .eql 3 (.tmp 169) (.const (.int .i64 0)) 3, _, _, _, _⟩) (v := .bool false) rfl (by kernel_rfl) (by kernel_rfl) (by kernel_rfl) (fun _ _ _ h => h) (Or.inl ⟨by rfl, fun w _ => by go_simp⟩) hHeld ?_
          simp only [Act.put, List.setIfInBounds_toArray, List.set_cons_zero, List.set_cons_succ]
          refine wpAnyH_take (i := 25) (oi := ⟨some 171, .pick (.tmp 168) (.const (.bool true)) (.tmp 170), _, _, _, _⟩) (v := .bool false) rfl (by kernel_rfl) (by kernel_rfl) (by kernel_rfl) (fun _ _ _ h => h) (Or.inl ⟨by rfl, fun w _ => by go_simp⟩) hHeld ?_
          simp only [Act.put, List.setIfInBounds_toArray, List.set_cons_zero, List.set_cons_succ]
          refine wpAnyH_take (i := 26) (oi := ⟨some 172, .move (.tmp 171), _, _, _, _⟩) (v := .bool false) rfl (by kernel_rfl) (by kernel_rfl) (by kernel_rfl) (fun _ _ _ h => h) (Or.inl ⟨by rfl, fun _ _ => rfl⟩) hHeld ?_
          simp only [Act.put, List.setIfInBounds_toArray, List.set_cons_zero, List.set_cons_succ]
          refine wpAnyH_take (i := 27) (oi := ⟨some 173, .move (.tmp 13), _, _, _, _⟩) (v := undef) rfl (by kernel_rfl) (by kernel_rfl) (by kernel_rfl) (fun _ _ _ h => h) (Or.inr ⟨by rfl, rfl⟩) hHeld ?_
          simp only [Act.put, List.setIfInBounds_toArray, List.set_cons_zero, List.set_cons_succ]
          refine wpAnyH_take (i := 28) (oi := ⟨some 174, .fieldAddr 38 (.tmp 10) 1, _, _, _, _⟩) (v := undef) rfl (by kernel_rfl) (by kernel_rfl) (by kernel_rfl) (fun _ _ _ h => h) (Or.inr ⟨by rfl, rfl⟩) hHeld ?_
          simp only [Act.put, List.setIfInBounds_toArray, List.set_cons_zero, List.set_cons_succ]
          refine wpAnyH_take (i := 29) (oi := ⟨some 175, .fieldAddr 26 (.tmp 174) 1, _, _, _, _⟩) (v := undef) rfl (by kernel_rfl) (by kernel_rfl) (by kernel_rfl) (fun _ _ _ h => h) (Or.inr ⟨by rfl, rfl⟩) hHeld ?_
          simp only [Act.put, List.setIfInBounds_toArray, List.set_cons_zero, List.set_cons_succ]
          refine wpAnyH_take (i := 30) (oi := ⟨some 176, .indexAddr 23 (.tmp 175) (.tmp 173), _, _, _, _⟩) (v := undef) rfl (by kernel_rfl) (by kernel_rfl) (by kernel_rfl) (fun _ _ _ h => h) (Or.inr ⟨by rfl, rfl⟩) hHeld ?_
          simp only [Act.put, List.setIfInBounds_toArray, List.set_cons_zero, List.set_cons_succ]
          refine wpAnyH_take (i := 31) (oi := ⟨some 177, .load 22 (.tmp 176), _, _, _, _⟩) (v := undef) rfl (by kernel_rfl) (by kernel_rfl) (by kernel_rfl) (fun _ _ _ h => h) (Or.inr ⟨by rfl, rfl⟩) hHeld ?_
          simp only [Act.put, List.setIfInBounds_toArray, List.set_cons_zero, List.set_cons_succ]
          refine wpAnyH_take (i := 32) (oi := ⟨some 178, .move (.tmp 13), _, _, _, _⟩) (v := undef) rfl (by kernel_rfl) (by kernel_rfl) (by kernel_rfl) (fun _ _ _ h => h) (Or.inr ⟨by rfl, rfl⟩) hHeld ?_
          simp only [Act.put, List.setIfInBounds_toArray, List.set_cons_zero, List.set_cons_succ]
          refine wpAnyH_take (i := 33) (oi := ⟨some 179, .fieldAddr 26 (.tmp 3) 1, _, _, _, _⟩) (v := undef) rfl (by kernel_rfl) (by kernel_rfl) (by kernel_rfl) (fun _ _ _ h => h) (Or.inr ⟨by rfl, rfl⟩) hHeld ?_
          simp only [Act.put, List.setIfInBounds_toArray, List.set_cons_zero, List.set_cons_succ]
          refine wpAnyH_take (i := 34) (oi := ⟨some 180, .indexAddr 23 (.tmp 179) (.tmp 178), _, _, _, _⟩) (v := undef) rfl (by kernel_rfl) (by kernel_rfl) (by kernel_rfl) (fun _ _ _ h => h) (Or.inr ⟨by rfl, rfl⟩) hHeld ?_
          simp only [Act.put, List.setIfInBounds_toArray, List.set_cons_zero, List.set_cons_succ]
          refine wpAnyH_take (i := 35) (oi := ⟨some 181, .load 22 (.tmp 180), _, _, _, _⟩) (v := undef) rfl (by kernel_rfl) (by kernel_rfl) (by kernel_rfl) (fun _ _ _ h => h) (Or.inr ⟨by rfl, rfl⟩) hHeld ?_
          simp only [Act.put, List.setIfInBounds_toArray, List.set_cons_zero, List.set_cons_succ]
          refine wpAnyH_take (i := 36) (oi := ⟨some 182, .binOp .neq 22 (.tmp 177) (.tmp 181) 22, _, _, _, _⟩) (v := undef) rfl (by kernel_rfl) (by kernel_rfl) (by kernel_rfl) (fun _ _ _ h => h) (Or.inr ⟨by rfl, rfl⟩) hHeld ?_
          simp only [Act.put, List.setIfInBounds_toArray, List.set_cons_zero, List.set_cons_succ]
          refine wpAnyH_take (i := 37) (oi := ⟨some 183, .pick (.tmp 172) (.tmp 182) (.const (.bool false)), _, _, _, _⟩) (v := .bool false) rfl (by kernel_rfl) (by kernel_rfl) (by kernel_rfl) (fun _ _ _ h => h) (Or.inl ⟨by rfl, fun w _ => by go_simp⟩) hHeld ?_
          simp only [Act.put, List.setIfInBounds_toArray, List.set_cons_zero, List.set_cons_succ]
          refine wpAnyH_take (i := 38) (oi := ⟨some 184, .pick (.tmp 163) (.const (.bool true)) (.tmp 183), _, _, _, none⟩) (v := .bool false) rfl (by kernel_rfl) (by kernel_rfl) (by kernel_rfl) (fun _ _ _ h => h) (Or.inl ⟨by rfl, fun w _ => by go_simp⟩) hHeld ?_
          simp only [Act.put, List.setIfInBounds_toArray, List.set_cons_zero, List.set_cons_succ]
          refine wpAnyH_done (by kernel_rfl) ?_ _
          clear hHeld
          go_wp2
          go_roundw
          case rel => exact ⟨k + 1, by omega, by go_num, b3, b5, b10, lw⟩
          case measure => simp [intOf]; omega
      · have dA : ((k : Int) == (ka : Int)) = false := by simpa using hA
        have dN : ((k : Int) != (ka : Int)) = true := by simpa using hA
        rw [if_neg (by omega)] at hEK
        clear hA
        have HEK := Lib.hid hEK
        clear hEK
        go_upto_region 15 with fail
        replace b3 := b3.drew
        replace b5 := b5.drew
        replace b10 := b10.drew
        replace lw := lw.drew
        refine wp_region_held_drew (S := fun w' => w'.cell? ⟨(w.heap.size + 1 + 1), 1, none⟩ = some (.int .i64 (ka : Int)) ∧ w'.cell? ⟨w5.heap.size, 2 + k, none⟩ = some (.int .u32 xk) ∧ w'.cell? ⟨w.heap.size, 1 + k, none⟩ = some (.int .u32 xk)) (by kernel_rfl) ⟨b5.cell (j := 1) (congrArg (fun z => some (Value.int .i64 z)) HKA.out), b10.cell HEK.out, b3.cell HXK.out⟩ (fun hHeld => ?_)
        refine wpAnyH_take (i := 0) (oi := ⟨some 146, .move (.tmp 13), _, _, _, none⟩) (v := .int .i64 (k : Int)) rfl (by kernel_rfl) (by kernel_rfl) (by kernel_rfl) (fun _ _ _ h => h) (Or.inl ⟨by rfl, fun _ _ => rfl⟩) hHeld ?_
        simp only [Act.put, List.setIfInBounds_toArray, List.set_cons_zero, List.set_cons_succ]
        refine wpAnyH_take (i := 1) (oi := ⟨some 147, .fieldAddr 70 (.tmp 5) 1, _, _, _, none⟩) (v := .pointer (some ⟨(w.heap.size + 1 + 1), 1, none⟩)) rfl (by kernel_rfl) (by kernel_rfl) (by kernel_rfl) (fun _ _ _ h => h) (Or.inl ⟨by rfl, fun w _ => by go_simp⟩) hHeld ?_
        simp only [Act.put, List.setIfInBounds_toArray, List.set_cons_zero, List.set_cons_succ]
        refine wpAnyH_take (i := 2) (oi := ⟨some 148, .load 3 (.tmp 147), _, _, _, none⟩) (v := .int .i64 (ka : Int)) rfl (by kernel_rfl) (by kernel_rfl) (by kernel_rfl) (fun _ _ _ h => h) (Or.inl ⟨by rfl, fun w hSw => by have e1 := hSw.1; clear hSw; go_simp⟩) hHeld ?_
        simp only [Act.put, List.setIfInBounds_toArray, List.set_cons_zero, List.set_cons_succ]
        refine wpAnyH_take (i := 3) (oi := ⟨some 149, .binOp .eql 3 (.tmp 146) (.tmp 148) 3, _, _, _, none⟩) (v := .bool false) rfl (by kernel_rfl) (by kernel_rfl) (by kernel_rfl) (fun _ _ _ h => h) (Or.inl ⟨by rfl, fun w _ => by go_simp⟩) hHeld ?_
        simp only [Act.put, List.setIfInBounds_toArray, List.set_cons_zero, List.set_cons_succ]
        refine wpAnyH_take (i := 4) (oi := ⟨some 150, .move (.tmp 149), _, _, _, none⟩) (v := .bool false) rfl (by kernel_rfl) (by kernel_rfl) (by kernel_rfl) (fun _ _ _ h => h) (Or.inl ⟨by rfl, fun _ _ => rfl⟩) hHeld ?_
        simp only [Act.put, List.setIfInBounds_toArray, List.set_cons_zero, List.set_cons_succ]
        refine wpAnyH_take (i := 5) (oi := ⟨some 151, .move (.tmp 13), _, _, _, _⟩) (v := undef) rfl (by kernel_rfl) (by kernel_rfl) (by kernel_rfl) (fun _ _ _ h => h) (Or.inr ⟨by rfl, rfl⟩) hHeld ?_
        simp only [Act.put, List.setIfInBounds_toArray, List.set_cons_zero, List.set_cons_succ]
        refine wpAnyH_take (i := 6) (oi := ⟨some 152, .binOp .neq 3 (.tmp 151) (.const (.int .i64 0)) 3, _, _, _, _⟩) (v := undef) rfl (by kernel_rfl) (by kernel_rfl) (by kernel_rfl) (fun _ _ _ h => h) (Or.inr ⟨by rfl, rfl⟩) hHeld ?_
        simp only [Act.put, List.setIfInBounds_toArray, List.set_cons_zero, List.set_cons_succ]
        refine wpAnyH_take (i := 7) (oi := ⟨some 153, .pick (.tmp 150) (.tmp 152) (.const (.bool false)), _, _, _, none⟩) (v := .bool false) rfl (by kernel_rfl) (by kernel_rfl) (by kernel_rfl) (fun _ _ _ h => h) (Or.inl ⟨by rfl, fun w _ => by go_simp⟩) hHeld ?_
        simp only [Act.put, List.setIfInBounds_toArray, List.set_cons_zero, List.set_cons_succ]
        refine wpAnyH_take (i := 8) (oi := ⟨some 154, .move (.tmp 153), _, _, _, none⟩) (v := .bool false) rfl (by kernel_rfl) (by kernel_rfl) (by kernel_rfl) (fun _ _ _ h => h) (Or.inl ⟨by rfl, fun _ _ => rfl⟩) hHeld ?_
        simp only [Act.put, List.setIfInBounds_toArray, List.set_cons_zero, List.set_cons_succ]
        refine wpAnyH_take (i := 9) (oi := ⟨some 155, .move (.tmp 13), _, _, _, _⟩) (v := undef) rfl (by kernel_rfl) (by kernel_rfl) (by kernel_rfl) (fun _ _ _ h => h) (Or.inr ⟨by rfl, rfl⟩) hHeld ?_
        simp only [Act.put, List.setIfInBounds_toArray, List.set_cons_zero, List.set_cons_succ]
        refine wpAnyH_take (i := 10) (oi := ⟨some 156, .fieldAddr 38 (.tmp 10) 1, _, _, _, _⟩) (v := undef) rfl (by kernel_rfl) (by kernel_rfl) (by kernel_rfl) (fun _ _ _ h => h) (Or.inr ⟨by rfl, rfl⟩) hHeld ?_
        simp only [Act.put, List.setIfInBounds_toArray, List.set_cons_zero, List.set_cons_succ]
        refine wpAnyH_take (i := 11) (oi := ⟨some 157, .fieldAddr 26 (.tmp 156) 1, _, _, _, _⟩) (v := undef) rfl (by kernel_rfl) (by kernel_rfl) (by kernel_rfl) (fun _ _ _ h => h) (Or.inr ⟨by rfl, rfl⟩) hHeld ?_
        simp only [Act.put, List.setIfInBounds_toArray, List.set_cons_zero, List.set_cons_succ]
        refine wpAnyH_take (i := 12) (oi := ⟨some 158, .indexAddr 23 (.tmp 157) (.tmp 155), _, _, _, _⟩) (v := undef) rfl (by kernel_rfl) (by kernel_rfl) (by kernel_rfl) (fun _ _ _ h => h) (Or.inr ⟨by rfl, rfl⟩) hHeld ?_
        simp only [Act.put, List.setIfInBounds_toArray, List.set_cons_zero, List.set_cons_succ]
        refine wpAnyH_take (i := 13) (oi := ⟨some 159, .load 22 (.tmp 158), _, _, _, _⟩) (v := undef) rfl (by kernel_rfl) (by kernel_rfl) (by kernel_rfl) (fun _ _ _ h => h) (Or.inr ⟨by rfl, rfl⟩) hHeld ?_
        simp only [Act.put, List.setIfInBounds_toArray, List.set_cons_zero, List.set_cons_succ]
        refine wpAnyH_take (i := 14) (oi := ⟨some 160, .move (.tmp 11), _, _, _, _⟩) (v := undef) rfl (by kernel_rfl) (by kernel_rfl) (by kernel_rfl) (fun _ _ _ h => h) (Or.inr ⟨by rfl, rfl⟩) hHeld ?_
        simp only [Act.put, List.setIfInBounds_toArray, List.set_cons_zero, List.set_cons_succ]
        refine wpAnyH_take (i := 15) (oi := ⟨some 161, .binOp .neq 22 (.tmp 159) (.tmp 160) 22, _, _, _, _⟩) (v := undef) rfl (by kernel_rfl) (by kernel_rfl) (by kernel_rfl) (fun _ _ _ h => h) (Or.inr ⟨by rfl, rfl⟩) hHeld ?_
        simp only [Act.put, List.setIfInBounds_toArray, List.set_cons_zero, List.set_cons_succ]
        refine wpAnyH_take (i := 16) (oi := ⟨some 162, .pick (.tmp 154) (.tmp 161) (.const (.bool false)), _, _, _, none⟩) (v := .bool false) rfl (by kernel_rfl) (by kernel_rfl) (by kernel_rfl) (fun _ _ _ h => h) (Or.inl ⟨by rfl, fun w _ => by go_simp⟩) hHeld ?_
        simp only [Act.put, List.setIfInBounds_toArray, List.set_cons_zero, List.set_cons_succ]
        refine wpAnyH_take (i := 17) (oi := ⟨some 163, .move (.tmp 162), _, _, _, none⟩) (v := .bool false) rfl (by kernel_rfl) (by kernel_rfl) (by kernel_rfl) (fun _ _ _ h => h) (Or.inl ⟨by rfl, fun _ _ => rfl⟩) hHeld ?_
        simp only [Act.put, List.setIfInBounds_toArray, List.set_cons_zero, List.set_cons_succ]
        refine wpAnyH_take (i := 18) (oi := ⟨some 164, .move (.tmp 13), _, _, _, _⟩) (v := .int .i64 (k : Int)) rfl (by kernel_rfl) (by kernel_rfl) (by kernel_rfl) (fun _ _ _ h => h) (Or.inl ⟨by rfl, fun _ _ => rfl⟩) hHeld ?_
        simp only [Act.put, List.setIfInBounds_toArray, List.set_cons_zero, List.set_cons_succ]
        refine wpAnyH_take (i := 19) (oi := ⟨some 165, .fieldAddr 70 (.tmp 5) 1, _, _, _, _⟩) (v := .pointer (some ⟨(w.heap.size + 1 + 1), 1, none⟩)) rfl (by kernel_rfl) (by kernel_rfl) (by kernel_rfl) (fun _ _ _ h => h) (Or.inl ⟨by rfl, fun w _ => by go_simp⟩) hHeld ?_
        simp only [Act.put, List.setIfInBounds_toArray, List.set_cons_zero, List.set_cons_succ]
        refine wpAnyH_take (i := 20) (oi := ⟨some 166, .load 3 (.tmp 165), _, _, _, _⟩) (v := .int .i64 (ka : Int)) rfl (by kernel_rfl) (by kernel_rfl) (by kernel_rfl) (fun _ _ _ h => h) (Or.inl ⟨by rfl, fun w hSw => by have e1 := hSw.1; clear hSw; go_simp⟩) hHeld ?_
        simp only [Act.put, List.setIfInBounds_toArray, List.set_cons_zero, List.set_cons_succ]
        refine wpAnyH_take (i := 21) (oi := ⟨some 167, .binOp .neq 3 (.tmp 164) (.tmp 166) 3, _, _, _, _⟩) (v := .bool true) rfl (by kernel_rfl) (by kernel_rfl) (by kernel_rfl) (fun _ _ _ h => h) (Or.inl ⟨by rfl, fun w _ => by go_simp⟩) hHeld ?_
        simp only [Act.put, List.setIfInBounds_toArray, List.set_cons_zero, List.set_cons_succ]
        refine wpAnyH_take (i := 22) (oi := ⟨some 168, .move (.tmp 167), _, _, _, _⟩) (v := .bool true) rfl (by kernel_rfl) (by kernel_rfl) (by kernel_rfl) (fun _ _ _ h => h) (Or.inl ⟨by rfl, fun _ _ => rfl⟩) hHeld ?_
        simp only [Act.put, List.setIfInBounds_toArray, List.set_cons_zero, List.set_cons_succ]
        refine wpAnyH_take (i := 23) (oi := ⟨some 169, .move (.tmp 13), _, _, _, _⟩) (v := undef) rfl (by kernel_rfl) (by kernel_rfl) (by kernel_rfl) (fun _ _ _ h => h) (Or.inr ⟨by rfl, rfl⟩) hHeld ?_
        simp only [Act.put, List.setIfInBounds_toArray, List.set_cons_zero, List.set_cons_succ]
        refine wpAnyH_take (i := 24) (oi := ⟨some 170, .binOp .eql 3 (.tmp 169) (.const (.int .i64 0)) 3, _, _, _, _⟩) (v := undef) rfl (by kernel_rfl) (by kernel_rfl) (by kernel_rfl) (fun _ _ _ h => h) (Or.inr ⟨by rfl, rfl⟩) hHeld ?_
        simp only [Act.put, List.setIfInBounds_toArray, List.set_cons_zero, List.set_cons_succ]
        refine wpAnyH_take (i := 25) (oi := ⟨some 171, .pick (.tmp 168) (.const (.bool true)) (.tmp 170), _, _, _, _⟩) (v := .bool true) rfl (by kernel_rfl) (by kernel_rfl) (by kernel_rfl) (fun _ _ _ h => h) (Or.inl ⟨by rfl, fun w _ => by go_simp⟩) hHeld ?_
        simp only [Act.put, List.setIfInBounds_toArray, List.set_cons_zero, List.set_cons_succ]
        refine wpAnyH_take (i := 26) (oi := ⟨some 172, .move (.tmp 171), _, _, _, _⟩) (v := .bool true) rfl (by kernel_rfl) (by kernel_rfl) (by kernel_rfl) (fun _ _ _ h => h) (Or.inl ⟨by rfl, fun _ _ => rfl⟩) hHeld ?_
        simp only [Act.put, List.setIfInBounds_toArray, List.set_cons_zero, List.set_cons_succ]
        refine wpAnyH_take (i := 27) (oi := ⟨some 173, .move (.tmp 13), _, _, _, _⟩) (v := .int .i64 (k : Int)) rfl (by kernel_rfl) (by kernel_rfl) (by kernel_rfl) (fun _ _ _ h => h) (Or.inl ⟨by rfl, fun _ _ => rfl⟩) hHeld ?_
        simp only [Act.put, List.setIfInBounds_toArray, List.set_cons_zero, List.set_cons_succ]
        refine wpAnyH_take (i := 28) (oi := ⟨some 174, .fieldAddr 38 (.tmp 10) 1, _, _, _, _⟩) (v := .pointer (some ⟨w5.heap.size, 1, none⟩)) rfl (by kernel_rfl) (by kernel_rfl) (by kernel_rfl) (fun _ _ _ h => h) (Or.inl ⟨by rfl, fun w _ => by go_simp⟩) hHeld ?_
        simp only [Act.put, List.setIfInBounds_toArray, List.set_cons_zero, List.set_cons_succ]
        refine wpAnyH_take (i := 29) (oi := ⟨some 175, .fieldAddr 26 (.tmp 174) 1, _, _, _, _⟩) (v := .pointer (some ⟨w5.heap.size, 2, none⟩)) rfl (by kernel_rfl) (by kernel_rfl) (by kernel_rfl) (fun _ _ _ h => h) (Or.inl ⟨by rfl, fun w _ => by go_simp⟩) hHeld ?_
        simp only [Act.put, List.setIfInBounds_toArray, List.set_cons_zero, List.set_cons_succ]
        refine wpAnyH_take (i := 30) (oi := ⟨some 176, .indexAddr 23 (.tmp 175) (.tmp 173), _, _, _, _⟩) (v := .pointer (some ⟨w5.heap.size, 2 + k, none⟩)) rfl (by kernel_rfl) (by kernel_rfl) (by kernel_rfl) (fun _ _ _ h => h) (Or.inl ⟨by rfl, fun w _ => by go_simp⟩) hHeld ?_
        simp only [Act.put, List.setIfInBounds_toArray, List.set_cons_zero, List.set_cons_succ]
        refine wpAnyH_take (i := 31) (oi := ⟨some 177, .load 22 (.tmp 176), _, _, _, _⟩) (v := .int .u32 xk) rfl (by kernel_rfl) (by kernel_rfl) (by kernel_rfl) (fun _ _ _ h => h) (Or.inl ⟨by rfl, fun w hSw => by have e1 := hSw.2.1; clear hSw; go_simp⟩) hHeld ?_
        simp only [Act.put, List.setIfInBounds_toArray, List.set_cons_zero, List.set_cons_succ]
        refine wpAnyH_take (i := 32) (oi := ⟨some 178, .move (.tmp 13), _, _, _, _⟩) (v := .int .i64 (k : Int)) rfl (by kernel_rfl) (by kernel_rfl) (by kernel_rfl) (fun _ _ _ h => h) (Or.inl ⟨by rfl, fun _ _ => rfl⟩) hHeld ?_
        simp only [Act.put, List.setIfInBounds_toArray, List.set_cons_zero, List.set_cons_succ]
        refine wpAnyH_take (i := 33) (oi := ⟨some 179, .fieldAddr 26 (.tmp 3) 1, _, _, _, _⟩) (v := .pointer (some ⟨w.heap.size, 1, none⟩)) rfl (by kernel_rfl) (by kernel_rfl) (by kernel_rfl) (fun _ _ _ h => h) (Or.inl ⟨by rfl, fun w _ => by go_simp⟩) hHeld ?_
        simp only [Act.put, List.setIfInBounds_toArray, List.set_cons_zero, List.set_cons_succ]
        refine wpAnyH_take (i := 34) (oi := ⟨some 180, .indexAddr 23 (.tmp 179) (.tmp 178), _, _, _, _⟩) (v := .pointer (some ⟨w.heap.size, 1 + k, none⟩)) rfl (by kernel_rfl) (by kernel_rfl) (by kernel_rfl) (fun _ _ _ h => h) (Or.inl ⟨by rfl, fun w _ => by go_simp⟩) hHeld ?_
        simp only [Act.put, List.setIfInBounds_toArray, List.set_cons_zero, List.set_cons_succ]
        refine wpAnyH_take (i := 35) (oi := ⟨some 181, .load 22 (.tmp 180), _, _, _, _⟩) (v := .int .u32 xk) rfl (by kernel_rfl) (by kernel_rfl) (by kernel_rfl) (fun _ _ _ h => h) (Or.inl ⟨by rfl, fun w hSw => by have e1 := hSw.2.2; clear hSw; go_simp⟩) hHeld ?_
        simp only [Act.put, List.setIfInBounds_toArray, List.set_cons_zero, List.set_cons_succ]
        refine wpAnyH_take (i := 36) (oi := ⟨some 182, .binOp .neq 22 (.tmp 177) (.tmp 181) 22, _, _, _, _⟩) (v := .bool false) rfl (by kernel_rfl) (by kernel_rfl) (by kernel_rfl) (fun _ _ _ h => h) (Or.inl ⟨by rfl, fun w _ => by go_simp⟩) hHeld ?_
        simp only [Act.put, List.setIfInBounds_toArray, List.set_cons_zero, List.set_cons_succ]
        refine wpAnyH_take (i := 37) (oi := ⟨some 183, .pick (.tmp 172) (.tmp 182) (.const (.bool false)), _, _, _, _⟩) (v := .bool false) rfl (by kernel_rfl) (by kernel_rfl) (by kernel_rfl) (fun _ _ _ h => h) (Or.inl ⟨by rfl, fun w _ => by go_simp⟩) hHeld ?_
        simp only [Act.put, List.setIfInBounds_toArray, List.set_cons_zero, List.set_cons_succ]
        refine wpAnyH_take (i := 38) (oi := ⟨some 184, .pick (.tmp 163) (.const (.bool true)) (.tmp 183), _, _, _, none⟩) (v := .bool false) rfl (by kernel_rfl) (by kernel_rfl) (by kernel_rfl) (fun _ _ _ h => h) (Or.inl ⟨by rfl, fun w _ => by go_simp⟩) hHeld ?_
        simp only [Act.put, List.setIfInBounds_toArray, List.set_cons_zero, List.set_cons_succ]
        refine wpAnyH_done (by kernel_rfl) ?_ _
        clear hHeld
        go_wp2
        go_roundw
        case rel => exact ⟨k + 1, by omega, by go_num, b3, b5, b10, lw⟩
        case measure => simp [intOf]; omega
    · obtain rfl : k = 16 := by omega
      clear hlt hk
      go_wp2_with (go_at_call 11; (try clear e0 e17 e27 e28 em eo); refine (KS.out _ lw).mono ?_; rintro e w3 ⟨rfl, l1⟩; replace lw := Later.trans_ lw l1)
      go_ret
      exact ⟨rfl, lw⟩
end Go.Proofs.YtbhhhpglljkcpaaGreatDoor
