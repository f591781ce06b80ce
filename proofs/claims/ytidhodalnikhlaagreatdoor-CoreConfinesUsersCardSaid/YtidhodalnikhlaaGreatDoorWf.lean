/-
  fetch OF a step.
-/
import Derived.Test.YtidhodalnikhlaaGreatDoorWe
import Derived.Test.YtidhodalnikhlaaGreatDoorVn
namespace Go.Proofs.YtidhodalnikhlaaGreatDoor
open Go.RowKit Go.ChangeShapes Go.WideShapes Go.ChangeAt

/-- A step whose word is read. -/
def Sp.rd (s : Sp) (v u m : Value) (W : Int) : Sp := { s with av := v, wv := u, m := m, wd := W }
/-- A step whose instruction is fetched. -/
def Sp.fet (s : Sp) (v u m : Value) (W : Int) (i : Im.I) : Sp := { s with av := v, wv := u, m := m, wd := W, io := i.op, ia := i.a, ib := i.b, ic := i.c, im := i.imm, c := { s.c with pc := (s.c.pc + 4) % 4294967296 } }
theorem Tab.below {base : Nat} {w w' : World} (h : Tab w) (h0 : 0 < base) (l : Below base w w') : Tab w' := by
  obtain ⟨t, fr, e⟩ := h
  exact ⟨t, fr, (l.block 0 h0).trans e⟩
theorem ins_sz5 (a b c d e : Int) : (Tryz.prog.info? 70).map (·.size) = some [Value.int .i64 a, .int .i64 b, .int .i64 c, .int .i64 d, .int .i64 e].length := ins_sz ⟨a, b, c, d, e⟩
set_option maxRecDepth 100000 in
set_option maxHeartbeats 2000000 in
theorem fetch_bad {base : Nat} {w : World} {B : Nat} {s : Sp} {A : Option Addr} {n c : Nat} {b : Wm.Bs} (h : At base w B s A n c [] [] b) (hb : Wm.isBs b) (hn : n ≤ 64) (_h0 : 0 < base) (_tab : Tab w) (hr : 0 ≤ s.c.c0 ∧ s.c.c0 ≤ 4294967295) (hv : 0 ≤ s.c.pc ∧ s.c.pc ≤ 4294967295) (P : Cm.Pl) (hP : Cm.place n b s.c.c0 s.c.u s.c.pc 4 4 = P) (ho : P.ok = false) : Calls Tryz.prog 77 #[.pointer (some ⟨B, 0, none⟩)] w fun e w' => e = .panicked (Lv P.ca s.c.pc s.old.pc) ∧ ∃ v u A' c', At base w' B (s.lay v u (.slice A' n c')) A' n c' P.w P.c P.b ∧ St base B w s w' (s.lay v u (.slice A' n c')) := by
  have HP := Lib.hid (splace_any h (by simp) (by simp) hb hn hr s.c.pc 4 4 hv (.inr rfl) P hP)
  rw [ho] at HP
  have e0 := h.bx.cell (j := 0) (v := .int .u32 s.c.pc) rfl
  obtain ⟨pc, hpc⟩ : ∃ x, x = s.c.pc := ⟨_, rfl⟩
  rw [← hpc] at HP e0 ⊢
  clear h _tab hb hn hr hv hP ho hpc
  go_enter Tryz.func77, Tryz.ntmps77
  go_wp2_with (go_at_call 116; refine HP.out.mono ?_; rintro e w1 ⟨rfl, v, u, A', c', hA, hS⟩)
  exact ⟨rfl, rfl, v, u, A', c', hA, hS⟩
set_option maxRecDepth 100000 in
set_option maxHeartbeats 2000000 in
theorem fetch_ill {base : Nat} {w : World} {B : Nat} {s : Sp} {A : Option Addr} {n c : Nat} {b : Wm.Bs} (h : At base w B s A n c [] [] b) (hb : Wm.isBs b) (hn : n ≤ 64) (h0 : 0 < base) (tab : Tab w) (hr : 0 ≤ s.c.c0 ∧ s.c.c0 ≤ 4294967295) (hv : 0 ≤ s.c.pc ∧ s.c.pc ≤ 4294967295) (P : Cm.Pl) (hP : Cm.place n b s.c.c0 s.c.u s.c.pc 4 4 = P) (ho : P.ok = true) (W : Int) (hW : Mm.ld P.b P.a 4 = W) (i : Im.I) (hI : (decI_S W) = i) (lg us : Bool) (hu : s.c.u = us) (hlgd : lg = decide (Im.Legal W)) (hLg : (lg && !(us && decide (41 ≤ i.op ∧ i.op ≤ 48))) = false) : Calls Tryz.prog 77 #[.pointer (some ⟨B, 0, none⟩)] w fun e w' => e = .panicked (Lv 2 W s.old.pc) ∧ ∃ v u A' c', At base w' B (s.rd v u (.slice A' n c') W) A' n c' P.w (P.c ++ [(P.a, 4, false)]) P.b ∧ St base B w s w' (s.rd v u (.slice A' n c') W) := by
  obtain ⟨ok, ca, a, pw, pc', pb⟩ := P
  dsimp only at ho hW hLg ⊢
  subst ho
  have HP := Lib.hid (splace_any h (by simp) (by simp) hb hn hr s.c.pc 4 4 hv (.inr rfl) _ hP)
  obtain ⟨g1, g2, g3, _, g5, _⟩ := Cm.place_rg n s.c.c0 s.c.u s.c.pc 4 4 hb hr hv
  rw [hP] at g1 g2 g3 g5
  dsimp only at g1 g2 g3 g5
  have HLc := Lib.hid (show ([] ++ pc').length ≤ 1000 by rw [List.nil_append]; omega)
  have HPb := Lib.hid g3
  have ha : -9223372036854775808 ≤ a ∧ a ≤ 9223372036854775807 := by omega
  have HW := Lib.hid hW
  have HTb := Lib.hid fun w' (l : Below base w w') => tab.below h0 l
  have hWr : 0 ≤ W ∧ W < 4294967296 := by have := Tm.wd_e g3 a; unfold Tm.wd at this; rw [hW] at this; exact this
  have HD := Lib.hid fun w' (t : Tab w') => decode_any W hWr w' t
  obtain ⟨op, ia, ib, ic, im⟩ := i
  rw [hI] at HD
  dsimp only [Im.I.cells] at HD
  have HPr := Lib.hid fun w' => priv_any op w'
  have hlg : (lg && !(us && decide (41 ≤ op ∧ op ≤ 48))) = false := hLg
  obtain ⟨pv, hpv⟩ : ∃ p, p = decide (41 ≤ op ∧ op ≤ 48) := ⟨_, rfl⟩
  rw [← hpv] at HPr hlg
  obtain ⟨LG, hLG⟩ : ∃ x, x = decide (Im.Legal W) := ⟨_, rfl⟩
  rw [← hLG] at HD hlgd
  subst hlgd
  have HU := Lib.hid hu
  have e0 := h.bx.cell (j := 0) (v := .int .u32 s.c.pc) rfl
  obtain ⟨pc, hpc⟩ : ∃ x, x = s.c.pc := ⟨_, rfl⟩
  rw [← hpc] at HP e0
  clear h tab hb hr hv hP hpc hW hWr hI hLg g1 g2 g3 g5 hpv hu hLG
  cases lg with
  | false =>
    go_enter Tryz.func77, Tryz.ntmps77
    go_wp2_with (first
      | (go_at_call 116; refine HP.out.mono ?_; rintro e w1 ⟨rfl, v, u, A', c', hA, hS⟩)
      | (go_at_call 117; refine (sload_any hA HLc.out HPb.out hn a 4 ha).mono ?_; rintro e w2 ⟨rfl, v2, hA2, hS2⟩; rw [HW.out]; have e98 := hA2.bx.cell (j := 98) (v := .int .u32 s.wd) rfl; have f98 := hA2.bx.frz 98; obtain ⟨hA3, hS3⟩ := hA2.set (s' := s.rd v2 u (.slice A' n c') W) 98 (.int .u32 W) rfl rfl rfl rfl; replace hS3 := (hS.trans hS2).trans hS3; have tb3 := HTb.out _ hS3.lt; have e98b := hA3.bx.cell (j := 98) (v := .int .u32 W) rfl)
      | (go_at_call 48; refine (HD.out _ tb3).mono ?_; rintro e w4 ⟨rfl, l4⟩; have hA4 := (hA3.later l4).later (later1 w4 (.cells #[.int .i64 op, .int .i64 ia, .int .i64 ib, .int .i64 ic, .int .i64 im] 70)); have hS4 := (hS3.trans (St.later _ hA3.lt l4)).trans (St.later _ (hA3.later l4).lt (later1 w4 (.cells #[.int .i64 op, .int .i64 ia, .int .i64 ib, .int .i64 ic, .int .i64 im] 70))); have e26 := hA4.bx.cell (j := 26) (v := .bool _) (congrArg (fun b => some (Value.bool b)) HU.out))
      | (go_at_call 119; refine (HPr.out _).mono ?_; rintro e w5 ⟨rfl, rfl⟩)
      | (go_at_call 118; refine (require_no hA4.bx).mono ?_; rintro e w6 ⟨rfl, rfl⟩))
    exact ⟨rfl, rfl, v2, u, A', c', hA4, hS4⟩
  | true =>
    cases us with
    | false =>
      exact absurd hlg (by simp)
    | true =>
      cases pv with
      | false =>
        exact absurd hlg (by simp)
      | true =>
        go_enter Tryz.func77, Tryz.ntmps77
        go_wp2_with (first
          | (go_at_call 116; refine HP.out.mono ?_; rintro e w1 ⟨rfl, v, u, A', c', hA, hS⟩)
          | (go_at_call 117; refine (sload_any hA HLc.out HPb.out hn a 4 ha).mono ?_; rintro e w2 ⟨rfl, v2, hA2, hS2⟩; rw [HW.out]; have e98 := hA2.bx.cell (j := 98) (v := .int .u32 s.wd) rfl; have f98 := hA2.bx.frz 98; obtain ⟨hA3, hS3⟩ := hA2.set (s' := s.rd v2 u (.slice A' n c') W) 98 (.int .u32 W) rfl rfl rfl rfl; replace hS3 := (hS.trans hS2).trans hS3; have tb3 := HTb.out _ hS3.lt; have e98b := hA3.bx.cell (j := 98) (v := .int .u32 W) rfl)
          | (go_at_call 48; refine (HD.out _ tb3).mono ?_; rintro e w4 ⟨rfl, l4⟩; have hA4 := (hA3.later l4).later (later1 w4 (.cells #[.int .i64 op, .int .i64 ia, .int .i64 ib, .int .i64 ic, .int .i64 im] 70)); have hS4 := (hS3.trans (St.later _ hA3.lt l4)).trans (St.later _ (hA3.later l4).lt (later1 w4 (.cells #[.int .i64 op, .int .i64 ia, .int .i64 ib, .int .i64 ic, .int .i64 im] 70))); have e26 := hA4.bx.cell (j := 26) (v := .bool _) (congrArg (fun b => some (Value.bool b)) HU.out))
          | (go_at_call 119; refine (HPr.out _).mono ?_; rintro e w5 ⟨rfl, rfl⟩)
          | (go_at_call 118; refine (require_no hA4.bx).mono ?_; rintro e w6 ⟨rfl, rfl⟩))
        exact ⟨rfl, rfl, v2, u, A', c', hA4, hS4⟩
set_option maxRecDepth 100000 in
set_option maxHeartbeats 2000000 in
theorem fetch_ok {base : Nat} {w : World} {B : Nat} {s : Sp} {A : Option Addr} {n c : Nat} {b : Wm.Bs} (h : At base w B s A n c [] [] b) (hb : Wm.isBs b) (hn : n ≤ 64) (h0 : 0 < base) (tab : Tab w) (hr : 0 ≤ s.c.c0 ∧ s.c.c0 ≤ 4294967295) (hv : 0 ≤ s.c.pc ∧ s.c.pc ≤ 4294967295) (P : Cm.Pl) (hP : Cm.place n b s.c.c0 s.c.u s.c.pc 4 4 = P) (ho : P.ok = true) (W : Int) (hW : Mm.ld P.b P.a 4 = W) (i : Im.I) (hI : (decI_S W) = i) (lg us : Bool) (hu : s.c.u = us) (hlgd : lg = decide (Im.Legal W)) (hLg : (lg && !(us && decide (41 ≤ i.op ∧ i.op ≤ 48))) = true) : Calls Tryz.prog 77 #[.pointer (some ⟨B, 0, none⟩)] w fun e w' => e = .returned (.tuple #[]) ∧ ∃ v u A' c', At base w' B (s.fet v u (.slice A' n c') W i) A' n c' P.w (P.c ++ [(P.a, 4, false)]) P.b ∧ St base B w s w' (s.fet v u (.slice A' n c') W i) := by
  obtain ⟨ok, ca, a, pw, pc', pb⟩ := P
  dsimp only at ho hW hLg ⊢
  subst ho
  have HP := Lib.hid (splace_any h (by simp) (by simp) hb hn hr s.c.pc 4 4 hv (.inr rfl) _ hP)
  obtain ⟨g1, g2, g3, _, g5, _⟩ := Cm.place_rg n s.c.c0 s.c.u s.c.pc 4 4 hb hr hv
  rw [hP] at g1 g2 g3 g5
  dsimp only at g1 g2 g3 g5
  have HLc := Lib.hid (show ([] ++ pc').length ≤ 1000 by rw [List.nil_append]; omega)
  have HPb := Lib.hid g3
  have ha : -9223372036854775808 ≤ a ∧ a ≤ 9223372036854775807 := by omega
  have HW := Lib.hid hW
  have HTb := Lib.hid fun w' (l : Below base w w') => tab.below h0 l
  have hWr : 0 ≤ W ∧ W < 4294967296 := by have := Tm.wd_e g3 a; unfold Tm.wd at this; rw [hW] at this; exact this
  have HD := Lib.hid fun w' (t : Tab w') => decode_any W hWr w' t
  obtain ⟨op, ia, ib, ic, im⟩ := i
  rw [hI] at HD
  dsimp only [Im.I.cells] at HD
  have HPr := Lib.hid fun w' => priv_any op w'
  have hlg : (lg && !(us && decide (41 ≤ op ∧ op ≤ 48))) = true := hLg
  obtain ⟨pv, hpv⟩ : ∃ p, p = decide (41 ≤ op ∧ op ≤ 48) := ⟨_, rfl⟩
  rw [← hpv] at HPr hlg
  obtain ⟨LG, hLG⟩ : ∃ x, x = decide (Im.Legal W) := ⟨_, rfl⟩
  rw [← hLG] at HD hlgd
  subst hlgd
  have HU := Lib.hid hu
  have e0 := h.bx.cell (j := 0) (v := .int .u32 s.c.pc) rfl
  obtain ⟨pc, hpc⟩ : ∃ x, x = s.c.pc := ⟨_, rfl⟩
  rw [← hpc] at HP e0
  have HPC := Lib.hid hpc
  have xp : IntKind.u32.wrap (pc + 4) = (pc + 4) % 4294967296 := IntKind.wrap_u32 _
  clear h tab hb hr hv hP hpc hW hWr hI hLg g1 g2 g3 g5 hpv hu hLG
  cases lg with
  | false =>
    exact absurd hlg (by simp)
  | true =>
    cases us with
    | false =>
      go_enter Tryz.func77, Tryz.ntmps77
      go_upto_region 4 with (first
        | (go_at_call 116; refine HP.out.mono ?_; rintro e w1 ⟨rfl, v, u, A', c', hA, hS⟩)
        | (go_at_call 117; refine (sload_any hA HLc.out HPb.out hn a 4 ha).mono ?_; rintro e w2 ⟨rfl, v2, hA2, hS2⟩; rw [HW.out]; have e98 := hA2.bx.cell (j := 98) (v := .int .u32 s.wd) rfl; have f98 := hA2.bx.frz 98; obtain ⟨hA3, hS3⟩ := hA2.set (s' := s.rd v2 u (.slice A' n c') W) 98 (.int .u32 W) rfl rfl rfl rfl; replace hS3 := (hS.trans hS2).trans hS3; have tb3 := HTb.out _ hS3.lt; have e98b := hA3.bx.cell (j := 98) (v := .int .u32 W) rfl)
        | (go_at_call 48; refine (HD.out _ tb3).mono ?_; rintro e w4 ⟨rfl, l4⟩; have hA4 := (hA3.later l4).later (later1 w4 (.cells #[.int .i64 op, .int .i64 ia, .int .i64 ib, .int .i64 ic, .int .i64 im] 70)); have hS4 := (hS3.trans (St.later _ hA3.lt l4)).trans (St.later _ (hA3.later l4).lt (later1 w4 (.cells #[.int .i64 op, .int .i64 ia, .int .i64 ib, .int .i64 ic, .int .i64 im] 70))); have e26 := hA4.bx.cell (j := 26) (v := .bool _) (congrArg (fun b => some (Value.bool b)) HU.out))
        | (go_at_call 119; refine (HPr.out _).mono ?_; rintro e w5 ⟨rfl, rfl⟩)
        | (go_at_call 118; refine require_yes.mono ?_; rintro e w6 ⟨rfl, rfl⟩))
      obtain ⟨u4, hu4⟩ : ∃ x, x = w4.alloc (.cells #[.int .i64 op, .int .i64 ia, .int .i64 ib, .int .i64 ic, .int .i64 im] 70) := ⟨_, rfl⟩
      have bI := Blk.new w4 70 #[.int .i64 op, .int .i64 ia, .int .i64 ib, .int .i64 ic, .int .i64 im] [.int .i64 op, .int .i64 ia, .int .i64 ib, .int .i64 ic, .int .i64 im] rfl
      rw [← hu4] at bI hA4 hS4 ⊢
      clear hu4 e26 e98 e98b f98 e0
      obtain ⟨gI, hgI⟩ : ∃ x, x = w4.heap.size := ⟨_, rfl⟩
      rw [← hgI] at bI ⊢
      clear hgI
      go_wp2_with (first
        | ((with_reducible refine wpList_load_blk (o := ⟨some 45, .load 70 (.tmp 3), _, _, _, none⟩) rfl _ _ rfl gI 70 [.int .i64 op, .int .i64 ia, .int .i64 ib, .int .i64 ic, .int .i64 im] _ ?_ bI Tryz.underlying70 rfl (ins_sz5 op ia ib ic im) ?_); rfl)
        | ((refine wpList_store_at (o := ⟨none, .store 70 (.tmp 47) (.tmp 45), _, _, _, none⟩) rfl _ _ _ rfl rfl B 32 86 (s.rd v2 u (.slice A' n c') W).cells [.int .i64 op, .int .i64 ia, .int .i64 ib, .int .i64 ic, .int .i64 im] ?_ ?_ hA4.bx (ins_sz5 op ia ib ic im) (show 32 + 5 ≤ 108 from by decide) (ins_one ⟨op, ia, ib, ic, im⟩) ?_); (try rfl); (try rfl); intro w7 b7 o7; replace b7 : Blk w7 B 86 ({ s.rd v2 u (.slice A' n c') W with io := op, ia := ia, ib := ib, ic := ic, im := im } : Sp).cells := b7; obtain ⟨hA7, hS7⟩ := hA4.put o7 b7 rfl rfl rfl; have e7 := hA7.bx.cell (j := 0) (v := .int .u32 pc) (by rw [HPC.out]; rfl); have f7 := hA7.bx.frz 0))
      obtain ⟨hA8, hS8⟩ := hA7.set (s' := s.fet v2 u (.slice A' n c') W ⟨op, ia, ib, ic, im⟩) 0 (.int .u32 ((pc + 4) % 4294967296)) (by rw [HPC.out]; rfl) rfl rfl rfl
      go_end0
      exact ⟨rfl, v2, u, A', c', hA8, (hS4.trans hS7).trans hS8⟩
    | true =>
      cases pv with
      | false =>
        go_enter Tryz.func77, Tryz.ntmps77
        go_upto_region 4 with (first
          | (go_at_call 116; refine HP.out.mono ?_; rintro e w1 ⟨rfl, v, u, A', c', hA, hS⟩)
          | (go_at_call 117; refine (sload_any hA HLc.out HPb.out hn a 4 ha).mono ?_; rintro e w2 ⟨rfl, v2, hA2, hS2⟩; rw [HW.out]; have e98 := hA2.bx.cell (j := 98) (v := .int .u32 s.wd) rfl; have f98 := hA2.bx.frz 98; obtain ⟨hA3, hS3⟩ := hA2.set (s' := s.rd v2 u (.slice A' n c') W) 98 (.int .u32 W) rfl rfl rfl rfl; replace hS3 := (hS.trans hS2).trans hS3; have tb3 := HTb.out _ hS3.lt; have e98b := hA3.bx.cell (j := 98) (v := .int .u32 W) rfl)
          | (go_at_call 48; refine (HD.out _ tb3).mono ?_; rintro e w4 ⟨rfl, l4⟩; have hA4 := (hA3.later l4).later (later1 w4 (.cells #[.int .i64 op, .int .i64 ia, .int .i64 ib, .int .i64 ic, .int .i64 im] 70)); have hS4 := (hS3.trans (St.later _ hA3.lt l4)).trans (St.later _ (hA3.later l4).lt (later1 w4 (.cells #[.int .i64 op, .int .i64 ia, .int .i64 ib, .int .i64 ic, .int .i64 im] 70))); have e26 := hA4.bx.cell (j := 26) (v := .bool _) (congrArg (fun b => some (Value.bool b)) HU.out))
          | (go_at_call 119; refine (HPr.out _).mono ?_; rintro e w5 ⟨rfl, rfl⟩)
          | (go_at_call 118; refine require_yes.mono ?_; rintro e w6 ⟨rfl, rfl⟩))
        obtain ⟨u4, hu4⟩ : ∃ x, x = w4.alloc (.cells #[.int .i64 op, .int .i64 ia, .int .i64 ib, .int .i64 ic, .int .i64 im] 70) := ⟨_, rfl⟩
        have bI := Blk.new w4 70 #[.int .i64 op, .int .i64 ia, .int .i64 ib, .int .i64 ic, .int .i64 im] [.int .i64 op, .int .i64 ia, .int .i64 ib, .int .i64 ic, .int .i64 im] rfl
        rw [← hu4] at bI hA4 hS4 ⊢
        clear hu4 e26 e98 e98b f98 e0
        obtain ⟨gI, hgI⟩ : ∃ x, x = w4.heap.size := ⟨_, rfl⟩
        rw [← hgI] at bI ⊢
        clear hgI
        go_wp2_with (first
          | ((with_reducible refine wpList_load_blk (o := ⟨some 45, .load 70 (.tmp 3), _, _, _, none⟩) rfl _ _ rfl gI 70 [.int .i64 op, .int .i64 ia, .int .i64 ib, .int .i64 ic, .int .i64 im] _ ?_ bI Tryz.underlying70 rfl (ins_sz5 op ia ib ic im) ?_); rfl)
          | ((refine wpList_store_at (o := ⟨none, .store 70 (.tmp 47) (.tmp 45), _, _, _, none⟩) rfl _ _ _ rfl rfl B 32 86 (s.rd v2 u (.slice A' n c') W).cells [.int .i64 op, .int .i64 ia, .int .i64 ib, .int .i64 ic, .int .i64 im] ?_ ?_ hA4.bx (ins_sz5 op ia ib ic im) (show 32 + 5 ≤ 108 from by decide) (ins_one ⟨op, ia, ib, ic, im⟩) ?_); (try rfl); (try rfl); intro w7 b7 o7; replace b7 : Blk w7 B 86 ({ s.rd v2 u (.slice A' n c') W with io := op, ia := ia, ib := ib, ic := ic, im := im } : Sp).cells := b7; obtain ⟨hA7, hS7⟩ := hA4.put o7 b7 rfl rfl rfl; have e7 := hA7.bx.cell (j := 0) (v := .int .u32 pc) (by rw [HPC.out]; rfl); have f7 := hA7.bx.frz 0))
        obtain ⟨hA8, hS8⟩ := hA7.set (s' := s.fet v2 u (.slice A' n c') W ⟨op, ia, ib, ic, im⟩) 0 (.int .u32 ((pc + 4) % 4294967296)) (by rw [HPC.out]; rfl) rfl rfl rfl
        go_end0
        exact ⟨rfl, v2, u, A', c', hA8, (hS4.trans hS7).trans hS8⟩
      | true =>
        exact absurd hlg (by simp)
end Go.Proofs.YtidhodalnikhlaaGreatDoor
