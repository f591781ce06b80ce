/-
  THE INSTRUCTIONS OF a step, one.
-/
import Derived.Test.YtidhodalnikhlaaGreatDoorWg
namespace Go.Proofs.YtidhodalnikhlaaGreatDoor
open Go.RowKit Go.ChangeShapes Go.WideShapes Go.ChangeAt

/-- A register, by its number. -/
def Cpu.rg (x : Cpu) (i : Int) : Int := x.reg i.toNat
theorem a_at {w : World} {B : Nat} {s : Sp} (h : Blk w B 86 s.cells) (hr : Im.Right s.ins) : Calls Tryz.prog 169 #[.pointer (some ⟨B, 0, none⟩)] w fun e w' => e = .returned (.int .u32 (s.c.rg s.ia)) ∧ Later w w' := by
  have h1 : 0 ≤ s.ia ∧ s.ia < 16 := hr.2.2.1
  exact a_any h s.ia.toNat (by omega) (by omega)
theorem b_at {w : World} {B : Nat} {s : Sp} (h : Blk w B 86 s.cells) (hr : Im.Right s.ins) : Calls Tryz.prog 141 #[.pointer (some ⟨B, 0, none⟩)] w fun e w' => e = .returned (.int .u32 (s.c.rg s.ib)) ∧ Later w w' := by
  have h1 : 0 ≤ s.ib ∧ s.ib < 16 := hr.2.2.2.1
  exact b_any h s.ib.toNat (by omega) (by omega)
theorem sum_at {w : World} {B : Nat} {s : Sp} (h : Blk w B 86 s.cells) (hr : Im.Right s.ins) : Calls Tryz.prog 171 #[.pointer (some ⟨B, 0, none⟩)] w fun e w' => e = .returned (.int .u32 ((s.c.rg s.ib + s.im) % 4294967296)) ∧ Later w w' := by
  have h1 : 0 ≤ s.ib ∧ s.ib < 16 := hr.2.2.2.1
  exact sum_any h s.ib.toNat (by omega) (by omega)
set_option maxRecDepth 100000 in
set_option maxHeartbeats 2000000 in
theorem addi_any {base : Nat} {w : World} {B : Nat} {s : Sp} {A : Option Addr} {n c : Nat} {ws : List (Int × Int × Int)} {ac : List (Int × Int × Bool)} {b : Wm.Bs} (h : At base w B s A n c ws ac b) (hr : Im.Right s.ins) (tab : Tab w) : Calls Tryz.prog 151 #[.pointer (some ⟨B, 0, none⟩)] w fun e w' => e = .returned (.tuple #[]) ∧ At base w' B { s with c := s.c.putR s.ins ((s.c.rg s.ib + s.im) % 4294967296) } A n c ws ac b ∧ St base B w s w' { s with c := s.c.putR s.ins ((s.c.rg s.ib + s.im) % 4294967296) } := by
  have HS := Lib.hid (sum_at h.bx hr)
  have HP := Lib.hid fun w' (l : Later w w') x => put_any (h.later l) hr (tab.keep l) x
  have hlt := h.lt
  clear h hr tab
  go_enter Tryz.func151, Tryz.ntmps151
  go_wp2_with (first
    | (go_at_call 171; refine HS.out.mono ?_; rintro e w1 ⟨rfl, l1⟩)
    | (go_at_call 142; refine (HP.out _ l1 _).mono ?_; rintro e w2 ⟨rfl, hA, hS⟩))
  go_end0
  exact ⟨rfl, hA, (St.later _ hlt l1).trans hS⟩
set_option maxRecDepth 100000 in
set_option maxHeartbeats 2000000 in
theorem high_any {base : Nat} {w : World} {B : Nat} {s : Sp} {A : Option Addr} {n c : Nat} {ws : List (Int × Int × Int)} {ac : List (Int × Int × Bool)} {b : Wm.Bs} (h : At base w B s A n c ws ac b) (hr : Im.Right s.ins) (tab : Tab w) : Calls Tryz.prog 152 #[.pointer (some ⟨B, 0, none⟩)] w fun e w' => e = .returned (.tuple #[]) ∧ At base w' B { s with c := s.c.putR s.ins (s.im * 16384 % 4294967296) } A n c ws ac b ∧ St base B w s w' { s with c := s.c.putR s.ins (s.im * 16384 % 4294967296) } := by
  have HP := Lib.hid fun x => put_any h hr tab x
  have e0 := h.bx.cell (j := 36) (v := .int .i64 s.im) rfl
  obtain ⟨y, hy⟩ : ∃ v, v = s.im * 16384 % 4294967296 := ⟨_, rfl⟩
  rw [← hy]
  obtain ⟨q, hq⟩ : ∃ v, v = s.im := ⟨_, rfl⟩
  rw [← hq] at e0 hy
  have x1 : IntKind.u32.wrap q = q % 4294967296 := IntKind.wrap_u32 _
  have x2 : IntKind.u32.wrap (q % 4294967296 * 16384) = y := by rw [IntKind.wrap_u32, hy]; omega
  clear h hr tab hq hy
  go_enter Tryz.func152, Tryz.ntmps152
  go_wp2_with (go_at_call 142; refine (HP.out _).mono ?_; rintro e w2 ⟨rfl, hA, hS⟩)
  go_end0
  exact ⟨rfl, hA, hS⟩
theorem wait_any {base : Nat} {w : World} {B : Nat} {s : Sp} {A : Option Addr} {n c : Nat} {ws : List (Int × Int × Int)} {ac : List (Int × Int × Bool)} {b : Wm.Bs} (h : At base w B s A n c ws ac b) : Calls Tryz.prog 147 #[.pointer (some ⟨B, 0, none⟩)] w fun e w' => e = .returned (.tuple #[]) ∧ At base w' B { s with c := { s.c with wt := true } } A n c ws ac b ∧ St base B w s w' { s with c := { s.c with wt := true } } := by
  have e0 := h.bx.cell (j := 27) (v := .bool s.c.wt) rfl
  have f0 := h.bx.frz 27
  have hA := h.set (s' := { s with c := { s.c with wt := true } }) 27 (.bool true) rfl rfl rfl rfl
  clear h
  go_enter Tryz.func147, Tryz.ntmps147
  go_wp2
  go_end0
  exact ⟨rfl, hA.1, hA.2⟩
theorem halt_any {base : Nat} {w : World} {B : Nat} {s : Sp} {A : Option Addr} {n c : Nat} {ws : List (Int × Int × Int)} {ac : List (Int × Int × Bool)} {b : Wm.Bs} (h : At base w B s A n c ws ac b) : Calls Tryz.prog 150 #[.pointer (some ⟨B, 0, none⟩)] w fun e w' => e = .returned (.tuple #[]) ∧ At base w' B { s with c := { s.c with hl := true } } A n c ws ac b ∧ St base B w s w' { s with c := { s.c with hl := true } } := by
  have e0 := h.bx.cell (j := 28) (v := .bool s.c.hl) rfl
  have f0 := h.bx.frz 28
  have hA := h.set (s' := { s with c := { s.c with hl := true } }) 28 (.bool true) rfl rfl rfl rfl
  clear h
  go_enter Tryz.func150, Tryz.ntmps150
  go_wp2
  go_end0
  exact ⟨rfl, hA.1, hA.2⟩
set_option maxRecDepth 100000 in
set_option maxHeartbeats 2000000 in
theorem jalr_any {base : Nat} {w : World} {B : Nat} {s : Sp} {A : Option Addr} {n c : Nat} {ws : List (Int × Int × Int)} {ac : List (Int × Int × Bool)} {b : Wm.Bs} (h : At base w B s A n c ws ac b) (hr : Im.Right s.ins) (tab : Tab w) (h0 : 0 < base) : Calls Tryz.prog 158 #[.pointer (some ⟨B, 0, none⟩)] w fun e w' => e = .returned (.tuple #[]) ∧ At base w' B { s with c := ({ s.c with pc := (s.c.rg s.ib + s.im) % 4294967296 } : Cpu).putR s.ins s.c.pc } A n c ws ac b ∧ St base B w s w' { s with c := ({ s.c with pc := (s.c.rg s.ib + s.im) % 4294967296 } : Cpu).putR s.ins s.c.pc } := by
  have HS := Lib.hid (sum_at h.bx hr)
  have e0 := h.bx.cell (j := 0) (v := .int .u32 s.c.pc) rfl
  have HA := Lib.hid fun w' (l : Later w w') => h.later l
  have HP := Lib.hid fun w' (l : Below base w w') s' x (h' : At base w' B s' A n c ws ac b) (e : s'.ins = s.ins) => put_any h' (e ▸ hr) (tab.below h0 l) x
  have hlt := h.lt
  obtain ⟨x, hx⟩ : ∃ x, x = (s.c.rg s.ib + s.im) % 4294967296 := ⟨_, rfl⟩
  rw [← hx] at HS ⊢
  clear h hr tab hx
  go_enter Tryz.func158, Tryz.ntmps158
  go_wp2_with (first
    | (go_at_call 171; refine HS.out.mono ?_; rintro e w1 ⟨rfl, l1⟩; have h1 := HA.out _ l1; have e1 := h1.bx.cell (j := 0) (v := .int .u32 s.c.pc) rfl; have f1 := h1.bx.frz 0; obtain ⟨h2, S2⟩ := h1.set (s' := { s with c := { s.c with pc := x } }) 0 (.int .u32 x) rfl rfl rfl rfl; replace S2 := (St.later _ hlt l1).trans S2)
    | (go_at_call 142; refine (HP.out _ S2.lt _ _ h2 rfl).mono ?_; rintro e w2 ⟨rfl, hA, hS⟩))
  go_end0
  exact ⟨rfl, hA, S2.trans hS⟩
theorem ecall_any {base : Nat} {w : World} {B : Nat} {s : Sp} {A : Option Addr} {n c : Nat} {ws : List (Int × Int × Int)} {ac : List (Int × Int × Bool)} {b : Wm.Bs} (h : At base w B s A n c ws ac b) : Calls Tryz.prog 159 #[.pointer (some ⟨B, 0, none⟩)] w fun e w' => e = .panicked (Lv 1 0 s.c.pc) ∧ w = w' := by
  have e0 := h.bx.cell (j := 0) (v := .int .u32 s.c.pc) rfl
  obtain ⟨q, hq⟩ : ∃ q, q = s.c.pc := ⟨_, rfl⟩
  rw [← hq] at e0 ⊢
  clear h hq
  go_enter Tryz.func159, Tryz.ntmps159
  go_wp2
  exact ⟨rfl, rfl, rfl⟩
theorem take_cpu (s : Sp) (x : Cpu) : s.cells.take 0 ++ x.cells ++ s.cells.drop (0 + x.cells.length) = ({ s with c := x } : Sp).cells := rfl
set_option maxRecDepth 100000 in
set_option maxHeartbeats 2000000 in
theorem eret_any {base : Nat} {w : World} {B : Nat} {s : Sp} {A : Option Addr} {n c : Nat} {ws : List (Int × Int × Int)} {ac : List (Int × Int × Bool)} {b : Wm.Bs} (h : At base w B s A n c ws ac b) (hc : Tm.isE s.c.c5) : Calls Tryz.prog 143 #[.pointer (some ⟨B, 0, none⟩)] w fun e w' => e = .returned (.tuple #[]) ∧ At base w' B { s with c := Cpu.back s.c } A n c ws ac b ∧ St base B w s w' { s with c := Cpu.back s.c } := by
  have HT := Lib.hid (return_any s.c w hc)
  have HA := Lib.hid fun w' (l : Later w w') => h.later l
  have hb := h.bx
  have hlt := h.lt
  clear h
  go_enter Tryz.func143, Tryz.ntmps143
  go_wp2_with (first
    | (go_at_call 166; refine HT.out.mono ?_; rintro e w1 ⟨rfl, l1⟩; have h1 := HA.out _ l1)
    | (refine wpList_load_at (o := ⟨some 6, .load 26 (.tmp 5), _, _, _, none⟩) rfl _ _ rfl B 0 30 86 s.cells s.c.cells _ ?_ hb rfl Tryz.underlying26 rfl (cpu_sz s.c) ?_; (try rfl))
    | (refine wpList_store_at (o := ⟨none, .store 26 (.tmp 9) (.tmp 7), _, _, _, none⟩) rfl _ _ _ rfl rfl B 0 86 s.cells (Cpu.back s.c).cells ?_ ?_ h1.bx (cpu_sz _) (show 0 + 30 ≤ 108 from by decide) (cpu_one _) ?_; (try rfl); (try rfl); intro w2 b2 o2; rw [take_cpu] at b2; obtain ⟨h2, S2⟩ := h1.put (s' := { s with c := Cpu.back s.c }) o2 b2 rfl rfl rfl))
  go_end0
  exact ⟨rfl, h2, (St.later _ hlt l1).trans S2⟩
theorem flush_all {base : Nat} {w : World} {B : Nat} {s : Sp} {A : Option Addr} {n c : Nat} {ws : List (Int × Int × Int)} {ac : List (Int × Int × Bool)} {b : Wm.Bs} (h : At base w B s A n c ws ac b) (hz : s.ib = 0) : Calls Tryz.prog 146 #[.pointer (some ⟨B, 0, none⟩)] w fun e w' => e = .returned (.tuple #[]) ∧ At base w' B { s with fl := 2 } A n c ws ac b ∧ St base B w s w' { s with fl := 2 } := by
  have e0 : w.cell? ⟨B, 34, none⟩ = some (.int .i64 0) := h.bx.cell (j := 34) (v := .int .i64 0) (by rw [← hz]; rfl)
  have e1 := h.bx.cell (j := 105) (v := .int .i64 s.fl) rfl
  have f1 := h.bx.frz 105
  have hA := h.set (s' := { s with fl := 2 }) 105 (.int .i64 2) rfl rfl rfl rfl
  clear h hz
  go_enter Tryz.func146, Tryz.ntmps146
  go_wp2
  (try simp only [Exit.inBlock, Exit.then]); refine bodyPost_ret (results_none rfl _ _ _) rfl ?_
  exact ⟨rfl, hA.1, hA.2⟩
set_option maxRecDepth 100000 in
set_option maxHeartbeats 2000000 in
theorem flush_one {base : Nat} {w : World} {B : Nat} {s : Sp} {A : Option Addr} {n c : Nat} {ws : List (Int × Int × Int)} {ac : List (Int × Int × Bool)} {b : Wm.Bs} (h : At base w B s A n c ws ac b) (hr : Im.Right s.ins) (hz : s.ib ≠ 0) : Calls Tryz.prog 146 #[.pointer (some ⟨B, 0, none⟩)] w fun e w' => e = .returned (.tuple #[]) ∧ At base w' B { s with fl := 1, fa := s.c.rg s.ib } A n c ws ac b ∧ St base B w s w' { s with fl := 1, fa := s.c.rg s.ib } := by
  have HB := Lib.hid (b_at h.bx hr)
  have HA := Lib.hid fun w' (l : Later w w') => h.later l
  have e0 := h.bx.cell (j := 34) (v := .int .i64 s.ib) rfl
  have hlt := h.lt
  obtain ⟨x, hx⟩ : ∃ x, x = s.c.rg s.ib := ⟨_, rfl⟩
  obtain ⟨ib, hib⟩ : ∃ x, x = s.ib := ⟨_, rfl⟩
  rw [← hx] at HB ⊢
  rw [← hib] at e0 hz
  have hb0 : (ib == 0) = false := beq_false_of_ne hz
  clear h hr hx hz hib
  go_enter Tryz.func146, Tryz.ntmps146
  go_wp2_with (go_at_call 141; refine HB.out.mono ?_; rintro e w1 ⟨rfl, l1⟩; have h1 := HA.out _ l1; have e1 := h1.bx.cell (j := 105) (v := .int .i64 s.fl) rfl; have f1 := h1.bx.frz 105; obtain ⟨h2, S2⟩ := h1.set (s' := { s with fl := 1 }) 105 (.int .i64 1) rfl rfl rfl rfl; have e2 := h2.bx.cell (j := 106) (v := .int .u32 s.fa) rfl; have f2 := h2.bx.frz 106; obtain ⟨h3, S3⟩ := h2.set (s' := { s with fl := 1, fa := x }) 106 (.int .u32 x) rfl rfl rfl rfl)
  go_end0
  exact ⟨rfl, h3, ((St.later _ hlt l1).trans S2).trans S3⟩
end Go.Proofs.YtidhodalnikhlaaGreatDoor
