/-
  THE SMALL METHODS OF a step.
-/
import Derived.Test.YtidhodalnikhlaaGreatDoorWa
namespace Go.Proofs.YtidhodalnikhlaaGreatDoor
open Go.RowKit Go.ChangeShapes Go.WideShapes Go.ChangeAt

def Cpu.reg (x : Cpu) (k : Nat) : Int := [x.r0, x.r1, x.r2, x.r3, x.r4, x.r5, x.r6, x.r7, x.r8, x.r9, x.r10, x.r11, x.r12, x.r13, x.r14, x.r15].getD k 0
theorem reg_cell (s : Sp) (k : Nat) (h : k < 16) : s.cells[1 + k]? = some (.int .u32 (s.c.reg k)) := by
  rcases (show k = 0 ∨ k = 1 ∨ k = 2 ∨ k = 3 ∨ k = 4 ∨ k = 5 ∨ k = 6 ∨ k = 7 ∨ k = 8 ∨ k = 9 ∨ k = 10 ∨ k = 11 ∨ k = 12 ∨ k = 13 ∨ k = 14 ∨ k = 15 by omega) with rfl | rfl | rfl | rfl | rfl | rfl | rfl | rfl | rfl | rfl | rfl | rfl | rfl | rfl | rfl | rfl <;> rfl
theorem here_any {w : World} {B : Nat} {s : Sp} (h : Blk w B 86 s.cells) : Calls Tryz.prog 115 #[.pointer (some ⟨B, 0, none⟩)] w fun e w' => e = .returned (.int .u32 s.old.pc) ∧ w = w' := by
  have e0 := h.cell (j := 68) (v := .int .u32 s.old.pc) rfl
  clear h
  go_enter Tryz.func115, Tryz.ntmps115
  go_wp2
  go_ret
  exact ⟨rfl, rfl⟩
set_option maxRecDepth 100000 in
set_option maxHeartbeats 2000000 in
theorem b_any {w : World} {B : Nat} {s : Sp} (h : Blk w B 86 s.cells) (k : Nat) (hk : s.ib = (k : Int)) (h16 : k < 16) : Calls Tryz.prog 141 #[.pointer (some ⟨B, 0, none⟩)] w fun e w' => e = .returned (.int .u32 (s.c.reg k)) ∧ Later w w' := by
  have e0 : w.drew.cell? ⟨B, 34, none⟩ = some (.int .i64 (k : Int)) := h.cell (j := 34) (v := .int .i64 (k : Int)) (by rw [← hk]; rfl)
  have e1 : w.drew.cell? ⟨B, 1 + k, none⟩ = some (.int .u32 (s.c.reg k)) := h.cell (reg_cell s k h16)
  obtain ⟨v, hv⟩ : ∃ v, v = s.c.reg k := ⟨_, rfl⟩
  rw [← hv] at e1 ⊢
  have k16 : (k : Int) < 16 := by omega
  clear h hk hv
  go_enter Tryz.func141, Tryz.ntmps141
  go_wp2
  refine wp_region_held_drew (S := fun w' => w'.cell? ⟨B, 34, none⟩ = some (.int .i64 (k : Int)) ∧ w'.cell? ⟨B, 1 + k, none⟩ = some (.int .u32 v)) (by kernel_rfl) ⟨e0, e1⟩ (fun hHeld => ?_)
  refine wpAnyH_take (i := 0) (oi := ⟨some 3, .move (.tmp 0), _, _, _, none⟩) (v := .pointer (some ⟨B, 0, none⟩)) rfl (by kernel_rfl) (by kernel_rfl) (by kernel_rfl) (fun _ _ _ h => h) (Or.inl ⟨by rfl, fun _ _ => rfl⟩) hHeld ?_
  simp only [Act.put, List.setIfInBounds_toArray, List.set_cons_zero, List.set_cons_succ]
  refine wpAnyH_take (i := 1) (oi := ⟨some 4, .move (.tmp 0), _, _, _, none⟩) (v := .pointer (some ⟨B, 0, none⟩)) rfl (by kernel_rfl) (by kernel_rfl) (by kernel_rfl) (fun _ _ _ h => h) (Or.inl ⟨by rfl, fun _ _ => rfl⟩) hHeld ?_
  simp only [Act.put, List.setIfInBounds_toArray, List.set_cons_zero, List.set_cons_succ]
  refine wpAnyH_take (i := 2) (oi := ⟨some 5, .nilCheck (.tmp 4), _, _, _, none⟩) (v := .pointer (some ⟨B, 0, none⟩)) rfl (by kernel_rfl) (by kernel_rfl) (by kernel_rfl) (fun _ _ _ h => h) (Or.inl ⟨by rfl, fun w _ => by go_simp⟩) hHeld ?_
  simp only [Act.put, List.setIfInBounds_toArray, List.set_cons_zero, List.set_cons_succ]
  refine wpAnyH_take (i := 3) (oi := ⟨some 6, .fieldAddr 86 (.tmp 5) 3, _, _, _, none⟩) (v := .pointer (some ⟨B, 32, none⟩)) rfl (by kernel_rfl) (by kernel_rfl) (by kernel_rfl) (fun _ _ _ h => h) (Or.inl ⟨by rfl, fun w _ => by go_simp⟩) hHeld ?_
  simp only [Act.put, List.setIfInBounds_toArray, List.set_cons_zero, List.set_cons_succ]
  refine wpAnyH_take (i := 4) (oi := ⟨some 7, .fieldAddr 70 (.tmp 6) 2, _, _, _, none⟩) (v := .pointer (some ⟨B, 34, none⟩)) rfl (by kernel_rfl) (by kernel_rfl) (by kernel_rfl) (fun _ _ _ h => h) (Or.inl ⟨by rfl, fun w _ => by go_simp⟩) hHeld ?_
  simp only [Act.put, List.setIfInBounds_toArray, List.set_cons_zero, List.set_cons_succ]
  refine wpAnyH_take (i := 5) (oi := ⟨some 8, .load 3 (.tmp 7), _, _, _, none⟩) (v := .int .i64 (k : Int)) rfl (by kernel_rfl) (by kernel_rfl) (by kernel_rfl) (fun _ _ _ h => h) (Or.inl ⟨by rfl, fun w hSw => by have e1 := hSw.1; clear hSw; go_simp⟩) hHeld ?_
  simp only [Act.put, List.setIfInBounds_toArray, List.set_cons_zero, List.set_cons_succ]
  refine wpAnyH_take (i := 6) (oi := ⟨some 9, .nilCheck (.tmp 3), _, _, _, none⟩) (v := .pointer (some ⟨B, 0, none⟩)) rfl (by kernel_rfl) (by kernel_rfl) (by kernel_rfl) (fun _ _ _ h => h) (Or.inl ⟨by rfl, fun w _ => by go_simp⟩) hHeld ?_
  simp only [Act.put, List.setIfInBounds_toArray, List.set_cons_zero, List.set_cons_succ]
  refine wpAnyH_take (i := 7) (oi := ⟨some 10, .fieldAddr 86 (.tmp 9) 0, _, _, _, none⟩) (v := .pointer (some ⟨B, 0, none⟩)) rfl (by kernel_rfl) (by kernel_rfl) (by kernel_rfl) (fun _ _ _ h => h) (Or.inl ⟨by rfl, fun w _ => by go_simp⟩) hHeld ?_
  simp only [Act.put, List.setIfInBounds_toArray, List.set_cons_zero, List.set_cons_succ]
  refine wpAnyH_take (i := 8) (oi := ⟨some 11, .fieldAddr 26 (.tmp 10) 1, _, _, _, none⟩) (v := .pointer (some ⟨B, 1, none⟩)) rfl (by kernel_rfl) (by kernel_rfl) (by kernel_rfl) (fun _ _ _ h => h) (Or.inl ⟨by rfl, fun w _ => by go_simp⟩) hHeld ?_
  simp only [Act.put, List.setIfInBounds_toArray, List.set_cons_zero, List.set_cons_succ]
  refine wpAnyH_take (i := 9) (oi := ⟨some 12, .indexAddr 23 (.tmp 11) (.tmp 8), _, _, _, none⟩) (v := .pointer (some ((⟨B, 1, none⟩ : Addr).add k))) rfl (by kernel_rfl) (by kernel_rfl) (by kernel_rfl) (fun _ _ _ h => h) (Or.inl ⟨by rfl, fun w _ => by go_simp⟩) hHeld ?_
  simp only [Act.put, List.setIfInBounds_toArray, List.set_cons_zero, List.set_cons_succ]
  refine wpAnyH_take (i := 10) (oi := ⟨some 13, .load 22 (.tmp 12), _, _, _, none⟩) (v := .int .u32 v) rfl (by kernel_rfl) (by kernel_rfl) (by kernel_rfl) (fun _ _ _ h => h) (Or.inl ⟨by rfl, fun w hSw => by have e1 := hSw.2; clear hSw; go_simp⟩) hHeld ?_
  simp only [Act.put, List.setIfInBounds_toArray, List.set_cons_zero, List.set_cons_succ]
  refine wpAnyH_take (i := 11) (oi := ⟨some 2, .assign (.tmp 13), _, _, _, none⟩) (v := .int .u32 v) rfl (by kernel_rfl) (by kernel_rfl) (by kernel_rfl) (fun _ _ _ h => h) (Or.inl ⟨by rfl, fun _ _ => rfl⟩) hHeld ?_
  simp only [Act.put, List.setIfInBounds_toArray, List.set_cons_zero, List.set_cons_succ]
  refine wpAnyH_done (by kernel_rfl) ?_ _
  clear hHeld
  go_wp2
  go_ret
  exact ⟨rfl, Below.drew (later0 _)⟩
set_option maxRecDepth 100000 in
set_option maxHeartbeats 2000000 in
theorem a_any {w : World} {B : Nat} {s : Sp} (h : Blk w B 86 s.cells) (k : Nat) (hk : s.ia = (k : Int)) (h16 : k < 16) : Calls Tryz.prog 169 #[.pointer (some ⟨B, 0, none⟩)] w fun e w' => e = .returned (.int .u32 (s.c.reg k)) ∧ Later w w' := by
  have e0 : w.drew.cell? ⟨B, 33, none⟩ = some (.int .i64 (k : Int)) := h.cell (j := 33) (v := .int .i64 (k : Int)) (by rw [← hk]; rfl)
  have e1 : w.drew.cell? ⟨B, 1 + k, none⟩ = some (.int .u32 (s.c.reg k)) := h.cell (reg_cell s k h16)
  obtain ⟨v, hv⟩ : ∃ v, v = s.c.reg k := ⟨_, rfl⟩
  rw [← hv] at e1 ⊢
  have k16 : (k : Int) < 16 := by omega
  clear h hk hv
  go_enter Tryz.func169, Tryz.ntmps169
  go_wp2
  refine wp_region_held_drew (S := fun w' => w'.cell? ⟨B, 33, none⟩ = some (.int .i64 (k : Int)) ∧ w'.cell? ⟨B, 1 + k, none⟩ = some (.int .u32 v)) (by kernel_rfl) ⟨e0, e1⟩ (fun hHeld => ?_)
  refine wpAnyH_take (i := 0) (oi := ⟨some 3, .move (.tmp 0), _, _, _, none⟩) (v := .pointer (some ⟨B, 0, none⟩)) rfl (by kernel_rfl) (by kernel_rfl) (by kernel_rfl) (fun _ _ _ h => h) (Or.inl ⟨by rfl, fun _ _ => rfl⟩) hHeld ?_
  simp only [Act.put, List.setIfInBounds_toArray, List.set_cons_zero, List.set_cons_succ]
  refine wpAnyH_take (i := 1) (oi := ⟨some 4, .move (.tmp 0), _, _, _, none⟩) (v := .pointer (some ⟨B, 0, none⟩)) rfl (by kernel_rfl) (by kernel_rfl) (by kernel_rfl) (fun _ _ _ h => h) (Or.inl ⟨by rfl, fun _ _ => rfl⟩) hHeld ?_
  simp only [Act.put, List.setIfInBounds_toArray, List.set_cons_zero, List.set_cons_succ]
  refine wpAnyH_take (i := 2) (oi := ⟨some 5, .nilCheck (.tmp 4), _, _, _, none⟩) (v := .pointer (some ⟨B, 0, none⟩)) rfl (by kernel_rfl) (by kernel_rfl) (by kernel_rfl) (fun _ _ _ h => h) (Or.inl ⟨by rfl, fun w _ => by go_simp⟩) hHeld ?_
  simp only [Act.put, List.setIfInBounds_toArray, List.set_cons_zero, List.set_cons_succ]
  refine wpAnyH_take (i := 3) (oi := ⟨some 6, .fieldAddr 86 (.tmp 5) 3, _, _, _, none⟩) (v := .pointer (some ⟨B, 32, none⟩)) rfl (by kernel_rfl) (by kernel_rfl) (by kernel_rfl) (fun _ _ _ h => h) (Or.inl ⟨by rfl, fun w _ => by go_simp⟩) hHeld ?_
  simp only [Act.put, List.setIfInBounds_toArray, List.set_cons_zero, List.set_cons_succ]
  refine wpAnyH_take (i := 4) (oi := ⟨some 7, .fieldAddr 70 (.tmp 6) 1, _, _, _, none⟩) (v := .pointer (some ⟨B, 33, none⟩)) rfl (by kernel_rfl) (by kernel_rfl) (by kernel_rfl) (fun _ _ _ h => h) (Or.inl ⟨by rfl, fun w _ => by go_simp⟩) hHeld ?_
  simp only [Act.put, List.setIfInBounds_toArray, List.set_cons_zero, List.set_cons_succ]
  refine wpAnyH_take (i := 5) (oi := ⟨some 8, .load 3 (.tmp 7), _, _, _, none⟩) (v := .int .i64 (k : Int)) rfl (by kernel_rfl) (by kernel_rfl) (by kernel_rfl) (fun _ _ _ h => h) (Or.inl ⟨by rfl, fun w hSw => by have e1 := hSw.1; clear hSw; go_simp⟩) hHeld ?_
  simp only [Act.put, List.setIfInBounds_toArray, List.set_cons_zero, List.set_cons_succ]
  refine wpAnyH_take (i := 6) (oi := ⟨some 9, .nilCheck (.tmp 3), _, _, _, none⟩) (v := .pointer (some ⟨B, 0, none⟩)) rfl (by kernel_rfl) (by kernel_rfl) (by kernel_rfl) (fun _ _ _ h => h) (Or.inl ⟨by rfl, fun w _ => by go_simp⟩) hHeld ?_
  simp only [Act.put, List.setIfInBounds_toArray, List.set_cons_zero, List.set_cons_succ]
  refine wpAnyH_take (i := 7) (oi := ⟨some 10, .fieldAddr 86 (.tmp 9) 0, _, _, _, none⟩) (v := .pointer (some ⟨B, 0, none⟩)) rfl (by kernel_rfl) (by kernel_rfl) (by kernel_rfl) (fun _ _ _ h => h) (Or.inl ⟨by rfl, fun w _ => by go_simp⟩) hHeld ?_
  simp only [Act.put, List.setIfInBounds_toArray, List.set_cons_zero, List.set_cons_succ]
  refine wpAnyH_take (i := 8) (oi := ⟨some 11, .fieldAddr 26 (.tmp 10) 1, _, _, _, none⟩) (v := .pointer (some ⟨B, 1, none⟩)) rfl (by kernel_rfl) (by kernel_rfl) (by kernel_rfl) (fun _ _ _ h => h) (Or.inl ⟨by rfl, fun w _ => by go_simp⟩) hHeld ?_
  simp only [Act.put, List.setIfInBounds_toArray, List.set_cons_zero, List.set_cons_succ]
  refine wpAnyH_take (i := 9) (oi := ⟨some 12, .indexAddr 23 (.tmp 11) (.tmp 8), _, _, _, none⟩) (v := .pointer (some ((⟨B, 1, none⟩ : Addr).add k))) rfl (by kernel_rfl) (by kernel_rfl) (by kernel_rfl) (fun _ _ _ h => h) (Or.inl ⟨by rfl, fun w _ => by go_simp⟩) hHeld ?_
  simp only [Act.put, List.setIfInBounds_toArray, List.set_cons_zero, List.set_cons_succ]
  refine wpAnyH_take (i := 10) (oi := ⟨some 13, .load 22 (.tmp 12), _, _, _, none⟩) (v := .int .u32 v) rfl (by kernel_rfl) (by kernel_rfl) (by kernel_rfl) (fun _ _ _ h => h) (Or.inl ⟨by rfl, fun w hSw => by have e1 := hSw.2; clear hSw; go_simp⟩) hHeld ?_
  simp only [Act.put, List.setIfInBounds_toArray, List.set_cons_zero, List.set_cons_succ]
  refine wpAnyH_take (i := 11) (oi := ⟨some 2, .assign (.tmp 13), _, _, _, none⟩) (v := .int .u32 v) rfl (by kernel_rfl) (by kernel_rfl) (by kernel_rfl) (fun _ _ _ h => h) (Or.inl ⟨by rfl, fun _ _ => rfl⟩) hHeld ?_
  simp only [Act.put, List.setIfInBounds_toArray, List.set_cons_zero, List.set_cons_succ]
  refine wpAnyH_done (by kernel_rfl) ?_ _
  clear hHeld
  go_wp2
  go_ret
  exact ⟨rfl, Below.drew (later0 _)⟩
set_option maxRecDepth 100000 in
set_option maxHeartbeats 2000000 in
theorem sum_any {w : World} {B : Nat} {s : Sp} (h : Blk w B 86 s.cells) (k : Nat) (hk : s.ib = (k : Int)) (h16 : k < 16) : Calls Tryz.prog 171 #[.pointer (some ⟨B, 0, none⟩)] w fun e w' => e = .returned (.int .u32 ((s.c.reg k + s.im) % 4294967296)) ∧ Later w w' := by
  have HB := Lib.hid fun w' (hl : Later w w') => b_any (h.keep hl) k hk h16
  have hc : ∀ w', Later w w' → w'.cell? ⟨B, 36, none⟩ = some (.int .i64 s.im) := fun w' hl => (h.keep hl).cell (j := 36) rfl
  have HC := Lib.hid hc
  obtain ⟨v, hv⟩ : ∃ v, v = s.c.reg k := ⟨_, rfl⟩
  obtain ⟨q, hq⟩ : ∃ v, v = s.im := ⟨_, rfl⟩
  rw [← hv] at HB ⊢
  rw [← hq] at HC ⊢
  have x1 : IntKind.u32.wrap q = q % 4294967296 := IntKind.wrap_u32 _
  have x2 : IntKind.u32.wrap (v + q % 4294967296) = (v + q) % 4294967296 := by rw [IntKind.wrap_u32]; omega
  have l0 : Later w w.drew := Below.drew (later0 _)
  have hB := h.lt
  clear h hc hv hq hk
  go_enter Tryz.func171, Tryz.ntmps171
  go_wp2
  refine wp_region_held_drew (S := fun w' => w'.cell? ⟨B, 36, none⟩ = some (.int .i64 q)) (by kernel_rfl) (HC.out _ l0) (fun hHeld => ?_)
  refine wpAnyH_take (i := 0) (oi := ⟨some 3, .move (.tmp 0), _, _, _, none⟩) (v := .pointer (some ⟨B, 0, none⟩)) rfl (by kernel_rfl) (by kernel_rfl) (by kernel_rfl) (fun _ _ _ h => h) (Or.inl ⟨by rfl, fun _ _ => rfl⟩) hHeld ?_
  simp only [Act.put, List.setIfInBounds_toArray, List.set_cons_zero, List.set_cons_succ]
  refine wpAnyH_take (i := 2) (oi := ⟨some 5, .move (.tmp 0), _, _, _, none⟩) (v := .pointer (some ⟨B, 0, none⟩)) rfl (by kernel_rfl) (by kernel_rfl) (by kernel_rfl) (fun _ _ _ h => h) (Or.inl ⟨by rfl, fun _ _ => rfl⟩) hHeld ?_
  simp only [Act.put, List.setIfInBounds_toArray, List.set_cons_zero, List.set_cons_succ]
  refine wpAnyH_take (i := 3) (oi := ⟨some 6, .nilCheck (.tmp 5), _, _, _, none⟩) (v := .pointer (some ⟨B, 0, none⟩)) rfl (by kernel_rfl) (by kernel_rfl) (by kernel_rfl) (fun _ _ _ h => h) (Or.inl ⟨by rfl, fun w _ => by go_simp⟩) hHeld ?_
  simp only [Act.put, List.setIfInBounds_toArray, List.set_cons_zero, List.set_cons_succ]
  refine wpAnyH_take (i := 4) (oi := ⟨some 7, .fieldAddr 86 (.tmp 6) 3, _, _, _, none⟩) (v := .pointer (some ⟨B, 32, none⟩)) rfl (by kernel_rfl) (by kernel_rfl) (by kernel_rfl) (fun _ _ _ h => h) (Or.inl ⟨by rfl, fun w _ => by go_simp⟩) hHeld ?_
  simp only [Act.put, List.setIfInBounds_toArray, List.set_cons_zero, List.set_cons_succ]
  refine wpAnyH_take (i := 5) (oi := ⟨some 8, .fieldAddr 70 (.tmp 7) 4, _, _, _, none⟩) (v := .pointer (some ⟨B, 36, none⟩)) rfl (by kernel_rfl) (by kernel_rfl) (by kernel_rfl) (fun _ _ _ h => h) (Or.inl ⟨by rfl, fun w _ => by go_simp⟩) hHeld ?_
  simp only [Act.put, List.setIfInBounds_toArray, List.set_cons_zero, List.set_cons_succ]
  refine wpAnyH_take (i := 6) (oi := ⟨some 9, .load 3 (.tmp 8), _, _, _, none⟩) (v := .int .i64 q) rfl (by kernel_rfl) (by kernel_rfl) (by kernel_rfl) (fun _ _ _ h => h) (Or.inl ⟨by rfl, fun w hSw => by have e1 := hSw; clear hSw; go_simp⟩) hHeld ?_
  simp only [Act.put, List.setIfInBounds_toArray, List.set_cons_zero, List.set_cons_succ]
  refine wpAnyH_take (i := 7) (oi := ⟨some 10, .convert 3 22 (.tmp 9), _, _, _, none⟩) (v := .int .u32 (q % 4294967296)) rfl (by kernel_rfl) (by kernel_rfl) (by kernel_rfl) (fun _ _ _ h => h) (Or.inl ⟨by rfl, fun w _ => by go_simp⟩) hHeld ?_
  simp only [Act.put, List.setIfInBounds_toArray, List.set_cons_zero, List.set_cons_succ]
  refine wpAnyH_ready (rs := [1]) (by kernel_rfl) (by simp) (AllReadyH.cons (o := ⟨some 4, .call { callee := .value (.func 141), args := #[.tmp 3], argTypes := #[147] }, _, _, _, none⟩) rfl (fun K' hK => ?_) (AllReadyH.nil))
  go_simp
  refine (HB.out _ l0).mono ?_
  rintro e w1 ⟨rfl, l1⟩
  replace l0 := Later.trans_ l0 l1
  refine hK.out _ _ (HC.out _ l0) (fun hHeld => ?_)
  clear hK K'
  try simp only [Act.put, List.setIfInBounds_toArray, List.set_cons_zero, List.set_cons_succ]
  refine wpAnyH_take (i := 8) (oi := ⟨some 11, .binOp .add 22 (.tmp 4) (.tmp 10) 22, _, _, _, none⟩) (v := .int .u32 ((v + q) % 4294967296)) rfl (by kernel_rfl) (by kernel_rfl) (by kernel_rfl) (fun _ _ _ h => h) (Or.inl ⟨by rfl, fun w _ => by go_simp⟩) hHeld ?_
  simp only [Act.put, List.setIfInBounds_toArray, List.set_cons_zero, List.set_cons_succ]
  refine wpAnyH_take (i := 9) (oi := ⟨some 2, .assign (.tmp 11), _, _, _, none⟩) (v := .int .u32 ((v + q) % 4294967296)) rfl (by kernel_rfl) (by kernel_rfl) (by kernel_rfl) (fun _ _ _ h => h) (Or.inl ⟨by rfl, fun _ _ => rfl⟩) hHeld ?_
  simp only [Act.put, List.setIfInBounds_toArray, List.set_cons_zero, List.set_cons_succ]
  refine wpAnyH_done (by kernel_rfl) ?_ _
  clear hHeld
  go_wp2
  go_ret
  exact ⟨rfl, l0⟩
/-- What a step leaves by for a trap. -/
def Lv (ca v p : Int) : List PanicEntry := [{ v := .iface 149 (.agg #[.int .u32 ca, .int .u32 v, .int .u32 p]), recovered := false }]
theorem leave_any {w : World} {B : Nat} {s : Sp} (h : Blk w B 86 s.cells) (ca v : Int) (hc : 0 ≤ ca ∧ ca < 4294967296) : Calls Tryz.prog 76 #[.pointer (some ⟨B, 0, none⟩), .int .i64 ca, .int .u32 v] w fun e w' => e = .panicked (Lv ca v s.old.pc) ∧ w = w' := by
  have HH := Lib.hid fun w' (hl : w = w') => here_any (w := w') (B := B) (s := s) (hl ▸ h)
  have x1 : IntKind.u32.wrap ca = ca := by rw [IntKind.wrap_u32]; omega
  obtain ⟨q, hq⟩ : ∃ q, q = s.old.pc := ⟨_, rfl⟩
  rw [← hq] at HH ⊢
  clear h hc hq
  go_enter Tryz.func76, Tryz.ntmps76
  go_wp2_with (go_at_call 115; refine (HH.out _ rfl).mono ?_; rintro e w1 ⟨rfl, rfl⟩)
  exact ⟨rfl, rfl, rfl⟩
theorem require_yes {w : World} {B : Nat} : Calls Tryz.prog 118 #[.pointer (some ⟨B, 0, none⟩), .bool true] w fun e w' => e = .returned (.tuple #[]) ∧ w = w' := by
  go_enter Tryz.func118, Tryz.ntmps118
  go_wp2
  go_end0
  exact ⟨rfl, rfl⟩
theorem require_no {w : World} {B : Nat} {s : Sp} (h : Blk w B 86 s.cells) : Calls Tryz.prog 118 #[.pointer (some ⟨B, 0, none⟩), .bool false] w fun e w' => e = .panicked (Lv 2 s.wd s.old.pc) ∧ w = w' := by
  have HL := Lib.hid (leave_any h 2 s.wd (by omega))
  have e0 := h.cell (j := 98) (v := .int .u32 s.wd) rfl
  obtain ⟨q, hq⟩ : ∃ q, q = s.wd := ⟨_, rfl⟩
  rw [← hq] at HL e0 ⊢
  clear h hq
  go_enter Tryz.func118, Tryz.ntmps118
  go_wp2_with (go_at_call 76; refine HL.out.mono ?_; rintro e w1 ⟨rfl, rfl⟩)
  exact ⟨rfl, rfl, rfl⟩
set_option maxRecDepth 100000 in
set_option maxHeartbeats 2000000 in
theorem touch_any {base : Nat} {w : World} {B : Nat} {s : Sp} {A : Option Addr} {n c : Nat} {ws : List (Int × Int × Int)} {ac : List (Int × Int × Bool)} {b : Wm.Bs} (h : At base w B s A n c ws ac b) (hl : ac.length ≤ 1000) (x z : Int) (t : Bool) : Calls Tryz.prog 139 #[.pointer (some ⟨B, 0, none⟩), .int .i64 x, .int .i64 z, .bool t] w fun e w' => e = .returned (.tuple #[]) ∧ ∃ v, At base w' B { s with av := v } A n c ws (ac ++ [(x, z, t)]) b ∧ St base B w s w' { s with av := v } := by
  obtain ⟨i0, hi, hz0, hz1, hz2⟩ := info_parts ac_info
  have HA := Lib.hid h
  have hra := h.ra
  have e0 := h.bx.cell (j := 100) (v := s.av) rfl
  have hlt := h.lt
  clear h
  go_enter Tryz.func139, Tryz.ntmps139
  go_wp2_with (at_builtin; refine wpList_append_fr rfl _ _ 34 rfl base 53 i0 _ 3 24 Tryz.underlying34 hi hz0 hz1 hz2 rfl (by decide) s.av _ (Acs ac) rfl (hra.alloc (.cells #[.int .i64 x, .int .i64 z, .bool t] 53)) ⟨w.heap.size, 0, none⟩ 1 1 [.int .i64 x, .int .i64 z, .bool t] rfl rfl (fun j u hu => by rw [Addr.add_mid, Nat.zero_add]; exact (Blk.new w 53 _ _ rfl).cell hu) (ac_one _ _ _) (by unfold maxLen; omega) (by omega) (by simp; omega) (by omega) ?_; intro v' w4 hown hgrow hfr; obtain ⟨g1, cap1, rfl⟩ := own_succ hown; obtain ⟨k1, k2, k3, k4⟩ := HA.out.app_a (x := (x, z, t)) hown hgrow hfr)
  go_end0
  exact ⟨rfl, _, k1, k2⟩
set_option maxRecDepth 100000 in
set_option maxHeartbeats 2000000 in
theorem sstore_any {base : Nat} {w : World} {B : Nat} {s : Sp} {A : Option Addr} {n c : Nat} {ws : List (Int × Int × Int)} {ac : List (Int × Int × Bool)} {b : Wm.Bs} (h : At base w B s A n c ws ac b) (hl : ac.length ≤ 1000) (hl2 : ws.length ≤ 1000) (x z v : Int) : Calls Tryz.prog 140 #[.pointer (some ⟨B, 0, none⟩), .agg #[.int .i64 x, .int .i64 z, .int .u32 v]] w fun e w' => e = .returned (.tuple #[]) ∧ ∃ a1 w1, At base w' B { s with av := a1, wv := w1 } A n c (ws ++ [(x, z, v)]) (ac ++ [(x, z, true)]) b ∧ St base B w s w' { s with av := a1, wv := w1 } := by
  obtain ⟨i0, hi, hz0, hz1, hz2⟩ := info_parts wr_info
  have h1 := h.later (later1 w (.cells #[.int .i64 x, .int .i64 z, .int .u32 v] 64))
  have HT := Lib.hid (touch_any h1 hl x z true)
  have S1 := St.later (B := B) s h.lt (later1 w (.cells #[.int .i64 x, .int .i64 z, .int .u32 v] 64))
  have b3 := Blk.new w 64 #[.int .i64 x, .int .i64 z, .int .u32 v] [.int .i64 x, .int .i64 z, .int .u32 v] rfl
  have n1 : w.heap.size ≠ B := by have := h.bx.lt; omega
  have n2 : s.wv.ownBlock ≠ some w.heap.size := fun e => by have := (h.rw.lt _ e).2; omega
  have n3 : s.av.ownBlock ≠ some w.heap.size := fun e => by have := (h.ra.lt _ e).2; omega
  clear h
  go_enter Tryz.func140, Tryz.ntmps140
  go_wp2_with (go_at_call 139; refine HT.out.mono ?_; rintro e w2 ⟨rfl, a1, hA, hS⟩)
  have b3' := (hS.blk b3 n1 n2 n3).drew
  have h2 := hA.later (Below.drew (later0 w2))
  have S2 := S1.trans (hS.trans (St.later (B := B) _ hA.lt (Below.drew (later0 w2))))
  have e0 := h2.bx.cell (j := 99) (v := s.wv) rfl
  have hrw := h2.rw
  have hlt := h2.lt
  have n4 : B ≠ w.heap.size := fun e => n1 e.symm
  have e0q : w2.cell? ⟨B, 99, none⟩ = some s.wv := e0
  clear HT h1 S1 b3 n1 n3 hA hS
  -- REGION
  refine wp_region_held_drew (S := fun w' => w'.cell? ⟨w.heap.size, 0, none⟩ = some (.int .i64 x) ∧ w'.cell? ⟨w.heap.size, 1, none⟩ = some (.int .i64 z) ∧ w'.cell? ⟨w.heap.size, 2, none⟩ = some (.int .u32 v) ∧ True) (by kernel_rfl) ⟨b3'.cell (j := 0) rfl, b3'.cell (j := 1) rfl, b3'.cell (j := 2) rfl, trivial⟩ (fun hHeld => ?_)
  refine wpAnyH_take (i := 0) (oi := ⟨some 10, .move (.tmp 0), _, _, _, none⟩) (v := .pointer (some ⟨B, 0, none⟩)) rfl (by kernel_rfl) (by kernel_rfl) (by kernel_rfl) (fun _ _ _ h => h) (Or.inl ⟨by rfl, fun _ _ => rfl⟩) hHeld ?_
  simp only [Act.put, List.setIfInBounds_toArray, List.set_cons_zero, List.set_cons_succ]
  refine wpAnyH_take (i := 1) (oi := ⟨some 11, .move (.tmp 0), _, _, _, none⟩) (v := .pointer (some ⟨B, 0, none⟩)) rfl (by kernel_rfl) (by kernel_rfl) (by kernel_rfl) (fun _ _ _ h => h) (Or.inl ⟨by rfl, fun _ _ => rfl⟩) hHeld ?_
  simp only [Act.put, List.setIfInBounds_toArray, List.set_cons_zero, List.set_cons_succ]
  refine wpAnyH_take (i := 2) (oi := ⟨some 12, .nilCheck (.tmp 11), _, _, _, none⟩) (v := .pointer (some ⟨B, 0, none⟩)) rfl (by kernel_rfl) (by kernel_rfl) (by kernel_rfl) (fun _ _ _ h => h) (Or.inl ⟨by rfl, fun w _ => by go_simp⟩) hHeld ?_
  simp only [Act.put, List.setIfInBounds_toArray, List.set_cons_zero, List.set_cons_succ]
  refine wpAnyH_take (i := 3) (oi := ⟨some 13, .fieldAddr 86 (.tmp 12) 4, _, _, _, none⟩) (v := .pointer (some ⟨B, 37, none⟩)) rfl (by kernel_rfl) (by kernel_rfl) (by kernel_rfl) (fun _ _ _ h => h) (Or.inl ⟨by rfl, fun w _ => by go_simp⟩) hHeld ?_
  simp only [Act.put, List.setIfInBounds_toArray, List.set_cons_zero, List.set_cons_succ]
  refine wpAnyH_take (i := 4) (oi := ⟨some 14, .fieldAddr 38 (.tmp 13) 4, _, _, _, none⟩) (v := .pointer (some ⟨B, 99, none⟩)) rfl (by kernel_rfl) (by kernel_rfl) (by kernel_rfl) (fun _ _ _ h => h) (Or.inl ⟨by rfl, fun w _ => by go_simp⟩) hHeld ?_
  simp only [Act.put, List.setIfInBounds_toArray, List.set_cons_zero, List.set_cons_succ]
  refine wpAnyH_take (i := 6) (oi := ⟨some 16, .load 64 (.tmp 3), _, _, _, none⟩) (v := .agg #[.int .i64 x, .int .i64 z, .int .u32 v]) rfl (by kernel_rfl) (by kernel_rfl) (by kernel_rfl) (fun _ _ _ h => h) (Or.inl ⟨by rfl, fun w hSw => by obtain ⟨e1, e2, e3, _⟩ := hSw; go_simp⟩) hHeld ?_
  simp only [Act.put, List.setIfInBounds_toArray, List.set_cons_zero, List.set_cons_succ]
  refine wpAnyH_ready (rs := [5, 7]) (by kernel_rfl) (by simp) (AllReadyH.cons (o := ⟨some 15, .load 33 (.tmp 14), _, _, _, none⟩) rfl (fun K' hK => ?_) (AllReadyH.cons (o := ⟨some 17, .buildSlice 33 1 #[(0, .tmp 16)], _, _, _, none⟩) rfl (fun K' hK => ?_) AllReadyH.nil))
  · go_simp
    refine hK.out _ _ ⟨b3'.cell (j := 0) rfl, b3'.cell (j := 1) rfl, b3'.cell (j := 2) rfl, trivial⟩ (fun hHeld => ?_)
    clear hK K'
    try simp only [Act.put, List.setIfInBounds_toArray, List.set_cons_zero, List.set_cons_succ]
    refine wpAnyH_ready (rs := [7]) (by kernel_rfl) (by simp) (AllReadyH.cons (o := ⟨some 17, .buildSlice 33 1 #[(0, .tmp 16)], _, _, _, none⟩) rfl (fun K' hK => ?_) AllReadyH.nil)
    go_simp
    have bS := (Blk.new w2 64 #[.int .i64 x, .int .i64 z, .int .u32 v] [.int .i64 x, .int .i64 z, .int .u32 v] rfl).drew
    have l4 : Later w2.drew (w2.alloc (.cells #[.int .i64 x, .int .i64 z, .int .u32 v] 64)).drew := ⟨(later1 w2 (.cells #[.int .i64 x, .int .i64 z, .int .u32 v] 64)).os, (later1 w2 (.cells #[.int .i64 x, .int .i64 z, .int .u32 v] 64)).tape, (later1 w2 (.cells #[.int .i64 x, .int .i64 z, .int .u32 v] 64)).output, (later1 w2 (.cells #[.int .i64 x, .int .i64 z, .int .u32 v] 64)).size, (later1 w2 (.cells #[.int .i64 x, .int .i64 z, .int .u32 v] 64)).block⟩
    replace b3' := b3'.keep l4
    have e0r : (w2.alloc (.cells #[.int .i64 x, .int .i64 z, .int .u32 v] 64)).cell? ⟨B, 99, none⟩ = some s.wv := (h2.bx.keep l4).cell rfl
    refine hK.out _ _ ⟨b3'.cell (j := 0) rfl, b3'.cell (j := 1) rfl, b3'.cell (j := 2) rfl, trivial⟩ (fun hHeld => ?_)
    clear hK K'
    try simp only [Act.put, List.setIfInBounds_toArray, List.set_cons_zero, List.set_cons_succ]
    refine wpAnyH_ready (rs := [8]) (by kernel_rfl) (by simp) (AllReadyH.cons (o := ⟨some 18, .call { callee := .builtin .append, args := #[.tmp 15, .tmp 17], argTypes := #[33, 33] }, _, _, _, none⟩) rfl (fun K' hK => ?_) AllReadyH.nil)
    refine wp_append_fr _ _ 33 rfl base 64 i0 _ 3 24 Tryz.underlying33 hi hz0 hz1 hz2 rfl (by decide) s.wv _ (Ws ws) rfl (own_below hrw l4) ⟨w2.heap.size, 0, none⟩ 1 1 [.int .i64 x, .int .i64 z, .int .u32 v] rfl rfl (fun j u hu => by rw [Addr.add_mid, Nat.zero_add]; exact bS.cell hu) (fun u hu => by simp only [List.mem_cons, List.not_mem_nil, or_false] at hu; rcases hu with rfl | rfl | rfl <;> rfl) (by unfold maxLen; omega) (by omega) (Nat.le_trans hlt l4.size) (by omega) ?_
    intro w1 w5 hown hgrow hfr
    obtain ⟨g1, cap1, rfl⟩ := own_succ hown
    obtain ⟨k1, k2, k3, k4⟩ := h2.app_w (o := .cells #[.int .i64 x, .int .i64 z, .int .u32 v] 64) (w4 := w5) (x := (x, z, v)) hown hgrow hfr
    have n5 := n2
    replace b3' : Blk w5 w.heap.size 64 [.int .i64 x, .int .i64 z, .int .u32 v] := (hgrow.block w.heap.size (by have := b3'.lt; exact this) (fun e => n5 e.symm)).trans b3'
    refine hK.out _ _ ⟨b3'.cell (j := 0) rfl, b3'.cell (j := 1) rfl, b3'.cell (j := 2) rfl, trivial⟩ (fun hHeld => ?_)
    clear hK K'
    try simp only [Act.put, List.setIfInBounds_toArray, List.set_cons_zero, List.set_cons_succ]
    refine wpAnyH_take (i := 9) (oi := ⟨some 19, .nilCheck (.tmp 10), _, _, _, none⟩) (v := .pointer (some ⟨B, 0, none⟩)) rfl (by kernel_rfl) (by kernel_rfl) (by kernel_rfl) (fun _ _ _ h => h) (Or.inl ⟨by rfl, fun w _ => by go_simp⟩) hHeld ?_
    simp only [Act.put, List.setIfInBounds_toArray, List.set_cons_zero, List.set_cons_succ]
    refine wpAnyH_take (i := 10) (oi := ⟨some 20, .fieldAddr 86 (.tmp 19) 4, _, _, _, none⟩) (v := .pointer (some ⟨B, 37, none⟩)) rfl (by kernel_rfl) (by kernel_rfl) (by kernel_rfl) (fun _ _ _ h => h) (Or.inl ⟨by rfl, fun w _ => by go_simp⟩) hHeld ?_
    simp only [Act.put, List.setIfInBounds_toArray, List.set_cons_zero, List.set_cons_succ]
    refine wpAnyH_take (i := 11) (oi := ⟨some 21, .fieldAddr 38 (.tmp 20) 4, _, _, _, none⟩) (v := .pointer (some ⟨B, 99, none⟩)) rfl (by kernel_rfl) (by kernel_rfl) (by kernel_rfl) (fun _ _ _ h => h) (Or.inl ⟨by rfl, fun w _ => by go_simp⟩) hHeld ?_
    simp only [Act.put, List.setIfInBounds_toArray, List.set_cons_zero, List.set_cons_succ]
    refine wpAnyH_ready (rs := [12]) (by kernel_rfl) (by simp) (AllReadyH.cons (o := ⟨none, .store 33 (.tmp 21) (.tmp 18), _, _, _, none⟩) rfl (fun K' hK => ?_) AllReadyH.nil)
    go_simp
    replace b3' := b3'.set_other ⟨B, 99, none⟩ (.slice (some ⟨g1, 0, none⟩) (ws.length + 1) cap1) (by show w.heap.size ≠ B; omega)
    refine hK.out _ _ ⟨b3'.cell (j := 0) rfl, b3'.cell (j := 1) rfl, b3'.cell (j := 2) rfl, trivial⟩ (fun hHeld => ?_)
    clear hK K'
    try simp only [Act.put, List.setIfInBounds_toArray, List.set_cons_zero, List.set_cons_succ]
    refine wpAnyH_done (by kernel_rfl) ?_ _
    clear hHeld
    go_wp2
    go_end0
    exact ⟨rfl, a1, _, k1, S2.trans k2⟩
  · go_simp
    have bS := (Blk.new w2 64 #[.int .i64 x, .int .i64 z, .int .u32 v] [.int .i64 x, .int .i64 z, .int .u32 v] rfl).drew
    have l4 : Later w2.drew (w2.alloc (.cells #[.int .i64 x, .int .i64 z, .int .u32 v] 64)).drew := ⟨(later1 w2 (.cells #[.int .i64 x, .int .i64 z, .int .u32 v] 64)).os, (later1 w2 (.cells #[.int .i64 x, .int .i64 z, .int .u32 v] 64)).tape, (later1 w2 (.cells #[.int .i64 x, .int .i64 z, .int .u32 v] 64)).output, (later1 w2 (.cells #[.int .i64 x, .int .i64 z, .int .u32 v] 64)).size, (later1 w2 (.cells #[.int .i64 x, .int .i64 z, .int .u32 v] 64)).block⟩
    replace b3' := b3'.keep l4
    have e0r : (w2.alloc (.cells #[.int .i64 x, .int .i64 z, .int .u32 v] 64)).cell? ⟨B, 99, none⟩ = some s.wv := (h2.bx.keep l4).cell rfl
    refine hK.out _ _ ⟨b3'.cell (j := 0) rfl, b3'.cell (j := 1) rfl, b3'.cell (j := 2) rfl, trivial⟩ (fun hHeld => ?_)
    clear hK K'
    try simp only [Act.put, List.setIfInBounds_toArray, List.set_cons_zero, List.set_cons_succ]
    refine wpAnyH_ready (rs := [5]) (by kernel_rfl) (by simp) (AllReadyH.cons (o := ⟨some 15, .load 33 (.tmp 14), _, _, _, none⟩) rfl (fun K' hK => ?_) AllReadyH.nil)
    go_simp
    refine hK.out _ _ ⟨b3'.cell (j := 0) rfl, b3'.cell (j := 1) rfl, b3'.cell (j := 2) rfl, trivial⟩ (fun hHeld => ?_)
    clear hK K'
    try simp only [Act.put, List.setIfInBounds_toArray, List.set_cons_zero, List.set_cons_succ]
    refine wpAnyH_ready (rs := [8]) (by kernel_rfl) (by simp) (AllReadyH.cons (o := ⟨some 18, .call { callee := .builtin .append, args := #[.tmp 15, .tmp 17], argTypes := #[33, 33] }, _, _, _, none⟩) rfl (fun K' hK => ?_) AllReadyH.nil)
    refine wp_append_fr _ _ 33 rfl base 64 i0 _ 3 24 Tryz.underlying33 hi hz0 hz1 hz2 rfl (by decide) s.wv _ (Ws ws) rfl (own_below hrw l4) ⟨w2.heap.size, 0, none⟩ 1 1 [.int .i64 x, .int .i64 z, .int .u32 v] rfl rfl (fun j u hu => by rw [Addr.add_mid, Nat.zero_add]; exact bS.cell hu) (fun u hu => by simp only [List.mem_cons, List.not_mem_nil, or_false] at hu; rcases hu with rfl | rfl | rfl <;> rfl) (by unfold maxLen; omega) (by omega) (Nat.le_trans hlt l4.size) (by omega) ?_
    intro w1 w5 hown hgrow hfr
    obtain ⟨g1, cap1, rfl⟩ := own_succ hown
    obtain ⟨k1, k2, k3, k4⟩ := h2.app_w (o := .cells #[.int .i64 x, .int .i64 z, .int .u32 v] 64) (w4 := w5) (x := (x, z, v)) hown hgrow hfr
    have n5 := n2
    replace b3' : Blk w5 w.heap.size 64 [.int .i64 x, .int .i64 z, .int .u32 v] := (hgrow.block w.heap.size (by have := b3'.lt; exact this) (fun e => n5 e.symm)).trans b3'
    refine hK.out _ _ ⟨b3'.cell (j := 0) rfl, b3'.cell (j := 1) rfl, b3'.cell (j := 2) rfl, trivial⟩ (fun hHeld => ?_)
    clear hK K'
    try simp only [Act.put, List.setIfInBounds_toArray, List.set_cons_zero, List.set_cons_succ]
    refine wpAnyH_take (i := 9) (oi := ⟨some 19, .nilCheck (.tmp 10), _, _, _, none⟩) (v := .pointer (some ⟨B, 0, none⟩)) rfl (by kernel_rfl) (by kernel_rfl) (by kernel_rfl) (fun _ _ _ h => h) (Or.inl ⟨by rfl, fun w _ => by go_simp⟩) hHeld ?_
    simp only [Act.put, List.setIfInBounds_toArray, List.set_cons_zero, List.set_cons_succ]
    refine wpAnyH_take (i := 10) (oi := ⟨some 20, .fieldAddr 86 (.tmp 19) 4, _, _, _, none⟩) (v := .pointer (some ⟨B, 37, none⟩)) rfl (by kernel_rfl) (by kernel_rfl) (by kernel_rfl) (fun _ _ _ h => h) (Or.inl ⟨by rfl, fun w _ => by go_simp⟩) hHeld ?_
    simp only [Act.put, List.setIfInBounds_toArray, List.set_cons_zero, List.set_cons_succ]
    refine wpAnyH_take (i := 11) (oi := ⟨some 21, .fieldAddr 38 (.tmp 20) 4, _, _, _, none⟩) (v := .pointer (some ⟨B, 99, none⟩)) rfl (by kernel_rfl) (by kernel_rfl) (by kernel_rfl) (fun _ _ _ h => h) (Or.inl ⟨by rfl, fun w _ => by go_simp⟩) hHeld ?_
    simp only [Act.put, List.setIfInBounds_toArray, List.set_cons_zero, List.set_cons_succ]
    refine wpAnyH_ready (rs := [12]) (by kernel_rfl) (by simp) (AllReadyH.cons (o := ⟨none, .store 33 (.tmp 21) (.tmp 18), _, _, _, none⟩) rfl (fun K' hK => ?_) AllReadyH.nil)
    go_simp
    replace b3' := b3'.set_other ⟨B, 99, none⟩ (.slice (some ⟨g1, 0, none⟩) (ws.length + 1) cap1) (by show w.heap.size ≠ B; omega)
    refine hK.out _ _ ⟨b3'.cell (j := 0) rfl, b3'.cell (j := 1) rfl, b3'.cell (j := 2) rfl, trivial⟩ (fun hHeld => ?_)
    clear hK K'
    try simp only [Act.put, List.setIfInBounds_toArray, List.set_cons_zero, List.set_cons_succ]
    refine wpAnyH_done (by kernel_rfl) ?_ _
    clear hHeld
    go_wp2
    go_end0
    exact ⟨rfl, a1, _, k1, S2.trans k2⟩
end Go.Proofs.YtidhodalnikhlaaGreatDoor
