/-
  THE INSTRUCTIONS OF a step, two.
-/
import Derived.Test.YtidhodalnikhlaaGreatDoorWh
namespace Go.Proofs.YtidhodalnikhlaaGreatDoor
open Go.RowKit Go.ChangeShapes Go.WideShapes Go.ChangeAt

/-- The registers are words. -/
def Cpu.Rv (x : Cpu) : Prop := ∀ k, k < 16 → 0 ≤ x.reg k ∧ x.reg k < 4294967296
set_option maxRecDepth 100000 in
set_option maxHeartbeats 2000000 in
theorem compute_any {base : Nat} {w : World} {B : Nat} {s : Sp} {A : Option Addr} {n c : Nat} {ws : List (Int × Int × Int)} {ac : List (Int × Int × Bool)} {b : Wm.Bs} (h : At base w B s A n c ws ac b) (hr : Im.Right s.ins) (tab : Tab w) (hv : s.c.Rv) : Calls Tryz.prog 120 #[.pointer (some ⟨B, 0, none⟩)] w fun e w' => e = .returned (.tuple #[]) ∧ At base w' B { s with c := s.c.putR s.ins (Al.I s.io (s.c.rg s.ib) (s.c.rg s.ic)) } A n c ws ac b ∧ St base B w s w' { s with c := s.c.putR s.ins (Al.I s.io (s.c.rg s.ib) (s.c.rg s.ic)) } := by
  have HP := Lib.hid fun w' (l : Later w w') x => put_any (h.later l) hr (tab.keep l) x
  have hkb : 0 ≤ s.ib ∧ s.ib < 16 := hr.2.2.2.1
  have hkc : 0 ≤ s.ic ∧ s.ic < 16 := hr.2.2.2.2.1
  obtain ⟨k, hk⟩ := Int.eq_ofNat_of_zero_le hkc.1
  have h16 : k < 16 := by omega
  have hrc : s.c.rg s.ic = s.c.reg k := by unfold Cpu.rg; rw [hk]; rfl
  rw [hrc]
  have vb := hv s.ib.toNat (by omega)
  have vc := hv k h16
  have HB := Lib.hid fun w' (l : Later w w') => b_at (h.bx.keep l) hr
  have HC := Lib.hid fun w' (l : Later w w') => (⟨(h.bx.keep l).cell (j := 32) rfl, (h.bx.keep l).cell (j := 35) (by rw [← hk]; rfl), (h.bx.keep l).cell (reg_cell s k h16)⟩ : w'.cell? ⟨B, 32, none⟩ = some (.int .i64 s.io) ∧ w'.cell? ⟨B, 35, none⟩ = some (.int .i64 (k : Int)) ∧ w'.cell? ⟨B, 1 + k, none⟩ = some (.int .u32 (s.c.reg k)))
  have HD := Lib.hid fun w' => do_any (w := w') (b := s.c.rg s.ib) (c := s.c.reg k) vb.1 vb.2 vc.1 vc.2 s.io
  have hlt := h.lt
  have k16 : (k : Int) < 16 := by omega
  obtain ⟨r, hr'⟩ : ∃ r, r = Al.I s.io (s.c.rg s.ib) (s.c.reg k) := ⟨_, rfl⟩
  obtain ⟨er, her⟩ : ∃ r, r = Al.Er s.io := ⟨_, rfl⟩
  rw [← hr', ← her] at HD
  rw [← hr']
  obtain ⟨op, hop⟩ : ∃ x, x = s.io := ⟨_, rfl⟩
  obtain ⟨x, hx⟩ : ∃ x, x = s.c.rg s.ib := ⟨_, rfl⟩
  obtain ⟨y, hy⟩ : ∃ x, x = s.c.reg k := ⟨_, rfl⟩
  rw [← hop, ← hx, ← hy] at HD
  rw [← hx] at HB
  rw [← hop, ← hy] at HC
  have l0 : Later w w.drew := Below.drew (later0 _)
  clear h hr tab hv hkb hkc hk hrc vb vc hr' her hop hx hy
  go_enter Tryz.func120, Tryz.ntmps120
  go_wp2
  refine wp_region_held_drew (S := fun w' => w'.cell? ⟨B, 32, none⟩ = some (.int .i64 op) ∧ w'.cell? ⟨B, 35, none⟩ = some (.int .i64 (k : Int)) ∧ w'.cell? ⟨B, 1 + k, none⟩ = some (.int .u32 y)) (by kernel_rfl) (HC.out _ l0) (fun hHeld => ?_)
  refine wpAnyH_take (i := 0) (oi := ⟨some 5, .move (.tmp 0), _, _, _, none⟩) (v := .pointer (some ⟨B, 0, none⟩)) rfl (by kernel_rfl) (by kernel_rfl) (by kernel_rfl) (fun _ _ _ h => h) (Or.inl ⟨by rfl, fun _ _ => rfl⟩) hHeld ?_
  simp only [Act.put, List.setIfInBounds_toArray, List.set_cons_zero, List.set_cons_succ]
  refine wpAnyH_take (i := 1) (oi := ⟨some 6, .nilCheck (.tmp 5), _, _, _, none⟩) (v := .pointer (some ⟨B, 0, none⟩)) rfl (by kernel_rfl) (by kernel_rfl) (by kernel_rfl) (fun _ _ _ h => h) (Or.inl ⟨by rfl, fun w _ => by go_simp⟩) hHeld ?_
  simp only [Act.put, List.setIfInBounds_toArray, List.set_cons_zero, List.set_cons_succ]
  refine wpAnyH_take (i := 2) (oi := ⟨some 7, .fieldAddr 86 (.tmp 6) 3, _, _, _, none⟩) (v := .pointer (some ⟨B, 32, none⟩)) rfl (by kernel_rfl) (by kernel_rfl) (by kernel_rfl) (fun _ _ _ h => h) (Or.inl ⟨by rfl, fun w _ => by go_simp⟩) hHeld ?_
  simp only [Act.put, List.setIfInBounds_toArray, List.set_cons_zero, List.set_cons_succ]
  refine wpAnyH_take (i := 3) (oi := ⟨some 8, .fieldAddr 70 (.tmp 7) 0, _, _, _, none⟩) (v := .pointer (some ⟨B, 32, none⟩)) rfl (by kernel_rfl) (by kernel_rfl) (by kernel_rfl) (fun _ _ _ h => h) (Or.inl ⟨by rfl, fun w _ => by go_simp⟩) hHeld ?_
  simp only [Act.put, List.setIfInBounds_toArray, List.set_cons_zero, List.set_cons_succ]
  refine wpAnyH_take (i := 4) (oi := ⟨some 9, .load 3 (.tmp 8), _, _, _, none⟩) (v := .int .i64 op) rfl (by kernel_rfl) (by kernel_rfl) (by kernel_rfl) (fun _ _ _ h => h) (Or.inl ⟨by rfl, fun w hSw => by have e1 := hSw.1; clear hSw; go_simp⟩) hHeld ?_
  simp only [Act.put, List.setIfInBounds_toArray, List.set_cons_zero, List.set_cons_succ]
  refine wpAnyH_take (i := 5) (oi := ⟨some 10, .move (.tmp 0), _, _, _, none⟩) (v := .pointer (some ⟨B, 0, none⟩)) rfl (by kernel_rfl) (by kernel_rfl) (by kernel_rfl) (fun _ _ _ h => h) (Or.inl ⟨by rfl, fun _ _ => rfl⟩) hHeld ?_
  simp only [Act.put, List.setIfInBounds_toArray, List.set_cons_zero, List.set_cons_succ]
  refine wpAnyH_take (i := 7) (oi := ⟨some 12, .move (.tmp 0), _, _, _, none⟩) (v := .pointer (some ⟨B, 0, none⟩)) rfl (by kernel_rfl) (by kernel_rfl) (by kernel_rfl) (fun _ _ _ h => h) (Or.inl ⟨by rfl, fun _ _ => rfl⟩) hHeld ?_
  simp only [Act.put, List.setIfInBounds_toArray, List.set_cons_zero, List.set_cons_succ]
  refine wpAnyH_take (i := 8) (oi := ⟨some 13, .move (.tmp 0), _, _, _, none⟩) (v := .pointer (some ⟨B, 0, none⟩)) rfl (by kernel_rfl) (by kernel_rfl) (by kernel_rfl) (fun _ _ _ h => h) (Or.inl ⟨by rfl, fun _ _ => rfl⟩) hHeld ?_
  simp only [Act.put, List.setIfInBounds_toArray, List.set_cons_zero, List.set_cons_succ]
  refine wpAnyH_take (i := 9) (oi := ⟨some 14, .nilCheck (.tmp 13), _, _, _, none⟩) (v := .pointer (some ⟨B, 0, none⟩)) rfl (by kernel_rfl) (by kernel_rfl) (by kernel_rfl) (fun _ _ _ h => h) (Or.inl ⟨by rfl, fun w _ => by go_simp⟩) hHeld ?_
  simp only [Act.put, List.setIfInBounds_toArray, List.set_cons_zero, List.set_cons_succ]
  refine wpAnyH_take (i := 10) (oi := ⟨some 15, .fieldAddr 86 (.tmp 14) 3, _, _, _, none⟩) (v := .pointer (some ⟨B, 32, none⟩)) rfl (by kernel_rfl) (by kernel_rfl) (by kernel_rfl) (fun _ _ _ h => h) (Or.inl ⟨by rfl, fun w _ => by go_simp⟩) hHeld ?_
  simp only [Act.put, List.setIfInBounds_toArray, List.set_cons_zero, List.set_cons_succ]
  refine wpAnyH_take (i := 11) (oi := ⟨some 16, .fieldAddr 70 (.tmp 15) 3, _, _, _, none⟩) (v := .pointer (some ⟨B, 35, none⟩)) rfl (by kernel_rfl) (by kernel_rfl) (by kernel_rfl) (fun _ _ _ h => h) (Or.inl ⟨by rfl, fun w _ => by go_simp⟩) hHeld ?_
  simp only [Act.put, List.setIfInBounds_toArray, List.set_cons_zero, List.set_cons_succ]
  refine wpAnyH_take (i := 12) (oi := ⟨some 17, .load 3 (.tmp 16), _, _, _, none⟩) (v := .int .i64 (k : Int)) rfl (by kernel_rfl) (by kernel_rfl) (by kernel_rfl) (fun _ _ _ h => h) (Or.inl ⟨by rfl, fun w hSw => by have e1 := hSw.2.1; clear hSw; go_simp⟩) hHeld ?_
  simp only [Act.put, List.setIfInBounds_toArray, List.set_cons_zero, List.set_cons_succ]
  refine wpAnyH_take (i := 13) (oi := ⟨some 18, .nilCheck (.tmp 12), _, _, _, none⟩) (v := .pointer (some ⟨B, 0, none⟩)) rfl (by kernel_rfl) (by kernel_rfl) (by kernel_rfl) (fun _ _ _ h => h) (Or.inl ⟨by rfl, fun w _ => by go_simp⟩) hHeld ?_
  simp only [Act.put, List.setIfInBounds_toArray, List.set_cons_zero, List.set_cons_succ]
  refine wpAnyH_take (i := 14) (oi := ⟨some 19, .fieldAddr 86 (.tmp 18) 0, _, _, _, none⟩) (v := .pointer (some ⟨B, 0, none⟩)) rfl (by kernel_rfl) (by kernel_rfl) (by kernel_rfl) (fun _ _ _ h => h) (Or.inl ⟨by rfl, fun w _ => by go_simp⟩) hHeld ?_
  simp only [Act.put, List.setIfInBounds_toArray, List.set_cons_zero, List.set_cons_succ]
  refine wpAnyH_take (i := 15) (oi := ⟨some 20, .fieldAddr 26 (.tmp 19) 1, _, _, _, none⟩) (v := .pointer (some ⟨B, 1, none⟩)) rfl (by kernel_rfl) (by kernel_rfl) (by kernel_rfl) (fun _ _ _ h => h) (Or.inl ⟨by rfl, fun w _ => by go_simp⟩) hHeld ?_
  simp only [Act.put, List.setIfInBounds_toArray, List.set_cons_zero, List.set_cons_succ]
  refine wpAnyH_take (i := 16) (oi := ⟨some 21, .indexAddr 23 (.tmp 20) (.tmp 17), _, _, _, none⟩) (v := .pointer (some ((⟨B, 1, none⟩ : Addr).add k))) rfl (by kernel_rfl) (by kernel_rfl) (by kernel_rfl) (fun _ _ _ h => h) (Or.inl ⟨by rfl, fun w _ => by go_simp⟩) hHeld ?_
  simp only [Act.put, List.setIfInBounds_toArray, List.set_cons_zero, List.set_cons_succ]
  refine wpAnyH_take (i := 17) (oi := ⟨some 22, .load 22 (.tmp 21), _, _, _, none⟩) (v := .int .u32 y) rfl (by kernel_rfl) (by kernel_rfl) (by kernel_rfl) (fun _ _ _ h => h) (Or.inl ⟨by rfl, fun w hSw => by have e1 := hSw.2.2; clear hSw; go_simp⟩) hHeld ?_
  simp only [Act.put, List.setIfInBounds_toArray, List.set_cons_zero, List.set_cons_succ]
  refine wpAnyH_ready (rs := [6]) (by kernel_rfl) (by simp) (AllReadyH.cons (o := ⟨some 11, .call { callee := .value (.func 141), args := #[.tmp 10], argTypes := #[147] }, _, _, _, none⟩) rfl (fun K' hK => ?_) (AllReadyH.nil))
  go_simp
  refine (HB.out _ l0).mono ?_
  rintro e w1 ⟨rfl, l1⟩
  replace l0 := Later.trans_ l0 l1
  refine hK.out _ _ (HC.out _ l0) (fun hHeld => ?_)
  clear hK K'
  try simp only [Act.put, List.setIfInBounds_toArray, List.set_cons_zero, List.set_cons_succ]
  refine wpAnyH_ready (rs := [18]) (by kernel_rfl) (by simp) (AllReadyH.cons (o := ⟨some 23, .call { callee := .value (.func 28), args := #[.tmp 9, .tmp 11, .tmp 22], argTypes := #[3, 22, 22] }, _, _, _, none⟩) rfl (fun K' hK => ?_) (AllReadyH.nil))
  go_simp
  refine (HD.out _).mono ?_
  rintro e w2 ⟨rfl, l2⟩
  replace l0 := Later.trans_ l0 l2
  refine hK.out _ _ (HC.out _ l0) (fun hHeld => ?_)
  clear hK K'
  try simp only [Act.put, List.setIfInBounds_toArray, List.set_cons_zero, List.set_cons_succ]
  refine wpAnyH_take (i := 19) (oi := ⟨some 4, .move (.tmp 23), _, _, _, none⟩) (v := .tuple #[.int .u32 r, .int .i64 er]) rfl (by kernel_rfl) (by kernel_rfl) (by kernel_rfl) (fun _ _ _ h => h) (Or.inl ⟨by rfl, fun _ _ => rfl⟩) hHeld ?_
  simp only [Act.put, List.setIfInBounds_toArray, List.set_cons_zero, List.set_cons_succ]
  refine wpAnyH_take (i := 20) (oi := ⟨some 24, .extract (.tmp 4) 0, _, _, _, none⟩) (v := .int .u32 r) rfl (by kernel_rfl) (by kernel_rfl) (by kernel_rfl) (fun _ _ _ h => h) (Or.inl ⟨by rfl, fun w _ => by go_simp⟩) hHeld ?_
  simp only [Act.put, List.setIfInBounds_toArray, List.set_cons_zero, List.set_cons_succ]
  refine wpAnyH_take (i := 21) (oi := ⟨some 25, .extract (.tmp 4) 1, _, _, _, none⟩) (v := .int .i64 er) rfl (by kernel_rfl) (by kernel_rfl) (by kernel_rfl) (fun _ _ _ h => h) (Or.inl ⟨by rfl, fun w _ => by go_simp⟩) hHeld ?_
  simp only [Act.put, List.setIfInBounds_toArray, List.set_cons_zero, List.set_cons_succ]
  refine wpAnyH_take (i := 22) (oi := ⟨some 2, .assign (.tmp 24), _, _, _, none⟩) (v := .int .u32 r) rfl (by kernel_rfl) (by kernel_rfl) (by kernel_rfl) (fun _ _ _ h => h) (Or.inl ⟨by rfl, fun _ _ => rfl⟩) hHeld ?_
  simp only [Act.put, List.setIfInBounds_toArray, List.set_cons_zero, List.set_cons_succ]
  refine wpAnyH_take (i := 23) (oi := ⟨some 3, .assign (.tmp 25), _, _, _, none⟩) (v := .int .i64 er) rfl (by kernel_rfl) (by kernel_rfl) (by kernel_rfl) (fun _ _ _ h => h) (Or.inl ⟨by rfl, fun _ _ => rfl⟩) hHeld ?_
  simp only [Act.put, List.setIfInBounds_toArray, List.set_cons_zero, List.set_cons_succ]
  refine wpAnyH_done (by kernel_rfl) ?_ _
  clear hHeld
  go_wp2_with (go_at_call 142; refine (HP.out _ l0 _).mono ?_; rintro e w2 ⟨rfl, hA, hS⟩)
  go_end0
  exact ⟨rfl, hA, (St.later _ hlt l0).trans hS⟩
theorem ins5 {w' : World} {B : Nat} {s : Sp} (h : Blk w' B 86 s.cells) : w'.cell? ⟨B, 32, none⟩ = some (.int .i64 s.io) ∧ w'.cell? ⟨B, 33, none⟩ = some (.int .i64 s.ia) ∧ w'.cell? ⟨B, 34, none⟩ = some (.int .i64 s.ib) ∧ w'.cell? ⟨B, 35, none⟩ = some (.int .i64 s.ic) ∧ w'.cell? ⟨B, 36, none⟩ = some (.int .i64 s.im) ∧ True := ⟨h.cell (j := 32) rfl, h.cell (j := 33) rfl, h.cell (j := 34) rfl, h.cell (j := 35) rfl, h.cell (j := 36) rfl, trivial⟩
set_option maxRecDepth 100000 in
set_option maxHeartbeats 2000000 in
theorem jump_any {base : Nat} {w : World} {B : Nat} {s : Sp} {A : Option Addr} {n c : Nat} {ws : List (Int × Int × Int)} {ac : List (Int × Int × Bool)} {b : Wm.Bs} (h : At base w B s A n c ws ac b) (hr : Im.Right s.ins) (tab : Tab w) : Calls Tryz.prog 174 #[.pointer (some ⟨B, 0, none⟩)] w fun e w' => e = .returned (.tuple #[]) ∧ At base w' B { s with c := { s.c with pc := targI s.old.pc s.ins } } A n c ws ac b ∧ St base B w s w' { s with c := { s.c with pc := targI s.old.pc s.ins } } := by
  have HH := Lib.hid fun w' (h : Blk w' B 86 s.cells) => here_any h
  have HT := Lib.hid fun w' (l : Later w w') => (show Calls Tryz.prog 186 #[.int .u32 s.old.pc, .agg #[.int .i64 s.io, .int .i64 s.ia, .int .i64 s.ib, .int .i64 s.ic, .int .i64 s.im]] w' _ from target_any s.old.pc s.ins hr w' (tab.keep l))
  have l0 : Later w w.drew := Below.drew (later0 _)
  have h0 := h.later l0
  have hlt := h.lt
  obtain ⟨q, hq⟩ : ∃ q, q = targI s.old.pc s.ins := ⟨_, rfl⟩
  obtain ⟨t, ht⟩ : ∃ q, q = isT s.ins.op := ⟨_, rfl⟩
  obtain ⟨p0, hp⟩ : ∃ q, q = s.old.pc := ⟨_, rfl⟩
  rw [← hq, ← ht, ← hp] at HT
  rw [← hq]
  rw [← hp] at HH
  clear h hr tab hq ht hp
  go_enter Tryz.func174, Tryz.ntmps174
  go_wp2
  refine wp_region_held_drew (S := fun w' => w'.cell? ⟨B, 32, none⟩ = some (.int .i64 s.io) ∧ w'.cell? ⟨B, 33, none⟩ = some (.int .i64 s.ia) ∧ w'.cell? ⟨B, 34, none⟩ = some (.int .i64 s.ib) ∧ w'.cell? ⟨B, 35, none⟩ = some (.int .i64 s.ic) ∧ w'.cell? ⟨B, 36, none⟩ = some (.int .i64 s.im) ∧ True) (by kernel_rfl) (ins5 h0.bx) (fun hHeld => ?_)
  refine wpAnyH_take (i := 0) (oi := ⟨some 3, .move (.tmp 0), _, _, _, none⟩) (v := .pointer (some ⟨B, 0, none⟩)) rfl (by kernel_rfl) (by kernel_rfl) (by kernel_rfl) (fun _ _ _ h => h) (Or.inl ⟨by rfl, fun _ _ => rfl⟩) hHeld ?_
  simp only [Act.put, List.setIfInBounds_toArray, List.set_cons_zero, List.set_cons_succ]
  refine wpAnyH_take (i := 1) (oi := ⟨some 4, .move (.tmp 0), _, _, _, none⟩) (v := .pointer (some ⟨B, 0, none⟩)) rfl (by kernel_rfl) (by kernel_rfl) (by kernel_rfl) (fun _ _ _ h => h) (Or.inl ⟨by rfl, fun _ _ => rfl⟩) hHeld ?_
  simp only [Act.put, List.setIfInBounds_toArray, List.set_cons_zero, List.set_cons_succ]
  refine wpAnyH_take (i := 3) (oi := ⟨some 6, .move (.tmp 0), _, _, _, none⟩) (v := .pointer (some ⟨B, 0, none⟩)) rfl (by kernel_rfl) (by kernel_rfl) (by kernel_rfl) (fun _ _ _ h => h) (Or.inl ⟨by rfl, fun _ _ => rfl⟩) hHeld ?_
  simp only [Act.put, List.setIfInBounds_toArray, List.set_cons_zero, List.set_cons_succ]
  refine wpAnyH_take (i := 4) (oi := ⟨some 7, .nilCheck (.tmp 6), _, _, _, none⟩) (v := .pointer (some ⟨B, 0, none⟩)) rfl (by kernel_rfl) (by kernel_rfl) (by kernel_rfl) (fun _ _ _ h => h) (Or.inl ⟨by rfl, fun w _ => by go_simp⟩) hHeld ?_
  simp only [Act.put, List.setIfInBounds_toArray, List.set_cons_zero, List.set_cons_succ]
  refine wpAnyH_take (i := 5) (oi := ⟨some 8, .fieldAddr 86 (.tmp 7) 3, _, _, _, none⟩) (v := .pointer (some ⟨B, 32, none⟩)) rfl (by kernel_rfl) (by kernel_rfl) (by kernel_rfl) (fun _ _ _ h => h) (Or.inl ⟨by rfl, fun w _ => by go_simp⟩) hHeld ?_
  simp only [Act.put, List.setIfInBounds_toArray, List.set_cons_zero, List.set_cons_succ]
  refine wpAnyH_take (i := 6) (oi := ⟨some 9, .load 70 (.tmp 8), _, _, _, none⟩) (v := .agg #[.int .i64 s.io, .int .i64 s.ia, .int .i64 s.ib, .int .i64 s.ic, .int .i64 s.im]) rfl (by kernel_rfl) (by kernel_rfl) (by kernel_rfl) (fun _ _ _ h => h) (Or.inl ⟨by rfl, fun w hSw => by obtain ⟨e0, e1, e2, e3, e4, _⟩ := hSw; go_simp⟩) hHeld ?_
  simp only [Act.put, List.setIfInBounds_toArray, List.set_cons_zero, List.set_cons_succ]
  refine wpAnyH_ready (rs := [2]) (by kernel_rfl) (by simp) (AllReadyH.cons (o := ⟨some 5, .call { callee := .value (.func 115), args := #[.tmp 4], argTypes := #[147] }, _, _, _, none⟩) rfl (fun K' hK => ?_) AllReadyH.nil)
  go_simp
  refine (HH.out _ h0.bx).mono ?_
  rintro e w1 ⟨rfl, rfl⟩
  refine hK.out _ _ (ins5 h0.bx) (fun hHeld => ?_)
  clear hK K'
  try simp only [Act.put, List.setIfInBounds_toArray, List.set_cons_zero, List.set_cons_succ]
  refine wpAnyH_ready (rs := [7]) (by kernel_rfl) (by simp) (AllReadyH.cons (o := ⟨some 10, .call { callee := .value (.func 186), args := #[.tmp 5, .tmp 9], argTypes := #[22, 70] }, _, _, _, none⟩) rfl (fun K' hK => ?_) AllReadyH.nil)
  go_simp
  refine (HT.out _ l0).mono ?_
  rintro e w2 ⟨rfl, l2⟩
  replace h0 := h0.later l2
  have e9 := h0.bx.cell (j := 0) (v := .int .u32 s.c.pc) rfl
  have f9 := h0.bx.frz 0
  obtain ⟨h3, S3⟩ := h0.set (s' := { s with c := { s.c with pc := q } }) 0 (.int .u32 q) rfl rfl rfl rfl
  replace l0 := Later.trans_ l0 l2
  clear HH HT
  refine hK.out _ _ (ins5 h0.bx) (fun hHeld => ?_)
  clear hK K'
  try simp only [Act.put, List.setIfInBounds_toArray, List.set_cons_zero, List.set_cons_succ]
  refine wpAnyH_take (i := 8) (oi := ⟨some 2, .move (.tmp 10), _, _, _, none⟩) (v := .tuple #[.int .u32 q, .bool t]) rfl (by kernel_rfl) (by kernel_rfl) (by kernel_rfl) (fun _ _ _ h => h) (Or.inl ⟨by rfl, fun _ _ => rfl⟩) hHeld ?_
  simp only [Act.put, List.setIfInBounds_toArray, List.set_cons_zero, List.set_cons_succ]
  refine wpAnyH_take (i := 9) (oi := ⟨some 11, .extract (.tmp 2) 0, _, _, _, none⟩) (v := .int .u32 q) rfl (by kernel_rfl) (by kernel_rfl) (by kernel_rfl) (fun _ _ _ h => h) (Or.inl ⟨by rfl, fun w _ => by go_simp⟩) hHeld ?_
  simp only [Act.put, List.setIfInBounds_toArray, List.set_cons_zero, List.set_cons_succ]
  refine wpAnyH_take (i := 10) (oi := ⟨some 12, .extract (.tmp 2) 1, _, _, _, none⟩) (v := .bool t) rfl (by kernel_rfl) (by kernel_rfl) (by kernel_rfl) (fun _ _ _ h => h) (Or.inl ⟨by rfl, fun w _ => by go_simp⟩) hHeld ?_
  simp only [Act.put, List.setIfInBounds_toArray, List.set_cons_zero, List.set_cons_succ]
  refine wpAnyH_take (i := 11) (oi := ⟨some 13, .nilCheck (.tmp 3), _, _, _, none⟩) (v := .pointer (some ⟨B, 0, none⟩)) rfl (by kernel_rfl) (by kernel_rfl) (by kernel_rfl) (fun _ _ _ h => h) (Or.inl ⟨by rfl, fun w _ => by go_simp⟩) hHeld ?_
  simp only [Act.put, List.setIfInBounds_toArray, List.set_cons_zero, List.set_cons_succ]
  refine wpAnyH_take (i := 12) (oi := ⟨some 14, .fieldAddr 86 (.tmp 13) 0, _, _, _, none⟩) (v := .pointer (some ⟨B, 0, none⟩)) rfl (by kernel_rfl) (by kernel_rfl) (by kernel_rfl) (fun _ _ _ h => h) (Or.inl ⟨by rfl, fun w _ => by go_simp⟩) hHeld ?_
  simp only [Act.put, List.setIfInBounds_toArray, List.set_cons_zero, List.set_cons_succ]
  refine wpAnyH_take (i := 13) (oi := ⟨some 15, .fieldAddr 26 (.tmp 14) 0, _, _, _, none⟩) (v := .pointer (some ⟨B, 0, none⟩)) rfl (by kernel_rfl) (by kernel_rfl) (by kernel_rfl) (fun _ _ _ h => h) (Or.inl ⟨by rfl, fun w _ => by go_simp⟩) hHeld ?_
  simp only [Act.put, List.setIfInBounds_toArray, List.set_cons_zero, List.set_cons_succ]
  refine wpAnyH_ready (rs := [14]) (by kernel_rfl) (by simp) (AllReadyH.cons (o := ⟨none, .store 22 (.tmp 15) (.tmp 11), _, _, _, none⟩) rfl (fun K' hK => ?_) AllReadyH.nil)
  go_simp
  have h4 := h3.bx
  refine hK.out _ _ (by have e := ins5 h4; exact e) (fun hHeld => ?_)
  clear hK K'
  try simp only [Act.put, List.setIfInBounds_toArray, List.set_cons_zero, List.set_cons_succ]
  refine wpAnyH_done (by kernel_rfl) ?_ _
  clear hHeld
  go_wp2
  go_end0
  exact ⟨rfl, h3, (St.later _ hlt l0).trans S3⟩
set_option maxRecDepth 100000 in
set_option maxHeartbeats 2000000 in
theorem jal_any {base : Nat} {w : World} {B : Nat} {s : Sp} {A : Option Addr} {n c : Nat} {ws : List (Int × Int × Int)} {ac : List (Int × Int × Bool)} {b : Wm.Bs} (h : At base w B s A n c ws ac b) (hr : Im.Right s.ins) (tab : Tab w) (h0 : 0 < base) : Calls Tryz.prog 157 #[.pointer (some ⟨B, 0, none⟩)] w fun e w' => e = .returned (.tuple #[]) ∧ At base w' B { s with c := ({ s.c with pc := targI s.old.pc s.ins } : Cpu).putR s.ins s.c.pc } A n c ws ac b ∧ St base B w s w' { s with c := ({ s.c with pc := targI s.old.pc s.ins } : Cpu).putR s.ins s.c.pc } := by
  have HJ := Lib.hid (jump_any h hr tab)
  have e0 := h.bx.cell (j := 0) (v := .int .u32 s.c.pc) rfl
  have HP := Lib.hid fun w' (l : Below base w w') s' x (h' : At base w' B s' A n c ws ac b) (e : s'.ins = s.ins) => put_any h' (e ▸ hr) (tab.below h0 l) x
  clear h hr tab
  go_enter Tryz.func157, Tryz.ntmps157
  go_wp2_with (first
    | (go_at_call 174; refine HJ.out.mono ?_; rintro e w1 ⟨rfl, h2, S2⟩)
    | (go_at_call 142; refine (HP.out _ S2.lt _ _ h2 rfl).mono ?_; rintro e w2 ⟨rfl, hA, hS⟩))
  go_end0
  exact ⟨rfl, hA, S2.trans hS⟩
set_option maxRecDepth 100000 in
set_option maxHeartbeats 2000000 in
theorem branch_any {base : Nat} {w : World} {B : Nat} {s : Sp} {A : Option Addr} {n c : Nat} {ws : List (Int × Int × Int)} {ac : List (Int × Int × Bool)} {b : Wm.Bs} (h : At base w B s A n c ws ac b) (hr : Im.Right s.ins) (tab : Tab w) (hv : s.c.Rv) : Calls Tryz.prog 156 #[.pointer (some ⟨B, 0, none⟩)] w fun e w' => e = .returned (.tuple #[]) ∧ At base w' B { s with c := if Al.T s.io (s.c.rg s.ia) (s.c.rg s.ib) = true then { s.c with pc := targI s.old.pc s.ins } else s.c } A n c ws ac b ∧ St base B w s w' { s with c := if Al.T s.io (s.c.rg s.ia) (s.c.rg s.ib) = true then { s.c with pc := targI s.old.pc s.ins } else s.c } := by
  have hka : 0 ≤ s.ia ∧ s.ia < 16 := hr.2.2.1
  have hkb : 0 ≤ s.ib ∧ s.ib < 16 := hr.2.2.2.1
  have va := hv s.ia.toNat (by omega)
  have vb := hv s.ib.toNat (by omega)
  have HA := Lib.hid fun w' (l : Later w w') => a_at (h.bx.keep l) hr
  have HB := Lib.hid fun w' (l : Later w w') => b_at (h.bx.keep l) hr
  have HC := Lib.hid fun w' (l : Later w w') => (h.bx.keep l).cell (j := 32) (v := .int .i64 s.io) rfl
  have HD := Lib.hid fun w' => tk_any (w := w') (b := s.c.rg s.ia) (c := s.c.rg s.ib) va.1 va.2 vb.1 vb.2 s.io
  have HJ := Lib.hid fun w' (l : Later w w') => jump_any (h.later l) hr (tab.keep l)
  have H0 := Lib.hid fun w' (l : Later w w') => h.later l
  have hlt := h.lt
  obtain ⟨tk, htk⟩ : ∃ r, r = Al.T s.io (s.c.rg s.ia) (s.c.rg s.ib) := ⟨_, rfl⟩
  rw [← htk] at HD
  rw [← htk]
  obtain ⟨op, hop⟩ : ∃ x, x = s.io := ⟨_, rfl⟩
  obtain ⟨x, hx⟩ : ∃ x, x = s.c.rg s.ia := ⟨_, rfl⟩
  obtain ⟨y, hy⟩ : ∃ x, x = s.c.rg s.ib := ⟨_, rfl⟩
  rw [← hop, ← hx, ← hy] at HD
  rw [← hx] at HA
  rw [← hy] at HB
  rw [← hop] at HC
  have l0 : Later w w.drew := Below.drew (later0 _)
  clear h hr tab hv hka hkb va vb htk hop hx hy
  cases tk with
  | true =>
    rw [if_pos rfl]
    go_enter Tryz.func156, Tryz.ntmps156
    go_wp2
    refine wp_region_held_drew (S := fun w' => w'.cell? ⟨B, 32, none⟩ = some (.int .i64 op)) (by kernel_rfl) (HC.out _ l0) (fun hHeld => ?_)
    refine wpAnyH_take (i := 0) (oi := ⟨some 2, .move (.tmp 0), _, _, _, none⟩) (v := .pointer (some ⟨B, 0, none⟩)) rfl (by kernel_rfl) (by kernel_rfl) (by kernel_rfl) (fun _ _ _ h => h) (Or.inl ⟨by rfl, fun _ _ => rfl⟩) hHeld ?_
    simp only [Act.put, List.setIfInBounds_toArray, List.set_cons_zero, List.set_cons_succ]
    refine wpAnyH_take (i := 1) (oi := ⟨some 3, .nilCheck (.tmp 2), _, _, _, none⟩) (v := .pointer (some ⟨B, 0, none⟩)) rfl (by kernel_rfl) (by kernel_rfl) (by kernel_rfl) (fun _ _ _ h => h) (Or.inl ⟨by rfl, fun w _ => by go_simp⟩) hHeld ?_
    simp only [Act.put, List.setIfInBounds_toArray, List.set_cons_zero, List.set_cons_succ]
    refine wpAnyH_take (i := 2) (oi := ⟨some 4, .fieldAddr 86 (.tmp 3) 3, _, _, _, none⟩) (v := .pointer (some ⟨B, 32, none⟩)) rfl (by kernel_rfl) (by kernel_rfl) (by kernel_rfl) (fun _ _ _ h => h) (Or.inl ⟨by rfl, fun w _ => by go_simp⟩) hHeld ?_
    simp only [Act.put, List.setIfInBounds_toArray, List.set_cons_zero, List.set_cons_succ]
    refine wpAnyH_take (i := 3) (oi := ⟨some 5, .fieldAddr 70 (.tmp 4) 0, _, _, _, none⟩) (v := .pointer (some ⟨B, 32, none⟩)) rfl (by kernel_rfl) (by kernel_rfl) (by kernel_rfl) (fun _ _ _ h => h) (Or.inl ⟨by rfl, fun w _ => by go_simp⟩) hHeld ?_
    simp only [Act.put, List.setIfInBounds_toArray, List.set_cons_zero, List.set_cons_succ]
    refine wpAnyH_take (i := 4) (oi := ⟨some 6, .load 3 (.tmp 5), _, _, _, none⟩) (v := .int .i64 op) rfl (by kernel_rfl) (by kernel_rfl) (by kernel_rfl) (fun _ _ _ h => h) (Or.inl ⟨by rfl, fun w hSw => by have e1 := hSw; clear hSw; go_simp⟩) hHeld ?_
    simp only [Act.put, List.setIfInBounds_toArray, List.set_cons_zero, List.set_cons_succ]
    refine wpAnyH_take (i := 5) (oi := ⟨some 7, .move (.tmp 0), _, _, _, none⟩) (v := .pointer (some ⟨B, 0, none⟩)) rfl (by kernel_rfl) (by kernel_rfl) (by kernel_rfl) (fun _ _ _ h => h) (Or.inl ⟨by rfl, fun _ _ => rfl⟩) hHeld ?_
    simp only [Act.put, List.setIfInBounds_toArray, List.set_cons_zero, List.set_cons_succ]
    refine wpAnyH_take (i := 7) (oi := ⟨some 9, .move (.tmp 0), _, _, _, none⟩) (v := .pointer (some ⟨B, 0, none⟩)) rfl (by kernel_rfl) (by kernel_rfl) (by kernel_rfl) (fun _ _ _ h => h) (Or.inl ⟨by rfl, fun _ _ => rfl⟩) hHeld ?_
    simp only [Act.put, List.setIfInBounds_toArray, List.set_cons_zero, List.set_cons_succ]
    refine wpAnyH_ready (rs := [6]) (by kernel_rfl) (by simp) (AllReadyH.cons (o := ⟨some 8, .call { callee := .value (.func 169), args := #[.tmp 7], argTypes := #[147] }, _, _, _, none⟩) rfl (fun K' hK => ?_) (AllReadyH.nil))
    go_simp
    refine (HA.out _ l0).mono ?_
    rintro e w1 ⟨rfl, l1⟩
    replace l0 := Later.trans_ l0 l1
    refine hK.out _ _ (HC.out _ l0) (fun hHeld => ?_)
    clear hK K'
    try simp only [Act.put, List.setIfInBounds_toArray, List.set_cons_zero, List.set_cons_succ]
    refine wpAnyH_ready (rs := [8]) (by kernel_rfl) (by simp) (AllReadyH.cons (o := ⟨some 10, .call { callee := .value (.func 141), args := #[.tmp 9], argTypes := #[147] }, _, _, _, none⟩) rfl (fun K' hK => ?_) (AllReadyH.nil))
    go_simp
    refine (HB.out _ l0).mono ?_
    rintro e w1 ⟨rfl, l1⟩
    replace l0 := Later.trans_ l0 l1
    refine hK.out _ _ (HC.out _ l0) (fun hHeld => ?_)
    clear hK K'
    try simp only [Act.put, List.setIfInBounds_toArray, List.set_cons_zero, List.set_cons_succ]
    refine wpAnyH_ready (rs := [9]) (by kernel_rfl) (by simp) (AllReadyH.cons (o := ⟨some 11, .call { callee := .value (.func 173), args := #[.tmp 6, .tmp 8, .tmp 10], argTypes := #[3, 22, 22] }, _, _, _, none⟩) rfl (fun K' hK => ?_) (AllReadyH.nil))
    go_simp
    refine (HD.out _).mono ?_
    rintro e w2 ⟨rfl, l2⟩
    replace l0 := Later.trans_ l0 l2
    refine hK.out _ _ (HC.out _ l0) (fun hHeld => ?_)
    clear hK K'
    try simp only [Act.put, List.setIfInBounds_toArray, List.set_cons_zero, List.set_cons_succ]
    refine wpAnyH_done (by kernel_rfl) ?_ _
    clear hHeld
    go_wp2_with (go_at_call 174; refine (HJ.out _ l0).mono ?_; rintro e w2 ⟨rfl, hA, hS⟩)
    go_end0
    exact ⟨rfl, hA, (St.later _ hlt l0).trans hS⟩
  | false =>
    rw [if_neg (by decide)]
    go_enter Tryz.func156, Tryz.ntmps156
    go_wp2
    refine wp_region_held_drew (S := fun w' => w'.cell? ⟨B, 32, none⟩ = some (.int .i64 op)) (by kernel_rfl) (HC.out _ l0) (fun hHeld => ?_)
    refine wpAnyH_take (i := 0) (oi := ⟨some 2, .move (.tmp 0), _, _, _, none⟩) (v := .pointer (some ⟨B, 0, none⟩)) rfl (by kernel_rfl) (by kernel_rfl) (by kernel_rfl) (fun _ _ _ h => h) (Or.inl ⟨by rfl, fun _ _ => rfl⟩) hHeld ?_
    simp only [Act.put, List.setIfInBounds_toArray, List.set_cons_zero, List.set_cons_succ]
    refine wpAnyH_take (i := 1) (oi := ⟨some 3, .nilCheck (.tmp 2), _, _, _, none⟩) (v := .pointer (some ⟨B, 0, none⟩)) rfl (by kernel_rfl) (by kernel_rfl) (by kernel_rfl) (fun _ _ _ h => h) (Or.inl ⟨by rfl, fun w _ => by go_simp⟩) hHeld ?_
    simp only [Act.put, List.setIfInBounds_toArray, List.set_cons_zero, List.set_cons_succ]
    refine wpAnyH_take (i := 2) (oi := ⟨some 4, .fieldAddr 86 (.tmp 3) 3, _, _, _, none⟩) (v := .pointer (some ⟨B, 32, none⟩)) rfl (by kernel_rfl) (by kernel_rfl) (by kernel_rfl) (fun _ _ _ h => h) (Or.inl ⟨by rfl, fun w _ => by go_simp⟩) hHeld ?_
    simp only [Act.put, List.setIfInBounds_toArray, List.set_cons_zero, List.set_cons_succ]
    refine wpAnyH_take (i := 3) (oi := ⟨some 5, .fieldAddr 70 (.tmp 4) 0, _, _, _, none⟩) (v := .pointer (some ⟨B, 32, none⟩)) rfl (by kernel_rfl) (by kernel_rfl) (by kernel_rfl) (fun _ _ _ h => h) (Or.inl ⟨by rfl, fun w _ => by go_simp⟩) hHeld ?_
    simp only [Act.put, List.setIfInBounds_toArray, List.set_cons_zero, List.set_cons_succ]
    refine wpAnyH_take (i := 4) (oi := ⟨some 6, .load 3 (.tmp 5), _, _, _, none⟩) (v := .int .i64 op) rfl (by kernel_rfl) (by kernel_rfl) (by kernel_rfl) (fun _ _ _ h => h) (Or.inl ⟨by rfl, fun w hSw => by have e1 := hSw; clear hSw; go_simp⟩) hHeld ?_
    simp only [Act.put, List.setIfInBounds_toArray, List.set_cons_zero, List.set_cons_succ]
    refine wpAnyH_take (i := 5) (oi := ⟨some 7, .move (.tmp 0), _, _, _, none⟩) (v := .pointer (some ⟨B, 0, none⟩)) rfl (by kernel_rfl) (by kernel_rfl) (by kernel_rfl) (fun _ _ _ h => h) (Or.inl ⟨by rfl, fun _ _ => rfl⟩) hHeld ?_
    simp only [Act.put, List.setIfInBounds_toArray, List.set_cons_zero, List.set_cons_succ]
    refine wpAnyH_take (i := 7) (oi := ⟨some 9, .move (.tmp 0), _, _, _, none⟩) (v := .pointer (some ⟨B, 0, none⟩)) rfl (by kernel_rfl) (by kernel_rfl) (by kernel_rfl) (fun _ _ _ h => h) (Or.inl ⟨by rfl, fun _ _ => rfl⟩) hHeld ?_
    simp only [Act.put, List.setIfInBounds_toArray, List.set_cons_zero, List.set_cons_succ]
    refine wpAnyH_ready (rs := [6]) (by kernel_rfl) (by simp) (AllReadyH.cons (o := ⟨some 8, .call { callee := .value (.func 169), args := #[.tmp 7], argTypes := #[147] }, _, _, _, none⟩) rfl (fun K' hK => ?_) (AllReadyH.nil))
    go_simp
    refine (HA.out _ l0).mono ?_
    rintro e w1 ⟨rfl, l1⟩
    replace l0 := Later.trans_ l0 l1
    refine hK.out _ _ (HC.out _ l0) (fun hHeld => ?_)
    clear hK K'
    try simp only [Act.put, List.setIfInBounds_toArray, List.set_cons_zero, List.set_cons_succ]
    refine wpAnyH_ready (rs := [8]) (by kernel_rfl) (by simp) (AllReadyH.cons (o := ⟨some 10, .call { callee := .value (.func 141), args := #[.tmp 9], argTypes := #[147] }, _, _, _, none⟩) rfl (fun K' hK => ?_) (AllReadyH.nil))
    go_simp
    refine (HB.out _ l0).mono ?_
    rintro e w1 ⟨rfl, l1⟩
    replace l0 := Later.trans_ l0 l1
    refine hK.out _ _ (HC.out _ l0) (fun hHeld => ?_)
    clear hK K'
    try simp only [Act.put, List.setIfInBounds_toArray, List.set_cons_zero, List.set_cons_succ]
    refine wpAnyH_ready (rs := [9]) (by kernel_rfl) (by simp) (AllReadyH.cons (o := ⟨some 11, .call { callee := .value (.func 173), args := #[.tmp 6, .tmp 8, .tmp 10], argTypes := #[3, 22, 22] }, _, _, _, none⟩) rfl (fun K' hK => ?_) (AllReadyH.nil))
    go_simp
    refine (HD.out _).mono ?_
    rintro e w2 ⟨rfl, l2⟩
    replace l0 := Later.trans_ l0 l2
    refine hK.out _ _ (HC.out _ l0) (fun hHeld => ?_)
    clear hK K'
    try simp only [Act.put, List.setIfInBounds_toArray, List.set_cons_zero, List.set_cons_succ]
    refine wpAnyH_done (by kernel_rfl) ?_ _
    clear hHeld
    go_wp2
    go_end0
    exact ⟨rfl, H0.out _ l0, St.later _ hlt l0⟩
end Go.Proofs.YtidhodalnikhlaaGreatDoor
