/-
  load, put AND after OF a step.
-/
import Derived.Test.YtidhodalnikhlaaGreatDoorWb
namespace Go.Proofs.YtidhodalnikhlaaGreatDoor
open Go.RowKit Go.ChangeShapes Go.WideShapes Go.ChangeAt

set_option maxRecDepth 100000 in
set_option maxHeartbeats 2000000 in
theorem sload_any {base : Nat} {w : World} {B : Nat} {s : Sp} {A : Option Addr} {n c : Nat} {ws : List (Int × Int × Int)} {ac : List (Int × Int × Bool)} {b : Wm.Bs} (h : At base w B s A n c ws ac b) (hl : ac.length ≤ 1000) (hb : Wm.isBs b) (hn : n ≤ 64) (x z : Int) (hx : -9223372036854775808 ≤ x ∧ x ≤ 9223372036854775807) : Calls Tryz.prog 117 #[.pointer (some ⟨B, 0, none⟩), .int .i64 x, .int .i64 z] w fun e w' => e = .returned (.int .u32 (Mm.ld b x z)) ∧ ∃ v, At base w' B { s with av := v } A n c ws (ac ++ [(x, z, false)]) b ∧ St base B w s w' { s with av := v } := by
  have HT := Lib.hid (touch_any h hl x z false)
  have HL := Lib.hid fun w' (hs : Sl w' 128 A n (U b)) => load_any A n c x z b w' hs hb h.hn hn hx
  clear h hb hn hx
  obtain ⟨r, hr⟩ : ∃ r, r = Mm.ld b x z := ⟨_, rfl⟩
  rw [← hr] at HL ⊢
  clear hr
  go_enter Tryz.func117, Tryz.ntmps117
  go_wp2_with (first
    | (go_at_call 139; refine HT.out.mono ?_; rintro e w1 ⟨rfl, v, hA, hS⟩; have e0 := hA.bx.cell (j := 30) (v := .slice A n c) (by rw [← hA.hm]; rfl))
    | (go_at_call 23; refine (HL.out _ hA.sl).mono ?_; rintro e w2 ⟨rfl, l2⟩; have hA2 := hA.later l2; have hS2 := hS.trans (St.later _ hA.lt l2)))
  go_ret
  exact ⟨rfl, v, hA2, hS2⟩
def Cpu.setR (x : Cpu) (k : Nat) (v : Int) : Cpu := match k with
  | 0 => { x with r0 := v }
  | 1 => { x with r1 := v }
  | 2 => { x with r2 := v }
  | 3 => { x with r3 := v }
  | 4 => { x with r4 := v }
  | 5 => { x with r5 := v }
  | 6 => { x with r6 := v }
  | 7 => { x with r7 := v }
  | 8 => { x with r8 := v }
  | 9 => { x with r9 := v }
  | 10 => { x with r10 := v }
  | 11 => { x with r11 := v }
  | 12 => { x with r12 := v }
  | 13 => { x with r13 := v }
  | 14 => { x with r14 := v }
  | 15 => { x with r15 := v }
  | _ => x
theorem setR_cells (s : Sp) (k : Nat) (v : Int) (h : k < 16) : s.cells.set (1 + k) (.int .u32 v) = ({ s with c := s.c.setR k v } : Sp).cells := by
  rcases (show k = 0 ∨ k = 1 ∨ k = 2 ∨ k = 3 ∨ k = 4 ∨ k = 5 ∨ k = 6 ∨ k = 7 ∨ k = 8 ∨ k = 9 ∨ k = 10 ∨ k = 11 ∨ k = 12 ∨ k = 13 ∨ k = 14 ∨ k = 15 by omega) with rfl | rfl | rfl | rfl | rfl | rfl | rfl | rfl | rfl | rfl | rfl | rfl | rfl | rfl | rfl | rfl <;> rfl
/-- A register written, where an instruction writes one. -/
def Cpu.putR (x : Cpu) (i : Im.I) (v : Int) : Cpu := if writeI i = 0 then x else x.setR (writeI i).toNat v
theorem write_reg {i : Im.I} (h : Im.Right i) : 0 ≤ writeI i ∧ writeI i < 16 := by
  have ha := h.2.2.1
  unfold Im.reg at ha
  unfold writeI
  split
  · omega
  · split <;> omega
set_option maxRecDepth 100000 in
set_option maxHeartbeats 2000000 in
theorem cput_any {base : Nat} {w : World} {B : Nat} {s : Sp} {A : Option Addr} {n c : Nat} {ws : List (Int × Int × Int)} {ac : List (Int × Int × Bool)} {b : Wm.Bs} (h : At base w B s A n c ws ac b) (i : Im.I) (hr : Im.Right i) (tab : Tab w) (x : Int) : Calls Tryz.prog 49 #[.pointer (some ⟨B, 0, none⟩), .agg i.cells.toArray, .int .u32 x] w fun e w' => e = .returned (.tuple #[]) ∧ At base w' B { s with c := s.c.putR i x } A n c ws ac b ∧ St base B w s w' { s with c := s.c.putR i x } := by
  have HW := Lib.hid fun w' (hl : Later w w') => writes_any i hr w' (tab.keep hl)
  obtain ⟨k0, k1⟩ := write_reg hr
  unfold Cpu.putR
  obtain ⟨z, hz⟩ : ∃ z, z = writeI i := ⟨_, rfl⟩
  rw [← hz] at HW k0 k1 ⊢
  clear hz hr
  obtain ⟨op, a, b', c', im⟩ := i
  have l0 := later1 w (.cells #[.int .i64 op, .int .i64 a, .int .i64 b', .int .i64 c', .int .i64 im] 70)
  by_cases h0 : z = 0
  · have e0 : (z != 0) = false := by simpa using h0
    rw [if_pos h0]
    have H := Lib.hid h
    have hlt := h.lt
    clear h h0 k0 k1
    show Calls Tryz.prog 49 #[.pointer (some ⟨B, 0, none⟩), .agg #[.int .i64 op, .int .i64 a, .int .i64 b', .int .i64 c', .int .i64 im], .int .u32 x] w _
    go_enter Tryz.func49, Tryz.ntmps49
    go_wp2_with (go_at_call 95; refine (HW.out _ l0).mono ?_; rintro e w1 ⟨rfl, l1⟩)
    go_end0
    exact ⟨rfl, H.out.later (Later.trans_ l0 l1), St.later _ hlt (Later.trans_ l0 l1)⟩
  · have e0 : (z != 0) = true := by simpa using h0
    rw [if_neg h0]
    obtain ⟨k, rfl⟩ := Int.eq_ofNat_of_zero_le k0
    have h16 : k < 16 := by omega
    have H := Lib.hid h
    have hlt := h.lt
    clear h h0 k0
    show Calls Tryz.prog 49 #[.pointer (some ⟨B, 0, none⟩), .agg #[.int .i64 op, .int .i64 a, .int .i64 b', .int .i64 c', .int .i64 im], .int .u32 x] w _
    go_enter Tryz.func49, Tryz.ntmps49
    go_wp2_with (go_at_call 95; refine (HW.out _ l0).mono ?_; rintro e w1 ⟨rfl, l1⟩; have l2 := Later.trans_ l0 l1; have h2 := H.out.later l2; have c0 : w1.cell? ⟨B, 1 + k, none⟩ = some (.int .u32 (s.c.reg k)) := h2.bx.cell (reg_cell s k h16); have f0 := h2.bx.frz (1 + k))
    go_end0
    obtain ⟨q1, q2⟩ := h2.set (1 + k) (.int .u32 x) (setR_cells s k x h16) rfl rfl rfl
    exact ⟨rfl, q1, (St.later _ hlt l2).trans q2⟩
/-- The instruction of a step. -/
def Sp.ins (s : Sp) : Im.I := ⟨s.io, s.ia, s.ib, s.ic, s.im⟩
set_option maxRecDepth 100000 in
set_option maxHeartbeats 2000000 in
theorem put_any {base : Nat} {w : World} {B : Nat} {s : Sp} {A : Option Addr} {n c : Nat} {ws : List (Int × Int × Int)} {ac : List (Int × Int × Bool)} {b : Wm.Bs} (h : At base w B s A n c ws ac b) (hr : Im.Right s.ins) (tab : Tab w) (x : Int) : Calls Tryz.prog 142 #[.pointer (some ⟨B, 0, none⟩), .int .u32 x] w fun e w' => e = .returned (.tuple #[]) ∧ At base w' B { s with c := s.c.putR s.ins x } A n c ws ac b ∧ St base B w s w' { s with c := s.c.putR s.ins x } := by
  have l0 : Later w w.drew := Below.drew (later0 w)
  have HP := Lib.hid (cput_any (h.later l0) s.ins hr (tab.keep l0) x)
  have hS0 := St.later (B := B) s h.lt l0
  have e0 : w.drew.cell? ⟨B, 32, none⟩ = some (.int .i64 s.io) := h.bx.cell (j := 32) rfl
  have e1 : w.drew.cell? ⟨B, 33, none⟩ = some (.int .i64 s.ia) := h.bx.cell (j := 33) rfl
  have e2 : w.drew.cell? ⟨B, 34, none⟩ = some (.int .i64 s.ib) := h.bx.cell (j := 34) rfl
  have e3 : w.drew.cell? ⟨B, 35, none⟩ = some (.int .i64 s.ic) := h.bx.cell (j := 35) rfl
  have e4 : w.drew.cell? ⟨B, 36, none⟩ = some (.int .i64 s.im) := h.bx.cell (j := 36) rfl
  clear h tab
  go_enter Tryz.func142, Tryz.ntmps142
  go_wp2
  refine wp_region_held_drew (S := fun w' => w'.cell? ⟨B, 32, none⟩ = some (.int .i64 s.io) ∧ w'.cell? ⟨B, 33, none⟩ = some (.int .i64 s.ia) ∧ w'.cell? ⟨B, 34, none⟩ = some (.int .i64 s.ib) ∧ w'.cell? ⟨B, 35, none⟩ = some (.int .i64 s.ic) ∧ w'.cell? ⟨B, 36, none⟩ = some (.int .i64 s.im) ∧ True) (by kernel_rfl) ⟨e0, e1, e2, e3, e4, trivial⟩ (fun hHeld => ?_)
  refine wpAnyH_take (i := 0) (oi := ⟨some 4, .move (.tmp 0), _, _, _, none⟩) (v := .pointer (some ⟨B, 0, none⟩)) rfl (by kernel_rfl) (by kernel_rfl) (by kernel_rfl) (fun _ _ _ h => h) (Or.inl ⟨by rfl, fun _ _ => rfl⟩) hHeld ?_
  simp only [Act.put, List.setIfInBounds_toArray, List.set_cons_zero, List.set_cons_succ]
  refine wpAnyH_take (i := 1) (oi := ⟨some 5, .nilCheck (.tmp 4), _, _, _, none⟩) (v := .pointer (some ⟨B, 0, none⟩)) rfl (by kernel_rfl) (by kernel_rfl) (by kernel_rfl) (fun _ _ _ h => h) (Or.inl ⟨by rfl, fun w _ => by go_simp⟩) hHeld ?_
  simp only [Act.put, List.setIfInBounds_toArray, List.set_cons_zero, List.set_cons_succ]
  refine wpAnyH_take (i := 2) (oi := ⟨some 6, .fieldAddr 86 (.tmp 5) 0, _, _, _, none⟩) (v := .pointer (some ⟨B, 0, none⟩)) rfl (by kernel_rfl) (by kernel_rfl) (by kernel_rfl) (fun _ _ _ h => h) (Or.inl ⟨by rfl, fun w _ => by go_simp⟩) hHeld ?_
  simp only [Act.put, List.setIfInBounds_toArray, List.set_cons_zero, List.set_cons_succ]
  refine wpAnyH_take (i := 3) (oi := ⟨some 7, .move (.tmp 0), _, _, _, none⟩) (v := .pointer (some ⟨B, 0, none⟩)) rfl (by kernel_rfl) (by kernel_rfl) (by kernel_rfl) (fun _ _ _ h => h) (Or.inl ⟨by rfl, fun _ _ => rfl⟩) hHeld ?_
  simp only [Act.put, List.setIfInBounds_toArray, List.set_cons_zero, List.set_cons_succ]
  refine wpAnyH_take (i := 4) (oi := ⟨some 8, .nilCheck (.tmp 7), _, _, _, none⟩) (v := .pointer (some ⟨B, 0, none⟩)) rfl (by kernel_rfl) (by kernel_rfl) (by kernel_rfl) (fun _ _ _ h => h) (Or.inl ⟨by rfl, fun w _ => by go_simp⟩) hHeld ?_
  simp only [Act.put, List.setIfInBounds_toArray, List.set_cons_zero, List.set_cons_succ]
  refine wpAnyH_take (i := 5) (oi := ⟨some 9, .fieldAddr 86 (.tmp 8) 3, _, _, _, none⟩) (v := .pointer (some ⟨B, 32, none⟩)) rfl (by kernel_rfl) (by kernel_rfl) (by kernel_rfl) (fun _ _ _ h => h) (Or.inl ⟨by rfl, fun w _ => by go_simp⟩) hHeld ?_
  simp only [Act.put, List.setIfInBounds_toArray, List.set_cons_zero, List.set_cons_succ]
  refine wpAnyH_take (i := 6) (oi := ⟨some 10, .load 70 (.tmp 9), _, _, _, none⟩) (v := .agg #[.int .i64 s.io, .int .i64 s.ia, .int .i64 s.ib, .int .i64 s.ic, .int .i64 s.im]) rfl (by kernel_rfl) (by kernel_rfl) (by kernel_rfl) (fun _ _ _ h => h) (Or.inl ⟨by rfl, fun w hSw => by obtain ⟨e0, e1, e2, e3, e4, _⟩ := hSw; go_simp⟩) hHeld ?_
  simp only [Act.put, List.setIfInBounds_toArray, List.set_cons_zero, List.set_cons_succ]
  refine wpAnyH_take (i := 7) (oi := ⟨some 11, .move (.tmp 1), _, _, _, none⟩) (v := .int .u32 x) rfl (by kernel_rfl) (by kernel_rfl) (by kernel_rfl) (fun _ _ _ h => h) (Or.inl ⟨by rfl, fun _ _ => rfl⟩) hHeld ?_
  simp only [Act.put, List.setIfInBounds_toArray, List.set_cons_zero, List.set_cons_succ]
  refine wpAnyH_ready (rs := [8]) (by kernel_rfl) (by simp) (AllReadyH.cons (o := ⟨some 12, .call { callee := .value (.func 49), args := #[.tmp 6, .tmp 10, .tmp 11], argTypes := #[115, 70, 22] }, _, _, _, none⟩) rfl (fun K' hK => ?_) (AllReadyH.nil))
  go_simp
  refine HP.out.mono ?_
  rintro e w1 ⟨rfl, hA, hS⟩
  refine hK.out _ _ ⟨hA.bx.cell (j := 32) rfl, hA.bx.cell (j := 33) rfl, hA.bx.cell (j := 34) rfl, hA.bx.cell (j := 35) rfl, hA.bx.cell (j := 36) rfl, trivial⟩ (fun hHeld => ?_)
  clear hK K'
  try simp only [Act.put, List.setIfInBounds_toArray, List.set_cons_zero, List.set_cons_succ]
  refine wpAnyH_done (by kernel_rfl) ?_ _
  clear hHeld
  go_wp2
  go_end0
  exact ⟨rfl, hA, hS0.trans hS⟩
/-- after, without stores. -/
theorem after_nil (A : Option Addr) (n c k : Nat) (AS : Option Addr) (w : World) (hk : AS = none ∨ True) : Calls Tryz.prog 52 #[.agg #[.slice A n c], .slice AS 0 k] w fun e w' => e = .returned (.agg #[.slice A n c]) ∧ Later w w' := by
  have _ := hk
  have bR := Blk.new' (w.alloc (.cells #[.slice A n c] 29)) (w.heap.size + 1) 29 #[.slice A n c] [.slice A n c] (by simp) rfl
  have l0 := (later1 w (.cells #[.slice A n c] 29)).alloc (by simp) (.cells #[.slice A n c] 29)
  go_enter Tryz.func52, Tryz.ntmps52
  go_wp2
  exact bodyPost_ret (results_blk Tryz.results52 _ _ (w.heap.size + 1) 29 [.slice A n c] _ rfl bR Tryz.underlying29 rfl mem_sz) rfl ⟨rfl, l0⟩
set_option maxRecDepth 100000 in
set_option maxHeartbeats 2000000 in
theorem after_some (A : Option Addr) (n c q k : Nat) (AS : Option Addr) (L : List (Int × Int × Int)) (b x : Wm.Bs) (w : World) (hs : Sl w 128 A n (U b)) (hb : Wm.isBs b) (h1 : 1 ≤ n ∧ n ≤ 64) (hsl : Sl w 3 AS q (Ws L)) (hL : L.length = q) (hW : ∀ x ∈ L, isW x) (hq : 0 < q ∧ q ≤ 1000000) (hx : (Mm.ap b L).getD b = x) :
    Calls Tryz.prog 52 #[.agg #[.slice A n c], .slice AS q k] w fun e w' => ∃ g c', e = .returned (.agg #[.slice (some ⟨g, 0, none⟩) n c']) ∧ w.heap.size ≤ g ∧ Sl w' 128 (some ⟨g, 0, none⟩) n (U x) ∧ Later w w' := by
  have HA := Lib.hid fun w' (hl : Later w w') => apply_any A n c q k AS L b w' (hs.keep hl) hb h1.1 h1.2 (hsl.keep hl) hL hW hq.2
  rw [hx] at HA
  obtain ⟨ok, hok⟩ : ∃ ok, ok = (Mm.ap b L).isSome := ⟨_, rfl⟩
  rw [← hok] at HA
  have q0 : (0 : Int) < (q : Int) := by omega
  have b2 := (Blk.new w 29 #[.slice A n c] [.slice A n c] rfl).alloc (.cells #[.slice none 0 0] 29)
  have b4 := Blk.new' (w.alloc (.cells #[.slice A n c] 29)) (w.heap.size + 1) 29 #[.slice none 0 0] [.slice none 0 0] (by simp) rfl
  have l0 := (later1 w (.cells #[.slice A n c] 29)).alloc (by simp) (.cells #[.slice none 0 0] 29)
  clear hs hb h1 hsl hL hW hq hx hok
  go_enter Tryz.func52, Tryz.ntmps52
  go_wp2_with (go_at_call 22; refine (HA.out _ l0).mono ?_; rintro e w1 ⟨g, c', rfl, k1, k2, k3, k4, l1⟩; have hg1 : w.heap.size + 2 ≤ g := (by simpa using k1); replace b2 := b2.keep l1; replace b4 := b4.keep l1; have lw := Later.trans_ l0 l1; have e2 := b2.cell (j := 0) (v := .slice A n c) rfl; have f2 := b2.frz 0; have e4 : (w1.setCell ⟨w.heap.size, 0, none⟩ (.slice (some ⟨g, 0, none⟩) n c')).cell? ⟨w.heap.size + 1, 0, none⟩ = some (.slice none 0 0) := (b4.set_other ⟨w.heap.size, 0, none⟩ _ (by show w.heap.size + 1 ≠ w.heap.size; omega)).cell rfl; have f4 := b4.frz 0; have e5 := b4.cell (j := 0) (v := .slice none 0 0) rfl)
  have b2' := (b2.set 0 (.slice (some ⟨g, 0, none⟩) n c'))
  have b4' := (b4.set_other ⟨w.heap.size, 0, none⟩ (.slice (some ⟨g, 0, none⟩) n c') (by show w.heap.size + 1 ≠ w.heap.size; omega)).set 0 (.slice (some ⟨g, 0, none⟩) n c')
  exact bodyPost_ret (results_blk Tryz.results52 _ _ (w.heap.size + 1) 29 [.slice (some ⟨g, 0, none⟩) n c'] _ rfl b4' Tryz.underlying29 rfl mem_sz) rfl ⟨g, c', rfl, by omega, ((k4.only (Only.set _ _ 0 _) (by omega)).only (Only.set _ _ 0 _) (by omega)).sl, (lw.setCell (by simp) _).setCell (by simp) _⟩
end Go.Proofs.YtidhodalnikhlaaGreatDoor
