/-
  do OF a step: the four ways.
-/
import Derived.Test.YtidhodalnikhlaaGreatDoorWl
namespace Go.Proofs.YtidhodalnikhlaaGreatDoor
open Go.RowKit Go.ChangeShapes Go.WideShapes Go.ChangeAt

theorem wp_cut {P : Program} {c : Code} {Q : Exit → Act → World → Prop} {a : Act} {w : World} (R : World → Prop) (fin : Act) (h : c.wp P (fun e a' w' => e = .normal ∧ a' = fin ∧ R w') a w) (k : ∀ w', R w' → Q .normal fin w') : c.wp P Q a w :=
  wp_mono h (by rintro e a1 w1 ⟨rfl, rfl, h2⟩; exact k _ h2)
set_option maxRecDepth 100000 in
set_option maxHeartbeats 2000000 in
theorem do_due {base : Nat} {w : World} {B : Nat} {s : Sp} {A : Option Addr} {n c : Nat} {ws : List (Int × Int × Int)} {ac : List (Int × Int × Bool)} {b : Wm.Bs} (h : At base w B s A n c ws ac b) (h5 : Tm.isE s.c.c5) (hp : Tm.isE s.p) (hd : dueB (Tm.has s.c.c5 1) s.p = true) (hn : 0 ≤ dueN (Tm.has s.c.c5 1) s.p ∧ dueN (Tm.has s.c.c5 1) s.p < 32) : Calls Tryz.prog 33 #[.pointer (some ⟨B, 0, none⟩)] w fun e w' => e = .returned (.tuple #[]) ∧ At base w' B { s with c := Cpu.enter s.c (16 + dueN (Tm.has s.c.c5 1) s.p) 0 s.old.pc, tr := 16 + dueN (Tm.has s.c.c5 1) s.p } A n c ws ac b ∧ St base B w s w' { s with c := Cpu.enter s.c (16 + dueN (Tm.has s.c.c5 1) s.p) 0 s.old.pc, tr := 16 + dueN (Tm.has s.c.c5 1) s.p } := by
  have hmf : ∀ (fn : Fn) (first cap : Array Value) (w : World), (Instr.makeFunc fn first cap).run Tryz.prog w = .ok (.func fn first cap) w := fun _ _ _ _ => rfl
  have HD := Lib.hid fun w' => due_any s.c s.p w' h5 hp
  have l0 : Later w (w.alloc (.cells #[.pointer (some ⟨B, 0, none⟩)] 147)) := later1 w (.cells #[.pointer (some ⟨B, 0, none⟩)] 147)
  have hlt := h.lt
  have h0 := h.later l0
  have hG := Blk.new w 147 #[.pointer (some ⟨B, 0, none⟩)] [.pointer (some ⟨B, 0, none⟩)] rfl
  obtain ⟨dn, hdn⟩ : ∃ q, q = dueN (Tm.has s.c.c5 1) s.p := ⟨_, rfl⟩
  rw [hd, ← hdn] at HD
  rw [← hdn] at hn ⊢
  have hn2 : 0 ≤ 16 + dn ∧ 16 + dn < 4294967296 := by omega
  have HL := Lib.hid fun w' (hb : Blk w' B 86 s.cells) => leave_any hb (16 + dn) 0 hn2
  have x1 : IntKind.i64.wrap (16 + dn) = 16 + dn := by rw [IntKind.wrap_i64]; omega
  clear h hd hdn hn hp
  go_enter_defers Tryz.func33, Tryz.ntmps33
  go_wp2
  refine wp_cut (fun w' => Later w w' ∧ At base w' B s A n c ws ac b ∧ Blk w' w.heap.size 147 [.pointer (some ⟨B, 0, none⟩)]) ⟨#[.pointer (some ⟨B, 0, none⟩), .pointer (some ⟨w.heap.size, 0, none⟩), .int .i64 dn, .bool true, undef, .func (.func 74) #[] #[.pointer (some ⟨w.heap.size, 0, none⟩)], .tuple #[.int .i64 dn, .bool true], .pointer (some ⟨B, 0, none⟩), .pointer (some ⟨B, 0, none⟩), .pointer (some ⟨B, 0, none⟩), .agg s.c.cells.toArray, .pointer (some ⟨B, 0, none⟩), .pointer (some ⟨B, 0, none⟩), .pointer (some ⟨B, 31, none⟩), .int .u32 s.p, .tuple #[.int .i64 dn, .bool true], .int .i64 dn, .bool true, undef, undef, undef, undef, undef, undef, undef, undef, undef, undef, undef, undef, undef, undef, undef, undef], [{ target := .fn (.func 74) #[.pointer (some ⟨w.heap.size, 0, none⟩)], args := #[] }]⟩ ?ra ?rb
  case ra =>
    refine wp_region_held_drew (S := fun w' => w'.cell? ⟨w.heap.size, 0, none⟩ = some (.pointer (some ⟨B, 0, none⟩)) ∧ Blk w' B 86 s.cells) (by kernel_rfl) ⟨hG.cell (j := 0) rfl, h0.bx⟩ (fun hHeld => ?_)
    refine wpAnyH_take (i := 0) (oi := ⟨some 7, .load 147 (.tmp 1), _, _, _, none⟩) (v := .pointer (some ⟨B, 0, none⟩)) rfl (by kernel_rfl) (by kernel_rfl) (by kernel_rfl) (fun _ _ _ h => nomatch h.1) (Or.inl ⟨by rfl, fun w hSw => by have e1 := hSw.1; clear hSw; go_simp⟩) hHeld ?_
    simp only [Act.put, List.setIfInBounds_toArray, List.set_cons_zero, List.set_cons_succ]
    refine wpAnyH_take (i := 1) (oi := ⟨some 8, .nilCheck (.tmp 7), _, _, _, none⟩) (v := .pointer (some ⟨B, 0, none⟩)) rfl (by kernel_rfl) (by kernel_rfl) (by kernel_rfl) (fun _ _ _ h => nomatch h.1) (Or.inl ⟨by rfl, fun w _ => by go_simp⟩) hHeld ?_
    simp only [Act.put, List.setIfInBounds_toArray, List.set_cons_zero, List.set_cons_succ]
    refine wpAnyH_take (i := 2) (oi := ⟨some 9, .fieldAddr 86 (.tmp 8) 0, _, _, _, none⟩) (v := .pointer (some ⟨B, 0, none⟩)) rfl (by kernel_rfl) (by kernel_rfl) (by kernel_rfl) (fun _ _ _ h => nomatch h.1) (Or.inl ⟨by rfl, fun w _ => by go_simp⟩) hHeld ?_
    simp only [Act.put, List.setIfInBounds_toArray, List.set_cons_zero, List.set_cons_succ]
    refine wpAnyH_take (i := 3) (oi := ⟨some 10, .load 26 (.tmp 9), _, _, _, none⟩) (v := .agg s.c.cells.toArray) rfl (by kernel_rfl) (by kernel_rfl) (by kernel_rfl) (fun _ _ _ h => nomatch h.1) (yieldsIf_load_mid (by rfl) _ _ rfl B 0 rfl s.c.cells _ (fun w hSw => Blk.range hSw.2 0 30) Tryz.underlying26 rfl (cpu_sz s.c)) hHeld ?_
    simp only [Act.put, List.setIfInBounds_toArray, List.set_cons_zero, List.set_cons_succ]
    refine wpAnyH_take (i := 4) (oi := ⟨some 11, .load 147 (.tmp 1), _, _, _, none⟩) (v := .pointer (some ⟨B, 0, none⟩)) rfl (by kernel_rfl) (by kernel_rfl) (by kernel_rfl) (fun _ _ _ h => nomatch h.1) (Or.inl ⟨by rfl, fun w hSw => by have e1 := hSw.1; clear hSw; go_simp⟩) hHeld ?_
    simp only [Act.put, List.setIfInBounds_toArray, List.set_cons_zero, List.set_cons_succ]
    refine wpAnyH_take (i := 5) (oi := ⟨some 12, .nilCheck (.tmp 11), _, _, _, none⟩) (v := .pointer (some ⟨B, 0, none⟩)) rfl (by kernel_rfl) (by kernel_rfl) (by kernel_rfl) (fun _ _ _ h => nomatch h.1) (Or.inl ⟨by rfl, fun w _ => by go_simp⟩) hHeld ?_
    simp only [Act.put, List.setIfInBounds_toArray, List.set_cons_zero, List.set_cons_succ]
    refine wpAnyH_take (i := 6) (oi := ⟨some 13, .fieldAddr 86 (.tmp 12) 2, _, _, _, none⟩) (v := .pointer (some ⟨B, 31, none⟩)) rfl (by kernel_rfl) (by kernel_rfl) (by kernel_rfl) (fun _ _ _ h => nomatch h.1) (Or.inl ⟨by rfl, fun w _ => by go_simp⟩) hHeld ?_
    simp only [Act.put, List.setIfInBounds_toArray, List.set_cons_zero, List.set_cons_succ]
    refine wpAnyH_take (i := 7) (oi := ⟨some 14, .load 22 (.tmp 13), _, _, _, none⟩) (v := .int .u32 s.p) rfl (by kernel_rfl) (by kernel_rfl) (by kernel_rfl) (fun _ _ _ h => nomatch h.1) (Or.inl ⟨by rfl, fun w hSw => by have e1 := hSw.2.cell (j := 31) (v := .int .u32 s.p) rfl; clear hSw; go_simp⟩) hHeld ?_
    simp only [Act.put, List.setIfInBounds_toArray, List.set_cons_zero, List.set_cons_succ]
    refine wpAnyH_ready (rs := [8]) (by kernel_rfl) (by simp) (AllReadyH.cons (o := ⟨some 15, .call { callee := .value (.func 75), args := #[.tmp 10, .tmp 14], argTypes := #[26, 22] }, _, _, _, none⟩) rfl (fun K' hK => ?_) (AllReadyH.nil))
    go_simp
    refine (HD.out _).mono ?_
    rintro e w2 ⟨rfl, l2⟩
    replace l0 := Later.trans_ l0 (Later.trans_ (Below.drew (later0 _)) l2)
    replace h0 := h0.later (Later.trans_ (Below.drew (later0 _)) l2)
    replace hG := hG.keep (Later.trans_ (Below.drew (later0 _)) l2)
    refine hK.out _ _ ⟨hG.cell (j := 0) rfl, h0.bx⟩ (fun hHeld => ?_)
    clear hK K'
    try simp only [Act.put, List.setIfInBounds_toArray, List.set_cons_zero, List.set_cons_succ]
    refine wpAnyH_take (i := 9) (oi := ⟨some 6, .move (.tmp 15), _, _, _, none⟩) (v := .tuple #[.int .i64 dn, .bool true]) rfl (by kernel_rfl) (by kernel_rfl) (by kernel_rfl) (fun _ _ _ h => nomatch h.1) (Or.inl ⟨by rfl, fun _ _ => rfl⟩) hHeld ?_
    simp only [Act.put, List.setIfInBounds_toArray, List.set_cons_zero, List.set_cons_succ]
    refine wpAnyH_take (i := 10) (oi := ⟨some 16, .extract (.tmp 6) 0, _, _, _, none⟩) (v := .int .i64 dn) rfl (by kernel_rfl) (by kernel_rfl) (by kernel_rfl) (fun _ _ _ h => nomatch h.1) (Or.inl ⟨by rfl, fun w _ => by go_simp⟩) hHeld ?_
    simp only [Act.put, List.setIfInBounds_toArray, List.set_cons_zero, List.set_cons_succ]
    refine wpAnyH_take (i := 11) (oi := ⟨some 17, .extract (.tmp 6) 1, _, _, _, none⟩) (v := .bool true) rfl (by kernel_rfl) (by kernel_rfl) (by kernel_rfl) (fun _ _ _ h => nomatch h.1) (Or.inl ⟨by rfl, fun w _ => by go_simp⟩) hHeld ?_
    simp only [Act.put, List.setIfInBounds_toArray, List.set_cons_zero, List.set_cons_succ]
    refine wpAnyH_take (i := 12) (oi := ⟨some 2, .assign (.tmp 16), _, _, _, none⟩) (v := .int .i64 dn) rfl (by kernel_rfl) (by kernel_rfl) (by kernel_rfl) (fun _ _ _ h => nomatch h.1) (Or.inl ⟨by rfl, fun _ _ => rfl⟩) hHeld ?_
    simp only [Act.put, List.setIfInBounds_toArray, List.set_cons_zero, List.set_cons_succ]
    refine wpAnyH_take (i := 13) (oi := ⟨some 3, .assign (.tmp 17), _, _, _, none⟩) (v := .bool true) rfl (by kernel_rfl) (by kernel_rfl) (by kernel_rfl) (fun _ _ _ h => nomatch h.1) (Or.inl ⟨by rfl, fun _ _ => rfl⟩) hHeld ?_
    simp only [Act.put, List.setIfInBounds_toArray, List.set_cons_zero, List.set_cons_succ]
    refine wpAnyH_done (by kernel_rfl) ?_ _
    clear hHeld
    exact ⟨rfl, rfl, l0, h0, hG⟩
  clear l0 h0 hG
  intro w4 ⟨l0, h0, hG⟩
  have e0 := hG.cell (j := 0) (v := .pointer (some ⟨B, 0, none⟩)) rfl
  go_wp2_with (go_at_call 76; refine (HL.out _ h0.bx).mono ?_; rintro e w3 ⟨rfl, rfl⟩)
  refine leaves_cons (f := 74) (args := #[.pointer (some ⟨w.heap.size, 0, none⟩)]) (by simp) (by simp [go_sem]) ?_
  refine (dcatch_lv h0 w.heap.size hG (16 + dn) 0 s.old.pc hn2 h5).mono ?_
  rintro e u' w9 ⟨rfl, rfl, h9, S9⟩
  exact ⟨_, results_none rfl _ _ _, rfl, h9, (St.later _ hlt l0).trans S9⟩
set_option maxRecDepth 100000 in
set_option maxHeartbeats 2000000 in
theorem do_nofetch {base : Nat} {w : World} {B : Nat} {s : Sp} {A : Option Addr} {n c : Nat} {ws : List (Int × Int × Int)} {ac : List (Int × Int × Bool)} {b : Wm.Bs} (h : At base w B s A n c ws ac b) (h5 : Tm.isE s.c.c5) (hp : Tm.isE s.p) (hd : dueB (Tm.has s.c.c5 1) s.p = false) (ca v p : Int) (hca : 0 ≤ ca ∧ ca < 4294967296) (G : Sp → Option Addr → Nat → List (Int × Int × Int) → List (Int × Int × Bool) → Wm.Bs → Prop) (HF : ∀ w', Later w w' → Calls Tryz.prog 77 #[.pointer (some ⟨B, 0, none⟩)] w' fun e w'' => e = .panicked (Lv ca v p) ∧ ∃ s1 A1 c1 ws1 ac1 b1, At base w'' B s1 A1 n c1 ws1 ac1 b1 ∧ St base B w' s w'' s1 ∧ G s1 A1 c1 ws1 ac1 b1 ∧ Tm.isE s1.c.c5) : Calls Tryz.prog 33 #[.pointer (some ⟨B, 0, none⟩)] w fun e w' => e = .returned (.tuple #[]) ∧ ∃ s1 A1 c1 ws1 ac1 b1, G s1 A1 c1 ws1 ac1 b1 ∧ At base w' B { s1 with c := Cpu.enter s1.c ca v p, tr := ca } A1 n c1 ws1 ac1 b1 ∧ St base B w s w' { s1 with c := Cpu.enter s1.c ca v p, tr := ca } := by
  have hmf : ∀ (fn : Fn) (first cap : Array Value) (w : World), (Instr.makeFunc fn first cap).run Tryz.prog w = .ok (.func fn first cap) w := fun _ _ _ _ => rfl
  have HD := Lib.hid fun w' => due_any s.c s.p w' h5 hp
  have l0 : Later w (w.alloc (.cells #[.pointer (some ⟨B, 0, none⟩)] 147)) := later1 w (.cells #[.pointer (some ⟨B, 0, none⟩)] 147)
  have hlt := h.lt
  have h0 := h.later l0
  have hG := Blk.new w 147 #[.pointer (some ⟨B, 0, none⟩)] [.pointer (some ⟨B, 0, none⟩)] rfl
  obtain ⟨dn, hdn⟩ : ∃ q, q = dueN (Tm.has s.c.c5 1) s.p := ⟨_, rfl⟩
  rw [hd, ← hdn] at HD
  have HF := Lib.hid HF
  clear h hd hdn hp h5
  go_enter_defers Tryz.func33, Tryz.ntmps33
  go_wp2
  refine wp_cut (fun w' => Later w w' ∧ At base w' B s A n c ws ac b ∧ Blk w' w.heap.size 147 [.pointer (some ⟨B, 0, none⟩)]) ⟨#[.pointer (some ⟨B, 0, none⟩), .pointer (some ⟨w.heap.size, 0, none⟩), .int .i64 dn, .bool false, undef, .func (.func 74) #[] #[.pointer (some ⟨w.heap.size, 0, none⟩)], .tuple #[.int .i64 dn, .bool false], .pointer (some ⟨B, 0, none⟩), .pointer (some ⟨B, 0, none⟩), .pointer (some ⟨B, 0, none⟩), .agg s.c.cells.toArray, .pointer (some ⟨B, 0, none⟩), .pointer (some ⟨B, 0, none⟩), .pointer (some ⟨B, 31, none⟩), .int .u32 s.p, .tuple #[.int .i64 dn, .bool false], .int .i64 dn, .bool false, undef, undef, undef, undef, undef, undef, undef, undef, undef, undef, undef, undef, undef, undef, undef, undef], [{ target := .fn (.func 74) #[.pointer (some ⟨w.heap.size, 0, none⟩)], args := #[] }]⟩ ?ra ?rb
  case ra =>
    refine wp_region_held_drew (S := fun w' => w'.cell? ⟨w.heap.size, 0, none⟩ = some (.pointer (some ⟨B, 0, none⟩)) ∧ Blk w' B 86 s.cells) (by kernel_rfl) ⟨hG.cell (j := 0) rfl, h0.bx⟩ (fun hHeld => ?_)
    refine wpAnyH_take (i := 0) (oi := ⟨some 7, .load 147 (.tmp 1), _, _, _, none⟩) (v := .pointer (some ⟨B, 0, none⟩)) rfl (by kernel_rfl) (by kernel_rfl) (by kernel_rfl) (fun _ _ _ h => nomatch h.1) (Or.inl ⟨by rfl, fun w hSw => by have e1 := hSw.1; clear hSw; go_simp⟩) hHeld ?_
    simp only [Act.put, List.setIfInBounds_toArray, List.set_cons_zero, List.set_cons_succ]
    refine wpAnyH_take (i := 1) (oi := ⟨some 8, .nilCheck (.tmp 7), _, _, _, none⟩) (v := .pointer (some ⟨B, 0, none⟩)) rfl (by kernel_rfl) (by kernel_rfl) (by kernel_rfl) (fun _ _ _ h => nomatch h.1) (Or.inl ⟨by rfl, fun w _ => by go_simp⟩) hHeld ?_
    simp only [Act.put, List.setIfInBounds_toArray, List.set_cons_zero, List.set_cons_succ]
    refine wpAnyH_take (i := 2) (oi := ⟨some 9, .fieldAddr 86 (.tmp 8) 0, _, _, _, none⟩) (v := .pointer (some ⟨B, 0, none⟩)) rfl (by kernel_rfl) (by kernel_rfl) (by kernel_rfl) (fun _ _ _ h => nomatch h.1) (Or.inl ⟨by rfl, fun w _ => by go_simp⟩) hHeld ?_
    simp only [Act.put, List.setIfInBounds_toArray, List.set_cons_zero, List.set_cons_succ]
    refine wpAnyH_take (i := 3) (oi := ⟨some 10, .load 26 (.tmp 9), _, _, _, none⟩) (v := .agg s.c.cells.toArray) rfl (by kernel_rfl) (by kernel_rfl) (by kernel_rfl) (fun _ _ _ h => nomatch h.1) (yieldsIf_load_mid (by rfl) _ _ rfl B 0 rfl s.c.cells _ (fun w hSw => Blk.range hSw.2 0 30) Tryz.underlying26 rfl (cpu_sz s.c)) hHeld ?_
    simp only [Act.put, List.setIfInBounds_toArray, List.set_cons_zero, List.set_cons_succ]
    refine wpAnyH_take (i := 4) (oi := ⟨some 11, .load 147 (.tmp 1), _, _, _, none⟩) (v := .pointer (some ⟨B, 0, none⟩)) rfl (by kernel_rfl) (by kernel_rfl) (by kernel_rfl) (fun _ _ _ h => nomatch h.1) (Or.inl ⟨by rfl, fun w hSw => by have e1 := hSw.1; clear hSw; go_simp⟩) hHeld ?_
    simp only [Act.put, List.setIfInBounds_toArray, List.set_cons_zero, List.set_cons_succ]
    refine wpAnyH_take (i := 5) (oi := ⟨some 12, .nilCheck (.tmp 11), _, _, _, none⟩) (v := .pointer (some ⟨B, 0, none⟩)) rfl (by kernel_rfl) (by kernel_rfl) (by kernel_rfl) (fun _ _ _ h => nomatch h.1) (Or.inl ⟨by rfl, fun w _ => by go_simp⟩) hHeld ?_
    simp only [Act.put, List.setIfInBounds_toArray, List.set_cons_zero, List.set_cons_succ]
    refine wpAnyH_take (i := 6) (oi := ⟨some 13, .fieldAddr 86 (.tmp 12) 2, _, _, _, none⟩) (v := .pointer (some ⟨B, 31, none⟩)) rfl (by kernel_rfl) (by kernel_rfl) (by kernel_rfl) (fun _ _ _ h => nomatch h.1) (Or.inl ⟨by rfl, fun w _ => by go_simp⟩) hHeld ?_
    simp only [Act.put, List.setIfInBounds_toArray, List.set_cons_zero, List.set_cons_succ]
    refine wpAnyH_take (i := 7) (oi := ⟨some 14, .load 22 (.tmp 13), _, _, _, none⟩) (v := .int .u32 s.p) rfl (by kernel_rfl) (by kernel_rfl) (by kernel_rfl) (fun _ _ _ h => nomatch h.1) (Or.inl ⟨by rfl, fun w hSw => by have e1 := hSw.2.cell (j := 31) (v := .int .u32 s.p) rfl; clear hSw; go_simp⟩) hHeld ?_
    simp only [Act.put, List.setIfInBounds_toArray, List.set_cons_zero, List.set_cons_succ]
    refine wpAnyH_ready (rs := [8]) (by kernel_rfl) (by simp) (AllReadyH.cons (o := ⟨some 15, .call { callee := .value (.func 75), args := #[.tmp 10, .tmp 14], argTypes := #[26, 22] }, _, _, _, none⟩) rfl (fun K' hK => ?_) (AllReadyH.nil))
    go_simp
    refine (HD.out _).mono ?_
    rintro e w2 ⟨rfl, l2⟩
    replace l0 := Later.trans_ l0 (Later.trans_ (Below.drew (later0 _)) l2)
    replace h0 := h0.later (Later.trans_ (Below.drew (later0 _)) l2)
    replace hG := hG.keep (Later.trans_ (Below.drew (later0 _)) l2)
    refine hK.out _ _ ⟨hG.cell (j := 0) rfl, h0.bx⟩ (fun hHeld => ?_)
    clear hK K'
    try simp only [Act.put, List.setIfInBounds_toArray, List.set_cons_zero, List.set_cons_succ]
    refine wpAnyH_take (i := 9) (oi := ⟨some 6, .move (.tmp 15), _, _, _, none⟩) (v := .tuple #[.int .i64 dn, .bool false]) rfl (by kernel_rfl) (by kernel_rfl) (by kernel_rfl) (fun _ _ _ h => nomatch h.1) (Or.inl ⟨by rfl, fun _ _ => rfl⟩) hHeld ?_
    simp only [Act.put, List.setIfInBounds_toArray, List.set_cons_zero, List.set_cons_succ]
    refine wpAnyH_take (i := 10) (oi := ⟨some 16, .extract (.tmp 6) 0, _, _, _, none⟩) (v := .int .i64 dn) rfl (by kernel_rfl) (by kernel_rfl) (by kernel_rfl) (fun _ _ _ h => nomatch h.1) (Or.inl ⟨by rfl, fun w _ => by go_simp⟩) hHeld ?_
    simp only [Act.put, List.setIfInBounds_toArray, List.set_cons_zero, List.set_cons_succ]
    refine wpAnyH_take (i := 11) (oi := ⟨some 17, .extract (.tmp 6) 1, _, _, _, none⟩) (v := .bool false) rfl (by kernel_rfl) (by kernel_rfl) (by kernel_rfl) (fun _ _ _ h => nomatch h.1) (Or.inl ⟨by rfl, fun w _ => by go_simp⟩) hHeld ?_
    simp only [Act.put, List.setIfInBounds_toArray, List.set_cons_zero, List.set_cons_succ]
    refine wpAnyH_take (i := 12) (oi := ⟨some 2, .assign (.tmp 16), _, _, _, none⟩) (v := .int .i64 dn) rfl (by kernel_rfl) (by kernel_rfl) (by kernel_rfl) (fun _ _ _ h => nomatch h.1) (Or.inl ⟨by rfl, fun _ _ => rfl⟩) hHeld ?_
    simp only [Act.put, List.setIfInBounds_toArray, List.set_cons_zero, List.set_cons_succ]
    refine wpAnyH_take (i := 13) (oi := ⟨some 3, .assign (.tmp 17), _, _, _, none⟩) (v := .bool false) rfl (by kernel_rfl) (by kernel_rfl) (by kernel_rfl) (fun _ _ _ h => nomatch h.1) (Or.inl ⟨by rfl, fun _ _ => rfl⟩) hHeld ?_
    simp only [Act.put, List.setIfInBounds_toArray, List.set_cons_zero, List.set_cons_succ]
    refine wpAnyH_done (by kernel_rfl) ?_ _
    clear hHeld
    exact ⟨rfl, rfl, l0, h0, hG⟩
  clear l0 h0 hG
  intro w4 ⟨l0, h0, hG⟩
  have e0 := hG.cell (j := 0) (v := .pointer (some ⟨B, 0, none⟩)) rfl
  go_wp2_with (go_at_call 77; refine (HF.out _ l0).mono ?_; rintro e w3 ⟨rfl, s1, A1, c1, ws1, ac1, b1, h1, S1, hg, q5⟩)
  replace hG := h0.other S1 hG (by decide) (by decide) (by decide)
  refine leaves_cons (f := 74) (args := #[.pointer (some ⟨w.heap.size, 0, none⟩)]) (by simp) (by simp [go_sem]) ?_
  refine (dcatch_lv h1 w.heap.size hG ca v p hca q5).mono ?_
  rintro e u' w9 ⟨rfl, rfl, h9, S9⟩
  exact ⟨_, results_none rfl _ _ _, rfl, s1, A1, c1, ws1, ac1, b1, hg, h9, ((St.later _ hlt l0).trans S1).trans S9⟩
set_option maxRecDepth 100000 in
set_option maxHeartbeats 2000000 in
theorem do_ok {base : Nat} {w : World} {B : Nat} {s : Sp} {A : Option Addr} {n c : Nat} {ws : List (Int × Int × Int)} {ac : List (Int × Int × Bool)} {b : Wm.Bs} (h : At base w B s A n c ws ac b) (h5 : Tm.isE s.c.c5) (hp : Tm.isE s.p) (hd : dueB (Tm.has s.c.c5 1) s.p = false) (hb0 : 0 < base) (tab : Tab w) (G : Sp → Option Addr → Nat → List (Int × Int × Int) → List (Int × Int × Bool) → Wm.Bs → Prop) (HF : ∀ w', Later w w' → Calls Tryz.prog 77 #[.pointer (some ⟨B, 0, none⟩)] w' fun e w'' => e = .returned (.tuple #[]) ∧ ∃ s1 A1 c1 ws1 ac1 b1, At base w'' B s1 A1 n c1 ws1 ac1 b1 ∧ St base B w' s w'' s1 ∧ G s1 A1 c1 ws1 ac1 b1) (K : Sp → Option Addr → Nat → List (Int × Int × Int) → List (Int × Int × Bool) → Wm.Bs → Prop) (F : Nat) (hcf : ∀ (a : Array Value) (w : World), (callFunc F a).run Tryz.prog w = .ok (.enter F a) w) (HI : ∀ w' s1 A1 c1 ws1 ac1 b1, G s1 A1 c1 ws1 ac1 b1 → At base w' B s1 A1 n c1 ws1 ac1 b1 → Below base w w' → fnd s1.io = .func (.func F) #[] #[] ∧ Calls Tryz.prog F #[.pointer (some ⟨B, 0, none⟩)] w' fun e w'' => e = .returned (.tuple #[]) ∧ ∃ s2 A2 c2 ws2 ac2 b2, At base w'' B s2 A2 n c2 ws2 ac2 b2 ∧ St base B w' s1 w'' s2 ∧ K s2 A2 c2 ws2 ac2 b2) : Calls Tryz.prog 33 #[.pointer (some ⟨B, 0, none⟩)] w fun e w' => e = .returned (.tuple #[]) ∧ ∃ s2 A2 c2 ws2 ac2 b2, K s2 A2 c2 ws2 ac2 b2 ∧ At base w' B s2 A2 n c2 ws2 ac2 b2 ∧ St base B w s w' s2 := by
  have hmf : ∀ (fn : Fn) (first cap : Array Value) (w : World), (Instr.makeFunc fn first cap).run Tryz.prog w = .ok (.func fn first cap) w := fun _ _ _ _ => rfl
  have HD := Lib.hid fun w' => due_any s.c s.p w' h5 hp
  have l0 : Later w (w.alloc (.cells #[.pointer (some ⟨B, 0, none⟩)] 147)) := later1 w (.cells #[.pointer (some ⟨B, 0, none⟩)] 147)
  have hlt := h.lt
  have h0 := h.later l0
  have hG := Blk.new w 147 #[.pointer (some ⟨B, 0, none⟩)] [.pointer (some ⟨B, 0, none⟩)] rfl
  obtain ⟨dn, hdn⟩ : ∃ q, q = dueN (Tm.has s.c.c5 1) s.p := ⟨_, rfl⟩
  rw [hd, ← hdn] at HD
  have HF := Lib.hid HF
  have HI := Lib.hid HI
  have HN := Lib.hid fun op w' (l : Below base w w') => find_any op w' (tab.below hb0 l)
  clear h hd hdn hp h5 tab
  go_enter_defers Tryz.func33, Tryz.ntmps33
  go_wp2
  refine wp_cut (fun w' => Later w w' ∧ At base w' B s A n c ws ac b ∧ Blk w' w.heap.size 147 [.pointer (some ⟨B, 0, none⟩)]) ⟨#[.pointer (some ⟨B, 0, none⟩), .pointer (some ⟨w.heap.size, 0, none⟩), .int .i64 dn, .bool false, undef, .func (.func 74) #[] #[.pointer (some ⟨w.heap.size, 0, none⟩)], .tuple #[.int .i64 dn, .bool false], .pointer (some ⟨B, 0, none⟩), .pointer (some ⟨B, 0, none⟩), .pointer (some ⟨B, 0, none⟩), .agg s.c.cells.toArray, .pointer (some ⟨B, 0, none⟩), .pointer (some ⟨B, 0, none⟩), .pointer (some ⟨B, 31, none⟩), .int .u32 s.p, .tuple #[.int .i64 dn, .bool false], .int .i64 dn, .bool false, undef, undef, undef, undef, undef, undef, undef, undef, undef, undef, undef, undef, undef, undef, undef, undef], [{ target := .fn (.func 74) #[.pointer (some ⟨w.heap.size, 0, none⟩)], args := #[] }]⟩ ?ra ?rb
  case ra =>
    refine wp_region_held_drew (S := fun w' => w'.cell? ⟨w.heap.size, 0, none⟩ = some (.pointer (some ⟨B, 0, none⟩)) ∧ Blk w' B 86 s.cells) (by kernel_rfl) ⟨hG.cell (j := 0) rfl, h0.bx⟩ (fun hHeld => ?_)
    refine wpAnyH_take (i := 0) (oi := ⟨some 7, .load 147 (.tmp 1), _, _, _, none⟩) (v := .pointer (some ⟨B, 0, none⟩)) rfl (by kernel_rfl) (by kernel_rfl) (by kernel_rfl) (fun _ _ _ h => nomatch h.1) (Or.inl ⟨by rfl, fun w hSw => by have e1 := hSw.1; clear hSw; go_simp⟩) hHeld ?_
    simp only [Act.put, List.setIfInBounds_toArray, List.set_cons_zero, List.set_cons_succ]
    refine wpAnyH_take (i := 1) (oi := ⟨some 8, .nilCheck (.tmp 7), _, _, _, none⟩) (v := .pointer (some ⟨B, 0, none⟩)) rfl (by kernel_rfl) (by kernel_rfl) (by kernel_rfl) (fun _ _ _ h => nomatch h.1) (Or.inl ⟨by rfl, fun w _ => by go_simp⟩) hHeld ?_
    simp only [Act.put, List.setIfInBounds_toArray, List.set_cons_zero, List.set_cons_succ]
    refine wpAnyH_take (i := 2) (oi := ⟨some 9, .fieldAddr 86 (.tmp 8) 0, _, _, _, none⟩) (v := .pointer (some ⟨B, 0, none⟩)) rfl (by kernel_rfl) (by kernel_rfl) (by kernel_rfl) (fun _ _ _ h => nomatch h.1) (Or.inl ⟨by rfl, fun w _ => by go_simp⟩) hHeld ?_
    simp only [Act.put, List.setIfInBounds_toArray, List.set_cons_zero, List.set_cons_succ]
    refine wpAnyH_take (i := 3) (oi := ⟨some 10, .load 26 (.tmp 9), _, _, _, none⟩) (v := .agg s.c.cells.toArray) rfl (by kernel_rfl) (by kernel_rfl) (by kernel_rfl) (fun _ _ _ h => nomatch h.1) (yieldsIf_load_mid (by rfl) _ _ rfl B 0 rfl s.c.cells _ (fun w hSw => Blk.range hSw.2 0 30) Tryz.underlying26 rfl (cpu_sz s.c)) hHeld ?_
    simp only [Act.put, List.setIfInBounds_toArray, List.set_cons_zero, List.set_cons_succ]
    refine wpAnyH_take (i := 4) (oi := ⟨some 11, .load 147 (.tmp 1), _, _, _, none⟩) (v := .pointer (some ⟨B, 0, none⟩)) rfl (by kernel_rfl) (by kernel_rfl) (by kernel_rfl) (fun _ _ _ h => nomatch h.1) (Or.inl ⟨by rfl, fun w hSw => by have e1 := hSw.1; clear hSw; go_simp⟩) hHeld ?_
    simp only [Act.put, List.setIfInBounds_toArray, List.set_cons_zero, List.set_cons_succ]
    refine wpAnyH_take (i := 5) (oi := ⟨some 12, .nilCheck (.tmp 11), _, _, _, none⟩) (v := .pointer (some ⟨B, 0, none⟩)) rfl (by kernel_rfl) (by kernel_rfl) (by kernel_rfl) (fun _ _ _ h => nomatch h.1) (Or.inl ⟨by rfl, fun w _ => by go_simp⟩) hHeld ?_
    simp only [Act.put, List.setIfInBounds_toArray, List.set_cons_zero, List.set_cons_succ]
    refine wpAnyH_take (i := 6) (oi := ⟨some 13, .fieldAddr 86 (.tmp 12) 2, _, _, _, none⟩) (v := .pointer (some ⟨B, 31, none⟩)) rfl (by kernel_rfl) (by kernel_rfl) (by kernel_rfl) (fun _ _ _ h => nomatch h.1) (Or.inl ⟨by rfl, fun w _ => by go_simp⟩) hHeld ?_
    simp only [Act.put, List.setIfInBounds_toArray, List.set_cons_zero, List.set_cons_succ]
    refine wpAnyH_take (i := 7) (oi := ⟨some 14, .load 22 (.tmp 13), _, _, _, none⟩) (v := .int .u32 s.p) rfl (by kernel_rfl) (by kernel_rfl) (by kernel_rfl) (fun _ _ _ h => nomatch h.1) (Or.inl ⟨by rfl, fun w hSw => by have e1 := hSw.2.cell (j := 31) (v := .int .u32 s.p) rfl; clear hSw; go_simp⟩) hHeld ?_
    simp only [Act.put, List.setIfInBounds_toArray, List.set_cons_zero, List.set_cons_succ]
    refine wpAnyH_ready (rs := [8]) (by kernel_rfl) (by simp) (AllReadyH.cons (o := ⟨some 15, .call { callee := .value (.func 75), args := #[.tmp 10, .tmp 14], argTypes := #[26, 22] }, _, _, _, none⟩) rfl (fun K' hK => ?_) (AllReadyH.nil))
    go_simp
    refine (HD.out _).mono ?_
    rintro e w2 ⟨rfl, l2⟩
    replace l0 := Later.trans_ l0 (Later.trans_ (Below.drew (later0 _)) l2)
    replace h0 := h0.later (Later.trans_ (Below.drew (later0 _)) l2)
    replace hG := hG.keep (Later.trans_ (Below.drew (later0 _)) l2)
    refine hK.out _ _ ⟨hG.cell (j := 0) rfl, h0.bx⟩ (fun hHeld => ?_)
    clear hK K'
    try simp only [Act.put, List.setIfInBounds_toArray, List.set_cons_zero, List.set_cons_succ]
    refine wpAnyH_take (i := 9) (oi := ⟨some 6, .move (.tmp 15), _, _, _, none⟩) (v := .tuple #[.int .i64 dn, .bool false]) rfl (by kernel_rfl) (by kernel_rfl) (by kernel_rfl) (fun _ _ _ h => nomatch h.1) (Or.inl ⟨by rfl, fun _ _ => rfl⟩) hHeld ?_
    simp only [Act.put, List.setIfInBounds_toArray, List.set_cons_zero, List.set_cons_succ]
    refine wpAnyH_take (i := 10) (oi := ⟨some 16, .extract (.tmp 6) 0, _, _, _, none⟩) (v := .int .i64 dn) rfl (by kernel_rfl) (by kernel_rfl) (by kernel_rfl) (fun _ _ _ h => nomatch h.1) (Or.inl ⟨by rfl, fun w _ => by go_simp⟩) hHeld ?_
    simp only [Act.put, List.setIfInBounds_toArray, List.set_cons_zero, List.set_cons_succ]
    refine wpAnyH_take (i := 11) (oi := ⟨some 17, .extract (.tmp 6) 1, _, _, _, none⟩) (v := .bool false) rfl (by kernel_rfl) (by kernel_rfl) (by kernel_rfl) (fun _ _ _ h => nomatch h.1) (Or.inl ⟨by rfl, fun w _ => by go_simp⟩) hHeld ?_
    simp only [Act.put, List.setIfInBounds_toArray, List.set_cons_zero, List.set_cons_succ]
    refine wpAnyH_take (i := 12) (oi := ⟨some 2, .assign (.tmp 16), _, _, _, none⟩) (v := .int .i64 dn) rfl (by kernel_rfl) (by kernel_rfl) (by kernel_rfl) (fun _ _ _ h => nomatch h.1) (Or.inl ⟨by rfl, fun _ _ => rfl⟩) hHeld ?_
    simp only [Act.put, List.setIfInBounds_toArray, List.set_cons_zero, List.set_cons_succ]
    refine wpAnyH_take (i := 13) (oi := ⟨some 3, .assign (.tmp 17), _, _, _, none⟩) (v := .bool false) rfl (by kernel_rfl) (by kernel_rfl) (by kernel_rfl) (fun _ _ _ h => nomatch h.1) (Or.inl ⟨by rfl, fun _ _ => rfl⟩) hHeld ?_
    simp only [Act.put, List.setIfInBounds_toArray, List.set_cons_zero, List.set_cons_succ]
    refine wpAnyH_done (by kernel_rfl) ?_ _
    clear hHeld
    exact ⟨rfl, rfl, l0, h0, hG⟩
  clear l0 h0 hG
  intro w4 ⟨l0, h0, hG⟩
  have e0 := hG.cell (j := 0) (v := .pointer (some ⟨B, 0, none⟩)) rfl
  go_wp2_with (first
    | (go_at_call 77; refine (HF.out _ l0).mono ?_; rintro e w3 ⟨rfl, s1, A1, c1, ws1, ac1, b1, h1, S1, hg⟩; replace hG := h0.other S1 hG (by decide) (by decide) (by decide); replace S1 := (St.later _ hlt l0).trans S1; have e1 := hG.cell (j := 0) (v := .pointer (some ⟨B, 0, none⟩)) rfl; have e2 := h1.bx.cell (j := 32) (v := .int .i64 s1.io) rfl)
    | (go_at_call 78; refine (HN.out _ _ S1.lt).mono ?_; rintro e w4 ⟨rfl, l4⟩; replace S1 := S1.trans (St.later _ h1.lt l4); replace h1 := h1.later l4; replace hG := hG.keep l4; have e3 := hG.cell (j := 0) (v := .pointer (some ⟨B, 0, none⟩)) rfl; obtain ⟨hf, HX⟩ := HI.out _ _ _ _ _ _ _ hg h1 S1.lt; rw [hf]; replace HX := Lib.hid HX)
    | (refine HX.out.mono ?_; rintro e w5 ⟨rfl, s2, A2, c2, ws2, ac2, b2, h2, S2, hk⟩; replace hG := h1.other S2 hG (by decide) (by decide) (by decide); replace S2 := S1.trans S2))
  refine leaves_cons (f := 74) (args := #[.pointer (some ⟨w.heap.size, 0, none⟩)]) (by simp) (by simp [go_sem]) ?_
  refine (dcatch_idle ⟨w.heap.size, 0, none⟩ _).mono ?_
  rintro e u' w9 ⟨rfl, rfl, l9⟩
  exact ⟨_, results_none rfl _ _ _, rfl, s2, A2, c2, ws2, ac2, b2, hk, h2.later l9, S2.trans (St.later _ h2.lt l9)⟩
set_option maxRecDepth 100000 in
set_option maxHeartbeats 2000000 in
theorem do_trap {base : Nat} {w : World} {B : Nat} {s : Sp} {A : Option Addr} {n c : Nat} {ws : List (Int × Int × Int)} {ac : List (Int × Int × Bool)} {b : Wm.Bs} (h : At base w B s A n c ws ac b) (h5 : Tm.isE s.c.c5) (hp : Tm.isE s.p) (hd : dueB (Tm.has s.c.c5 1) s.p = false) (hb0 : 0 < base) (tab : Tab w) (ca v p : Int) (hca : 0 ≤ ca ∧ ca < 4294967296) (G : Sp → Option Addr → Nat → List (Int × Int × Int) → List (Int × Int × Bool) → Wm.Bs → Prop) (HF : ∀ w', Later w w' → Calls Tryz.prog 77 #[.pointer (some ⟨B, 0, none⟩)] w' fun e w'' => e = .returned (.tuple #[]) ∧ ∃ s1 A1 c1 ws1 ac1 b1, At base w'' B s1 A1 n c1 ws1 ac1 b1 ∧ St base B w' s w'' s1 ∧ G s1 A1 c1 ws1 ac1 b1) (K : Sp → Option Addr → Nat → List (Int × Int × Int) → List (Int × Int × Bool) → Wm.Bs → Prop) (F : Nat) (hcf : ∀ (a : Array Value) (w : World), (callFunc F a).run Tryz.prog w = .ok (.enter F a) w) (HI : ∀ w' s1 A1 c1 ws1 ac1 b1, G s1 A1 c1 ws1 ac1 b1 → At base w' B s1 A1 n c1 ws1 ac1 b1 → Below base w w' → fnd s1.io = .func (.func F) #[] #[] ∧ Calls Tryz.prog F #[.pointer (some ⟨B, 0, none⟩)] w' fun e w'' => e = .panicked (Lv ca v p) ∧ ∃ s2 A2 c2 ws2 ac2 b2, At base w'' B s2 A2 n c2 ws2 ac2 b2 ∧ St base B w' s1 w'' s2 ∧ K s2 A2 c2 ws2 ac2 b2 ∧ Tm.isE s2.c.c5) : Calls Tryz.prog 33 #[.pointer (some ⟨B, 0, none⟩)] w fun e w' => e = .returned (.tuple #[]) ∧ ∃ s2 A2 c2 ws2 ac2 b2, K s2 A2 c2 ws2 ac2 b2 ∧ At base w' B { s2 with c := Cpu.enter s2.c ca v p, tr := ca } A2 n c2 ws2 ac2 b2 ∧ St base B w s w' { s2 with c := Cpu.enter s2.c ca v p, tr := ca } := by
  have hmf : ∀ (fn : Fn) (first cap : Array Value) (w : World), (Instr.makeFunc fn first cap).run Tryz.prog w = .ok (.func fn first cap) w := fun _ _ _ _ => rfl
  have HD := Lib.hid fun w' => due_any s.c s.p w' h5 hp
  have l0 : Later w (w.alloc (.cells #[.pointer (some ⟨B, 0, none⟩)] 147)) := later1 w (.cells #[.pointer (some ⟨B, 0, none⟩)] 147)
  have hlt := h.lt
  have h0 := h.later l0
  have hG := Blk.new w 147 #[.pointer (some ⟨B, 0, none⟩)] [.pointer (some ⟨B, 0, none⟩)] rfl
  obtain ⟨dn, hdn⟩ : ∃ q, q = dueN (Tm.has s.c.c5 1) s.p := ⟨_, rfl⟩
  rw [hd, ← hdn] at HD
  have HF := Lib.hid HF
  have HI := Lib.hid HI
  have HN := Lib.hid fun op w' (l : Below base w w') => find_any op w' (tab.below hb0 l)
  clear h hd hdn hp h5 tab
  go_enter_defers Tryz.func33, Tryz.ntmps33
  go_wp2
  refine wp_cut (fun w' => Later w w' ∧ At base w' B s A n c ws ac b ∧ Blk w' w.heap.size 147 [.pointer (some ⟨B, 0, none⟩)]) ⟨#[.pointer (some ⟨B, 0, none⟩), .pointer (some ⟨w.heap.size, 0, none⟩), .int .i64 dn, .bool false, undef, .func (.func 74) #[] #[.pointer (some ⟨w.heap.size, 0, none⟩)], .tuple #[.int .i64 dn, .bool false], .pointer (some ⟨B, 0, none⟩), .pointer (some ⟨B, 0, none⟩), .pointer (some ⟨B, 0, none⟩), .agg s.c.cells.toArray, .pointer (some ⟨B, 0, none⟩), .pointer (some ⟨B, 0, none⟩), .pointer (some ⟨B, 31, none⟩), .int .u32 s.p, .tuple #[.int .i64 dn, .bool false], .int .i64 dn, .bool false, undef, undef, undef, undef, undef, undef, undef, undef, undef, undef, undef, undef, undef, undef, undef, undef], [{ target := .fn (.func 74) #[.pointer (some ⟨w.heap.size, 0, none⟩)], args := #[] }]⟩ ?ra ?rb
  case ra =>
    refine wp_region_held_drew (S := fun w' => w'.cell? ⟨w.heap.size, 0, none⟩ = some (.pointer (some ⟨B, 0, none⟩)) ∧ Blk w' B 86 s.cells) (by kernel_rfl) ⟨hG.cell (j := 0) rfl, h0.bx⟩ (fun hHeld => ?_)
    refine wpAnyH_take (i := 0) (oi := ⟨some 7, .load 147 (.tmp 1), _, _, _, none⟩) (v := .pointer (some ⟨B, 0, none⟩)) rfl (by kernel_rfl) (by kernel_rfl) (by kernel_rfl) (fun _ _ _ h => nomatch h.1) (Or.inl ⟨by rfl, fun w hSw => by have e1 := hSw.1; clear hSw; go_simp⟩) hHeld ?_
    simp only [Act.put, List.setIfInBounds_toArray, List.set_cons_zero, List.set_cons_succ]
    refine wpAnyH_take (i := 1) (oi := ⟨some 8, .nilCheck (.tmp 7), _, _, _, none⟩) (v := .pointer (some ⟨B, 0, none⟩)) rfl (by kernel_rfl) (by kernel_rfl) (by kernel_rfl) (fun _ _ _ h => nomatch h.1) (Or.inl ⟨by rfl, fun w _ => by go_simp⟩) hHeld ?_
    simp only [Act.put, List.setIfInBounds_toArray, List.set_cons_zero, List.set_cons_succ]
    refine wpAnyH_take (i := 2) (oi := ⟨some 9, .fieldAddr 86 (.tmp 8) 0, _, _, _, none⟩) (v := .pointer (some ⟨B, 0, none⟩)) rfl (by kernel_rfl) (by kernel_rfl) (by kernel_rfl) (fun _ _ _ h => nomatch h.1) (Or.inl ⟨by rfl, fun w _ => by go_simp⟩) hHeld ?_
    simp only [Act.put, List.setIfInBounds_toArray, List.set_cons_zero, List.set_cons_succ]
    refine wpAnyH_take (i := 3) (oi := ⟨some 10, .load 26 (.tmp 9), _, _, _, none⟩) (v := .agg s.c.cells.toArray) rfl (by kernel_rfl) (by kernel_rfl) (by kernel_rfl) (fun _ _ _ h => nomatch h.1) (yieldsIf_load_mid (by rfl) _ _ rfl B 0 rfl s.c.cells _ (fun w hSw => Blk.range hSw.2 0 30) Tryz.underlying26 rfl (cpu_sz s.c)) hHeld ?_
    simp only [Act.put, List.setIfInBounds_toArray, List.set_cons_zero, List.set_cons_succ]
    refine wpAnyH_take (i := 4) (oi := ⟨some 11, .load 147 (.tmp 1), _, _, _, none⟩) (v := .pointer (some ⟨B, 0, none⟩)) rfl (by kernel_rfl) (by kernel_rfl) (by kernel_rfl) (fun _ _ _ h => nomatch h.1) (Or.inl ⟨by rfl, fun w hSw => by have e1 := hSw.1; clear hSw; go_simp⟩) hHeld ?_
    simp only [Act.put, List.setIfInBounds_toArray, List.set_cons_zero, List.set_cons_succ]
    refine wpAnyH_take (i := 5) (oi := ⟨some 12, .nilCheck (.tmp 11), _, _, _, none⟩) (v := .pointer (some ⟨B, 0, none⟩)) rfl (by kernel_rfl) (by kernel_rfl) (by kernel_rfl) (fun _ _ _ h => nomatch h.1) (Or.inl ⟨by rfl, fun w _ => by go_simp⟩) hHeld ?_
    simp only [Act.put, List.setIfInBounds_toArray, List.set_cons_zero, List.set_cons_succ]
    refine wpAnyH_take (i := 6) (oi := ⟨some 13, .fieldAddr 86 (.tmp 12) 2, _, _, _, none⟩) (v := .pointer (some ⟨B, 31, none⟩)) rfl (by kernel_rfl) (by kernel_rfl) (by kernel_rfl) (fun _ _ _ h => nomatch h.1) (Or.inl ⟨by rfl, fun w _ => by go_simp⟩) hHeld ?_
    simp only [Act.put, List.setIfInBounds_toArray, List.set_cons_zero, List.set_cons_succ]
    refine wpAnyH_take (i := 7) (oi := ⟨some 14, .load 22 (.tmp 13), _, _, _, none⟩) (v := .int .u32 s.p) rfl (by kernel_rfl) (by kernel_rfl) (by kernel_rfl) (fun _ _ _ h => nomatch h.1) (Or.inl ⟨by rfl, fun w hSw => by have e1 := hSw.2.cell (j := 31) (v := .int .u32 s.p) rfl; clear hSw; go_simp⟩) hHeld ?_
    simp only [Act.put, List.setIfInBounds_toArray, List.set_cons_zero, List.set_cons_succ]
    refine wpAnyH_ready (rs := [8]) (by kernel_rfl) (by simp) (AllReadyH.cons (o := ⟨some 15, .call { callee := .value (.func 75), args := #[.tmp 10, .tmp 14], argTypes := #[26, 22] }, _, _, _, none⟩) rfl (fun K' hK => ?_) (AllReadyH.nil))
    go_simp
    refine (HD.out _).mono ?_
    rintro e w2 ⟨rfl, l2⟩
    replace l0 := Later.trans_ l0 (Later.trans_ (Below.drew (later0 _)) l2)
    replace h0 := h0.later (Later.trans_ (Below.drew (later0 _)) l2)
    replace hG := hG.keep (Later.trans_ (Below.drew (later0 _)) l2)
    refine hK.out _ _ ⟨hG.cell (j := 0) rfl, h0.bx⟩ (fun hHeld => ?_)
    clear hK K'
    try simp only [Act.put, List.setIfInBounds_toArray, List.set_cons_zero, List.set_cons_succ]
    refine wpAnyH_take (i := 9) (oi := ⟨some 6, .move (.tmp 15), _, _, _, none⟩) (v := .tuple #[.int .i64 dn, .bool false]) rfl (by kernel_rfl) (by kernel_rfl) (by kernel_rfl) (fun _ _ _ h => nomatch h.1) (Or.inl ⟨by rfl, fun _ _ => rfl⟩) hHeld ?_
    simp only [Act.put, List.setIfInBounds_toArray, List.set_cons_zero, List.set_cons_succ]
    refine wpAnyH_take (i := 10) (oi := ⟨some 16, .extract (.tmp 6) 0, _, _, _, none⟩) (v := .int .i64 dn) rfl (by kernel_rfl) (by kernel_rfl) (by kernel_rfl) (fun _ _ _ h => nomatch h.1) (Or.inl ⟨by rfl, fun w _ => by go_simp⟩) hHeld ?_
    simp only [Act.put, List.setIfInBounds_toArray, List.set_cons_zero, List.set_cons_succ]
    refine wpAnyH_take (i := 11) (oi := ⟨some 17, .extract (.tmp 6) 1, _, _, _, none⟩) (v := .bool false) rfl (by kernel_rfl) (by kernel_rfl) (by kernel_rfl) (fun _ _ _ h => nomatch h.1) (Or.inl ⟨by rfl, fun w _ => by go_simp⟩) hHeld ?_
    simp only [Act.put, List.setIfInBounds_toArray, List.set_cons_zero, List.set_cons_succ]
    refine wpAnyH_take (i := 12) (oi := ⟨some 2, .assign (.tmp 16), _, _, _, none⟩) (v := .int .i64 dn) rfl (by kernel_rfl) (by kernel_rfl) (by kernel_rfl) (fun _ _ _ h => nomatch h.1) (Or.inl ⟨by rfl, fun _ _ => rfl⟩) hHeld ?_
    simp only [Act.put, List.setIfInBounds_toArray, List.set_cons_zero, List.set_cons_succ]
    refine wpAnyH_take (i := 13) (oi := ⟨some 3, .assign (.tmp 17), _, _, _, none⟩) (v := .bool false) rfl (by kernel_rfl) (by kernel_rfl) (by kernel_rfl) (fun _ _ _ h => nomatch h.1) (Or.inl ⟨by rfl, fun _ _ => rfl⟩) hHeld ?_
    simp only [Act.put, List.setIfInBounds_toArray, List.set_cons_zero, List.set_cons_succ]
    refine wpAnyH_done (by kernel_rfl) ?_ _
    clear hHeld
    exact ⟨rfl, rfl, l0, h0, hG⟩
  clear l0 h0 hG
  intro w4 ⟨l0, h0, hG⟩
  have e0 := hG.cell (j := 0) (v := .pointer (some ⟨B, 0, none⟩)) rfl
  go_wp2_with (first
    | (go_at_call 77; refine (HF.out _ l0).mono ?_; rintro e w3 ⟨rfl, s1, A1, c1, ws1, ac1, b1, h1, S1, hg⟩; replace hG := h0.other S1 hG (by decide) (by decide) (by decide); replace S1 := (St.later _ hlt l0).trans S1; have e1 := hG.cell (j := 0) (v := .pointer (some ⟨B, 0, none⟩)) rfl; have e2 := h1.bx.cell (j := 32) (v := .int .i64 s1.io) rfl)
    | (go_at_call 78; refine (HN.out _ _ S1.lt).mono ?_; rintro e w4 ⟨rfl, l4⟩; replace S1 := S1.trans (St.later _ h1.lt l4); replace h1 := h1.later l4; replace hG := hG.keep l4; have e3 := hG.cell (j := 0) (v := .pointer (some ⟨B, 0, none⟩)) rfl; obtain ⟨hf, HX⟩ := HI.out _ _ _ _ _ _ _ hg h1 S1.lt; rw [hf]; replace HX := Lib.hid HX)
    | (refine HX.out.mono ?_; rintro e w5 ⟨rfl, s2, A2, c2, ws2, ac2, b2, h2, S2, hk, q5⟩; replace hG := h1.other S2 hG (by decide) (by decide) (by decide); replace S2 := S1.trans S2))
  refine leaves_cons (f := 74) (args := #[.pointer (some ⟨w.heap.size, 0, none⟩)]) (by simp) (by simp [go_sem]) ?_
  refine (dcatch_lv h2 w.heap.size hG ca v p hca q5).mono ?_
  rintro e u' w9 ⟨rfl, rfl, h9, S9⟩
  exact ⟨_, results_none rfl _ _ _, rfl, s2, A2, c2, ws2, ac2, b2, hk, h9, S2.trans S9⟩
end Go.Proofs.YtidhodalnikhlaaGreatDoor
