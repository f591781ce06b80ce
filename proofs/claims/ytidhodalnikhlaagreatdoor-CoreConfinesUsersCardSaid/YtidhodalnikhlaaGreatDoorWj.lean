/-
  THE INSTRUCTIONS OF a step, three.
-/
import Derived.Test.YtidhodalnikhlaaGreatDoorWi
namespace Go.Proofs.YtidhodalnikhlaaGreatDoor
open Go.RowKit Go.ChangeShapes Go.WideShapes Go.ChangeAt

theorem wp_store_at {P : Program} {o : Oper} {a : Act} {w : World} {K : Act → World → Prop} {Q : Exit → Act → World → Prop} (ty : TypeId) (x y : Operand) (ho : o.op = .store ty x y)
    (g off : Nat) (t : TypeId) (old cs : List Value) (hx : a.eval x = .pointer (some ⟨g, off, none⟩)) (hy : a.eval y = .agg cs.toArray) (hg : Blk w g t old)
    (hi : (P.info? ty).map (·.size) = some cs.length) (hold : off + cs.length ≤ old.length) (h1 : ∀ v ∈ cs, v.oneCell' = true)
    (h : ∀ w', Blk w' g t (old.take off ++ cs ++ old.drop (off + cs.length)) → Only g w w' → K (a.put o.dst undef) w') : o.wp P a w K Q :=
  wp_store_mid ty x y ho g off cs.toArray hx hy (hg.there off _ (by simpa using hold)) (by rw [List.size_toArray]; exact hi) (all_oneCell_toArray h1) (h _ (hg.sets off cs hold) (Only.sets _ _ _ _))
theorem io_sz (x : Bool) (y z : Int) : (Tryz.prog.info? 36).map (·.size) = some [Value.bool x, .int .i64 y, .int .u32 z].length := by
  show _ = some 3
  kernel_rfl
set_option maxRecDepth 100000 in
set_option maxHeartbeats 2000000 in
theorem ask_any {base : Nat} {w : World} {B : Nat} {s : Sp} {A : Option Addr} {n c : Nat} {ws : List (Int × Int × Int)} {ac : List (Int × Int × Bool)} {b : Wm.Bs} (h : At base w B s A n c ws ac b) (x : Bool) (y z : Int) : Calls Tryz.prog 170 #[.pointer (some ⟨B, 0, none⟩), .agg #[.bool x, .int .i64 y, .int .u32 z]] w fun e w' => e = .returned (.tuple #[]) ∧ At base w' B { s with ak := true, ii := x, ip := y, iv := z } A n c ws ac b ∧ St base B w s w' { s with ak := true, ii := x, ip := y, iv := z } := by
  have l1 : Later w (w.alloc (.cells #[.bool x, .int .i64 y, .int .u32 z] 36)).drew := Below.drew (later1 w (.cells #[.bool x, .int .i64 y, .int .u32 z] 36))
  have h1 := h.later l1
  have S1 := St.later (B := B) s h.lt l1
  have bB := (Blk.new w 36 #[.bool x, .int .i64 y, .int .u32 z] [.bool x, .int .i64 y, .int .u32 z] rfl).drew
  have e1 := h1.bx.cell (j := 101) (v := .bool s.ak) rfl
  have f1 := h1.bx.frz 101
  clear h
  go_enter Tryz.func170, Tryz.ntmps170
  go_wp2
  refine wp_region_held_drew (S := fun w' => w'.cell? ⟨w.heap.size, 0, none⟩ = some (.bool x) ∧ w'.cell? ⟨w.heap.size, 1, none⟩ = some (.int .i64 y) ∧ w'.cell? ⟨w.heap.size, 2, none⟩ = some (.int .u32 z) ∧ True) (by kernel_rfl) ⟨bB.cell (j := 0) rfl, bB.cell (j := 1) rfl, bB.cell (j := 2) rfl, trivial⟩ (fun hHeld => ?_)
  refine wpAnyH_take (i := 0) (oi := ⟨some 4, .move (.tmp 0), _, _, _, none⟩) (v := .pointer (some ⟨B, 0, none⟩)) rfl (by kernel_rfl) (by kernel_rfl) (by kernel_rfl) (fun _ _ _ h => h) (Or.inl ⟨by rfl, fun _ _ => rfl⟩) hHeld ?_
  simp only [Act.put, List.setIfInBounds_toArray, List.set_cons_zero, List.set_cons_succ]
  refine wpAnyH_take (i := 1) (oi := ⟨some 5, .move (.tmp 0), _, _, _, none⟩) (v := .pointer (some ⟨B, 0, none⟩)) rfl (by kernel_rfl) (by kernel_rfl) (by kernel_rfl) (fun _ _ _ h => h) (Or.inl ⟨by rfl, fun _ _ => rfl⟩) hHeld ?_
  simp only [Act.put, List.setIfInBounds_toArray, List.set_cons_zero, List.set_cons_succ]
  refine wpAnyH_take (i := 2) (oi := ⟨some 6, .load 36 (.tmp 3), _, _, _, none⟩) (v := .agg #[.bool x, .int .i64 y, .int .u32 z]) rfl (by kernel_rfl) (by kernel_rfl) (by kernel_rfl) (fun _ _ _ h => h) (Or.inl ⟨by rfl, fun w hSw => by obtain ⟨e1, e2, e3, _⟩ := hSw; go_simp⟩) hHeld ?_
  simp only [Act.put, List.setIfInBounds_toArray, List.set_cons_zero, List.set_cons_succ]
  refine wpAnyH_take (i := 3) (oi := ⟨some 7, .nilCheck (.tmp 4), _, _, _, none⟩) (v := .pointer (some ⟨B, 0, none⟩)) rfl (by kernel_rfl) (by kernel_rfl) (by kernel_rfl) (fun _ _ _ h => h) (Or.inl ⟨by rfl, fun w _ => by go_simp⟩) hHeld ?_
  simp only [Act.put, List.setIfInBounds_toArray, List.set_cons_zero, List.set_cons_succ]
  refine wpAnyH_take (i := 4) (oi := ⟨some 8, .fieldAddr 86 (.tmp 7) 4, _, _, _, none⟩) (v := .pointer (some ⟨B, 37, none⟩)) rfl (by kernel_rfl) (by kernel_rfl) (by kernel_rfl) (fun _ _ _ h => h) (Or.inl ⟨by rfl, fun w _ => by go_simp⟩) hHeld ?_
  simp only [Act.put, List.setIfInBounds_toArray, List.set_cons_zero, List.set_cons_succ]
  refine wpAnyH_take (i := 5) (oi := ⟨some 9, .fieldAddr 38 (.tmp 8) 6, _, _, _, none⟩) (v := .pointer (some ⟨B, 101, none⟩)) rfl (by kernel_rfl) (by kernel_rfl) (by kernel_rfl) (fun _ _ _ h => h) (Or.inl ⟨by rfl, fun w _ => by go_simp⟩) hHeld ?_
  simp only [Act.put, List.setIfInBounds_toArray, List.set_cons_zero, List.set_cons_succ]
  refine wpAnyH_ready (rs := [6]) (by kernel_rfl) (by simp) (AllReadyH.cons (o := ⟨none, .store 4 (.tmp 9) (.const (.bool true)), _, _, _, none⟩) rfl (fun K' hK => ?_) AllReadyH.nil)
  go_simp
  obtain ⟨h2, S2⟩ := h1.set (s' := { s with ak := true }) 101 (.bool true) rfl rfl rfl rfl
  replace bB := h1.other S2 bB (by decide) (by decide) (by decide)
  refine hK.out _ _ ⟨bB.cell (j := 0) rfl, bB.cell (j := 1) rfl, bB.cell (j := 2) rfl, trivial⟩ (fun hHeld => ?_)
  clear hK K'
  try simp only [Act.put, List.setIfInBounds_toArray, List.set_cons_zero, List.set_cons_succ]
  refine wpAnyH_take (i := 7) (oi := ⟨some 10, .nilCheck (.tmp 5), _, _, _, none⟩) (v := .pointer (some ⟨B, 0, none⟩)) rfl (by kernel_rfl) (by kernel_rfl) (by kernel_rfl) (fun _ _ _ h => h) (Or.inl ⟨by rfl, fun w _ => by go_simp⟩) hHeld ?_
  simp only [Act.put, List.setIfInBounds_toArray, List.set_cons_zero, List.set_cons_succ]
  refine wpAnyH_take (i := 8) (oi := ⟨some 11, .fieldAddr 86 (.tmp 10) 4, _, _, _, none⟩) (v := .pointer (some ⟨B, 37, none⟩)) rfl (by kernel_rfl) (by kernel_rfl) (by kernel_rfl) (fun _ _ _ h => h) (Or.inl ⟨by rfl, fun w _ => by go_simp⟩) hHeld ?_
  simp only [Act.put, List.setIfInBounds_toArray, List.set_cons_zero, List.set_cons_succ]
  refine wpAnyH_take (i := 9) (oi := ⟨some 12, .fieldAddr 38 (.tmp 11) 7, _, _, _, none⟩) (v := .pointer (some ⟨B, 102, none⟩)) rfl (by kernel_rfl) (by kernel_rfl) (by kernel_rfl) (fun _ _ _ h => h) (Or.inl ⟨by rfl, fun w _ => by go_simp⟩) hHeld ?_
  simp only [Act.put, List.setIfInBounds_toArray, List.set_cons_zero, List.set_cons_succ]
  refine wpAnyH_ready (rs := [10]) (by kernel_rfl) (by simp) (AllReadyH.cons (o := ⟨none, .store 36 (.tmp 12) (.tmp 6), _, _, _, none⟩) rfl (fun K' hK => ?_) AllReadyH.nil)
  refine wp_store_at 36 (.tmp 12) (.tmp 6) rfl B 102 86 _ [.bool x, .int .i64 y, .int .u32 z] rfl rfl h2.bx (io_sz x y z) (show 102 + 3 ≤ 108 from by decide) (fun u hu => by simp only [List.mem_cons, List.not_mem_nil, or_false] at hu; rcases hu with rfl | rfl | rfl <;> rfl) ?_
  intro w3 b3 o3
  replace b3 : Blk w3 B 86 ({ s with ak := true, ii := x, ip := y, iv := z } : Sp).cells := b3
  obtain ⟨h3, S3⟩ := h2.put o3 b3 rfl rfl rfl
  replace bB := h2.other S3 bB (by decide) (by decide) (by decide)
  refine hK.out _ _ ⟨bB.cell (j := 0) rfl, bB.cell (j := 1) rfl, bB.cell (j := 2) rfl, trivial⟩ (fun hHeld => ?_)
  clear hK K'
  try simp only [Act.put]
  refine wpAnyH_done (by kernel_rfl) ?_ _
  clear hHeld
  go_wp2
  go_end0
  exact ⟨rfl, h3, (S1.trans S2).trans S3⟩
set_option maxRecDepth 100000 in
set_option maxHeartbeats 2000000 in
theorem in_any {base : Nat} {w : World} {B : Nat} {s : Sp} {A : Option Addr} {n c : Nat} {ws : List (Int × Int × Int)} {ac : List (Int × Int × Bool)} {b : Wm.Bs} (h : At base w B s A n c ws ac b) : Calls Tryz.prog 148 #[.pointer (some ⟨B, 0, none⟩)] w fun e w' => e = .returned (.tuple #[]) ∧ At base w' B { s with ak := true, ii := true, ip := s.im, iv := 0 } A n c ws ac b ∧ St base B w s w' { s with ak := true, ii := true, ip := s.im, iv := 0 } := by
  have HK := Lib.hid (ask_any h true s.im 0)
  have e0 := h.bx.cell (j := 36) (v := .int .i64 s.im) rfl
  clear h
  go_enter Tryz.func148, Tryz.ntmps148
  go_wp2_with (go_at_call 170; refine HK.out.mono ?_; rintro e w2 ⟨rfl, hA, hS⟩)
  go_end0
  exact ⟨rfl, hA, hS⟩
set_option maxRecDepth 100000 in
set_option maxHeartbeats 2000000 in
theorem out_any {base : Nat} {w : World} {B : Nat} {s : Sp} {A : Option Addr} {n c : Nat} {ws : List (Int × Int × Int)} {ac : List (Int × Int × Bool)} {b : Wm.Bs} (h : At base w B s A n c ws ac b) (hr : Im.Right s.ins) : Calls Tryz.prog 149 #[.pointer (some ⟨B, 0, none⟩)] w fun e w' => e = .returned (.tuple #[]) ∧ At base w' B { s with ak := true, ii := false, ip := s.im, iv := s.c.rg s.ia } A n c ws ac b ∧ St base B w s w' { s with ak := true, ii := false, ip := s.im, iv := s.c.rg s.ia } := by
  have HB := Lib.hid fun w' (l : Later w w') => a_at (h.bx.keep l) hr
  have HK := Lib.hid fun w' (l : Later w w') => ask_any (h.later l) false s.im (s.c.rg s.ia)
  have HC := Lib.hid fun w' (l : Later w w') => (h.bx.keep l).cell (j := 36) (v := .int .i64 s.im) rfl
  have hlt := h.lt
  obtain ⟨x, hx⟩ : ∃ x, x = s.c.rg s.ia := ⟨_, rfl⟩
  rw [← hx] at HB HK ⊢
  have l0 : Later w w.drew := Below.drew (later0 _)
  clear h hr hx
  go_enter Tryz.func149, Tryz.ntmps149
  go_wp2
  refine wp_region_held_drew (S := fun w' => w'.cell? ⟨B, 36, none⟩ = some (.int .i64 s.im)) (by kernel_rfl) (HC.out _ l0) (fun hHeld => ?_)
  refine wpAnyH_take (i := 0) (oi := ⟨some 2, .move (.tmp 0), _, _, _, none⟩) (v := .pointer (some ⟨B, 0, none⟩)) rfl (by kernel_rfl) (by kernel_rfl) (by kernel_rfl) (fun _ _ _ h => h) (Or.inl ⟨by rfl, fun _ _ => rfl⟩) hHeld ?_
  simp only [Act.put, List.setIfInBounds_toArray, List.set_cons_zero, List.set_cons_succ]
  refine wpAnyH_take (i := 1) (oi := ⟨some 3, .move (.tmp 0), _, _, _, none⟩) (v := .pointer (some ⟨B, 0, none⟩)) rfl (by kernel_rfl) (by kernel_rfl) (by kernel_rfl) (fun _ _ _ h => h) (Or.inl ⟨by rfl, fun _ _ => rfl⟩) hHeld ?_
  simp only [Act.put, List.setIfInBounds_toArray, List.set_cons_zero, List.set_cons_succ]
  refine wpAnyH_take (i := 2) (oi := ⟨some 4, .nilCheck (.tmp 3), _, _, _, none⟩) (v := .pointer (some ⟨B, 0, none⟩)) rfl (by kernel_rfl) (by kernel_rfl) (by kernel_rfl) (fun _ _ _ h => h) (Or.inl ⟨by rfl, fun w _ => by go_simp⟩) hHeld ?_
  simp only [Act.put, List.setIfInBounds_toArray, List.set_cons_zero, List.set_cons_succ]
  refine wpAnyH_take (i := 3) (oi := ⟨some 5, .fieldAddr 86 (.tmp 4) 3, _, _, _, none⟩) (v := .pointer (some ⟨B, 32, none⟩)) rfl (by kernel_rfl) (by kernel_rfl) (by kernel_rfl) (fun _ _ _ h => h) (Or.inl ⟨by rfl, fun w _ => by go_simp⟩) hHeld ?_
  simp only [Act.put, List.setIfInBounds_toArray, List.set_cons_zero, List.set_cons_succ]
  refine wpAnyH_take (i := 4) (oi := ⟨some 6, .fieldAddr 70 (.tmp 5) 4, _, _, _, none⟩) (v := .pointer (some ⟨B, 36, none⟩)) rfl (by kernel_rfl) (by kernel_rfl) (by kernel_rfl) (fun _ _ _ h => h) (Or.inl ⟨by rfl, fun w _ => by go_simp⟩) hHeld ?_
  simp only [Act.put, List.setIfInBounds_toArray, List.set_cons_zero, List.set_cons_succ]
  refine wpAnyH_take (i := 5) (oi := ⟨some 7, .load 3 (.tmp 6), _, _, _, none⟩) (v := .int .i64 s.im) rfl (by kernel_rfl) (by kernel_rfl) (by kernel_rfl) (fun _ _ _ h => h) (Or.inl ⟨by rfl, fun w hSw => by have e1 := hSw; clear hSw; go_simp⟩) hHeld ?_
  simp only [Act.put, List.setIfInBounds_toArray, List.set_cons_zero, List.set_cons_succ]
  refine wpAnyH_take (i := 6) (oi := ⟨some 8, .move (.tmp 0), _, _, _, none⟩) (v := .pointer (some ⟨B, 0, none⟩)) rfl (by kernel_rfl) (by kernel_rfl) (by kernel_rfl) (fun _ _ _ h => h) (Or.inl ⟨by rfl, fun _ _ => rfl⟩) hHeld ?_
  simp only [Act.put, List.setIfInBounds_toArray, List.set_cons_zero, List.set_cons_succ]
  refine wpAnyH_ready (rs := [7]) (by kernel_rfl) (by simp) (AllReadyH.cons (o := ⟨some 9, .call { callee := .value (.func 169), args := #[.tmp 8], argTypes := #[147] }, _, _, _, none⟩) rfl (fun K' hK => ?_) (AllReadyH.nil))
  go_simp
  refine (HB.out _ l0).mono ?_
  rintro e w1 ⟨rfl, l1⟩
  replace l0 := Later.trans_ l0 l1
  refine hK.out _ _ (by first | exact (HC.out _ l0) | exact (hA.bx.cell (j := 36) rfl)) (fun hHeld => ?_)
  clear hK K'
  try simp only [Act.put, List.setIfInBounds_toArray, List.set_cons_zero, List.set_cons_succ]
  refine wpAnyH_take (i := 8) (oi := ⟨some 10, .build 36 #[(1, .tmp 7), (2, .tmp 9)], _, _, _, none⟩) (v := .agg #[.bool false, .int .i64 s.im, .int .u32 x]) rfl (by kernel_rfl) (by kernel_rfl) (by kernel_rfl) (fun _ _ _ h => h) (Or.inl ⟨by rfl, fun w _ => by go_simp⟩) hHeld ?_
  simp only [Act.put, List.setIfInBounds_toArray, List.set_cons_zero, List.set_cons_succ]
  refine wpAnyH_ready (rs := [9]) (by kernel_rfl) (by simp) (AllReadyH.cons (o := ⟨some 11, .call { callee := .value (.func 170), args := #[.tmp 2, .tmp 10], argTypes := #[147, 36] }, _, _, _, none⟩) rfl (fun K' hK => ?_) (AllReadyH.nil))
  go_simp
  refine (HK.out _ l0).mono ?_
  rintro e w2 ⟨rfl, hA, hS⟩
  clear HC
  refine hK.out _ _ (by first | exact (HC.out _ l0) | exact (hA.bx.cell (j := 36) rfl)) (fun hHeld => ?_)
  clear hK K'
  try simp only [Act.put, List.setIfInBounds_toArray, List.set_cons_zero, List.set_cons_succ]
  refine wpAnyH_done (by kernel_rfl) ?_ _
  clear hHeld
  go_wp2
  go_end0
  exact ⟨rfl, hA, (St.later _ hlt l0).trans hS⟩
set_option maxRecDepth 100000 in
set_option maxHeartbeats 2000000 in
theorem csrr_ok {base : Nat} {w : World} {B : Nat} {s : Sp} {A : Option Addr} {n c : Nat} {ws : List (Int × Int × Int)} {ac : List (Int × Int × Bool)} {b : Wm.Bs} (h : At base w B s A n c ws ac b) (hr : Im.Right s.ins) (tab : Tab w) (hp : Tm.isE s.p) (he : errR s.im = 0) : Calls Tryz.prog 144 #[.pointer (some ⟨B, 0, none⟩)] w fun e w' => e = .returned (.tuple #[]) ∧ At base w' B { s with c := s.c.putR s.ins (s.c.ctl s.im s.p) } A n c ws ac b ∧ St base B w s w' { s with c := s.c.putR s.ins (s.c.ctl s.im s.p) } := by
  have HC := Lib.hid fun w' (l : Later w w') => h.bx.keep l
  have hlt := h.lt
  have l0 : Later w w.drew := Below.drew (later0 _)
  have HP := Lib.hid fun w' (l : Later w w') x => put_any (h.later l) hr (tab.keep l) x
  have HR := Lib.hid fun w' => read_any_T s.c s.im s.p w' hp
  rw [he] at HR
  obtain ⟨q, hq⟩ : ∃ q, q = s.c.ctl s.im s.p := ⟨_, rfl⟩
  rw [← hq] at HR ⊢
  clear h hr tab hp he hq
  go_enter Tryz.func144, Tryz.ntmps144
  go_wp2
  refine wp_region_held_drew (S := fun w' => Blk w' B 86 s.cells) (by kernel_rfl) (HC.out _ l0) (fun hHeld => ?_)
  refine wpAnyH_take (i := 0) (oi := ⟨some 5, .move (.tmp 0), _, _, _, none⟩) (v := .pointer (some ⟨B, 0, none⟩)) rfl (by kernel_rfl) (by kernel_rfl) (by kernel_rfl) (fun _ _ _ h => h) (Or.inl ⟨by rfl, fun _ _ => rfl⟩) hHeld ?_
  simp only [Act.put, List.setIfInBounds_toArray, List.set_cons_zero, List.set_cons_succ]
  refine wpAnyH_take (i := 1) (oi := ⟨some 6, .nilCheck (.tmp 5), _, _, _, none⟩) (v := .pointer (some ⟨B, 0, none⟩)) rfl (by kernel_rfl) (by kernel_rfl) (by kernel_rfl) (fun _ _ _ h => h) (Or.inl ⟨by rfl, fun w _ => by go_simp⟩) hHeld ?_
  simp only [Act.put, List.setIfInBounds_toArray, List.set_cons_zero, List.set_cons_succ]
  refine wpAnyH_take (i := 2) (oi := ⟨some 7, .fieldAddr 86 (.tmp 6) 0, _, _, _, none⟩) (v := .pointer (some ⟨B, 0, none⟩)) rfl (by kernel_rfl) (by kernel_rfl) (by kernel_rfl) (fun _ _ _ h => h) (Or.inl ⟨by rfl, fun w _ => by go_simp⟩) hHeld ?_
  simp only [Act.put, List.setIfInBounds_toArray, List.set_cons_zero, List.set_cons_succ]
  refine wpAnyH_take (i := 3) (oi := ⟨some 8, .load 26 (.tmp 7), _, _, _, none⟩) (v := .agg s.c.cells.toArray) rfl (by kernel_rfl) (by kernel_rfl) (by kernel_rfl) (fun _ _ _ h => h) (yieldsIf_load_mid (by rfl) _ _ rfl B 0 rfl s.c.cells _ (fun w hSw => Blk.range hSw 0 30) Tryz.underlying26 rfl (cpu_sz s.c)) hHeld ?_
  simp only [Act.put, List.setIfInBounds_toArray, List.set_cons_zero, List.set_cons_succ]
  refine wpAnyH_take (i := 4) (oi := ⟨some 9, .move (.tmp 0), _, _, _, none⟩) (v := .pointer (some ⟨B, 0, none⟩)) rfl (by kernel_rfl) (by kernel_rfl) (by kernel_rfl) (fun _ _ _ h => h) (Or.inl ⟨by rfl, fun _ _ => rfl⟩) hHeld ?_
  simp only [Act.put, List.setIfInBounds_toArray, List.set_cons_zero, List.set_cons_succ]
  refine wpAnyH_take (i := 5) (oi := ⟨some 10, .nilCheck (.tmp 9), _, _, _, none⟩) (v := .pointer (some ⟨B, 0, none⟩)) rfl (by kernel_rfl) (by kernel_rfl) (by kernel_rfl) (fun _ _ _ h => h) (Or.inl ⟨by rfl, fun w _ => by go_simp⟩) hHeld ?_
  simp only [Act.put, List.setIfInBounds_toArray, List.set_cons_zero, List.set_cons_succ]
  refine wpAnyH_take (i := 6) (oi := ⟨some 11, .fieldAddr 86 (.tmp 10) 3, _, _, _, none⟩) (v := .pointer (some ⟨B, 32, none⟩)) rfl (by kernel_rfl) (by kernel_rfl) (by kernel_rfl) (fun _ _ _ h => h) (Or.inl ⟨by rfl, fun w _ => by go_simp⟩) hHeld ?_
  simp only [Act.put, List.setIfInBounds_toArray, List.set_cons_zero, List.set_cons_succ]
  refine wpAnyH_take (i := 7) (oi := ⟨some 12, .fieldAddr 70 (.tmp 11) 4, _, _, _, none⟩) (v := .pointer (some ⟨B, 36, none⟩)) rfl (by kernel_rfl) (by kernel_rfl) (by kernel_rfl) (fun _ _ _ h => h) (Or.inl ⟨by rfl, fun w _ => by go_simp⟩) hHeld ?_
  simp only [Act.put, List.setIfInBounds_toArray, List.set_cons_zero, List.set_cons_succ]
  refine wpAnyH_take (i := 8) (oi := ⟨some 13, .load 3 (.tmp 12), _, _, _, none⟩) (v := .int .i64 s.im) rfl (by kernel_rfl) (by kernel_rfl) (by kernel_rfl) (fun _ _ _ h => h) (Or.inl ⟨by rfl, fun w hSw => by have e1 := hSw.cell (j := 36) (v := .int .i64 s.im) rfl; clear hSw; go_simp⟩) hHeld ?_
  simp only [Act.put, List.setIfInBounds_toArray, List.set_cons_zero, List.set_cons_succ]
  refine wpAnyH_take (i := 9) (oi := ⟨some 14, .move (.tmp 0), _, _, _, none⟩) (v := .pointer (some ⟨B, 0, none⟩)) rfl (by kernel_rfl) (by kernel_rfl) (by kernel_rfl) (fun _ _ _ h => h) (Or.inl ⟨by rfl, fun _ _ => rfl⟩) hHeld ?_
  simp only [Act.put, List.setIfInBounds_toArray, List.set_cons_zero, List.set_cons_succ]
  refine wpAnyH_take (i := 10) (oi := ⟨some 15, .nilCheck (.tmp 14), _, _, _, none⟩) (v := .pointer (some ⟨B, 0, none⟩)) rfl (by kernel_rfl) (by kernel_rfl) (by kernel_rfl) (fun _ _ _ h => h) (Or.inl ⟨by rfl, fun w _ => by go_simp⟩) hHeld ?_
  simp only [Act.put, List.setIfInBounds_toArray, List.set_cons_zero, List.set_cons_succ]
  refine wpAnyH_take (i := 11) (oi := ⟨some 16, .fieldAddr 86 (.tmp 15) 2, _, _, _, none⟩) (v := .pointer (some ⟨B, 31, none⟩)) rfl (by kernel_rfl) (by kernel_rfl) (by kernel_rfl) (fun _ _ _ h => h) (Or.inl ⟨by rfl, fun w _ => by go_simp⟩) hHeld ?_
  simp only [Act.put, List.setIfInBounds_toArray, List.set_cons_zero, List.set_cons_succ]
  refine wpAnyH_take (i := 12) (oi := ⟨some 17, .load 22 (.tmp 16), _, _, _, none⟩) (v := .int .u32 s.p) rfl (by kernel_rfl) (by kernel_rfl) (by kernel_rfl) (fun _ _ _ h => h) (Or.inl ⟨by rfl, fun w hSw => by have e1 := hSw.cell (j := 31) (v := .int .u32 s.p) rfl; clear hSw; go_simp⟩) hHeld ?_
  simp only [Act.put, List.setIfInBounds_toArray, List.set_cons_zero, List.set_cons_succ]
  refine wpAnyH_ready (rs := [13]) (by kernel_rfl) (by simp) (AllReadyH.cons (o := ⟨some 18, .call { callee := .value (.func 167), args := #[.tmp 8, .tmp 13, .tmp 17], argTypes := #[26, 3, 22] }, _, _, _, none⟩) rfl (fun K' hK => ?_) (AllReadyH.nil))
  go_simp
  refine (HR.out _).mono ?_
  rintro e w1 ⟨rfl, l1⟩
  replace l0 := Later.trans_ l0 l1
  refine hK.out _ _ (HC.out _ l0) (fun hHeld => ?_)
  clear hK K'
  try simp only [Act.put, List.setIfInBounds_toArray, List.set_cons_zero, List.set_cons_succ]
  refine wpAnyH_take (i := 14) (oi := ⟨some 4, .move (.tmp 18), _, _, _, none⟩) (v := .tuple #[.int .u32 q, .int .i64 0]) rfl (by kernel_rfl) (by kernel_rfl) (by kernel_rfl) (fun _ _ _ h => h) (Or.inl ⟨by rfl, fun _ _ => rfl⟩) hHeld ?_
  simp only [Act.put, List.setIfInBounds_toArray, List.set_cons_zero, List.set_cons_succ]
  refine wpAnyH_take (i := 15) (oi := ⟨some 19, .extract (.tmp 4) 0, _, _, _, none⟩) (v := .int .u32 q) rfl (by kernel_rfl) (by kernel_rfl) (by kernel_rfl) (fun _ _ _ h => h) (Or.inl ⟨by rfl, fun w _ => by go_simp⟩) hHeld ?_
  simp only [Act.put, List.setIfInBounds_toArray, List.set_cons_zero, List.set_cons_succ]
  refine wpAnyH_take (i := 16) (oi := ⟨some 20, .extract (.tmp 4) 1, _, _, _, none⟩) (v := .int .i64 0) rfl (by kernel_rfl) (by kernel_rfl) (by kernel_rfl) (fun _ _ _ h => h) (Or.inl ⟨by rfl, fun w _ => by go_simp⟩) hHeld ?_
  simp only [Act.put, List.setIfInBounds_toArray, List.set_cons_zero, List.set_cons_succ]
  refine wpAnyH_take (i := 17) (oi := ⟨some 2, .assign (.tmp 19), _, _, _, none⟩) (v := .int .u32 q) rfl (by kernel_rfl) (by kernel_rfl) (by kernel_rfl) (fun _ _ _ h => h) (Or.inl ⟨by rfl, fun _ _ => rfl⟩) hHeld ?_
  simp only [Act.put, List.setIfInBounds_toArray, List.set_cons_zero, List.set_cons_succ]
  refine wpAnyH_take (i := 18) (oi := ⟨some 3, .assign (.tmp 20), _, _, _, none⟩) (v := .int .i64 0) rfl (by kernel_rfl) (by kernel_rfl) (by kernel_rfl) (fun _ _ _ h => h) (Or.inl ⟨by rfl, fun _ _ => rfl⟩) hHeld ?_
  simp only [Act.put, List.setIfInBounds_toArray, List.set_cons_zero, List.set_cons_succ]
  refine wpAnyH_done (by kernel_rfl) ?_ _
  clear hHeld
  go_wp2_with (first
    | (go_at_call 118; refine require_yes.mono ?_; rintro e w6 ⟨rfl, rfl⟩)
    | (go_at_call 142; refine (HP.out _ l0 _).mono ?_; rintro e w2 ⟨rfl, hA, hS⟩))
  go_end0
  exact ⟨rfl, hA, (St.later _ hlt l0).trans hS⟩
set_option maxRecDepth 100000 in
set_option maxHeartbeats 2000000 in
theorem csrr_bad {base : Nat} {w : World} {B : Nat} {s : Sp} {A : Option Addr} {n c : Nat} {ws : List (Int × Int × Int)} {ac : List (Int × Int × Bool)} {b : Wm.Bs} (h : At base w B s A n c ws ac b) (hp : Tm.isE s.p) (he : errR s.im ≠ 0) : Calls Tryz.prog 144 #[.pointer (some ⟨B, 0, none⟩)] w fun e w' => e = .panicked (Lv 2 s.wd s.old.pc) ∧ At base w' B s A n c ws ac b ∧ St base B w s w' s := by
  have HC := Lib.hid fun w' (l : Later w w') => h.bx.keep l
  have hlt := h.lt
  have l0 : Later w w.drew := Below.drew (later0 _)
  have H0 := Lib.hid fun w' (l : Later w w') => h.later l
  have HR := Lib.hid fun w' => read_any_T s.c s.im s.p w' hp
  obtain ⟨q, hq⟩ : ∃ q, q = s.c.ctl s.im s.p := ⟨_, rfl⟩
  obtain ⟨er, hx⟩ : ∃ q, q = errR s.im := ⟨_, rfl⟩
  rw [← hq, ← hx] at HR
  rw [← hx] at he
  have he0 : (er == 0) = false := beq_false_of_ne he
  clear h hp he hq hx
  go_enter Tryz.func144, Tryz.ntmps144
  go_wp2
  refine wp_region_held_drew (S := fun w' => Blk w' B 86 s.cells) (by kernel_rfl) (HC.out _ l0) (fun hHeld => ?_)
  refine wpAnyH_take (i := 0) (oi := ⟨some 5, .move (.tmp 0), _, _, _, none⟩) (v := .pointer (some ⟨B, 0, none⟩)) rfl (by kernel_rfl) (by kernel_rfl) (by kernel_rfl) (fun _ _ _ h => h) (Or.inl ⟨by rfl, fun _ _ => rfl⟩) hHeld ?_
  simp only [Act.put, List.setIfInBounds_toArray, List.set_cons_zero, List.set_cons_succ]
  refine wpAnyH_take (i := 1) (oi := ⟨some 6, .nilCheck (.tmp 5), _, _, _, none⟩) (v := .pointer (some ⟨B, 0, none⟩)) rfl (by kernel_rfl) (by kernel_rfl) (by kernel_rfl) (fun _ _ _ h => h) (Or.inl ⟨by rfl, fun w _ => by go_simp⟩) hHeld ?_
  simp only [Act.put, List.setIfInBounds_toArray, List.set_cons_zero, List.set_cons_succ]
  refine wpAnyH_take (i := 2) (oi := ⟨some 7, .fieldAddr 86 (.tmp 6) 0, _, _, _, none⟩) (v := .pointer (some ⟨B, 0, none⟩)) rfl (by kernel_rfl) (by kernel_rfl) (by kernel_rfl) (fun _ _ _ h => h) (Or.inl ⟨by rfl, fun w _ => by go_simp⟩) hHeld ?_
  simp only [Act.put, List.setIfInBounds_toArray, List.set_cons_zero, List.set_cons_succ]
  refine wpAnyH_take (i := 3) (oi := ⟨some 8, .load 26 (.tmp 7), _, _, _, none⟩) (v := .agg s.c.cells.toArray) rfl (by kernel_rfl) (by kernel_rfl) (by kernel_rfl) (fun _ _ _ h => h) (yieldsIf_load_mid (by rfl) _ _ rfl B 0 rfl s.c.cells _ (fun w hSw => Blk.range hSw 0 30) Tryz.underlying26 rfl (cpu_sz s.c)) hHeld ?_
  simp only [Act.put, List.setIfInBounds_toArray, List.set_cons_zero, List.set_cons_succ]
  refine wpAnyH_take (i := 4) (oi := ⟨some 9, .move (.tmp 0), _, _, _, none⟩) (v := .pointer (some ⟨B, 0, none⟩)) rfl (by kernel_rfl) (by kernel_rfl) (by kernel_rfl) (fun _ _ _ h => h) (Or.inl ⟨by rfl, fun _ _ => rfl⟩) hHeld ?_
  simp only [Act.put, List.setIfInBounds_toArray, List.set_cons_zero, List.set_cons_succ]
  refine wpAnyH_take (i := 5) (oi := ⟨some 10, .nilCheck (.tmp 9), _, _, _, none⟩) (v := .pointer (some ⟨B, 0, none⟩)) rfl (by kernel_rfl) (by kernel_rfl) (by kernel_rfl) (fun _ _ _ h => h) (Or.inl ⟨by rfl, fun w _ => by go_simp⟩) hHeld ?_
  simp only [Act.put, List.setIfInBounds_toArray, List.set_cons_zero, List.set_cons_succ]
  refine wpAnyH_take (i := 6) (oi := ⟨some 11, .fieldAddr 86 (.tmp 10) 3, _, _, _, none⟩) (v := .pointer (some ⟨B, 32, none⟩)) rfl (by kernel_rfl) (by kernel_rfl) (by kernel_rfl) (fun _ _ _ h => h) (Or.inl ⟨by rfl, fun w _ => by go_simp⟩) hHeld ?_
  simp only [Act.put, List.setIfInBounds_toArray, List.set_cons_zero, List.set_cons_succ]
  refine wpAnyH_take (i := 7) (oi := ⟨some 12, .fieldAddr 70 (.tmp 11) 4, _, _, _, none⟩) (v := .pointer (some ⟨B, 36, none⟩)) rfl (by kernel_rfl) (by kernel_rfl) (by kernel_rfl) (fun _ _ _ h => h) (Or.inl ⟨by rfl, fun w _ => by go_simp⟩) hHeld ?_
  simp only [Act.put, List.setIfInBounds_toArray, List.set_cons_zero, List.set_cons_succ]
  refine wpAnyH_take (i := 8) (oi := ⟨some 13, .load 3 (.tmp 12), _, _, _, none⟩) (v := .int .i64 s.im) rfl (by kernel_rfl) (by kernel_rfl) (by kernel_rfl) (fun _ _ _ h => h) (Or.inl ⟨by rfl, fun w hSw => by have e1 := hSw.cell (j := 36) (v := .int .i64 s.im) rfl; clear hSw; go_simp⟩) hHeld ?_
  simp only [Act.put, List.setIfInBounds_toArray, List.set_cons_zero, List.set_cons_succ]
  refine wpAnyH_take (i := 9) (oi := ⟨some 14, .move (.tmp 0), _, _, _, none⟩) (v := .pointer (some ⟨B, 0, none⟩)) rfl (by kernel_rfl) (by kernel_rfl) (by kernel_rfl) (fun _ _ _ h => h) (Or.inl ⟨by rfl, fun _ _ => rfl⟩) hHeld ?_
  simp only [Act.put, List.setIfInBounds_toArray, List.set_cons_zero, List.set_cons_succ]
  refine wpAnyH_take (i := 10) (oi := ⟨some 15, .nilCheck (.tmp 14), _, _, _, none⟩) (v := .pointer (some ⟨B, 0, none⟩)) rfl (by kernel_rfl) (by kernel_rfl) (by kernel_rfl) (fun _ _ _ h => h) (Or.inl ⟨by rfl, fun w _ => by go_simp⟩) hHeld ?_
  simp only [Act.put, List.setIfInBounds_toArray, List.set_cons_zero, List.set_cons_succ]
  refine wpAnyH_take (i := 11) (oi := ⟨some 16, .fieldAddr 86 (.tmp 15) 2, _, _, _, none⟩) (v := .pointer (some ⟨B, 31, none⟩)) rfl (by kernel_rfl) (by kernel_rfl) (by kernel_rfl) (fun _ _ _ h => h) (Or.inl ⟨by rfl, fun w _ => by go_simp⟩) hHeld ?_
  simp only [Act.put, List.setIfInBounds_toArray, List.set_cons_zero, List.set_cons_succ]
  refine wpAnyH_take (i := 12) (oi := ⟨some 17, .load 22 (.tmp 16), _, _, _, none⟩) (v := .int .u32 s.p) rfl (by kernel_rfl) (by kernel_rfl) (by kernel_rfl) (fun _ _ _ h => h) (Or.inl ⟨by rfl, fun w hSw => by have e1 := hSw.cell (j := 31) (v := .int .u32 s.p) rfl; clear hSw; go_simp⟩) hHeld ?_
  simp only [Act.put, List.setIfInBounds_toArray, List.set_cons_zero, List.set_cons_succ]
  refine wpAnyH_ready (rs := [13]) (by kernel_rfl) (by simp) (AllReadyH.cons (o := ⟨some 18, .call { callee := .value (.func 167), args := #[.tmp 8, .tmp 13, .tmp 17], argTypes := #[26, 3, 22] }, _, _, _, none⟩) rfl (fun K' hK => ?_) (AllReadyH.nil))
  go_simp
  refine (HR.out _).mono ?_
  rintro e w1 ⟨rfl, l1⟩
  replace l0 := Later.trans_ l0 l1
  refine hK.out _ _ (HC.out _ l0) (fun hHeld => ?_)
  clear hK K'
  try simp only [Act.put, List.setIfInBounds_toArray, List.set_cons_zero, List.set_cons_succ]
  refine wpAnyH_take (i := 14) (oi := ⟨some 4, .move (.tmp 18), _, _, _, none⟩) (v := .tuple #[.int .u32 q, .int .i64 er]) rfl (by kernel_rfl) (by kernel_rfl) (by kernel_rfl) (fun _ _ _ h => h) (Or.inl ⟨by rfl, fun _ _ => rfl⟩) hHeld ?_
  simp only [Act.put, List.setIfInBounds_toArray, List.set_cons_zero, List.set_cons_succ]
  refine wpAnyH_take (i := 15) (oi := ⟨some 19, .extract (.tmp 4) 0, _, _, _, none⟩) (v := .int .u32 q) rfl (by kernel_rfl) (by kernel_rfl) (by kernel_rfl) (fun _ _ _ h => h) (Or.inl ⟨by rfl, fun w _ => by go_simp⟩) hHeld ?_
  simp only [Act.put, List.setIfInBounds_toArray, List.set_cons_zero, List.set_cons_succ]
  refine wpAnyH_take (i := 16) (oi := ⟨some 20, .extract (.tmp 4) 1, _, _, _, none⟩) (v := .int .i64 er) rfl (by kernel_rfl) (by kernel_rfl) (by kernel_rfl) (fun _ _ _ h => h) (Or.inl ⟨by rfl, fun w _ => by go_simp⟩) hHeld ?_
  simp only [Act.put, List.setIfInBounds_toArray, List.set_cons_zero, List.set_cons_succ]
  refine wpAnyH_take (i := 17) (oi := ⟨some 2, .assign (.tmp 19), _, _, _, none⟩) (v := .int .u32 q) rfl (by kernel_rfl) (by kernel_rfl) (by kernel_rfl) (fun _ _ _ h => h) (Or.inl ⟨by rfl, fun _ _ => rfl⟩) hHeld ?_
  simp only [Act.put, List.setIfInBounds_toArray, List.set_cons_zero, List.set_cons_succ]
  refine wpAnyH_take (i := 18) (oi := ⟨some 3, .assign (.tmp 20), _, _, _, none⟩) (v := .int .i64 er) rfl (by kernel_rfl) (by kernel_rfl) (by kernel_rfl) (fun _ _ _ h => h) (Or.inl ⟨by rfl, fun _ _ => rfl⟩) hHeld ?_
  simp only [Act.put, List.setIfInBounds_toArray, List.set_cons_zero, List.set_cons_succ]
  refine wpAnyH_done (by kernel_rfl) ?_ _
  clear hHeld
  go_wp2_with (go_at_call 118; refine (require_no (HC.out _ l0)).mono ?_; rintro e w6 ⟨rfl, rfl⟩)
  exact ⟨rfl, rfl, H0.out _ l0, St.later _ hlt l0⟩
set_option maxRecDepth 100000 in
set_option maxHeartbeats 2000000 in
theorem csrw_ok {base : Nat} {w : World} {B : Nat} {s : Sp} {A : Option Addr} {n c : Nat} {ws : List (Int × Int × Int)} {ac : List (Int × Int × Bool)} {b : Wm.Bs} (h : At base w B s A n c ws ac b) (hr : Im.Right s.ins) (hv : Tm.isE (s.c.rg s.ia)) (he : errW s.im = 0) : Calls Tryz.prog 145 #[.pointer (some ⟨B, 0, none⟩)] w fun e w' => e = .returned (.tuple #[]) ∧ At base w' B { s with c := s.c.put s.im (s.c.rg s.ia) } A n c ws ac b ∧ St base B w s w' { s with c := s.c.put s.im (s.c.rg s.ia) } := by
  have HB := Lib.hid fun w' (l : Later w w') => a_at (h.bx.keep l) hr
  have HC := Lib.hid fun w' (l : Later w w') => h.bx.keep l
  have H0 := Lib.hid fun w' (l : Later w w') => h.later l
  have HW := Lib.hid fun w' => write_any s.c s.im (s.c.rg s.ia) w' hv
  have hlt := h.lt
  have l0 : Later w w.drew := Below.drew (later0 _)
  obtain ⟨x, hx⟩ : ∃ q, q = s.c.rg s.ia := ⟨_, rfl⟩
  rw [← hx] at HB HW
  rw [he] at HW
  rw [← hx]
  obtain ⟨y, hy⟩ : ∃ q, q = s.c.put s.im x := ⟨_, rfl⟩
  rw [← hy] at HW ⊢
  clear h hr he hx hy hv
  go_enter Tryz.func145, Tryz.ntmps145
  go_wp2
  refine wp_region_held_drew (S := fun w' => Blk w' B 86 s.cells) (by kernel_rfl) (HC.out _ l0) (fun hHeld => ?_)
  refine wpAnyH_take (i := 0) (oi := ⟨some 5, .move (.tmp 0), _, _, _, none⟩) (v := .pointer (some ⟨B, 0, none⟩)) rfl (by kernel_rfl) (by kernel_rfl) (by kernel_rfl) (fun _ _ _ h => h) (Or.inl ⟨by rfl, fun _ _ => rfl⟩) hHeld ?_
  simp only [Act.put, List.setIfInBounds_toArray, List.set_cons_zero, List.set_cons_succ]
  refine wpAnyH_take (i := 1) (oi := ⟨some 6, .nilCheck (.tmp 5), _, _, _, none⟩) (v := .pointer (some ⟨B, 0, none⟩)) rfl (by kernel_rfl) (by kernel_rfl) (by kernel_rfl) (fun _ _ _ h => h) (Or.inl ⟨by rfl, fun w _ => by go_simp⟩) hHeld ?_
  simp only [Act.put, List.setIfInBounds_toArray, List.set_cons_zero, List.set_cons_succ]
  refine wpAnyH_take (i := 2) (oi := ⟨some 7, .fieldAddr 86 (.tmp 6) 0, _, _, _, none⟩) (v := .pointer (some ⟨B, 0, none⟩)) rfl (by kernel_rfl) (by kernel_rfl) (by kernel_rfl) (fun _ _ _ h => h) (Or.inl ⟨by rfl, fun w _ => by go_simp⟩) hHeld ?_
  simp only [Act.put, List.setIfInBounds_toArray, List.set_cons_zero, List.set_cons_succ]
  refine wpAnyH_take (i := 3) (oi := ⟨some 8, .load 26 (.tmp 7), _, _, _, none⟩) (v := .agg s.c.cells.toArray) rfl (by kernel_rfl) (by kernel_rfl) (by kernel_rfl) (fun _ _ _ h => h) (yieldsIf_load_mid (by rfl) _ _ rfl B 0 rfl s.c.cells _ (fun w hSw => Blk.range hSw 0 30) Tryz.underlying26 rfl (cpu_sz s.c)) hHeld ?_
  simp only [Act.put, List.setIfInBounds_toArray, List.set_cons_zero, List.set_cons_succ]
  refine wpAnyH_take (i := 4) (oi := ⟨some 9, .move (.tmp 0), _, _, _, none⟩) (v := .pointer (some ⟨B, 0, none⟩)) rfl (by kernel_rfl) (by kernel_rfl) (by kernel_rfl) (fun _ _ _ h => h) (Or.inl ⟨by rfl, fun _ _ => rfl⟩) hHeld ?_
  simp only [Act.put, List.setIfInBounds_toArray, List.set_cons_zero, List.set_cons_succ]
  refine wpAnyH_take (i := 5) (oi := ⟨some 10, .nilCheck (.tmp 9), _, _, _, none⟩) (v := .pointer (some ⟨B, 0, none⟩)) rfl (by kernel_rfl) (by kernel_rfl) (by kernel_rfl) (fun _ _ _ h => h) (Or.inl ⟨by rfl, fun w _ => by go_simp⟩) hHeld ?_
  simp only [Act.put, List.setIfInBounds_toArray, List.set_cons_zero, List.set_cons_succ]
  refine wpAnyH_take (i := 6) (oi := ⟨some 11, .fieldAddr 86 (.tmp 10) 3, _, _, _, none⟩) (v := .pointer (some ⟨B, 32, none⟩)) rfl (by kernel_rfl) (by kernel_rfl) (by kernel_rfl) (fun _ _ _ h => h) (Or.inl ⟨by rfl, fun w _ => by go_simp⟩) hHeld ?_
  simp only [Act.put, List.setIfInBounds_toArray, List.set_cons_zero, List.set_cons_succ]
  refine wpAnyH_take (i := 7) (oi := ⟨some 12, .fieldAddr 70 (.tmp 11) 4, _, _, _, none⟩) (v := .pointer (some ⟨B, 36, none⟩)) rfl (by kernel_rfl) (by kernel_rfl) (by kernel_rfl) (fun _ _ _ h => h) (Or.inl ⟨by rfl, fun w _ => by go_simp⟩) hHeld ?_
  simp only [Act.put, List.setIfInBounds_toArray, List.set_cons_zero, List.set_cons_succ]
  refine wpAnyH_take (i := 8) (oi := ⟨some 13, .load 3 (.tmp 12), _, _, _, none⟩) (v := .int .i64 s.im) rfl (by kernel_rfl) (by kernel_rfl) (by kernel_rfl) (fun _ _ _ h => h) (Or.inl ⟨by rfl, fun w hSw => by have e1 := hSw.cell (j := 36) (v := .int .i64 s.im) rfl; clear hSw; go_simp⟩) hHeld ?_
  simp only [Act.put, List.setIfInBounds_toArray, List.set_cons_zero, List.set_cons_succ]
  refine wpAnyH_take (i := 9) (oi := ⟨some 14, .move (.tmp 0), _, _, _, none⟩) (v := .pointer (some ⟨B, 0, none⟩)) rfl (by kernel_rfl) (by kernel_rfl) (by kernel_rfl) (fun _ _ _ h => h) (Or.inl ⟨by rfl, fun _ _ => rfl⟩) hHeld ?_
  simp only [Act.put, List.setIfInBounds_toArray, List.set_cons_zero, List.set_cons_succ]
  refine wpAnyH_ready (rs := [10, 15]) (by kernel_rfl) (by simp) (AllReadyH.cons (o := ⟨some 15, .call { callee := .value (.func 169), args := #[.tmp 14], argTypes := #[147] }, _, _, _, none⟩) rfl (fun K' hK => ?_) (AllReadyH.cons (o := ⟨some 2, .alloc 26, _, _, _, none⟩) rfl (fun K' hK => ?_) AllReadyH.nil))
  · go_simp
    refine (HB.out _ l0).mono ?_
    rintro e w1 ⟨rfl, l1⟩
    replace l0 := Later.trans_ l0 l1
    refine hK.out _ _ (HC.out _ l0) (fun hHeld => ?_)
    clear hK K'
    try simp only [Act.put, List.setIfInBounds_toArray, List.set_cons_zero, List.set_cons_succ]
    refine wpAnyH_ready (rs := [11, 15]) (by kernel_rfl) (by simp) (AllReadyH.cons (o := ⟨some 16, .call { callee := .value (.func 168), args := #[.tmp 8, .tmp 13, .tmp 15], argTypes := #[26, 3, 22] }, _, _, _, none⟩) rfl (fun K' hK => ?_) (AllReadyH.cons (o := ⟨some 2, .alloc 26, _, _, _, none⟩) rfl (fun K' hK => ?_) AllReadyH.nil))
    · go_simp
      refine (HW.out _).mono ?_
      rintro e w2 ⟨rfl, l2⟩
      replace l0 := Later.trans_ l0 l2
      refine hK.out _ _ (HC.out _ l0) (fun hHeld => ?_)
      clear hK K'
      try simp only [Act.put, List.setIfInBounds_toArray, List.set_cons_zero, List.set_cons_succ]
      refine wpAnyH_take (i := 12) (oi := ⟨some 4, .move (.tmp 16), _, _, _, none⟩) (v := .tuple #[.agg y.cells.toArray, .int .i64 0]) rfl (by kernel_rfl) (by kernel_rfl) (by kernel_rfl) (fun _ _ _ h => h) (Or.inl ⟨by rfl, fun _ _ => rfl⟩) hHeld ?_
      simp only [Act.put, List.setIfInBounds_toArray, List.set_cons_zero, List.set_cons_succ]
      refine wpAnyH_take (i := 13) (oi := ⟨some 17, .extract (.tmp 4) 0, _, _, _, none⟩) (v := .agg y.cells.toArray) rfl (by kernel_rfl) (by kernel_rfl) (by kernel_rfl) (fun _ _ _ h => h) (Or.inl ⟨by rfl, fun w _ => by go_simp⟩) hHeld ?_
      simp only [Act.put, List.setIfInBounds_toArray, List.set_cons_zero, List.set_cons_succ]
      refine wpAnyH_take (i := 14) (oi := ⟨some 18, .extract (.tmp 4) 1, _, _, _, none⟩) (v := .int .i64 0) rfl (by kernel_rfl) (by kernel_rfl) (by kernel_rfl) (fun _ _ _ h => h) (Or.inl ⟨by rfl, fun w _ => by go_simp⟩) hHeld ?_
      simp only [Act.put, List.setIfInBounds_toArray, List.set_cons_zero, List.set_cons_succ]
      refine wpAnyH_ready (rs := [15]) (by kernel_rfl) (by simp) (AllReadyH.cons (o := ⟨some 2, .alloc 26, _, _, _, none⟩) rfl (fun K' hK => ?_) AllReadyH.nil)
      go_simp
      have hG : w.heap.size ≤ w2.heap.size := l0.size
      have bG := Blk.new w2 26 zC.cells.toArray zC.cells rfl
      replace l0 : Later w (w2.alloc (.cells zC.cells.toArray 26)) := Later.trans_ l0 (later1 w2 (.cells zC.cells.toArray 26))
      refine hK.out _ _ (HC.out _ l0) (fun hHeld => ?_)
      clear hK K'
      try simp only [Act.put, List.setIfInBounds_toArray, List.set_cons_zero, List.set_cons_succ]
      refine wpAnyH_ready (rs := [16]) (by kernel_rfl) (by simp) (AllReadyH.cons (o := ⟨none, .store 26 (.tmp 2) (.tmp 17), _, _, _, none⟩) rfl (fun K' hK => ?_) AllReadyH.nil)
      refine wp_store_at _ _ _ rfl _ 0 26 zC.cells y.cells rfl rfl bG (cpu_sz y) (show 0 + 30 ≤ 30 from by decide) (cpu_one y) ?_
      intro w5 b5 o5
      replace b5 : Blk w5 _ 26 y.cells := b5
      replace l0 : Later w w5 := Below.only l0 o5 hG
      refine hK.out _ _ (HC.out _ l0) (fun hHeld => ?_)
      clear hK K'
      try simp only [Act.put]
      refine wpAnyH_take (i := 17) (oi := ⟨some 3, .assign (.tmp 18), _, _, _, none⟩) (v := .int .i64 0) rfl (by kernel_rfl) (by kernel_rfl) (by kernel_rfl) (fun _ _ _ h => h) (Or.inl ⟨by rfl, fun _ _ => rfl⟩) hHeld ?_
      simp only [Act.put, List.setIfInBounds_toArray, List.set_cons_zero, List.set_cons_succ]
      refine wpAnyH_done (by kernel_rfl) ?_ _
      clear hHeld
      go_wp2_with (first
        | (go_at_call 118; refine require_yes.mono ?_; rintro e w6 ⟨rfl, rfl⟩)
        | (refine wpList_load_blk (o := ⟨some 24, .load 26 (.tmp 2), _, _, _, none⟩) rfl _ _ rfl _ 26 y.cells _ ?_ b5 Tryz.underlying26 rfl (cpu_sz y) ?_; (try rfl))
        | (refine wpList_store_at (o := ⟨none, .store 26 (.tmp 26) (.tmp 24), _, _, _, none⟩) rfl _ _ _ rfl rfl B 0 86 s.cells y.cells ?_ ?_ (HC.out _ l0) (cpu_sz _) (show 0 + 30 ≤ 108 from by decide) (cpu_one _) ?_; (try rfl); (try rfl); intro w7 b7 o7; rw [take_cpu] at b7; obtain ⟨h7, S7⟩ := (H0.out _ l0).put (s' := { s with c := y }) o7 b7 rfl rfl rfl))
      go_end0
      exact ⟨rfl, h7, (St.later _ hlt l0).trans S7⟩
    · go_simp
      have hG : w.heap.size ≤ w1.heap.size := l0.size
      have bG := Blk.new w1 26 zC.cells.toArray zC.cells rfl
      replace l0 : Later w (w1.alloc (.cells zC.cells.toArray 26)) := Later.trans_ l0 (later1 w1 (.cells zC.cells.toArray 26))
      refine hK.out _ _ (HC.out _ l0) (fun hHeld => ?_)
      clear hK K'
      try simp only [Act.put, List.setIfInBounds_toArray, List.set_cons_zero, List.set_cons_succ]
      refine wpAnyH_ready (rs := [11]) (by kernel_rfl) (by simp) (AllReadyH.cons (o := ⟨some 16, .call { callee := .value (.func 168), args := #[.tmp 8, .tmp 13, .tmp 15], argTypes := #[26, 3, 22] }, _, _, _, none⟩) rfl (fun K' hK => ?_) AllReadyH.nil)
      go_simp
      refine (HW.out _).mono ?_
      rintro e w2 ⟨rfl, l2⟩
      replace bG := bG.keep l2
      replace l0 := Later.trans_ l0 l2
      refine hK.out _ _ (HC.out _ l0) (fun hHeld => ?_)
      clear hK K'
      try simp only [Act.put, List.setIfInBounds_toArray, List.set_cons_zero, List.set_cons_succ]
      refine wpAnyH_take (i := 12) (oi := ⟨some 4, .move (.tmp 16), _, _, _, none⟩) (v := .tuple #[.agg y.cells.toArray, .int .i64 0]) rfl (by kernel_rfl) (by kernel_rfl) (by kernel_rfl) (fun _ _ _ h => h) (Or.inl ⟨by rfl, fun _ _ => rfl⟩) hHeld ?_
      simp only [Act.put, List.setIfInBounds_toArray, List.set_cons_zero, List.set_cons_succ]
      refine wpAnyH_take (i := 13) (oi := ⟨some 17, .extract (.tmp 4) 0, _, _, _, none⟩) (v := .agg y.cells.toArray) rfl (by kernel_rfl) (by kernel_rfl) (by kernel_rfl) (fun _ _ _ h => h) (Or.inl ⟨by rfl, fun w _ => by go_simp⟩) hHeld ?_
      simp only [Act.put, List.setIfInBounds_toArray, List.set_cons_zero, List.set_cons_succ]
      refine wpAnyH_take (i := 14) (oi := ⟨some 18, .extract (.tmp 4) 1, _, _, _, none⟩) (v := .int .i64 0) rfl (by kernel_rfl) (by kernel_rfl) (by kernel_rfl) (fun _ _ _ h => h) (Or.inl ⟨by rfl, fun w _ => by go_simp⟩) hHeld ?_
      simp only [Act.put, List.setIfInBounds_toArray, List.set_cons_zero, List.set_cons_succ]
      refine wpAnyH_ready (rs := [16]) (by kernel_rfl) (by simp) (AllReadyH.cons (o := ⟨none, .store 26 (.tmp 2) (.tmp 17), _, _, _, none⟩) rfl (fun K' hK => ?_) AllReadyH.nil)
      refine wp_store_at _ _ _ rfl _ 0 26 zC.cells y.cells rfl rfl bG (cpu_sz y) (show 0 + 30 ≤ 30 from by decide) (cpu_one y) ?_
      intro w5 b5 o5
      replace b5 : Blk w5 _ 26 y.cells := b5
      replace l0 : Later w w5 := Below.only l0 o5 hG
      refine hK.out _ _ (HC.out _ l0) (fun hHeld => ?_)
      clear hK K'
      try simp only [Act.put]
      refine wpAnyH_take (i := 17) (oi := ⟨some 3, .assign (.tmp 18), _, _, _, none⟩) (v := .int .i64 0) rfl (by kernel_rfl) (by kernel_rfl) (by kernel_rfl) (fun _ _ _ h => h) (Or.inl ⟨by rfl, fun _ _ => rfl⟩) hHeld ?_
      simp only [Act.put, List.setIfInBounds_toArray, List.set_cons_zero, List.set_cons_succ]
      refine wpAnyH_done (by kernel_rfl) ?_ _
      clear hHeld
      go_wp2_with (first
        | (go_at_call 118; refine require_yes.mono ?_; rintro e w6 ⟨rfl, rfl⟩)
        | (refine wpList_load_blk (o := ⟨some 24, .load 26 (.tmp 2), _, _, _, none⟩) rfl _ _ rfl _ 26 y.cells _ ?_ b5 Tryz.underlying26 rfl (cpu_sz y) ?_; (try rfl))
        | (refine wpList_store_at (o := ⟨none, .store 26 (.tmp 26) (.tmp 24), _, _, _, none⟩) rfl _ _ _ rfl rfl B 0 86 s.cells y.cells ?_ ?_ (HC.out _ l0) (cpu_sz _) (show 0 + 30 ≤ 108 from by decide) (cpu_one _) ?_; (try rfl); (try rfl); intro w7 b7 o7; rw [take_cpu] at b7; obtain ⟨h7, S7⟩ := (H0.out _ l0).put (s' := { s with c := y }) o7 b7 rfl rfl rfl))
      go_end0
      exact ⟨rfl, h7, (St.later _ hlt l0).trans S7⟩
  · go_simp
    have hG : w.heap.size ≤ w.drew.heap.size := l0.size
    have bG := Blk.new w.drew 26 zC.cells.toArray zC.cells rfl
    replace l0 : Later w (w.drew.alloc (.cells zC.cells.toArray 26)) := Later.trans_ l0 (later1 w.drew (.cells zC.cells.toArray 26))
    refine hK.out _ _ (HC.out _ l0) (fun hHeld => ?_)
    clear hK K'
    try simp only [Act.put, List.setIfInBounds_toArray, List.set_cons_zero, List.set_cons_succ]
    refine wpAnyH_ready (rs := [10]) (by kernel_rfl) (by simp) (AllReadyH.cons (o := ⟨some 15, .call { callee := .value (.func 169), args := #[.tmp 14], argTypes := #[147] }, _, _, _, none⟩) rfl (fun K' hK => ?_) AllReadyH.nil)
    go_simp
    refine (HB.out _ l0).mono ?_
    rintro e w1 ⟨rfl, l1⟩
    replace bG := bG.keep l1
    replace l0 := Later.trans_ l0 l1
    refine hK.out _ _ (HC.out _ l0) (fun hHeld => ?_)
    clear hK K'
    try simp only [Act.put, List.setIfInBounds_toArray, List.set_cons_zero, List.set_cons_succ]
    refine wpAnyH_ready (rs := [11]) (by kernel_rfl) (by simp) (AllReadyH.cons (o := ⟨some 16, .call { callee := .value (.func 168), args := #[.tmp 8, .tmp 13, .tmp 15], argTypes := #[26, 3, 22] }, _, _, _, none⟩) rfl (fun K' hK => ?_) AllReadyH.nil)
    go_simp
    refine (HW.out _).mono ?_
    rintro e w2 ⟨rfl, l2⟩
    replace bG := bG.keep l2
    replace l0 := Later.trans_ l0 l2
    refine hK.out _ _ (HC.out _ l0) (fun hHeld => ?_)
    clear hK K'
    try simp only [Act.put, List.setIfInBounds_toArray, List.set_cons_zero, List.set_cons_succ]
    refine wpAnyH_take (i := 12) (oi := ⟨some 4, .move (.tmp 16), _, _, _, none⟩) (v := .tuple #[.agg y.cells.toArray, .int .i64 0]) rfl (by kernel_rfl) (by kernel_rfl) (by kernel_rfl) (fun _ _ _ h => h) (Or.inl ⟨by rfl, fun _ _ => rfl⟩) hHeld ?_
    simp only [Act.put, List.setIfInBounds_toArray, List.set_cons_zero, List.set_cons_succ]
    refine wpAnyH_take (i := 13) (oi := ⟨some 17, .extract (.tmp 4) 0, _, _, _, none⟩) (v := .agg y.cells.toArray) rfl (by kernel_rfl) (by kernel_rfl) (by kernel_rfl) (fun _ _ _ h => h) (Or.inl ⟨by rfl, fun w _ => by go_simp⟩) hHeld ?_
    simp only [Act.put, List.setIfInBounds_toArray, List.set_cons_zero, List.set_cons_succ]
    refine wpAnyH_take (i := 14) (oi := ⟨some 18, .extract (.tmp 4) 1, _, _, _, none⟩) (v := .int .i64 0) rfl (by kernel_rfl) (by kernel_rfl) (by kernel_rfl) (fun _ _ _ h => h) (Or.inl ⟨by rfl, fun w _ => by go_simp⟩) hHeld ?_
    simp only [Act.put, List.setIfInBounds_toArray, List.set_cons_zero, List.set_cons_succ]
    refine wpAnyH_ready (rs := [16]) (by kernel_rfl) (by simp) (AllReadyH.cons (o := ⟨none, .store 26 (.tmp 2) (.tmp 17), _, _, _, none⟩) rfl (fun K' hK => ?_) AllReadyH.nil)
    refine wp_store_at _ _ _ rfl _ 0 26 zC.cells y.cells rfl rfl bG (cpu_sz y) (show 0 + 30 ≤ 30 from by decide) (cpu_one y) ?_
    intro w5 b5 o5
    replace b5 : Blk w5 _ 26 y.cells := b5
    replace l0 : Later w w5 := Below.only l0 o5 hG
    refine hK.out _ _ (HC.out _ l0) (fun hHeld => ?_)
    clear hK K'
    try simp only [Act.put]
    refine wpAnyH_take (i := 17) (oi := ⟨some 3, .assign (.tmp 18), _, _, _, none⟩) (v := .int .i64 0) rfl (by kernel_rfl) (by kernel_rfl) (by kernel_rfl) (fun _ _ _ h => h) (Or.inl ⟨by rfl, fun _ _ => rfl⟩) hHeld ?_
    simp only [Act.put, List.setIfInBounds_toArray, List.set_cons_zero, List.set_cons_succ]
    refine wpAnyH_done (by kernel_rfl) ?_ _
    clear hHeld
    go_wp2_with (first
      | (go_at_call 118; refine require_yes.mono ?_; rintro e w6 ⟨rfl, rfl⟩)
      | (refine wpList_load_blk (o := ⟨some 24, .load 26 (.tmp 2), _, _, _, none⟩) rfl _ _ rfl _ 26 y.cells _ ?_ b5 Tryz.underlying26 rfl (cpu_sz y) ?_; (try rfl))
      | (refine wpList_store_at (o := ⟨none, .store 26 (.tmp 26) (.tmp 24), _, _, _, none⟩) rfl _ _ _ rfl rfl B 0 86 s.cells y.cells ?_ ?_ (HC.out _ l0) (cpu_sz _) (show 0 + 30 ≤ 108 from by decide) (cpu_one _) ?_; (try rfl); (try rfl); intro w7 b7 o7; rw [take_cpu] at b7; obtain ⟨h7, S7⟩ := (H0.out _ l0).put (s' := { s with c := y }) o7 b7 rfl rfl rfl))
    go_end0
    exact ⟨rfl, h7, (St.later _ hlt l0).trans S7⟩
set_option maxRecDepth 100000 in
set_option maxHeartbeats 2000000 in
theorem csrw_bad {base : Nat} {w : World} {B : Nat} {s : Sp} {A : Option Addr} {n c : Nat} {ws : List (Int × Int × Int)} {ac : List (Int × Int × Bool)} {b : Wm.Bs} (h : At base w B s A n c ws ac b) (hr : Im.Right s.ins) (hv : Tm.isE (s.c.rg s.ia)) (he : errW s.im ≠ 0) : Calls Tryz.prog 145 #[.pointer (some ⟨B, 0, none⟩)] w fun e w' => e = .panicked (Lv 2 s.wd s.old.pc) ∧ At base w' B s A n c ws ac b ∧ St base B w s w' s := by
  have HB := Lib.hid fun w' (l : Later w w') => a_at (h.bx.keep l) hr
  have HC := Lib.hid fun w' (l : Later w w') => h.bx.keep l
  have H0 := Lib.hid fun w' (l : Later w w') => h.later l
  have HW := Lib.hid fun w' => write_any s.c s.im (s.c.rg s.ia) w' hv
  have hlt := h.lt
  have l0 : Later w w.drew := Below.drew (later0 _)
  obtain ⟨x, hx⟩ : ∃ q, q = s.c.rg s.ia := ⟨_, rfl⟩
  rw [← hx] at HB HW
  obtain ⟨y, hy⟩ : ∃ q, q = s.c.put s.im x := ⟨_, rfl⟩
  obtain ⟨er, hz⟩ : ∃ q, q = errW s.im := ⟨_, rfl⟩
  rw [← hy, ← hz] at HW
  rw [← hz] at he
  have he0 : (er == 0) = false := beq_false_of_ne he
  clear h hr he hx hy hz hv
  go_enter Tryz.func145, Tryz.ntmps145
  go_wp2
  refine wp_region_held_drew (S := fun w' => Blk w' B 86 s.cells) (by kernel_rfl) (HC.out _ l0) (fun hHeld => ?_)
  refine wpAnyH_take (i := 0) (oi := ⟨some 5, .move (.tmp 0), _, _, _, none⟩) (v := .pointer (some ⟨B, 0, none⟩)) rfl (by kernel_rfl) (by kernel_rfl) (by kernel_rfl) (fun _ _ _ h => h) (Or.inl ⟨by rfl, fun _ _ => rfl⟩) hHeld ?_
  simp only [Act.put, List.setIfInBounds_toArray, List.set_cons_zero, List.set_cons_succ]
  refine wpAnyH_take (i := 1) (oi := ⟨some 6, .nilCheck (.tmp 5), _, _, _, none⟩) (v := .pointer (some ⟨B, 0, none⟩)) rfl (by kernel_rfl) (by kernel_rfl) (by kernel_rfl) (fun _ _ _ h => h) (Or.inl ⟨by rfl, fun w _ => by go_simp⟩) hHeld ?_
  simp only [Act.put, List.setIfInBounds_toArray, List.set_cons_zero, List.set_cons_succ]
  refine wpAnyH_take (i := 2) (oi := ⟨some 7, .fieldAddr 86 (.tmp 6) 0, _, _, _, none⟩) (v := .pointer (some ⟨B, 0, none⟩)) rfl (by kernel_rfl) (by kernel_rfl) (by kernel_rfl) (fun _ _ _ h => h) (Or.inl ⟨by rfl, fun w _ => by go_simp⟩) hHeld ?_
  simp only [Act.put, List.setIfInBounds_toArray, List.set_cons_zero, List.set_cons_succ]
  refine wpAnyH_take (i := 3) (oi := ⟨some 8, .load 26 (.tmp 7), _, _, _, none⟩) (v := .agg s.c.cells.toArray) rfl (by kernel_rfl) (by kernel_rfl) (by kernel_rfl) (fun _ _ _ h => h) (yieldsIf_load_mid (by rfl) _ _ rfl B 0 rfl s.c.cells _ (fun w hSw => Blk.range hSw 0 30) Tryz.underlying26 rfl (cpu_sz s.c)) hHeld ?_
  simp only [Act.put, List.setIfInBounds_toArray, List.set_cons_zero, List.set_cons_succ]
  refine wpAnyH_take (i := 4) (oi := ⟨some 9, .move (.tmp 0), _, _, _, none⟩) (v := .pointer (some ⟨B, 0, none⟩)) rfl (by kernel_rfl) (by kernel_rfl) (by kernel_rfl) (fun _ _ _ h => h) (Or.inl ⟨by rfl, fun _ _ => rfl⟩) hHeld ?_
  simp only [Act.put, List.setIfInBounds_toArray, List.set_cons_zero, List.set_cons_succ]
  refine wpAnyH_take (i := 5) (oi := ⟨some 10, .nilCheck (.tmp 9), _, _, _, none⟩) (v := .pointer (some ⟨B, 0, none⟩)) rfl (by kernel_rfl) (by kernel_rfl) (by kernel_rfl) (fun _ _ _ h => h) (Or.inl ⟨by rfl, fun w _ => by go_simp⟩) hHeld ?_
  simp only [Act.put, List.setIfInBounds_toArray, List.set_cons_zero, List.set_cons_succ]
  refine wpAnyH_take (i := 6) (oi := ⟨some 11, .fieldAddr 86 (.tmp 10) 3, _, _, _, none⟩) (v := .pointer (some ⟨B, 32, none⟩)) rfl (by kernel_rfl) (by kernel_rfl) (by kernel_rfl) (fun _ _ _ h => h) (Or.inl ⟨by rfl, fun w _ => by go_simp⟩) hHeld ?_
  simp only [Act.put, List.setIfInBounds_toArray, List.set_cons_zero, List.set_cons_succ]
  refine wpAnyH_take (i := 7) (oi := ⟨some 12, .fieldAddr 70 (.tmp 11) 4, _, _, _, none⟩) (v := .pointer (some ⟨B, 36, none⟩)) rfl (by kernel_rfl) (by kernel_rfl) (by kernel_rfl) (fun _ _ _ h => h) (Or.inl ⟨by rfl, fun w _ => by go_simp⟩) hHeld ?_
  simp only [Act.put, List.setIfInBounds_toArray, List.set_cons_zero, List.set_cons_succ]
  refine wpAnyH_take (i := 8) (oi := ⟨some 13, .load 3 (.tmp 12), _, _, _, none⟩) (v := .int .i64 s.im) rfl (by kernel_rfl) (by kernel_rfl) (by kernel_rfl) (fun _ _ _ h => h) (Or.inl ⟨by rfl, fun w hSw => by have e1 := hSw.cell (j := 36) (v := .int .i64 s.im) rfl; clear hSw; go_simp⟩) hHeld ?_
  simp only [Act.put, List.setIfInBounds_toArray, List.set_cons_zero, List.set_cons_succ]
  refine wpAnyH_take (i := 9) (oi := ⟨some 14, .move (.tmp 0), _, _, _, none⟩) (v := .pointer (some ⟨B, 0, none⟩)) rfl (by kernel_rfl) (by kernel_rfl) (by kernel_rfl) (fun _ _ _ h => h) (Or.inl ⟨by rfl, fun _ _ => rfl⟩) hHeld ?_
  simp only [Act.put, List.setIfInBounds_toArray, List.set_cons_zero, List.set_cons_succ]
  refine wpAnyH_ready (rs := [10, 15]) (by kernel_rfl) (by simp) (AllReadyH.cons (o := ⟨some 15, .call { callee := .value (.func 169), args := #[.tmp 14], argTypes := #[147] }, _, _, _, none⟩) rfl (fun K' hK => ?_) (AllReadyH.cons (o := ⟨some 2, .alloc 26, _, _, _, none⟩) rfl (fun K' hK => ?_) AllReadyH.nil))
  · go_simp
    refine (HB.out _ l0).mono ?_
    rintro e w1 ⟨rfl, l1⟩
    replace l0 := Later.trans_ l0 l1
    refine hK.out _ _ (HC.out _ l0) (fun hHeld => ?_)
    clear hK K'
    try simp only [Act.put, List.setIfInBounds_toArray, List.set_cons_zero, List.set_cons_succ]
    refine wpAnyH_ready (rs := [11, 15]) (by kernel_rfl) (by simp) (AllReadyH.cons (o := ⟨some 16, .call { callee := .value (.func 168), args := #[.tmp 8, .tmp 13, .tmp 15], argTypes := #[26, 3, 22] }, _, _, _, none⟩) rfl (fun K' hK => ?_) (AllReadyH.cons (o := ⟨some 2, .alloc 26, _, _, _, none⟩) rfl (fun K' hK => ?_) AllReadyH.nil))
    · go_simp
      refine (HW.out _).mono ?_
      rintro e w2 ⟨rfl, l2⟩
      replace l0 := Later.trans_ l0 l2
      refine hK.out _ _ (HC.out _ l0) (fun hHeld => ?_)
      clear hK K'
      try simp only [Act.put, List.setIfInBounds_toArray, List.set_cons_zero, List.set_cons_succ]
      refine wpAnyH_take (i := 12) (oi := ⟨some 4, .move (.tmp 16), _, _, _, none⟩) (v := .tuple #[.agg y.cells.toArray, .int .i64 er]) rfl (by kernel_rfl) (by kernel_rfl) (by kernel_rfl) (fun _ _ _ h => h) (Or.inl ⟨by rfl, fun _ _ => rfl⟩) hHeld ?_
      simp only [Act.put, List.setIfInBounds_toArray, List.set_cons_zero, List.set_cons_succ]
      refine wpAnyH_take (i := 13) (oi := ⟨some 17, .extract (.tmp 4) 0, _, _, _, none⟩) (v := .agg y.cells.toArray) rfl (by kernel_rfl) (by kernel_rfl) (by kernel_rfl) (fun _ _ _ h => h) (Or.inl ⟨by rfl, fun w _ => by go_simp⟩) hHeld ?_
      simp only [Act.put, List.setIfInBounds_toArray, List.set_cons_zero, List.set_cons_succ]
      refine wpAnyH_take (i := 14) (oi := ⟨some 18, .extract (.tmp 4) 1, _, _, _, none⟩) (v := .int .i64 er) rfl (by kernel_rfl) (by kernel_rfl) (by kernel_rfl) (fun _ _ _ h => h) (Or.inl ⟨by rfl, fun w _ => by go_simp⟩) hHeld ?_
      simp only [Act.put, List.setIfInBounds_toArray, List.set_cons_zero, List.set_cons_succ]
      refine wpAnyH_ready (rs := [15]) (by kernel_rfl) (by simp) (AllReadyH.cons (o := ⟨some 2, .alloc 26, _, _, _, none⟩) rfl (fun K' hK => ?_) AllReadyH.nil)
      go_simp
      have hG : w.heap.size ≤ w2.heap.size := l0.size
      have bG := Blk.new w2 26 zC.cells.toArray zC.cells rfl
      replace l0 : Later w (w2.alloc (.cells zC.cells.toArray 26)) := Later.trans_ l0 (later1 w2 (.cells zC.cells.toArray 26))
      refine hK.out _ _ (HC.out _ l0) (fun hHeld => ?_)
      clear hK K'
      try simp only [Act.put, List.setIfInBounds_toArray, List.set_cons_zero, List.set_cons_succ]
      refine wpAnyH_ready (rs := [16]) (by kernel_rfl) (by simp) (AllReadyH.cons (o := ⟨none, .store 26 (.tmp 2) (.tmp 17), _, _, _, none⟩) rfl (fun K' hK => ?_) AllReadyH.nil)
      refine wp_store_at _ _ _ rfl _ 0 26 zC.cells y.cells rfl rfl bG (cpu_sz y) (show 0 + 30 ≤ 30 from by decide) (cpu_one y) ?_
      intro w5 b5 o5
      replace b5 : Blk w5 _ 26 y.cells := b5
      replace l0 : Later w w5 := Below.only l0 o5 hG
      refine hK.out _ _ (HC.out _ l0) (fun hHeld => ?_)
      clear hK K'
      try simp only [Act.put]
      refine wpAnyH_take (i := 17) (oi := ⟨some 3, .assign (.tmp 18), _, _, _, none⟩) (v := .int .i64 er) rfl (by kernel_rfl) (by kernel_rfl) (by kernel_rfl) (fun _ _ _ h => h) (Or.inl ⟨by rfl, fun _ _ => rfl⟩) hHeld ?_
      simp only [Act.put, List.setIfInBounds_toArray, List.set_cons_zero, List.set_cons_succ]
      refine wpAnyH_done (by kernel_rfl) ?_ _
      clear hHeld
      go_wp2_with (go_at_call 118; refine (require_no (HC.out _ l0)).mono ?_; rintro e w6 ⟨rfl, rfl⟩)
      exact ⟨rfl, rfl, H0.out _ l0, St.later _ hlt l0⟩
    · go_simp
      have hG : w.heap.size ≤ w1.heap.size := l0.size
      have bG := Blk.new w1 26 zC.cells.toArray zC.cells rfl
      replace l0 : Later w (w1.alloc (.cells zC.cells.toArray 26)) := Later.trans_ l0 (later1 w1 (.cells zC.cells.toArray 26))
      refine hK.out _ _ (HC.out _ l0) (fun hHeld => ?_)
      clear hK K'
      try simp only [Act.put, List.setIfInBounds_toArray, List.set_cons_zero, List.set_cons_succ]
      refine wpAnyH_ready (rs := [11]) (by kernel_rfl) (by simp) (AllReadyH.cons (o := ⟨some 16, .call { callee := .value (.func 168), args := #[.tmp 8, .tmp 13, .tmp 15], argTypes := #[26, 3, 22] }, _, _, _, none⟩) rfl (fun K' hK => ?_) AllReadyH.nil)
      go_simp
      refine (HW.out _).mono ?_
      rintro e w2 ⟨rfl, l2⟩
      replace bG := bG.keep l2
      replace l0 := Later.trans_ l0 l2
      refine hK.out _ _ (HC.out _ l0) (fun hHeld => ?_)
      clear hK K'
      try simp only [Act.put, List.setIfInBounds_toArray, List.set_cons_zero, List.set_cons_succ]
      refine wpAnyH_take (i := 12) (oi := ⟨some 4, .move (.tmp 16), _, _, _, none⟩) (v := .tuple #[.agg y.cells.toArray, .int .i64 er]) rfl (by kernel_rfl) (by kernel_rfl) (by kernel_rfl) (fun _ _ _ h => h) (Or.inl ⟨by rfl, fun _ _ => rfl⟩) hHeld ?_
      simp only [Act.put, List.setIfInBounds_toArray, List.set_cons_zero, List.set_cons_succ]
      refine wpAnyH_take (i := 13) (oi := ⟨some 17, .extract (.tmp 4) 0, _, _, _, none⟩) (v := .agg y.cells.toArray) rfl (by kernel_rfl) (by kernel_rfl) (by kernel_rfl) (fun _ _ _ h => h) (Or.inl ⟨by rfl, fun w _ => by go_simp⟩) hHeld ?_
      simp only [Act.put, List.setIfInBounds_toArray, List.set_cons_zero, List.set_cons_succ]
      refine wpAnyH_take (i := 14) (oi := ⟨some 18, .extract (.tmp 4) 1, _, _, _, none⟩) (v := .int .i64 er) rfl (by kernel_rfl) (by kernel_rfl) (by kernel_rfl) (fun _ _ _ h => h) (Or.inl ⟨by rfl, fun w _ => by go_simp⟩) hHeld ?_
      simp only [Act.put, List.setIfInBounds_toArray, List.set_cons_zero, List.set_cons_succ]
      refine wpAnyH_ready (rs := [16]) (by kernel_rfl) (by simp) (AllReadyH.cons (o := ⟨none, .store 26 (.tmp 2) (.tmp 17), _, _, _, none⟩) rfl (fun K' hK => ?_) AllReadyH.nil)
      refine wp_store_at _ _ _ rfl _ 0 26 zC.cells y.cells rfl rfl bG (cpu_sz y) (show 0 + 30 ≤ 30 from by decide) (cpu_one y) ?_
      intro w5 b5 o5
      replace b5 : Blk w5 _ 26 y.cells := b5
      replace l0 : Later w w5 := Below.only l0 o5 hG
      refine hK.out _ _ (HC.out _ l0) (fun hHeld => ?_)
      clear hK K'
      try simp only [Act.put]
      refine wpAnyH_take (i := 17) (oi := ⟨some 3, .assign (.tmp 18), _, _, _, none⟩) (v := .int .i64 er) rfl (by kernel_rfl) (by kernel_rfl) (by kernel_rfl) (fun _ _ _ h => h) (Or.inl ⟨by rfl, fun _ _ => rfl⟩) hHeld ?_
      simp only [Act.put, List.setIfInBounds_toArray, List.set_cons_zero, List.set_cons_succ]
      refine wpAnyH_done (by kernel_rfl) ?_ _
      clear hHeld
      go_wp2_with (go_at_call 118; refine (require_no (HC.out _ l0)).mono ?_; rintro e w6 ⟨rfl, rfl⟩)
      exact ⟨rfl, rfl, H0.out _ l0, St.later _ hlt l0⟩
  · go_simp
    have hG : w.heap.size ≤ w.drew.heap.size := l0.size
    have bG := Blk.new w.drew 26 zC.cells.toArray zC.cells rfl
    replace l0 : Later w (w.drew.alloc (.cells zC.cells.toArray 26)) := Later.trans_ l0 (later1 w.drew (.cells zC.cells.toArray 26))
    refine hK.out _ _ (HC.out _ l0) (fun hHeld => ?_)
    clear hK K'
    try simp only [Act.put, List.setIfInBounds_toArray, List.set_cons_zero, List.set_cons_succ]
    refine wpAnyH_ready (rs := [10]) (by kernel_rfl) (by simp) (AllReadyH.cons (o := ⟨some 15, .call { callee := .value (.func 169), args := #[.tmp 14], argTypes := #[147] }, _, _, _, none⟩) rfl (fun K' hK => ?_) AllReadyH.nil)
    go_simp
    refine (HB.out _ l0).mono ?_
    rintro e w1 ⟨rfl, l1⟩
    replace bG := bG.keep l1
    replace l0 := Later.trans_ l0 l1
    refine hK.out _ _ (HC.out _ l0) (fun hHeld => ?_)
    clear hK K'
    try simp only [Act.put, List.setIfInBounds_toArray, List.set_cons_zero, List.set_cons_succ]
    refine wpAnyH_ready (rs := [11]) (by kernel_rfl) (by simp) (AllReadyH.cons (o := ⟨some 16, .call { callee := .value (.func 168), args := #[.tmp 8, .tmp 13, .tmp 15], argTypes := #[26, 3, 22] }, _, _, _, none⟩) rfl (fun K' hK => ?_) AllReadyH.nil)
    go_simp
    refine (HW.out _).mono ?_
    rintro e w2 ⟨rfl, l2⟩
    replace bG := bG.keep l2
    replace l0 := Later.trans_ l0 l2
    refine hK.out _ _ (HC.out _ l0) (fun hHeld => ?_)
    clear hK K'
    try simp only [Act.put, List.setIfInBounds_toArray, List.set_cons_zero, List.set_cons_succ]
    refine wpAnyH_take (i := 12) (oi := ⟨some 4, .move (.tmp 16), _, _, _, none⟩) (v := .tuple #[.agg y.cells.toArray, .int .i64 er]) rfl (by kernel_rfl) (by kernel_rfl) (by kernel_rfl) (fun _ _ _ h => h) (Or.inl ⟨by rfl, fun _ _ => rfl⟩) hHeld ?_
    simp only [Act.put, List.setIfInBounds_toArray, List.set_cons_zero, List.set_cons_succ]
    refine wpAnyH_take (i := 13) (oi := ⟨some 17, .extract (.tmp 4) 0, _, _, _, none⟩) (v := .agg y.cells.toArray) rfl (by kernel_rfl) (by kernel_rfl) (by kernel_rfl) (fun _ _ _ h => h) (Or.inl ⟨by rfl, fun w _ => by go_simp⟩) hHeld ?_
    simp only [Act.put, List.setIfInBounds_toArray, List.set_cons_zero, List.set_cons_succ]
    refine wpAnyH_take (i := 14) (oi := ⟨some 18, .extract (.tmp 4) 1, _, _, _, none⟩) (v := .int .i64 er) rfl (by kernel_rfl) (by kernel_rfl) (by kernel_rfl) (fun _ _ _ h => h) (Or.inl ⟨by rfl, fun w _ => by go_simp⟩) hHeld ?_
    simp only [Act.put, List.setIfInBounds_toArray, List.set_cons_zero, List.set_cons_succ]
    refine wpAnyH_ready (rs := [16]) (by kernel_rfl) (by simp) (AllReadyH.cons (o := ⟨none, .store 26 (.tmp 2) (.tmp 17), _, _, _, none⟩) rfl (fun K' hK => ?_) AllReadyH.nil)
    refine wp_store_at _ _ _ rfl _ 0 26 zC.cells y.cells rfl rfl bG (cpu_sz y) (show 0 + 30 ≤ 30 from by decide) (cpu_one y) ?_
    intro w5 b5 o5
    replace b5 : Blk w5 _ 26 y.cells := b5
    replace l0 : Later w w5 := Below.only l0 o5 hG
    refine hK.out _ _ (HC.out _ l0) (fun hHeld => ?_)
    clear hK K'
    try simp only [Act.put]
    refine wpAnyH_take (i := 17) (oi := ⟨some 3, .assign (.tmp 18), _, _, _, none⟩) (v := .int .i64 er) rfl (by kernel_rfl) (by kernel_rfl) (by kernel_rfl) (fun _ _ _ h => h) (Or.inl ⟨by rfl, fun _ _ => rfl⟩) hHeld ?_
    simp only [Act.put, List.setIfInBounds_toArray, List.set_cons_zero, List.set_cons_succ]
    refine wpAnyH_done (by kernel_rfl) ?_ _
    clear hHeld
    go_wp2_with (go_at_call 118; refine (require_no (HC.out _ l0)).mono ?_; rintro e w6 ⟨rfl, rfl⟩)
    exact ⟨rfl, rfl, H0.out _ l0, St.later _ hlt l0⟩
end Go.Proofs.YtidhodalnikhlaaGreatDoor
