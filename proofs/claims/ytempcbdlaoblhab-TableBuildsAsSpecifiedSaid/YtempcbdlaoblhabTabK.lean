/-
  THE WALK OF Walk: the deferred closure in its two modes, and the four ways.
-/
import Derived.Test.YtempcbdlaoblhabTabJ
namespace Go.Proofs.Ytempcbdlaoblhab
open Go.RowKit Go.ChangeShapes Go.WideShapes Go.ChangeAt

/-- What hands back a walk, and a cause. -/
def GotW (x : Tm.Wk) (acc : Int) (w : World) (e : Ending) (w' : World) : Prop :=
  ∃ AS AR sc rc, e = .returned (.tuple #[.agg #[.int .i64 x.a, .int .i64 x.l, .slice AS x.s.length sc, .slice AR x.r.length rc], .int .i64 (if x.ok then 0 else Tm.cause acc)]) ∧ Sl w' 3 AS x.s.length (Ws x.s) ∧ Sl w' 1 AR x.r.length (N64 x.r) ∧ Later w w'
theorem wp_store_abs {P : Program} {o : Oper} {a : Act} {w : World} {K : Act → World → Prop} {Q : Exit → Act → World → Prop} (ty : TypeId) (x y : Operand) (ho : o.op = .store ty x y)
    (g : Nat) (t : TypeId) (old cs : List Value) (hx : a.eval x = .pointer (some ⟨g, 0, none⟩)) (hy : a.eval y = .agg cs.toArray) (hg : Blk w g t old)
    (hi : (P.info? ty).map (·.size) = some cs.length) (hold : old.length = cs.length) (h1 : ∀ v ∈ cs, v.oneCell' = true)
    (h : ∀ w', Blk w' g t cs → Only g w w' → K (a.put o.dst undef) w') : o.wp P a w K Q :=
  wp_store_row ty x y ho g cs.toArray hx hy t old.toArray hg (by rw [List.size_toArray]; exact hi) (by simpa using hold) (all_oneCell_toArray h1) (h _ (hg.row cs) (Only.row _ _ _))
theorem catch_idle (p0 p1 p2 p3 : Addr) (w : World) :
    CallsD Try.prog 28 #[.pointer (some p0), .pointer (some p1), .pointer (some p2), .pointer (some p3)] .returning w fun e u' w' => e = .returned (.tuple #[]) ∧ u' = .returning ∧ w' = w := by
  refine callsD_of_wpS Try.func28 rfl fun c₀ cs hu => ?_
  apply wpS_seq
  apply wpS_region
  simp [wpOpsS, go_sem, recoverD, hu, Try.ntmps28, Exit.thenS]
  refine wpS_cond (t := false) (by simp [Act.eval, Array.replicate]) ?_
  simp only [Bool.false_eq_true, if_false]
  refine wpS_of_wp (wp_skip ?_)
  cases c₀
  simp_all [bodyPostS, results, Try.results28]
set_option maxRecDepth 100000 in
set_option maxHeartbeats 4000000 in
theorem catch_fault (tB pB wB cB : Nat) (acc : Int) (R : Option Addr) (m k : Nat) (A : Option Addr) (n c : Nat) (w : World) (hT : Blk w tB 68 [.slice A n c, .slice R m k]) (hA : Blk w pB 3 [.int .i64 acc])
    (hW : Blk w wB 32 [.int .i64 0, .int .i64 0, .slice none 0 0, .slice none 0 0]) (hC : Blk w cB 3 [.int .i64 0]) (n1 : tB ≠ wB) (n2 : pB ≠ wB) (n3 : cB ≠ wB) (n4 : wB ≠ cB) (n5 : tB ≠ cB) (n6 : pB ≠ cB) :
    CallsD Try.prog 28 #[.pointer (some ⟨tB, 0, none⟩), .pointer (some ⟨pB, 0, none⟩), .pointer (some ⟨wB, 0, none⟩), .pointer (some ⟨cB, 0, none⟩)] (.panicking Flt) w fun e u' w' =>
      e = .returned (.tuple #[]) ∧ u' = .panicking [{ v := .iface 133 (.agg #[]), recovered := true }] ∧ Blk w' wB 32 [.int .i64 0, .int .i64 0, .slice none 0 0, .slice R m k] ∧ Blk w' cB 3 [.int .i64 (Tm.cause acc)] ∧
      ∃ w2, Only wB w.drew w2 ∧ Only cB w2 w' := by
  have HC := Lib.hid fun w' => causeOf_any acc w'
  refine callsD_of_wpS Try.func28 rfl fun c₀ cs hu => ?_
  apply wpS_seq
  apply wpS_region
  simp [wpOpsS, go_sem, recoverD, hu, Flt, Try.ntmps28, Exit.thenS]
  refine wpS_cond (t := true) (by simp [Act.eval, Array.replicate]) ?_
  simp only [if_true]
  refine wpS_of_wp ?_
  replace hT := hT.drew; replace hA := hA.drew; replace hW := hW.drew; replace hC := hC.drew
  simp only [Array.replicate_succ, Array.replicate_zero, List.push_toArray, List.nil_append, List.cons_append, List.append_toArray, List.setIfInBounds_toArray, List.set_cons_zero, List.set_cons_succ]
  refine wp_region_held_drew (S := fun w' => w'.cell? ⟨tB, 1, none⟩ = some (.slice R m k) ∧ w'.cell? ⟨pB, 0, none⟩ = some (.int .i64 acc)) (by kernel_rfl) ⟨hT.cell (j := 1) rfl, hA.cell (j := 0) rfl⟩ (fun hHeld => ?_)
  refine wpAnyH_take (i := 0) (oi := ⟨some 6, .fieldAddr 68 (.tmp 0) 1, _, _, _, none⟩) (v := .pointer (some ⟨tB, 1, none⟩)) rfl (by kernel_rfl) (by kernel_rfl) (by kernel_rfl) (fun _ _ _ h => h) (Or.inl ⟨by rfl, fun w _ => by go_simp⟩) hHeld ?_
  simp only [Act.put, List.setIfInBounds_toArray, List.set_cons_zero, List.set_cons_succ]
  refine wpAnyH_take (i := 1) (oi := ⟨some 7, .load 30 (.tmp 6), _, _, _, none⟩) (v := .slice R m k) rfl (by kernel_rfl) (by kernel_rfl) (by kernel_rfl) (fun _ _ _ h => h) (Or.inl ⟨by rfl, fun w hS => by have h0 := hS.1; go_simp⟩) hHeld ?_
  simp only [Act.put, List.setIfInBounds_toArray, List.set_cons_zero, List.set_cons_succ]
  refine wpAnyH_take (i := 2) (oi := ⟨some 8, .build 32 #[(3, .tmp 7)], _, _, _, none⟩) (v := .agg #[.int .i64 0, .int .i64 0, .slice none 0 0, .slice R m k]) rfl (by kernel_rfl) (by kernel_rfl) (by kernel_rfl) (fun _ _ _ h => h) (Or.inl ⟨by rfl, fun w _ => by go_simp⟩) hHeld ?_
  simp only [Act.put, List.setIfInBounds_toArray, List.set_cons_zero, List.set_cons_succ]
  refine wpAnyH_take (i := 3) (oi := ⟨some 9, .load 3 (.tmp 1), _, _, _, none⟩) (v := .int .i64 acc) rfl (by kernel_rfl) (by kernel_rfl) (by kernel_rfl) (fun _ _ _ h => h) (Or.inl ⟨by rfl, fun w hS => by have h0 := hS.2; go_simp⟩) hHeld ?_
  simp only [Act.put, List.setIfInBounds_toArray, List.set_cons_zero, List.set_cons_succ]
  refine wpAnyH_ready (rs := [4]) (by kernel_rfl) (by simp) (AllReadyH.cons (o := ⟨some 10, .call { callee := .value (.func 29), args := #[.tmp 9], argTypes := #[3] }, _, _, _, none⟩) rfl (fun K' hK => ?_) (AllReadyH.nil))
  go_simp
  refine (HC.out _).mono ?_
  rintro e w' ⟨rfl, rfl⟩
  refine hK.out _ _ ⟨hT.cell (j := 1) rfl, hA.cell (j := 0) rfl⟩ (fun hHeld => ?_)
  clear hK K'
  try simp only [Act.put, List.setIfInBounds_toArray, List.set_cons_zero, List.set_cons_succ]
  refine wpAnyH_ready (rs := [5]) (by kernel_rfl) (by simp) (AllReadyH.cons (o := ⟨none, .store 32 (.tmp 2) (.tmp 8), _, _, _, none⟩) rfl (fun K' hK => ?_) (AllReadyH.nil))
  refine wp_store_abs 32 _ _ rfl wB 32 [.int .i64 0, .int .i64 0, .slice none 0 0, .slice none 0 0] [.int .i64 0, .int .i64 0, .slice none 0 0, .slice R m k] rfl rfl hW (walk_sz _ _ _ _) rfl (img_one _ _ _ _ _ _ _ _) ?_
  intro w2 b2 o2
  replace hT := hT.only o2 n1
  replace hA := hA.only o2 n2
  replace hC := hC.only o2 n3
  have cC := hC.cell (j := 0) (v := .int .i64 0) rfl
  have fC := hC.frz 0
  have b3 := b2.set_other ⟨cB, 0, none⟩ (.int .i64 (Tm.cause acc)) n4
  have b4 := hC.set 0 (.int .i64 (Tm.cause acc))
  refine hK.out _ _ ⟨hT.cell (j := 1) rfl, hA.cell (j := 0) rfl⟩ (fun hHeld => ?_)
  clear hK K'
  try simp only [Act.put]
  refine wpAnyH_ready (rs := [6]) (by kernel_rfl) (by simp) (AllReadyH.cons (o := ⟨none, .store 3 (.tmp 3) (.tmp 10), _, _, _, none⟩) rfl (fun K' hK => ?_) (AllReadyH.nil))
  go_simp
  replace hT := hT.set_other ⟨cB, 0, none⟩ (.int .i64 (Tm.cause acc)) n5
  replace hA := hA.set_other ⟨cB, 0, none⟩ (.int .i64 (Tm.cause acc)) n6
  refine hK.out _ _ ⟨hT.cell (j := 1) rfl, hA.cell (j := 0) rfl⟩ (fun hHeld => ?_)
  clear hK K'
  try simp only [Act.put, List.setIfInBounds_toArray, List.set_cons_zero, List.set_cons_succ]
  refine wpAnyH_done (by kernel_rfl) ?_ _
  clear hHeld
  exact ⟨rfl, _, rfl, _, by simp [results, Try.results28], rfl, rfl, b3, b4, w2, o2, Only.set _ _ _ _⟩
end Go.Proofs.Ytempcbdlaoblhab
