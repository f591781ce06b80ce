/-
  A RING: a descriptor loaded; next, hasWrongFlags, isInside; laws for the walks.
-/
import Derived.Test.YtffgbbfcbobecaaRgA
import Derived.Test.YtffgbbfcbobecaaMemM
import Derived.Lib.Hide
import Derived.Lib.MinMax
import Derived.Laws.RangeAny
namespace Go.Proofs.Ytffgbbfcbobecaa
open Go.RowKit Go.ChangeShapes Go.WideShapes Go.ChangeAt

theorem wpList_load_g {P : Program} {ops : Array Oper} {rest : List Oper} {o : Oper} {a : Act} {w : World} {Q : Exit → Act → World → Prop} (ty : TypeId) (x : Operand) (ho : o.op = .load ty x)
    (g : Nat) (t : TypeId) (cs : List Value) (d : TypeDesc) (hw : Region.wanted o (yielded ops a.tmps) = true) (hx : a.eval x = .pointer (some ⟨g, 0, none⟩)) (hg : Blk w g t cs)
    (hu : P.underlying ty = some d) (hd : (match d with | .struct _ | .array _ _ => true | _ => false) = true) (hi : (P.info? ty).map (·.size) = some cs.length)
    (h : wpList P ops Q rest (a.put o.dst (.agg cs.toArray)) w) : wpList P ops Q (o :: rest) a w :=
  wpList_step fun K hK => by
    rw [hw, if_pos rfl]
    exact wp_load_row ty x ho g hx t cs.toArray (0, 0) d hg hu hd (by rw [List.size_toArray]; exact hi) (hK _ _ h)

theorem wpList_load_atg {P : Program} {ops : Array Oper} {rest : List Oper} {o : Oper} {a : Act} {w : World} {Q : Exit → Act → World → Prop} (ty : TypeId) (x : Operand) (ho : o.op = .load ty x)
    (g off n : Nat) (t : TypeId) (all cs : List Value) (d : TypeDesc) (hw : Region.wanted o (yielded ops a.tmps) = true) (hx : a.eval x = .pointer (some ⟨g, off, none⟩)) (hg : Blk w g t all) (hcs : (all.drop off).take n = cs)
    (hu : P.underlying ty = some d) (hd : d.isRow = true) (hi : (P.info? ty).map (·.size) = some cs.length)
    (h : wpList P ops Q rest (a.put o.dst (.agg cs.toArray)) w) : wpList P ops Q (o :: rest) a w :=
  wpList_step fun K hK => by
    rw [hw, if_pos rfl]
    exact wp_load_mid ty x ho g off hx cs d (by rw [← hcs]; exact hg.range off n) hu hd hi (hK _ _ h)
theorem wpList_bld {ops : Array Oper} {rest : List Oper} {o : Oper} {a : Act} {w : World} {Q : Exit → Act → World → Prop} (hg : o.guard = none) (t : TypeId) (fs : Array (Nat × Operand)) (vs : Array (Nat × Value)) (C : Array Value) (ho : o.op = .build t fs)
    (hv : fs.toList.map (fun x => (x.1, a.eval x.2)) = vs.toList) (hr : (Instr.build t vs).run Try.prog w = .ok (.agg C) w)
    (hK : wpList Try.prog ops Q rest (a.put o.dst (.agg C)) w) : wpList Try.prog ops Q (o :: rest) a w := by
  refine wpList_plain hg fun K' hK' => ?_
  have e : fs.map (fun x => (x.1, a.eval x.2)) = vs := by
    apply Array.toList_inj.1; rw [Array.toList_map]; exact hv
  unfold Oper.wp execOp
  simp only [ho, e, Sem.run_bind, hr, Sem.run_pure, Result.andThen_ok]
  exact hK' _ _ hK
theorem wp_load_blk {P : Program} {o : Oper} {a : Act} {w : World} {K : Act → World → Prop} {Q : Exit → Act → World → Prop} (ty : TypeId) (x : Operand) (ho : o.op = .load ty x)
    (g : Nat) (t : TypeId) (cs : List Value) (d : TypeDesc) (hx : a.eval x = .pointer (some ⟨g, 0, none⟩)) (hg : Blk w g t cs)
    (hu : P.underlying ty = some d) (hd : (match d with | .struct _ | .array _ _ => true | _ => false) = true) (hi : (P.info? ty).map (·.size) = some cs.length)
    (h : K (a.put o.dst (.agg cs.toArray)) w) : o.wp P a w K Q :=
  wp_load_row ty x ho g hx t cs.toArray (0, 0) d hg hu hd (by rw [List.size_toArray]; exact hi) h
theorem wp_set1 {P : Program} {o : Oper} {a : Act} {w : World} {K : Act → World → Prop} {Q : Exit → Act → World → Prop} (ty : TypeId) (x y : Operand) (ho : o.op = .store ty x y) (hdn : o.dst = none)
    (g off : Nat) (t : TypeId) (cs : List Value) (v : Value) (hx : a.eval x = .pointer (some ⟨g, off, none⟩)) (hy : a.eval y = v) (hg : Blk w g t cs)
    (hi : (P.info? ty).map (·.size) = some 1) (hof : off < cs.length) (h1 : v.oneCell' = true)
    (h : ∀ w', Blk w' g t (cs.set off v) → Only g w w' → K a w') : o.wp P a w K Q := by
  have hc : v.cells = #[v] := by cases v <;> first | rfl | cases h1
  have h2 : (store ⟨g, off, none⟩ v).run P w = .ok () (w.setCell ⟨g, off, none⟩ v) := by
    rw [run_store P w _ v _ h1, hg.cell (List.getElem?_eq_getElem hof), hg.frz off]; rfl
  have hst : (storeVar ty ⟨g, off, none⟩ v).run P w = .ok () (w.setCell ⟨g, off, none⟩ v) := by
    cases hq : P.info? ty with
    | none => simp [hq] at hi
    | some i =>
      have hs : i.size = 1 := by simpa [hq] using hi
      simp [storeVar, sizeOf, typeInfo, hq, hc, hs, storeCells, Addr.add, h2]
  unfold Oper.wp execOp
  simp only [ho, hx, hy, Instr.storeAt, Instr.sureAddr, Sem.run_bind, Sem.run_pure, Result.andThen_ok, hst]
  show K (a.put o.dst undef) _
  rw [hdn]
  exact h _ (hg.set off v) (Only.set _ _ _ _)
theorem wpList_set1 {P : Program} {ops : Array Oper} {rest : List Oper} {o : Oper} {a : Act} {w : World} {Q : Exit → Act → World → Prop} (hgd : o.guard = none) (ty : TypeId) (x y : Operand) (ho : o.op = .store ty x y) (hdn : o.dst = none)
    (g off : Nat) (t : TypeId) (cs : List Value) (v : Value) (hx : a.eval x = .pointer (some ⟨g, off, none⟩)) (hy : a.eval y = v) (hg : Blk w g t cs)
    (hi : (P.info? ty).map (·.size) = some 1) (hof : off < cs.length) (h1 : v.oneCell' = true)
    (h : ∀ w', Blk w' g t (cs.set off v) → Only g w w' → wpList P ops Q rest a w') : wpList P ops Q (o :: rest) a w :=
  wpList_plain hgd fun _ hK => wp_set1 ty x y ho hdn g off t cs v hx hy hg hi hof h1 fun w' h2 h3 => hK _ _ (h w' h2 h3)
theorem wp_store_blk {P : Program} {o : Oper} {a : Act} {w : World} {K : Act → World → Prop} {Q : Exit → Act → World → Prop} (ty : TypeId) (x y : Operand) (ho : o.op = .store ty x y)
    (g : Nat) (t : TypeId) (old cs : List Value) (hx : a.eval x = .pointer (some ⟨g, 0, none⟩)) (hy : a.eval y = .agg cs.toArray) (hg : Blk w g t old)
    (hi : (P.info? ty).map (·.size) = some cs.length) (hold : old.length = cs.length) (h1 : ∀ v ∈ cs, v.oneCell' = true)
    (h : ∀ w', Blk w' g t cs → Only g w w' → K (a.put o.dst undef) w') : o.wp P a w K Q :=
  wp_store_row ty x y ho g cs.toArray hx hy t old.toArray hg (by rw [List.size_toArray]; exact hi) (by simpa using hold) (all_oneCell_toArray h1) (h _ (hg.row cs) (Only.row _ _ _))
theorem yieldsIf_build {ops : Array Oper} {S : World → Prop} {op : Oper} {a : Act} (hw : Region.wanted op (yielded ops a.tmps) = true) (t : TypeId) (fs : Array (Nat × Operand)) (vs : Array (Nat × Value)) (C : Array Value) (ho : op.op = .build t fs)
    (hv : fs.toList.map (fun x => (x.1, a.eval x.2)) = vs.toList) (hr : ∀ w, (Instr.build t vs).run Try.prog w = .ok (.agg C) w) : YieldsIf Try.prog ops S op (.agg C) a :=
  .inl ⟨hw, fun w _ => by
    have e : fs.map (fun x => (x.1, a.eval x.2)) = vs := by
      apply Array.toList_inj.1; rw [Array.toList_map]; exact hv
    unfold execOp
    simp only [ho, e, Sem.run_bind, hr, Sem.run_pure, Result.andThen_ok]⟩
theorem run_build' (w : World) (t : TypeId) (vs : Array (Nat × Value)) (C : Array Value) (h : Try.prog.built t vs.toList = some C) : (Instr.build t vs).run Try.prog w = .ok (.agg C) w := run_build w t vs C h
theorem memS {v : Value} : (Try.prog.info? 24).map (·.size) = some [v].length := by
  show _ = some 1
  kernel_rfl
theorem ring_sz {u v : Value} : (Try.prog.info? 27).map (·.size) = some [u, v].length := by
  show _ = some 2
  kernel_rfl
theorem wrt_sz {u v z : Value} : (Try.prog.info? 85).map (·.size) = some [u, v, z].length := by
  show _ = some 3
  kernel_rfl
theorem one1 {v : Value} (h : v.oneCell' = true) : ∀ u ∈ [v], u.oneCell' = true := by
  intro u hu; obtain rfl := List.mem_singleton.1 hu; exact h
set_option maxRecDepth 100000 in
theorem next_any (p : Rg.Pt) (f s : Int) (w : World) (hf : Tm.isE f) : Calls Try.prog 65 #[.agg (dcC p f s).toArray] w fun e w' => e = .returned (.tuple #[.int .i64 (nxtF f), .bool (moreF f)]) ∧ Later w w' := by
  have b2 : Blk _ w.heap.size 73 (dcC p f s) := (Blk.new' w w.heap.size 73 (dcC p f s).toArray (dcC p f s) (by simp) rfl)
  have lw := (later1 w (.cells (dcC p f s).toArray 73))
  obtain ⟨u0, hu⟩ : ∃ u, (w.alloc (.cells (dcC p f s).toArray 73)) = u := ⟨_, rfl⟩
  rw [hu] at b2 lw
  have a1 := and2_b hf
  obtain ⟨X, hX⟩ : ∃ X, bits .and .u32 f 65280 = X := ⟨_, rfl⟩
  have hq : X / 256 = nxtF f := by rw [← hX, and_ff00 hf]; unfold nxtF; omega
  have hr := hf.1
  have hr2 := hf.2
  have hq0 : 0 ≤ nxtF f := by unfold nxtF; omega
  have hq1 : nxtF f ≤ 255 := by unfold nxtF; omega
  have hq2 : IntKind.i64.wrap (nxtF f) = nxtF f := by rw [IntKind.wrap_i64]; omega
  have hx0 : 0 ≤ X := by rw [← hX, and_ff00 hf]; omega
  go_enter Try.func65, Try.ntmps65
  go_upto_region 1 with fail
  have hu2 : (w.alloc (.cells #[.int .i64 p.1, .int .i64 p.2.1, .int .i64 p.2.2.1, .bool p.2.2.2, .int .u32 f, .int .u32 s] 73)) = u0 := hu
  try rw [hu2]
  clear hu hu2
  refine wp_region_held_drew (S := fun w' => World.rangeAt w' w.heap.size 0 (dcC p f s)) (by kernel_rfl) (b2.drew.range 0 6) (fun hHeld => ?_)
  refine wpAnyH_take (i := 0) (oi := ⟨some 4, .fieldAddr 73 (.tmp 1) 1, _, _, _, none⟩) (v := .pointer (some ⟨w.heap.size, 4, none⟩)) rfl (by kernel_rfl) (by kernel_rfl) (by kernel_rfl) (fun _ _ _ h => h) (Or.inl ⟨by rfl, fun w _ => by go_simp⟩) hHeld ?_
  simp only [Act.put, List.setIfInBounds_toArray, List.set_cons_zero, List.set_cons_succ]
  refine wpAnyH_take (i := 1) (oi := ⟨some 5, .load 25 (.tmp 4), _, _, _, none⟩) (v := .int .u32 f) rfl (by kernel_rfl) (by kernel_rfl) (by kernel_rfl) (fun _ _ _ h => h) (Or.inl ⟨by rfl, fun wz hSw => by have e1 : wz.cell? ⟨w.heap.size, 4, none⟩ = some (.int .u32 f) := hSw 4 _ rfl; clear hSw; go_simp⟩) hHeld ?_
  simp only [Act.put, List.setIfInBounds_toArray, List.set_cons_zero, List.set_cons_succ]
  refine wpAnyH_take (i := 2) (oi := ⟨some 6, .binOp .and 25 (.tmp 5) (.const (.int .u32 65280)) 25, _, _, _, none⟩) (v := .int .u32 X) rfl (by kernel_rfl) (by kernel_rfl) (by kernel_rfl) (fun _ _ _ h => h) (Or.inl ⟨by rfl, fun w _ => by go_simp⟩) hHeld ?_
  simp only [Act.put, List.setIfInBounds_toArray, List.set_cons_zero, List.set_cons_succ]
  refine wpAnyH_take (i := 3) (oi := ⟨some 7, .binOp .shr 25 (.tmp 6) (.const (.int .u64 8)) 136, _, _, _, none⟩) (v := .int .u32 (nxtF f)) rfl (by kernel_rfl) (by kernel_rfl) (by kernel_rfl) (fun _ _ _ h => h) (Or.inl ⟨by rfl, fun w _ => by go_simp⟩) hHeld ?_
  simp only [Act.put, List.setIfInBounds_toArray, List.set_cons_zero, List.set_cons_succ]
  refine wpAnyH_take (i := 4) (oi := ⟨some 8, .convert 25 3 (.tmp 7), _, _, _, none⟩) (v := .int .i64 (nxtF f)) rfl (by kernel_rfl) (by kernel_rfl) (by kernel_rfl) (fun _ _ _ h => h) (Or.inl ⟨by rfl, fun w _ => by go_simp⟩) hHeld ?_
  simp only [Act.put, List.setIfInBounds_toArray, List.set_cons_zero, List.set_cons_succ]
  refine wpAnyH_take (i := 5) (oi := ⟨some 9, .fieldAddr 73 (.tmp 1) 1, _, _, _, none⟩) (v := .pointer (some ⟨w.heap.size, 4, none⟩)) rfl (by kernel_rfl) (by kernel_rfl) (by kernel_rfl) (fun _ _ _ h => h) (Or.inl ⟨by rfl, fun w _ => by go_simp⟩) hHeld ?_
  simp only [Act.put, List.setIfInBounds_toArray, List.set_cons_zero, List.set_cons_succ]
  refine wpAnyH_take (i := 6) (oi := ⟨some 10, .load 25 (.tmp 9), _, _, _, none⟩) (v := .int .u32 f) rfl (by kernel_rfl) (by kernel_rfl) (by kernel_rfl) (fun _ _ _ h => h) (Or.inl ⟨by rfl, fun wz hSw => by have e1 : wz.cell? ⟨w.heap.size, 4, none⟩ = some (.int .u32 f) := hSw 4 _ rfl; clear hSw; go_simp⟩) hHeld ?_
  simp only [Act.put, List.setIfInBounds_toArray, List.set_cons_zero, List.set_cons_succ]
  refine wpAnyH_take (i := 7) (oi := ⟨some 11, .binOp .and 25 (.tmp 10) (.const (.int .u32 2)) 25, _, _, _, none⟩) (v := .int .u32 (bits .and .u32 f 2)) rfl (by kernel_rfl) (by kernel_rfl) (by kernel_rfl) (fun _ _ _ h => h) (Or.inl ⟨by rfl, fun w _ => by go_simp⟩) hHeld ?_
  simp only [Act.put, List.setIfInBounds_toArray, List.set_cons_zero, List.set_cons_succ]
  refine wpAnyH_take (i := 8) (oi := ⟨some 12, .binOp .neq 25 (.tmp 11) (.const (.int .u32 0)) 25, _, _, _, none⟩) (v := .bool (moreF f)) rfl (by kernel_rfl) (by kernel_rfl) (by kernel_rfl) (fun _ _ _ h => h) (Or.inl ⟨by rfl, fun w _ => by go_simp⟩) hHeld ?_
  simp only [Act.put, List.setIfInBounds_toArray, List.set_cons_zero, List.set_cons_succ]
  refine wpAnyH_take (i := 9) (oi := ⟨some 2, .assign (.tmp 8), _, _, _, none⟩) (v := .int .i64 (nxtF f)) rfl (by kernel_rfl) (by kernel_rfl) (by kernel_rfl) (fun _ _ _ h => h) (Or.inl ⟨by rfl, fun _ _ => rfl⟩) hHeld ?_
  simp only [Act.put, List.setIfInBounds_toArray, List.set_cons_zero, List.set_cons_succ]
  refine wpAnyH_take (i := 10) (oi := ⟨some 3, .assign (.tmp 12), _, _, _, none⟩) (v := .bool (moreF f)) rfl (by kernel_rfl) (by kernel_rfl) (by kernel_rfl) (fun _ _ _ h => h) (Or.inl ⟨by rfl, fun _ _ => rfl⟩) hHeld ?_
  simp only [Act.put, List.setIfInBounds_toArray, List.set_cons_zero, List.set_cons_succ]
  refine wpAnyH_done (by kernel_rfl) ?_ _
  clear hHeld
  go_wp2
  go_ret2
  exact ⟨rfl, lw.drew⟩
end Go.Proofs.Ytffgbbfcbobecaa
