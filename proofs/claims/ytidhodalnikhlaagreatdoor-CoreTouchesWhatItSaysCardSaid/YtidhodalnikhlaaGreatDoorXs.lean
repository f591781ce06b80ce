/-
  WHAT ELSE THE LAW NEEDS OF THE TEXTS BELOW: theorems about memory, traps, a step and its answer.
-/
import Derived.Test.YtidhodalnikhlaaGreatDoorVa
import Derived.Test.YtidhodalnikhlaaGreatDoorVb
import Derived.Test.YtidhodalnikhlaaGreatDoorVc
import Derived.Test.YtidhodalnikhlaaGreatDoorVd
import Derived.Test.YtidhodalnikhlaaGreatDoorVe
import Derived.Test.YtidhodalnikhlaaGreatDoorVf
import Derived.Test.YtidhodalnikhlaaGreatDoorVg
import Derived.Test.YtidhodalnikhlaaGreatDoorVh
import Derived.Test.YtidhodalnikhlaaGreatDoorVi
import Derived.Test.YtidhodalnikhlaaGreatDoorVj
import Derived.Test.YtidhodalnikhlaaGreatDoorVk
import Derived.Test.YtidhodalnikhlaaGreatDoorVl
import Derived.Test.YtidhodalnikhlaaGreatDoorVm
import Derived.Test.YtidhodalnikhlaaGreatDoorVn
import Derived.Test.YtidhodalnikhlaaGreatDoorVo
import Derived.Test.YtidhodalnikhlaaGreatDoorVp
import Derived.Test.YtidhodalnikhlaaGreatDoorWa
import Derived.Test.YtidhodalnikhlaaGreatDoorWb
import Derived.Test.YtidhodalnikhlaaGreatDoorWc
import Derived.Test.YtidhodalnikhlaaGreatDoorWd
import Derived.Test.YtidhodalnikhlaaGreatDoorWe
import Derived.Test.YtidhodalnikhlaaGreatDoorWf
import Derived.Test.YtidhodalnikhlaaGreatDoorWg
import Derived.Test.YtidhodalnikhlaaGreatDoorWh
import Derived.Test.YtidhodalnikhlaaGreatDoorWi
import Derived.Test.YtidhodalnikhlaaGreatDoorWj
import Derived.Test.YtidhodalnikhlaaGreatDoorWk
import Derived.Test.YtidhodalnikhlaaGreatDoorWl
import Derived.Test.YtidhodalnikhlaaGreatDoorWm
import Derived.Test.YtidhodalnikhlaaGreatDoorWn
import Derived.Test.YtidhodalnikhlaaGreatDoorWo
import Derived.Test.YtidhodalnikhlaaGreatDoorWp
import Derived.Test.YtidhodalnikhlaaGreatDoorWq
import Derived.Test.YtidhodalnikhlaaGreatDoorWr
import Derived.Test.YtidhodalnikhlaaGreatDoorWs
import Derived.Test.YtidhodalnikhlaaGreatDoorWt
import Derived.Test.YtidhodalnikhlaaGreatDoorWx
import Derived.Test.YtidhodalnikhlaaGreatDoorWy
import Derived.Test.YtidhodalnikhlaaGreatDoorWza
import Derived.Laws.BytesArg
import Derived.WalkKit
import Derived.WalkSpells
import Derived.WalkLawsBesides
import Derived.Maps.AppendAt
import Derived.Deep.AppendLies
import Derived.Deep.Draws
import Derived.Lib.Hide
import Derived.Laws.Rows
import Derived.Laws.IdiomCopy
import Derived.Deep.MidRow
import Derived.Deep.WholeRow
import Derived.Laws.Tables
import Derived.Laws.CopyOwn
import Derived.Deep.Strs
import Derived.ChangeSame
import Derived.ProofKit
import Derived.OpenShut
import Derived.SliceStrings
import Derived.Deep.Slices
import Derived.ArgAppend
import Derived.Deep.DeepHandedRow
import Derived.Lib.LaidTab
import Derived.Lib.LaidU8
import Derived.SizedLaws
import Derived.Outline
import Derived.StillTailTactics
import Derived.Lib.QuietBelow
import Derived.Deep.RegionHeld3
import Derived.ChangeKeysEq
import Derived.Deep.DeepCutAuto
import Derived.DeepKeys
import Derived.Deep.RegionHeld
import Derived.Laws.StructEq
import Derived.Defers
import Derived.Recover
import Derived.Laws.Pointers
import Derived.Laws.Bits64
import Derived.Laws.BitsLemmas
import Derived.BigQuiet
import Derived.Deep.QuietTactic
import Derived.Sort.OwnSortedInts
import Derived.Maps.Own
import Derived.Laws.AppendOwn
namespace Go.Proofs.YtidhodalnikhlaaGreatDoor
open Go.RowKit Go.ChangeShapes Go.WideShapes Go.ChangeAt
section
variable {H : Type} {enc : TypeId × Value → H} {P : Program}
end
section
variable {H : Type} {enc : TypeId × Value → H} {P : Program} {W : World} {r : Reach} {b0 : Nat} {v : Value} {d : DataW H} {p : List MemPlace}
end
section
variable {H : Type} {enc : TypeId × Value → H} {P : Program} {W : World} {r : Reach} {b0 : Nat} {v : Value} {d : DataW H} {p : List MemPlace}
set_option maxRecDepth 100000 in
theorem u32_arg {t : TypeId} (ht : P.underlying t = some (.int .u32)) (hv : Value.okWide P W r b0 t v) (h : DataW.Trod enc P W 0 (fun _ => true) true t v d p) : ∃ n : Int, v = .int .u32 n ∧ 0 ≤ n ∧ n ≤ 4294967295 := by
  obtain ⟨n, rfl, _, _, hw⟩ := open_int ht hv h
  have h1 : IntKind.u32.min = 0 := rfl
  have h2 : IntKind.u32.max = 4294967295 := rfl
  simp only [Lit.wf, Bool.and_eq_true, decide_eq_true_eq] at hw
  exact ⟨n, rfl, by omega, by omega⟩
end
section
variable {H : Type} {enc : TypeId × Value → H} {P : Program} {W : World} {r : Reach} {b0 : Nat} {v : Value} {d : DataW H} {p : List MemPlace}
end
end Go.Proofs.YtidhodalnikhlaaGreatDoor
namespace Go.Proofs.YtidhodalnikhlaaGreatDoor
open Go.RowKit Go.ChangeShapes Go.WideShapes Go.ChangeAt
section
variable {H : Type} {enc : TypeId × Value → H} {P : Program} {W : World} {r : Reach} {b0 : Nat} {v : Value} {d : DataW H} {p : List MemPlace}
end
end Go.Proofs.YtidhodalnikhlaaGreatDoor
namespace Go.Proofs.YtidhodalnikhlaaGreatDoor
open Go.RowKit Go.ChangeShapes Go.WideShapes Go.ChangeAt
set_option maxRecDepth 100000 in
theorem valid_any (x : Cpu) (w : World) : Calls Tryz.prog 21 #[.agg x.cells.toArray] w fun e w' => e = .returned (.bool (okC x.r0 x.c5 x.c7 x.c8 x.wt x.hl x.cn)) ∧ Later w w' := by
  have hb := Blk.new w 26 x.cells.toArray x.cells rfl
  have kr0 := hb.cell (j := 1) (v := .int .u32 x.r0) rfl
  have kc5 := hb.cell (j := 22) (v := .int .u32 x.c5) rfl
  have kc7 := hb.cell (j := 24) (v := .int .u32 x.c7) rfl
  have kc8 := hb.cell (j := 25) (v := .int .u32 x.c8) rfl
  have kwt := hb.cell (j := 27) (v := .bool x.wt) rfl
  have khl := hb.cell (j := 28) (v := .bool x.hl) rfl
  have kcn := hb.cell (j := 29) (v := .int .i64 x.cn) rfl
  generalize x.r0 = r0 at kr0 ⊢
  generalize x.c5 = c5 at kc5 ⊢
  generalize x.c7 = c7 at kc7 ⊢
  generalize x.c8 = c8 at kc8 ⊢
  generalize x.wt = wt at kwt ⊢
  generalize x.hl = hl at khl ⊢
  generalize x.cn = cn at kcn ⊢
  clear hb
  by_cases h0 : r0 = 0
  · have d0 : (r0 == 0) = true := by simpa using h0
    by_cases h1 : c5 ≤ 7
    · have d1 : decide (c5 ≤ 7) = true := decide_eq_true (by omega)
      by_cases h2 : c7 = 0
      · have d2 : (c7 == 0) = true := by simpa using h2
        by_cases h3 : c8 < 4
        · have d3 : decide (c8 < 4) = true := decide_eq_true (by omega)
          by_cases h4 : 0 ≤ cn
          · have d4 : decide (0 ≤ cn) = true := decide_eq_true (by omega)
            by_cases h5 : cn ≤ 1099511627776
            · have d5 : decide (cn ≤ 1099511627776) = true := decide_eq_true (by omega)
              have e : okC r0 c5 c7 c8 wt hl cn = !(wt && hl) := by unfold okC; simp only [decide_eq_true h0, decide_eq_true h1, decide_eq_true h2, decide_eq_true h3, decide_eq_true h4, decide_eq_true h5, Bool.true_and]
              rw [e]
              clear e h0 h1 h2 h3 h4 h5
              cases wt
              · go_enter Tryz.func21, Tryz.ntmps21
                go_wp2
                go_ret
                exact ⟨rfl, later1 _ _⟩
              · cases hl
                · go_enter Tryz.func21, Tryz.ntmps21
                  go_wp2
                  go_ret
                  exact ⟨rfl, later1 _ _⟩
                · go_enter Tryz.func21, Tryz.ntmps21
                  go_wp2
                  go_ret
                  exact ⟨rfl, later1 _ _⟩
            · have d5 : decide (cn ≤ 1099511627776) = false := decide_eq_false (by omega)
              have e : okC r0 c5 c7 c8 wt hl cn = false := by unfold okC; simp only [decide_eq_false h5, Bool.false_and, Bool.and_false]
              rw [e]
              clear e
              go_enter Tryz.func21, Tryz.ntmps21
              go_wp2
              go_ret
              exact ⟨rfl, later1 _ _⟩
          · have d4 : decide (0 ≤ cn) = false := decide_eq_false (by omega)
            have e : okC r0 c5 c7 c8 wt hl cn = false := by unfold okC; simp only [decide_eq_false h4, Bool.false_and, Bool.and_false]
            rw [e]
            clear e
            go_enter Tryz.func21, Tryz.ntmps21
            go_wp2
            go_ret
            exact ⟨rfl, later1 _ _⟩
        · have d3 : decide (c8 < 4) = false := decide_eq_false (by omega)
          have e : okC r0 c5 c7 c8 wt hl cn = false := by unfold okC; simp only [decide_eq_false h3, Bool.false_and, Bool.and_false]
          rw [e]
          clear e
          go_enter Tryz.func21, Tryz.ntmps21
          go_wp2
          go_ret
          exact ⟨rfl, later1 _ _⟩
      · have d2 : (c7 == 0) = false := by simpa using h2
        have e : okC r0 c5 c7 c8 wt hl cn = false := by unfold okC; simp only [decide_eq_false h2, Bool.false_and, Bool.and_false]
        rw [e]
        clear e
        go_enter Tryz.func21, Tryz.ntmps21
        go_wp2
        go_ret
        exact ⟨rfl, later1 _ _⟩
    · have d1 : decide (c5 ≤ 7) = false := decide_eq_false (by omega)
      have e : okC r0 c5 c7 c8 wt hl cn = false := by unfold okC; simp only [decide_eq_false h1, Bool.false_and, Bool.and_false]
      rw [e]
      clear e
      go_enter Tryz.func21, Tryz.ntmps21
      go_wp2
      go_ret
      exact ⟨rfl, later1 _ _⟩
  · have d0 : (r0 == 0) = false := by simpa using h0
    have e : okC r0 c5 c7 c8 wt hl cn = false := by unfold okC; simp only [decide_eq_false h0, Bool.false_and]
    rw [e]
    clear e
    go_enter Tryz.func21, Tryz.ntmps21
    go_wp2
    go_ret
    exact ⟨rfl, later1 _ _⟩
end Go.Proofs.YtidhodalnikhlaaGreatDoor
namespace Go.Proofs.YtidhodalnikhlaaGreatDoor
open Go.RowKit Go.ChangeShapes Go.WideShapes Go.ChangeAt
end Go.Proofs.YtidhodalnikhlaaGreatDoor
namespace Go.Proofs.YtidhodalnikhlaaGreatDoor
open Go.RowKit Go.ChangeShapes Go.WideShapes Go.ChangeAt
end Go.Proofs.YtidhodalnikhlaaGreatDoor
namespace Go.Proofs.YtidhodalnikhlaaGreatDoor
open Go.RowKit Go.ChangeShapes Go.WideShapes Go.ChangeAt
end Go.Proofs.YtidhodalnikhlaaGreatDoor
namespace Go.Proofs.YtidhodalnikhlaaGreatDoor
open Go.RowKit Go.ChangeShapes Go.WideShapes Go.ChangeAt
end Go.Proofs.YtidhodalnikhlaaGreatDoor
namespace Go.Proofs.YtidhodalnikhlaaGreatDoor
open Go.RowKit Go.ChangeShapes Go.WideShapes Go.ChangeAt
end Go.Proofs.YtidhodalnikhlaaGreatDoor
namespace Go.Proofs.YtidhodalnikhlaaGreatDoor
open Go.RowKit Go.ChangeShapes Go.WideShapes Go.ChangeAt
end Go.Proofs.YtidhodalnikhlaaGreatDoor
namespace Go.Proofs.YtidhodalnikhlaaGreatDoor
open Go.RowKit Go.ChangeShapes Go.WideShapes Go.ChangeAt
set_option maxRecDepth 100000 in
theorem items_refl {P : Program} (d : Nat) (e : TypeId) (c : Nat) (xs : Array Value) (w : World) : ∀ is : List Nat, (∀ i ∈ is, ∃ v, (part e xs (i * c)).run P w = .ok v w ∧ (Op.equalIn d e v v).run P w = .ok true w) → (Op.eqItems d e c xs xs is).run P w = .ok true w
  | [], _ => by simp [Op.eqItems]
  | i :: is, h => by
    obtain ⟨v, h1, h2⟩ := h i (by simp)
    simp only [Op.eqItems, Sem.run_bind, h1, h2, Result.andThen_ok]
    simpa using items_refl d e c xs w is (fun j hj => h j (by simp [hj]))
set_option maxRecDepth 100000 in
theorem fields_refl {P : Program} (d : Nat) (xs : Array Value) (w : World) : ∀ fs : List Field, (∀ f ∈ fs, f.name ≠ "_" ∧ ∃ v, (part f.type xs f.offset).run P w = .ok v w ∧ (Op.equalIn d f.type v v).run P w = .ok true w) → (Op.eqFields d xs xs fs).run P w = .ok true w
  | [], _ => by simp [Op.eqFields]
  | f :: fs, h => by
    obtain ⟨hn, v, h1, h2⟩ := h f (by simp)
    simp only [Op.eqFields, if_pos hn, Sem.run_bind, h1, h2, Result.andThen_ok]
    simpa using fields_refl d xs w fs (fun j hj => h j (by simp [hj]))
set_option maxRecDepth 100000 in
theorem eq_u32 (d : Nat) (a : Int) (w : World) : (Op.equalIn (d + 1) 22 (.int .u32 a) (.int .u32 a)).run Tryz.prog w = .ok true w := by
  rw [run_equalIn_int w d 22 .u32 .u32 a a Tryz.underlying22]
  simp
set_option maxRecDepth 100000 in
theorem arr_refl (n : Nat) (t : TypeId) (l : List Int) (d : Nat) (w : World) (ht : Tryz.prog.underlying t = some (.array n 22)) (hl : l.length = n) : (Op.equalIn (d + 1 + 1) t (.agg (l.map (Value.int .u32)).toArray) (.agg (l.map (Value.int .u32)).toArray)).run Tryz.prog w = .ok true w := by
  obtain ⟨i, hi⟩ := Option.isSome_iff_exists.1 (show (Tryz.prog.info? 22).isSome = true by kernel_rfl)
  rw [run_equalIn_array w (d + 1) _ _ ht hi, show Tryz.prog.cellsOf 22 = 1 by kernel_rfl]
  refine items_refl _ _ _ _ w _ fun j hj => ?_
  have hj' : j < l.length := by rw [hl]; exact List.mem_range.1 hj
  refine ⟨.int .u32 l[j], ?_, eq_u32 d _ w⟩
  have hag : (isAgg 22).run Tryz.prog w = .ok false w := by kernel_rfl
  have hc : (l.map (Value.int .u32)).toArray[j * 1]? = some (.int .u32 l[j]) := by simp [hj']
  simp [part, hag, hj']
set_option maxRecDepth 100000 in
theorem regs_same (x : Cpu) (w : World) : (Op.equalIn 10000 23 (.agg x.regs.toArray) (.agg x.regs.toArray)).run Tryz.prog w = .ok true w :=
  arr_refl 16 23 [x.r0, x.r1, x.r2, x.r3, x.r4, x.r5, x.r6, x.r7, x.r8, x.r9, x.r10, x.r11, x.r12, x.r13, x.r14, x.r15] 9998 w Tryz.underlying23 rfl
set_option maxRecDepth 100000 in
theorem cpu_same (x : Cpu) (w : World) : (Op.equalIn 10000 26 (.agg x.cells.toArray) (.agg x.cells.toArray)).run Tryz.prog w = .ok true w := by
  obtain ⟨fs, hfs, hu⟩ : ∃ fs, Tryz.prog.fieldsOf 26 = fs ∧ Tryz.prog.underlying 26 = some (.struct fs) := ⟨_, by kernel_rfl, Tryz.underlying26⟩
  rw [run_equalIn_struct w 9999 _ _ _ (by rw [hfs]; exact hu) (by kernel_rfl), hfs]
  have hfs2 := hu.symm.trans Tryz.underlying26
  injection hfs2 with h1
  injection h1 with h2
  subst h2
  refine fields_refl _ _ w _ fun f hf => ?_
  simp only [List.mem_cons, List.not_mem_nil, or_false] at hf
  rcases hf with rfl | rfl | rfl | rfl | rfl | rfl | rfl
  · exact ⟨by decide, .int .u32 x.pc, by kernel_rfl, eq_u32 9998 _ w⟩
  · exact ⟨by decide, .agg x.regs.toArray, by kernel_rfl, arr_refl 16 23 [x.r0, x.r1, x.r2, x.r3, x.r4, x.r5, x.r6, x.r7, x.r8, x.r9, x.r10, x.r11, x.r12, x.r13, x.r14, x.r15] 9997 w Tryz.underlying23 rfl⟩
  · exact ⟨by decide, .agg #[.int .u32 x.c0, .int .u32 x.c1, .int .u32 x.c2, .int .u32 x.c3, .int .u32 x.c4, .int .u32 x.c5, .int .u32 x.c6, .int .u32 x.c7, .int .u32 x.c8], by kernel_rfl, arr_refl 9 24 [x.c0, x.c1, x.c2, x.c3, x.c4, x.c5, x.c6, x.c7, x.c8] 9997 w Tryz.underlying24 rfl⟩
  · exact ⟨by decide, .bool x.u, by kernel_rfl, by rw [run_equalIn_bool w 9998 4 x.u x.u Tryz.underlying4]; simp⟩
  · exact ⟨by decide, .bool x.wt, by kernel_rfl, by rw [run_equalIn_bool w 9998 4 x.wt x.wt Tryz.underlying4]; simp⟩
  · exact ⟨by decide, .bool x.hl, by kernel_rfl, by rw [run_equalIn_bool w 9998 4 x.hl x.hl Tryz.underlying4]; simp⟩
  · exact ⟨by decide, .int .i64 x.cn, by kernel_rfl, by rw [run_equalIn_int w 9998 3 .i64 .i64 x.cn x.cn Tryz.underlying3]; simp⟩
set_option maxRecDepth 100000 in
theorem regs_sz (x : Cpu) : (Tryz.prog.info? 23).map (·.size) = some x.regs.length := by
  show _ = some 16
  kernel_rfl
section
variable {H : Type} {enc : TypeId × Value → H} {W : World} {r : Reach} {b0 : Nat} {v : Value} {d : DataW H} {p : List MemPlace}
end
set_option maxRecDepth 100000 in
/-- A guarded load out of the midst of a block. -/
theorem wpList_load_atg {P : Program} {ops : Array Oper} {rest : List Oper} {o : Oper} {a : Act} {w : World} {Q : Exit → Act → World → Prop} (ty : TypeId) (x : Operand) (ho : o.op = .load ty x)
    (g off n : Nat) (t : TypeId) (all cs : List Value) (d : TypeDesc) (hw : Region.wanted o (yielded ops a.tmps) = true) (hx : a.eval x = .pointer (some ⟨g, off, none⟩)) (hg : Blk w g t all) (hcs : (all.drop off).take n = cs)
    (hu : P.underlying ty = some d) (hd : d.isRow = true) (hi : (P.info? ty).map (·.size) = some cs.length)
    (h : wpList P ops Q rest (a.put o.dst (.agg cs.toArray)) w) : wpList P ops Q (o :: rest) a w :=
  wpList_step fun K hK => by
    rw [hw, if_pos rfl]
    exact wp_load_mid ty x ho g off hx cs d (by rw [← hcs]; exact hg.range off n) hu hd hi (hK _ _ h)
end Go.Proofs.YtidhodalnikhlaaGreatDoor
namespace Go.Proofs.YtidhodalnikhlaaGreatDoor
open Go.RowKit Go.ChangeShapes Go.WideShapes Go.ChangeAt
theorem built_e1 (x : Cpu) : Tryz.prog.built 38 [(1, .agg x.cells.toArray)] = some ({ zS with ec := x } : Sp).eff.toArray := by kernel_rfl
set_option maxRecDepth 100000 in
set_option maxHeartbeats 2000000 in
theorem step_not (x : Cpu) (A : Option Addr) (n c : Nat) (p : Int) (w : World) (hp : Tm.isE p) (hr : rdy x.hl x.wt p = false) : Calls Tryz.prog 13 #[.agg x.cells.toArray, .agg #[.slice A n c], .int .u32 p] w fun e w' => e = .returned (.agg ({ zS with ec := x } : Sp).eff.toArray) ∧ Later w w' := by
  obtain ⟨u0, hu⟩ : ∃ u0, u0 = ((w.alloc (.cells x.cells.toArray 26)).alloc (.cells #[.slice A n c] 29)).alloc (.cells zS.eff.toArray 38) := ⟨_, rfl⟩
  have l0 : Later w u0 := by rw [hu]; exact ((later1 w _).alloc (by simp) _).alloc (by simp; omega) _
  have z0 : u0.heap.size = w.heap.size + 3 := by rw [hu]; simp
  have bC : Blk u0 w.heap.size 26 x.cells := by rw [hu]; exact ((Blk.new w 26 x.cells.toArray x.cells rfl).alloc _).alloc _
  have bM : Blk u0 (w.heap.size + 1) 29 [.slice A n c] := by rw [hu]; exact (Blk.new' (w.alloc (.cells x.cells.toArray 26)) (w.heap.size + 1) 29 #[.slice A n c] [.slice A n c] (by simp) rfl).alloc _
  have bE : Blk u0 (w.heap.size + 1 + 1) 38 zS.eff := by rw [hu]; exact Blk.new' ((w.alloc (.cells x.cells.toArray 26)).alloc (.cells #[.slice A n c] 29)) (w.heap.size + 1 + 1) 38 zS.eff.toArray zS.eff (by simp) rfl
  have HR := Lib.hid fun w' => ready_any x p w' hp
  rw [hr] at HR
  clear hp hr
  have HE := Lib.hid fun w => run_build w _ #[(1, .agg x.cells.toArray)] _ (built_e1 x)
  obtain ⟨E, hE⟩ : ∃ E, E = ({ zS with ec := x } : Sp).eff := ⟨_, rfl⟩
  rw [← hE] at HE ⊢
  have hEl : ∀ v ∈ E, v.oneCell' = true := by rw [hE]; exact eff_one _ rfl rfl
  have hEs : (Tryz.prog.info? 38).map (·.size) = some E.length := by rw [hE]; exact eff_sz _
  have hEe : zS.eff.length = E.length := by rw [hE]; rfl
  clear hE
  go_enter Tryz.func13, Tryz.ntmps13
  go_upto_region 1 with fail
  refine wp_eq_world (u := u0) hu ?_
  clear hu
  go_wp2_with (first
    | ((with_reducible refine wpList_load_blk (o := ⟨some 8, .load 26 (.tmp 3), _, _, _, none⟩) rfl _ _ rfl w.heap.size 26 x.cells _ ?_ ?_ Tryz.underlying26 rfl (cpu_sz _) ?_); rfl; exact bC)
    | (go_at_call 20; refine (HR.out _).mono ?_; rintro e w1 ⟨rfl, l1⟩; replace bC := bC.keep l1; replace bM := bM.keep l1; replace bE := bE.keep l1; have l2 := Later.trans_ l0 l1)
    | ((with_reducible refine wpList_load_blk (o := ⟨some 12, .load 26 (.tmp 3), _, _, _, none⟩) rfl _ _ rfl w.heap.size 26 x.cells _ ?_ ?_ Tryz.underlying26 rfl (cpu_sz _) ?_); rfl; exact bC)
    | ((with_reducible refine wpList_bld (o := ⟨some 13, .build 38 #[(1, .tmp 12)], _, _, _, none⟩) rfl _ #[(1, .tmp 12)] #[(1, .agg x.cells.toArray)] E.toArray rfl ?_ (HE.out _) ?_); rfl)
    | ((with_reducible refine wpList_store_abs (o := ⟨none, .store 38 (.tmp 6) (.tmp 13), _, _, _, none⟩) rfl _ _ _ rfl (w.heap.size + 1 + 1) 38 zS.eff E ?_ ?_ bE hEs hEe hEl ?_); rfl; rfl; intro w3 b3 o3))
  exact bodyPost_ret (results_blk Tryz.results13 _ _ (w.heap.size + 1 + 1) 38 E _ rfl b3 Tryz.underlying38 rfl hEs) rfl ⟨rfl, Below.only l2 o3 (by omega)⟩
end Go.Proofs.YtidhodalnikhlaaGreatDoor
namespace Go.Proofs.YtidhodalnikhlaaGreatDoor
open Go.RowKit Go.ChangeShapes Go.WideShapes Go.ChangeAt
set_option maxRecDepth 100000 in
set_option maxHeartbeats 4000000 in
theorem ans_same (s : Sp) (v : Int) (k : Bool) (w : World) (hk : s.ak = false) (h1 : s.wv.oneCell' = true) (h2 : s.av.oneCell' = true) : Calls Tryz.prog 15 #[.agg s.eff.toArray, .int .u32 v, .bool k] w fun e w' => e = .returned (.agg s.eff.toArray) ∧ Later w w' := by
  obtain ⟨u0, hu⟩ : ∃ u0, u0 = (w.alloc (.cells s.eff.toArray 38)).alloc (.cells zS.eff.toArray 38) := ⟨_, rfl⟩
  have lw : Later w u0 := by rw [hu]; exact (later1 w _).alloc (by simp) _
  have bE : Blk u0 w.heap.size 38 s.eff := by rw [hu]; exact (Blk.new w 38 s.eff.toArray s.eff rfl).alloc _
  have bR : Blk u0 (w.heap.size + 1) 38 zS.eff := by rw [hu]; exact Blk.new' (w.alloc (.cells s.eff.toArray 38)) (w.heap.size + 1) 38 zS.eff.toArray zS.eff (by simp) rfl
  have c6 : u0.cell? ⟨w.heap.size, 64, none⟩ = some (.bool false) := bE.cell (congrArg (fun x => some (Value.bool x)) hk)
  clear hk
  go_enter Tryz.func15, Tryz.ntmps15
  go_upto_region 1 with fail
  refine wp_eq_world (u := u0) hu ?_
  clear hu
  go_wp2_with (first
    | ((with_reducible refine wpList_load_blk (o := ⟨some 12, .load 38 (.tmp 3), _, _, _, none⟩) rfl _ _ rfl w.heap.size 38 s.eff _ ?_ ?_ Tryz.underlying38 rfl (eff_sz _) ?_); rfl; exact bE)
    | ((with_reducible refine wpList_store_abs (o := ⟨none, .store 38 (.tmp 6) (.tmp 12), _, _, _, none⟩) rfl _ _ _ rfl (w.heap.size + 1) 38 zS.eff s.eff ?_ ?_ bR (eff_sz _) rfl (eff_one _ h1 h2) ?_); rfl; rfl; intro w9 b9 o9))
  exact bodyPost_ret (results_blk Tryz.results15 _ _ (w.heap.size + 1) 38 s.eff _ rfl b9 Tryz.underlying38 rfl (eff_sz _)) rfl ⟨rfl, Below.only lw o9 (by omega)⟩
set_option maxRecDepth 100000 in
set_option maxHeartbeats 4000000 in
theorem ans_no (s : Sp) (AW AA : Option Addr) (nw na cw ca : Nat) (X1 X2 : List Value) (v : Int) (w : World) (hk : s.ak = true) (hw : s.wv = .slice AW nw cw) (ha : s.av = .slice AA na ca) (hs1 : Sl w 3 AW nw X1) (hs2 : Sl w 3 AA na X2) (hq1 : nw ≤ 1000000) (hq2 : na ≤ 1000000) (hc : Tm.isE s.ec.c5) : Calls Tryz.prog 15 #[.agg s.eff.toArray, .int .u32 v, .bool false] w (Answered (s.refused) nw na X1 X2 w) := by
  have HE := Lib.hid fun w' => enter_any s.ec 2 s.wd s.old.pc w' hc
  clear hc
  obtain ⟨u0, hu⟩ : ∃ u0, u0 = (w.alloc (.cells s.eff.toArray 38)).alloc (.cells zS.eff.toArray 38) := ⟨_, rfl⟩
  have lw : Later w u0 := by rw [hu]; exact (later1 w _).alloc (by simp) _
  have bE : Blk u0 w.heap.size 38 s.eff := by rw [hu]; exact (Blk.new w 38 s.eff.toArray s.eff rfl).alloc _
  have bR : Blk u0 (w.heap.size + 1) 38 zS.eff := by rw [hu]; exact Blk.new' (w.alloc (.cells s.eff.toArray 38)) (w.heap.size + 1) 38 zS.eff.toArray zS.eff (by simp) rfl
  have c6 : u0.cell? ⟨w.heap.size, 64, none⟩ = some (.bool true) := bE.cell (congrArg (fun x => some (Value.bool x)) hk)
  have f6 := bE.frz 64
  have HV1 := Lib.hid hw
  have HV2 := Lib.hid ha
  have HW := Lib.hid fun w' (l : Later w w') => clonew_any AW nw cw X1 w' (hs1.keep l) hq1
  have HA := Lib.hid fun w' (l : Later w w') => clonea_any AA na ca X2 w' (hs2.keep l) hq2
  clear hk hw ha hs1 hs2 hq1 hq2
  go_enter Tryz.func15, Tryz.ntmps15
  go_upto_region 1 with fail
  refine wp_eq_world (u := u0) hu ?_
  clear hu
  go_upto_region 4 with (first
    | ((refine wpList_store_at (o := ⟨none, .store 36 (.tmp 15) (.tmp 13), _, _, _, none⟩) rfl _ _ _ rfl rfl w.heap.size 65 38 _ [.bool false, .int .i64 0, .int .u32 0] ?_ ?_ (bE.set 64 (.bool false)) (io_sz _ _ _) (show 65 + 3 ≤ 71 from by decide) (fun u hu => by simp only [List.mem_cons, List.not_mem_nil, or_false] at hu; rcases hu with rfl | rfl | rfl <;> rfl) ?_); rfl; rfl; intro w3 b3 o3))
  replace bE : Blk w3 w.heap.size 38 ({ s with ak := false, ii := false, ip := 0, iv := 0 } : Sp).eff := b3
  replace bR := (((bR.set_other ⟨w.heap.size, 64, none⟩ (.bool false) (by show (w.heap.size + 1) ≠ w.heap.size; omega)).only o3 (by omega)))
  replace lw := Below.only (Below.setCell lw (p := ⟨w.heap.size, 64, none⟩) (Nat.le_refl _) (.bool false)) o3 (Nat.le_refl _)
  clear b3 o3 c6 f6
  go_cut [16] (fun _ wx => ∃ A1 c1 A2 c2, Blk wx w.heap.size 38 (Sp.done s (.slice A1 nw c1) (.slice A2 na c2)).eff ∧ Blk wx (w.heap.size + 1) 38 zS.eff ∧ Fr wx (w.heap.size + 1) A1 nw X1 ∧ Fr wx (w.heap.size + 1) A2 na X2 ∧ Later w wx)
  case first =>
    replace bE := bE.drew
    replace bR := bR.drew
    replace lw := Below.drew lw
    have c62 : World.cell? w3.drew ⟨w.heap.size, 62, none⟩ = some (.slice AW nw cw) := bE.cell (congrArg some HV1.out)
    have c63 : World.cell? w3.drew ⟨w.heap.size, 63, none⟩ = some (.slice AA na ca) := bE.cell (congrArg some HV2.out)
    have f62 := bE.frz 62
    refine wp_region_held_drew (S := fun w' => True) (by kernel_rfl) trivial (fun hHeld => ?_)
    refine wpAnyH_take (i := 0) (oi := ⟨some 16, .fieldAddr 38 (.tmp 3) 4, _, _, _, none⟩) (v := .pointer (some ⟨w.heap.size, 62, none⟩)) rfl (by kernel_rfl) (by kernel_rfl) (by kernel_rfl) (fun _ _ _ h => h) (Or.inl ⟨by rfl, fun w _ => by go_simp⟩) hHeld ?_
    simp only [Act.put, List.setIfInBounds_toArray, List.set_cons_zero, List.set_cons_succ]
    refine wpAnyH_take (i := 3) (oi := ⟨some 19, .fieldAddr 38 (.tmp 3) 5, _, _, _, none⟩) (v := .pointer (some ⟨w.heap.size, 63, none⟩)) rfl (by kernel_rfl) (by kernel_rfl) (by kernel_rfl) (fun _ _ _ h => h) (Or.inl ⟨by rfl, fun w _ => by go_simp⟩) hHeld ?_
    simp only [Act.put, List.setIfInBounds_toArray, List.set_cons_zero, List.set_cons_succ]
    refine wpAnyH_ready (rs := [1, 4]) (by kernel_rfl) (by simp) (AllReadyH.cons (o := ⟨some 17, .load 33 (.tmp 16), _, _, _, none⟩) rfl (fun K' hK => ?_) (AllReadyH.cons (o := ⟨some 20, .load 34 (.tmp 19), _, _, _, none⟩) rfl (fun K' hK => ?_) AllReadyH.nil))
    · go_simp
      refine hK.out _ _ trivial (fun hHeld => ?_)
      clear hK K'
      try simp only [Act.put, List.setIfInBounds_toArray, List.set_cons_zero, List.set_cons_succ]
      refine wpAnyH_ready (rs := [2, 4]) (by kernel_rfl) (by simp) (AllReadyH.cons (o := ⟨some 18, .call { callee := .value (.func 45), args := #[.tmp 17], argTypes := #[33] }, _, _, _, none⟩) rfl (fun K' hK => ?_) (AllReadyH.cons (o := ⟨some 20, .load 34 (.tmp 19), _, _, _, none⟩) rfl (fun K' hK => ?_) AllReadyH.nil))
      · go_simp
        refine (HW.out _ lw).mono ?_
        rintro e w4 ⟨A1, c1, rfl, s1, n1, l4⟩
        have t1 : Fr _ (w.heap.size + 1) _ _ _ := ⟨s1, fun ad e => Nat.lt_of_lt_of_le bR.lt (n1 ad e)⟩
        clear s1 n1
        replace bE := bE.keep l4
        replace bR := bR.keep l4
        replace lw := Later.trans_ lw l4
        clear c62 c63 f62
        have c62 : World.cell? w4 ⟨w.heap.size, 62, none⟩ = some (.slice AW nw cw) := bE.cell (congrArg some HV1.out)
        have c63 : World.cell? w4 ⟨w.heap.size, 63, none⟩ = some (.slice AA na ca) := bE.cell (congrArg some HV2.out)
        have f62 := bE.frz 62
        refine hK.out _ _ trivial (fun hHeld => ?_)
        clear hK K'
        try simp only [Act.put, List.setIfInBounds_toArray, List.set_cons_zero, List.set_cons_succ]
        refine wpAnyH_ready (rs := [4]) (by kernel_rfl) (by simp) (AllReadyH.cons (o := ⟨some 20, .load 34 (.tmp 19), _, _, _, none⟩) rfl (fun K' hK => ?_) AllReadyH.nil)
        go_simp
        refine hK.out _ _ trivial (fun hHeld => ?_)
        clear hK K'
        try simp only [Act.put, List.setIfInBounds_toArray, List.set_cons_zero, List.set_cons_succ]
        refine wpAnyH_ready (rs := [5]) (by kernel_rfl) (by simp) (AllReadyH.cons (o := ⟨some 21, .call { callee := .value (.func 46), args := #[.tmp 20], argTypes := #[34] }, _, _, _, none⟩) rfl (fun K' hK => ?_) AllReadyH.nil)
        go_simp
        refine (HA.out _ lw).mono ?_
        rintro e w5 ⟨A2, c2, rfl, s2, n2, l5⟩
        replace t1 := t1.keep l5
        have t2 : Fr _ (w.heap.size + 1) _ _ _ := ⟨s2, fun ad e => Nat.lt_of_lt_of_le bR.lt (n2 ad e)⟩
        clear s2 n2
        replace bE := bE.keep l5
        replace bR := bR.keep l5
        replace lw := Later.trans_ lw l5
        clear c62 c63 f62
        have c62 : World.cell? w5 ⟨w.heap.size, 62, none⟩ = some (.slice AW nw cw) := bE.cell (congrArg some HV1.out)
        have c63 : World.cell? w5 ⟨w.heap.size, 63, none⟩ = some (.slice AA na ca) := bE.cell (congrArg some HV2.out)
        have f62 := bE.frz 62
        refine hK.out _ _ trivial (fun hHeld => ?_)
        clear hK K'
        try simp only [Act.put, List.setIfInBounds_toArray, List.set_cons_zero, List.set_cons_succ]
        refine wpAnyH_take (i := 6) (oi := ⟨some 22, .fieldAddr 38 (.tmp 3) 4, _, _, _, none⟩) (v := .pointer (some ⟨w.heap.size, 62, none⟩)) rfl (by kernel_rfl) (by kernel_rfl) (by kernel_rfl) (fun _ _ _ h => h) (Or.inl ⟨by rfl, fun w _ => by go_simp⟩) hHeld ?_
        simp only [Act.put, List.setIfInBounds_toArray, List.set_cons_zero, List.set_cons_succ]
        refine wpAnyH_ready (rs := [7]) (by kernel_rfl) (by simp) (AllReadyH.cons (o := ⟨none, .store 33 (.tmp 22) (.tmp 18), _, _, _, none⟩) rfl (fun K' hK => ?_) AllReadyH.nil)
        go_simp
        replace t1 := t1.only (Only.set _ w.heap.size 62 (.slice A1 nw c1)) (by omega)
        replace t2 := t2.only (Only.set _ w.heap.size 62 (.slice A1 nw c1)) (by omega)
        replace bE := bE.set 62 (.slice A1 nw c1)
        replace bR := bR.set_other ⟨w.heap.size, 62, none⟩ (.slice A1 nw c1) (by show (w.heap.size + 1) ≠ w.heap.size; omega)
        replace lw := Below.setCell lw (p := ⟨w.heap.size, 62, none⟩) (Nat.le_refl _) (.slice A1 nw c1)
        clear c62 c63 f62
        have c63 : World.cell? _ ⟨w.heap.size, 63, none⟩ = some (.slice AA na ca) := bE.cell (j := 63) (congrArg some HV2.out)
        have f63 := bE.frz 63
        refine hK.out _ _ trivial (fun hHeld => ?_)
        clear hK K'
        try simp only [Act.put]
        refine wpAnyH_take (i := 8) (oi := ⟨some 23, .fieldAddr 38 (.tmp 3) 5, _, _, _, none⟩) (v := .pointer (some ⟨w.heap.size, 63, none⟩)) rfl (by kernel_rfl) (by kernel_rfl) (by kernel_rfl) (fun _ _ _ h => h) (Or.inl ⟨by rfl, fun w _ => by go_simp⟩) hHeld ?_
        simp only [Act.put, List.setIfInBounds_toArray, List.set_cons_zero, List.set_cons_succ]
        refine wpAnyH_ready (rs := [9]) (by kernel_rfl) (by simp) (AllReadyH.cons (o := ⟨none, .store 34 (.tmp 23) (.tmp 21), _, _, _, none⟩) rfl (fun K' hK => ?_) AllReadyH.nil)
        go_simp
        replace t1 := t1.only (Only.set _ w.heap.size 63 (.slice A2 na c2)) (by omega)
        replace t2 := t2.only (Only.set _ w.heap.size 63 (.slice A2 na c2)) (by omega)
        replace bE := bE.set 63 (.slice A2 na c2)
        replace bR := bR.set_other ⟨w.heap.size, 63, none⟩ (.slice A2 na c2) (by show (w.heap.size + 1) ≠ w.heap.size; omega)
        replace lw := Below.setCell lw (p := ⟨w.heap.size, 63, none⟩) (Nat.le_refl _) (.slice A2 na c2)
        clear c63 f63
        refine hK.out _ _ trivial (fun hHeld => ?_)
        clear hK K'
        try simp only [Act.put]
        refine wpAnyH_done (by kernel_rfl) ?_ _
        clear hHeld
        replace bE : Blk _ w.heap.size 38 (Sp.done s (.slice A1 nw c1) (.slice A2 na c2)).eff := bE
        go_wp2
        go_meet
        exact ⟨A1, c1, A2, c2, bE, bR, t1, t2, lw⟩
      · go_simp
        refine hK.out _ _ trivial (fun hHeld => ?_)
        clear hK K'
        try simp only [Act.put, List.setIfInBounds_toArray, List.set_cons_zero, List.set_cons_succ]
        refine wpAnyH_ready (rs := [2]) (by kernel_rfl) (by simp) (AllReadyH.cons (o := ⟨some 18, .call { callee := .value (.func 45), args := #[.tmp 17], argTypes := #[33] }, _, _, _, none⟩) rfl (fun K' hK => ?_) AllReadyH.nil)
        go_simp
        refine (HW.out _ lw).mono ?_
        rintro e w4 ⟨A1, c1, rfl, s1, n1, l4⟩
        have t1 : Fr _ (w.heap.size + 1) _ _ _ := ⟨s1, fun ad e => Nat.lt_of_lt_of_le bR.lt (n1 ad e)⟩
        clear s1 n1
        replace bE := bE.keep l4
        replace bR := bR.keep l4
        replace lw := Later.trans_ lw l4
        clear c62 c63 f62
        have c62 : World.cell? w4 ⟨w.heap.size, 62, none⟩ = some (.slice AW nw cw) := bE.cell (congrArg some HV1.out)
        have c63 : World.cell? w4 ⟨w.heap.size, 63, none⟩ = some (.slice AA na ca) := bE.cell (congrArg some HV2.out)
        have f62 := bE.frz 62
        refine hK.out _ _ trivial (fun hHeld => ?_)
        clear hK K'
        try simp only [Act.put, List.setIfInBounds_toArray, List.set_cons_zero, List.set_cons_succ]
        refine wpAnyH_ready (rs := [5]) (by kernel_rfl) (by simp) (AllReadyH.cons (o := ⟨some 21, .call { callee := .value (.func 46), args := #[.tmp 20], argTypes := #[34] }, _, _, _, none⟩) rfl (fun K' hK => ?_) AllReadyH.nil)
        go_simp
        refine (HA.out _ lw).mono ?_
        rintro e w5 ⟨A2, c2, rfl, s2, n2, l5⟩
        replace t1 := t1.keep l5
        have t2 : Fr _ (w.heap.size + 1) _ _ _ := ⟨s2, fun ad e => Nat.lt_of_lt_of_le bR.lt (n2 ad e)⟩
        clear s2 n2
        replace bE := bE.keep l5
        replace bR := bR.keep l5
        replace lw := Later.trans_ lw l5
        clear c62 c63 f62
        have c62 : World.cell? w5 ⟨w.heap.size, 62, none⟩ = some (.slice AW nw cw) := bE.cell (congrArg some HV1.out)
        have c63 : World.cell? w5 ⟨w.heap.size, 63, none⟩ = some (.slice AA na ca) := bE.cell (congrArg some HV2.out)
        have f62 := bE.frz 62
        refine hK.out _ _ trivial (fun hHeld => ?_)
        clear hK K'
        try simp only [Act.put, List.setIfInBounds_toArray, List.set_cons_zero, List.set_cons_succ]
        refine wpAnyH_take (i := 6) (oi := ⟨some 22, .fieldAddr 38 (.tmp 3) 4, _, _, _, none⟩) (v := .pointer (some ⟨w.heap.size, 62, none⟩)) rfl (by kernel_rfl) (by kernel_rfl) (by kernel_rfl) (fun _ _ _ h => h) (Or.inl ⟨by rfl, fun w _ => by go_simp⟩) hHeld ?_
        simp only [Act.put, List.setIfInBounds_toArray, List.set_cons_zero, List.set_cons_succ]
        refine wpAnyH_ready (rs := [7]) (by kernel_rfl) (by simp) (AllReadyH.cons (o := ⟨none, .store 33 (.tmp 22) (.tmp 18), _, _, _, none⟩) rfl (fun K' hK => ?_) AllReadyH.nil)
        go_simp
        replace t1 := t1.only (Only.set _ w.heap.size 62 (.slice A1 nw c1)) (by omega)
        replace t2 := t2.only (Only.set _ w.heap.size 62 (.slice A1 nw c1)) (by omega)
        replace bE := bE.set 62 (.slice A1 nw c1)
        replace bR := bR.set_other ⟨w.heap.size, 62, none⟩ (.slice A1 nw c1) (by show (w.heap.size + 1) ≠ w.heap.size; omega)
        replace lw := Below.setCell lw (p := ⟨w.heap.size, 62, none⟩) (Nat.le_refl _) (.slice A1 nw c1)
        clear c62 c63 f62
        have c63 : World.cell? _ ⟨w.heap.size, 63, none⟩ = some (.slice AA na ca) := bE.cell (j := 63) (congrArg some HV2.out)
        have f63 := bE.frz 63
        refine hK.out _ _ trivial (fun hHeld => ?_)
        clear hK K'
        try simp only [Act.put]
        refine wpAnyH_take (i := 8) (oi := ⟨some 23, .fieldAddr 38 (.tmp 3) 5, _, _, _, none⟩) (v := .pointer (some ⟨w.heap.size, 63, none⟩)) rfl (by kernel_rfl) (by kernel_rfl) (by kernel_rfl) (fun _ _ _ h => h) (Or.inl ⟨by rfl, fun w _ => by go_simp⟩) hHeld ?_
        simp only [Act.put, List.setIfInBounds_toArray, List.set_cons_zero, List.set_cons_succ]
        refine wpAnyH_ready (rs := [9]) (by kernel_rfl) (by simp) (AllReadyH.cons (o := ⟨none, .store 34 (.tmp 23) (.tmp 21), _, _, _, none⟩) rfl (fun K' hK => ?_) AllReadyH.nil)
        go_simp
        replace t1 := t1.only (Only.set _ w.heap.size 63 (.slice A2 na c2)) (by omega)
        replace t2 := t2.only (Only.set _ w.heap.size 63 (.slice A2 na c2)) (by omega)
        replace bE := bE.set 63 (.slice A2 na c2)
        replace bR := bR.set_other ⟨w.heap.size, 63, none⟩ (.slice A2 na c2) (by show (w.heap.size + 1) ≠ w.heap.size; omega)
        replace lw := Below.setCell lw (p := ⟨w.heap.size, 63, none⟩) (Nat.le_refl _) (.slice A2 na c2)
        clear c63 f63
        refine hK.out _ _ trivial (fun hHeld => ?_)
        clear hK K'
        try simp only [Act.put]
        refine wpAnyH_done (by kernel_rfl) ?_ _
        clear hHeld
        replace bE : Blk _ w.heap.size 38 (Sp.done s (.slice A1 nw c1) (.slice A2 na c2)).eff := bE
        go_wp2
        go_meet
        exact ⟨A1, c1, A2, c2, bE, bR, t1, t2, lw⟩
    · go_simp
      refine hK.out _ _ trivial (fun hHeld => ?_)
      clear hK K'
      try simp only [Act.put, List.setIfInBounds_toArray, List.set_cons_zero, List.set_cons_succ]
      refine wpAnyH_ready (rs := [1]) (by kernel_rfl) (by simp) (AllReadyH.cons (o := ⟨some 17, .load 33 (.tmp 16), _, _, _, none⟩) rfl (fun K' hK => ?_) AllReadyH.nil)
      go_simp
      refine hK.out _ _ trivial (fun hHeld => ?_)
      clear hK K'
      try simp only [Act.put, List.setIfInBounds_toArray, List.set_cons_zero, List.set_cons_succ]
      refine wpAnyH_ready (rs := [2]) (by kernel_rfl) (by simp) (AllReadyH.cons (o := ⟨some 18, .call { callee := .value (.func 45), args := #[.tmp 17], argTypes := #[33] }, _, _, _, none⟩) rfl (fun K' hK => ?_) AllReadyH.nil)
      go_simp
      refine (HW.out _ lw).mono ?_
      rintro e w4 ⟨A1, c1, rfl, s1, n1, l4⟩
      have t1 : Fr _ (w.heap.size + 1) _ _ _ := ⟨s1, fun ad e => Nat.lt_of_lt_of_le bR.lt (n1 ad e)⟩
      clear s1 n1
      replace bE := bE.keep l4
      replace bR := bR.keep l4
      replace lw := Later.trans_ lw l4
      clear c62 c63 f62
      have c62 : World.cell? w4 ⟨w.heap.size, 62, none⟩ = some (.slice AW nw cw) := bE.cell (congrArg some HV1.out)
      have c63 : World.cell? w4 ⟨w.heap.size, 63, none⟩ = some (.slice AA na ca) := bE.cell (congrArg some HV2.out)
      have f62 := bE.frz 62
      refine hK.out _ _ trivial (fun hHeld => ?_)
      clear hK K'
      try simp only [Act.put, List.setIfInBounds_toArray, List.set_cons_zero, List.set_cons_succ]
      refine wpAnyH_ready (rs := [5]) (by kernel_rfl) (by simp) (AllReadyH.cons (o := ⟨some 21, .call { callee := .value (.func 46), args := #[.tmp 20], argTypes := #[34] }, _, _, _, none⟩) rfl (fun K' hK => ?_) AllReadyH.nil)
      go_simp
      refine (HA.out _ lw).mono ?_
      rintro e w5 ⟨A2, c2, rfl, s2, n2, l5⟩
      replace t1 := t1.keep l5
      have t2 : Fr _ (w.heap.size + 1) _ _ _ := ⟨s2, fun ad e => Nat.lt_of_lt_of_le bR.lt (n2 ad e)⟩
      clear s2 n2
      replace bE := bE.keep l5
      replace bR := bR.keep l5
      replace lw := Later.trans_ lw l5
      clear c62 c63 f62
      have c62 : World.cell? w5 ⟨w.heap.size, 62, none⟩ = some (.slice AW nw cw) := bE.cell (congrArg some HV1.out)
      have c63 : World.cell? w5 ⟨w.heap.size, 63, none⟩ = some (.slice AA na ca) := bE.cell (congrArg some HV2.out)
      have f62 := bE.frz 62
      refine hK.out _ _ trivial (fun hHeld => ?_)
      clear hK K'
      try simp only [Act.put, List.setIfInBounds_toArray, List.set_cons_zero, List.set_cons_succ]
      refine wpAnyH_take (i := 6) (oi := ⟨some 22, .fieldAddr 38 (.tmp 3) 4, _, _, _, none⟩) (v := .pointer (some ⟨w.heap.size, 62, none⟩)) rfl (by kernel_rfl) (by kernel_rfl) (by kernel_rfl) (fun _ _ _ h => h) (Or.inl ⟨by rfl, fun w _ => by go_simp⟩) hHeld ?_
      simp only [Act.put, List.setIfInBounds_toArray, List.set_cons_zero, List.set_cons_succ]
      refine wpAnyH_ready (rs := [7]) (by kernel_rfl) (by simp) (AllReadyH.cons (o := ⟨none, .store 33 (.tmp 22) (.tmp 18), _, _, _, none⟩) rfl (fun K' hK => ?_) AllReadyH.nil)
      go_simp
      replace t1 := t1.only (Only.set _ w.heap.size 62 (.slice A1 nw c1)) (by omega)
      replace t2 := t2.only (Only.set _ w.heap.size 62 (.slice A1 nw c1)) (by omega)
      replace bE := bE.set 62 (.slice A1 nw c1)
      replace bR := bR.set_other ⟨w.heap.size, 62, none⟩ (.slice A1 nw c1) (by show (w.heap.size + 1) ≠ w.heap.size; omega)
      replace lw := Below.setCell lw (p := ⟨w.heap.size, 62, none⟩) (Nat.le_refl _) (.slice A1 nw c1)
      clear c62 c63 f62
      have c63 : World.cell? _ ⟨w.heap.size, 63, none⟩ = some (.slice AA na ca) := bE.cell (j := 63) (congrArg some HV2.out)
      have f63 := bE.frz 63
      refine hK.out _ _ trivial (fun hHeld => ?_)
      clear hK K'
      try simp only [Act.put]
      refine wpAnyH_take (i := 8) (oi := ⟨some 23, .fieldAddr 38 (.tmp 3) 5, _, _, _, none⟩) (v := .pointer (some ⟨w.heap.size, 63, none⟩)) rfl (by kernel_rfl) (by kernel_rfl) (by kernel_rfl) (fun _ _ _ h => h) (Or.inl ⟨by rfl, fun w _ => by go_simp⟩) hHeld ?_
      simp only [Act.put, List.setIfInBounds_toArray, List.set_cons_zero, List.set_cons_succ]
      refine wpAnyH_ready (rs := [9]) (by kernel_rfl) (by simp) (AllReadyH.cons (o := ⟨none, .store 34 (.tmp 23) (.tmp 21), _, _, _, none⟩) rfl (fun K' hK => ?_) AllReadyH.nil)
      go_simp
      replace t1 := t1.only (Only.set _ w.heap.size 63 (.slice A2 na c2)) (by omega)
      replace t2 := t2.only (Only.set _ w.heap.size 63 (.slice A2 na c2)) (by omega)
      replace bE := bE.set 63 (.slice A2 na c2)
      replace bR := bR.set_other ⟨w.heap.size, 63, none⟩ (.slice A2 na c2) (by show (w.heap.size + 1) ≠ w.heap.size; omega)
      replace lw := Below.setCell lw (p := ⟨w.heap.size, 63, none⟩) (Nat.le_refl _) (.slice A2 na c2)
      clear c63 f63
      refine hK.out _ _ trivial (fun hHeld => ?_)
      clear hK K'
      try simp only [Act.put]
      refine wpAnyH_done (by kernel_rfl) ?_ _
      clear hHeld
      replace bE : Blk _ w.heap.size 38 (Sp.done s (.slice A1 nw c1) (.slice A2 na c2)).eff := bE
      go_wp2
      go_meet
      exact ⟨A1, c1, A2, c2, bE, bR, t1, t2, lw⟩
  case rest =>
    clear bE bR lw
    obtain ⟨A1, c1, A2, c2, bE, bR, t1, t2, lw⟩ := hcut
    replace bE : Blk _ w.heap.size 38 (Sp.done s (.slice A1 nw c1) (.slice A2 na c2)).eff := bE
    have c61 := bE.cell (j := 61) (v := .int .u32 s.wd) rfl
    have c31 := bE.cell (j := 31) (v := .int .u32 s.old.pc) rfl
    go_wp2_with (first
        | ((refine wpList_load_at (o := ⟨some 27, .load 26 (.tmp 26), _, _, _, none⟩) rfl _ _ rfl w.heap.size 1 30 38 (Sp.done s (.slice A1 nw c1) (.slice A2 na c2)).eff s.ec.cells _ ?_ bE rfl Tryz.underlying26 rfl (cpu_sz _) ?_); rfl)
        | (go_at_call 47; refine (HE.out _).mono ?_; rintro e w6 ⟨rfl, l6⟩; replace bE := bE.keep l6; replace bR := bR.keep l6; replace lw := Later.trans_ lw l6; replace t1 := t1.keep l6; replace t2 := t2.keep l6)
        | ((refine wpList_store_at (o := ⟨none, .store 26 (.tmp 34) (.tmp 33), _, _, _, none⟩) rfl _ _ _ rfl rfl w.heap.size 1 38 (Sp.done s (.slice A1 nw c1) (.slice A2 na c2)).eff (Cpu.enter s.ec 2 s.wd s.old.pc).cells ?_ ?_ bE (cpu_sz _) (show 1 + 30 ≤ 71 from by decide) (cpu_one _) ?_); rfl; rfl; intro w7 b7 o7; replace bE : Blk w7 w.heap.size 38 ({ Sp.done s (.slice A1 nw c1) (.slice A2 na c2) with ec := Cpu.enter s.ec 2 s.wd s.old.pc } : Sp).eff := b7; replace bR := bR.only o7 (by omega); replace t1 := t1.only o7 (by omega); replace t2 := t2.only o7 (by omega); replace lw := Below.only lw o7 (by omega); have c70 := bE.cell (j := 70) (v := .int .i64 s.tr) rfl; have f70 := bE.frz 70)
        | ((with_reducible refine wpList_load_blk (o := ⟨some 36, .load 38 (.tmp 3), _, _, _, none⟩) rfl _ _ rfl w.heap.size 38 (s.refused (.slice A1 nw c1) (.slice A2 na c2)).eff _ ?_ ?_ Tryz.underlying38 rfl (eff_sz _) ?_); rfl; exact (show Blk _ w.heap.size 38 (s.refused (.slice A1 nw c1) (.slice A2 na c2)).eff from bE.set 70 (.int .i64 2)))
        | ((with_reducible refine wpList_store_abs (o := ⟨none, .store 38 (.tmp 6) (.tmp 36), _, _, _, none⟩) rfl _ _ _ rfl (w.heap.size + 1) 38 zS.eff (s.refused (.slice A1 nw c1) (.slice A2 na c2)).eff ?_ ?_ (bR.set_other ⟨w.heap.size, 70, none⟩ (.int .i64 2) (by show (w.heap.size + 1) ≠ w.heap.size; omega)) (eff_sz _) rfl (eff_one _ rfl rfl) ?_); rfl; rfl; intro w9 b9 o9))
    exact bodyPost_ret (results_blk Tryz.results15 _ _ (w.heap.size + 1) 38 (s.refused (.slice A1 nw c1) (.slice A2 na c2)).eff _ rfl b9 Tryz.underlying38 rfl (eff_sz _)) rfl ⟨A1, c1, A2, c2, rfl, ((t1.only (Only.set w7 w.heap.size 70 (.int .i64 2)) (by omega)).only o9 (Nat.le_refl _)).1, ((t2.only (Only.set w7 w.heap.size 70 (.int .i64 2)) (by omega)).only o9 (Nat.le_refl _)).1, Below.only (Below.setCell lw (p := ⟨w.heap.size, 70, none⟩) (Nat.le_refl _) (.int .i64 2)) o9 (by omega)⟩
end Go.Proofs.YtidhodalnikhlaaGreatDoor
