/-
  WHAT ELSE THE LAW NEEDS OF THE TEXTS BELOW: theorems about memory, traps, a step and its answer.
-/
import Derived.Test.YtidhodalnikhlaaGreatDoorVa
import Derived.Test.YtidhodalnikhlaaGreatDoorVb
import Derived.Test.YtidhodalnikhlaaGreatDoorVc
import Derived.Test.YtidhodalnikhlaaGreatDoorVd
import Derived.Test.YtidhodalnikhlaaGreatDoorVe
import Derived.Test.YtidhodalnikhlaaGreatDoorVf
import Derived.Test.YtidhodalnikhlaaGreatDoorVg
import Derived.Test.YtidhodalnikhlaaGreatDoorVh
import Derived.Test.YtidhodalnikhlaaGreatDoorVi
import Derived.Test.YtidhodalnikhlaaGreatDoorVj
import Derived.Test.YtidhodalnikhlaaGreatDoorVk
import Derived.Test.YtidhodalnikhlaaGreatDoorVl
import Derived.Test.YtidhodalnikhlaaGreatDoorVm
import Derived.Test.YtidhodalnikhlaaGreatDoorVn
import Derived.Test.YtidhodalnikhlaaGreatDoorVo
import Derived.Test.YtidhodalnikhlaaGreatDoorVp
import Derived.Test.YtidhodalnikhlaaGreatDoorWa
import Derived.Test.YtidhodalnikhlaaGreatDoorWb
import Derived.Test.YtidhodalnikhlaaGreatDoorWc
import Derived.Test.YtidhodalnikhlaaGreatDoorWd
import Derived.Test.YtidhodalnikhlaaGreatDoorWe
import Derived.Test.YtidhodalnikhlaaGreatDoorWf
import Derived.Test.YtidhodalnikhlaaGreatDoorWg
import Derived.Test.YtidhodalnikhlaaGreatDoorWh
import Derived.Test.YtidhodalnikhlaaGreatDoorWi
import Derived.Test.YtidhodalnikhlaaGreatDoorWj
import Derived.Test.YtidhodalnikhlaaGreatDoorWk
import Derived.Test.YtidhodalnikhlaaGreatDoorWl
import Derived.Test.YtidhodalnikhlaaGreatDoorWm
import Derived.Test.YtidhodalnikhlaaGreatDoorWn
import Derived.Test.YtidhodalnikhlaaGreatDoorWo
import Derived.Test.YtidhodalnikhlaaGreatDoorWp
import Derived.Test.YtidhodalnikhlaaGreatDoorWq
import Derived.Test.YtidhodalnikhlaaGreatDoorWr
import Derived.Test.YtidhodalnikhlaaGreatDoorWs
import Derived.Test.YtidhodalnikhlaaGreatDoorWt
import Derived.Test.YtidhodalnikhlaaGreatDoorWx
import Derived.Test.YtidhodalnikhlaaGreatDoorWy
import Derived.Test.YtidhodalnikhlaaGreatDoorWza
import Derived.Laws.BytesArg
import Derived.WalkKit
import Derived.WalkSpells
import Derived.WalkLawsBesides
import Derived.Maps.AppendAt
import Derived.Deep.AppendLies
import Derived.Deep.Draws
import Derived.Lib.Hide
import Derived.Laws.Rows
import Derived.Laws.IdiomCopy
import Derived.Deep.MidRow
import Derived.Deep.WholeRow
import Derived.Laws.Tables
import Derived.Laws.CopyOwn
import Derived.Deep.Strs
import Derived.ChangeSame
import Derived.ProofKit
import Derived.OpenShut
import Derived.SliceStrings
import Derived.Deep.Slices
import Derived.ArgAppend
import Derived.Deep.DeepHandedRow
import Derived.Lib.LaidTab
import Derived.Lib.LaidU8
import Derived.SizedLaws
import Derived.Outline
import Derived.StillTailTactics
import Derived.Lib.QuietBelow
import Derived.Deep.RegionHeld3
import Derived.ChangeKeysEq
import Derived.Deep.DeepCutAuto
import Derived.DeepKeys
import Derived.Deep.RegionHeld
import Derived.Laws.StructEq
import Derived.Defers
import Derived.Recover
import Derived.Laws.Pointers
import Derived.Laws.Bits64
import Derived.Laws.BitsLemmas
import Derived.BigQuiet
import Derived.Deep.QuietTactic
import Derived.Sort.OwnSortedInts
import Derived.Maps.Own
import Derived.Laws.AppendOwn
namespace Go.Proofs.YtidhodalnikhlaaGreatDoor
open Go.RowKit Go.ChangeShapes Go.WideShapes Go.ChangeAt
section
variable {H : Type} {enc : TypeId × Value → H} {P : Program}
end
section
variable {H : Type} {enc : TypeId × Value → H} {P : Program} {W : World} {r : Reach} {b0 : Nat} {v : Value} {d : DataW H} {p : List MemPlace}
end
section
variable {H : Type} {enc : TypeId × Value → H} {P : Program} {W : World} {r : Reach} {b0 : Nat} {v : Value} {d : DataW H} {p : List MemPlace}
set_option maxRecDepth 100000 in
theorem u32_arg {t : TypeId} (ht : P.underlying t = some (.int .u32)) (hv : Value.okWide P W r b0 t v) (h : DataW.Trod enc P W 0 (fun _ => true) true t v d p) : ∃ n : Int, v = .int .u32 n ∧ 0 ≤ n ∧ n ≤ 4294967295 := by
  obtain ⟨n, rfl, _, _, hw⟩ := open_int ht hv h
  have h1 : IntKind.u32.min = 0 := rfl
  have h2 : IntKind.u32.max = 4294967295 := rfl
  simp only [Lit.wf, Bool.and_eq_true, decide_eq_true_eq] at hw
  exact ⟨n, rfl, by omega, by omega⟩
end
section
variable {H : Type} {enc : TypeId × Value → H} {P : Program} {W : World} {r : Reach} {b0 : Nat} {v : Value} {d : DataW H} {p : List MemPlace}
end
end Go.Proofs.YtidhodalnikhlaaGreatDoor
namespace Go.Proofs.YtidhodalnikhlaaGreatDoor
open Go.RowKit Go.ChangeShapes Go.WideShapes Go.ChangeAt
section
variable {H : Type} {enc : TypeId × Value → H} {P : Program} {W : World} {r : Reach} {b0 : Nat} {v : Value} {d : DataW H} {p : List MemPlace}
end
end Go.Proofs.YtidhodalnikhlaaGreatDoor
namespace Go.Proofs.YtidhodalnikhlaaGreatDoor
open Go.RowKit Go.ChangeShapes Go.WideShapes Go.ChangeAt
end Go.Proofs.YtidhodalnikhlaaGreatDoor
namespace Go.Proofs.YtidhodalnikhlaaGreatDoor
open Go.RowKit Go.ChangeShapes Go.WideShapes Go.ChangeAt
end Go.Proofs.YtidhodalnikhlaaGreatDoor
namespace Go.Proofs.YtidhodalnikhlaaGreatDoor
open Go.RowKit Go.ChangeShapes Go.WideShapes Go.ChangeAt
end Go.Proofs.YtidhodalnikhlaaGreatDoor
namespace Go.Proofs.YtidhodalnikhlaaGreatDoor
open Go.RowKit Go.ChangeShapes Go.WideShapes Go.ChangeAt
end Go.Proofs.YtidhodalnikhlaaGreatDoor
namespace Go.Proofs.YtidhodalnikhlaaGreatDoor
open Go.RowKit Go.ChangeShapes Go.WideShapes Go.ChangeAt
end Go.Proofs.YtidhodalnikhlaaGreatDoor
namespace Go.Proofs.YtidhodalnikhlaaGreatDoor
open Go.RowKit Go.ChangeShapes Go.WideShapes Go.ChangeAt
end Go.Proofs.YtidhodalnikhlaaGreatDoor
namespace Go.Proofs.YtidhodalnikhlaaGreatDoor
open Go.RowKit Go.ChangeShapes Go.WideShapes Go.ChangeAt
end Go.Proofs.YtidhodalnikhlaaGreatDoor
namespace Go.Proofs.YtidhodalnikhlaaGreatDoor
open Go.RowKit Go.ChangeShapes Go.WideShapes Go.ChangeAt
set_option maxRecDepth 100000 in
theorem items_refl {P : Program} (d : Nat) (e : TypeId) (c : Nat) (xs : Array Value) (w : World) : ∀ is : List Nat, (∀ i ∈ is, ∃ v, (part e xs (i * c)).run P w = .ok v w ∧ (Op.equalIn d e v v).run P w = .ok true w) → (Op.eqItems d e c xs xs is).run P w = .ok true w
  | [], _ => by simp [Op.eqItems]
  | i :: is, h => by
    obtain ⟨v, h1, h2⟩ := h i (by simp)
    simp only [Op.eqItems, Sem.run_bind, h1, h2, Result.andThen_ok]
    simpa using items_refl d e c xs w is (fun j hj => h j (by simp [hj]))
set_option maxRecDepth 100000 in
theorem fields_refl {P : Program} (d : Nat) (xs : Array Value) (w : World) : ∀ fs : List Field, (∀ f ∈ fs, f.name ≠ "_" ∧ ∃ v, (part f.type xs f.offset).run P w = .ok v w ∧ (Op.equalIn d f.type v v).run P w = .ok true w) → (Op.eqFields d xs xs fs).run P w = .ok true w
  | [], _ => by simp [Op.eqFields]
  | f :: fs, h => by
    obtain ⟨hn, v, h1, h2⟩ := h f (by simp)
    simp only [Op.eqFields, if_pos hn, Sem.run_bind, h1, h2, Result.andThen_ok]
    simpa using fields_refl d xs w fs (fun j hj => h j (by simp [hj]))
set_option maxRecDepth 100000 in
theorem eq_u32 (d : Nat) (a : Int) (w : World) : (Op.equalIn (d + 1) 22 (.int .u32 a) (.int .u32 a)).run Tryz.prog w = .ok true w := by
  rw [run_equalIn_int w d 22 .u32 .u32 a a Tryz.underlying22]
  simp
set_option maxRecDepth 100000 in
theorem arr_refl (n : Nat) (t : TypeId) (l : List Int) (d : Nat) (w : World) (ht : Tryz.prog.underlying t = some (.array n 22)) (hl : l.length = n) : (Op.equalIn (d + 1 + 1) t (.agg (l.map (Value.int .u32)).toArray) (.agg (l.map (Value.int .u32)).toArray)).run Tryz.prog w = .ok true w := by
  obtain ⟨i, hi⟩ := Option.isSome_iff_exists.1 (show (Tryz.prog.info? 22).isSome = true by kernel_rfl)
  rw [run_equalIn_array w (d + 1) _ _ ht hi, show Tryz.prog.cellsOf 22 = 1 by kernel_rfl]
  refine items_refl _ _ _ _ w _ fun j hj => ?_
  have hj' : j < l.length := by rw [hl]; exact List.mem_range.1 hj
  refine ⟨.int .u32 l[j], ?_, eq_u32 d _ w⟩
  have hag : (isAgg 22).run Tryz.prog w = .ok false w := by kernel_rfl
  have hc : (l.map (Value.int .u32)).toArray[j * 1]? = some (.int .u32 l[j]) := by simp [hj']
  simp [part, hag, hj']
section
variable {H : Type} {enc : TypeId × Value → H} {W : World} {r : Reach} {b0 : Nat} {v : Value} {d : DataW H} {p : List MemPlace}
end
set_option maxRecDepth 100000 in
/-- A guarded load out of the midst of a block. -/
theorem wpList_load_atg {P : Program} {ops : Array Oper} {rest : List Oper} {o : Oper} {a : Act} {w : World} {Q : Exit → Act → World → Prop} (ty : TypeId) (x : Operand) (ho : o.op = .load ty x)
    (g off n : Nat) (t : TypeId) (all cs : List Value) (d : TypeDesc) (hw : Region.wanted o (yielded ops a.tmps) = true) (hx : a.eval x = .pointer (some ⟨g, off, none⟩)) (hg : Blk w g t all) (hcs : (all.drop off).take n = cs)
    (hu : P.underlying ty = some d) (hd : d.isRow = true) (hi : (P.info? ty).map (·.size) = some cs.length)
    (h : wpList P ops Q rest (a.put o.dst (.agg cs.toArray)) w) : wpList P ops Q (o :: rest) a w :=
  wpList_step fun K hK => by
    rw [hw, if_pos rfl]
    exact wp_load_mid ty x ho g off hx cs d (by rw [← hcs]; exact hg.range off n) hu hd hi (hK _ _ h)
end Go.Proofs.YtidhodalnikhlaaGreatDoor
namespace Go.Proofs.YtidhodalnikhlaaGreatDoor
open Go.RowKit Go.ChangeShapes Go.WideShapes Go.ChangeAt
theorem built_e1 (x : Cpu) : Tryz.prog.built 38 [(1, .agg x.cells.toArray)] = some ({ zS with ec := x } : Sp).eff.toArray := by kernel_rfl
set_option maxRecDepth 100000 in
set_option maxHeartbeats 2000000 in
theorem step_not (x : Cpu) (A : Option Addr) (n c : Nat) (p : Int) (w : World) (hp : Tm.isE p) (hr : rdy x.hl x.wt p = false) : Calls Tryz.prog 13 #[.agg x.cells.toArray, .agg #[.slice A n c], .int .u32 p] w fun e w' => e = .returned (.agg ({ zS with ec := x } : Sp).eff.toArray) ∧ Later w w' := by
  obtain ⟨u0, hu⟩ : ∃ u0, u0 = ((w.alloc (.cells x.cells.toArray 26)).alloc (.cells #[.slice A n c] 29)).alloc (.cells zS.eff.toArray 38) := ⟨_, rfl⟩
  have l0 : Later w u0 := by rw [hu]; exact ((later1 w _).alloc (by simp) _).alloc (by simp; omega) _
  have z0 : u0.heap.size = w.heap.size + 3 := by rw [hu]; simp
  have bC : Blk u0 w.heap.size 26 x.cells := by rw [hu]; exact ((Blk.new w 26 x.cells.toArray x.cells rfl).alloc _).alloc _
  have bM : Blk u0 (w.heap.size + 1) 29 [.slice A n c] := by rw [hu]; exact (Blk.new' (w.alloc (.cells x.cells.toArray 26)) (w.heap.size + 1) 29 #[.slice A n c] [.slice A n c] (by simp) rfl).alloc _
  have bE : Blk u0 (w.heap.size + 1 + 1) 38 zS.eff := by rw [hu]; exact Blk.new' ((w.alloc (.cells x.cells.toArray 26)).alloc (.cells #[.slice A n c] 29)) (w.heap.size + 1 + 1) 38 zS.eff.toArray zS.eff (by simp) rfl
  have HR := Lib.hid fun w' => ready_any x p w' hp
  rw [hr] at HR
  clear hp hr
  have HE := Lib.hid fun w => run_build w _ #[(1, .agg x.cells.toArray)] _ (built_e1 x)
  obtain ⟨E, hE⟩ : ∃ E, E = ({ zS with ec := x } : Sp).eff := ⟨_, rfl⟩
  rw [← hE] at HE ⊢
  have hEl : ∀ v ∈ E, v.oneCell' = true := by rw [hE]; exact eff_one _ rfl rfl
  have hEs : (Tryz.prog.info? 38).map (·.size) = some E.length := by rw [hE]; exact eff_sz _
  have hEe : zS.eff.length = E.length := by rw [hE]; rfl
  clear hE
  go_enter Tryz.func13, Tryz.ntmps13
  go_upto_region 1 with fail
  refine wp_eq_world (u := u0) hu ?_
  clear hu
  go_wp2_with (first
    | ((with_reducible refine wpList_load_blk (o := ⟨some 8, .load 26 (.tmp 3), _, _, _, none⟩) rfl _ _ rfl w.heap.size 26 x.cells _ ?_ ?_ Tryz.underlying26 rfl (cpu_sz _) ?_); rfl; exact bC)
    | (go_at_call 20; refine (HR.out _).mono ?_; rintro e w1 ⟨rfl, l1⟩; replace bC := bC.keep l1; replace bM := bM.keep l1; replace bE := bE.keep l1; have l2 := Later.trans_ l0 l1)
    | ((with_reducible refine wpList_load_blk (o := ⟨some 12, .load 26 (.tmp 3), _, _, _, none⟩) rfl _ _ rfl w.heap.size 26 x.cells _ ?_ ?_ Tryz.underlying26 rfl (cpu_sz _) ?_); rfl; exact bC)
    | ((with_reducible refine wpList_bld (o := ⟨some 13, .build 38 #[(1, .tmp 12)], _, _, _, none⟩) rfl _ #[(1, .tmp 12)] #[(1, .agg x.cells.toArray)] E.toArray rfl ?_ (HE.out _) ?_); rfl)
    | ((with_reducible refine wpList_store_abs (o := ⟨none, .store 38 (.tmp 6) (.tmp 13), _, _, _, none⟩) rfl _ _ _ rfl (w.heap.size + 1 + 1) 38 zS.eff E ?_ ?_ bE hEs hEe hEl ?_); rfl; rfl; intro w3 b3 o3))
  exact bodyPost_ret (results_blk Tryz.results13 _ _ (w.heap.size + 1 + 1) 38 E _ rfl b3 Tryz.underlying38 rfl hEs) rfl ⟨rfl, Below.only l2 o3 (by omega)⟩
end Go.Proofs.YtidhodalnikhlaaGreatDoor
namespace Go.Proofs.YtidhodalnikhlaaGreatDoor
open Go.RowKit Go.ChangeShapes Go.WideShapes Go.ChangeAt
end Go.Proofs.YtidhodalnikhlaaGreatDoor
