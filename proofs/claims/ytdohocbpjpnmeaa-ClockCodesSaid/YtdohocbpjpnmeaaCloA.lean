/-
  A CLO25: its thirteen cells; as an argument; compared with itself.
-/
import Derived.Test.YtdohocbpjpnmeaaTabBits
import Derived.Test.YtdohocbpjpnmeaaMemArgs
import Derived.Deep.DeepCutAuto
import Derived.DeepKeys
import Derived.Laws.StructEq
import Derived.ChangeKeysEq
import Derived.Deep.RegionHeld
namespace Go.Proofs.Ytdohocbpjpnmeaa
open Go.RowKit Go.ChangeShapes Go.WideShapes Go.ChangeAt

theorem later1 (w : World) (o : Obj) : Later w (w.alloc o) := (Below.refl _ _).alloc (Nat.le_refl _) o
theorem later0 (w : World) : Later w w := Below.refl _ _
/-- A clock: the last reading; what is offered; readings; alarms. -/
structure Clk where
  (l : Int)
  (o : Nat → Bool)
  (r a : Nat → Int)
def Clk.cells (x : Clk) : List Value := [.int .i64 x.l, .bool (x.o 0), .bool (x.o 1), .bool (x.o 2), .bool (x.o 3), .int .i64 (x.r 0), .int .i64 (x.r 1), .int .i64 (x.r 2), .int .i64 (x.r 3), .int .i64 (x.a 0), .int .i64 (x.a 1), .int .i64 (x.a 2), .int .i64 (x.a 3)]
def upd {α : Type} (f : Nat → α) (k : Nat) (v : α) : Nat → α := fun i => if i = k then v else f i
theorem upd_at {α : Type} (f : Nat → α) (k : Nat) (v : α) : upd f k v k = v := if_pos rfl
theorem upd_ne {α : Type} (f : Nat → α) {k i : Nat} (v : α) (h : i ≠ k) : upd f k v i = f i := if_neg h
theorem upd_upd {α : Type} (f : Nat → α) (k : Nat) (v u : α) : upd (upd f k v) k u = upd f k u := by
  funext i
  unfold upd
  split <;> rfl
theorem upd_same {α : Type} (f : Nat → α) (k : Nat) : upd f k (f k) = f := by
  funext i
  unfold upd
  split
  · rename_i h; rw [h]
  · rfl
def zK : Clk := ⟨0, fun _ => false, fun _ => 0, fun _ => 0⟩
theorem clk_sz (x : Clk) : (Try.prog.info? 25).map (·.size) = some x.cells.length := by
  show _ = some 13
  kernel_rfl
theorem clk_one (x : Clk) : ∀ v ∈ x.cells, v.oneCell' = true := by
  intro v hv
  simp only [Clk.cells, List.mem_cons, List.not_mem_nil, or_false] at hv
  rcases hv with rfl | rfl | rfl | rfl | rfl | rfl | rfl | rfl | rfl | rfl | rfl | rfl | rfl <;> rfl
theorem clk_l (x : Clk) : x.cells[0]? = some (.int .i64 x.l) := rfl
theorem clk_o (x : Clk) {k : Nat} (h : k < 4) : x.cells[1 + k]? = some (.bool (x.o k)) := by
  rcases (show k = 0 ∨ k = 1 ∨ k = 2 ∨ k = 3 by omega) with rfl | rfl | rfl | rfl <;> rfl
theorem clk_r (x : Clk) {k : Nat} (h : k < 4) : x.cells[5 + k]? = some (.int .i64 (x.r k)) := by
  rcases (show k = 0 ∨ k = 1 ∨ k = 2 ∨ k = 3 by omega) with rfl | rfl | rfl | rfl <;> rfl
theorem clk_a (x : Clk) {k : Nat} (h : k < 4) : x.cells[9 + k]? = some (.int .i64 (x.a k)) := by
  rcases (show k = 0 ∨ k = 1 ∨ k = 2 ∨ k = 3 by omega) with rfl | rfl | rfl | rfl <;> rfl
theorem set_l (x : Clk) (v : Int) : x.cells.set 0 (.int .i64 v) = ({ x with l := v } : Clk).cells := rfl
theorem set_o (x : Clk) {k : Nat} (h : k < 4) (v : Bool) : x.cells.set (1 + k) (.bool v) = ({ x with o := upd x.o k v } : Clk).cells := by
  rcases (show k = 0 ∨ k = 1 ∨ k = 2 ∨ k = 3 by omega) with rfl | rfl | rfl | rfl <;> rfl
theorem set_r (x : Clk) {k : Nat} (h : k < 4) (v : Int) : x.cells.set (5 + k) (.int .i64 v) = ({ x with r := upd x.r k v } : Clk).cells := by
  rcases (show k = 0 ∨ k = 1 ∨ k = 2 ∨ k = 3 by omega) with rfl | rfl | rfl | rfl <;> rfl
theorem set_a (x : Clk) {k : Nat} (h : k < 4) (v : Int) : x.cells.set (9 + k) (.int .i64 v) = ({ x with a := upd x.a k v } : Clk).cells := by
  rcases (show k = 0 ∨ k = 1 ∨ k = 2 ∨ k = 3 by omega) with rfl | rfl | rfl | rfl <;> rfl
def i64 (n : Int) : Prop := -9223372036854775808 ≤ n ∧ n ≤ 9223372036854775807
/-- A clock's numbers are numbers. -/
structure Clk.wf (x : Clk) : Prop where
  l : i64 x.l
  r : ∀ k, k < 4 → i64 (x.r k)
  a : ∀ k, k < 4 → i64 (x.a k)
section
variable {H : Type} {enc : TypeId × Value → H} {P : Program} {W : World} {r : Reach} {b0 : Nat} {v : Value} {d : DataW H} {p : List MemPlace}
theorem clk_cells {t tb ta tr ti : TypeId} {fs : Array Field} (ht : P.underlying t = some (.struct fs)) (hf : fs.toList.map (fun f => (f.type, f.offset)) = [(ti, 0), (ta, 1), (tr, 5), (tr, 9)])
    (hu : P.underlying tb = some .bool) (hi : P.underlying ti = some (.int .i64)) (ha : P.underlying ta = some (.array 4 tb)) (hr : P.underlying tr = some (.array 4 ti))
    (ku : P.cellsOf tb = 1) (ki : P.cellsOf ti = 1) (ka : P.cellsOf ta = 4) (kr : P.cellsOf tr = 4) (kt : P.cellsOf t = 13)
    (hv : Value.okWide P W r b0 t v) (h : DataW.Trod enc P W 0 (fun _ => true) true t v d p) :
    ∃ l : List Value, v = .agg l.toArray ∧ l.length = 13 ∧ (∃ n : Int, l[0]? = some (.int .i64 n) ∧ i64 n) ∧ (∀ i, i < 4 → ∃ m : Bool, l[1 + i]? = some (.bool m)) ∧ ∀ i, i < 8 → ∃ m : Int, l[5 + i]? = some (.int .i64 m) ∧ i64 m := by
  obtain ⟨cs, rfl, hsz⟩ := okWide_struct ht hv
  obtain ⟨fuel, hf'⟩ := h
  obtain ⟨xs, n, _, _, hl, hlen, hall⟩ := DataW.trod_struct ht hf'
  rw [kt] at hsz
  obtain ⟨l⟩ := cs
  have hn : fs.size = 4 := by simpa using congrArg List.length hf
  have hl13 : l.length = 13 := by simpa using hsz
  have fld : ∀ i, i < 4 → ∃ tt oo y, [(ti, 0), (ta, 1), (tr, 5), (tr, 9)][i]? = some (tt, oo) ∧ DataW.trod enc P W 0 (fun _ => true) true n tt ((l.drop oo).take (P.cellsOf tt)) = some y := by
    intro i hi7
    have h1 : (fs.toList.map (fun f => (f.type, f.offset)))[i]? = some ((fs[i]'(by omega)).type, (fs[i]'(by omega)).offset) := by simp [hn, hi7]
    have h2 := hall i (fs[i]'(by omega)) (by simp [hn, hi7])
    obtain ⟨b, hb⟩ : ∃ b, xs[i]? = some b := ⟨xs[i]'(by omega), List.getElem?_eq_getElem (by omega)⟩
    rw [hb] at h2
    rw [hf] at h1
    exact ⟨_, _, b, h1, h2⟩
  have w3 : IntKind.i64.min = -9223372036854775808 := rfl
  have w4 : IntKind.i64.max = 9223372036854775807 := rfl
  have at1 : ∀ (o : Nat) (x : Value), (l.drop o).take 1 = [x] → l[o]? = some x := by
    intro o x hx
    have := congrArg (·[0]?) hx
    simpa [List.getElem?_take, List.getElem?_drop] using this
  have arr : ∀ (o : Nat) y, DataW.trod enc P W 0 (fun _ => true) true n ta ((l.drop o).take 4) = some y → ∀ i, i < 4 → ∃ m : Bool, l[o + i]? = some (.bool m) := by
    intro o y hy i hik
    obtain ⟨ys, q, _, _, _, hyl, hya⟩ := DataW.trod_array ha hy
    have h2 := hya i hik
    obtain ⟨b, hb⟩ : ∃ b, ys[i]? = some b := ⟨ys[i]'(by omega), List.getElem?_eq_getElem (by omega)⟩
    rw [hb, ku, Nat.mul_one] at h2
    obtain ⟨z, hz, _⟩ := DataW.trod_bool hu h2
    have h3 : l[o + i]? = some (.bool z) := by
      have := congrArg (·[0]?) hz
      simpa [List.getElem?_take, List.getElem?_drop, hik] using this
    exact ⟨z, h3⟩
  have arri : ∀ (o : Nat) y, DataW.trod enc P W 0 (fun _ => true) true n tr ((l.drop o).take 4) = some y → ∀ i, i < 4 → ∃ m : Int, l[o + i]? = some (.int .i64 m) ∧ i64 m := by
    intro o y hy i hik
    obtain ⟨ys, q, _, _, _, hyl, hya⟩ := DataW.trod_array hr hy
    have h2 := hya i hik
    obtain ⟨b, hb⟩ : ∃ b, ys[i]? = some b := ⟨ys[i]'(by omega), List.getElem?_eq_getElem (by omega)⟩
    rw [hb, ki, Nat.mul_one] at h2
    obtain ⟨z, hz, _, hw⟩ := DataW.trod_int hi h2
    have h3 : l[o + i]? = some (.int .i64 z) := by
      have := congrArg (·[0]?) hz
      simpa [List.getElem?_take, List.getElem?_drop, hik] using this
    simp only [Lit.wf, Bool.and_eq_true, decide_eq_true_eq] at hw
    exact ⟨z, h3, by omega, by omega⟩
  obtain ⟨t0, o0, y0, e0, f0⟩ := fld 0 (by omega)
  obtain ⟨t1, o1, y1, e1, f1⟩ := fld 1 (by omega)
  obtain ⟨t2, o2, y2, e2, f2⟩ := fld 2 (by omega)
  obtain ⟨t3, o3, y3, e3, f3⟩ := fld 3 (by omega)
  obtain ⟨rfl, rfl⟩ : ti = t0 ∧ 0 = o0 := by simpa using e0
  obtain ⟨rfl, rfl⟩ : ta = t1 ∧ 1 = o1 := by simpa using e1
  obtain ⟨rfl, rfl⟩ : tr = t2 ∧ 5 = o2 := by simpa using e2
  obtain ⟨rfl, rfl⟩ : tr = t3 ∧ 9 = o3 := by simpa using e3
  rw [ki] at f0
  rw [ka] at f1
  rw [kr] at f2 f3
  refine ⟨l, rfl, hl13, ?_, ?_, ?_⟩
  · obtain ⟨z, hz, _, hw⟩ := DataW.trod_int hi f0
    simp only [Lit.wf, Bool.and_eq_true, decide_eq_true_eq] at hw
    exact ⟨z, at1 _ _ hz, by omega, by omega⟩
  · intro i h4
    exact arr 1 y1 f1 i h4
  · intro i h8
    by_cases h4 : i < 4
    · exact arri 5 y2 f2 i h4
    · have := arri 9 y3 f3 (i - 4) (by omega)
      rwa [show 9 + (i - 4) = 5 + i by omega] at this
end
set_option maxRecDepth 100000 in
theorem clk_open {H : Type} {enc : TypeId × Value → H} {W : World} {r : Reach} {b0 : Nat} {v : Value} {d : DataW H} {p : List MemPlace} (hv : Value.okWide Try.prog W r b0 25 v) (h : DataW.Trod enc Try.prog W 0 (fun _ => true) true 25 v d p) : ∃ x : Clk, v = .agg x.cells.toArray ∧ x.wf := by
  obtain ⟨l, rfl, hl, ⟨n, e0, hn⟩, h4, h8⟩ := clk_cells (tb := 4) (ti := 3) (ta := 22) (tr := 23) Try.underlying25 rfl Try.underlying4 Try.underlying3 Try.underlying22 Try.underlying23 (by kernel_rfl) (by kernel_rfl) (by kernel_rfl) (by kernel_rfl) (by kernel_rfl) hv h
  obtain ⟨b0, p0⟩ := h4 0 (by omega)
  obtain ⟨b1, p1⟩ := h4 1 (by omega)
  obtain ⟨b2, p2⟩ := h4 2 (by omega)
  obtain ⟨b3, p3⟩ := h4 3 (by omega)
  obtain ⟨a0, u0, z0⟩ := h8 0 (by omega)
  obtain ⟨a1, u1, z1⟩ := h8 1 (by omega)
  obtain ⟨a2, u2, z2⟩ := h8 2 (by omega)
  obtain ⟨a3, u3, z3⟩ := h8 3 (by omega)
  obtain ⟨a4, u4, z4⟩ := h8 4 (by omega)
  obtain ⟨a5, u5, z5⟩ := h8 5 (by omega)
  obtain ⟨a6, u6, z6⟩ := h8 6 (by omega)
  obtain ⟨a7, u7, z7⟩ := h8 7 (by omega)
  refine ⟨⟨n, fun i => match i with | 0 => b0 | 1 => b1 | 2 => b2 | _ => b3, fun i => match i with | 0 => a0 | 1 => a1 | 2 => a2 | _ => a3, fun i => match i with | 0 => a4 | 1 => a5 | 2 => a6 | _ => a7⟩, ?_, ?_⟩
  · congr 2
    apply List.ext_getElem?
    intro i
    by_cases hi : i < 13
    · rcases (show i = 0 ∨ i = 1 ∨ i = 2 ∨ i = 3 ∨ i = 4 ∨ i = 5 ∨ i = 6 ∨ i = 7 ∨ i = 8 ∨ i = 9 ∨ i = 10 ∨ i = 11 ∨ i = 12 by omega) with rfl | rfl | rfl | rfl | rfl | rfl | rfl | rfl | rfl | rfl | rfl | rfl | rfl
      · exact e0
      · exact p0
      · exact p1
      · exact p2
      · exact p3
      · exact u0
      · exact u1
      · exact u2
      · exact u3
      · exact u4
      · exact u5
      · exact u6
      · exact u7
    · rw [List.getElem?_eq_none (by omega), List.getElem?_eq_none (by show 13 ≤ i; omega)]
  · refine ⟨hn, ?_, ?_⟩
    · intro k hk
      rcases (show k = 0 ∨ k = 1 ∨ k = 2 ∨ k = 3 by omega) with rfl | rfl | rfl | rfl
      · exact z0
      · exact z1
      · exact z2
      · exact z3
    · intro k hk
      rcases (show k = 0 ∨ k = 1 ∨ k = 2 ∨ k = 3 by omega) with rfl | rfl | rfl | rfl
      · exact z4
      · exact z5
      · exact z6
      · exact z7
theorem items_refl {P : Program} (d : Nat) (e : TypeId) (c : Nat) (xs : Array Value) (w : World) : ∀ is : List Nat, (∀ i ∈ is, ∃ v, (part e xs (i * c)).run P w = .ok v w ∧ (Op.equalIn d e v v).run P w = .ok true w) → (Op.eqItems d e c xs xs is).run P w = .ok true w
  | [], _ => by simp [Op.eqItems]
  | i :: is, h => by
    obtain ⟨v, h1, h2⟩ := h i (by simp)
    simp only [Op.eqItems, Sem.run_bind, h1, h2, Result.andThen_ok]
    simpa using items_refl d e c xs w is (fun j hj => h j (by simp [hj]))
theorem fields_refl {P : Program} (d : Nat) (xs : Array Value) (w : World) : ∀ fs : List Field, (∀ f ∈ fs, f.name ≠ "_" ∧ ∃ v, (part f.type xs f.offset).run P w = .ok v w ∧ (Op.equalIn d f.type v v).run P w = .ok true w) → (Op.eqFields d xs xs fs).run P w = .ok true w
  | [], _ => by simp [Op.eqFields]
  | f :: fs, h => by
    obtain ⟨hn, v, h1, h2⟩ := h f (by simp)
    simp only [Op.eqFields, if_pos hn, Sem.run_bind, h1, h2, Result.andThen_ok]
    simpa using fields_refl d xs w fs (fun j hj => h j (by simp [hj]))
theorem eq_num (d : Nat) {t : TypeId} {k : IntKind} (ht : Try.prog.underlying t = some (.int k)) (a : Int) (w : World) : (Op.equalIn (d + 1) t (.int k a) (.int k a)).run Try.prog w = .ok true w := by
  rw [run_equalIn_int w d t k k a a ht]
  simp
set_option maxRecDepth 100000 in
theorem arr_refl (n : Nat) (t e : TypeId) (k : IntKind) (l : List Int) (d : Nat) (w : World) (ht : Try.prog.underlying t = some (.array n e)) (he : Try.prog.underlying e = some (.int k)) (hi : (Try.prog.info? e).isSome = true) (hc : Try.prog.cellsOf e = 1) (hag : (isAgg e).run Try.prog w = .ok false w) (hl : l.length = n) : (Op.equalIn (d + 1 + 1) t (.agg (l.map (Value.int k)).toArray) (.agg (l.map (Value.int k)).toArray)).run Try.prog w = .ok true w := by
  obtain ⟨i, hi⟩ := Option.isSome_iff_exists.1 hi
  rw [run_equalIn_array w (d + 1) _ _ ht hi, hc]
  refine items_refl _ _ _ _ w _ fun j hj => ?_
  have hj' : j < l.length := by rw [hl]; exact List.mem_range.1 hj
  refine ⟨.int k l[j], ?_, eq_num d he _ w⟩
  have hc : (l.map (Value.int k)).toArray[j * 1]? = some (.int k l[j]) := by simp [hj']
  simp [part, hag, hj']
def four (f : Nat → Int) : List Value := [.int .i64 (f 0), .int .i64 (f 1), .int .i64 (f 2), .int .i64 (f 3)]
def fourB (f : Nat → Bool) : List Value := [.bool (f 0), .bool (f 1), .bool (f 2), .bool (f 3)]
theorem four_sz (f : Nat → Int) : (Try.prog.info? 23).map (·.size) = some (four f).length := by
  show _ = some 4
  kernel_rfl
theorem fourB_sz (f : Nat → Bool) : (Try.prog.info? 22).map (·.size) = some (fourB f).length := by
  show _ = some 4
  kernel_rfl
theorem drop_o (x : Clk) : (x.cells.drop 1).take 4 = fourB x.o := rfl
theorem drop_r (x : Clk) : (x.cells.drop 5).take 4 = four x.r := rfl
theorem drop_a (x : Clk) : (x.cells.drop 9).take 4 = four x.a := rfl
theorem four_one (f : Nat → Int) : ∀ v ∈ four f, v.oneCell' = true := by
  intro v hv
  simp only [four, List.mem_cons, List.not_mem_nil, or_false] at hv
  rcases hv with rfl | rfl | rfl | rfl <;> rfl
theorem fourB_one (f : Nat → Bool) : ∀ v ∈ fourB f, v.oneCell' = true := by
  intro v hv
  simp only [fourB, List.mem_cons, List.not_mem_nil, or_false] at hv
  rcases hv with rfl | rfl | rfl | rfl <;> rfl
set_option maxRecDepth 100000 in
theorem four_same (f : Nat → Int) (d : Nat) (w : World) : (Op.equalIn (d + 1 + 1) 23 (.agg (four f).toArray) (.agg (four f).toArray)).run Try.prog w = .ok true w :=
  arr_refl 4 23 3 .i64 [f 0, f 1, f 2, f 3] d w Try.underlying23 Try.underlying3 (by kernel_rfl) (by kernel_rfl) (by kernel_rfl) rfl
set_option maxRecDepth 100000 in
theorem fourB_same (f : Nat → Bool) (d : Nat) (w : World) : (Op.equalIn (d + 1 + 1) 22 (.agg (fourB f).toArray) (.agg (fourB f).toArray)).run Try.prog w = .ok true w := by
  obtain ⟨i, hi⟩ := Option.isSome_iff_exists.1 (show (Try.prog.info? 4).isSome = true by kernel_rfl)
  rw [run_equalIn_array w (d + 1) _ _ Try.underlying22 hi, show Try.prog.cellsOf 4 = 1 by kernel_rfl]
  refine items_refl _ _ _ _ w _ fun j hj => ?_
  have hj' : j < 4 := List.mem_range.1 hj
  refine ⟨.bool (f j), ?_, by rw [run_equalIn_bool w d 4 (f j) (f j) Try.underlying4]; simp⟩
  have hag : (isAgg 4).run Try.prog w = .ok false w := by kernel_rfl
  rcases (show j = 0 ∨ j = 1 ∨ j = 2 ∨ j = 3 by omega) with rfl | rfl | rfl | rfl <;> simp [part, hag, fourB]
set_option maxRecDepth 100000 in
theorem clk_same (x : Clk) (w : World) : (Op.equalIn 10000 25 (.agg x.cells.toArray) (.agg x.cells.toArray)).run Try.prog w = .ok true w := by
  obtain ⟨fs, hfs, hu⟩ : ∃ fs, Try.prog.fieldsOf 25 = fs ∧ Try.prog.underlying 25 = some (.struct fs) := ⟨_, by kernel_rfl, Try.underlying25⟩
  rw [run_equalIn_struct w 9999 _ _ _ (by rw [hfs]; exact hu) (by kernel_rfl), hfs]
  have hfs2 := hu.symm.trans Try.underlying25
  injection hfs2 with h1
  injection h1 with h2
  subst h2
  refine fields_refl _ _ w _ fun f hf => ?_
  simp only [List.mem_cons, List.not_mem_nil, or_false] at hf
  rcases hf with rfl | rfl | rfl | rfl
  · exact ⟨by decide, .int .i64 x.l, by kernel_rfl, eq_num 9998 Try.underlying3 _ w⟩
  · exact ⟨by decide, .agg (fourB x.o).toArray, by kernel_rfl, fourB_same x.o 9997 w⟩
  · exact ⟨by decide, .agg (four x.r).toArray, by kernel_rfl, four_same x.r 9997 w⟩
  · exact ⟨by decide, .agg (four x.a).toArray, by kernel_rfl, four_same x.a 9997 w⟩
theorem wpList_load_g {P : Program} {ops : Array Oper} {rest : List Oper} {o : Oper} {a : Act} {w : World} {Q : Exit → Act → World → Prop} (ty : TypeId) (x : Operand) (ho : o.op = .load ty x)
    (g : Nat) (t : TypeId) (cs : List Value) (d : TypeDesc) (hw : Region.wanted o (yielded ops a.tmps) = true) (hx : a.eval x = .pointer (some ⟨g, 0, none⟩)) (hg : Blk w g t cs)
    (hu : P.underlying ty = some d) (hd : (match d with | .struct _ | .array _ _ => true | _ => false) = true) (hi : (P.info? ty).map (·.size) = some cs.length)
    (h : wpList P ops Q rest (a.put o.dst (.agg cs.toArray)) w) : wpList P ops Q (o :: rest) a w :=
  wpList_step fun K hK => by
    rw [hw, if_pos rfl]
    exact wp_load_row ty x ho g hx t cs.toArray (0, 0) d hg hu hd (by rw [List.size_toArray]; exact hi) (hK _ _ h)

theorem wpList_load_atg {P : Program} {ops : Array Oper} {rest : List Oper} {o : Oper} {a : Act} {w : World} {Q : Exit → Act → World → Prop} (ty : TypeId) (x : Operand) (ho : o.op = .load ty x)
    (g off n : Nat) (t : TypeId) (all cs : List Value) (d : TypeDesc) (hw : Region.wanted o (yielded ops a.tmps) = true) (hx : a.eval x = .pointer (some ⟨g, off, none⟩)) (hg : Blk w g t all) (hcs : (all.drop off).take n = cs)
    (hu : P.underlying ty = some d) (hd : d.isRow = true) (hi : (P.info? ty).map (·.size) = some cs.length)
    (h : wpList P ops Q rest (a.put o.dst (.agg cs.toArray)) w) : wpList P ops Q (o :: rest) a w :=
  wpList_step fun K hK => by
    rw [hw, if_pos rfl]
    exact wp_load_mid ty x ho g off hx cs d (by rw [← hcs]; exact hg.range off n) hu hd hi (hK _ _ h)
theorem wpList_bld {ops : Array Oper} {rest : List Oper} {o : Oper} {a : Act} {w : World} {Q : Exit → Act → World → Prop} (hg : o.guard = none) (t : TypeId) (fs : Array (Nat × Operand)) (vs : Array (Nat × Value)) (C : Array Value) (ho : o.op = .build t fs)
    (hv : fs.toList.map (fun x => (x.1, a.eval x.2)) = vs.toList) (hr : (Instr.build t vs).run Try.prog w = .ok (.agg C) w)
    (hK : wpList Try.prog ops Q rest (a.put o.dst (.agg C)) w) : wpList Try.prog ops Q (o :: rest) a w := by
  refine wpList_plain hg fun K' hK' => ?_
  have e : fs.map (fun x => (x.1, a.eval x.2)) = vs := by
    apply Array.toList_inj.1; rw [Array.toList_map]; exact hv
  unfold Oper.wp execOp
  simp only [ho, e, Sem.run_bind, hr, Sem.run_pure, Result.andThen_ok]
  exact hK' _ _ hK
theorem run_index_agg {P : Program} (w : World) (t e : TypeId) (n : Nat) (cs : Array Value) (k kk : IntKind) (i : Int) (h : P.underlying t = some (.array n e)) (he : P.underlying e = some (.int kk)) (hi : (P.info? e).map (·.size) = some 1)
    (h0 : 0 ≤ i) (h1 : i < (n : Int)) (v : Value) (hv : cs[i.toNat]? = some v) : (Instr.index t (.agg cs) (.int k i)).run P w = .ok v w := by
  cases hq : P.info? e with
  | none => simp [hq] at hi
  | some inf =>
    have hs : inf.size = 1 := by simpa [hq] using hi
    have hagg : (isAgg e).run P w = .ok false w := by
      unfold isAgg
      rw [Sem.run_bind, run_underlying he w]
      rfl
    simp [Instr.index, run_underlying h, asIntOf, h0, h1, sizeOf, typeInfo, hq, hs, part, Sem.run_bind, hagg, hv]
theorem wp_load_blk {P : Program} {o : Oper} {a : Act} {w : World} {K : Act → World → Prop} {Q : Exit → Act → World → Prop} (ty : TypeId) (x : Operand) (ho : o.op = .load ty x)
    (g : Nat) (t : TypeId) (cs : List Value) (d : TypeDesc) (hx : a.eval x = .pointer (some ⟨g, 0, none⟩)) (hg : Blk w g t cs)
    (hu : P.underlying ty = some d) (hd : (match d with | .struct _ | .array _ _ => true | _ => false) = true) (hi : (P.info? ty).map (·.size) = some cs.length)
    (h : K (a.put o.dst (.agg cs.toArray)) w) : o.wp P a w K Q :=
  wp_load_row ty x ho g hx t cs.toArray (0, 0) d hg hu hd (by rw [List.size_toArray]; exact hi) h
end Go.Proofs.Ytdohocbpjpnmeaa
