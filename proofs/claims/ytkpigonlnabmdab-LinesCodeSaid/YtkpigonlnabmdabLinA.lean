/-
  A CONTROL: its fourteen cells; as an argument; compared with itself.
-/
import Derived.Test.YtkpigonlnabmdabTabBits
import Derived.Test.YtkpigonlnabmdabMemArgs
import Derived.Deep.DeepCutAuto
import Derived.DeepKeys
import Derived.Laws.StructEq
import Derived.ChangeKeysEq
import Derived.Deep.RegionHeld
namespace Go.Proofs.Ytkpigonlnabmdab
open Go.RowKit Go.ChangeShapes Go.WideShapes Go.ChangeAt

theorem later1 (w : World) (o : Obj) : Later w (w.alloc o) := (Below.refl _ _).alloc (Nat.le_refl _) o
theorem later0 (w : World) : Later w w := Below.refl _ _
/-- A control: how many processors; what is raised, let through, and where lines go. -/
structure Ctl where
  (n : Int)
  (r m t : Nat → Int)
def Ctl.cells (x : Ctl) : List Value := [.int .i64 x.n, .int .u32 (x.r 0), .int .u32 (x.r 1), .int .u32 (x.r 2), .int .u32 (x.r 3), .int .u32 (x.m 0), .int .u32 (x.m 1), .int .u32 (x.m 2), .int .u32 (x.m 3), .int .i64 (x.t 0), .int .i64 (x.t 1), .int .i64 (x.t 2), .int .i64 (x.t 3), .int .i64 (x.t 4)]
def upd (f : Nat → Int) (k : Nat) (v : Int) : Nat → Int := fun i => if i = k then v else f i
theorem upd_at (f : Nat → Int) (k : Nat) (v : Int) : upd f k v k = v := if_pos rfl
theorem upd_ne (f : Nat → Int) {k i : Nat} (v : Int) (h : i ≠ k) : upd f k v i = f i := if_neg h
theorem upd_upd (f : Nat → Int) (k : Nat) (v u : Int) : upd (upd f k v) k u = upd f k u := by
  funext i
  unfold upd
  split <;> rfl
theorem upd_same (f : Nat → Int) (k : Nat) : upd f k (f k) = f := by
  funext i
  unfold upd
  split
  · rename_i h; rw [h]
  · rfl
theorem upd_comm (f : Nat → Int) {k j : Nat} (v u : Int) (h : k ≠ j) : upd (upd f k v) j u = upd (upd f j u) k v := by
  funext i
  unfold upd
  by_cases h1 : i = j
  · subst h1; simp [Ne.symm h]
  · simp [h1]
def zK : Ctl := ⟨0, fun _ => 0, fun _ => 0, fun _ => 0⟩
theorem ctl_sz (x : Ctl) : (Try.prog.info? 26).map (·.size) = some x.cells.length := by
  show _ = some 14
  kernel_rfl
theorem ctl_one (x : Ctl) : ∀ v ∈ x.cells, v.oneCell' = true := by
  intro v hv
  simp only [Ctl.cells, List.mem_cons, List.not_mem_nil, or_false] at hv
  rcases hv with rfl | rfl | rfl | rfl | rfl | rfl | rfl | rfl | rfl | rfl | rfl | rfl | rfl | rfl <;> rfl
theorem ctl_n (x : Ctl) : x.cells[0]? = some (.int .i64 x.n) := rfl
theorem ctl_r (x : Ctl) {k : Nat} (h : k < 4) : x.cells[1 + k]? = some (.int .u32 (x.r k)) := by
  rcases (show k = 0 ∨ k = 1 ∨ k = 2 ∨ k = 3 by omega) with rfl | rfl | rfl | rfl <;> rfl
theorem ctl_m (x : Ctl) {k : Nat} (h : k < 4) : x.cells[5 + k]? = some (.int .u32 (x.m k)) := by
  rcases (show k = 0 ∨ k = 1 ∨ k = 2 ∨ k = 3 by omega) with rfl | rfl | rfl | rfl <;> rfl
theorem ctl_t (x : Ctl) {k : Nat} (h : k < 5) : x.cells[9 + k]? = some (.int .i64 (x.t k)) := by
  rcases (show k = 0 ∨ k = 1 ∨ k = 2 ∨ k = 3 ∨ k = 4 by omega) with rfl | rfl | rfl | rfl | rfl <;> rfl
theorem set_r (x : Ctl) {k : Nat} (h : k < 4) (v : Int) : x.cells.set (1 + k) (.int .u32 v) = ({ x with r := upd x.r k v } : Ctl).cells := by
  rcases (show k = 0 ∨ k = 1 ∨ k = 2 ∨ k = 3 by omega) with rfl | rfl | rfl | rfl <;> rfl
theorem set_m (x : Ctl) {k : Nat} (h : k < 4) (v : Int) : x.cells.set (5 + k) (.int .u32 v) = ({ x with m := upd x.m k v } : Ctl).cells := by
  rcases (show k = 0 ∨ k = 1 ∨ k = 2 ∨ k = 3 by omega) with rfl | rfl | rfl | rfl <;> rfl
theorem set_t (x : Ctl) {k : Nat} (h : k < 5) (v : Int) : x.cells.set (9 + k) (.int .i64 v) = ({ x with t := upd x.t k v } : Ctl).cells := by
  rcases (show k = 0 ∨ k = 1 ∨ k = 2 ∨ k = 3 ∨ k = 4 by omega) with rfl | rfl | rfl | rfl | rfl <;> rfl
def i64 (n : Int) : Prop := -9223372036854775808 ≤ n ∧ n ≤ 9223372036854775807
/-- A control's numbers are numbers. -/
structure Ctl.wf (x : Ctl) : Prop where
  n : i64 x.n
  r : ∀ k, k < 4 → Tm.isE (x.r k)
  m : ∀ k, k < 4 → Tm.isE (x.m k)
  t : ∀ k, k < 5 → i64 (x.t k)
section
variable {H : Type} {enc : TypeId × Value → H} {P : Program} {W : World} {r : Reach} {b0 : Nat} {v : Value} {d : DataW H} {p : List MemPlace}
theorem ctl_cells {t tu ta tr ti : TypeId} {fs : Array Field} (ht : P.underlying t = some (.struct fs)) (hf : fs.toList.map (fun f => (f.type, f.offset)) = [(ti, 0), (ta, 1), (ta, 5), (tr, 9)])
    (hu : P.underlying tu = some (.int .u32)) (hi : P.underlying ti = some (.int .i64)) (ha : P.underlying ta = some (.array 4 tu)) (hr : P.underlying tr = some (.array 5 ti))
    (ku : P.cellsOf tu = 1) (ki : P.cellsOf ti = 1) (ka : P.cellsOf ta = 4) (kr : P.cellsOf tr = 5) (kt : P.cellsOf t = 14)
    (hv : Value.okWide P W r b0 t v) (h : DataW.Trod enc P W 0 (fun _ => true) true t v d p) :
    ∃ l : List Value, v = .agg l.toArray ∧ l.length = 14 ∧ (∃ n : Int, l[0]? = some (.int .i64 n) ∧ i64 n) ∧ (∀ i, i < 8 → ∃ m : Int, l[1 + i]? = some (.int .u32 m) ∧ Tm.isE m) ∧ ∀ i, i < 5 → ∃ m : Int, l[9 + i]? = some (.int .i64 m) ∧ i64 m := by
  obtain ⟨cs, rfl, hsz⟩ := okWide_struct ht hv
  obtain ⟨fuel, hf'⟩ := h
  obtain ⟨xs, n, _, _, hl, hlen, hall⟩ := DataW.trod_struct ht hf'
  rw [kt] at hsz
  obtain ⟨l⟩ := cs
  have hn : fs.size = 4 := by simpa using congrArg List.length hf
  have hl14 : l.length = 14 := by simpa using hsz
  have fld : ∀ i, i < 4 → ∃ tt oo y, [(ti, 0), (ta, 1), (ta, 5), (tr, 9)][i]? = some (tt, oo) ∧ DataW.trod enc P W 0 (fun _ => true) true n tt ((l.drop oo).take (P.cellsOf tt)) = some y := by
    intro i hi7
    have h1 : (fs.toList.map (fun f => (f.type, f.offset)))[i]? = some ((fs[i]'(by omega)).type, (fs[i]'(by omega)).offset) := by simp [hn, hi7]
    have h2 := hall i (fs[i]'(by omega)) (by simp [hn, hi7])
    obtain ⟨b, hb⟩ : ∃ b, xs[i]? = some b := ⟨xs[i]'(by omega), List.getElem?_eq_getElem (by omega)⟩
    rw [hb] at h2
    rw [hf] at h1
    exact ⟨_, _, b, h1, h2⟩
  have w1 : IntKind.u32.min = 0 := rfl
  have w2 : IntKind.u32.max = 4294967295 := rfl
  have w3 : IntKind.i64.min = -9223372036854775808 := rfl
  have w4 : IntKind.i64.max = 9223372036854775807 := rfl
  have at1 : ∀ (o : Nat) (x : Value), (l.drop o).take 1 = [x] → l[o]? = some x := by
    intro o x hx
    have := congrArg (·[0]?) hx
    simpa [List.getElem?_take, List.getElem?_drop] using this
  have arr : ∀ (o : Nat) y, DataW.trod enc P W 0 (fun _ => true) true n ta ((l.drop o).take 4) = some y → ∀ i, i < 4 → ∃ m : Int, l[o + i]? = some (.int .u32 m) ∧ Tm.isE m := by
    intro o y hy i hik
    obtain ⟨ys, q, _, _, _, hyl, hya⟩ := DataW.trod_array ha hy
    have h2 := hya i hik
    obtain ⟨b, hb⟩ : ∃ b, ys[i]? = some b := ⟨ys[i]'(by omega), List.getElem?_eq_getElem (by omega)⟩
    rw [hb, ku, Nat.mul_one] at h2
    obtain ⟨z, hz, _, hw⟩ := DataW.trod_int hu h2
    have h3 : l[o + i]? = some (.int .u32 z) := by
      have := congrArg (·[0]?) hz
      simpa [List.getElem?_take, List.getElem?_drop, hik] using this
    simp only [Lit.wf, Bool.and_eq_true, decide_eq_true_eq] at hw
    exact ⟨z, h3, by omega, by omega⟩
  have arri : ∀ (o : Nat) y, DataW.trod enc P W 0 (fun _ => true) true n tr ((l.drop o).take 5) = some y → ∀ i, i < 5 → ∃ m : Int, l[o + i]? = some (.int .i64 m) ∧ i64 m := by
    intro o y hy i hik
    obtain ⟨ys, q, _, _, _, hyl, hya⟩ := DataW.trod_array hr hy
    have h2 := hya i hik
    obtain ⟨b, hb⟩ : ∃ b, ys[i]? = some b := ⟨ys[i]'(by omega), List.getElem?_eq_getElem (by omega)⟩
    rw [hb, ki, Nat.mul_one] at h2
    obtain ⟨z, hz, _, hw⟩ := DataW.trod_int hi h2
    have h3 : l[o + i]? = some (.int .i64 z) := by
      have := congrArg (·[0]?) hz
      simpa [List.getElem?_take, List.getElem?_drop, hik] using this
    simp only [Lit.wf, Bool.and_eq_true, decide_eq_true_eq] at hw
    exact ⟨z, h3, by omega, by omega⟩
  obtain ⟨t0, o0, y0, e0, f0⟩ := fld 0 (by omega)
  obtain ⟨t1, o1, y1, e1, f1⟩ := fld 1 (by omega)
  obtain ⟨t2, o2, y2, e2, f2⟩ := fld 2 (by omega)
  obtain ⟨t3, o3, y3, e3, f3⟩ := fld 3 (by omega)
  obtain ⟨rfl, rfl⟩ : ti = t0 ∧ 0 = o0 := by simpa using e0
  obtain ⟨rfl, rfl⟩ : ta = t1 ∧ 1 = o1 := by simpa using e1
  obtain ⟨rfl, rfl⟩ : ta = t2 ∧ 5 = o2 := by simpa using e2
  obtain ⟨rfl, rfl⟩ : tr = t3 ∧ 9 = o3 := by simpa using e3
  rw [ki] at f0
  rw [ka] at f1 f2
  rw [kr] at f3
  refine ⟨l, rfl, hl14, ?_, ?_, ?_⟩
  · obtain ⟨z, hz, _, hw⟩ := DataW.trod_int hi f0
    simp only [Lit.wf, Bool.and_eq_true, decide_eq_true_eq] at hw
    exact ⟨z, at1 _ _ hz, by omega, by omega⟩
  · intro i h8
    by_cases h4 : i < 4
    · exact arr 1 y1 f1 i h4
    · have := arr 5 y2 f2 (i - 4) (by omega)
      rwa [show 5 + (i - 4) = 1 + i by omega] at this
  · intro i h5
    exact arri 9 y3 f3 i h5
end
set_option maxRecDepth 100000 in
theorem ctl_open {H : Type} {enc : TypeId × Value → H} {W : World} {r : Reach} {b0 : Nat} {v : Value} {d : DataW H} {p : List MemPlace} (hv : Value.okWide Try.prog W r b0 26 v) (h : DataW.Trod enc Try.prog W 0 (fun _ => true) true 26 v d p) : ∃ x : Ctl, v = .agg x.cells.toArray ∧ x.wf := by
  obtain ⟨l, rfl, hl, ⟨n, e0, hn⟩, h8, h5⟩ := ctl_cells (tu := 22) (ti := 3) (ta := 23) (tr := 24) Try.underlying26 rfl Try.underlying22 Try.underlying3 Try.underlying23 Try.underlying24 (by kernel_rfl) (by kernel_rfl) (by kernel_rfl) (by kernel_rfl) (by kernel_rfl) hv h
  obtain ⟨a0, p0, q0⟩ := h8 0 (by omega)
  obtain ⟨a1, p1, q1⟩ := h8 1 (by omega)
  obtain ⟨a2, p2, q2⟩ := h8 2 (by omega)
  obtain ⟨a3, p3, q3⟩ := h8 3 (by omega)
  obtain ⟨a4, p4, q4⟩ := h8 4 (by omega)
  obtain ⟨a5, p5, q5⟩ := h8 5 (by omega)
  obtain ⟨a6, p6, q6⟩ := h8 6 (by omega)
  obtain ⟨a7, p7, q7⟩ := h8 7 (by omega)
  obtain ⟨b0, u0, z0⟩ := h5 0 (by omega)
  obtain ⟨b1, u1, z1⟩ := h5 1 (by omega)
  obtain ⟨b2, u2, z2⟩ := h5 2 (by omega)
  obtain ⟨b3, u3, z3⟩ := h5 3 (by omega)
  obtain ⟨b4, u4, z4⟩ := h5 4 (by omega)
  refine ⟨⟨n, fun i => match i with | 0 => a0 | 1 => a1 | 2 => a2 | _ => a3, fun i => match i with | 0 => a4 | 1 => a5 | 2 => a6 | _ => a7, fun i => match i with | 0 => b0 | 1 => b1 | 2 => b2 | 3 => b3 | _ => b4⟩, ?_, ?_⟩
  · congr 2
    apply List.ext_getElem?
    intro i
    by_cases hi : i < 14
    · rcases (show i = 0 ∨ i = 1 ∨ i = 2 ∨ i = 3 ∨ i = 4 ∨ i = 5 ∨ i = 6 ∨ i = 7 ∨ i = 8 ∨ i = 9 ∨ i = 10 ∨ i = 11 ∨ i = 12 ∨ i = 13 by omega) with rfl | rfl | rfl | rfl | rfl | rfl | rfl | rfl | rfl | rfl | rfl | rfl | rfl | rfl
      · exact e0
      · exact p0
      · exact p1
      · exact p2
      · exact p3
      · exact p4
      · exact p5
      · exact p6
      · exact p7
      · exact u0
      · exact u1
      · exact u2
      · exact u3
      · exact u4
    · rw [List.getElem?_eq_none (by omega), List.getElem?_eq_none (by show 14 ≤ i; omega)]
  · refine ⟨hn, ?_, ?_, ?_⟩
    · intro k hk
      rcases (show k = 0 ∨ k = 1 ∨ k = 2 ∨ k = 3 by omega) with rfl | rfl | rfl | rfl
      · exact q0
      · exact q1
      · exact q2
      · exact q3
    · intro k hk
      rcases (show k = 0 ∨ k = 1 ∨ k = 2 ∨ k = 3 by omega) with rfl | rfl | rfl | rfl
      · exact q4
      · exact q5
      · exact q6
      · exact q7
    · intro k hk
      rcases (show k = 0 ∨ k = 1 ∨ k = 2 ∨ k = 3 ∨ k = 4 by omega) with rfl | rfl | rfl | rfl | rfl
      · exact z0
      · exact z1
      · exact z2
      · exact z3
      · exact z4
theorem items_refl {P : Program} (d : Nat) (e : TypeId) (c : Nat) (xs : Array Value) (w : World) : ∀ is : List Nat, (∀ i ∈ is, ∃ v, (part e xs (i * c)).run P w = .ok v w ∧ (Op.equalIn d e v v).run P w = .ok true w) → (Op.eqItems d e c xs xs is).run P w = .ok true w
  | [], _ => by simp [Op.eqItems]
  | i :: is, h => by
    obtain ⟨v, h1, h2⟩ := h i (by simp)
    simp only [Op.eqItems, Sem.run_bind, h1, h2, Result.andThen_ok]
    simpa using items_refl d e c xs w is (fun j hj => h j (by simp [hj]))
theorem fields_refl {P : Program} (d : Nat) (xs : Array Value) (w : World) : ∀ fs : List Field, (∀ f ∈ fs, f.name ≠ "_" ∧ ∃ v, (part f.type xs f.offset).run P w = .ok v w ∧ (Op.equalIn d f.type v v).run P w = .ok true w) → (Op.eqFields d xs xs fs).run P w = .ok true w
  | [], _ => by simp [Op.eqFields]
  | f :: fs, h => by
    obtain ⟨hn, v, h1, h2⟩ := h f (by simp)
    simp only [Op.eqFields, if_pos hn, Sem.run_bind, h1, h2, Result.andThen_ok]
    simpa using fields_refl d xs w fs (fun j hj => h j (by simp [hj]))
theorem eq_num (d : Nat) {t : TypeId} {k : IntKind} (ht : Try.prog.underlying t = some (.int k)) (a : Int) (w : World) : (Op.equalIn (d + 1) t (.int k a) (.int k a)).run Try.prog w = .ok true w := by
  rw [run_equalIn_int w d t k k a a ht]
  simp
set_option maxRecDepth 100000 in
theorem arr_refl (n : Nat) (t e : TypeId) (k : IntKind) (l : List Int) (d : Nat) (w : World) (ht : Try.prog.underlying t = some (.array n e)) (he : Try.prog.underlying e = some (.int k)) (hi : (Try.prog.info? e).isSome = true) (hc : Try.prog.cellsOf e = 1) (hag : (isAgg e).run Try.prog w = .ok false w) (hl : l.length = n) : (Op.equalIn (d + 1 + 1) t (.agg (l.map (Value.int k)).toArray) (.agg (l.map (Value.int k)).toArray)).run Try.prog w = .ok true w := by
  obtain ⟨i, hi⟩ := Option.isSome_iff_exists.1 hi
  rw [run_equalIn_array w (d + 1) _ _ ht hi, hc]
  refine items_refl _ _ _ _ w _ fun j hj => ?_
  have hj' : j < l.length := by rw [hl]; exact List.mem_range.1 hj
  refine ⟨.int k l[j], ?_, eq_num d he _ w⟩
  have hc : (l.map (Value.int k)).toArray[j * 1]? = some (.int k l[j]) := by simp [hj']
  simp [part, hag, hj']
def four (f : Nat → Int) : List Value := [.int .u32 (f 0), .int .u32 (f 1), .int .u32 (f 2), .int .u32 (f 3)]
def five (f : Nat → Int) : List Value := [.int .i64 (f 0), .int .i64 (f 1), .int .i64 (f 2), .int .i64 (f 3), .int .i64 (f 4)]
theorem four_sz (f : Nat → Int) : (Try.prog.info? 23).map (·.size) = some (four f).length := by
  show _ = some 4
  kernel_rfl
theorem five_sz (f : Nat → Int) : (Try.prog.info? 24).map (·.size) = some (five f).length := by
  show _ = some 5
  kernel_rfl
set_option maxRecDepth 100000 in
theorem four_same (f : Nat → Int) (d : Nat) (w : World) : (Op.equalIn (d + 1 + 1) 23 (.agg (four f).toArray) (.agg (four f).toArray)).run Try.prog w = .ok true w :=
  arr_refl 4 23 22 .u32 [f 0, f 1, f 2, f 3] d w Try.underlying23 Try.underlying22 (by kernel_rfl) (by kernel_rfl) (by kernel_rfl) rfl
set_option maxRecDepth 100000 in
theorem five_same (f : Nat → Int) (d : Nat) (w : World) : (Op.equalIn (d + 1 + 1) 24 (.agg (five f).toArray) (.agg (five f).toArray)).run Try.prog w = .ok true w :=
  arr_refl 5 24 3 .i64 [f 0, f 1, f 2, f 3, f 4] d w Try.underlying24 Try.underlying3 (by kernel_rfl) (by kernel_rfl) (by kernel_rfl) rfl
set_option maxRecDepth 100000 in
theorem ctl_same (x : Ctl) (w : World) : (Op.equalIn 10000 26 (.agg x.cells.toArray) (.agg x.cells.toArray)).run Try.prog w = .ok true w := by
  obtain ⟨fs, hfs, hu⟩ : ∃ fs, Try.prog.fieldsOf 26 = fs ∧ Try.prog.underlying 26 = some (.struct fs) := ⟨_, by kernel_rfl, Try.underlying26⟩
  rw [run_equalIn_struct w 9999 _ _ _ (by rw [hfs]; exact hu) (by kernel_rfl), hfs]
  have hfs2 := hu.symm.trans Try.underlying26
  injection hfs2 with h1
  injection h1 with h2
  subst h2
  refine fields_refl _ _ w _ fun f hf => ?_
  simp only [List.mem_cons, List.not_mem_nil, or_false] at hf
  rcases hf with rfl | rfl | rfl | rfl
  · exact ⟨by decide, .int .i64 x.n, by kernel_rfl, eq_num 9998 Try.underlying3 _ w⟩
  · exact ⟨by decide, .agg (four x.r).toArray, by kernel_rfl, four_same x.r 9997 w⟩
  · exact ⟨by decide, .agg (four x.m).toArray, by kernel_rfl, four_same x.m 9997 w⟩
  · exact ⟨by decide, .agg (five x.t).toArray, by kernel_rfl, five_same x.t 9997 w⟩
theorem wpList_load_g {P : Program} {ops : Array Oper} {rest : List Oper} {o : Oper} {a : Act} {w : World} {Q : Exit → Act → World → Prop} (ty : TypeId) (x : Operand) (ho : o.op = .load ty x)
    (g : Nat) (t : TypeId) (cs : List Value) (d : TypeDesc) (hw : Region.wanted o (yielded ops a.tmps) = true) (hx : a.eval x = .pointer (some ⟨g, 0, none⟩)) (hg : Blk w g t cs)
    (hu : P.underlying ty = some d) (hd : (match d with | .struct _ | .array _ _ => true | _ => false) = true) (hi : (P.info? ty).map (·.size) = some cs.length)
    (h : wpList P ops Q rest (a.put o.dst (.agg cs.toArray)) w) : wpList P ops Q (o :: rest) a w :=
  wpList_step fun K hK => by
    rw [hw, if_pos rfl]
    exact wp_load_row ty x ho g hx t cs.toArray (0, 0) d hg hu hd (by rw [List.size_toArray]; exact hi) (hK _ _ h)

theorem wpList_load_atg {P : Program} {ops : Array Oper} {rest : List Oper} {o : Oper} {a : Act} {w : World} {Q : Exit → Act → World → Prop} (ty : TypeId) (x : Operand) (ho : o.op = .load ty x)
    (g off n : Nat) (t : TypeId) (all cs : List Value) (d : TypeDesc) (hw : Region.wanted o (yielded ops a.tmps) = true) (hx : a.eval x = .pointer (some ⟨g, off, none⟩)) (hg : Blk w g t all) (hcs : (all.drop off).take n = cs)
    (hu : P.underlying ty = some d) (hd : d.isRow = true) (hi : (P.info? ty).map (·.size) = some cs.length)
    (h : wpList P ops Q rest (a.put o.dst (.agg cs.toArray)) w) : wpList P ops Q (o :: rest) a w :=
  wpList_step fun K hK => by
    rw [hw, if_pos rfl]
    exact wp_load_mid ty x ho g off hx cs d (by rw [← hcs]; exact hg.range off n) hu hd hi (hK _ _ h)
theorem wpList_bld {ops : Array Oper} {rest : List Oper} {o : Oper} {a : Act} {w : World} {Q : Exit → Act → World → Prop} (hg : o.guard = none) (t : TypeId) (fs : Array (Nat × Operand)) (vs : Array (Nat × Value)) (C : Array Value) (ho : o.op = .build t fs)
    (hv : fs.toList.map (fun x => (x.1, a.eval x.2)) = vs.toList) (hr : (Instr.build t vs).run Try.prog w = .ok (.agg C) w)
    (hK : wpList Try.prog ops Q rest (a.put o.dst (.agg C)) w) : wpList Try.prog ops Q (o :: rest) a w := by
  refine wpList_plain hg fun K' hK' => ?_
  have e : fs.map (fun x => (x.1, a.eval x.2)) = vs := by
    apply Array.toList_inj.1; rw [Array.toList_map]; exact hv
  unfold Oper.wp execOp
  simp only [ho, e, Sem.run_bind, hr, Sem.run_pure, Result.andThen_ok]
  exact hK' _ _ hK
theorem run_index_agg {P : Program} (w : World) (t e : TypeId) (n : Nat) (cs : Array Value) (k kk : IntKind) (i : Int) (h : P.underlying t = some (.array n e)) (he : P.underlying e = some (.int kk)) (hi : (P.info? e).map (·.size) = some 1)
    (h0 : 0 ≤ i) (h1 : i < (n : Int)) (v : Value) (hv : cs[i.toNat]? = some v) : (Instr.index t (.agg cs) (.int k i)).run P w = .ok v w := by
  cases hq : P.info? e with
  | none => simp [hq] at hi
  | some inf =>
    have hs : inf.size = 1 := by simpa [hq] using hi
    have hagg : (isAgg e).run P w = .ok false w := by
      unfold isAgg
      rw [Sem.run_bind, run_underlying he w]
      rfl
    simp [Instr.index, run_underlying h, asIntOf, h0, h1, sizeOf, typeInfo, hq, hs, part, Sem.run_bind, hagg, hv]
theorem wp_load_blk {P : Program} {o : Oper} {a : Act} {w : World} {K : Act → World → Prop} {Q : Exit → Act → World → Prop} (ty : TypeId) (x : Operand) (ho : o.op = .load ty x)
    (g : Nat) (t : TypeId) (cs : List Value) (d : TypeDesc) (hx : a.eval x = .pointer (some ⟨g, 0, none⟩)) (hg : Blk w g t cs)
    (hu : P.underlying ty = some d) (hd : (match d with | .struct _ | .array _ _ => true | _ => false) = true) (hi : (P.info? ty).map (·.size) = some cs.length)
    (h : K (a.put o.dst (.agg cs.toArray)) w) : o.wp P a w K Q :=
  wp_load_row ty x ho g hx t cs.toArray (0, 0) d hg hu hd (by rw [List.size_toArray]; exact hi) h
end Go.Proofs.Ytkpigonlnabmdab
