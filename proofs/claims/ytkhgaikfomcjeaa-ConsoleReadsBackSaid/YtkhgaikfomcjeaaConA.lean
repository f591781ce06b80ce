/-
  A CONSOLE: its two cells; as an argument; compared with itself; laws for the walks.
-/
import Derived.Test.YtkhgaikfomcjeaaTabBits
import Derived.Test.YtkhgaikfomcjeaaMemArgs
import Derived.Deep.DeepCutAuto
import Derived.DeepKeys
import Derived.Laws.StructEq
import Derived.ChangeKeysEq
import Derived.Deep.RegionHeld
import Derived.Laws.RangeAny
namespace Go.Proofs.Ytkhgaikfomcjeaa
open Go.RowKit Go.ChangeShapes Go.WideShapes Go.ChangeAt

theorem later1 (w : World) (o : Obj) : Later w (w.alloc o) := (Below.refl _ _).alloc (Nat.le_refl _) o
theorem later0 (w : World) : Later w w := Below.refl _ _
/-- A console: the bytes that wait; how many were lost. -/
structure Cn where
  (s : ByteArray)
  (n : Int)
def Cn.cells (x : Cn) : List Value := [.string x.s, .int .i64 x.n]
def zC : Cn := ⟨⟨#[]⟩, 0⟩
theorem cn_sz (x : Cn) : (Try.prog.info? 23).map (·.size) = some x.cells.length := by
  show _ = some 2
  kernel_rfl
theorem cn_one (x : Cn) : ∀ v ∈ x.cells, v.oneCell' = true := by
  intro v hv
  simp only [Cn.cells, List.mem_cons, List.not_mem_nil, or_false] at hv
  rcases hv with rfl | rfl <;> rfl
theorem cn_s (x : Cn) : x.cells[0]? = some (.string x.s) := rfl
theorem cn_n (x : Cn) : x.cells[1]? = some (.int .i64 x.n) := rfl
theorem set_s (x : Cn) (v : ByteArray) : x.cells.set 0 (.string v) = (⟨v, x.n⟩ : Cn).cells := rfl
theorem set_n (x : Cn) (v : Int) : x.cells.set 1 (.int .i64 v) = (⟨x.s, v⟩ : Cn).cells := rfl
def i64 (n : Int) : Prop := -9223372036854775808 ≤ n ∧ n ≤ 9223372036854775807
structure Cn.wf (x : Cn) : Prop where
  s : x.s.size ≤ maxLen
  n : i64 x.n
set_option maxRecDepth 100000 in
theorem cn_open {H : Type} {enc : TypeId × Value → H} {W : World} {r : Reach} {b0 : Nat} {v : Value} {d : DataW H} {p : List MemPlace} (hv : Value.okWide Try.prog W r b0 23 v) (h : DataW.Trod enc Try.prog W 0 (fun _ => true) true 23 v d p) : ∃ x : Cn, v = .agg x.cells.toArray ∧ x.wf := by
  obtain ⟨cs, rfl, hsz⟩ := okWide_struct Try.underlying23 hv
  obtain ⟨fuel, hf⟩ := h
  obtain ⟨y0, y1, m, _, hl, k0, k1⟩ := trod_struct2 Try.underlying23 hf
  rw [show Try.prog.cellsOf 9 = 1 by kernel_rfl] at k0
  rw [show Try.prog.cellsOf 3 = 1 by kernel_rfl] at k1
  obtain ⟨z0, e0, _, w0⟩ := DataW.trod_string Try.underlying9 k0
  obtain ⟨z1, e1, _, w1⟩ := DataW.trod_int Try.underlying3 k1
  have a0 : IntKind.i64.min = -9223372036854775808 := rfl
  have a1 : IntKind.i64.max = 9223372036854775807 := rfl
  simp only [Lit.wf, Bool.and_eq_true, decide_eq_true_eq] at w1
  refine ⟨⟨z0, z1⟩, ?_, ⟨w0, (show i64 z1 from ⟨by omega, by omega⟩)⟩⟩
  rw [show Try.prog.cellsOf 23 = 2 by kernel_rfl] at hl
  obtain ⟨l⟩ := cs
  match l, hl with
  | [a, b], _ =>
    have f0 : [a] = [Value.string z0] := e0
    have f1 : [b] = [Value.int .i64 z1] := e1
    injection f0 with f0
    injection f1 with f1
    rw [f0, f1]
    rfl
theorem fields_refl {P : Program} (d : Nat) (xs : Array Value) (w : World) : ∀ fs : List Field, (∀ f ∈ fs, f.name ≠ "_" ∧ ∃ v, (part f.type xs f.offset).run P w = .ok v w ∧ (Op.equalIn d f.type v v).run P w = .ok true w) → (Op.eqFields d xs xs fs).run P w = .ok true w
  | [], _ => by simp [Op.eqFields]
  | f :: fs, h => by
    obtain ⟨hn, v, h1, h2⟩ := h f (by simp)
    simp only [Op.eqFields, if_pos hn, Sem.run_bind, h1, h2, Result.andThen_ok]
    simpa using fields_refl d xs w fs (fun j hj => h j (by simp [hj]))
theorem eq_num (d : Nat) {t : TypeId} {k : IntKind} (ht : Try.prog.underlying t = some (.int k)) (a : Int) (w : World) : (Op.equalIn (d + 1) t (.int k a) (.int k a)).run Try.prog w = .ok true w := by
  rw [run_equalIn_int w d t k k a a ht]
  simp
theorem wpList_load_g {P : Program} {ops : Array Oper} {rest : List Oper} {o : Oper} {a : Act} {w : World} {Q : Exit → Act → World → Prop} (ty : TypeId) (x : Operand) (ho : o.op = .load ty x)
    (g : Nat) (t : TypeId) (cs : List Value) (d : TypeDesc) (hw : Region.wanted o (yielded ops a.tmps) = true) (hx : a.eval x = .pointer (some ⟨g, 0, none⟩)) (hg : Blk w g t cs)
    (hu : P.underlying ty = some d) (hd : (match d with | .struct _ | .array _ _ => true | _ => false) = true) (hi : (P.info? ty).map (·.size) = some cs.length)
    (h : wpList P ops Q rest (a.put o.dst (.agg cs.toArray)) w) : wpList P ops Q (o :: rest) a w :=
  wpList_step fun K hK => by
    rw [hw, if_pos rfl]
    exact wp_load_row ty x ho g hx t cs.toArray (0, 0) d hg hu hd (by rw [List.size_toArray]; exact hi) (hK _ _ h)

theorem wpList_load_atg {P : Program} {ops : Array Oper} {rest : List Oper} {o : Oper} {a : Act} {w : World} {Q : Exit → Act → World → Prop} (ty : TypeId) (x : Operand) (ho : o.op = .load ty x)
    (g off n : Nat) (t : TypeId) (all cs : List Value) (d : TypeDesc) (hw : Region.wanted o (yielded ops a.tmps) = true) (hx : a.eval x = .pointer (some ⟨g, off, none⟩)) (hg : Blk w g t all) (hcs : (all.drop off).take n = cs)
    (hu : P.underlying ty = some d) (hd : d.isRow = true) (hi : (P.info? ty).map (·.size) = some cs.length)
    (h : wpList P ops Q rest (a.put o.dst (.agg cs.toArray)) w) : wpList P ops Q (o :: rest) a w :=
  wpList_step fun K hK => by
    rw [hw, if_pos rfl]
    exact wp_load_mid ty x ho g off hx cs d (by rw [← hcs]; exact hg.range off n) hu hd hi (hK _ _ h)
theorem wpList_bld {ops : Array Oper} {rest : List Oper} {o : Oper} {a : Act} {w : World} {Q : Exit → Act → World → Prop} (hg : o.guard = none) (t : TypeId) (fs : Array (Nat × Operand)) (vs : Array (Nat × Value)) (C : Array Value) (ho : o.op = .build t fs)
    (hv : fs.toList.map (fun x => (x.1, a.eval x.2)) = vs.toList) (hr : (Instr.build t vs).run Try.prog w = .ok (.agg C) w)
    (hK : wpList Try.prog ops Q rest (a.put o.dst (.agg C)) w) : wpList Try.prog ops Q (o :: rest) a w := by
  refine wpList_plain hg fun K' hK' => ?_
  have e : fs.map (fun x => (x.1, a.eval x.2)) = vs := by
    apply Array.toList_inj.1; rw [Array.toList_map]; exact hv
  unfold Oper.wp execOp
  simp only [ho, e, Sem.run_bind, hr, Sem.run_pure, Result.andThen_ok]
  exact hK' _ _ hK
theorem run_index_agg {P : Program} (w : World) (t e : TypeId) (n : Nat) (cs : Array Value) (k kk : IntKind) (i : Int) (h : P.underlying t = some (.array n e)) (he : P.underlying e = some (.int kk)) (hi : (P.info? e).map (·.size) = some 1)
    (h0 : 0 ≤ i) (h1 : i < (n : Int)) (v : Value) (hv : cs[i.toNat]? = some v) : (Instr.index t (.agg cs) (.int k i)).run P w = .ok v w := by
  cases hq : P.info? e with
  | none => simp [hq] at hi
  | some inf =>
    have hs : inf.size = 1 := by simpa [hq] using hi
    have hagg : (isAgg e).run P w = .ok false w := by
      unfold isAgg
      rw [Sem.run_bind, run_underlying he w]
      rfl
    simp [Instr.index, run_underlying h, asIntOf, h0, h1, sizeOf, typeInfo, hq, hs, part, Sem.run_bind, hagg, hv]
theorem wp_load_blk {P : Program} {o : Oper} {a : Act} {w : World} {K : Act → World → Prop} {Q : Exit → Act → World → Prop} (ty : TypeId) (x : Operand) (ho : o.op = .load ty x)
    (g : Nat) (t : TypeId) (cs : List Value) (d : TypeDesc) (hx : a.eval x = .pointer (some ⟨g, 0, none⟩)) (hg : Blk w g t cs)
    (hu : P.underlying ty = some d) (hd : (match d with | .struct _ | .array _ _ => true | _ => false) = true) (hi : (P.info? ty).map (·.size) = some cs.length)
    (h : K (a.put o.dst (.agg cs.toArray)) w) : o.wp P a w K Q :=
  wp_load_row ty x ho g hx t cs.toArray (0, 0) d hg hu hd (by rw [List.size_toArray]; exact hi) h
theorem wp_set1 {P : Program} {o : Oper} {a : Act} {w : World} {K : Act → World → Prop} {Q : Exit → Act → World → Prop} (ty : TypeId) (x y : Operand) (ho : o.op = .store ty x y) (hdn : o.dst = none)
    (g off : Nat) (t : TypeId) (cs : List Value) (v : Value) (hx : a.eval x = .pointer (some ⟨g, off, none⟩)) (hy : a.eval y = v) (hg : Blk w g t cs)
    (hi : (P.info? ty).map (·.size) = some 1) (hof : off < cs.length) (h1 : v.oneCell' = true)
    (h : ∀ w', Blk w' g t (cs.set off v) → Only g w w' → K a w') : o.wp P a w K Q := by
  have hc : v.cells = #[v] := by cases v <;> first | rfl | cases h1
  have h2 : (store ⟨g, off, none⟩ v).run P w = .ok () (w.setCell ⟨g, off, none⟩ v) := by
    rw [run_store P w _ v _ h1, hg.cell (List.getElem?_eq_getElem hof), hg.frz off]; rfl
  have hst : (storeVar ty ⟨g, off, none⟩ v).run P w = .ok () (w.setCell ⟨g, off, none⟩ v) := by
    cases hq : P.info? ty with
    | none => simp [hq] at hi
    | some i =>
      have hs : i.size = 1 := by simpa [hq] using hi
      simp [storeVar, sizeOf, typeInfo, hq, hc, hs, storeCells, Addr.add, h2]
  unfold Oper.wp execOp
  simp only [ho, hx, hy, Instr.storeAt, Instr.sureAddr, Sem.run_bind, Sem.run_pure, Result.andThen_ok, hst]
  show K (a.put o.dst undef) _
  rw [hdn]
  exact h _ (hg.set off v) (Only.set _ _ _ _)
theorem wpList_set1 {P : Program} {ops : Array Oper} {rest : List Oper} {o : Oper} {a : Act} {w : World} {Q : Exit → Act → World → Prop} (hgd : o.guard = none) (ty : TypeId) (x y : Operand) (ho : o.op = .store ty x y) (hdn : o.dst = none)
    (g off : Nat) (t : TypeId) (cs : List Value) (v : Value) (hx : a.eval x = .pointer (some ⟨g, off, none⟩)) (hy : a.eval y = v) (hg : Blk w g t cs)
    (hi : (P.info? ty).map (·.size) = some 1) (hof : off < cs.length) (h1 : v.oneCell' = true)
    (h : ∀ w', Blk w' g t (cs.set off v) → Only g w w' → wpList P ops Q rest a w') : wpList P ops Q (o :: rest) a w :=
  wpList_plain hgd fun _ hK => wp_set1 ty x y ho hdn g off t cs v hx hy hg hi hof h1 fun w' h2 h3 => hK _ _ (h w' h2 h3)
theorem wp_store_blk {P : Program} {o : Oper} {a : Act} {w : World} {K : Act → World → Prop} {Q : Exit → Act → World → Prop} (ty : TypeId) (x y : Operand) (ho : o.op = .store ty x y)
    (g : Nat) (t : TypeId) (old cs : List Value) (hx : a.eval x = .pointer (some ⟨g, 0, none⟩)) (hy : a.eval y = .agg cs.toArray) (hg : Blk w g t old)
    (hi : (P.info? ty).map (·.size) = some cs.length) (hold : old.length = cs.length) (h1 : ∀ v ∈ cs, v.oneCell' = true)
    (h : ∀ w', Blk w' g t cs → Only g w w' → K (a.put o.dst undef) w') : o.wp P a w K Q :=
  wp_store_row ty x y ho g cs.toArray hx hy t old.toArray hg (by rw [List.size_toArray]; exact hi) (by simpa using hold) (all_oneCell_toArray h1) (h _ (hg.row cs) (Only.row _ _ _))
theorem yieldsIf_build {ops : Array Oper} {S : World → Prop} {op : Oper} {a : Act} (hw : Region.wanted op (yielded ops a.tmps) = true) (t : TypeId) (fs : Array (Nat × Operand)) (vs : Array (Nat × Value)) (C : Array Value) (ho : op.op = .build t fs)
    (hv : fs.toList.map (fun x => (x.1, a.eval x.2)) = vs.toList) (hr : ∀ w, (Instr.build t vs).run Try.prog w = .ok (.agg C) w) : YieldsIf Try.prog ops S op (.agg C) a :=
  .inl ⟨hw, fun w _ => by
    have e : fs.map (fun x => (x.1, a.eval x.2)) = vs := by
      apply Array.toList_inj.1; rw [Array.toList_map]; exact hv
    unfold execOp
    simp only [ho, e, Sem.run_bind, hr, Sem.run_pure, Result.andThen_ok]⟩
theorem run_build' (w : World) (t : TypeId) (vs : Array (Nat × Value)) (C : Array Value) (h : Try.prog.built t vs.toList = some C) : (Instr.build t vs).run Try.prog w = .ok (.agg C) w := run_build w t vs C h
theorem results_cell_tmp {P : Program} {fn : Func} {p q : Tmp} {ty : TypeId} (h : fn.results = #[.cell p ty, .tmp q]) (tmps : Array Value) (w : World) (g : Nat) (t : TypeId) (cs : List Value) (v : Value) (d : TypeDesc)
    (hp : tmps.getD p undef = .pointer (some ⟨g, 0, none⟩)) (hq : tmps.getD q undef = v) (hg : Blk w g t cs)
    (hu : P.underlying ty = some d) (hd : (match d with | .struct _ | .array _ _ => true | _ => false) = true) (hi : (P.info? ty).map (·.size) = some cs.length) :
    (results fn tmps).run P w = .ok (.tuple #[.agg cs.toArray, v]) w := by
  have hp' : tmps[p]?.getD undef = .pointer (some ⟨g, 0, none⟩) := by simpa using hp
  have hq' : tmps[q]?.getD undef = v := by simpa using hq
  simp [results, h, hp', hq', asAddr, run_loadVar_row w g t ty cs.toArray (0, 0) d hg hu hd (by rw [List.size_toArray]; exact hi)]
theorem results_c2 {P : Program} {fn : Func} {p q r : Tmp} {ty : TypeId} (h : fn.results = #[.cell p ty, .tmp q, .tmp r]) (tmps : Array Value) (w : World) (g : Nat) (t : TypeId) (cs : List Value) (v u : Value) (d : TypeDesc)
    (hp : tmps.getD p undef = .pointer (some ⟨g, 0, none⟩)) (hq : tmps.getD q undef = v) (hr : tmps.getD r undef = u) (hg : Blk w g t cs)
    (hu : P.underlying ty = some d) (hd : (match d with | .struct _ | .array _ _ => true | _ => false) = true) (hi : (P.info? ty).map (·.size) = some cs.length) :
    (results fn tmps).run P w = .ok (.tuple #[.agg cs.toArray, v, u]) w := by
  have hp' : tmps[p]?.getD undef = .pointer (some ⟨g, 0, none⟩) := by simpa using hp
  have hq' : tmps[q]?.getD undef = v := by simpa using hq
  have hr' : tmps[r]?.getD undef = u := by simpa using hr
  simp [results, h, hp', hq', hr', asAddr, run_loadVar_row w g t ty cs.toArray (0, 0) d hg hu hd (by rw [List.size_toArray]; exact hi)]
theorem eq_str (d : Nat) {t : TypeId} (ht : Try.prog.underlying t = some .string) (a : ByteArray) (w : World) : (Op.equalIn (d + 1) t (.string a) (.string a)).run Try.prog w = .ok true w := by
  rw [run_equalIn_string w d t a a ht]
  simp
set_option maxRecDepth 100000 in
theorem cn_same (x : Cn) (w : World) : (Op.equalIn 10000 23 (.agg x.cells.toArray) (.agg x.cells.toArray)).run Try.prog w = .ok true w := by
  obtain ⟨fs, hfs, hu⟩ : ∃ fs, Try.prog.fieldsOf 23 = fs ∧ Try.prog.underlying 23 = some (.struct fs) := ⟨_, by kernel_rfl, Try.underlying23⟩
  rw [run_equalIn_struct w 9999 _ _ _ (by rw [hfs]; exact hu) (by kernel_rfl), hfs]
  have hfs2 := hu.symm.trans Try.underlying23
  injection hfs2 with h1
  injection h1 with h2
  subst h2
  refine fields_refl _ _ w _ fun f hf => ?_
  simp only [List.mem_cons, List.not_mem_nil, or_false] at hf
  rcases hf with rfl | rfl
  · exact ⟨by decide, .string x.s, by kernel_rfl, eq_str 9998 Try.underlying9 _ w⟩
  · exact ⟨by decide, .int .i64 x.n, by kernel_rfl, eq_num 9998 Try.underlying3 _ w⟩
theorem cn_ret2 {fn : Func} {p q : Tmp} (h : fn.results = #[.cell p 23, .tmp q]) (tmps : Array Value) (w : World) (B : Nat) (x : Cn) (v : Value) (hp : tmps.getD p undef = .pointer (some ⟨B, 0, none⟩)) (hq : tmps.getD q undef = v) (hb : Blk w B 23 x.cells) :
    (results fn tmps).run Try.prog w = .ok (.tuple #[.agg x.cells.toArray, v]) w :=
  results_cell_tmp h tmps w B 23 x.cells v _ hp hq hb Try.underlying23 rfl (cn_sz _)
/-- The text of one byte. -/
def one (b : Int) : ByteArray := strOfNums [b]
def Cn.ok (x : Cn) : Bool := decide (x.s.size ≤ 64) && (decide (0 ≤ x.n) && decide (x.n ≤ 1099511627776))
def Cn.feedC (x : Cn) (b : Int) : Cn := if 64 ≤ x.s.size then ⟨x.s, min (x.n + 1) 1099511627776⟩ else ⟨x.s ++ one b, x.n⟩
def Cn.fed (x : Cn) : Bool := !decide (64 ≤ x.s.size)
def firstV (s : ByteArray) : Int := if h : 0 < s.size then ((s[0]'h).toNat : Int) else 4294967295
def restS (s : ByteArray) : ByteArray := s.extract 1 s.size
def noS : ByteArray := ⟨#[]⟩
def Cn.portC (x : Cn) (inn : Bool) (p : Int) : Cn := if inn && decide (p = 33) then ⟨restS x.s, x.n⟩ else x
def Cn.portV (x : Cn) (inn : Bool) (p : Int) : Int := if inn && decide (p = 33) then firstV x.s else if inn && decide (p = 34) then (x.s.size : Int) else 0
def portO (inn : Bool) (p v : Int) : ByteArray := if !inn && decide (p = 32) then one (v % 256) else noS
def portB (inn : Bool) (p : Int) : Bool := if inn then decide (p = 33) || decide (p = 34) else decide (p = 32)
end Go.Proofs.Ytkhgaikfomcjeaa
