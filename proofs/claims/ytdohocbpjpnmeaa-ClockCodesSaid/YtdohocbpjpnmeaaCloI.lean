/-
  A CLOCK: what the statements need; what is asked, and turns, as arguments.
-/
import Derived.Test.YtdohocbpjpnmeaaCloH
import Derived.Deep.RegionHeld
namespace Go.Proofs.Ytdohocbpjpnmeaa
open Go.RowKit Go.ChangeShapes Go.WideShapes Go.ChangeAt

theorem got_take (y : Clk) (v : Int) (b : Bool) (e : Int) : ((gotC y v b e).drop 0).take 13 = y.cells := rfl
/-- Something that happens to a clock. -/
structure Tn where
  (kd cp rd : Int)
def Tn.cells (a : Tn) : List Value := [.int .u8 a.kd, .int .u8 a.cp, .int .i64 a.rd]
structure Tn.wf (a : Tn) : Prop where
  kd : 0 ≤ a.kd ∧ a.kd ≤ 255
  cp : 0 ≤ a.cp ∧ a.cp ≤ 255
  rd : i64 a.rd
instance : Inhabited Tn := ⟨⟨0, 0, 0⟩⟩
section
variable {H : Type} {enc : TypeId × Value → H} {W : World} {r : Reach} {b0 : Nat} {v : Value} {d : DataW H} {p : List MemPlace}
theorem io_trod {n : Nat} {cs : List Value} {y : DataW H × List MemPlace} (h : DataW.trod enc Try.prog W 0 (fun _ => true) true n 46 cs = some y) : ∃ (inn : Bool) (p v : Int), cs = [.bool inn, .int .i64 p, .int .u32 v] ∧ i64 p ∧ Tm.isE v := by
  obtain ⟨y0, y1, y2, m, _, hl, k0, k1, k2⟩ := Deep.trod_struct3 Try.underlying46 h
  rw [show Try.prog.cellsOf 4 = 1 by kernel_rfl] at k0
  rw [show Try.prog.cellsOf 3 = 1 by kernel_rfl] at k1
  rw [show Try.prog.cellsOf 31 = 1 by kernel_rfl] at k2
  rw [show Try.prog.cellsOf 46 = 3 by kernel_rfl] at hl
  obtain ⟨z0, e0, _⟩ := DataW.trod_bool Try.underlying4 k0
  obtain ⟨z1, e1, _, w1⟩ := DataW.trod_int Try.underlying3 k1
  obtain ⟨z2, e2, _, w2⟩ := DataW.trod_int Try.underlying31 k2
  have a0 : IntKind.i64.min = -9223372036854775808 := rfl
  have a1 : IntKind.i64.max = 9223372036854775807 := rfl
  have a2 : IntKind.u32.min = 0 := rfl
  have a3 : IntKind.u32.max = 4294967295 := rfl
  simp only [Lit.wf, Bool.and_eq_true, decide_eq_true_eq] at w1 w2
  refine ⟨z0, z1, z2, ?_, ⟨by omega, by omega⟩, ⟨by omega, by omega⟩⟩
  match cs, hl with
  | [a, b, c], _ =>
    simp at e0 e1 e2
    rw [e0, e1, e2]
theorem io_open (hv : Value.okWide Try.prog W r b0 46 v) (h : DataW.Trod enc Try.prog W 0 (fun _ => true) true 46 v d p) : ∃ (inn : Bool) (q u : Int), v = .agg #[.bool inn, .int .i64 q, .int .u32 u] ∧ i64 q ∧ Tm.isE u := by
  obtain ⟨cs, rfl, hsz⟩ := okWide_struct Try.underlying46 hv
  obtain ⟨fuel, hf⟩ := h
  obtain ⟨inn, q, u, h3, h4⟩ := io_trod hf
  refine ⟨inn, q, u, ?_, h4⟩
  have h5 : cs.toList = [.bool inn, .int .i64 q, .int .u32 u] := h3
  rw [← h5]
theorem tn_trod {n : Nat} {cs : List Value} {y : DataW H × List MemPlace} (h : DataW.trod enc Try.prog W 0 (fun _ => true) true n 57 cs = some y) : ∃ a : Tn, cs = a.cells ∧ a.wf := by
  obtain ⟨y0, y1, y2, m, _, hl, k0, k1, k2⟩ := Deep.trod_struct3 Try.underlying57 h
  rw [show Try.prog.cellsOf 5 = 1 by kernel_rfl] at k0 k1
  rw [show Try.prog.cellsOf 3 = 1 by kernel_rfl] at k2
  rw [show Try.prog.cellsOf 57 = 3 by kernel_rfl] at hl
  obtain ⟨z0, e0, _, w0⟩ := DataW.trod_int Try.underlying5 k0
  obtain ⟨z1, e1, _, w1⟩ := DataW.trod_int Try.underlying5 k1
  obtain ⟨z2, e2, _, w2⟩ := DataW.trod_int Try.underlying3 k2
  have a0 : IntKind.i64.min = -9223372036854775808 := rfl
  have a1 : IntKind.i64.max = 9223372036854775807 := rfl
  have a2 : IntKind.u8.min = 0 := rfl
  have a3 : IntKind.u8.max = 255 := rfl
  simp only [Lit.wf, Bool.and_eq_true, decide_eq_true_eq] at w0 w1 w2
  refine ⟨⟨z0, z1, z2⟩, ?_, ⟨(show 0 ≤ z0 ∧ z0 ≤ 255 by omega), (show 0 ≤ z1 ∧ z1 ≤ 255 by omega), (show i64 z2 from ⟨by omega, by omega⟩)⟩⟩
  match cs, hl with
  | [a, b, c], _ =>
    simp at e0 e1 e2
    rw [e0, e1, e2]
    rfl
def Tx (l : List Tn) : List Value := l.flatMap Tn.cells
theorem Tx_len (l : List Tn) : (Tx l).length = l.length * 3 := by
  induction l with
  | nil => rfl
  | cons w r ih =>
    show (w.cells ++ Tx r).length = _
    rw [List.length_append, ih]
    simp [Tn.cells]
    omega
theorem Tx_at : ∀ (l : List Tn) (i : Nat) (hi : i < l.length) (j : Nat), j < 3 → (Tx l)[i * 3 + j]? = (l[i].cells)[j]? := by
  intro l
  induction l with
  | nil => intro i hi; simp at hi
  | cons w r ih =>
    intro i hi j hj
    show (w.cells ++ Tx r)[i * 3 + j]? = _
    cases i with
    | zero => rw [Nat.zero_mul, Nat.zero_add, List.getElem?_append_left (by simpa [Tn.cells] using hj)]; rfl
    | succ i =>
      rw [List.getElem?_append_right (by simp [Tn.cells]; omega), show (i + 1) * 3 + j - (w.cells).length = i * 3 + j by simp [Tn.cells]; omega]
      exact ih i (by simpa using hi) j hj
theorem turns_open (hv : Value.okWide Try.prog W r b0 55 v) (h : DataW.Trod enc Try.prog W 0 (fun _ => true) true 55 v d p) : ∃ A n c l, v = .slice A n c ∧ n ≤ c ∧ c ≤ maxLen ∧ Sl W 3 A n (Tx l) ∧ l.length = n ∧ ∀ a ∈ l, a.wf := by
  obtain ⟨a0, len, cap, rfl⟩ := okWide_slice Try.underlying55 hv
  obtain ⟨fuel, hf⟩ := h
  have hct : Try.prog.cellsOf 57 = 3 := by kernel_rfl
  rcases Deep.open_slice Try.underlying55 hf with ⟨hcs, hx⟩ | ⟨a, len', cap', m, n, D, Pl, hcs, _, hl, hm, hmm, hx, hel⟩
  · simp [Value.cells] at hcs
    obtain ⟨rfl, rfl, rfl⟩ := hcs
    exact ⟨none, 0, 0, [], rfl, Nat.le_refl _, Nat.zero_le _, Sl.nil _ _ _, rfl, fun x hx => by cases hx⟩
  · simp [Value.cells] at hcs
    obtain ⟨rfl, rfl, rfl⟩ := hcs
    simp only [if_true] at hmm
    have each : ∀ i, i < len → ∃ w : Tn, w.wf ∧ ∀ j, j < 3 → W.cell? ((a.add (i * 3)).add j) = w.cells[j]? := by
      intro i hi
      obtain ⟨cs', h3, h4⟩ := hel i (by omega)
      rw [hct] at h3
      obtain ⟨w, rfl, h5⟩ := tn_trod h4
      exact ⟨w, h5, (cells_at h3).2⟩
    obtain ⟨f, hfl⟩ := Deep.choose_lt each
    refine ⟨some a, len, cap, (List.range len).map f, rfl, hl, hm, ⟨by rw [Tx_len]; simp, fun hn => ⟨a, rfl, ?_, ?_⟩⟩, by simp, fun w hw => ?_⟩
    · have h3 := (hfl 0 hn).2 0 (by omega)
      have h4 := World.block_lt_of_cell? W _ (h3.trans (show ((f 0).cells)[0]? = some _ from rfl))
      rwa [addr_add_block, addr_add_block] at h4
    · intro j y hy
      have hj : j < len * 3 := by
        rcases Nat.lt_or_ge j (len * 3) with h | h
        · exact h
        · rw [List.getElem?_eq_none (by rw [Tx_len]; simpa using h)] at hy; cases hy
      have h3 := (hfl (j / 3) (by omega)).2 (j % 3) (by omega)
      rw [addr_add_add, show j / 3 * 3 + j % 3 = j by omega] at h3
      rw [h3]
      have h4 := Tx_at ((List.range len).map f) (j / 3) (by simp; omega) (j % 3) (by omega)
      rw [show j / 3 * 3 + j % 3 = j by omega] at h4
      rw [← hy, h4]
      simp
    · obtain ⟨i, hi, rfl⟩ := List.mem_map.1 hw
      exact (hfl i (by simpa using hi)).1
end
theorem run_loadAt_addr {P : Program} (w : World) (ad : Addr) (ty : TypeId) (cs : List Value) (d : TypeDesc) (hc : ∀ j v, cs[j]? = some v → w.cell? (ad.add j) = some v)
    (hu : P.underlying ty = some d) (hd : d.isRow = true) (hi : (P.info? ty).map (·.size) = some cs.length) :
    (Instr.loadAt ty (.pointer (some ad))).run P w = .ok (.agg cs.toArray) w := by
  have hl : (loadCells ad cs.length).run P w = .ok cs.toArray w := run_loadCells_list (P := P) w ad cs hc
  cases hq : P.info? ty with
  | none => simp [hq] at hi
  | some i =>
    have hs : i.size = cs.length := by simpa [hq] using hi
    have hagg : (isAgg ty).run P w = .ok true w := by
      unfold isAgg
      rw [Sem.run_bind, run_underlying hu w]
      cases d <;> simp_all
    simp [Instr.loadAt, Instr.sureAddr, loadVar, Sem.run_bind, hagg, sizeOf, typeInfo, hq, hs, hl]
theorem wpList_load_addr {P : Program} {ops : Array Oper} {rest : List Oper} {o : Oper} {a : Act} {w : World} {Q : Exit → Act → World → Prop} (hgd : o.guard = none) (ty : TypeId) (x : Operand) (ho : o.op = .load ty x)
    (ad : Addr) (cs : List Value) (d : TypeDesc) (hx : a.eval x = .pointer (some ad)) (hc : ∀ j v, cs[j]? = some v → w.cell? (ad.add j) = some v)
    (hu : P.underlying ty = some d) (hd : d.isRow = true) (hi : (P.info? ty).map (·.size) = some cs.length)
    (h : wpList P ops Q rest (a.put o.dst (.agg cs.toArray)) w) : wpList P ops Q (o :: rest) a w := by
  refine wpList_plain hgd fun K hK => ?_
  have hrun := run_loadAt_addr (P := P) w ad ty cs d hc hu hd hi
  unfold Oper.wp execOp
  simp only [ho, hx, Sem.run_bind, hrun, Sem.run_pure, Result.andThen_ok]
  exact hK _ _ h
end Go.Proofs.Ytdohocbpjpnmeaa
