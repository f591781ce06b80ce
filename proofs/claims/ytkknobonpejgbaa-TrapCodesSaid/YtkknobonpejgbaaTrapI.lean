/-
  PROCESSORS: what the laws need: processors compared, a processor as an argument, its registers loaded whole.
-/
import Derived.Test.YtkknobonpejgbaaTrapH
import Derived.Laws.StructEq
import Derived.ChangeKeysEq
namespace Go.Proofs.Ytkknobonpejgbaa
open Go.RowKit Go.ChangeShapes Go.WideShapes Go.ChangeAt

def Cpu.regs (x : Cpu) : List Value := [.int .u32 x.r0, .int .u32 x.r1, .int .u32 x.r2, .int .u32 x.r3, .int .u32 x.r4, .int .u32 x.r5, .int .u32 x.r6, .int .u32 x.r7, .int .u32 x.r8, .int .u32 x.r9, .int .u32 x.r10, .int .u32 x.r11, .int .u32 x.r12, .int .u32 x.r13, .int .u32 x.r14, .int .u32 x.r15]
theorem items_refl {P : Program} (d : Nat) (e : TypeId) (c : Nat) (xs : Array Value) (w : World) : ∀ is : List Nat, (∀ i ∈ is, ∃ v, (part e xs (i * c)).run P w = .ok v w ∧ (Op.equalIn d e v v).run P w = .ok true w) → (Op.eqItems d e c xs xs is).run P w = .ok true w
  | [], _ => by simp [Op.eqItems]
  | i :: is, h => by
    obtain ⟨v, h1, h2⟩ := h i (by simp)
    simp only [Op.eqItems, Sem.run_bind, h1, h2, Result.andThen_ok]
    simpa using items_refl d e c xs w is (fun j hj => h j (by simp [hj]))
theorem fields_refl {P : Program} (d : Nat) (xs : Array Value) (w : World) : ∀ fs : List Field, (∀ f ∈ fs, f.name ≠ "_" ∧ ∃ v, (part f.type xs f.offset).run P w = .ok v w ∧ (Op.equalIn d f.type v v).run P w = .ok true w) → (Op.eqFields d xs xs fs).run P w = .ok true w
  | [], _ => by simp [Op.eqFields]
  | f :: fs, h => by
    obtain ⟨hn, v, h1, h2⟩ := h f (by simp)
    simp only [Op.eqFields, if_pos hn, Sem.run_bind, h1, h2, Result.andThen_ok]
    simpa using fields_refl d xs w fs (fun j hj => h j (by simp [hj]))
theorem eq_u32 (d : Nat) (a : Int) (w : World) : (Op.equalIn (d + 1) 22 (.int .u32 a) (.int .u32 a)).run Try.prog w = .ok true w := by
  rw [run_equalIn_int w d 22 .u32 .u32 a a Try.underlying22]
  simp
set_option maxRecDepth 100000 in
theorem arr_refl (n : Nat) (t : TypeId) (l : List Int) (d : Nat) (w : World) (ht : Try.prog.underlying t = some (.array n 22)) (hl : l.length = n) : (Op.equalIn (d + 1 + 1) t (.agg (l.map (Value.int .u32)).toArray) (.agg (l.map (Value.int .u32)).toArray)).run Try.prog w = .ok true w := by
  obtain ⟨i, hi⟩ := Option.isSome_iff_exists.1 (show (Try.prog.info? 22).isSome = true by kernel_rfl)
  rw [run_equalIn_array w (d + 1) _ _ ht hi, show Try.prog.cellsOf 22 = 1 by kernel_rfl]
  refine items_refl _ _ _ _ w _ fun j hj => ?_
  have hj' : j < l.length := by rw [hl]; exact List.mem_range.1 hj
  refine ⟨.int .u32 l[j], ?_, eq_u32 d _ w⟩
  have hag : (isAgg 22).run Try.prog w = .ok false w := by kernel_rfl
  have hc : (l.map (Value.int .u32)).toArray[j * 1]? = some (.int .u32 l[j]) := by simp [hj']
  simp [part, hag, hj']
set_option maxRecDepth 100000 in
theorem regs_same (x : Cpu) (w : World) : (Op.equalIn 10000 23 (.agg x.regs.toArray) (.agg x.regs.toArray)).run Try.prog w = .ok true w :=
  arr_refl 16 23 [x.r0, x.r1, x.r2, x.r3, x.r4, x.r5, x.r6, x.r7, x.r8, x.r9, x.r10, x.r11, x.r12, x.r13, x.r14, x.r15] 9998 w Try.underlying23 rfl
set_option maxRecDepth 100000 in
theorem cpu_same (x : Cpu) (w : World) : (Op.equalIn 10000 26 (.agg x.cells.toArray) (.agg x.cells.toArray)).run Try.prog w = .ok true w := by
  obtain ⟨fs, hfs, hu⟩ : ∃ fs, Try.prog.fieldsOf 26 = fs ∧ Try.prog.underlying 26 = some (.struct fs) := ⟨_, by kernel_rfl, Try.underlying26⟩
  rw [run_equalIn_struct w 9999 _ _ _ (by rw [hfs]; exact hu) (by kernel_rfl), hfs]
  have hfs2 := hu.symm.trans Try.underlying26
  injection hfs2 with h1
  injection h1 with h2
  subst h2
  refine fields_refl _ _ w _ fun f hf => ?_
  simp only [List.mem_cons, List.not_mem_nil, or_false] at hf
  rcases hf with rfl | rfl | rfl | rfl | rfl | rfl | rfl
  · exact ⟨by decide, .int .u32 x.pc, by kernel_rfl, eq_u32 9998 _ w⟩
  · exact ⟨by decide, .agg x.regs.toArray, by kernel_rfl, arr_refl 16 23 [x.r0, x.r1, x.r2, x.r3, x.r4, x.r5, x.r6, x.r7, x.r8, x.r9, x.r10, x.r11, x.r12, x.r13, x.r14, x.r15] 9997 w Try.underlying23 rfl⟩
  · exact ⟨by decide, .agg #[.int .u32 x.c0, .int .u32 x.c1, .int .u32 x.c2, .int .u32 x.c3, .int .u32 x.c4, .int .u32 x.c5, .int .u32 x.c6, .int .u32 x.c7, .int .u32 x.c8], by kernel_rfl, arr_refl 9 24 [x.c0, x.c1, x.c2, x.c3, x.c4, x.c5, x.c6, x.c7, x.c8] 9997 w Try.underlying24 rfl⟩
  · exact ⟨by decide, .bool x.u, by kernel_rfl, by rw [run_equalIn_bool w 9998 4 x.u x.u Try.underlying4]; simp⟩
  · exact ⟨by decide, .bool x.wt, by kernel_rfl, by rw [run_equalIn_bool w 9998 4 x.wt x.wt Try.underlying4]; simp⟩
  · exact ⟨by decide, .bool x.hl, by kernel_rfl, by rw [run_equalIn_bool w 9998 4 x.hl x.hl Try.underlying4]; simp⟩
  · exact ⟨by decide, .int .i64 x.cn, by kernel_rfl, by rw [run_equalIn_int w 9998 3 .i64 .i64 x.cn x.cn Try.underlying3]; simp⟩
theorem regs_sz (x : Cpu) : (Try.prog.info? 23).map (·.size) = some x.regs.length := by
  show _ = some 16
  kernel_rfl
/-- A processor's numbers are numbers. -/
def Cpu.wf (x : Cpu) : Prop := w32 [x.pc, x.r0, x.r1, x.r2, x.r3, x.r4, x.r5, x.r6, x.r7, x.r8, x.r9, x.r10, x.r11, x.r12, x.r13, x.r14, x.r15, x.c0, x.c1, x.c2, x.c3, x.c4, x.c5, x.c6, x.c7, x.c8] ∧ -9223372036854775808 ≤ x.cn ∧ x.cn ≤ 9223372036854775807
theorem Cpu.wf.c5 {x : Cpu} (h : x.wf) : Tm.isE x.c5 := by
  have := h.1 x.c5 (by simp)
  exact ⟨this.1, by omega⟩
section
variable {H : Type} {enc : TypeId × Value → H} {W : World} {r : Reach} {b0 : Nat} {v : Value} {d : DataW H} {p : List MemPlace}
theorem cpu_open (hv : Value.okWide Try.prog W r b0 26 v) (h : DataW.Trod enc Try.prog W 0 (fun _ => true) true 26 v d p) : ∃ x : Cpu, v = .agg x.cells.toArray ∧ x.wf := by
  obtain ⟨pc, r0, r1, r2, r3, r4, r5, r6, r7, r8, r9, r10, r11, r12, r13, r14, r15, c0, c1, c2, c3, c4, c5, c6, c7, c8, u, wt, hl, cn, rfl, h1, h2, h3⟩ := cpu_arg (tu := 22) (tr := 23) (tc := 24) (tb := 4) (ti := 3) Try.underlying26 rfl Try.underlying22 Try.underlying23 Try.underlying24 Try.underlying4 Try.underlying3 (by kernel_rfl) (by kernel_rfl) (by kernel_rfl) (by kernel_rfl) (by kernel_rfl) (by kernel_rfl) hv h
  exact ⟨⟨pc, r0, r1, r2, r3, r4, r5, r6, r7, r8, r9, r10, r11, r12, r13, r14, r15, c0, c1, c2, c3, c4, c5, c6, c7, c8, u, wt, hl, cn⟩, rfl, h1, h2, h3⟩
end
/-- A guarded load out of the midst of a block. -/
theorem wpList_load_atg {P : Program} {ops : Array Oper} {rest : List Oper} {o : Oper} {a : Act} {w : World} {Q : Exit → Act → World → Prop} (ty : TypeId) (x : Operand) (ho : o.op = .load ty x)
    (g off n : Nat) (t : TypeId) (all cs : List Value) (d : TypeDesc) (hw : Region.wanted o (yielded ops a.tmps) = true) (hx : a.eval x = .pointer (some ⟨g, off, none⟩)) (hg : Blk w g t all) (hcs : (all.drop off).take n = cs)
    (hu : P.underlying ty = some d) (hd : d.isRow = true) (hi : (P.info? ty).map (·.size) = some cs.length)
    (h : wpList P ops Q rest (a.put o.dst (.agg cs.toArray)) w) : wpList P ops Q (o :: rest) a w :=
  wpList_step fun K hK => by
    rw [hw, if_pos rfl]
    exact wp_load_mid ty x ho g off hx cs d (by rw [← hcs]; exact hg.range off n) hu hd hi (hK _ _ h)
theorem okC_parts {r0 c5 c7 c8 : Int} {wt hl : Bool} {cn : Int} (h : okC r0 c5 c7 c8 wt hl cn = true) : r0 = 0 ∧ c5 ≤ 7 ∧ c7 = 0 ∧ c8 < 4 ∧ 0 ≤ cn ∧ cn ≤ 1099511627776 ∧ (wt && hl) = false := by
  unfold okC at h
  simp only [Bool.and_eq_true, decide_eq_true_eq, Bool.not_eq_true'] at h
  exact ⟨h.1, h.2.1, h.2.2.1, h.2.2.2.1, h.2.2.2.2.1, h.2.2.2.2.2.1, h.2.2.2.2.2.2⟩
theorem okC_mk {r0 c5 c7 c8 : Int} {wt hl : Bool} {cn : Int} (h0 : r0 = 0) (h1 : c5 ≤ 7) (h2 : c7 = 0) (h3 : c8 < 4) (h4 : 0 ≤ cn) (h5 : cn ≤ 1099511627776) (h6 : (wt && hl) = false) : okC r0 c5 c7 c8 wt hl cn = true := by
  unfold okC
  simp only [Bool.and_eq_true, decide_eq_true_eq, Bool.not_eq_true']
  exact ⟨h0, h1, h2, h3, h4, h5, h6⟩
theorem st_e (s t : Bool) : Tm.isE (b32 s 2 + b32 t 4) ∧ b32 s 2 + b32 t 4 ≤ 7 := by cases s <;> cases t <;> (refine ⟨⟨?_, ?_⟩, ?_⟩ <;> decide +kernel)
theorem st_4 (s t : Bool) : Tm.has (b32 s 2 + b32 t 4) 4 = t := by cases s <;> cases t <;> decide +kernel
theorem st_2 (s t : Bool) : Tm.has (b32 s 2 + b32 t 4) 2 = s := by cases s <;> cases t <;> decide +kernel
theorem st_1 (s t : Bool) : Tm.has (b32 s 2 + b32 t 4) 1 = false := by cases s <;> cases t <;> decide +kernel
theorem sr_e (s : Bool) : Tm.isE (b32 s 1 + 2) ∧ b32 s 1 + 2 ≤ 7 := by cases s <;> (refine ⟨⟨?_, ?_⟩, ?_⟩ <;> decide +kernel)
/-- The status, cut to its first bit, with the second. -/
theorem and1 {e : Int} (h : Tm.isE e) : bits .and .u32 e 1 = b32 (Tm.has e 1) 1 := by
  obtain ⟨q, rfl⟩ := Int.eq_ofNat_of_zero_le h.1
  have h2 := h.2
  have e := and_pow q 0 (by omega) (by omega)
  rw [Nat.pow_zero, Nat.div_one] at e
  rw [show (1 : Int) = ((1 : Nat) : Int) from rfl, e]
  unfold Tm.has b32
  by_cases hq : q % 2 = 1
  · rw [if_pos hq, decide_eq_true (by omega)]
    rfl
  · rw [if_neg hq, decide_eq_false (by omega)]
    rfl
end Go.Proofs.Ytkknobonpejgbaa
