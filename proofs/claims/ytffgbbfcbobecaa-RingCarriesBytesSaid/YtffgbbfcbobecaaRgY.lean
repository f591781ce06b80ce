/-
  A RING: the statements' arguments.
-/
import Derived.Test.YtffgbbfcbobecaaRgX
import Derived.Test.YtffgbbfcbobecaaMemArgs
import Derived.ProofKit
import Derived.OpenShut
namespace Go.Proofs.Ytffgbbfcbobecaa
open Go.RowKit Go.ChangeShapes Go.WideShapes Go.ChangeAt

theorem fld_k (x y z : Value) (w : World) : (Instr.field 42 (.agg #[x, y, z]) 1).run Try.prog w = .ok y w := by kernel_rfl
section
variable {H : Type} {enc : TypeId × Value → H} {W : World} {r : Reach} {b0 : Nat} {v : Value} {d : DataW H} {p : List MemPlace}
set_option maxRecDepth 100000 in
theorem ring_open (hv : Value.okWide Try.prog W r b0 27 v) (h : DataW.Trod enc Try.prog W 0 (fun _ => true) true 27 v d p) : ∃ B S : Int, v = .agg #[.int .u32 B, .int .u32 S] ∧ Tm.isE B ∧ Tm.isE S := by
  obtain ⟨cs, rfl, hsz⟩ := okWide_struct Try.underlying27 hv
  obtain ⟨fuel, hf⟩ := h
  obtain ⟨y0, y1, m, _, hl, k0, k1⟩ := trod_struct2 Try.underlying27 hf
  rw [show Try.prog.cellsOf 25 = 1 by kernel_rfl] at k0 k1
  obtain ⟨z0, e0, _, w0⟩ := DataW.trod_int Try.underlying25 k0
  obtain ⟨z1, e1, _, w1⟩ := DataW.trod_int Try.underlying25 k1
  have a0 : IntKind.u32.min = 0 := rfl
  have a1 : IntKind.u32.max = 4294967295 := rfl
  simp only [Lit.wf, Bool.and_eq_true, decide_eq_true_eq] at w0 w1
  refine ⟨z0, z1, ?_, ⟨by omega, by omega⟩, ⟨by omega, by omega⟩⟩
  rw [show Try.prog.cellsOf 27 = 2 by kernel_rfl] at hl
  obtain ⟨l⟩ := cs
  match l, hl with
  | [a, b], _ =>
    have f0 : [a] = [Value.int .u32 z0] := e0
    have f1 : [b] = [Value.int .u32 z1] := e1
    injection f0 with f0
    injection f1 with f1
    rw [f0, f1]
end
/-- An index out of a byte. -/
theorem idx_rng {L : Nat} {B S i : Int} (hok : Rg.Ok L B S) (h0 : 0 ≤ i) : i.tmod S = i % S ∧ 0 ≤ i % S ∧ i % S < S ∧ ¬ S = 0 := by
  have := hok.s
  exact ⟨Int.tmod_eq_emod_of_nonneg h0, Int.emod_nonneg _ (by omega), Int.emod_lt_of_pos _ (by omega), by omega⟩
theorem good_sml {L : Nat} {b : Wm.Bs} {B S : Int} {l : List Rg.Pt} (g : Rg.Good L b B S l) (hb : Wm.isBs b) (hL : L ≤ 8192) : Sml l := by
  refine ⟨g.len, fun p hp => ?_⟩
  obtain ⟨h1, _, h3, h4, h5⟩ := g.is p hp
  have h6 : 0 ≤ p.2.1 := by rw [h1]; exact (Rg.wd_rng hb B p.1 0).1
  exact ⟨h3, h4, h6, by omega⟩
set_option maxRecDepth 100000 in
theorem wp_new_pl {o : Oper} {a : Act} {w : World} {K : Act → World → Prop} {Q : Exit → Act → World → Prop} (ho : o.op = .alloc 39)
    (h : ∀ w' G, Blk w' G 39 [.int .i64 0, .bool false] → Later w w' → w.heap.size ≤ G → K (a.put o.dst (.pointer (some ⟨G, 0, none⟩))) w') : o.wp Try.prog a w K Q := by
  unfold Oper.wp execOp
  simp only [ho]
  go_simp
  exact h _ _ (Blk.new _ _ _ _ rfl) (later1 _ _) (Nat.le_refl _)
set_option maxRecDepth 100000 in
theorem wp_new_tk {o : Oper} {a : Act} {w : World} {K : Act → World → Prop} {Q : Exit → Act → World → Prop} (ho : o.op = .alloc 42)
    (h : ∀ w' G, Blk w' G 42 [.slice none 0 0, .slice none 0 0, .int .i64 0] → Later w w' → w.heap.size ≤ G → K (a.put o.dst (.pointer (some ⟨G, 0, none⟩))) w') : o.wp Try.prog a w K Q := by
  unfold Oper.wp execOp
  simp only [ho]
  go_simp
  exact h _ _ (Blk.new _ _ _ _ rfl) (later1 _ _) (Nat.le_refl _)
set_option maxRecDepth 100000 in
theorem wp_new_mm {o : Oper} {a : Act} {w : World} {K : Act → World → Prop} {Q : Exit → Act → World → Prop} (ho : o.op = .alloc 24)
    (h : ∀ w' G, Blk w' G 24 [.slice none 0 0] → Later w w' → w.heap.size ≤ G → K (a.put o.dst (.pointer (some ⟨G, 0, none⟩))) w') : o.wp Try.prog a w K Q := by
  unfold Oper.wp execOp
  simp only [ho]
  go_simp
  exact h _ _ (Blk.new _ _ _ _ rfl) (later1 _ _) (Nat.le_refl _)
theorem blk_ne {w : World} {B1 B2 : Nat} {t1 t2 : TypeId} {c1 c2 : List Value} (h1 : Blk w B1 t1 c1) (h2 : Blk w B2 t2 c2) (ht : t1 ≠ t2) : B1 ≠ B2 := by
  rintro rfl
  have h := (show w.heap[B1]? = _ from h1).symm.trans h2
  injection h with h
  injection h with _ h _
  exact ht h
theorem sl_ne {w : World} {ad : Addr} {size m B : Nat} {xs cs : List Value} {t : TypeId} (h : Sl w size (some ad) m xs) (hm : 0 < m) (hb : Blk w B t cs) (h0 : 0 < cs.length) (hc : cs.length < size) : ad.block ≠ B := by
  intro e
  obtain ⟨_, e1, _, hcc⟩ := h.2 hm
  cases e1
  have hl : xs.length = m * size := h.1
  have hlt : cs.length < xs.length := by
    rw [hl]
    exact Nat.lt_of_lt_of_le hc (Nat.le_mul_of_pos_left size hm)
  have h1 := hcc cs.length _ (List.getElem?_eq_getElem hlt)
  have h2 : ad.add cs.length = ⟨B, ad.off + cs.length, none⟩ := by rw [← e]; unfold Addr.add; rw [if_neg (by omega)]
  rw [h2] at h1
  have h3 : w.heap[B]? = _ := hb
  unfold World.cell? at h1
  rw [h3] at h1
  simp at h1
end Go.Proofs.Ytffgbbfcbobecaa
