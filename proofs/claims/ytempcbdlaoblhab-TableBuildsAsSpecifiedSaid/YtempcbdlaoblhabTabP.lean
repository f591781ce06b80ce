/-
  THE WALK OF List.
-/
import Derived.Test.YtempcbdlaoblhabTabO
namespace Go.Proofs.Ytempcbdlaoblhab
open Go.RowKit Go.ChangeShapes Go.WideShapes Go.ChangeAt
attribute [local go_sem] Oper.semAt_some

def Mgs (l : List Mg) : List Value := l.flatMap mgC
theorem Mgs_len (l : List Mg) : (Mgs l).length = l.length * 3 := by
  induction l with
  | nil => rfl
  | cons x r ih =>
    show (mgC x ++ Mgs r).length = _
    rw [List.length_append, ih]
    simp [mgC]
    omega
theorem Mgs_snoc (l : List Mg) (x : Mg) : Mgs (l ++ [x]) = Mgs l ++ mgC x := by unfold Mgs; rw [List.flatMap_append]; simp
theorem mg_one (x : Mg) : ∀ u ∈ mgC x, u.oneCell' = true := by
  intro u hu
  simp only [mgC, List.mem_cons, List.not_mem_nil, or_false] at hu
  rcases hu with rfl | rfl | rfl <;> rfl
theorem mg_info : (Try.prog.info? 65).map (fun i => (i.zero, i.size, i.bytes)) = some (some (.agg #[.int .u32 0, .int .u32 0, .int .i64 0]), 3, 16) := by kernel_rfl
theorem mappings_any (root : Int) (A : Option Addr) (n c : Nat) (w : World) : Calls Try.prog 58 #[.agg #[.slice A n c], .int .u32 root] w fun e w' => e = .returned (.func (.func 78) #[] #[.pointer (some ⟨w.heap.size, 0, none⟩), .pointer (some ⟨w.heap.size + 1, 0, none⟩)]) ∧
    w' = (w.alloc (.cells #[.slice A n c] 24)).alloc (.cells #[.int .u32 root] 25) := by
  have hmf : ∀ (fn : Fn) (first cap : Array Value) (w : World), (Instr.makeFunc fn first cap).run Try.prog w = .ok (.func fn first cap) w := fun _ _ _ _ => rfl
  go_enter Try.func58, Try.ntmps58
  go_wp2
  go_ret
  exact ⟨rfl, rfl⟩
theorem mappings_stops (m n₀ B k1 k2 : Nat) (exs : List Nat) (root : Int) (A : Option Addr) (n c : Nat) (b : Wm.Bs) (w : World) (hm : 12 ≤ m) (hb : Wm.isBs b) (hn1 : 1 ≤ n) (hn : n ≤ 64) (hr0 : 0 ≤ root) (hr1 : root < 4294967296) (hw : Mw w n₀ B exs k1 k2 root A n c b) :
    SeqO Fence.wide m Try.prog 78 #[.pointer (some ⟨k1, 0, none⟩), .pointer (some ⟨k2, 0, none⟩)] encM (Kq n₀ B exs) (fun ys => ys = Tm.lst n b root) (fun _ => True) 1024 w := fun l J Jx W hW hJ hJx hY hl h0 =>
  mappings1_in m l n₀ B k1 k2 exs root A n c b J Jx W hm hb hn1 hn hr0 hr1 hY hJ hJx hl
    ⟨(hW.block _ hw.e1.lt).trans hw.e1, (hW.block _ hw.e2.lt).trans hw.e2, hw.g1, hw.g2, fun e he => Nat.lt_of_lt_of_le (hw.hx e he) hW.size, Nat.le_trans hw.hn hW.size, Nat.le_trans hw.hB hW.size, hw.hs.keep hW, hw.hA⟩ h0
/-- What an append to a row of mappings, and a store to the box that holds it, leave. -/
theorem kq_app {Y w1 : World} {n₀ B bx : Nat} {v v' : Value} {k : Nat} {xs : List Value} {tmp : Obj} (hrow : Y.ownsRow n₀ 65 3 v k xs) (hgrow : (Y.alloc tmp).grownBy w1 v.ownBlock) (hb : Below n₀ Y (w1.setCell ⟨bx, 0, none⟩ v')) (hx : bx < B) :
    Kq n₀ B [] Y (w1.setCell ⟨bx, 0, none⟩ v') := by
  refine ⟨hb, fun i o hi _ ho hno => ?_⟩
  have hlt := (Array.getElem?_eq_some_iff.1 ho).1
  have h1 : (w1.setCell ⟨bx, 0, none⟩ v').heap[i]? = w1.heap[i]? := Below.heap_setCell _ _ _ i (by show i ≠ bx; omega)
  have h2 : (Y.alloc tmp).heap[i]? = some o := (Below.heap_alloc _ _ _ hlt).trans ho
  rw [h1, hgrow.block i (by simp; omega) (fun e => ?_)]
  · exact h2
  · rcases hrow.2 with ⟨rfl, _⟩ | ⟨g, cap, cur, rfl, _, hg, _⟩
    · simp [Value.ownBlock] at e
    · have e2 : i = g := by simpa [Value.ownBlock] using e
      rw [e2, hg] at ho
      cases ho
      exact hno cur (0, 0) rfl
set_option maxRecDepth 100000 in
set_option maxHeartbeats 4000000 in
theorem tlist_any (A : Option Addr) (n c : Nat) (root : Int) (b : Wm.Bs) (w : World) (hs : Sl w 128 A n (U b)) (hb : Wm.isBs b) (hn1 : 1 ≤ n) (hn : n ≤ 64) (hr0 : 0 ≤ root) (hr1 : root < 4294967296) :
    Calls Try.prog 22 #[.agg #[.slice A n c], .int .u32 root] w fun e w' => ∃ L k, e = .returned (.slice L (Tm.lst n b root).length k) ∧ Sl w' 3 L (Tm.lst n b root).length (Mgs (Tm.lst n b root)) ∧ Later w w' := by
  obtain ⟨i0, hi, hz0, hz1, hz2⟩ := info_parts mg_info
  have HM := Lib.hid fun w' => mappings_any root A n c w'
  have hA : ∀ ad, A = some ad → ad.block < w.heap.size := fun ad e => by
    obtain ⟨ad', e', hlt, _⟩ := hs.2 (by omega)
    rw [e'] at e
    cases e
    exact hlt
  obtain ⟨m, hm⟩ : ∃ m : Nat, 14 ≤ m := ⟨20, by omega⟩
  refine (callsIn_wide (n := m)).1 ?_
  refine callsIn_of_wp_marks Try.func22 rfl trivial ?_ rfl
  simp only [Try.ntmps22, List.size_toArray, List.length_cons, List.length_nil, Nat.reduceAdd, Nat.reduceSub, Array.replicate_succ, Array.replicate_zero, List.push_toArray, List.append_toArray, List.nil_append, List.cons_append]
  gi_wp2_with (first
    | (refine ⟨trivial, fun h => (by cases h), ?_⟩; gi_at_call 58; refine (callsIn_wide.2 (HM.out _)).mono ?_; rintro e w' ⟨rfl, hw2⟩; subst hw2))
  obtain ⟨W2, hW2⟩ : ∃ W2, W2 = ((((w.alloc (.cells #[.slice A n c] 24)).alloc (.cells #[.slice none 0 0] 52)).alloc (.cells #[.slice A n c] 24)).alloc (.cells #[.int .u32 root] 25)) := ⟨_, rfl⟩
  have l2 : Later w W2 := by rw [hW2]; exact (((later1 _ _).alloc (by simp) _).alloc (by simp; omega) _).alloc (by simp; omega) _
  have z2 : W2.heap.size = w.heap.size + 4 := by rw [hW2]; simp
  have bO : Boxed W2 (w.heap.size + 1) 52 (.slice none 0 0) := by
    rw [hW2]
    have h := Boxed.new (w.alloc (.cells #[.slice A n c] 24)) 52 (.slice none 0 0)
    rw [World.size_alloc] at h
    exact (h.alloc _).alloc _
  have b1 : Boxed W2 (w.heap.size + 2) 24 (.slice A n c) := by
    rw [hW2]
    have h := Boxed.new ((w.alloc (.cells #[.slice A n c] 24)).alloc (.cells #[.slice none 0 0] 52)) 24 (.slice A n c)
    rw [World.size_alloc, World.size_alloc] at h
    exact h.alloc _
  have b2 : Boxed W2 (w.heap.size + 3) 25 (.int .u32 root) := by
    rw [hW2]
    have h := Boxed.new (((w.alloc (.cells #[.slice A n c] 24)).alloc (.cells #[.slice none 0 0] 52)).alloc (.cells #[.slice A n c] 24)) 25 (.int .u32 root)
    rw [World.size_alloc, World.size_alloc, World.size_alloc] at h
    exact h
  have hzz : (((w.alloc (.cells #[.slice A n c] 24)).alloc (.cells #[.slice none 0 0] 52))).heap.size = w.heap.size + 2 := by simp
  clear hzz
  rw [← hW2]
  clear hW2
  refine loop_q (F := Fence.wide) rfl (by omega) (gf := 78) (lb := #[.pointer (some ⟨w.heap.size + 2, 0, none⟩), .pointer (some ⟨w.heap.size + 3, 0, none⟩)]) rfl trivial (enters_of Try.func78 (by kernel_rfl) rfl) (n₀ := w.heap.size + 1) (B := w.heap.size + 2) (ex := []) (by omega)
    (fun V hV hz => mappings_stops (m - 1) (w.heap.size + 1) (w.heap.size + 2) (w.heap.size + 2) (w.heap.size + 3) [W2.heap.size + 1] root A n c b V (by omega) hb hn1 hn hr0 hr1
      ⟨(hV.block _ b1.lt).trans b1, (hV.block _ b2.lt).trans b2, ⟨by omega, fun h => by have := List.mem_singleton.1 h; omega⟩, ⟨by omega, fun h => by have := List.mem_singleton.1 h; omega⟩, fun e he => by have := List.mem_singleton.1 he; omega, by omega, by omega, hs.keep (l2.trans (hV.mono l2.size)), fun ad e => by have := hA ad e; omega⟩)
    (fun _ => rfl)
    (fun pre Y => (∃ v, Boxed Y (w.heap.size + 1) 52 v ∧ Y.ownsRow (w.heap.size + 1) 65 3 v pre.length (Mgs pre) ∧ True) ∧ Below w.heap.size w Y)
    (fun _ _ _ => False)
    (OwnFrom.and (Own.from (holdsRow_own (w.heap.size + 1) (w.heap.size + 1) 52 65 3 (fun pre : List Mg => pre.length) (fun pre => Mgs pre) (fun _ _ => True)) _) (ownFrom_below (Nat.le_refl _) (by omega)))
    (fun _ _ _ _ _ hs' _ _ => hs')
    ⟨⟨_, bO, World.ownsRow_nil _ _ _ _, trivial⟩, l2⟩
    (fun x a' V => ∃ Bx, Blk V Bx 65 (mgC x) ∧ a' = { tmps := #[.agg #[.slice A n c], .int .u32 root, .pointer (some ⟨w.heap.size, 0, none⟩), undef, .slice none 0 0, .pointer (some ⟨w.heap.size + 1, 0, none⟩), .pointer (some ⟨Bx, 0, none⟩), .agg #[.slice A n c], .int .u32 root, .func (.func 78) #[] #[.pointer (some ⟨w.heap.size + 2, 0, none⟩), .pointer (some ⟨w.heap.size + 3, 0, none⟩)], .agg (mgC x).toArray, undef, undef, undef, undef, undef], defers := [] })
    (fun y a'' _ V Y row hs' hg hr => by obtain ⟨Bx, h1, h2⟩ := hs'; exact ⟨Bx, (hg.block Bx h1.lt (fun e => by obtain ⟨o, ho, hc⟩ := (hr Bx e.symm).2; rw [show V.heap[Bx]? = _ from h1] at ho; cases ho; cases hc)).trans h1, h2⟩)
    ?assign ?body ?done ?stop
  case assign =>
    rintro l' pre x V K ⟨⟨v, hv1, hv2, _⟩, hv3⟩ hK
    unfold encM mgC
    gi_wp2
    exact hK _ _ ((KeepsOthers.alloc _ _).from _) (Kq.later (later1 _ _) (by have := hv1.lt; omega)) ⟨⟨v, hv1.alloc _, hv2.alloc _, trivial⟩, hv3.alloc hv3.size _⟩ ⟨V.heap.size, Blk.new _ _ _ _ rfl, rfl⟩
  case body =>
    rintro l' pre x a' Y hl' _ ⟨⟨v, bv, ov, _⟩, hbY⟩ ⟨Bx, hBx, rfl⟩ hlen
    have cv := bv.cell
    have fv := bv.frozen
    have d0 := hBx.cell (j := 0) (v := .int .u32 x.1.1) rfl
    have d1 := hBx.cell (j := 1) (v := .int .u32 x.1.2.1) rfl
    have d2 := hBx.cell (j := 2) (v := .int .i64 x.1.2.2) rfl
    have hYl := bv.lt
    have hpl := hlen
    obtain ⟨q, hq⟩ : ∃ q, q = pre.length := ⟨_, rfl⟩
    rw [← hq] at ov hpl
    have HQ := Lib.hid hq
    clear hq
    gi_wp2_with (first
      | (gi_at_builtin; refine wpListIn_append_own _ rfl _ _ 52 rfl (w.heap.size + 1) 65 i0 _ 3 16 Try.underlying52 hi hz0 hz1 hz2 rfl (by decide) v q (Mgs pre) rfl (ov.alloc _) ⟨Y.heap.size, 0, none⟩ 1 1 (mgC x) rfl rfl (news_blk (Blk.new Y _ _ _ rfl)) (mg_one x) (by unfold maxLen; omega) (by omega) (by simp; omega) ?_; intro v' w1 hown' hgrow _; obtain ⟨g', cap', rfl⟩ := ownsRow_succ hown'; obtain ⟨hv1, hv2, hr2, hk2, hb2⟩ := bv.appended (by decide) ov (by omega) (Nat.le_refl _) hown' hgrow; have hc1 := hv1.cell; have hf1 := hv1.frozen))
    have kq := kq_app (B := w.heap.size + 2) ov hgrow hb2 (by omega)
    exact ⟨hk2.from _, kq, ⟨⟨_, hv2, by rw [List.length_append, List.length_singleton, ← HQ.out, Mgs_snoc]; exact hr2, trivial⟩, hbY.trans (hb2.mono (show w.heap.size ≤ w.heap.size + 1 by omega))⟩⟩
  case done =>
    rintro D ys Y hD rfl ⟨⟨v, bv, ov, _⟩, hbY⟩ hK
    have cv := bv.cell
    gi_wp2
    refine ⟨by simp, .inl ⟨_, _, rfl, run_takeDeferred hK, ?_⟩⟩
    have ov2 := ownsRow_putObj ov (.deferred none) hK rfl
    obtain ⟨L, k, rfl, _, _, hsl, _⟩ := own_form ov2
    exact ⟨_, results_tmp rfl _ _ _, L, k, rfl, hsl, hbY.trans (below_put _ hK (by omega))⟩
  case stop =>
    rintro D c pre Y _ _ h _
    exact h.elim
end Go.Proofs.Ytempcbdlaoblhab
