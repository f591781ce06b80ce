/-
  WHAT EVERY STATEMENT OF memory NEEDS: its arguments opened, its end closed.
-/
import Derived.Test.YtidhodalnikhlaaGreatDoorRows
import Derived.Test.YtidhodalnikhlaaGreatDoorVa
import Derived.Deep.Strs
import Derived.ChangeSame
import Derived.WalkKit
import Derived.ProofKit
import Derived.OpenShut
import Derived.SliceStrings
import Derived.Deep.Slices
import Derived.ArgAppend
import Derived.Deep.DeepHandedRow
import Derived.Lib.LaidTab
import Derived.Lib.LaidU8
import Derived.SizedLaws
import Derived.Outline
namespace Go.Proofs.YtidhodalnikhlaaGreatDoor
open Go.RowKit Go.ChangeShapes Go.WideShapes Go.ChangeAt

set_option maxRecDepth 100000 in
def N64 (l : List Int) : List Value := l.map (Value.int .i64)
set_option maxRecDepth 100000 in
def Strs (l : List ByteArray) : List Value := l.map .string
set_option maxRecDepth 100000 in
def inR (l : List Int) : Prop := ∀ x ∈ l, -9223372036854775808 ≤ x ∧ x ≤ 9223372036854775807
set_option maxRecDepth 100000 in
theorem ret_bool {a b : Bool} (h : a = b) : Ending.returned (.bool a) = .returned (.bool b) := by rw [h]
set_option maxRecDepth 100000 in
theorem ownK : ownKnob Tryz.prog.godebug = none := by kernel_rfl
set_option maxRecDepth 100000 in
theorem laidK : laidOutB Tryz.prog = true := by kernel_rfl

section
variable {H : Type} {enc : TypeId × Value → H} {P : Program}
set_option maxRecDepth 100000 in
/-- Arguments read in a later world as they did. -/
theorem all_later (hl : laidOutB P = true) {W W' : World} (hb : Later W W') (sp : Nat → Bool) : ∀ {ts : List TypeId} {vs : List Value} {ds : List (DataW H)} {ps : List MemPlace},
    (ts.all fun t => P.readableRec t && decide (t < P.types.size)) = true → DataW.TrodAll enc P W 0 (fun _ => true) true ts vs ds ps → (∀ x ∈ ps, x.block < W.heap.size) → (∀ x ∈ ps, sp x.block = true) → DataW.TrodAll enc P W' 0 sp true ts vs ds ps := by
  intro ts
  induction ts with
  | nil => intro vs ds ps _ h _ _; obtain ⟨rfl, rfl, rfl⟩ := trodAll_nil h; exact trodAll_mk0
  | cons t ts ih =>
    intro vs ds ps hr h hlt hsp
    obtain ⟨v, vs', d, ds', p, q, rfl, rfl, rfl, h0, h1⟩ := trodAll_cons h
    simp only [List.all_cons, Bool.and_eq_true, decide_eq_true_eq] at hr
    exact trodAll_cons_mk (WideElems.Trod_stays hl hr.1.1 hr.1.2 h0 (fun x hx => hb.same (hlt x (by simp [hx]))) (fun x hx => hsp x (by simp [hx]))) (ih hr.2 h1 (fun x hx => hlt x (by simp [hx])) (fun x hx => hsp x (by simp [hx])))

set_option maxRecDepth 100000 in
/-- The end of every statement: true, and nothing that was there has turned. -/
theorem law_post {f : Func} {s : ChangeSpec} {W W' : World} {args : Array Value} {ds gs : List (DataW H)} {before : List MemPlace} {tb : TypeId} (hl : laidOutB P = true)
    (hv : s.vars = []) (hr : f.resultTypes.toList = [tb]) (hn : f.resultTypes.size = 1) (htb : P.underlying tb = some .bool) (hrows : (f.params.toList.all fun t => P.readableRec t && decide (t < P.types.size)) = true)
    (hW : DataW.Whole enc P f.params.toList s.vars false W args.toList ds gs before) (hs : s.fn H (ds ++ gs) = { results := [.lit (.bool true)], args := ds }) (hb : Later W W') :
    s.post enc P f false true false false W args (.bool true) W' := by
  have hlt : ∀ p ∈ before, p.block < W.heap.size := fun p hp => hW.lt p hp
  have hW0 := hW
  obtain ⟨p, q, hA, hV, rfl, _, _⟩ := hW
  rw [hv] at hV
  obtain ⟨rfl, rfl⟩ := trodVars_none hV
  simp only [List.append_nil] at hlt hW0
  refine ⟨ds, [], p, [], p, [], hW0, ?_, ?_, ?_, World.keptBut_mono (fun x hx => ⟨hx, .inr (.inl hx)⟩) (hb.frame (· ∈ p)), fun h => by cases h⟩
  · rw [hs, hr, hn]
    exact trodAll_mk1 (shut_bool htb _)
  · rw [hs]
    exact all_later hl hb _ hrows hA hlt (fun x hx => by simpa using hlt x hx)
  · rw [hs, hv]
    rfl
end

section
variable {H : Type} {enc : TypeId × Value → H} {P : Program} {W : World} {r : Reach} {b0 : Nat} {v : Value} {d : DataW H} {p : List MemPlace}
end

section
variable {H : Type} {enc : TypeId × Value → H} {P : Program} {W : World} {r : Reach} {b0 : Nat} {v : Value} {d : DataW H} {p : List MemPlace}
end

set_option maxRecDepth 100000 in
theorem flat_lenK {k : Nat} {l : List Wm.Bs} (h : ∀ d ∈ l, d.length = k) : l.flatten.length = l.length * k := by
  induction l with
  | nil => simp
  | cons d r ih => rw [List.flatten_cons, List.length_append, ih (fun x hx => h x (List.mem_cons_of_mem _ hx)), h d List.mem_cons_self, List.length_cons, Nat.add_mul]; omega
set_option maxRecDepth 100000 in
theorem flat_atK {k : Nat} {l : List Wm.Bs} (h : ∀ d ∈ l, d.length = k) : ∀ (i : Nat) (hi : i < l.length) (j : Nat), j < k → l.flatten[i * k + j]? = l[i][j]? := by
  induction l with
  | nil => intro i hi; simp at hi
  | cons d r ih =>
    intro i hi j hj
    have hd := h d List.mem_cons_self
    cases i with
    | zero => rw [List.flatten_cons, Nat.zero_mul, Nat.zero_add, List.getElem?_append_left (by omega)]; simp
    | succ i =>
      rw [List.flatten_cons, List.getElem?_append_right (by rw [hd, Nat.add_mul]; omega), hd, show (i + 1) * k + j - k = i * k + j by rw [Nat.add_mul]; omega]
      exact ih (fun x hx => h x (List.mem_cons_of_mem _ hx)) i (by simpa using hi) j hj
set_option maxRecDepth 100000 in
theorem cells_at {w : World} {base : Nat} {a : Addr} {n : Nat} {cs : List Value} (h : w.cells? base a n = some cs) : cs.length = n ∧ ∀ j, j < n → w.cell? (a.add j) = cs[j]? := by
  unfold World.cells? at h
  split at h
  · refine ⟨by simpa using mapM_some_length h, fun j hj => mapM_some_get h j j (by simp [hj])⟩
  · cases h
section
variable {H : Type} {enc : TypeId × Value → H} {P : Program} {W : World} {r : Reach} {b0 : Nat} {v : Value} {d : DataW H} {p : List MemPlace}
set_option maxRecDepth 100000 in
theorem bytes_open {n : Nat} {w : World} {base fuel : Nat} {sp : Nat → Bool} {held : Bool} {t e : TypeId} {cs : List Value} {x : DataW H × List MemPlace} (ht : P.underlying t = some (.array n e)) (he : P.underlying e = some (.int .u8)) (hc : P.cellsOf e = 1) (hc2 : P.cellsOf t = n)
    (h : DataW.trod enc P w base sp held fuel t cs = some x) : ∃ b : Wm.Bs, b.length = n ∧ Wm.isBs b ∧ cs = U b := by
  obtain ⟨xs, m, _, _, hlen, hxs, hel⟩ := DataW.trod_array ht h
  rw [hc2] at hlen
  rw [hc] at hel
  have each : ∀ i, i < n → ∃ z : Int, cs[i]? = some (.int .u8 z) ∧ 0 ≤ z ∧ z < 256 := by
    intro i hi
    have h1 := hel i hi
    rw [List.getElem?_eq_getElem (by omega)] at h1
    obtain ⟨z, hz, _, hw⟩ := DataW.trod_int he h1
    have h2 : cs[i]? = some (.int .u8 z) := by
      have h3 := congrArg (fun l : List Value => l[0]?) hz
      simpa using h3
    have h3 : IntKind.u8.min = 0 := rfl
    have h4 : IntKind.u8.max = 255 := rfl
    simp only [Lit.wf, Bool.and_eq_true, decide_eq_true_eq] at hw
    exact ⟨z, h2, by omega, by omega⟩
  obtain ⟨f, hf⟩ := Deep.choose_lt each
  refine ⟨(List.range n).map f, by simp, fun y hy => ?_, ?_⟩
  · obtain ⟨i, hi, rfl⟩ := List.mem_map.1 hy
    exact (hf i (by simpa using hi)).2
  · apply List.ext_getElem?
    intro i
    rcases Nat.lt_or_ge i n with hi | hi
    · rw [(hf i hi).1]; simp [U, hi]
    · rw [List.getElem?_eq_none (by omega), List.getElem?_eq_none (by simp [U]; omega)]

set_option maxRecDepth 100000 in
/-- Pages: a slice of arrays of bytes; its bytes. -/
theorem pages_open {K : Nat} (hK : 0 < K) {t e u : TypeId} {fuel : Nat} {cs : List Value} {x : DataW H × List MemPlace} (ht : P.underlying t = some (.slice e)) (he : P.underlying e = some (.array K u)) (hu : P.underlying u = some (.int .u8)) (hc : P.cellsOf e = K) (hcu : P.cellsOf u = 1) (hf : DataW.trod enc P W 0 (fun _ => true) true fuel t cs = some x) :
    ∃ A n c b, cs = [.slice A n c] ∧ n ≤ c ∧ c ≤ maxLen ∧ Sl W K A n (U b) ∧ Wm.isBs b := by
  rcases Deep.open_slice ht hf with ⟨hcs, hx⟩ | ⟨a, len, cap, m, n, D, Pl, hcs, _, hl, hm, hmm, hx, hel⟩
  · exact ⟨none, 0, 0, [], hcs, Nat.le_refl _, Nat.zero_le _, Sl.nil _ _ _, fun x hx => by cases hx⟩
  · simp only [if_true] at hmm
    have each : ∀ i, i < len → ∃ b : Wm.Bs, b.length = K ∧ Wm.isBs b ∧ ∀ j, j < K → W.cell? ((a.add (i * K)).add j) = (U b)[j]? := by
      intro i hi
      obtain ⟨cs', h1, h2⟩ := hel i (by omega)
      rw [hc] at h1
      obtain ⟨b, h3, h4, rfl⟩ := bytes_open he hu hcu hc h2
      exact ⟨b, h3, h4, (cells_at h1).2⟩
    obtain ⟨f, hfl⟩ := Deep.choose_lt each
    have hD : ∀ y ∈ (List.range len).map f, y.length = K := fun y hy => by
      obtain ⟨i, hi, rfl⟩ := List.mem_map.1 hy
      exact (hfl i (by simpa using hi)).1
    have hB : Wm.isBs ((List.range len).map f).flatten := fun x hx => by
      obtain ⟨y, hy, hxy⟩ := List.mem_flatten.1 hx
      obtain ⟨i, hi, rfl⟩ := List.mem_map.1 hy
      exact (hfl i (by simpa using hi)).2.1 x hxy
    refine ⟨some a, len, cap, ((List.range len).map f).flatten, hcs, hl, hm, ⟨by rw [U_length, flat_lenK hD]; simp, fun hn => ⟨a, rfl, ?_, ?_⟩⟩, hB⟩
    · have h0 := (hfl 0 hn).2.2 0 hK
      rw [U_get _ 0 (by rw [(hfl 0 hn).1]; exact hK)] at h0
      have h1 := World.block_lt_of_cell? W _ h0
      rwa [addr_add_block, addr_add_block] at h1
    · intro j y hy
      have hj : j < len * K := by
        rcases Nat.lt_or_ge j (len * K) with h | h
        · exact h
        · rw [List.getElem?_eq_none (by rw [U_length, flat_lenK hD]; simpa using h)] at hy; cases hy
      have hk : j / K < len := Nat.div_lt_of_lt_mul (by rw [Nat.mul_comm]; exact hj)
      have hjm : j / K * K + j % K = j := by rw [Nat.mul_comm]; exact Nat.div_add_mod j K
      have h1 := (hfl (j / K) hk).2.2 (j % K) (Nat.mod_lt _ hK)
      rw [addr_add_add, hjm] at h1
      rw [h1]
      have h2 := flat_atK hD (j / K) (by simpa using hk) (j % K) (Nat.mod_lt _ hK)
      rw [hjm] at h2
      unfold U at hy ⊢
      rw [List.getElem?_map, h2] at hy
      rw [List.getElem?_map, ← hy]
      simp
set_option maxRecDepth 100000 in
/-- A memory. -/
theorem mem_arg {K : Nat} (hK : 0 < K) {t e u : TypeId} {f0 : Field} (ht : P.underlying t = some (.struct #[f0])) (o0 : f0.offset = 0) (h0 : P.underlying f0.type = some (.slice e)) (he : P.underlying e = some (.array K u)) (hu : P.underlying u = some (.int .u8))
    (c0 : P.cellsOf f0.type = 1) (hc : P.cellsOf e = K) (hcu : P.cellsOf u = 1) (hct : P.cellsOf t = 1) (hv : Value.okWide P W r b0 t v) (h : DataW.Trod enc P W 0 (fun _ => true) true t v d p) :
    ∃ (A : Option Addr) (n c : Nat) (b : Wm.Bs), v = .agg #[.slice A n c] ∧ n ≤ c ∧ c ≤ maxLen ∧ Sl W K A n (U b) ∧ Wm.isBs b := by
  obtain ⟨cs, rfl, hsz⟩ := okWide_struct ht hv
  obtain ⟨fuel, hf⟩ := h
  obtain ⟨y0, m, _, _, k0⟩ := trod_struct1 ht hf
  rw [o0, c0] at k0
  obtain ⟨A, n, c, l, hcs, r1, r2, r3, r4⟩ := pages_open hK h0 he hu hc hcu k0
  refine ⟨A, n, c, l, ?_, r1, r2, r3, r4⟩
  obtain ⟨l2⟩ := cs
  rw [hct] at hsz
  match l2, hsz with
  | [x], _ =>
    simp [Value.cells] at hcs
    rw [hcs]
set_option maxRecDepth 100000 in
/-- A store. -/
def isW (w : Int × Int × Int) : Prop := (-9223372036854775808 ≤ w.1 ∧ w.1 ≤ 9223372036854775807) ∧ (-9223372036854775808 ≤ w.2.1 ∧ w.2.1 ≤ 9223372036854775807) ∧ 0 ≤ w.2.2 ∧ w.2.2 < 4294967296
set_option maxRecDepth 100000 in
def Wc (w : Int × Int × Int) : List Value := [.int .i64 w.1, .int .i64 w.2.1, .int .u32 w.2.2]
set_option maxRecDepth 100000 in
def Ws (l : List (Int × Int × Int)) : List Value := l.flatMap Wc
set_option maxRecDepth 100000 in
theorem Ws_at : ∀ (l : List (Int × Int × Int)) (i : Nat) (hi : i < l.length) (j : Nat), j < 3 → (Ws l)[i * 3 + j]? = (Wc l[i])[j]? := by
  intro l
  induction l with
  | nil => intro i hi; simp at hi
  | cons w r ih =>
    intro i hi j hj
    show (Wc w ++ Ws r)[i * 3 + j]? = _
    cases i with
    | zero => rw [Nat.zero_mul, Nat.zero_add, List.getElem?_append_left (by simpa [Wc] using hj)]; rfl
    | succ i =>
      rw [List.getElem?_append_right (by simp [Wc]; omega), show (i + 1) * 3 + j - (Wc w).length = i * 3 + j by simp [Wc]; omega]
      exact ih i (by simpa using hi) j hj
end
end Go.Proofs.YtidhodalnikhlaaGreatDoor
