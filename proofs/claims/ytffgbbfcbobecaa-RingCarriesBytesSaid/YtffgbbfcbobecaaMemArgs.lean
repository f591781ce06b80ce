/-
  WHAT EVERY STATEMENT OF memory NEEDS: its arguments opened, its end closed.
-/
import Derived.Test.YtffgbbfcbobecaaRows
import Derived.Test.YtffgbbfcbobecaaHashMem
import Derived.Test.YtffgbbfcbobecaaMemMath
import Derived.Deep.Strs
import Derived.ChangeSame
import Derived.WalkKit
import Derived.ProofKit
import Derived.OpenShut
import Derived.SliceStrings
import Derived.Deep.Slices
import Derived.ArgAppend
import Derived.Deep.DeepHandedRow
import Derived.Lib.LaidTab
import Derived.SizedLaws
import Derived.Outline
namespace Go.Proofs.Ytffgbbfcbobecaa
open Go.RowKit Go.ChangeShapes Go.WideShapes Go.ChangeAt

def N64 (l : List Int) : List Value := l.map (Value.int .i64)
def Strs (l : List ByteArray) : List Value := l.map .string
def inR (l : List Int) : Prop := ∀ x ∈ l, -9223372036854775808 ≤ x ∧ x ≤ 9223372036854775807
theorem ret_bool {a b : Bool} (h : a = b) : Ending.returned (.bool a) = .returned (.bool b) := by rw [h]
theorem ownK : ownKnob Try.prog.godebug = none := by kernel_rfl
theorem laidK : laidOutB Try.prog = true := by kernel_rfl

section
variable {H : Type} {enc : TypeId × Value → H} {P : Program}
/-- Arguments read in a later world as they did. -/
theorem all_later (hl : laidOutB P = true) {W W' : World} (hb : Later W W') (sp : Nat → Bool) : ∀ {ts : List TypeId} {vs : List Value} {ds : List (DataW H)} {ps : List MemPlace},
    (ts.all fun t => P.readableRec t && decide (t < P.types.size)) = true → DataW.TrodAll enc P W 0 (fun _ => true) true ts vs ds ps → (∀ x ∈ ps, x.block < W.heap.size) → (∀ x ∈ ps, sp x.block = true) → DataW.TrodAll enc P W' 0 sp true ts vs ds ps := by
  intro ts
  induction ts with
  | nil => intro vs ds ps _ h _ _; obtain ⟨rfl, rfl, rfl⟩ := trodAll_nil h; exact trodAll_mk0
  | cons t ts ih =>
    intro vs ds ps hr h hlt hsp
    obtain ⟨v, vs', d, ds', p, q, rfl, rfl, rfl, h0, h1⟩ := trodAll_cons h
    simp only [List.all_cons, Bool.and_eq_true, decide_eq_true_eq] at hr
    exact trodAll_cons_mk (WideElems.Trod_stays hl hr.1.1 hr.1.2 h0 (fun x hx => hb.same (hlt x (by simp [hx]))) (fun x hx => hsp x (by simp [hx]))) (ih hr.2 h1 (fun x hx => hlt x (by simp [hx])) (fun x hx => hsp x (by simp [hx])))

/-- The end of every statement: true, and nothing that was there has turned. -/
theorem law_post {f : Func} {s : ChangeSpec} {W W' : World} {args : Array Value} {ds gs : List (DataW H)} {before : List MemPlace} {tb : TypeId} (hl : laidOutB P = true)
    (hv : s.vars = []) (hr : f.resultTypes.toList = [tb]) (hn : f.resultTypes.size = 1) (htb : P.underlying tb = some .bool) (hrows : (f.params.toList.all fun t => P.readableRec t && decide (t < P.types.size)) = true)
    (hW : DataW.Whole enc P f.params.toList s.vars false W args.toList ds gs before) (hs : s.fn H (ds ++ gs) = { results := [.lit (.bool true)], args := ds }) (hb : Later W W') :
    s.post enc P f false true false false W args (.bool true) W' := by
  have hlt : ∀ p ∈ before, p.block < W.heap.size := fun p hp => hW.lt p hp
  have hW0 := hW
  obtain ⟨p, q, hA, hV, rfl, _, _⟩ := hW
  rw [hv] at hV
  obtain ⟨rfl, rfl⟩ := trodVars_none hV
  simp only [List.append_nil] at hlt hW0
  refine ⟨ds, [], p, [], p, [], hW0, ?_, ?_, ?_, World.keptBut_mono (fun x hx => ⟨hx, .inr (.inl hx)⟩) (hb.frame (· ∈ p)), fun h => by cases h⟩
  · rw [hs, hr, hn]
    exact trodAll_mk1 (shut_bool htb _)
  · rw [hs]
    exact all_later hl hb _ hrows hA hlt (fun x hx => by simpa using hlt x hx)
  · rw [hs, hv]
    rfl
end

section
variable {H : Type} {enc : TypeId × Value → H} {P : Program} {W : World} {r : Reach} {b0 : Nat} {v : Value} {d : DataW H} {p : List MemPlace}
/-- An int. -/
theorem int_arg {t : TypeId} (ht : P.underlying t = some (.int .i64)) (hv : Value.okWide P W r b0 t v) (h : DataW.Trod enc P W 0 (fun _ => true) true t v d p) : ∃ n : Int, v = .int .i64 n ∧ -9223372036854775808 ≤ n ∧ n ≤ 9223372036854775807 := by
  obtain ⟨n, rfl, _, _, hw⟩ := open_int ht hv h
  have h1 : IntKind.i64.min = -9223372036854775808 := rfl
  have h2 : IntKind.i64.max = 9223372036854775807 := rfl
  simp only [Lit.wf, Bool.and_eq_true, decide_eq_true_eq] at hw
  exact ⟨n, rfl, by omega, by omega⟩
theorem str_arg {t : TypeId} (ht : P.underlying t = some .string) (hv : Value.okWide P W r b0 t v) (h : DataW.Trod enc P W 0 (fun _ => true) true t v d p) : ∃ s : ByteArray, v = .string s ∧ s.size ≤ maxLen := by
  obtain ⟨s, rfl, _, _, hs⟩ := ChangeMaps.open_string ht hv h
  exact ⟨s, rfl, hs⟩
theorem bytes_arg {t e : TypeId} (ht : P.underlying t = some (.slice e)) (he : P.underlying e = some (.int .u8)) (hc : P.cellsOf e = 1) (hv : Value.okWide P W r b0 t v) (h : DataW.Trod enc P W 0 (fun _ => true) true t v d p) :
    ∃ A n c b, v = .slice A n c ∧ n ≤ c ∧ c ≤ maxLen ∧ Sl W 1 A n (U b) ∧ Wm.isBs b := by
  obtain ⟨a0, len, cap, rfl⟩ := okWide_slice ht hv
  obtain ⟨fuel, hf⟩ := h
  rcases open_ints ht he hc hf with ⟨hcs, hx⟩ | ⟨a, len', cap', zs, hcs, _, hl, hm, hz, hx, hcell, hwz⟩
  · simp [Value.cells] at hcs
    obtain ⟨rfl, rfl, rfl⟩ := hcs
    exact ⟨none, 0, 0, [], rfl, Nat.le_refl _, Nat.zero_le _, Sl.nil _ _ _, fun x hx => by cases hx⟩
  · simp [Value.cells] at hcs
    obtain ⟨rfl, rfl, rfl⟩ := hcs
    simp only [if_true] at hz
    refine ⟨some a, len, cap, zs.take len, rfl, hl, hm, ⟨by rw [U_length, List.length_take]; omega, fun hn => ⟨a, rfl, ?_, ?_⟩⟩, fun x hx => ?_⟩
    · have h0 := World.block_lt_of_cell? W _ (hcell 0 (by omega))
      rwa [addr_add_block] at h0
    · intro j u hu
      have hj : j < len := by
        rcases Nat.lt_or_ge j len with h | h
        · exact h
        · rw [List.getElem?_eq_none (by rw [U_length, List.length_take]; omega)] at hu; cases hu
      rw [U_get _ j (by rw [List.length_take]; omega)] at hu
      cases hu
      rw [hcell j (by omega)]
      congr 2
      rw [List.getD_eq_getElem?_getD, List.getD_eq_getElem?_getD, List.getElem?_take_of_lt hj]
    · have hw := hwz x (List.mem_of_mem_take hx)
      have h1 : IntKind.u8.min = 0 := rfl
      have h2 : IntKind.u8.max = 255 := rfl
      simp only [Lit.wf, Bool.and_eq_true, decide_eq_true_eq] at hw
      omega
theorem ints_arg {t e : TypeId} (ht : P.underlying t = some (.slice e)) (he : P.underlying e = some (.int .i64)) (hc : P.cellsOf e = 1) (hv : Value.okWide P W r b0 t v) (h : DataW.Trod enc P W 0 (fun _ => true) true t v d p) :
    ∃ A n c l, v = .slice A n c ∧ n ≤ c ∧ c ≤ maxLen ∧ Sl W 1 A n (N64 l) ∧ inR l := by
  obtain ⟨a0, len, cap, rfl⟩ := okWide_slice ht hv
  obtain ⟨fuel, hf⟩ := h
  rcases open_ints ht he hc hf with ⟨hcs, hx⟩ | ⟨a, len', cap', zs, hcs, _, hl, hm, hz, hx, hcell, hwz⟩
  · simp [Value.cells] at hcs
    obtain ⟨rfl, rfl, rfl⟩ := hcs
    exact ⟨none, 0, 0, [], rfl, Nat.le_refl _, Nat.zero_le _, Sl.nil _ _ _, fun x hx => by cases hx⟩
  · simp [Value.cells] at hcs
    obtain ⟨rfl, rfl, rfl⟩ := hcs
    simp only [if_true] at hz
    refine ⟨some a, len, cap, zs.take len, rfl, hl, hm, ⟨by rw [N64, List.length_map, List.length_take]; omega, fun hn => ⟨a, rfl, ?_, ?_⟩⟩, fun x hx => ?_⟩
    · have h0 := World.block_lt_of_cell? W _ (hcell 0 (by omega))
      rwa [addr_add_block] at h0
    · intro j u hu
      have hj : j < len := by
        rcases Nat.lt_or_ge j len with h | h
        · exact h
        · rw [List.getElem?_eq_none (by rw [N64, List.length_map, List.length_take]; omega)] at hu; cases hu
      rw [N64, List.getElem?_map, List.getElem?_take_of_lt hj, List.getElem?_eq_getElem (by omega)] at hu
      cases hu
      rw [hcell j (by omega), List.getD_eq_getElem?_getD, List.getElem?_eq_getElem (by omega)]
      rfl
    · have hw := hwz x (List.mem_of_mem_take hx)
      have h1 : IntKind.i64.min = -9223372036854775808 := rfl
      have h2 : IntKind.i64.max = 9223372036854775807 := rfl
      simp only [Lit.wf, Bool.and_eq_true, decide_eq_true_eq] at hw
      omega
theorem strs_arg {t e : TypeId} (ht : P.underlying t = some (.slice e)) (he : P.underlying e = some .string) (hc : P.cellsOf e = 1) (hv : Value.okWide P W r b0 t v) (h : DataW.Trod enc P W 0 (fun _ => true) true t v d p) :
    ∃ A n c l, v = .slice A n c ∧ n ≤ c ∧ c ≤ maxLen ∧ Sl W 1 A n (Strs l) ∧ (∀ s ∈ l, s.size ≤ maxLen) := by
  obtain ⟨a0, len, cap, rfl⟩ := okWide_slice ht hv
  obtain ⟨fuel, hf⟩ := h
  rcases open_strings ht he hc hf with ⟨hcs, hx⟩ | ⟨a, len', cap', zs, hcs, _, hl, hm, hz, hx, hcell, hwz⟩
  · simp [Value.cells] at hcs
    obtain ⟨rfl, rfl, rfl⟩ := hcs
    exact ⟨none, 0, 0, [], rfl, Nat.le_refl _, Nat.zero_le _, Sl.nil _ _ _, fun x hx => by cases hx⟩
  · simp [Value.cells] at hcs
    obtain ⟨rfl, rfl, rfl⟩ := hcs
    simp only [if_true] at hz
    refine ⟨some a, len, cap, zs.take len, rfl, hl, hm, ⟨by rw [Strs, List.length_map, List.length_take]; omega, fun hn => ⟨a, rfl, ?_, ?_⟩⟩, fun x hx => hwz x (List.mem_of_mem_take hx)⟩
    · have h0 := World.block_lt_of_cell? W _ (hcell 0 (by omega))
      rwa [addr_add_block] at h0
    · intro j u hu
      have hj : j < len := by
        rcases Nat.lt_or_ge j len with h | h
        · exact h
        · rw [List.getElem?_eq_none (by rw [Strs, List.length_map, List.length_take]; omega)] at hu; cases hu
      rw [Strs, List.getElem?_map, List.getElem?_take_of_lt hj, List.getElem?_eq_getElem (by omega)] at hu
      cases hu
      rw [hcell j (by omega), List.getD_eq_getElem?_getD, List.getElem?_eq_getElem (by omega)]
      rfl
end



section
variable {H : Type} {enc : TypeId × Value → H} {P : Program} {W : World} {r : Reach} {b0 : Nat} {v : Value} {d : DataW H} {p : List MemPlace}
theorem u32_arg {t : TypeId} (ht : P.underlying t = some (.int .u32)) (hv : Value.okWide P W r b0 t v) (h : DataW.Trod enc P W 0 (fun _ => true) true t v d p) : ∃ n : Int, v = .int .u32 n ∧ 0 ≤ n ∧ n ≤ 4294967295 := by
  obtain ⟨n, rfl, _, _, hw⟩ := open_int ht hv h
  have h1 : IntKind.u32.min = 0 := rfl
  have h2 : IntKind.u32.max = 4294967295 := rfl
  simp only [Lit.wf, Bool.and_eq_true, decide_eq_true_eq] at hw
  exact ⟨n, rfl, by omega, by omega⟩
end

theorem flat_lenK {k : Nat} {l : List Wm.Bs} (h : ∀ d ∈ l, d.length = k) : l.flatten.length = l.length * k := by
  induction l with
  | nil => simp
  | cons d r ih => rw [List.flatten_cons, List.length_append, ih (fun x hx => h x (List.mem_cons_of_mem _ hx)), h d List.mem_cons_self, List.length_cons, Nat.add_mul]; omega
theorem flat_atK {k : Nat} {l : List Wm.Bs} (h : ∀ d ∈ l, d.length = k) : ∀ (i : Nat) (hi : i < l.length) (j : Nat), j < k → l.flatten[i * k + j]? = l[i][j]? := by
  induction l with
  | nil => intro i hi; simp at hi
  | cons d r ih =>
    intro i hi j hj
    have hd := h d List.mem_cons_self
    cases i with
    | zero => rw [List.flatten_cons, Nat.zero_mul, Nat.zero_add, List.getElem?_append_left (by omega)]; simp
    | succ i =>
      rw [List.flatten_cons, List.getElem?_append_right (by rw [hd, Nat.add_mul]; omega), hd, show (i + 1) * k + j - k = i * k + j by rw [Nat.add_mul]; omega]
      exact ih (fun x hx => h x (List.mem_cons_of_mem _ hx)) i (by simpa using hi) j hj
theorem cells_at {w : World} {base : Nat} {a : Addr} {n : Nat} {cs : List Value} (h : w.cells? base a n = some cs) : cs.length = n ∧ ∀ j, j < n → w.cell? (a.add j) = cs[j]? := by
  unfold World.cells? at h
  split at h
  · refine ⟨by simpa using mapM_some_length h, fun j hj => mapM_some_get h j j (by simp [hj])⟩
  · cases h
section
variable {H : Type} {enc : TypeId × Value → H} {P : Program} {W : World} {r : Reach} {b0 : Nat} {v : Value} {d : DataW H} {p : List MemPlace}
theorem bytes_open {n : Nat} {w : World} {base fuel : Nat} {sp : Nat → Bool} {held : Bool} {t e : TypeId} {cs : List Value} {x : DataW H × List MemPlace} (ht : P.underlying t = some (.array n e)) (he : P.underlying e = some (.int .u8)) (hc : P.cellsOf e = 1) (hc2 : P.cellsOf t = n)
    (h : DataW.trod enc P w base sp held fuel t cs = some x) : ∃ b : Wm.Bs, b.length = n ∧ Wm.isBs b ∧ cs = U b := by
  obtain ⟨xs, m, _, _, hlen, hxs, hel⟩ := DataW.trod_array ht h
  rw [hc2] at hlen
  rw [hc] at hel
  have each : ∀ i, i < n → ∃ z : Int, cs[i]? = some (.int .u8 z) ∧ 0 ≤ z ∧ z < 256 := by
    intro i hi
    have h1 := hel i hi
    rw [List.getElem?_eq_getElem (by omega)] at h1
    obtain ⟨z, hz, _, hw⟩ := DataW.trod_int he h1
    have h2 : cs[i]? = some (.int .u8 z) := by
      have h3 := congrArg (fun l : List Value => l[0]?) hz
      simpa using h3
    have h3 : IntKind.u8.min = 0 := rfl
    have h4 : IntKind.u8.max = 255 := rfl
    simp only [Lit.wf, Bool.and_eq_true, decide_eq_true_eq] at hw
    exact ⟨z, h2, by omega, by omega⟩
  obtain ⟨f, hf⟩ := Deep.choose_lt each
  refine ⟨(List.range n).map f, by simp, fun y hy => ?_, ?_⟩
  · obtain ⟨i, hi, rfl⟩ := List.mem_map.1 hy
    exact (hf i (by simpa using hi)).2
  · apply List.ext_getElem?
    intro i
    rcases Nat.lt_or_ge i n with hi | hi
    · rw [(hf i hi).1]; simp [U, hi]
    · rw [List.getElem?_eq_none (by omega), List.getElem?_eq_none (by simp [U]; omega)]

/-- Pages: a slice of arrays of bytes; its bytes. -/
theorem pages_open {K : Nat} (hK : 0 < K) {t e u : TypeId} {fuel : Nat} {cs : List Value} {x : DataW H × List MemPlace} (ht : P.underlying t = some (.slice e)) (he : P.underlying e = some (.array K u)) (hu : P.underlying u = some (.int .u8)) (hc : P.cellsOf e = K) (hcu : P.cellsOf u = 1) (hf : DataW.trod enc P W 0 (fun _ => true) true fuel t cs = some x) :
    ∃ A n c b, cs = [.slice A n c] ∧ n ≤ c ∧ c ≤ maxLen ∧ Sl W K A n (U b) ∧ Wm.isBs b := by
  rcases Deep.open_slice ht hf with ⟨hcs, hx⟩ | ⟨a, len, cap, m, n, D, Pl, hcs, _, hl, hm, hmm, hx, hel⟩
  · exact ⟨none, 0, 0, [], hcs, Nat.le_refl _, Nat.zero_le _, Sl.nil _ _ _, fun x hx => by cases hx⟩
  · simp only [if_true] at hmm
    have each : ∀ i, i < len → ∃ b : Wm.Bs, b.length = K ∧ Wm.isBs b ∧ ∀ j, j < K → W.cell? ((a.add (i * K)).add j) = (U b)[j]? := by
      intro i hi
      obtain ⟨cs', h1, h2⟩ := hel i (by omega)
      rw [hc] at h1
      obtain ⟨b, h3, h4, rfl⟩ := bytes_open he hu hcu hc h2
      exact ⟨b, h3, h4, (cells_at h1).2⟩
    obtain ⟨f, hfl⟩ := Deep.choose_lt each
    have hD : ∀ y ∈ (List.range len).map f, y.length = K := fun y hy => by
      obtain ⟨i, hi, rfl⟩ := List.mem_map.1 hy
      exact (hfl i (by simpa using hi)).1
    have hB : Wm.isBs ((List.range len).map f).flatten := fun x hx => by
      obtain ⟨y, hy, hxy⟩ := List.mem_flatten.1 hx
      obtain ⟨i, hi, rfl⟩ := List.mem_map.1 hy
      exact (hfl i (by simpa using hi)).2.1 x hxy
    refine ⟨some a, len, cap, ((List.range len).map f).flatten, hcs, hl, hm, ⟨by rw [U_length, flat_lenK hD]; simp, fun hn => ⟨a, rfl, ?_, ?_⟩⟩, hB⟩
    · have h0 := (hfl 0 hn).2.2 0 hK
      rw [U_get _ 0 (by rw [(hfl 0 hn).1]; exact hK)] at h0
      have h1 := World.block_lt_of_cell? W _ h0
      rwa [addr_add_block, addr_add_block] at h1
    · intro j y hy
      have hj : j < len * K := by
        rcases Nat.lt_or_ge j (len * K) with h | h
        · exact h
        · rw [List.getElem?_eq_none (by rw [U_length, flat_lenK hD]; simpa using h)] at hy; cases hy
      have hk : j / K < len := Nat.div_lt_of_lt_mul (by rw [Nat.mul_comm]; exact hj)
      have hjm : j / K * K + j % K = j := by rw [Nat.mul_comm]; exact Nat.div_add_mod j K
      have h1 := (hfl (j / K) hk).2.2 (j % K) (Nat.mod_lt _ hK)
      rw [addr_add_add, hjm] at h1
      rw [h1]
      have h2 := flat_atK hD (j / K) (by simpa using hk) (j % K) (Nat.mod_lt _ hK)
      rw [hjm] at h2
      unfold U at hy ⊢
      rw [List.getElem?_map, h2] at hy
      rw [List.getElem?_map, ← hy]
      simp
/-- A memory. -/
theorem mem_arg {K : Nat} (hK : 0 < K) {t e u : TypeId} {f0 : Field} (ht : P.underlying t = some (.struct #[f0])) (o0 : f0.offset = 0) (h0 : P.underlying f0.type = some (.slice e)) (he : P.underlying e = some (.array K u)) (hu : P.underlying u = some (.int .u8))
    (c0 : P.cellsOf f0.type = 1) (hc : P.cellsOf e = K) (hcu : P.cellsOf u = 1) (hct : P.cellsOf t = 1) (hv : Value.okWide P W r b0 t v) (h : DataW.Trod enc P W 0 (fun _ => true) true t v d p) :
    ∃ (A : Option Addr) (n c : Nat) (b : Wm.Bs), v = .agg #[.slice A n c] ∧ n ≤ c ∧ c ≤ maxLen ∧ Sl W K A n (U b) ∧ Wm.isBs b := by
  obtain ⟨cs, rfl, hsz⟩ := okWide_struct ht hv
  obtain ⟨fuel, hf⟩ := h
  obtain ⟨y0, m, _, _, k0⟩ := trod_struct1 ht hf
  rw [o0, c0] at k0
  obtain ⟨A, n, c, l, hcs, r1, r2, r3, r4⟩ := pages_open hK h0 he hu hc hcu k0
  refine ⟨A, n, c, l, ?_, r1, r2, r3, r4⟩
  obtain ⟨l2⟩ := cs
  rw [hct] at hsz
  match l2, hsz with
  | [x], _ =>
    simp [Value.cells] at hcs
    rw [hcs]
/-- A store. -/
def isW (w : Int × Int × Int) : Prop := (-9223372036854775808 ≤ w.1 ∧ w.1 ≤ 9223372036854775807) ∧ (-9223372036854775808 ≤ w.2.1 ∧ w.2.1 ≤ 9223372036854775807) ∧ 0 ≤ w.2.2 ∧ w.2.2 < 4294967296
def Wc (w : Int × Int × Int) : List Value := [.int .i64 w.1, .int .i64 w.2.1, .int .u32 w.2.2]
theorem write_open {t : TypeId} {f0 f1 f2 : Field} {fuel : Nat} {cs : List Value} {x : DataW H × List MemPlace} (ht : P.underlying t = some (.struct #[f0, f1, f2])) (o0 : f0.offset = 0) (o1 : f1.offset = 1) (o2 : f2.offset = 2)
    (h0 : P.underlying f0.type = some (.int .i64)) (h1 : P.underlying f1.type = some (.int .i64)) (h2 : P.underlying f2.type = some (.int .u32)) (c0 : P.cellsOf f0.type = 1) (c1 : P.cellsOf f1.type = 1) (c2 : P.cellsOf f2.type = 1) (hct : P.cellsOf t = 3)
    (hf : DataW.trod enc P W 0 (fun _ => true) true fuel t cs = some x) : ∃ w, cs = Wc w ∧ isW w := by
  obtain ⟨y0, y1, y2, m, _, hl, k0, k1, k2⟩ := Deep.trod_struct3 ht hf
  rw [o0, c0] at k0
  rw [o1, c1] at k1
  rw [o2, c2] at k2
  obtain ⟨z0, e0, _, w0⟩ := DataW.trod_int h0 k0
  obtain ⟨z1, e1, _, w1⟩ := DataW.trod_int h1 k1
  obtain ⟨z2, e2, _, w2⟩ := DataW.trod_int h2 k2
  have a0 : IntKind.i64.min = -9223372036854775808 := rfl
  have a1 : IntKind.i64.max = 9223372036854775807 := rfl
  have a2 : IntKind.u32.min = 0 := rfl
  have a3 : IntKind.u32.max = 4294967295 := rfl
  simp only [Lit.wf, Bool.and_eq_true, decide_eq_true_eq] at w0 w1 w2
  refine ⟨(z0, z1, z2), ?_, by simp only [isW]; omega⟩
  rw [hct] at hl
  match cs, hl with
  | [x, y, z], _ =>
    simp at e0 e1 e2
    rw [e0, e1, e2]
    rfl
theorem write_arg {t : TypeId} {f0 f1 f2 : Field} (ht : P.underlying t = some (.struct #[f0, f1, f2])) (o0 : f0.offset = 0) (o1 : f1.offset = 1) (o2 : f2.offset = 2)
    (h0 : P.underlying f0.type = some (.int .i64)) (h1 : P.underlying f1.type = some (.int .i64)) (h2 : P.underlying f2.type = some (.int .u32)) (c0 : P.cellsOf f0.type = 1) (c1 : P.cellsOf f1.type = 1) (c2 : P.cellsOf f2.type = 1) (hct : P.cellsOf t = 3)
    (hv : Value.okWide P W r b0 t v) (h : DataW.Trod enc P W 0 (fun _ => true) true t v d p) : ∃ w, v = .agg (Wc w).toArray ∧ isW w := by
  obtain ⟨cs, rfl, hsz⟩ := okWide_struct ht hv
  obtain ⟨fuel, hf⟩ := h
  obtain ⟨w, h3, h4⟩ := write_open ht o0 o1 o2 h0 h1 h2 c0 c1 c2 hct hf
  refine ⟨w, ?_, h4⟩
  have h5 : cs.toList = Wc w := h3
  rw [← h5]
def Ws (l : List (Int × Int × Int)) : List Value := l.flatMap Wc
theorem Ws_len (l : List (Int × Int × Int)) : (Ws l).length = l.length * 3 := by
  induction l with
  | nil => rfl
  | cons w r ih =>
    show (Wc w ++ Ws r).length = _
    rw [List.length_append, ih]
    simp [Wc]
    omega
theorem Ws_at : ∀ (l : List (Int × Int × Int)) (i : Nat) (hi : i < l.length) (j : Nat), j < 3 → (Ws l)[i * 3 + j]? = (Wc l[i])[j]? := by
  intro l
  induction l with
  | nil => intro i hi; simp at hi
  | cons w r ih =>
    intro i hi j hj
    show (Wc w ++ Ws r)[i * 3 + j]? = _
    cases i with
    | zero => rw [Nat.zero_mul, Nat.zero_add, List.getElem?_append_left (by simpa [Wc] using hj)]; rfl
    | succ i =>
      rw [List.getElem?_append_right (by simp [Wc]; omega), show (i + 1) * 3 + j - (Wc w).length = i * 3 + j by simp [Wc]; omega]
      exact ih i (by simpa using hi) j hj
theorem writes_arg {t e : TypeId} {f0 f1 f2 : Field} (hs : P.underlying t = some (.slice e)) (ht : P.underlying e = some (.struct #[f0, f1, f2])) (o0 : f0.offset = 0) (o1 : f1.offset = 1) (o2 : f2.offset = 2)
    (h0 : P.underlying f0.type = some (.int .i64)) (h1 : P.underlying f1.type = some (.int .i64)) (h2 : P.underlying f2.type = some (.int .u32)) (c0 : P.cellsOf f0.type = 1) (c1 : P.cellsOf f1.type = 1) (c2 : P.cellsOf f2.type = 1) (hct : P.cellsOf e = 3)
    (hv : Value.okWide P W r b0 t v) (h : DataW.Trod enc P W 0 (fun _ => true) true t v d p) : ∃ A n c l, v = .slice A n c ∧ n ≤ c ∧ c ≤ maxLen ∧ Sl W 3 A n (Ws l) ∧ l.length = n ∧ ∀ w ∈ l, isW w := by
  obtain ⟨a0, len, cap, rfl⟩ := okWide_slice hs hv
  obtain ⟨fuel, hf⟩ := h
  rcases Deep.open_slice hs hf with ⟨hcs, hx⟩ | ⟨a, len', cap', m, n, D, Pl, hcs, _, hl, hm, hmm, hx, hel⟩
  · simp [Value.cells] at hcs
    obtain ⟨rfl, rfl, rfl⟩ := hcs
    exact ⟨none, 0, 0, [], rfl, Nat.le_refl _, Nat.zero_le _, Sl.nil _ _ _, rfl, fun x hx => by cases hx⟩
  · simp [Value.cells] at hcs
    obtain ⟨rfl, rfl, rfl⟩ := hcs
    simp only [if_true] at hmm
    have each : ∀ i, i < len → ∃ w, isW w ∧ ∀ j, j < 3 → W.cell? ((a.add (i * 3)).add j) = (Wc w)[j]? := by
      intro i hi
      obtain ⟨cs', h3, h4⟩ := hel i (by omega)
      rw [hct] at h3
      obtain ⟨w, rfl, h5⟩ := write_open ht o0 o1 o2 h0 h1 h2 c0 c1 c2 hct h4
      exact ⟨w, h5, (cells_at h3).2⟩
    obtain ⟨f, hfl⟩ := Deep.choose_lt each
    refine ⟨some a, len, cap, (List.range len).map f, rfl, hl, hm, ⟨by rw [Ws_len]; simp, fun hn => ⟨a, rfl, ?_, ?_⟩⟩, by simp, fun w hw => ?_⟩
    · have h3 := (hfl 0 hn).2 0 (by omega)
      have h4 := World.block_lt_of_cell? W _ (h3.trans (show (Wc (f 0))[0]? = some _ from rfl))
      rwa [addr_add_block, addr_add_block] at h4
    · intro j y hy
      have hj : j < len * 3 := by
        rcases Nat.lt_or_ge j (len * 3) with h | h
        · exact h
        · rw [List.getElem?_eq_none (by rw [Ws_len]; simpa using h)] at hy; cases hy
      have h3 := (hfl (j / 3) (by omega)).2 (j % 3) (by omega)
      rw [addr_add_add, show j / 3 * 3 + j % 3 = j by omega] at h3
      rw [h3]
      have h4 := Ws_at ((List.range len).map f) (j / 3) (by simp; omega) (j % 3) (by omega)
      rw [show j / 3 * 3 + j % 3 = j by omega] at h4
      rw [← hy, h4]
      simp
    · obtain ⟨i, hi, rfl⟩ := List.mem_map.1 hw
      exact (hfl i (by simpa using hi)).1
end
end Go.Proofs.Ytffgbbfcbobecaa
