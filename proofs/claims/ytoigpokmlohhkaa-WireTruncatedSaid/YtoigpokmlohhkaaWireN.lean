/-
  AN ARGUMENT OF DIGESTS: opened.
-/
import Derived.Test.YtoigpokmlohhkaaWireM
import Derived.Test.YtoigpokmlohhkaaWireDig
namespace Go.Proofs.Ytoigpokmlohhkaa
open Go.RowKit Go.ChangeShapes Go.WideShapes Go.ChangeAt

section
variable {H : Type} {enc : TypeId × Value → H} {P : Program} {W : World} {r : Reach} {b0 : Nat} {v : Value} {d : DataW H} {p : List MemPlace}

theorem cells_at {w : World} {base : Nat} {a : Addr} {n : Nat} {cs : List Value} (h : w.cells? base a n = some cs) : cs.length = n ∧ ∀ j, j < n → w.cell? (a.add j) = cs[j]? := by
  unfold World.cells? at h
  split at h
  · refine ⟨by simpa using mapM_some_length h, fun j hj => mapM_some_get h j j (by simp [hj])⟩
  · cases h

theorem digest_open {w : World} {base fuel : Nat} {sp : Nat → Bool} {held : Bool} {t e : TypeId} {cs : List Value} {x : DataW H × List MemPlace} (ht : P.underlying t = some (.array 16 e)) (he : P.underlying e = some (.int .u8)) (hc : P.cellsOf e = 1) (hc2 : P.cellsOf t = 16)
    (h : DataW.trod enc P w base sp held fuel t cs = some x) : ∃ b : Wm.Bs, b.length = 16 ∧ Wm.isBs b ∧ cs = U b := by
  obtain ⟨xs, m, _, _, hlen, hxs, hel⟩ := DataW.trod_array ht h
  rw [hc2] at hlen
  rw [hc] at hel
  have each : ∀ i, i < 16 → ∃ z : Int, cs[i]? = some (.int .u8 z) ∧ 0 ≤ z ∧ z < 256 := by
    intro i hi
    have h1 := hel i hi
    rw [List.getElem?_eq_getElem (by omega)] at h1
    obtain ⟨z, hz, _, hw⟩ := DataW.trod_int he h1
    have h2 : cs[i]? = some (.int .u8 z) := by
      have h3 := congrArg (fun l : List Value => l[0]?) hz
      simpa using h3
    have h3 : IntKind.u8.min = 0 := rfl
    have h4 : IntKind.u8.max = 255 := rfl
    simp only [Lit.wf, Bool.and_eq_true, decide_eq_true_eq] at hw
    exact ⟨z, h2, by omega, by omega⟩
  obtain ⟨f, hf⟩ := Deep.choose_lt each
  refine ⟨(List.range 16).map f, by simp, fun y hy => ?_, ?_⟩
  · obtain ⟨i, hi, rfl⟩ := List.mem_map.1 hy
    exact (hf i (by simpa using hi)).2
  · apply List.ext_getElem?
    intro i
    rcases Nat.lt_or_ge i 16 with hi | hi
    · rw [(hf i hi).1]; simp [U, hi]
    · rw [List.getElem?_eq_none (by omega), List.getElem?_eq_none (by simp [U]; omega)]

theorem digs_arg {t e u : TypeId} (ht : P.underlying t = some (.slice e)) (he : P.underlying e = some (.array 16 u)) (hu : P.underlying u = some (.int .u8)) (hc : P.cellsOf e = 16) (hcu : P.cellsOf u = 1) (hv : Value.okWide P W r b0 t v) (h : DataW.Trod enc P W 0 (fun _ => true) true t v d p) :
    ∃ A n c l, v = .slice A n c ∧ n ≤ c ∧ c ≤ maxLen ∧ Sl W 16 A n (Ds l) ∧ isD l := by
  obtain ⟨a0, len, cap, rfl⟩ := okWide_slice ht hv
  obtain ⟨fuel, hf⟩ := h
  rcases Deep.open_slice ht hf with ⟨hcs, hx⟩ | ⟨a, len', cap', m, n, D, Pl, hcs, _, hl, hm, hmm, hx, hel⟩
  · simp [Value.cells] at hcs
    obtain ⟨rfl, rfl, rfl⟩ := hcs
    exact ⟨none, 0, 0, [], rfl, Nat.le_refl _, Nat.zero_le _, Sl.nil _ _ _, fun x hx => by cases hx⟩
  · simp [Value.cells] at hcs
    obtain ⟨rfl, rfl, rfl⟩ := hcs
    simp only [if_true] at hmm
    have each : ∀ i, i < len → ∃ b : Wm.Bs, b.length = 16 ∧ Wm.isBs b ∧ ∀ j, j < 16 → W.cell? ((a.add (i * 16)).add j) = (U b)[j]? := by
      intro i hi
      obtain ⟨cs', h1, h2⟩ := hel i (by omega)
      rw [hc] at h1
      obtain ⟨b, h3, h4, rfl⟩ := digest_open he hu hcu hc h2
      exact ⟨b, h3, h4, (cells_at h1).2⟩
    obtain ⟨f, hfl⟩ := Deep.choose_lt each
    have hD : isD ((List.range len).map f) := fun y hy => by
      obtain ⟨i, hi, rfl⟩ := List.mem_map.1 hy
      exact ⟨(hfl i (by simpa using hi)).1, (hfl i (by simpa using hi)).2.1⟩
    refine ⟨some a, len, cap, (List.range len).map f, rfl, hl, hm, ⟨by unfold Ds; rw [U_length, flat_len hD]; simp, fun hn => ⟨a, rfl, ?_, ?_⟩⟩, hD⟩
    · have h0 := (hfl 0 hn).2.2 0 (by omega)
      rw [U_get _ 0 (by rw [(hfl 0 hn).1]; omega)] at h0
      have h1 := World.block_lt_of_cell? W _ h0
      rwa [addr_add_block, addr_add_block] at h1
    · intro j y hy
      have hj : j < len * 16 := by
        rcases Nat.lt_or_ge j (len * 16) with h | h
        · exact h
        · rw [List.getElem?_eq_none (by unfold Ds; rw [U_length, flat_len hD]; simpa using h)] at hy; cases hy
      have hk : j / 16 < len := by omega
      have h1 := (hfl (j / 16) hk).2.2 (j % 16) (by omega)
      rw [addr_add_add, show j / 16 * 16 + j % 16 = j by omega] at h1
      rw [h1]
      have h2 := flat_at hD (j / 16) (by simpa using hk) (j % 16) (by omega)
      rw [show j / 16 * 16 + j % 16 = j by omega] at h2
      unfold Ds U at hy
      unfold U
      rw [List.getElem?_map, h2] at hy
      rw [List.getElem?_map, ← hy]
      simp
end

end Go.Proofs.Ytoigpokmlohhkaa
