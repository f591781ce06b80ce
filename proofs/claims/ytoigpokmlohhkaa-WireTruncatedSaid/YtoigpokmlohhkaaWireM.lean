/-
  THE ROWS' ARGUMENTS: how much room they have (the reach).
-/
import Derived.Test.YtoigpokmlohhkaaWireP1
import Derived.Test.YtoigpokmlohhkaaWireLaws
import Derived.SizedLaws
namespace Go.Proofs.Ytoigpokmlohhkaa
open Go.RowKit Go.ChangeShapes Go.WideShapes Go.ChangeAt

theorem bs_beq (s : ByteArray) : (s.toList == s.toList) = true := by simp

section
variable {H : Type} {enc : TypeId × Value → H} {P : Program} {W : World} {r : Reach} {b0 : Nat} {v : Value} {d : DataW H} {p : List MemPlace}

theorem room_slice {ts : List TypeId} {ds : List (DataW H)} (h : (DataW.weightsEach P ts ds).all (· ≤ reachBytes) = true) {j : Nat} {t e : TypeId} (ht : ts[j]? = some t) (hd : ds[j]? = some d) (hu : P.underlying t = some (.slice e))
    {A : Option Addr} {n c : Nat} (ht2 : DataW.Trod enc P W 0 (fun _ => true) true t (.slice A n c) d p) : c * P.bytesOf e ≤ reachBytes := by
  obtain ⟨fuel, hf⟩ := ht2
  rcases DataW.trod_slice hu hf with ⟨hcs, _⟩ | ⟨a, len, cap, el, rest, m, _, hcs, hx, _, hl, _, hlen, _, hsp, _⟩
  · simp [Value.cells] at hcs
    obtain ⟨rfl, rfl, rfl⟩ := hcs
    simp
  · simp [Value.cells] at hcs
    obtain ⟨rfl, rfl, rfl⟩ := hcs
    have hd2 : d = .slice (el.map (·.1)) (rest.map (·.1)) := congrArg Prod.fst hx
    subst hd2
    have h1 := sized_slice h ht hd hu
    have h2 := (hsp rfl).1
    rw [List.length_map, List.length_map, h2, hlen, show n + (c - n) = c by omega] at h1
    exact h1
theorem room_str {ts : List TypeId} {ds : List (DataW H)} (h : (DataW.weightsEach P ts ds).all (· ≤ reachBytes) = true) {j : Nat} {t : TypeId} (ht : ts[j]? = some t) (hd : ds[j]? = some d) (hu : P.underlying t = some .string)
    (hv : Value.okWide P W r b0 t v) (ht2 : DataW.Trod enc P W 0 (fun _ => true) true t v d p) : ∃ s : ByteArray, v = .string s ∧ s.size ≤ reachBytes := by
  obtain ⟨s, rfl, rfl, _, _⟩ := ChangeMaps.open_string hu hv ht2
  have h1 := sized_string h ht hd
  rw [Array.length_toList] at h1
  exact ⟨s, rfl, h1⟩
end

end Go.Proofs.Ytoigpokmlohhkaa
