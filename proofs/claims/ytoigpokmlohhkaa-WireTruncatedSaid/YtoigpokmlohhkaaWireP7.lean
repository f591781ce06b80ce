/-
  The encoders answer as the specification does: the walk of WireEncodeMatchesSpec.
-/
import Derived.Test.YtoigpokmlohhkaaWireFew
import Derived.Test.YtoigpokmlohhkaaWireN
import Derived.Test.YtoigpokmlohhkaaWireP4
import Derived.Test.YtoigpokmlohhkaaWireP2
namespace Go.Proofs.Ytoigpokmlohhkaa
open Go.RowKit Go.ChangeShapes Go.WideShapes Go.ChangeAt

theorem tot_mem {l : List ByteArray} {s : ByteArray} (h : s ∈ l) : s.size ≤ tot l := by
  induction l with
  | nil => cases h
  | cons x r ih =>
    have e : tot (x :: r) = x.size + tot r := rfl
    rcases List.mem_cons.1 h with rfl | h
    · omega
    · have := ih h; omega
theorem texts_len (l : List ByteArray) (h : l.length + tot l ≤ 1000000) : (Wm.encL encT l).length ≤ 10 + 10 * l.length + tot l := by
  unfold Wm.encL
  rw [List.length_append]
  have h1 := Wm.encI_len (n := (l.length : Int)) (by omega) (by omega)
  have h2 : (l.flatMap encT).length ≤ 10 * l.length + tot l := by
    clear h1
    induction l with
    | nil => simp
    | cons x r ih =>
      have e : tot (x :: r) = x.size + tot r := rfl
      rw [List.flatMap_cons, List.length_append, List.length_cons]
      rw [List.length_cons, e] at h
      have h3 := ih (by omega)
      have h4 : (encT x).length ≤ 10 + x.size := by unfold encT; rw [Wm.encB_len, Wm.ofS_length]; have := Wm.encI_len (n := (x.size : Int)) (by omega) (by omega); omega
      rw [e]
      omega
  omega
theorem texts_bytes (l : List ByteArray) : Wm.isBs (Wm.encL encT l) := fun x hx => by
  rcases List.mem_append.1 hx with hx | hx
  · exact Wm.encI_bytes _ x hx
  · obtain ⟨y, _, hx⟩ := List.mem_flatMap.1 hx
    exact Wm.encB_bytes (Wm.ofS_bytes y) x hx
theorem same_true {A A2 : Option Addr} {n c c2 : Nat} {a : Wm.Bs} {w : World} (hs : Sl w 1 A n (U a)) (hs2 : Sl w 1 A2 n (U a)) (ha : Wm.isBs a) :
    Calls Try.prog 17 #[.slice A n c, .slice A2 n c2] w fun e w' => e = .returned (.bool true) ∧ w = w' := by
  have h := same_any A A2 n c n c2 a a w hs hs2 ha ha
  rwa [decide_eq_true (rfl : a = a)] at h

end Go.Proofs.Ytoigpokmlohhkaa
