/-
  THE WALKS OF THE ENCODERS: of byte strings, of lists of integers and of strings, wire's and the reference's.
-/
import Derived.Test.YtkhgaikfomcjeaaWireD
import Derived.Test.YtkhgaikfomcjeaaMemArgs
import Derived.Lib.AppendStr
namespace Go.Proofs.Ytkhgaikfomcjeaa
open Go.RowKit

theorem strCells_U (s : ByteArray) : Lib.strCells s = U (Wm.ofS s) := by simp [Lib.strCells, U, Wm.ofS]
theorem own_str {w : World} {B : Nat} {e : TypeId} {v : Value} {a : Wm.Bs} {s : ByteArray} (h : w.ownsRow B e 1 v (a.length + s.size) (U a ++ Lib.strCells s)) : w.ownsRow B e 1 v (a ++ Wm.ofS s).length (U (a ++ Wm.ofS s)) := by
  rw [List.length_append, Wm.ofS_length, U_append, ← strCells_U]; exact h
theorem own_app {w : World} {B : Nat} {e : TypeId} {v : Value} {a b : Wm.Bs} {n : Nat} (h : w.ownsRow B e 1 v (a.length + n) (U a ++ U b)) (hn : n = b.length) : w.ownsRow B e 1 v (a ++ b).length (U (a ++ b)) := by
  rw [List.length_append, U_append, ← hn]; exact h

set_option maxHeartbeats 400000 in
theorem appendBytes_any (B : Nat) (v : Value) (xs : Wm.Bs) (s : ByteArray) (w : World) (hown : w.ownsRow B 5 1 v xs.length (U xs)) (hB : B ≤ w.heap.size)
    (hs : s.size ≤ 9223372036854775807) (hm : xs.length + (Wm.encB (Wm.ofS s)).length ≤ 140737488355328) :
    Calls Try.prog 28 #[v, .string s] w fun e w' => ∃ v', e = .returned v' ∧ w'.ownsRow B 5 1 v' (xs ++ Wm.encB (Wm.ofS s)).length (U (xs ++ Wm.encB (Wm.ofS s))) ∧ Below B w w' := by
  obtain ⟨i0, hi, hz0, hz1, hz2⟩ := info_parts u8_info
  have he : (Wm.encB (Wm.ofS s)).length = (Wm.encI s.size).length + s.size := by unfold Wm.encB; rw [List.length_append, Wm.ofS_length]
  have hc := appendInt_any B v xs s.size w hown hB (by omega) (by omega) (by omega)
  have hm2 : (xs ++ Wm.encI s.size).length + s.size ≤ 140737488355328 := by rw [List.length_append]; omega
  have heq : xs ++ Wm.encB (Wm.ofS s) = (xs ++ Wm.encI s.size) ++ Wm.ofS s := by unfold Wm.encB; rw [Wm.ofS_length, List.append_assoc]
  rw [heq]
  clear he heq hm
  have H := Lib.hid hc; clear hc
  go_enter Try.func28, Try.ntmps28
  go_wp2_with (first
    | (go_at_call 29; refine (H.out).mono ?_; rintro e w1 ⟨v1, rfl, ho, hb⟩)
    | (at_builtin; refine Lib.wpList_append_own_string _ rfl _ _ 29 9 rfl B 5 i0 Try.underlying29 Try.underlying9 hi hz0 hz1 hz2 _ _ _ rfl ho s rfl (by unfold maxLen; omega) hm2 (by have := hb.size; omega) ?_; intro v2 w2 ho2 hg2 _))
  go_ret
  exact ⟨_, rfl, own_str ho2, hb.grown hg2 (by have := hb.size; omega) (fun k hk => (ho.lt k hk).1)⟩

set_option maxHeartbeats 400000 in
theorem wireBytes_any (s : ByteArray) (w : World) (hs : s.size ≤ 9223372036854775807) (hm : (Wm.encB (Wm.ofS s)).length ≤ 140737488355328) :
    Calls Try.prog 18 #[.string s] w (Made (Wm.encB (Wm.ofS s)) w) := by
  have hc := appendBytes_any w.heap.size (.slice none 0 0) [] s w (World.ownsRow_nil _ _ _ _) (Nat.le_refl _) hs (by simpa using hm)
  simp only [List.nil_append] at hc
  have H := Lib.hid hc; clear hc
  go_enter Try.func18, Try.ntmps18
  go_wp2_with (go_at_call 28; refine (H.out).mono ?_; rintro e w' ⟨v, rfl, ho, hb⟩)
  go_ret
  exact ⟨_, rfl, ho, hb⟩

set_option maxHeartbeats 400000 in
theorem refBytes_any (s : ByteArray) (w : World) (hs : s.size ≤ 9223372036854775807) (hm : (Wm.encB (Wm.ofS s)).length ≤ 140737488355328) :
    Calls Try.prog 20 #[.string s] w (Made (Wm.encB (Wm.ofS s)) w) := by
  obtain ⟨i0, hi, hz0, hz1, hz2⟩ := info_parts u8_info
  have he : (Wm.encB (Wm.ofS s)).length = (Wm.encI s.size).length + s.size := by unfold Wm.encB; rw [List.length_append, Wm.ofS_length]
  have hc := refInt_any s.size w (by omega) (by omega)
  have hm2 : (Wm.encI s.size).length + s.size ≤ 140737488355328 := by omega
  have heq : Wm.encB (Wm.ofS s) = Wm.encI s.size ++ Wm.ofS s := by unfold Wm.encB; rw [Wm.ofS_length]
  rw [heq]
  clear he heq hm
  have H := Lib.hid hc; clear hc
  go_enter Try.func20, Try.ntmps20
  go_wp2_with (first
    | (go_at_call 21; refine (H.out).mono ?_; rintro e w1 ⟨v1, rfl, ho, hb⟩)
    | (at_builtin; refine Lib.wpList_append_own_string _ rfl _ _ 29 9 rfl w.heap.size 5 i0 Try.underlying29 Try.underlying9 hi hz0 hz1 hz2 _ _ _ rfl ho s rfl (by unfold maxLen; omega) hm2 hb.size ?_; intro v2 w2 ho2 hg2 _))
  go_ret
  exact ⟨_, rfl, own_str ho2, hb.grown hg2 hb.size (fun k hk => (ho.lt k hk).1)⟩


/-- How far an encoder of a list has come. -/
def Part {α : Type} (enc : α → Wm.Bs) (l : List α) (k : Nat) : Wm.Bs := Wm.encI l.length ++ (l.take k).flatMap enc
theorem Part.zero {α : Type} (enc : α → Wm.Bs) (l : List α) : Part enc l 0 = Wm.encI l.length := by simp [Part]
theorem Part.all {α : Type} (enc : α → Wm.Bs) (l : List α) : Part enc l l.length = Wm.encL enc l := by simp [Part, Wm.encL]
theorem Part.next {α : Type} (enc : α → Wm.Bs) (l : List α) (k : Nat) (h : k < l.length) : Part enc l (k + 1) = Part enc l k ++ enc l[k] := by
  unfold Part
  rw [List.take_succ_eq_append_getElem h, List.flatMap_append, List.append_assoc]
  simp
theorem Part.le {α : Type} (enc : α → Wm.Bs) (l : List α) (k : Nat) : (Part enc l k).length ≤ (Wm.encL enc l).length := by
  have e : Wm.encL enc l = Part enc l k ++ (l.drop k).flatMap enc := by
    unfold Wm.encL Part
    rw [List.append_assoc, ← List.flatMap_append, List.take_append_drop]
  rw [e, List.length_append]; omega

theorem Sl.elem {α : Type} {w : World} {A : Option Addr} {n : Nat} {l : List α} {f : α → Value} (h : Sl w 1 A n (l.map f)) {k : Nat} (hk : k < n) :
    ∃ ad, A = some ad ∧ ad.block < w.heap.size ∧ ∃ hl : k < l.length, w.cell? (ad.add k) = some (f l[k]) := by
  obtain ⟨ad, u, e, hb, hu, hc⟩ := h.at1 hk
  have hl : k < l.length := by have := h.1; rw [List.length_map] at this; omega
  rw [List.getElem?_map, List.getElem?_eq_getElem hl] at hu
  cases hu
  exact ⟨ad, e, hb, hl, hc⟩
theorem Sl.mlen {α : Type} {w : World} {A : Option Addr} {n : Nat} {l : List α} {f : α → Value} (h : Sl w 1 A n (l.map f)) : l.length = n := by have := h.1; rw [List.length_map] at this; omega

def inS (l : List ByteArray) : Prop := ∀ s ∈ l, s.size ≤ 9223372036854775807
def encT (s : ByteArray) : Wm.Bs := Wm.encB (Wm.ofS s)

end Go.Proofs.Ytkhgaikfomcjeaa
