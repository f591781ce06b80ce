/-
  THE WALKS OF THE ENCODERS: of byte strings, of lists of integers and of strings, wire's and the reference's.
-/
import Derived.Test.YtoigpokmlohhkaaWireD
import Derived.Lib.AppendStr
namespace Go.Proofs.Ytoigpokmlohhkaa
open Go.RowKit

theorem strCells_U (s : ByteArray) : Lib.strCells s = U (Wm.ofS s) := by simp [Lib.strCells, U, Wm.ofS]
theorem own_str {w : World} {B : Nat} {e : TypeId} {v : Value} {a : Wm.Bs} {s : ByteArray} (h : w.ownsRow B e 1 v (a.length + s.size) (U a ++ Lib.strCells s)) : w.ownsRow B e 1 v (a ++ Wm.ofS s).length (U (a ++ Wm.ofS s)) := by
  rw [List.length_append, Wm.ofS_length, U_append, ← strCells_U]; exact h
theorem own_app {w : World} {B : Nat} {e : TypeId} {v : Value} {a b : Wm.Bs} {n : Nat} (h : w.ownsRow B e 1 v (a.length + n) (U a ++ U b)) (hn : n = b.length) : w.ownsRow B e 1 v (a ++ b).length (U (a ++ b)) := by
  rw [List.length_append, U_append, ← hn]; exact h

set_option maxHeartbeats 400000 in
theorem appendBytes_any (B : Nat) (v : Value) (xs : Wm.Bs) (s : ByteArray) (w : World) (hown : w.ownsRow B 5 1 v xs.length (U xs)) (hB : B ≤ w.heap.size)
    (hs : s.size ≤ 9223372036854775807) (hm : xs.length + (Wm.encB (Wm.ofS s)).length ≤ 140737488355328) :
    Calls Try.prog 21 #[v, .string s] w fun e w' => ∃ v', e = .returned v' ∧ w'.ownsRow B 5 1 v' (xs ++ Wm.encB (Wm.ofS s)).length (U (xs ++ Wm.encB (Wm.ofS s))) ∧ Below B w w' := by
  obtain ⟨i0, hi, hz0, hz1, hz2⟩ := info_parts u8_info
  have he : (Wm.encB (Wm.ofS s)).length = (Wm.encI s.size).length + s.size := by unfold Wm.encB; rw [List.length_append, Wm.ofS_length]
  have hc := appendInt_any B v xs s.size w hown hB (by omega) (by omega) (by omega)
  have hm2 : (xs ++ Wm.encI s.size).length + s.size ≤ 140737488355328 := by rw [List.length_append]; omega
  have heq : xs ++ Wm.encB (Wm.ofS s) = (xs ++ Wm.encI s.size) ++ Wm.ofS s := by unfold Wm.encB; rw [Wm.ofS_length, List.append_assoc]
  rw [heq]
  clear he heq hm
  have H := Lib.hid hc; clear hc
  go_enter Try.func21, Try.ntmps21
  go_wp2_with (first
    | (go_at_call 20; refine (H.out).mono ?_; rintro e w1 ⟨v1, rfl, ho, hb⟩)
    | (at_builtin; refine Lib.wpList_append_own_string _ rfl _ _ 27 9 rfl B 5 i0 Try.underlying27 Try.underlying9 hi hz0 hz1 hz2 _ _ _ rfl ho s rfl (by unfold maxLen; omega) hm2 (by have := hb.size; omega) ?_; intro v2 w2 ho2 hg2 _))
  go_ret
  exact ⟨_, rfl, own_str ho2, hb.grown hg2 (by have := hb.size; omega) (fun k hk => (ho.lt k hk).1)⟩

set_option maxHeartbeats 400000 in
theorem wireBytes_any (s : ByteArray) (w : World) (hs : s.size ≤ 9223372036854775807) (hm : (Wm.encB (Wm.ofS s)).length ≤ 140737488355328) :
    Calls Try.prog 7 #[.string s] w (Made (Wm.encB (Wm.ofS s)) w) := by
  have hc := appendBytes_any w.heap.size (.slice none 0 0) [] s w (World.ownsRow_nil _ _ _ _) (Nat.le_refl _) hs (by simpa using hm)
  simp only [List.nil_append] at hc
  have H := Lib.hid hc; clear hc
  go_enter Try.func7, Try.ntmps7
  go_wp2_with (go_at_call 21; refine (H.out).mono ?_; rintro e w' ⟨v, rfl, ho, hb⟩)
  go_ret
  exact ⟨_, rfl, ho, hb⟩

/-- Integers as cells. -/
def N64 (l : List Int) : List Value := l.map (Value.int .i64)
def inR (l : List Int) : Prop := ∀ x ∈ l, -9223372036854775808 ≤ x ∧ x ≤ 9223372036854775807

/-- How far an encoder of a list has come. -/
def Part {α : Type} (enc : α → Wm.Bs) (l : List α) (k : Nat) : Wm.Bs := Wm.encI l.length ++ (l.take k).flatMap enc
theorem Part.zero {α : Type} (enc : α → Wm.Bs) (l : List α) : Part enc l 0 = Wm.encI l.length := by simp [Part]
theorem Part.all {α : Type} (enc : α → Wm.Bs) (l : List α) : Part enc l l.length = Wm.encL enc l := by simp [Part, Wm.encL]
theorem Part.next {α : Type} (enc : α → Wm.Bs) (l : List α) (k : Nat) (h : k < l.length) : Part enc l (k + 1) = Part enc l k ++ enc l[k] := by
  unfold Part
  rw [List.take_succ_eq_append_getElem h, List.flatMap_append, List.append_assoc]
  simp
theorem Part.le {α : Type} (enc : α → Wm.Bs) (l : List α) (k : Nat) : (Part enc l k).length ≤ (Wm.encL enc l).length := by
  have e : Wm.encL enc l = Part enc l k ++ (l.drop k).flatMap enc := by
    unfold Wm.encL Part
    rw [List.append_assoc, ← List.flatMap_append, List.take_append_drop]
  rw [e, List.length_append]; omega

theorem Sl.elem {α : Type} {w : World} {A : Option Addr} {n : Nat} {l : List α} {f : α → Value} (h : Sl w 1 A n (l.map f)) {k : Nat} (hk : k < n) :
    ∃ ad, A = some ad ∧ ad.block < w.heap.size ∧ ∃ hl : k < l.length, w.cell? (ad.add k) = some (f l[k]) := by
  obtain ⟨ad, u, e, hb, hu, hc⟩ := h.at1 hk
  have hl : k < l.length := by have := h.1; rw [List.length_map] at this; omega
  rw [List.getElem?_map, List.getElem?_eq_getElem hl] at hu
  cases hu
  exact ⟨ad, e, hb, hl, hc⟩
theorem Sl.mlen {α : Type} {w : World} {A : Option Addr} {n : Nat} {l : List α} {f : α → Value} (h : Sl w 1 A n (l.map f)) : l.length = n := by have := h.1; rw [List.length_map] at this; omega

set_option maxRecDepth 100000 in
set_option maxHeartbeats 400000 in
theorem encodeInts_any (A : Option Addr) (n c : Nat) (l : List Int) (w : World) (hs : Sl w 1 A n (N64 l)) (hl : inR l) (hn : n ≤ maxLen) (hm : (Wm.encL Wm.encI l).length ≤ 140737488355328) :
    Calls Try.prog 22 #[.slice A n c, .func (.func 20) #[] #[]] w (Made (Wm.encL Wm.encI l) w) := by
  unfold maxLen at hn
  have hln := hs.mlen
  have hc := wireInt_any n w (by omega) (by omega)
  have H := Lib.hid hc; clear hc
  have HP := Lib.hid (Part.zero Wm.encI l)
  have HL := Lib.hid hln; clear hln
  go_enter Try.func22, Try.ntmps22
  go_wp2_with (go_at_call 6; refine (H.out).mono ?_; rintro e w1 ⟨v1, rfl, ho, hb⟩)
  have ho0 : w1.ownsRow w.heap.size 5 1 v1 (Part Wm.encI l 0).length (U (Part Wm.encI l 0)) := by rw [HP.out, HL.out]; exact ho
  go_loopw [5, 13] (fun b i wr => ∃ k : Nat, k ≤ n ∧ i = .int .i64 k ∧ wr.ownsRow w.heap.size 5 1 b (Part Wm.encI l k).length (U (Part Wm.encI l k)) ∧ Later w wr) (fun _ i _ => n - (intOf i).toNat)
  case atStart => exact ⟨0, Nat.zero_le _, rfl, ho0, hb⟩
  case round =>
    obtain ⟨k, hk, rfl, hor, hbr⟩ := hrel
    by_cases hlt : k < n
    · obtain ⟨ad, rfl, hbl, hlk, hcell⟩ := (hs.keep hbr).elem hlt
      have hx := hl l[k] (List.getElem_mem hlk)
      have hpl := Part.le Wm.encI l (k + 1)
      have hnx := Part.next Wm.encI l k hlk
      have hpl2 : (Part Wm.encI l k).length + (Wm.encI l[k]).length ≤ 140737488355328 := by rw [hnx, List.length_append] at hpl; omega
      have hc2 := appendInt_any w.heap.size _ _ l[k] wr hor hbr.size hx.1 hx.2 hpl2
      rw [← hnx] at hc2
      have H2 := Lib.hid hc2; clear hc2 hnx hpl hpl2
      go_wp2_with (go_at_call 20; refine (H2.out).mono ?_; rintro e w2 ⟨v2, rfl, ho2, hb2⟩)
      have hb3 : Later w w2 := hbr.trans hb2
      go_wp2
      go_roundw
      case rel => exact ⟨k + 1, by omega, by go_num, ho2, hb3⟩
      case measure => simp [intOf]; omega
    · obtain rfl : k = n := by omega
      have hfin : Part Wm.encI l k = Wm.encL Wm.encI l := by rw [← HL.out]; exact Part.all _ _
      rw [hfin] at hor
      clear hfin
      go_wp2
      go_ret
      exact ⟨_, rfl, hor, hbr⟩

/-- Strings as cells, and encoded. -/
def Strs (l : List ByteArray) : List Value := l.map Value.string
def inS (l : List ByteArray) : Prop := ∀ s ∈ l, s.size ≤ 9223372036854775807
def encT (s : ByteArray) : Wm.Bs := Wm.encB (Wm.ofS s)

set_option maxRecDepth 100000 in
set_option maxHeartbeats 400000 in
theorem encodeStrs_any (A : Option Addr) (n c : Nat) (l : List ByteArray) (w : World) (hs : Sl w 1 A n (Strs l)) (hl : inS l) (hn : n ≤ maxLen) (hm : (Wm.encL encT l).length ≤ 140737488355328) :
    Calls Try.prog 23 #[.slice A n c, .func (.func 21) #[] #[]] w (Made (Wm.encL encT l) w) := by
  unfold maxLen at hn
  have hln := hs.mlen
  have hc := wireInt_any n w (by omega) (by omega)
  have H := Lib.hid hc; clear hc
  have HP := Lib.hid (Part.zero encT l)
  have HL := Lib.hid hln; clear hln
  go_enter Try.func23, Try.ntmps23
  go_wp2_with (go_at_call 6; refine (H.out).mono ?_; rintro e w1 ⟨v1, rfl, ho, hb⟩)
  have ho0 : w1.ownsRow w.heap.size 5 1 v1 (Part encT l 0).length (U (Part encT l 0)) := by rw [HP.out, HL.out]; exact ho
  go_loopw [5, 13] (fun b i wr => ∃ k : Nat, k ≤ n ∧ i = .int .i64 k ∧ wr.ownsRow w.heap.size 5 1 b (Part encT l k).length (U (Part encT l k)) ∧ Later w wr) (fun _ i _ => n - (intOf i).toNat)
  case atStart => exact ⟨0, Nat.zero_le _, rfl, ho0, hb⟩
  case round =>
    obtain ⟨k, hk, rfl, hor, hbr⟩ := hrel
    by_cases hlt : k < n
    · obtain ⟨ad, rfl, hbl, hlk, hcell⟩ := (hs.keep hbr).elem hlt
      have hx := hl l[k] (List.getElem_mem hlk)
      have hpl := Part.le encT l (k + 1)
      have hnx := Part.next encT l k hlk
      have hpl2 : (Part encT l k).length + (encT l[k]).length ≤ 140737488355328 := by rw [hnx, List.length_append] at hpl; omega
      have hc2 := appendBytes_any w.heap.size _ _ l[k] wr hor hbr.size hx hpl2
      rw [show Part encT l k ++ Wm.encB (Wm.ofS l[k]) = Part encT l (k + 1) from hnx.symm] at hc2
      have H2 := Lib.hid hc2; clear hc2 hnx hpl hpl2
      go_wp2_with (go_at_call 21; refine (H2.out).mono ?_; rintro e w2 ⟨v2, rfl, ho2, hb2⟩)
      have hb3 : Later w w2 := hbr.trans hb2
      go_wp2
      go_roundw
      case rel => exact ⟨k + 1, by omega, by go_num, ho2, hb3⟩
      case measure => simp [intOf]; omega
    · obtain rfl : k = n := by omega
      have hfin : Part encT l k = Wm.encL encT l := by rw [← HL.out]; exact Part.all _ _
      rw [hfin] at hor
      clear hfin
      go_wp2
      go_ret
      exact ⟨_, rfl, hor, hbr⟩

set_option maxHeartbeats 400000 in
theorem wireInts_any (A : Option Addr) (n c : Nat) (l : List Int) (w : World) (hs : Sl w 1 A n (N64 l)) (hl : inR l) (hn : n ≤ maxLen) (hm : (Wm.encL Wm.encI l).length ≤ 140737488355328) :
    Calls Try.prog 8 #[.slice A n c] w (Made (Wm.encL Wm.encI l) w) := by
  have H := Lib.hid (encodeInts_any A n c l w hs hl hn hm)
  go_enter Try.func8, Try.ntmps8
  go_wp2_with (go_at_call 22; refine (H.out).mono ?_; rintro e w' ⟨v, rfl, ho, hb⟩)
  go_ret
  exact ⟨_, rfl, ho, hb⟩

set_option maxHeartbeats 400000 in
theorem wireStrs_any (A : Option Addr) (n c : Nat) (l : List ByteArray) (w : World) (hs : Sl w 1 A n (Strs l)) (hl : inS l) (hn : n ≤ maxLen) (hm : (Wm.encL encT l).length ≤ 140737488355328) :
    Calls Try.prog 9 #[.slice A n c] w (Made (Wm.encL encT l) w) := by
  have H := Lib.hid (encodeStrs_any A n c l w hs hl hn hm)
  go_enter Try.func9, Try.ntmps9
  go_wp2_with (go_at_call 23; refine (H.out).mono ?_; rintro e w' ⟨v, rfl, ho, hb⟩)
  go_ret
  exact ⟨_, rfl, ho, hb⟩

end Go.Proofs.Ytoigpokmlohhkaa
