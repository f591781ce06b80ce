/-
  THE WALKS OF THE ENCODERS: of byte strings, of lists of integers and of strings, wire's and the reference's.
-/
import Derived.Test.YtdohocbpjpnmeaaWireD
import Derived.Test.YtdohocbpjpnmeaaMemArgs
import Derived.Lib.AppendStr
namespace Go.Proofs.Ytdohocbpjpnmeaa
open Go.RowKit

theorem strCells_U (s : ByteArray) : Lib.strCells s = U (Wm.ofS s) := by simp [Lib.strCells, U, Wm.ofS]
theorem own_str {w : World} {B : Nat} {e : TypeId} {v : Value} {a : Wm.Bs} {s : ByteArray} (h : w.ownsRow B e 1 v (a.length + s.size) (U a ++ Lib.strCells s)) : w.ownsRow B e 1 v (a ++ Wm.ofS s).length (U (a ++ Wm.ofS s)) := by
  rw [List.length_append, Wm.ofS_length, U_append, ← strCells_U]; exact h
theorem own_app {w : World} {B : Nat} {e : TypeId} {v : Value} {a b : Wm.Bs} {n : Nat} (h : w.ownsRow B e 1 v (a.length + n) (U a ++ U b)) (hn : n = b.length) : w.ownsRow B e 1 v (a ++ b).length (U (a ++ b)) := by
  rw [List.length_append, U_append, ← hn]; exact h

/-- How far an encoder of a list has come. -/
def Part {α : Type} (enc : α → Wm.Bs) (l : List α) (k : Nat) : Wm.Bs := Wm.encI l.length ++ (l.take k).flatMap enc
theorem Part.zero {α : Type} (enc : α → Wm.Bs) (l : List α) : Part enc l 0 = Wm.encI l.length := by simp [Part]
theorem Part.all {α : Type} (enc : α → Wm.Bs) (l : List α) : Part enc l l.length = Wm.encL enc l := by simp [Part, Wm.encL]
theorem Part.next {α : Type} (enc : α → Wm.Bs) (l : List α) (k : Nat) (h : k < l.length) : Part enc l (k + 1) = Part enc l k ++ enc l[k] := by
  unfold Part
  rw [List.take_succ_eq_append_getElem h, List.flatMap_append, List.append_assoc]
  simp
theorem Part.le {α : Type} (enc : α → Wm.Bs) (l : List α) (k : Nat) : (Part enc l k).length ≤ (Wm.encL enc l).length := by
  have e : Wm.encL enc l = Part enc l k ++ (l.drop k).flatMap enc := by
    unfold Wm.encL Part
    rw [List.append_assoc, ← List.flatMap_append, List.take_append_drop]
  rw [e, List.length_append]; omega

theorem Sl.elem {α : Type} {w : World} {A : Option Addr} {n : Nat} {l : List α} {f : α → Value} (h : Sl w 1 A n (l.map f)) {k : Nat} (hk : k < n) :
    ∃ ad, A = some ad ∧ ad.block < w.heap.size ∧ ∃ hl : k < l.length, w.cell? (ad.add k) = some (f l[k]) := by
  obtain ⟨ad, u, e, hb, hu, hc⟩ := h.at1 hk
  have hl : k < l.length := by have := h.1; rw [List.length_map] at this; omega
  rw [List.getElem?_map, List.getElem?_eq_getElem hl] at hu
  cases hu
  exact ⟨ad, e, hb, hl, hc⟩
theorem Sl.mlen {α : Type} {w : World} {A : Option Addr} {n : Nat} {l : List α} {f : α → Value} (h : Sl w 1 A n (l.map f)) : l.length = n := by have := h.1; rw [List.length_map] at this; omega

set_option maxRecDepth 100000 in
set_option maxHeartbeats 400000 in
theorem encodeInts_any (A : Option Addr) (n c : Nat) (l : List Int) (w : World) (hs : Sl w 1 A n (N64 l)) (hl : inR l) (hn : n ≤ maxLen) (hm : (Wm.encL Wm.encI l).length ≤ 140737488355328) :
    Calls Try.prog 45 #[.slice A n c, .func (.func 46) #[] #[]] w (Made (Wm.encL Wm.encI l) w) := by
  unfold maxLen at hn
  have hln := hs.mlen
  have hc := wireInt_any n w (by omega) (by omega)
  have H := Lib.hid hc; clear hc
  have HP := Lib.hid (Part.zero Wm.encI l)
  have HL := Lib.hid hln; clear hln
  go_enter Try.func45, Try.ntmps45
  go_wp2_with (go_at_call 50; refine (H.out).mono ?_; rintro e w1 ⟨v1, rfl, ho, hb⟩)
  have ho0 : w1.ownsRow w.heap.size 5 1 v1 (Part Wm.encI l 0).length (U (Part Wm.encI l 0)) := by rw [HP.out, HL.out]; exact ho
  go_loopw [5, 13] (fun b i wr => ∃ k : Nat, k ≤ n ∧ i = .int .i64 k ∧ wr.ownsRow w.heap.size 5 1 b (Part Wm.encI l k).length (U (Part Wm.encI l k)) ∧ Later w wr) (fun _ i _ => n - (intOf i).toNat)
  case atStart => exact ⟨0, Nat.zero_le _, rfl, ho0, hb⟩
  case round =>
    obtain ⟨k, hk, rfl, hor, hbr⟩ := hrel
    by_cases hlt : k < n
    · obtain ⟨ad, rfl, hbl, hlk, hcell⟩ := (hs.keep hbr).elem hlt
      have hx := hl l[k] (List.getElem_mem hlk)
      have hpl := Part.le Wm.encI l (k + 1)
      have hnx := Part.next Wm.encI l k hlk
      have hpl2 : (Part Wm.encI l k).length + (Wm.encI l[k]).length ≤ 140737488355328 := by rw [hnx, List.length_append] at hpl; omega
      have hc2 := appendInt_any w.heap.size _ _ l[k] wr hor hbr.size hx.1 hx.2 hpl2
      rw [← hnx] at hc2
      have H2 := Lib.hid hc2; clear hc2 hnx hpl hpl2
      go_wp2_with (go_at_call 46; refine (H2.out).mono ?_; rintro e w2 ⟨v2, rfl, ho2, hb2⟩)
      have hb3 : Later w w2 := hbr.trans hb2
      go_wp2
      go_roundw
      case rel => exact ⟨k + 1, by omega, by go_num, ho2, hb3⟩
      case measure => simp [intOf]; omega
    · obtain rfl : k = n := by omega
      have hfin : Part Wm.encI l k = Wm.encL Wm.encI l := by rw [← HL.out]; exact Part.all _ _
      rw [hfin] at hor
      clear hfin
      go_wp2
      go_ret
      exact ⟨_, rfl, hor, hbr⟩

def inS (l : List ByteArray) : Prop := ∀ s ∈ l, s.size ≤ 9223372036854775807
def encT (s : ByteArray) : Wm.Bs := Wm.encB (Wm.ofS s)

set_option maxRecDepth 100000 in
set_option maxHeartbeats 400000 in
theorem refInts_any (A : Option Addr) (n c : Nat) (l : List Int) (w : World) (hs : Sl w 1 A n (N64 l)) (hl : inR l) (hn : n ≤ maxLen) (hm : (Wm.encL Wm.encI l).length ≤ 140737488355328) :
    Calls Try.prog 40 #[.slice A n c] w (Made (Wm.encL Wm.encI l) w) := by
  obtain ⟨i0, hi, hz0, hz1, hz2⟩ := info_parts u8_info
  unfold maxLen at hn
  have hln := hs.mlen
  have hc := refInt_any n w (by omega) (by omega)
  have H := Lib.hid hc; clear hc
  have HP := Lib.hid (Part.zero Wm.encI l)
  have HL := Lib.hid hln; clear hln
  go_enter Try.func40, Try.ntmps40
  go_wp2_with (go_at_call 47; refine (H.out).mono ?_; rintro e w1 ⟨v1, rfl, ho, hb⟩)
  have ho0 : w1.ownsRow w.heap.size 5 1 v1 (Part Wm.encI l 0).length (U (Part Wm.encI l 0)) := by rw [HP.out, HL.out]; exact ho
  go_loopw [3, 4] (fun b i wr => ∃ k : Nat, k ≤ n ∧ i = .int .i64 k ∧ wr.ownsRow w.heap.size 5 1 b (Part Wm.encI l k).length (U (Part Wm.encI l k)) ∧ Later w wr) (fun _ i _ => n - (intOf i).toNat)
  case atStart => exact ⟨0, Nat.zero_le _, rfl, ho0, hb⟩
  case round =>
    obtain ⟨k, hk, rfl, hor, hbr⟩ := hrel
    by_cases hlt : k < n
    · obtain ⟨ad, rfl, hbl, hlk, hcell⟩ := (hs.keep hbr).elem hlt
      have hx := hl l[k] (List.getElem_mem hlk)
      have hpl := Part.le Wm.encI l (k + 1)
      have hnx := Part.next Wm.encI l k hlk
      have hpl2 : (Part Wm.encI l k).length + (Wm.encI l[k]).length ≤ 140737488355328 := by rw [hnx, List.length_append] at hpl; omega
      have hc2 := refInt_any l[k] wr hx.1 hx.2
      have H2 := Lib.hid hc2
      have HN := Lib.hid hnx
      clear hc2 hnx hpl
      go_wp2_with (first
        | (go_at_call 47; refine (made_as H2.out).mono ?_; rintro e w2 ⟨A2, c2, rfl, _, _, _, hs2, hb2⟩; have hor2 := own_below hor hb2; have hb3 : Later w w2 := hbr.trans_ hb2)
        | (at_builtin; refine wpList_app _ rfl _ _ 50 rfl w.heap.size 5 i0 (.int .u8 0) 1 1 Try.underlying50 hi hz0 hz1 hz2 rfl (by decide) _ _ _ rfl hor2 A2 _ c2 _ rfl hs2 (U_one _) (by unfold maxLen; omega) (by omega) hb3.size ?_; intro v3 w3 ho3 hg3))
      have hb4 : Later w w3 := hb3.grown hg3 hb3.size (fun j hj => (hor2.lt j hj).1)
      have ho4 := own_app ho3 rfl
      rw [← HN.out] at ho4
      clear ho3 hg3 hor hor2 hs2
      go_wp2
      go_roundw
      case rel => exact ⟨k + 1, by omega, by go_num, ho4, hb4⟩
      case measure => simp [intOf]; omega
    · obtain rfl : k = n := by omega
      have hfin : Part Wm.encI l k = Wm.encL Wm.encI l := by rw [← HL.out]; exact Part.all _ _
      rw [hfin] at hor
      clear hfin
      go_wp2
      go_ret
      exact ⟨_, rfl, hor, hbr⟩

set_option maxHeartbeats 400000 in
theorem wireInts_any (A : Option Addr) (n c : Nat) (l : List Int) (w : World) (hs : Sl w 1 A n (N64 l)) (hl : inR l) (hn : n ≤ maxLen) (hm : (Wm.encL Wm.encI l).length ≤ 140737488355328) :
    Calls Try.prog 39 #[.slice A n c] w (Made (Wm.encL Wm.encI l) w) := by
  have H := Lib.hid (encodeInts_any A n c l w hs hl hn hm)
  go_enter Try.func39, Try.ntmps39
  go_wp2_with (go_at_call 45; refine (H.out).mono ?_; rintro e w' ⟨v, rfl, ho, hb⟩)
  go_ret
  exact ⟨_, rfl, ho, hb⟩

end Go.Proofs.Ytdohocbpjpnmeaa
