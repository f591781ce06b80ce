/-
  THE WALKS OF THE ENCODERS: of byte strings, of lists of integers and of strings, wire's and the reference's.
-/
import Derived.Test.YtjfphjgmphlbhaaDoorJb
import Derived.Lib.AppendStr
import Derived.Deep.MidRow
import Derived.Deep.WholeRow
import Derived.Laws.CopyOwn
import Derived.Laws.ResultCell
import Derived.Great.BuildSlice
namespace Go.Proofs.YtjfphjgmphlbhaaDoor
open Go.RowKit

set_option maxRecDepth 100000 in
theorem strCells_U (s : ByteArray) : Lib.strCells s = U (Wm.ofS s) := by simp [Lib.strCells, U, Wm.ofS]
set_option maxRecDepth 100000 in
theorem own_str {w : World} {B : Nat} {e : TypeId} {v : Value} {a : Wm.Bs} {s : ByteArray} (h : w.ownsRow B e 1 v (a.length + s.size) (U a ++ Lib.strCells s)) : w.ownsRow B e 1 v (a ++ Wm.ofS s).length (U (a ++ Wm.ofS s)) := by
  rw [List.length_append, Wm.ofS_length, U_append, ← strCells_U]; exact h
set_option maxRecDepth 100000 in
theorem own_app {w : World} {B : Nat} {e : TypeId} {v : Value} {a b : Wm.Bs} {n : Nat} (h : w.ownsRow B e 1 v (a.length + n) (U a ++ U b)) (hn : n = b.length) : w.ownsRow B e 1 v (a ++ b).length (U (a ++ b)) := by
  rw [List.length_append, U_append, ← hn]; exact h

set_option maxRecDepth 100000 in
set_option maxHeartbeats 400000 in
theorem appendBytes_any (B : Nat) (v : Value) (xs : Wm.Bs) (s : ByteArray) (w : World) (hown : w.ownsRow B 5 1 v xs.length (U xs)) (hB : B ≤ w.heap.size)
    (hs : s.size ≤ 9223372036854775807) (hm : xs.length + (Wm.encB (Wm.ofS s)).length ≤ 140737488355328) :
    Calls Tryd.prog 71 #[v, .string s] w fun e w' => ∃ v', e = .returned v' ∧ w'.ownsRow B 5 1 v' (xs ++ Wm.encB (Wm.ofS s)).length (U (xs ++ Wm.encB (Wm.ofS s))) ∧ Below B w w' := by
  obtain ⟨i0, hi, hz0, hz1, hz2⟩ := info_parts u8_info
  have he : (Wm.encB (Wm.ofS s)).length = (Wm.encI s.size).length + s.size := by unfold Wm.encB; rw [List.length_append, Wm.ofS_length]
  have hc := appendInt_any B v xs s.size w hown hB (by omega) (by omega) (by omega)
  have hm2 : (xs ++ Wm.encI s.size).length + s.size ≤ 140737488355328 := by rw [List.length_append]; omega
  have heq : xs ++ Wm.encB (Wm.ofS s) = (xs ++ Wm.encI s.size) ++ Wm.ofS s := by unfold Wm.encB; rw [Wm.ofS_length, List.append_assoc]
  rw [heq]
  clear he heq hm
  have H := Lib.hid hc; clear hc
  go_enter Tryd.func71, Tryd.ntmps71
  go_wp2_with (first
    | (go_at_call 69; refine (H.out).mono ?_; rintro e w1 ⟨v1, rfl, ho, hb⟩)
    | (at_builtin; refine Lib.wpList_append_own_string _ rfl _ _ 25 9 rfl B 5 i0 Tryd.underlying25 Tryd.underlying9 hi hz0 hz1 hz2 _ _ _ rfl ho s rfl (by unfold maxLen; omega) hm2 (by have := hb.size; omega) ?_; intro v2 w2 ho2 hg2 _))
  go_ret
  exact ⟨_, rfl, own_str ho2, hb.grown hg2 (by have := hb.size; omega) (fun k hk => (ho.lt k hk).1)⟩

set_option maxRecDepth 100000 in
set_option maxHeartbeats 400000 in
theorem wireBytes_any (s : ByteArray) (w : World) (hs : s.size ≤ 9223372036854775807) (hm : (Wm.encB (Wm.ofS s)).length ≤ 140737488355328) :
    Calls Tryd.prog 74 #[.string s] w (Made (Wm.encB (Wm.ofS s)) w) := by
  have hc := appendBytes_any w.heap.size (.slice none 0 0) [] s w (World.ownsRow_nil _ _ _ _) (Nat.le_refl _) hs (by simpa using hm)
  simp only [List.nil_append] at hc
  have H := Lib.hid hc; clear hc
  go_enter Tryd.func74, Tryd.ntmps74
  go_wp2_with (go_at_call 71; refine (H.out).mono ?_; rintro e w' ⟨v, rfl, ho, hb⟩)
  go_ret
  exact ⟨_, rfl, ho, hb⟩

set_option maxRecDepth 100000 in
set_option maxHeartbeats 400000 in
theorem refBytes_any (s : ByteArray) (w : World) (hs : s.size ≤ 9223372036854775807) (hm : (Wm.encB (Wm.ofS s)).length ≤ 140737488355328) :
    Calls Tryd.prog 86 #[.string s] w (Made (Wm.encB (Wm.ofS s)) w) := by
  obtain ⟨i0, hi, hz0, hz1, hz2⟩ := info_parts u8_info
  have he : (Wm.encB (Wm.ofS s)).length = (Wm.encI s.size).length + s.size := by unfold Wm.encB; rw [List.length_append, Wm.ofS_length]
  have hc := refInt_any s.size w (by omega) (by omega)
  have hm2 : (Wm.encI s.size).length + s.size ≤ 140737488355328 := by omega
  have heq : Wm.encB (Wm.ofS s) = Wm.encI s.size ++ Wm.ofS s := by unfold Wm.encB; rw [Wm.ofS_length]
  rw [heq]
  clear he heq hm
  have H := Lib.hid hc; clear hc
  go_enter Tryd.func86, Tryd.ntmps86
  go_wp2_with (first
    | (go_at_call 85; refine (H.out).mono ?_; rintro e w1 ⟨v1, rfl, ho, hb⟩)
    | (at_builtin; refine Lib.wpList_append_own_string _ rfl _ _ 25 9 rfl w.heap.size 5 i0 Tryd.underlying25 Tryd.underlying9 hi hz0 hz1 hz2 _ _ _ rfl ho s rfl (by unfold maxLen; omega) hm2 hb.size ?_; intro v2 w2 ho2 hg2 _))
  go_ret
  exact ⟨_, rfl, own_str ho2, hb.grown hg2 hb.size (fun k hk => (ho.lt k hk).1)⟩

set_option maxRecDepth 100000 in
/-- Integers as cells. -/
def N64 (l : List Int) : List Value := l.map (Value.int .i64)
set_option maxRecDepth 100000 in
def inR (l : List Int) : Prop := ∀ x ∈ l, -9223372036854775808 ≤ x ∧ x ≤ 9223372036854775807

set_option maxRecDepth 100000 in
/-- How far an encoder of a list has come. -/
def Part {α : Type} (enc : α → Wm.Bs) (l : List α) (k : Nat) : Wm.Bs := Wm.encI l.length ++ (l.take k).flatMap enc
set_option maxRecDepth 100000 in
theorem Part.zero {α : Type} (enc : α → Wm.Bs) (l : List α) : Part enc l 0 = Wm.encI l.length := by simp [Part]
set_option maxRecDepth 100000 in
theorem Part.all {α : Type} (enc : α → Wm.Bs) (l : List α) : Part enc l l.length = Wm.encL enc l := by simp [Part, Wm.encL]
set_option maxRecDepth 100000 in
theorem Part.next {α : Type} (enc : α → Wm.Bs) (l : List α) (k : Nat) (h : k < l.length) : Part enc l (k + 1) = Part enc l k ++ enc l[k] := by
  unfold Part
  rw [List.take_succ_eq_append_getElem h, List.flatMap_append, List.append_assoc]
  simp
set_option maxRecDepth 100000 in
theorem Part.le {α : Type} (enc : α → Wm.Bs) (l : List α) (k : Nat) : (Part enc l k).length ≤ (Wm.encL enc l).length := by
  have e : Wm.encL enc l = Part enc l k ++ (l.drop k).flatMap enc := by
    unfold Wm.encL Part
    rw [List.append_assoc, ← List.flatMap_append, List.take_append_drop]
  rw [e, List.length_append]; omega

set_option maxRecDepth 100000 in
theorem Sl.elem {α : Type} {w : World} {A : Option Addr} {n : Nat} {l : List α} {f : α → Value} (h : Sl w 1 A n (l.map f)) {k : Nat} (hk : k < n) :
    ∃ ad, A = some ad ∧ ad.block < w.heap.size ∧ ∃ hl : k < l.length, w.cell? (ad.add k) = some (f l[k]) := by
  obtain ⟨ad, u, e, hb, hu, hc⟩ := h.at1 hk
  have hl : k < l.length := by have := h.1; rw [List.length_map] at this; omega
  rw [List.getElem?_map, List.getElem?_eq_getElem hl] at hu
  cases hu
  exact ⟨ad, e, hb, hl, hc⟩
set_option maxRecDepth 100000 in
theorem Sl.mlen {α : Type} {w : World} {A : Option Addr} {n : Nat} {l : List α} {f : α → Value} (h : Sl w 1 A n (l.map f)) : l.length = n := by have := h.1; rw [List.length_map] at this; omega

set_option maxRecDepth 100000 in
set_option maxHeartbeats 400000 in
theorem encodeInts_any (A : Option Addr) (n c : Nat) (l : List Int) (w : World) (hs : Sl w 1 A n (N64 l)) (hl : inR l) (hn : n ≤ maxLen) (hm : (Wm.encL Wm.encI l).length ≤ 140737488355328) :
    Calls Tryd.prog 68 #[.slice A n c, .func (.func 69) #[] #[]] w (Made (Wm.encL Wm.encI l) w) := by
  unfold maxLen at hn
  have hln := hs.mlen
  have hc := wireInt_any n w (by omega) (by omega)
  have H := Lib.hid hc; clear hc
  have HP := Lib.hid (Part.zero Wm.encI l)
  have HL := Lib.hid hln; clear hln
  go_enter Tryd.func68, Tryd.ntmps68
  go_wp2_with (go_at_call 87; refine (H.out).mono ?_; rintro e w1 ⟨v1, rfl, ho, hb⟩)
  have ho0 : w1.ownsRow w.heap.size 5 1 v1 (Part Wm.encI l 0).length (U (Part Wm.encI l 0)) := by rw [HP.out, HL.out]; exact ho
  go_loopw [5, 13] (fun b i wr => ∃ k : Nat, k ≤ n ∧ i = .int .i64 k ∧ wr.ownsRow w.heap.size 5 1 b (Part Wm.encI l k).length (U (Part Wm.encI l k)) ∧ Later w wr) (fun _ i _ => n - (intOf i).toNat)
  case atStart => exact ⟨0, Nat.zero_le _, rfl, ho0, hb⟩
  case round =>
    obtain ⟨k, hk, rfl, hor, hbr⟩ := hrel
    by_cases hlt : k < n
    · obtain ⟨ad, rfl, hbl, hlk, hcell⟩ := (hs.keep hbr).elem hlt
      have hx := hl l[k] (List.getElem_mem hlk)
      have hpl := Part.le Wm.encI l (k + 1)
      have hnx := Part.next Wm.encI l k hlk
      have hpl2 : (Part Wm.encI l k).length + (Wm.encI l[k]).length ≤ 140737488355328 := by rw [hnx, List.length_append] at hpl; omega
      have hc2 := appendInt_any w.heap.size _ _ l[k] wr hor hbr.size hx.1 hx.2 hpl2
      rw [← hnx] at hc2
      have H2 := Lib.hid hc2; clear hc2 hnx hpl hpl2
      go_wp2_with (go_at_call 69; refine (H2.out).mono ?_; rintro e w2 ⟨v2, rfl, ho2, hb2⟩)
      have hb3 : Later w w2 := hbr.trans hb2
      go_wp2
      go_roundw
      case rel => exact ⟨k + 1, by omega, by go_num, ho2, hb3⟩
      case measure => simp [intOf]; omega
    · obtain rfl : k = n := by omega
      have hfin : Part Wm.encI l k = Wm.encL Wm.encI l := by rw [← HL.out]; exact Part.all _ _
      rw [hfin] at hor
      clear hfin
      go_wp2
      go_ret
      exact ⟨_, rfl, hor, hbr⟩

set_option maxRecDepth 100000 in
/-- Strings as cells, and encoded. -/
def Strs (l : List ByteArray) : List Value := l.map Value.string
set_option maxRecDepth 100000 in
def inS (l : List ByteArray) : Prop := ∀ s ∈ l, s.size ≤ 9223372036854775807
set_option maxRecDepth 100000 in
def encT (s : ByteArray) : Wm.Bs := Wm.encB (Wm.ofS s)

set_option maxRecDepth 100000 in
set_option maxHeartbeats 400000 in
theorem encodeStrs_any (A : Option Addr) (n c : Nat) (l : List ByteArray) (w : World) (hs : Sl w 1 A n (Strs l)) (hl : inS l) (hn : n ≤ maxLen) (hm : (Wm.encL encT l).length ≤ 140737488355328) :
    Calls Tryd.prog 70 #[.slice A n c, .func (.func 71) #[] #[]] w (Made (Wm.encL encT l) w) := by
  unfold maxLen at hn
  have hln := hs.mlen
  have hc := wireInt_any n w (by omega) (by omega)
  have H := Lib.hid hc; clear hc
  have HP := Lib.hid (Part.zero encT l)
  have HL := Lib.hid hln; clear hln
  go_enter Tryd.func70, Tryd.ntmps70
  go_wp2_with (go_at_call 87; refine (H.out).mono ?_; rintro e w1 ⟨v1, rfl, ho, hb⟩)
  have ho0 : w1.ownsRow w.heap.size 5 1 v1 (Part encT l 0).length (U (Part encT l 0)) := by rw [HP.out, HL.out]; exact ho
  go_loopw [5, 13] (fun b i wr => ∃ k : Nat, k ≤ n ∧ i = .int .i64 k ∧ wr.ownsRow w.heap.size 5 1 b (Part encT l k).length (U (Part encT l k)) ∧ Later w wr) (fun _ i _ => n - (intOf i).toNat)
  case atStart => exact ⟨0, Nat.zero_le _, rfl, ho0, hb⟩
  case round =>
    obtain ⟨k, hk, rfl, hor, hbr⟩ := hrel
    by_cases hlt : k < n
    · obtain ⟨ad, rfl, hbl, hlk, hcell⟩ := (hs.keep hbr).elem hlt
      have hx := hl l[k] (List.getElem_mem hlk)
      have hpl := Part.le encT l (k + 1)
      have hnx := Part.next encT l k hlk
      have hpl2 : (Part encT l k).length + (encT l[k]).length ≤ 140737488355328 := by rw [hnx, List.length_append] at hpl; omega
      have hc2 := appendBytes_any w.heap.size _ _ l[k] wr hor hbr.size hx hpl2
      rw [show Part encT l k ++ Wm.encB (Wm.ofS l[k]) = Part encT l (k + 1) from hnx.symm] at hc2
      have H2 := Lib.hid hc2; clear hc2 hnx hpl hpl2
      go_wp2_with (go_at_call 71; refine (H2.out).mono ?_; rintro e w2 ⟨v2, rfl, ho2, hb2⟩)
      have hb3 : Later w w2 := hbr.trans hb2
      go_wp2
      go_roundw
      case rel => exact ⟨k + 1, by omega, by go_num, ho2, hb3⟩
      case measure => simp [intOf]; omega
    · obtain rfl : k = n := by omega
      have hfin : Part encT l k = Wm.encL encT l := by rw [← HL.out]; exact Part.all _ _
      rw [hfin] at hor
      clear hfin
      go_wp2
      go_ret
      exact ⟨_, rfl, hor, hbr⟩

set_option maxRecDepth 100000 in
set_option maxHeartbeats 400000 in
theorem refInts_any (A : Option Addr) (n c : Nat) (l : List Int) (w : World) (hs : Sl w 1 A n (N64 l)) (hl : inR l) (hn : n ≤ maxLen) (hm : (Wm.encL Wm.encI l).length ≤ 140737488355328) :
    Calls Tryd.prog 65 #[.slice A n c] w (Made (Wm.encL Wm.encI l) w) := by
  obtain ⟨i0, hi, hz0, hz1, hz2⟩ := info_parts u8_info
  unfold maxLen at hn
  have hln := hs.mlen
  have hc := refInt_any n w (by omega) (by omega)
  have H := Lib.hid hc; clear hc
  have HP := Lib.hid (Part.zero Wm.encI l)
  have HL := Lib.hid hln; clear hln
  go_enter Tryd.func65, Tryd.ntmps65
  go_wp2_with (go_at_call 85; refine (H.out).mono ?_; rintro e w1 ⟨v1, rfl, ho, hb⟩)
  have ho0 : w1.ownsRow w.heap.size 5 1 v1 (Part Wm.encI l 0).length (U (Part Wm.encI l 0)) := by rw [HP.out, HL.out]; exact ho
  go_loopw [3, 4] (fun b i wr => ∃ k : Nat, k ≤ n ∧ i = .int .i64 k ∧ wr.ownsRow w.heap.size 5 1 b (Part Wm.encI l k).length (U (Part Wm.encI l k)) ∧ Later w wr) (fun _ i _ => n - (intOf i).toNat)
  case atStart => exact ⟨0, Nat.zero_le _, rfl, ho0, hb⟩
  case round =>
    obtain ⟨k, hk, rfl, hor, hbr⟩ := hrel
    by_cases hlt : k < n
    · obtain ⟨ad, rfl, hbl, hlk, hcell⟩ := (hs.keep hbr).elem hlt
      have hx := hl l[k] (List.getElem_mem hlk)
      have hpl := Part.le Wm.encI l (k + 1)
      have hnx := Part.next Wm.encI l k hlk
      have hpl2 : (Part Wm.encI l k).length + (Wm.encI l[k]).length ≤ 140737488355328 := by rw [hnx, List.length_append] at hpl; omega
      have hc2 := refInt_any l[k] wr hx.1 hx.2
      have H2 := Lib.hid hc2
      have HN := Lib.hid hnx
      clear hc2 hnx hpl
      go_wp2_with (first
        | (go_at_call 85; refine (made_as H2.out).mono ?_; rintro e w2 ⟨A2, c2, rfl, _, _, _, hs2, hb2⟩; have hor2 := own_below hor hb2; have hb3 : Later w w2 := hbr.trans_ hb2)
        | (at_builtin; refine wpList_app _ rfl _ _ 25 rfl w.heap.size 5 i0 (.int .u8 0) 1 1 Tryd.underlying25 hi hz0 hz1 hz2 rfl (by decide) _ _ _ rfl hor2 A2 _ c2 _ rfl hs2 (U_one _) (by unfold maxLen; omega) (by omega) hb3.size ?_; intro v3 w3 ho3 hg3))
      have hb4 : Later w w3 := hb3.grown hg3 hb3.size (fun j hj => (hor2.lt j hj).1)
      have ho4 := own_app ho3 rfl
      rw [← HN.out] at ho4
      clear ho3 hg3 hor hor2 hs2
      go_wp2
      go_roundw
      case rel => exact ⟨k + 1, by omega, by go_num, ho4, hb4⟩
      case measure => simp [intOf]; omega
    · obtain rfl : k = n := by omega
      have hfin : Part Wm.encI l k = Wm.encL Wm.encI l := by rw [← HL.out]; exact Part.all _ _
      rw [hfin] at hor
      clear hfin
      go_wp2
      go_ret
      exact ⟨_, rfl, hor, hbr⟩

set_option maxRecDepth 100000 in
set_option maxHeartbeats 400000 in
theorem refStrs_any (A : Option Addr) (n c : Nat) (l : List ByteArray) (w : World) (hs : Sl w 1 A n (Strs l)) (hl : inS l) (hn : n ≤ maxLen) (hm : (Wm.encL encT l).length ≤ 140737488355328) :
    Calls Tryd.prog 66 #[.slice A n c] w (Made (Wm.encL encT l) w) := by
  obtain ⟨i0, hi, hz0, hz1, hz2⟩ := info_parts u8_info
  unfold maxLen at hn
  have hln := hs.mlen
  have hc := refInt_any n w (by omega) (by omega)
  have H := Lib.hid hc; clear hc
  have HP := Lib.hid (Part.zero encT l)
  have HL := Lib.hid hln; clear hln
  go_enter Tryd.func66, Tryd.ntmps66
  go_wp2_with (go_at_call 85; refine (H.out).mono ?_; rintro e w1 ⟨v1, rfl, ho, hb⟩)
  have ho0 : w1.ownsRow w.heap.size 5 1 v1 (Part encT l 0).length (U (Part encT l 0)) := by rw [HP.out, HL.out]; exact ho
  go_loopw [3, 4] (fun b i wr => ∃ k : Nat, k ≤ n ∧ i = .int .i64 k ∧ wr.ownsRow w.heap.size 5 1 b (Part encT l k).length (U (Part encT l k)) ∧ Later w wr) (fun _ i _ => n - (intOf i).toNat)
  case atStart => exact ⟨0, Nat.zero_le _, rfl, ho0, hb⟩
  case round =>
    obtain ⟨k, hk, rfl, hor, hbr⟩ := hrel
    by_cases hlt : k < n
    · obtain ⟨ad, rfl, hbl, hlk, hcell⟩ := (hs.keep hbr).elem hlt
      have hx := hl l[k] (List.getElem_mem hlk)
      have hpl := Part.le encT l (k + 1)
      have hnx := Part.next encT l k hlk
      have hpl2 : (Part encT l k).length + (encT l[k]).length ≤ 140737488355328 := by rw [hnx, List.length_append] at hpl; omega
      have hc2 : Calls Tryd.prog 86 #[.string l[k]] wr (Made (encT l[k]) wr) := refBytes_any l[k] wr hx (show (encT l[k]).length ≤ _ by omega)
      have H2 := Lib.hid hc2
      have HN := Lib.hid hnx
      clear hc2 hnx hpl
      go_wp2_with (first
        | (go_at_call 86; refine (made_as H2.out).mono ?_; rintro e w2 ⟨A2, c2, rfl, _, _, _, hs2, hb2⟩; have hor2 := own_below hor hb2; have hb3 : Later w w2 := hbr.trans_ hb2)
        | (at_builtin; refine wpList_app _ rfl _ _ 25 rfl w.heap.size 5 i0 (.int .u8 0) 1 1 Tryd.underlying25 hi hz0 hz1 hz2 rfl (by decide) _ _ _ rfl hor2 A2 _ c2 _ rfl hs2 (U_one _) (by unfold maxLen; omega) (by omega) hb3.size ?_; intro v3 w3 ho3 hg3))
      have hb4 : Later w w3 := hb3.grown hg3 hb3.size (fun j hj => (hor2.lt j hj).1)
      have ho4 := own_app ho3 rfl
      rw [← HN.out] at ho4
      clear ho3 hg3 hor hor2 hs2
      go_wp2
      go_roundw
      case rel => exact ⟨k + 1, by omega, by go_num, ho4, hb4⟩
      case measure => simp [intOf]; omega
    · obtain rfl : k = n := by omega
      have hfin : Part encT l k = Wm.encL encT l := by rw [← HL.out]; exact Part.all _ _
      rw [hfin] at hor
      clear hfin
      go_wp2
      go_ret
      exact ⟨_, rfl, hor, hbr⟩

set_option maxRecDepth 100000 in
set_option maxHeartbeats 400000 in
theorem wireInts_any (A : Option Addr) (n c : Nat) (l : List Int) (w : World) (hs : Sl w 1 A n (N64 l)) (hl : inR l) (hn : n ≤ maxLen) (hm : (Wm.encL Wm.encI l).length ≤ 140737488355328) :
    Calls Tryd.prog 47 #[.slice A n c] w (Made (Wm.encL Wm.encI l) w) := by
  have H := Lib.hid (encodeInts_any A n c l w hs hl hn hm)
  go_enter Tryd.func47, Tryd.ntmps47
  go_wp2_with (go_at_call 68; refine (H.out).mono ?_; rintro e w' ⟨v, rfl, ho, hb⟩)
  go_ret
  exact ⟨_, rfl, ho, hb⟩

set_option maxRecDepth 100000 in
set_option maxHeartbeats 400000 in
theorem wireStrs_any (A : Option Addr) (n c : Nat) (l : List ByteArray) (w : World) (hs : Sl w 1 A n (Strs l)) (hl : inS l) (hn : n ≤ maxLen) (hm : (Wm.encL encT l).length ≤ 140737488355328) :
    Calls Tryd.prog 48 #[.slice A n c] w (Made (Wm.encL encT l) w) := by
  have H := Lib.hid (encodeStrs_any A n c l w hs hl hn hm)
  go_enter Tryd.func48, Tryd.ntmps48
  go_wp2_with (go_at_call 70; refine (H.out).mono ?_; rintro e w' ⟨v, rfl, ho, hb⟩)
  go_ret
  exact ⟨_, rfl, ho, hb⟩

end Go.Proofs.YtjfphjgmphlbhaaDoor

/-
  THE WALKS OF THE DECODERS of lists of integers and of strings, wire's and the reference's.
-/
namespace Go.Proofs.YtjfphjgmphlbhaaDoor
open Go.RowKit

set_option maxRecDepth 100000 in
theorem int_info : (Tryd.prog.info? 3).map (fun i => (i.zero, i.size, i.bytes)) = some (some (.int .i64 0), 1, 8) := by kernel_rfl
set_option maxRecDepth 100000 in
theorem str_info : (Tryd.prog.info? 9).map (fun i => (i.zero, i.size, i.bytes)) = some (some (.string ⟨#[]⟩), 1, 16) := by kernel_rfl

set_option maxRecDepth 100000 in
/-- b[u:], whatever the capacity. -/
theorem cut_run {A : Option Addr} {n c u : Nat} {b : Wm.Bs} (hu : u ≤ n) (hnc : n ≤ c) :
    ∃ A', (∀ w : World, (Instr.slice 25 (.slice A n c) (some (.int .i64 u)) none none).run Tryd.prog w = .ok (.slice A' (n - u) (c - u)) w) ∧ ∀ w : World, Sl w 1 A n (U b) → Sl w 1 A' (n - u) (U (b.drop u)) := by
  refine ⟨if c = u then A else A.map (·.add u), fun w => ?_, fun w h => ?_⟩
  · have h1 := run_slice_l (P := Tryd.prog) (w := w) 25 A n c Tryd.underlying25 .i64 u (by omega) (by omega)
    have h2 : (sizeOf (Tryd.prog.elem 25)).run Tryd.prog w = .ok 1 w := by kernel_rfl
    rw [h1, h2]
    simp [Result.andThen, sliced]
  · by_cases hc : c = u
    · rw [if_pos hc]; exact h.cutEnd hu hnc hc
    · rw [if_neg hc]; exact h.cutB hu hnc hc

set_option maxRecDepth 100000 in
theorem isBs_drop {b : Wm.Bs} (h : Wm.isBs b) (p : Nat) : Wm.isBs (b.drop p) := fun x hx => h x (List.mem_of_mem_drop hx)
set_option maxRecDepth 100000 in
theorem own_snoc64 {w : World} {B : Nat} {e : TypeId} {v : Value} {a : List Int} {x : Int} (h : w.ownsRow B e 1 v (a.length + 1) (N64 a ++ [Value.int .i64 x])) : w.ownsRow B e 1 v (a ++ [x]).length (N64 (a ++ [x])) := by
  have e1 : (a ++ [x]).length = a.length + 1 := by simp
  have e2 : N64 (a ++ [x]) = N64 a ++ [Value.int .i64 x] := by simp [N64]
  rw [e1, e2]
  exact h

set_option maxRecDepth 100000 in
/-- What a decoder of a list answers. -/
def GotInts (r : List Int × Nat × Int) (w : World) (e : Ending) (w' : World) : Prop :=
  ∃ A n c, e = .returned (.tuple #[.slice A n c, .int .i64 r.2.1, .int .i64 r.2.2]) ∧ n ≤ c ∧ c ≤ maxLen ∧ Sl w' 1 A n (N64 r.1) ∧ Later w w'

set_option maxRecDepth 100000 in
set_option maxHeartbeats 400000 in
theorem decodeInts_any (A : Option Addr) (n c : Nat) (b : Wm.Bs) (w : World) (hs : Sl w 1 A n (U b)) (hb : Wm.isBs b) (hnc : n ≤ c) (hn : c ≤ maxLen) (hsm : n ≤ 1000000) :
    Calls Tryd.prog 56 #[.slice A n c, .int .i64 1, .func (.func 57) #[] #[]] w (GotInts (Wm.decL Wm.decI 1 b) w) := by
  obtain ⟨i0, hi, hz0, hz1, hz2⟩ := info_parts int_info
  have hc := getLength_any A n c b 1 w hs hb (by omega) (by omega) (by omega)
  unfold maxLen at hn
  obtain ⟨z, u, e, hr⟩ : ∃ z u e, Wm.decLen b 1 = (z, u, e) := ⟨_, _, _, rfl⟩
  have H := Lib.hid (Calls.out3 hc hr)
  have hok := Wm.decLen_ok hb (by decide) hr
  rw [hs.blen] at hok
  rcases hok with ⟨he, h1, h2, h3, h4, h5, _⟩ | ⟨hz, hu, he⟩
  · subst he
    obtain ⟨m, rfl⟩ := Int.eq_ofNat_of_zero_le h1
    have hst := Wm.Going.start (get := Wm.decI) hr
    rw [Int.toNat_natCast] at h5
    obtain ⟨fin, hfin⟩ : ∃ fin, Wm.decL Wm.decI 1 b = fin := ⟨_, rfl⟩
    rw [hfin] at hst ⊢
    have hm8 : i0.bytes * m ≤ 281474976710656 := by rw [hz2]; omega
    clear hr hc hfin h1 h2
    have t1 : ((0 : Int) != 0) = false := rfl
    go_enter Tryd.func56, Tryd.ntmps56
    go_wp2_with (first
      | (go_at_call 83; refine (H.out).mono ?_; rintro e w' ⟨rfl, rfl⟩)
      | (at_make; refine wpList_make_own _ rfl _ _ 44 rfl w.heap.size 3 i0 (.int .i64 0) 1 Tryd.underlying44 hi hz0 hz1 _ _ _ m rfl rfl rfl hm8 (by unfold maxLen; omega) (Nat.le_refl _) ?_; intro w1 hown1 hg1))
    have hb1 : Later w w1 := (Below.refl _ _).grown hg1 (Nat.le_refl _) (fun k hk => by cases hk)
    go_loopw [10, 12, 29] (fun at_ lv i wr => ∃ (k p : Nat) (acc : List Int), k ≤ m ∧ p ≤ n ∧ i = .int .i64 k ∧ at_ = .int .i64 p ∧ acc.length ≤ k ∧ Wm.Going Wm.decI b m k acc p fin ∧ wr.ownsRow w.heap.size 3 1 lv acc.length (N64 acc) ∧ Later w wr) (fun _ _ i _ => m - (intOf i).toNat)
    case atStart => exact ⟨0, u, [], Nat.zero_le _, by omega, rfl, rfl, Nat.le_refl _, hst, hown1, hb1⟩
    case round =>
      obtain ⟨k, p, acc, hk, hp, rfl, rfl, hal, hgo, hor, hbr⟩ := hrel
      by_cases hlt : k < m
      · obtain ⟨A', hcut, hsl⟩ := cut_run (A := A) (n := n) (c := c) (u := p) (b := b) hp hnc
        have hs2 := hsl wr (hs.keep hbr)
        have hbd := isBs_drop hb p
        have hlen2 := hs2.blen
        have hc2 := getInt_any A' (n - p) (c - p) (b.drop p) wr hs2 hbd (by unfold maxLen; omega)
        obtain ⟨x, q, e, hr2⟩ : ∃ x q e, Wm.decI (b.drop p) = (x, q, e) := ⟨_, _, _, rfl⟩
        have H2 := Lib.hid (Calls.out3 hc2 hr2)
        have hok2 := Wm.decI_ok hbd hr2
        rw [hlen2] at hok2
        clear hc2 hlen2 hsl
        rcases hok2 with ⟨he, q1, q2, q3, _⟩ | ⟨hx, hq, he⟩
        · subst he
          have hgn := hgo.next hlt hr2
          clear hr2 hgo
          go_wp2_with (first
            | (go_at_call 57; refine (H2.out).mono ?_; rintro e w' ⟨rfl, rfl⟩)
            | (at_builtin; refine wpList_append_own _ rfl _ _ 44 rfl w.heap.size 3 i0 (.int .i64 0) 1 8 Tryd.underlying44 hi hz0 hz1 hz2 rfl (by decide) _ _ _ rfl (hor.alloc _) ⟨wr.heap.size, 0, none⟩ 1 1 [.int .i64 _] rfl rfl (cell_one_new _ _ _) (one_int _ _) (by unfold maxLen; omega) (by omega) (by have := hbr.size; simp; omega) ?_; intro v' w2 hown' hgrow _))
          have hb2 : Later w w2 := (hbr.alloc hbr.size _).grown hgrow (by have := hbr.size; simp; omega) (fun k hk => (hor.lt k hk).1)
          have ho2 := own_snoc64 hown'
          clear hown' hgrow hor
          go_wp2
          go_roundw
          case rel => exact ⟨k + 1, p + q, _, by omega, by omega, by go_num, by go_num, by simp; omega, hgn, ho2, hb2⟩
          case measure => simp [intOf]; omega
        · subst hx hq
          have hgn := Lib.hid (hgo.bad hlt hr2 (by omega))
          clear hr2 hgo
          have t1 : (e != 0) = true := neq_true (by omega)
          go_wp2_with (go_at_call 57; refine (H2.out).mono ?_; rintro e w' ⟨rfl, rfl⟩)
          go_ret3
          rw [hgn.out]
          exact ⟨none, 0, 0, rfl, Nat.le_refl _, Nat.zero_le _, Sl.nil _ _ _, hbr⟩
      · obtain rfl : k = m := by omega
        have hgn := Lib.hid hgo.end_
        obtain ⟨A2, c2, hv2, hc2, hc3, hs2, _⟩ := own_form hor
        rw [hv2]
        clear hgo hv2
        go_wp2
        go_ret3
        rw [hgn.out]
        exact ⟨A2, _, c2, rfl, hc2, hc3, hs2, hbr⟩
  · subst hz hu
    have hq : Wm.decL Wm.decI 1 b = ([], 0, e) := by unfold Wm.decL; rw [hr]; rw [if_pos (by simp only; omega)]
    have HQ := Lib.hid hq; clear hq hr hc
    have t1 : (e != 0) = true := neq_true (by omega)
    go_enter Tryd.func56, Tryd.ntmps56
    go_wp2_with (go_at_call 83; refine (H.out).mono ?_; rintro e w' ⟨rfl, rfl⟩)
    go_ret3
    rw [HQ.out]
    exact ⟨none, 0, 0, rfl, Nat.le_refl _, Nat.zero_le _, Sl.nil _ _ _, Below.refl _ _⟩

set_option maxRecDepth 100000 in
theorem Calls.outB {P : Program} {f : FuncId} {args : Array Value} {w : World} {r : Wm.Bs × Nat × Int} {z : Wm.Bs} {u : Nat} {e : Int} (h : Calls P f args w fun x w' => x = .returned (ansB r) ∧ w = w') (hr : r = (z, u, e)) :
    Calls P f args w fun x w' => x = .returned (.tuple #[.string (strOfNums z), .int .i64 u, .int .i64 e]) ∧ w = w' := by subst hr; exact h
set_option maxRecDepth 100000 in
/-- Byte strings as cells. -/
def T64 (l : List Wm.Bs) : List Value := l.map fun b => Value.string (strOfNums b)
set_option maxRecDepth 100000 in
theorem own_snocT {w : World} {B : Nat} {e : TypeId} {v : Value} {a : List Wm.Bs} {x : Wm.Bs} (h : w.ownsRow B e 1 v (a.length + 1) (T64 a ++ [Value.string (strOfNums x)])) : w.ownsRow B e 1 v (a ++ [x]).length (T64 (a ++ [x])) := by
  have e1 : (a ++ [x]).length = a.length + 1 := by simp
  have e2 : T64 (a ++ [x]) = T64 a ++ [Value.string (strOfNums x)] := by simp [T64]
  rw [e1, e2]
  exact h
set_option maxRecDepth 100000 in
theorem one_str (s : ByteArray) : ∀ u ∈ [Value.string s], u.oneCell' = true := by
  intro u hu
  obtain rfl : u = .string s := by simpa using hu
  rfl
set_option maxRecDepth 100000 in
def GotStrs (r : List Wm.Bs × Nat × Int) (w : World) (e : Ending) (w' : World) : Prop :=
  ∃ A n c, e = .returned (.tuple #[.slice A n c, .int .i64 r.2.1, .int .i64 r.2.2]) ∧ n ≤ c ∧ c ≤ maxLen ∧ Sl w' 1 A n (T64 r.1) ∧ Later w w'

set_option maxRecDepth 100000 in
set_option maxHeartbeats 400000 in
theorem decodeStrs_any (A : Option Addr) (n c : Nat) (b : Wm.Bs) (w : World) (hs : Sl w 1 A n (U b)) (hb : Wm.isBs b) (hnc : n ≤ c) (hn : c ≤ maxLen) (hsm : n ≤ 1000000) :
    Calls Tryd.prog 58 #[.slice A n c, .int .i64 1, .func (.func 59) #[] #[]] w (GotStrs (Wm.decL Wm.decB 1 b) w) := by
  obtain ⟨i0, hi, hz0, hz1, hz2⟩ := info_parts str_info
  have hc := getLength_any A n c b 1 w hs hb (by omega) (by omega) (by omega)
  unfold maxLen at hn
  obtain ⟨z, u, e, hr⟩ : ∃ z u e, Wm.decLen b 1 = (z, u, e) := ⟨_, _, _, rfl⟩
  have H := Lib.hid (Calls.out3 hc hr)
  have hok := Wm.decLen_ok hb (by decide) hr
  rw [hs.blen] at hok
  rcases hok with ⟨he, h1, h2, h3, h4, h5, _⟩ | ⟨hz, hu, he⟩
  · subst he
    obtain ⟨m, rfl⟩ := Int.eq_ofNat_of_zero_le h1
    have hst := Wm.Going.start (get := Wm.decB) hr
    rw [Int.toNat_natCast] at h5
    obtain ⟨fin, hfin⟩ : ∃ fin, Wm.decL Wm.decB 1 b = fin := ⟨_, rfl⟩
    rw [hfin] at hst ⊢
    have hm8 : i0.bytes * m ≤ 281474976710656 := by rw [hz2]; omega
    clear hr hc hfin h1 h2
    have t1 : ((0 : Int) != 0) = false := rfl
    go_enter Tryd.func58, Tryd.ntmps58
    go_wp2_with (first
      | (go_at_call 83; refine (H.out).mono ?_; rintro e w' ⟨rfl, rfl⟩)
      | (at_make; refine wpList_make_own _ rfl _ _ 83 rfl w.heap.size 9 i0 (.string ⟨#[]⟩) 1 Tryd.underlying83 hi hz0 hz1 _ _ _ m rfl rfl rfl hm8 (by unfold maxLen; omega) (Nat.le_refl _) ?_; intro w1 hown1 hg1))
    have hb1 : Later w w1 := (Below.refl _ _).grown hg1 (Nat.le_refl _) (fun k hk => by cases hk)
    go_loopw [10, 12, 29] (fun at_ lv i wr => ∃ (k p : Nat) (acc : List Wm.Bs), k ≤ m ∧ p ≤ n ∧ i = .int .i64 k ∧ at_ = .int .i64 p ∧ acc.length ≤ k ∧ Wm.Going Wm.decB b m k acc p fin ∧ wr.ownsRow w.heap.size 9 1 lv acc.length (T64 acc) ∧ Later w wr) (fun _ _ i _ => m - (intOf i).toNat)
    case atStart => exact ⟨0, u, [], Nat.zero_le _, by omega, rfl, rfl, Nat.le_refl _, hst, hown1, hb1⟩
    case round =>
      obtain ⟨k, p, acc, hk, hp, rfl, rfl, hal, hgo, hor, hbr⟩ := hrel
      by_cases hlt : k < m
      · obtain ⟨A', hcut, hsl⟩ := cut_run (A := A) (n := n) (c := c) (u := p) (b := b) hp hnc
        have hs2 := hsl wr (hs.keep hbr)
        have hbd := isBs_drop hb p
        have hlen2 := hs2.blen
        have hc2 := getBytes_any A' (n - p) (c - p) (b.drop p) wr hs2 hbd (by omega) (by unfold maxLen; omega)
        obtain ⟨x, q, e, hr2⟩ : ∃ x q e, Wm.decB (b.drop p) = (x, q, e) := ⟨_, _, _, rfl⟩
        have H2 := Lib.hid (Calls.outB hc2 hr2)
        have hok2 := Wm.decB_ok hbd hr2
        rw [hlen2] at hok2
        clear hc2 hlen2 hsl
        rcases hok2 with ⟨he, q1, q3, _⟩ | ⟨hx, hq, he⟩
        · subst he
          have hgn := hgo.next hlt hr2
          clear hr2 hgo
          go_wp2_with (first
            | (go_at_call 59; refine (H2.out).mono ?_; rintro e w' ⟨rfl, rfl⟩)
            | (at_builtin; refine wpList_append_own _ rfl _ _ 83 rfl w.heap.size 9 i0 (.string ⟨#[]⟩) 1 16 Tryd.underlying83 hi hz0 hz1 hz2 rfl (by decide) _ _ _ rfl (hor.alloc _) ⟨wr.heap.size, 0, none⟩ 1 1 [.string _] rfl rfl (cell_one_new _ _ _) (one_str _) (by unfold maxLen; omega) (by omega) (by have := hbr.size; simp; omega) ?_; intro v' w2 hown' hgrow _))
          have hb2 : Later w w2 := (hbr.alloc hbr.size _).grown hgrow (by have := hbr.size; simp; omega) (fun k hk => (hor.lt k hk).1)
          have ho2 := own_snocT hown'
          clear hown' hgrow hor
          go_wp2
          go_roundw
          case rel => exact ⟨k + 1, p + q, _, by omega, by omega, by go_num, by go_num, by simp; omega, hgn, ho2, hb2⟩
          case measure => simp [intOf]; omega
        · subst hx hq
          have hgn := Lib.hid (hgo.bad hlt hr2 (by omega))
          clear hr2 hgo
          have t1 : (e != 0) = true := neq_true (by omega)
          go_wp2_with (go_at_call 59; refine (H2.out).mono ?_; rintro e w' ⟨rfl, rfl⟩)
          go_ret3
          rw [hgn.out]
          exact ⟨none, 0, 0, rfl, Nat.le_refl _, Nat.zero_le _, Sl.nil _ _ _, hbr⟩
      · obtain rfl : k = m := by omega
        have hgn := Lib.hid hgo.end_
        obtain ⟨A2, c2, hv2, hc2, hc3, hs2, _⟩ := own_form hor
        rw [hv2]
        clear hgo hv2
        go_wp2
        go_ret3
        rw [hgn.out]
        exact ⟨A2, _, c2, rfl, hc2, hc3, hs2, hbr⟩
  · subst hz hu
    have hq : Wm.decL Wm.decB 1 b = ([], 0, e) := by unfold Wm.decL; rw [hr]; rw [if_pos (by simp only; omega)]
    have HQ := Lib.hid hq; clear hq hr hc
    have t1 : (e != 0) = true := neq_true (by omega)
    go_enter Tryd.func58, Tryd.ntmps58
    go_wp2_with (go_at_call 83; refine (H.out).mono ?_; rintro e w' ⟨rfl, rfl⟩)
    go_ret3
    rw [HQ.out]
    exact ⟨none, 0, 0, rfl, Nat.le_refl _, Nat.zero_le _, Sl.nil _ _ _, Below.refl _ _⟩

set_option maxRecDepth 100000 in
set_option maxHeartbeats 400000 in
theorem refGetInts_any (A : Option Addr) (n c : Nat) (b : Wm.Bs) (w : World) (hs : Sl w 1 A n (U b)) (hb : Wm.isBs b) (hnc : n ≤ c) (hn : c ≤ maxLen) (hsm : n ≤ 1000000) :
    Calls Tryd.prog 40 #[.slice A n c] w (GotInts (Wm.decL Wm.decI 1 b) w) := by
  obtain ⟨i0, hi, hz0, hz1, hz2⟩ := info_parts int_info
  have hc := refLength_any A n c b 1 w hs hb (by omega) (by omega) (by omega)
  unfold maxLen at hn
  obtain ⟨z, u, e, hr⟩ : ∃ z u e, Wm.decLen b 1 = (z, u, e) := ⟨_, _, _, rfl⟩
  have H := Lib.hid (Calls.out3 hc hr)
  have hok := Wm.decLen_ok hb (by decide) hr
  rw [hs.blen] at hok
  rcases hok with ⟨he, h1, h2, h3, h4, h5, _⟩ | ⟨hz, hu, he⟩
  · subst he
    obtain ⟨m, rfl⟩ := Int.eq_ofNat_of_zero_le h1
    have hst := Wm.Going.start (get := Wm.decI) hr
    rw [Int.toNat_natCast] at h5
    obtain ⟨fin, hfin⟩ : ∃ fin, Wm.decL Wm.decI 1 b = fin := ⟨_, rfl⟩
    rw [hfin] at hst ⊢
    clear hr hc hfin h1 h2
    have t1 : ((0 : Int) != 0) = false := rfl
    go_enter Tryd.func40, Tryd.ntmps40
    go_wp2_with (go_at_call 62; refine (H.out).mono ?_; rintro e w' ⟨rfl, rfl⟩)
    go_loopw [6, 8, 9] (fun at_ lv i wr => ∃ (k p : Nat) (acc : List Int), k ≤ m ∧ p ≤ n ∧ i = .int .i64 k ∧ at_ = .int .i64 p ∧ acc.length ≤ k ∧ Wm.Going Wm.decI b m k acc p fin ∧ wr.ownsRow w.heap.size 3 1 lv acc.length (N64 acc) ∧ Later w wr) (fun _ _ i _ => m - (intOf i).toNat)
    case atStart => exact ⟨0, u, [], Nat.zero_le _, by omega, rfl, rfl, Nat.le_refl _, hst, World.ownsRow_nil _ _ _ _, Below.refl _ _⟩
    case round =>
      obtain ⟨k, p, acc, hk, hp, rfl, rfl, hal, hgo, hor, hbr⟩ := hrel
      by_cases hlt : k < m
      · obtain ⟨A', hcut, hsl⟩ := cut_run (A := A) (n := n) (c := c) (u := p) (b := b) hp hnc
        have hs2 := hsl wr (hs.keep hbr)
        have hbd := isBs_drop hb p
        have hlen2 := hs2.blen
        have hc2 := refGetInt_any A' (n - p) (c - p) (b.drop p) wr hs2 hbd (by unfold maxLen; omega)
        obtain ⟨x, q, e, hr2⟩ : ∃ x q e, Wm.decI (b.drop p) = (x, q, e) := ⟨_, _, _, rfl⟩
        have H2 := Lib.hid (Calls.out3 hc2 hr2)
        have hok2 := Wm.decI_ok hbd hr2
        rw [hlen2] at hok2
        clear hc2 hlen2 hsl
        rcases hok2 with ⟨he, q1, q2, q3, _⟩ | ⟨hx, hq, he⟩
        · subst he
          have hgn := hgo.next hlt hr2
          clear hr2 hgo
          go_wp2_with (first
            | (go_at_call 63; refine (H2.out).mono ?_; rintro e w' ⟨rfl, rfl⟩)
            | (at_builtin; refine wpList_append_own _ rfl _ _ 44 rfl w.heap.size 3 i0 (.int .i64 0) 1 8 Tryd.underlying44 hi hz0 hz1 hz2 rfl (by decide) _ _ _ rfl (hor.alloc _) ⟨wr.heap.size, 0, none⟩ 1 1 [.int .i64 _] rfl rfl (cell_one_new _ _ _) (one_int _ _) (by unfold maxLen; omega) (by omega) (by have := hbr.size; simp; omega) ?_; intro v' w2 hown' hgrow _))
          have hb2 : Later w w2 := (hbr.alloc hbr.size _).grown hgrow (by have := hbr.size; simp; omega) (fun k hk => (hor.lt k hk).1)
          have ho2 := own_snoc64 hown'
          clear hown' hgrow hor
          go_wp2
          go_roundw
          case rel => exact ⟨k + 1, p + q, _, by omega, by omega, by go_num, by go_num, by simp; omega, hgn, ho2, hb2⟩
          case measure => simp [intOf]; omega
        · subst hx hq
          have hgn := Lib.hid (hgo.bad hlt hr2 (by omega))
          clear hr2 hgo
          have t1 : (e != 0) = true := neq_true (by omega)
          go_wp2_with (go_at_call 63; refine (H2.out).mono ?_; rintro e w' ⟨rfl, rfl⟩)
          go_ret3
          rw [hgn.out]
          exact ⟨none, 0, 0, rfl, Nat.le_refl _, Nat.zero_le _, Sl.nil _ _ _, hbr⟩
      · obtain rfl : k = m := by omega
        have hgn := Lib.hid hgo.end_
        obtain ⟨A2, c2, hv2, hc2, hc3, hs2, _⟩ := own_form hor
        rw [hv2]
        clear hgo hv2
        go_wp2
        go_ret3
        rw [hgn.out]
        exact ⟨A2, _, c2, rfl, hc2, hc3, hs2, hbr⟩
  · subst hz hu
    have hq : Wm.decL Wm.decI 1 b = ([], 0, e) := by unfold Wm.decL; rw [hr]; rw [if_pos (by simp only; omega)]
    have HQ := Lib.hid hq; clear hq hr hc
    have t1 : (e != 0) = true := neq_true (by omega)
    go_enter Tryd.func40, Tryd.ntmps40
    go_wp2_with (go_at_call 62; refine (H.out).mono ?_; rintro e w' ⟨rfl, rfl⟩)
    go_ret3
    rw [HQ.out]
    exact ⟨none, 0, 0, rfl, Nat.le_refl _, Nat.zero_le _, Sl.nil _ _ _, Below.refl _ _⟩

set_option maxRecDepth 100000 in
set_option maxHeartbeats 400000 in
theorem refGetStrs_any (A : Option Addr) (n c : Nat) (b : Wm.Bs) (w : World) (hs : Sl w 1 A n (U b)) (hb : Wm.isBs b) (hnc : n ≤ c) (hn : c ≤ maxLen) (hsm : n ≤ 1000000) :
    Calls Tryd.prog 41 #[.slice A n c] w (GotStrs (Wm.decL Wm.decB 1 b) w) := by
  obtain ⟨i0, hi, hz0, hz1, hz2⟩ := info_parts str_info
  have hc := refLength_any A n c b 1 w hs hb (by omega) (by omega) (by omega)
  unfold maxLen at hn
  obtain ⟨z, u, e, hr⟩ : ∃ z u e, Wm.decLen b 1 = (z, u, e) := ⟨_, _, _, rfl⟩
  have H := Lib.hid (Calls.out3 hc hr)
  have hok := Wm.decLen_ok hb (by decide) hr
  rw [hs.blen] at hok
  rcases hok with ⟨he, h1, h2, h3, h4, h5, _⟩ | ⟨hz, hu, he⟩
  · subst he
    obtain ⟨m, rfl⟩ := Int.eq_ofNat_of_zero_le h1
    have hst := Wm.Going.start (get := Wm.decB) hr
    rw [Int.toNat_natCast] at h5
    obtain ⟨fin, hfin⟩ : ∃ fin, Wm.decL Wm.decB 1 b = fin := ⟨_, rfl⟩
    rw [hfin] at hst ⊢
    clear hr hc hfin h1 h2
    have t1 : ((0 : Int) != 0) = false := rfl
    go_enter Tryd.func41, Tryd.ntmps41
    go_wp2_with (go_at_call 62; refine (H.out).mono ?_; rintro e w' ⟨rfl, rfl⟩)
    go_loopw [6, 8, 9] (fun at_ lv i wr => ∃ (k p : Nat) (acc : List Wm.Bs), k ≤ m ∧ p ≤ n ∧ i = .int .i64 k ∧ at_ = .int .i64 p ∧ acc.length ≤ k ∧ Wm.Going Wm.decB b m k acc p fin ∧ wr.ownsRow w.heap.size 9 1 lv acc.length (T64 acc) ∧ Later w wr) (fun _ _ i _ => m - (intOf i).toNat)
    case atStart => exact ⟨0, u, [], Nat.zero_le _, by omega, rfl, rfl, Nat.le_refl _, hst, World.ownsRow_nil _ _ _ _, Below.refl _ _⟩
    case round =>
      obtain ⟨k, p, acc, hk, hp, rfl, rfl, hal, hgo, hor, hbr⟩ := hrel
      by_cases hlt : k < m
      · obtain ⟨A', hcut, hsl⟩ := cut_run (A := A) (n := n) (c := c) (u := p) (b := b) hp hnc
        have hs2 := hsl wr (hs.keep hbr)
        have hbd := isBs_drop hb p
        have hlen2 := hs2.blen
        have hc2 := refGetBytes_any A' (n - p) (c - p) (b.drop p) wr hs2 hbd (by omega) (by unfold maxLen; omega)
        obtain ⟨x, q, e, hr2⟩ : ∃ x q e, Wm.decB (b.drop p) = (x, q, e) := ⟨_, _, _, rfl⟩
        have H2 := Lib.hid (Calls.outB hc2 hr2)
        have hok2 := Wm.decB_ok hbd hr2
        rw [hlen2] at hok2
        clear hc2 hlen2 hsl
        rcases hok2 with ⟨he, q1, q3, _⟩ | ⟨hx, hq, he⟩
        · subst he
          have hgn := hgo.next hlt hr2
          clear hr2 hgo
          go_wp2_with (first
            | (go_at_call 64; refine (H2.out).mono ?_; rintro e w' ⟨rfl, rfl⟩)
            | (at_builtin; refine wpList_append_own _ rfl _ _ 83 rfl w.heap.size 9 i0 (.string ⟨#[]⟩) 1 16 Tryd.underlying83 hi hz0 hz1 hz2 rfl (by decide) _ _ _ rfl (hor.alloc _) ⟨wr.heap.size, 0, none⟩ 1 1 [.string _] rfl rfl (cell_one_new _ _ _) (one_str _) (by unfold maxLen; omega) (by omega) (by have := hbr.size; simp; omega) ?_; intro v' w2 hown' hgrow _))
          have hb2 : Later w w2 := (hbr.alloc hbr.size _).grown hgrow (by have := hbr.size; simp; omega) (fun k hk => (hor.lt k hk).1)
          have ho2 := own_snocT hown'
          clear hown' hgrow hor
          go_wp2
          go_roundw
          case rel => exact ⟨k + 1, p + q, _, by omega, by omega, by go_num, by go_num, by simp; omega, hgn, ho2, hb2⟩
          case measure => simp [intOf]; omega
        · subst hx hq
          have hgn := Lib.hid (hgo.bad hlt hr2 (by omega))
          clear hr2 hgo
          have t1 : (e != 0) = true := neq_true (by omega)
          go_wp2_with (go_at_call 64; refine (H2.out).mono ?_; rintro e w' ⟨rfl, rfl⟩)
          go_ret3
          rw [hgn.out]
          exact ⟨none, 0, 0, rfl, Nat.le_refl _, Nat.zero_le _, Sl.nil _ _ _, hbr⟩
      · obtain rfl : k = m := by omega
        have hgn := Lib.hid hgo.end_
        obtain ⟨A2, c2, hv2, hc2, hc3, hs2, _⟩ := own_form hor
        rw [hv2]
        clear hgo hv2
        go_wp2
        go_ret3
        rw [hgn.out]
        exact ⟨A2, _, c2, rfl, hc2, hc3, hs2, hbr⟩
  · subst hz hu
    have hq : Wm.decL Wm.decB 1 b = ([], 0, e) := by unfold Wm.decL; rw [hr]; rw [if_pos (by simp only; omega)]
    have HQ := Lib.hid hq; clear hq hr hc
    have t1 : (e != 0) = true := neq_true (by omega)
    go_enter Tryd.func41, Tryd.ntmps41
    go_wp2_with (go_at_call 62; refine (H.out).mono ?_; rintro e w' ⟨rfl, rfl⟩)
    go_ret3
    rw [HQ.out]
    exact ⟨none, 0, 0, rfl, Nat.le_refl _, Nat.zero_le _, Sl.nil _ _ _, Below.refl _ _⟩

end Go.Proofs.YtjfphjgmphlbhaaDoor

/-
  THE WALKS OF THE ENCODERS of digests: arrays of 16 bytes, wire's and the reference's.
-/
namespace Go.Proofs.YtjfphjgmphlbhaaDoor
open Go.RowKit

set_option maxRecDepth 100000 in
/-- A whole array read at an address. -/
theorem run_loadAt_addr {P : Program} (w : World) (ad : Addr) (ty : TypeId) (cs : List Value) (d : TypeDesc) (hc : ∀ j v, cs[j]? = some v → w.cell? (ad.add j) = some v)
    (hu : P.underlying ty = some d) (hd : d.isRow = true) (hi : (P.info? ty).map (·.size) = some cs.length) :
    (Instr.loadAt ty (.pointer (some ad))).run P w = .ok (.agg cs.toArray) w := by
  have hl : (loadCells ad cs.length).run P w = .ok cs.toArray w := run_loadCells_list (P := P) w ad cs hc
  cases hq : P.info? ty with
  | none => simp [hq] at hi
  | some i =>
    have hs : i.size = cs.length := by simpa [hq] using hi
    have hagg : (isAgg ty).run P w = .ok true w := by
      unfold isAgg
      rw [Sem.run_bind, run_underlying hu w]
      cases d <;> simp_all
    simp [Instr.loadAt, Instr.sureAddr, loadVar, Sem.run_bind, hagg, sizeOf, typeInfo, hq, hs, hl]

set_option maxRecDepth 100000 in
/-- At the operation. -/
theorem wpList_load_addr {P : Program} {ops : Array Oper} {rest : List Oper} {o : Oper} {a : Act} {w : World} {Q : Exit → Act → World → Prop} (hgd : o.guard = none) (ty : TypeId) (x : Operand) (ho : o.op = .load ty x)
    (ad : Addr) (cs : List Value) (d : TypeDesc) (hx : a.eval x = .pointer (some ad)) (hc : ∀ j v, cs[j]? = some v → w.cell? (ad.add j) = some v)
    (hu : P.underlying ty = some d) (hd : d.isRow = true) (hi : (P.info? ty).map (·.size) = some cs.length)
    (h : wpList P ops Q rest (a.put o.dst (.agg cs.toArray)) w) : wpList P ops Q (o :: rest) a w := by
  refine wpList_plain hgd fun K hK => ?_
  have hrun := run_loadAt_addr (P := P) w ad ty cs d hc hu hd hi
  unfold Oper.wp execOp
  simp only [ho, hx, Sem.run_bind, hrun, Sem.run_pure, Result.andThen_ok]
  exact hK _ _ h

set_option maxRecDepth 100000 in
/-- A whole array stored into the block that was made last. -/
theorem wpList_store_new {P : Program} {ops : Array Oper} {rest : List Oper} {o : Oper} {a : Act} {w0 : World} {Q : Exit → Act → World → Prop} (hgd : o.guard = none) (ty : TypeId) (x y : Operand) (ho : o.op = .store ty x y)
    (c c' : Array Value) (hx : a.eval x = .pointer (some ⟨w0.heap.size, 0, none⟩)) (hy : a.eval y = .agg c') (hi : (P.info? ty).map (·.size) = some c'.size) (hc : c.size = c'.size) (h1 : c'.all (·.oneCell') = true)
    (h : wpList P ops Q rest (a.put o.dst undef) (w0.alloc (.cells c' ty))) : wpList P ops Q (o :: rest) a (w0.alloc (.cells c ty)) := by
  refine wpList_plain hgd fun K hK => ?_
  have hrun := run_storeAt_new (P := P) w0 ty c c' hi hc h1
  unfold Oper.wp execOp
  simp only [ho, hx, hy, Sem.run_bind, hrun, Sem.run_pure, Result.andThen_ok]
  exact hK _ _ h

set_option maxRecDepth 100000 in
/-- Digests: lists of 16 bytes; their cells. -/
def isD (l : List Wm.Bs) : Prop := ∀ d ∈ l, d.length = 16 ∧ Wm.isBs d
set_option maxRecDepth 100000 in
def Ds (l : List Wm.Bs) : List Value := U l.flatten
set_option maxRecDepth 100000 in
theorem flat_len {l : List Wm.Bs} (h : isD l) : l.flatten.length = l.length * 16 := by
  induction l with
  | nil => rfl
  | cons d r ih =>
    rw [List.flatten_cons, List.length_append, ih (fun x hx => h x (List.mem_cons_of_mem _ hx)), (h d (List.mem_cons_self)).1, List.length_cons]
    omega
set_option maxRecDepth 100000 in
theorem flat_at {l : List Wm.Bs} (h : isD l) : ∀ (k : Nat) (hk : k < l.length) (j : Nat), j < 16 → l.flatten[k * 16 + j]? = l[k][j]? := by
  induction l with
  | nil => intro k hk; simp at hk
  | cons d r ih =>
    intro k hk j hj
    have hd := (h d (List.mem_cons_self)).1
    cases k with
    | zero => rw [List.flatten_cons, List.getElem?_append_left (by omega)]; simp
    | succ k =>
      rw [List.flatten_cons, List.getElem?_append_right (by omega), hd, show (k + 1) * 16 + j - 16 = k * 16 + j by omega]
      exact ih (fun x hx => h x (List.mem_cons_of_mem _ hx)) k (by simpa using hk) j hj
set_option maxRecDepth 100000 in
theorem Sl.digest {w : World} {A : Option Addr} {n : Nat} {l : List Wm.Bs} (h : Sl w 16 A n (Ds l)) (hl : isD l) {k : Nat} (hk : k < n) :
    ∃ ad, A = some ad ∧ ad.block < w.heap.size ∧ ∃ hkl : k < l.length, ∀ j v, (U l[k])[j]? = some v → w.cell? ((ad.add (k * 16)).add j) = some v := by
  obtain ⟨ad, e, hb, hc⟩ := h.2 (by omega)
  have hn : l.length = n := by have := h.1; unfold Ds at this; rw [U_length, flat_len hl] at this; omega
  have hkl : k < l.length := by omega
  refine ⟨ad, e, hb, hkl, fun j v hv => ?_⟩
  rw [addr_add_add]
  apply hc
  have hj : j < 16 := by
    have h16 := (hl _ (List.getElem_mem hkl)).1
    rcases Nat.lt_or_ge j 16 with h | h
    · exact h
    · rw [List.getElem?_eq_none (by rw [U_length]; omega)] at hv; cases hv
  have hf := flat_at hl k hkl j hj
  unfold Ds U at *
  rw [List.getElem?_map] at hv ⊢
  rw [hf]; exact hv
set_option maxRecDepth 100000 in
theorem Sl.dlen {w : World} {A : Option Addr} {n : Nat} {l : List Wm.Bs} (h : Sl w 16 A n (Ds l)) (hl : isD l) : l.length = n := by
  have := h.1; unfold Ds at this; rw [U_length, flat_len hl] at this; omega

set_option maxRecDepth 100000 in
theorem dig_info : (Tryd.prog.info? 69).map (fun i => (i.zero, i.size, i.bytes)) = some (some (.agg (Array.replicate 16 (.int .u8 0))), 16, 16) := by kernel_rfl
set_option maxRecDepth 100000 in
theorem dig_size : (Tryd.prog.info? 69).map (·.size) = some 16 := by kernel_rfl
set_option maxRecDepth 100000 in
theorem dig_under : Tryd.prog.underlying 69 = some (.array 16 5) := by kernel_rfl

set_option maxRecDepth 100000 in
/-- A list of digests, encoded. -/
def encD (l : List Wm.Bs) : Wm.Bs := Wm.encL id l

end Go.Proofs.YtjfphjgmphlbhaaDoor

/-
  THE WALKS OF THE DECODERS of digests, wire's and the reference's.
-/
namespace Go.Proofs.YtjfphjgmphlbhaaDoor
open Go.RowKit

set_option maxRecDepth 100000 in
theorem results_cell2 {fn : Func} {p u v : Tmp} {ty : TypeId} (h : fn.results = #[.cell p ty, .tmp u, .tmp v]) (tmps : Array Value) (P : Program) (w : World) (ad : Addr) (cs : List Value) (d : TypeDesc)
    (hp : tmps.getD p undef = .pointer (some ad)) (hc : ∀ j x, cs[j]? = some x → w.cell? (ad.add j) = some x)
    (hu : P.underlying ty = some d) (hd : d.isRow = true) (hi : (P.info? ty).map (·.size) = some cs.length) :
    (results fn tmps).run P w = .ok (.tuple #[.agg cs.toArray, tmps.getD u undef, tmps.getD v undef]) w := by
  have hl := run_loadAt_addr (P := P) w ad ty cs d hc hu hd hi
  have hl2 : (loadVar ty ad).run P w = .ok (.agg cs.toArray) w := by
    simpa [Instr.loadAt, Instr.sureAddr, Sem.run_bind, Sem.run_pure, Result.andThen_ok] using hl
  have hp' : tmps[p]?.getD undef = .pointer (some ad) := by simpa using hp
  have ha : (asAddr (tmps[p]?.getD undef)).run P w = .ok ad w := by rw [hp']; simp [asAddr]
  simp only [results, h]
  simp [Sem.run_bind, Result.andThen, ha, hl2]

set_option maxRecDepth 100000 in
def zeros16 : List Value := List.replicate 16 (.int .u8 0)
set_option maxRecDepth 100000 in
/-- What wire.getDigest answers. -/
def GotD (d : Wm.Bs) (w : World) (e : Ending) (w' : World) : Prop := e = .returned (.tuple #[.agg (U d).toArray, .int .i64 16, .int .i64 0]) ∧ Later w w'

set_option maxRecDepth 100000 in
/-- A whole array read out of the block that was made last. -/
theorem wpList_load_new {P : Program} {ops : Array Oper} {rest : List Oper} {o : Oper} {a : Act} {w0 : World} {Q : Exit → Act → World → Prop} (hgd : o.guard = none) (ty : TypeId) (x : Operand) (ho : o.op = .load ty x)
    (c : Array Value) (hx : a.eval x = .pointer (some ⟨w0.heap.size, 0, none⟩)) (n : Nat) (e : TypeId) (hu : P.underlying ty = some (.array n e)) (hi : (P.info? ty).map (·.size) = some c.size)
    (h : wpList P ops Q rest (a.put o.dst (.agg c)) (w0.alloc (.cells c ty))) : wpList P ops Q (o :: rest) a (w0.alloc (.cells c ty)) := by
  refine wpList_plain hgd fun K hK => ?_
  have hrun := run_loadAt_new (P := P) w0 ty c n e hu hi
  unfold Oper.wp execOp
  simp only [ho, hx, Sem.run_bind, hrun, Sem.run_pure, Result.andThen_ok]
  exact hK _ _ h

set_option maxRecDepth 100000 in
theorem foldl_set (xs : List Value) : ∀ (k : Nat) (Z : Array Value), k + xs.length ≤ Z.size →
    ((xs.zipIdx k).foldl (fun cs x => cs.setIfInBounds (0 + x.2) x.1) Z).toList = Z.toList.take k ++ xs ++ Z.toList.drop (k + xs.length) := by
  induction xs with
  | nil => intro k Z _; simp
  | cons x r ih =>
    intro k Z h
    rw [List.length_cons] at h
    rw [List.zipIdx_cons, List.foldl_cons, ih (k + 1) _ (by rw [Array.size_setIfInBounds]; omega)]
    have hk : k < Z.toList.length := by rw [Array.length_toList]; omega
    rw [Array.toList_setIfInBounds, Nat.zero_add, List.take_succ_eq_append_getElem (by rw [List.length_set]; exact hk), List.take_set_of_le (Nat.le_refl k), List.getElem_set_self, List.drop_set_of_lt (by omega)]
    rw [show k + 1 + r.length = k + (x :: r).length by rw [List.length_cons]; omega]
    simp only [List.append_assoc, List.cons_append, List.nil_append]

set_option maxRecDepth 100000 in
/-- A slice literal of one element that has many cells. -/
theorem wpList_build1 {P : Program} {ops : Array Oper} {rest : List Oper} {o : Oper} {a : Act} {w : World} {Q : Exit → Act → World → Prop} (hg : o.guard = none) (t e : TypeId) (x : Operand) (ho : o.op = .buildSlice t 1 #[(0, x)])
    (X : Array Value) (ie : TypeInfo) (z : Value) (hu : P.underlying t = some (.slice e)) (hie : P.info? e = some ie) (hz : ie.zero = some z) (hs : ie.size = X.size) (hpos : 0 < X.size) (hsm : X.size ≤ 16777216)
    (hx : a.eval x = .agg X) (N : Nat) (hN : w.heap.size = N)
    (h : wpList P ops Q rest (a.put o.dst (.slice (some ⟨N, 0, none⟩) 1 1)) (w.alloc (.cells X e))) : wpList P ops Q (o :: rest) a w := by
  subst hN
  refine wpList_buildSlice hg t e 1 _ ho X ie z hu hie hz (by rw [hs]; omega) (by rw [hs]; omega) ?_ h
  have e1 : (#[(0, x)].map fun (i, x) => (i, a.eval x)).toList = [(0, Value.agg X)] := by simp [hx]
  rw [e1, hs, Nat.one_mul]
  simp only [Instr.fill, Value.cells, Nat.zero_mul]
  rw [if_neg (by simp)]
  congr 1
  apply Array.ext'
  rw [← Array.foldl_toList, Array.toList_zipIdx]
  rw [foldl_set X.toList 0 _ (by simp)]
  simp

set_option maxRecDepth 100000 in
theorem sl_new2 (w2 : World) (X : Array Value) (t : TypeId) (D : Wm.Bs) (hX : X = (U D).toArray) (hD : D.length = 16) : Sl ((w2.alloc (.cells X t)).alloc (.cells X t)) 16 (some ⟨w2.heap.size + 1, 0, none⟩) 1 (U D) :=
  ⟨by rw [U_length, hD], fun _ => ⟨_, rfl, by simp, fun j u hu => World.news_of_block (heap_alloc2_new w2 _ _) j u (by rw [hX]; simpa using hu)⟩⟩
set_option maxRecDepth 100000 in
theorem own_snocD {w : World} {B : Nat} {e : TypeId} {v : Value} {a : List Wm.Bs} {x : Wm.Bs} (h : w.ownsRow B e 16 v (a.length + 1) (Ds a ++ U x)) : w.ownsRow B e 16 v (a ++ [x]).length (Ds (a ++ [x])) := by
  have e1 : (a ++ [x]).length = a.length + 1 := by simp
  have e2 : Ds (a ++ [x]) = Ds a ++ U x := by simp [Ds, U_append]
  rw [e1, e2]
  exact h
set_option maxRecDepth 100000 in
theorem isD_snoc {a : List Wm.Bs} {x : Wm.Bs} (h : isD a) (h1 : x.length = 16) (h2 : Wm.isBs x) : isD (a ++ [x]) := fun d hd => by
  rcases List.mem_append.1 hd with hd | hd
  · exact h d hd
  · rw [List.mem_singleton.1 hd]; exact ⟨h1, h2⟩

set_option maxRecDepth 100000 in
theorem digs_info : (Tryd.prog.info? 69).map (fun i => (i.size, i.bytes)) = some (16, 16) := by kernel_rfl

set_option maxRecDepth 100000 in
/-- What a decoder of a list of digests answers. -/
def GotDigs (r : List Wm.Bs × Nat × Int) (w : World) (e : Ending) (w' : World) : Prop :=
  ∃ A n c, e = .returned (.tuple #[.slice A n c, .int .i64 r.2.1, .int .i64 r.2.2]) ∧ n ≤ c ∧ c ≤ maxLen ∧ Sl w' 16 A n (Ds r.1) ∧ Later w w'

set_option maxRecDepth 100000 in
/-- One digest off a list of bytes. -/
def decD (b : Wm.Bs) : Wm.Bs × Nat × Int := (b.take 16, 16, 0)

end Go.Proofs.YtjfphjgmphlbhaaDoor

/-
  THE WALKS OF wire's GetInts, GetStrings, GetDigests, and of the reference's GetDigests.
-/
namespace Go.Proofs.YtjfphjgmphlbhaaDoor
open Go.RowKit

set_option maxRecDepth 100000 in
set_option maxHeartbeats 400000 in
theorem wireGetInts_any (A : Option Addr) (n c : Nat) (b : Wm.Bs) (w : World) (hs : Sl w 1 A n (U b)) (hb : Wm.isBs b) (hnc : n ≤ c) (hn : c ≤ maxLen) (hsm : n ≤ 1000000) :
    Calls Tryd.prog 33 #[.slice A n c] w (GotInts (Wm.decL Wm.decI 1 b) w) := by
  have H := Lib.hid (decodeInts_any A n c b w hs hb hnc hn hsm)
  go_enter Tryd.func33, Tryd.ntmps33
  go_wp2_with (go_at_call 56; refine (H.out).mono ?_; rintro e w' ⟨A2, n2, c2, rfl, h1, h2, h3, h4⟩)
  go_ret3
  exact ⟨A2, n2, c2, rfl, h1, h2, h3, h4⟩
set_option maxRecDepth 100000 in
set_option maxHeartbeats 400000 in
theorem wireGetStrs_any (A : Option Addr) (n c : Nat) (b : Wm.Bs) (w : World) (hs : Sl w 1 A n (U b)) (hb : Wm.isBs b) (hnc : n ≤ c) (hn : c ≤ maxLen) (hsm : n ≤ 1000000) :
    Calls Tryd.prog 35 #[.slice A n c] w (GotStrs (Wm.decL Wm.decB 1 b) w) := by
  have H := Lib.hid (decodeStrs_any A n c b w hs hb hnc hn hsm)
  go_enter Tryd.func35, Tryd.ntmps35
  go_wp2_with (go_at_call 58; refine (H.out).mono ?_; rintro e w' ⟨A2, n2, c2, rfl, h1, h2, h3, h4⟩)
  go_ret3
  exact ⟨A2, n2, c2, rfl, h1, h2, h3, h4⟩
set_option maxRecDepth 100000 in
/-- A digest that is being filled: the first i bytes are there. -/
def Cur (D : Wm.Bs) (i : Nat) : List Value := (U D).take i ++ List.replicate (16 - i) (.int .u8 0)
set_option maxRecDepth 100000 in
theorem Cur.zero (D : Wm.Bs) : Cur D 0 = zeros16 := by simp [Cur, zeros16]
set_option maxRecDepth 100000 in
theorem Cur.all {D : Wm.Bs} (h : D.length = 16) : Cur D 16 = U D := by
  unfold Cur
  rw [List.take_of_length_le (by rw [U_length]; omega), Nat.sub_self]
  simp
set_option maxRecDepth 100000 in
theorem Cur.len {D : Wm.Bs} (h : D.length = 16) {i : Nat} (hi : i ≤ 16) : (Cur D i).length = 16 := by
  unfold Cur; rw [List.length_append, List.length_take, U_length, List.length_replicate]; omega
set_option maxRecDepth 100000 in
theorem Cur.next {D : Wm.Bs} (h : D.length = 16) {i : Nat} (hi : i < 16) : (Cur D i).set i (.int .u8 (D.getD i 0)) = Cur D (i + 1) := by
  unfold Cur
  have hl : ((U D).take i).length = i := by rw [List.length_take, U_length]; omega
  have e1 : 16 - i = (16 - (i + 1)) + 1 := by omega
  have hU : i < (U D).length := by rw [U_length]; omega
  have hg : (U D)[i] = .int .u8 (D.getD i 0) := by
    have := U_get D i (by omega)
    rw [List.getElem?_eq_getElem hU] at this
    exact Option.some.inj this
  rw [List.set_append_right _ _ (by omega), hl, Nat.sub_self, e1, List.replicate_succ, List.set_cons_zero, List.take_succ_eq_append_getElem hU, hg, List.append_assoc]
  rfl

end Go.Proofs.YtjfphjgmphlbhaaDoor
