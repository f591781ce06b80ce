/-
  THE WALK OF isa.registers.
-/
import Derived.Test.YtbnlpkjjdijfmabDoorIsaD
import Derived.Test.YtbnlpkjjdijfmabDoorShelf
import Derived.Sort.OwnSortedInts
namespace Go.Proofs.YtbnlpkjjdijfmabDoor
open Go.RowKit Go.ChangeShapes Go.WideShapes Go.ChangeAt Go.Sort

theorem int_info : (Tryd.prog.info? 3).map (fun i => (i.zero, i.size, i.bytes)) = some (some (.int .i64 0), 1, 8) := by kernel_rfl
def pushI (o : List Int) (x : Int) : List Int := if x ≠ 0 ∧ o.contains x = false then o ++ [x] else o
def pushes (l : List Int) : List Int := l.foldl pushI []
theorem pushes_snoc (l : List Int) (x : Int) : pushes (l ++ [x]) = pushI (pushes l) x := by unfold pushes; rw [List.foldl_append]; rfl
theorem pushI_len (o : List Int) (x : Int) : (pushI o x).length ≤ o.length + 1 := by unfold pushI; split <;> simp
theorem pushes_len (l : List Int) : (pushes l).length ≤ l.length := by
  have : ∀ (l : List Int) (o : List Int), (l.foldl pushI o).length ≤ o.length + l.length := by
    intro l
    induction l with
    | nil => intro o; simp
    | cons x l ih => intro o; have h1 := ih (pushI o x); have h2 := pushI_len o x; simp only [List.foldl_cons, List.length_cons] at h1 ⊢; omega
  simpa [pushes] using this l []
/-- Registers without 0, in ascending order, each once. -/
def regsI (l : List Int) : List Int := (pushes l).mergeSort fun x y => decide (x ≤ y)

theorem ownI_snoc {w : World} {B : Nat} {e : TypeId} {v : Value} {a : List Int} {x : Int} (h : w.ownsRow B e 1 v (a.length + 1) (N64 a ++ [Value.int .i64 x])) : w.ownsRow B e 1 v (a ++ [x]).length (N64 (a ++ [x])) := by
  have e1 : (a ++ [x]).length = a.length + 1 := by simp
  rw [e1, N64, List.map_append]
  exact h
theorem Sl.intAt {w : World} {A : Option Addr} {n : Nat} {l : List Int} (h : Sl w 1 A n (N64 l)) {k : Nat} (hk : k < n) : ∃ ad x, A = some ad ∧ ad.block < w.heap.size ∧ w.cell? (ad.add k) = some (.int .i64 x) ∧ Hid (l.take (k + 1) = l.take k ++ [x]) := by
  obtain ⟨ad, u, e, hb, hu, hc⟩ := h.at1 hk
  have hl : k < l.length := by have := h.1; simp only [N64, List.length_map] at this; omega
  rw [N64, List.getElem?_map, List.getElem?_eq_getElem hl] at hu
  cases hu
  exact ⟨ad, l[k], e, hb, hc, Lib.hid (List.take_succ_eq_append_getElem hl)⟩
theorem contains_any (A : Option Addr) (m c : Nat) (zs : List Int) (x : Int) (w : World) (hs : Sl w 1 A m (N64 zs)) (hm : m ≤ maxLen) :
    Calls Tryd.prog 43 #[.slice A m c, .int .i64 x] w fun e w' => e = .returned (.bool (zs.contains x)) ∧ w = w' := by
  have hl : zs.length = m := by have := hs.1; simp only [N64, List.length_map] at this; omega
  rcases Nat.eq_zero_or_pos m with h0 | h0
  · subst h0
    obtain rfl : zs = [] := List.eq_nil_of_length_eq_zero hl
    exact (Tryd.slices_Contains_int_empty A c x w).mono fun e w' ⟨h1, h2⟩ => ⟨h1, h2.symm⟩
  · obtain ⟨ad, rfl, hb, hc⟩ := hs.2 h0
    obtain ⟨b, off, sp⟩ := ad
    have hsp : sp = none := by
      have := hc 0 (.int .i64 (zs.getD 0 0)) (by unfold N64; rw [List.getElem?_map, List.getElem?_eq_getElem (by omega)]; simp [List.getD_eq_getElem?_getD, List.getElem?_eq_getElem (show 0 < zs.length by omega)])
      exact cell_spot (by simpa [Addr.add] using this)
    subst hsp
    have h := Tryd.slices_Contains_int b off m c zs x w (by omega) (by unfold maxLen at hm; omega) (fun j hj => by
      have := hc j (.int .i64 (zs.getD j 0)) (by unfold N64; rw [List.getElem?_map, List.getElem?_eq_getElem hj]; simp [List.getD_eq_getElem?_getD, List.getElem?_eq_getElem hj])
      rwa [Addr.add_mid] at this)
    rw [List.take_of_length_le (by omega)] at h
    exact h.mono fun e w' ⟨h1, h2⟩ => ⟨h1, h2.symm⟩

/-- What a maker of a list of ints answers. -/
def MadeI (l : List Int) (w : World) (e : Ending) (w' : World) : Prop := ∃ A c, e = .returned (.slice A l.length c) ∧ l.length ≤ c ∧ c ≤ maxLen ∧ Sl w' 1 A l.length (N64 l) ∧ Later w w'
theorem madeI_of {l : List Int} {w w' : World} {v : Value} (ho : w'.ownsRow w.heap.size 3 1 v l.length (N64 l)) (hb : Later w w') : MadeI l w (.returned v) w' := by
  obtain ⟨A, c, hv, h1, h2, h3, _⟩ := own_form ho
  subst hv
  exact ⟨A, c, rfl, h1, h2, h3, hb⟩
theorem sort_any (base : Nat) (v : Value) (l : List Int) (w : World) (ho : w.ownsRow base 3 1 v l.length (N64 l)) (hl : l.length ≤ 1000) :
    Calls Tryd.prog 44 #[v] w fun e w' => e = .returned (.tuple #[]) ∧ w'.ownsRow base 3 1 v (l.mergeSort fun x y => decide (x ≤ y)).length (N64 (l.mergeSort fun x y => decide (x ≤ y))) ∧ w.grownBy w' v.ownBlock := by
  have hml : (l.mergeSort fun x y => decide (x ≤ y)).length = l.length := List.length_mergeSort _
  rcases ho.2 with ⟨rfl, h0⟩ | ⟨g, cap, cur, rfl, hbase, hb, h1, h2, h3, h4⟩
  · obtain rfl : l = [] := List.eq_nil_of_length_eq_zero h0
    refine (Tryd.slices_Sort_int_none none 0 w).mono fun e w' ⟨h1, h2⟩ => ?_
    subst h2
    exact ⟨h1, by simpa using ho, ⟨rfl, rfl, rfl, Nat.le_refl _, fun _ _ _ => rfl⟩⟩
  · have hH := holds_of_blockI (ss := l) hb (by simpa [N64] using h4)
    refine (Tryd.slices_Sort_int g 0 cap l w hH (Array.getElem?_eq_some_iff.1 hb).1 (by omega)).mono fun e w' ⟨h5, n, os, h6⟩ => ?_
    subst h6
    refine ⟨h5, ?_, grownBy_sortedI _⟩
    have := ownsRow_sortedI (n := n) (os := os) (ts := l.mergeSort fun x y => decide (x ≤ y)) hml hbase hb h1 h2 h3
    rw [hml]
    exact this

set_option maxRecDepth 100000 in
set_option maxHeartbeats 1000000 in
theorem registers_any (A : Option Addr) (n c : Nat) (l : List Int) (w : World) (hs : Sl w 1 A n (N64 l)) (hn : n ≤ 10) :
    Calls Tryd.prog 39 #[.slice A n c] w (MadeI (regsI l) w) := by
  obtain ⟨i0, hi, hz0, hz1, hz2⟩ := info_parts int_info
  have hln : l.length = n := by have := hs.1; simp only [N64, List.length_map] at this; omega
  have HL := Lib.hid hln; clear hln
  go_enter Tryd.func39, Tryd.ntmps39
  go_wp2
  go_loopw [3, 8] (fun v i wr => ∃ k : Nat, k ≤ n ∧ i = .int .i64 k ∧ wr.ownsRow w.heap.size 3 1 v (pushes (l.take k)).length (N64 (pushes (l.take k))) ∧ Later w wr) (fun _ i _ => n - (intOf i).toNat)
  case atStart => exact ⟨0, Nat.zero_le _, rfl, World.ownsRow_nil _ _ _ _, Below.refl _ _⟩
  case round =>
    obtain ⟨k, hk, rfl, hor, hbr⟩ := hrel
    by_cases hlt : k < n
    · obtain ⟨ad, x, rfl, hbl, hc, HX⟩ := (hs.keep hbr).intAt hlt
      have hln2 : (pushes (l.take k)).length ≤ k := Nat.le_trans (pushes_len _) (by rw [List.length_take]; omega)
      obtain ⟨o, ho⟩ : ∃ o, o = pushes (l.take k) := ⟨_, rfl⟩
      have hnx : pushes (l.take (k + 1)) = pushI o x := by rw [HX.out, pushes_snoc, ho]
      rw [← ho] at hor hln2
      have HO := Lib.hid hnx; clear hnx ho
      obtain ⟨B, c2, rfl, g1, g2, g3, g4⟩ := own_form hor
      have HC := Lib.hid (fun w' (h : Later wr w') => contains_any B o.length c2 o x w' (g3.keep h) (by unfold maxLen; omega))
      by_cases hx0 : x = 0
      · have hp : pushI o x = o := by unfold pushI; rw [if_neg (fun h => h.1 hx0)]
        have hz : (x != 0) = false := by rw [hx0]; rfl
        clear hx0
        have HP := Lib.hid (HO.out.trans hp); clear hp
        go_wp2
        go_roundw
        case rel => exact ⟨k + 1, by omega, by go_num, by rw [HP.out]; exact hor, hbr⟩
        case measure => simp [intOf]; omega
      · have hz : (x != 0) = true := by simpa using hx0
        cases hct : o.contains x with
        | true =>
          have hp : pushI o x = o := by unfold pushI; rw [if_neg (fun h => by rw [hct] at h; cases h.2)]
          rw [hct] at HC
          clear hx0 hct
          have HP := Lib.hid (HO.out.trans hp); clear hp
          go_wp2_with (go_at_call 43; refine (HC.out _ (Below.refl _ _)).mono ?_; rintro e w1 ⟨rfl, rfl⟩)
          go_roundw
          case rel => exact ⟨k + 1, by omega, by go_num, by rw [HP.out]; exact hor, hbr⟩
          case measure => simp [intOf]; omega
        | false =>
          have hp : pushI o x = o ++ [x] := by unfold pushI; rw [if_pos ⟨hx0, hct⟩]
          rw [hct] at HC
          clear hx0 hct
          have HP := Lib.hid (HO.out.trans hp); clear hp
          go_wp2_with (first
            | (go_at_call 43; refine (HC.out _ (Below.refl _ _)).mono ?_; rintro e w1 ⟨rfl, rfl⟩)
            | (at_builtin; refine wpList_append_own _ rfl _ _ 39 rfl w.heap.size 3 i0 (.int .i64 0) 1 8 Tryd.underlying39 hi hz0 hz1 hz2 rfl (by decide) _ _ _ rfl (hor.alloc _) ⟨wr.heap.size, 0, none⟩ 1 1 [.int .i64 _] rfl rfl (cell_one_new _ _ _) (one_int _ _) (by unfold maxLen; omega) (by omega) (by have := hbr.size; simp; omega) ?_; intro v' w1 hown' hgrow _))
          have hb1 : Later w w1 := (hbr.alloc hbr.size _).grown hgrow (by have := hbr.size; simp; omega) (fun k hk => (hor.lt k hk).1)
          have ho2 := ownI_snoc hown'
          clear hown' hgrow hor
          go_wp2
          go_roundw
          case rel => exact ⟨k + 1, by omega, by go_num, by rw [HP.out]; exact ho2, hb1⟩
          case measure => simp [intOf]; omega
    · obtain rfl : k = n := by omega
      have hfin : l.take k = l := List.take_of_length_le (by rw [HL.out]; omega)
      rw [hfin] at hor
      have hpl := pushes_len l
      have hS := sort_any w.heap.size _ (pushes l) _ hor (by rw [HL.out] at hpl; omega)
      have HS := Lib.hid hS; clear hS hfin
      go_wp2_with (go_at_call 44; refine (HS.out).mono ?_; rintro e w2 ⟨rfl, ho2, hg2⟩)
      go_ret
      exact madeI_of ho2 (hbr.grown hg2 hbr.size (fun k hk => (hor.lt k hk).1))
end Go.Proofs.YtbnlpkjjdijfmabDoor
