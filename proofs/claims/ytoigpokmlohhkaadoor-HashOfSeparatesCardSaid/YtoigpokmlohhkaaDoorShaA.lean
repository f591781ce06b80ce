/-
  THE WALK OF the reference's padded: a message with its padding.
-/
import Derived.Test.YtoigpokmlohhkaaDoorHashN
import Derived.Laws.OwnMore
namespace Go.Proofs.YtoigpokmlohhkaaDoor
open Go.RowKit

theorem pad_is {b : Wm.Bs} (hb : Wm.isBs b) : iv8 (Hs.pad (bv b)) = b ++ [128] ++ List.replicate (Hs.zs b.length) 0 ++ lenB b.length := by
  unfold Hs.pad
  rw [iv8_append, iv8_append, iv8_append, iv8_bv hb, bv_len]
  have e1 : iv8 [128#8] = [128] := rfl
  have e2 : iv8 (List.replicate (Hs.zs b.length) 0#8) = List.replicate (Hs.zs b.length) 0 := by unfold iv8; rw [List.map_replicate]; rfl
  rw [e1, e2]; rfl
theorem lenB_next (n k : Nat) (h : k < 8) : (lenB n).take (k + 1) = (lenB n).take k ++ [((8 * n / 2 ^ (56 - 8 * k) % 256 : Nat) : Int)] := by
  have h1 := lenB_at n (7 - k) (by omega)
  rw [show 7 - (7 - k) = k by omega, show 8 * (7 - k) = 56 - 8 * k by omega] at h1
  have hl := lenB_len n
  rw [List.take_succ_eq_append_getElem (by omega), ← h1]
  congr 2
  rw [List.getD_eq_getElem?_getD, List.getElem?_eq_getElem (by omega)]; rfl

theorem own_snocL {w : World} {B : Nat} {e : TypeId} {v : Value} {a : Wm.Bs} {x : Int} {L : Nat} (hL : L = a.length) (h : w.ownsRow B e 1 v (L + 1) (U a ++ [Value.int .u8 x])) : w.ownsRow B e 1 v (a ++ [x]).length (U (a ++ [x])) := by
  subst hL; exact own_snoc h

set_option maxRecDepth 100000 in
set_option maxHeartbeats 1000000 in
theorem refPadded_any (A : Option Addr) (n c : Nat) (b : Wm.Bs) (w : World) (hs : Sl w 1 A n (U b)) (hb : Wm.isBs b) (hn : n ≤ 100000) :
    Calls Tryd.prog 60 #[.slice A n c] w (MadeV (iv8 (Hs.pad (bv b))) w) := by
  obtain ⟨i0, hi, hz0, hz1, hz2⟩ := info_parts u8_info
  have hbl := hs.blen
  rw [pad_is hb, hbl]
  obtain ⟨Z, hZ⟩ : ∃ Z, Z = Hs.zs n := ⟨_, rfl⟩
  rw [← hZ]
  have hZ2 : Z ≤ 63 := by rw [hZ]; unfold Hs.zs; omega
  have hZm : (n + 1 + Z) % 64 = 56 := by rw [hZ]; unfold Hs.zs; omega
  have HB := Lib.hid hbl
  have HZM := Lib.hid hZm
  clear hZ hbl hZm
  go_enter Tryd.func60, Tryd.ntmps60
  go_wp2_with (first
    | (at_builtin; refine wpList_append_own _ rfl _ _ 33 rfl w.heap.size 5 i0 (.int .u8 0) 1 1 Tryd.underlying33 hi hz0 hz1 hz2 rfl (by decide) _ _ _ rfl (o2.alloc _) ⟨w2.heap.size, 0, none⟩ 1 1 [.int .u8 _] rfl rfl (cell_one_new _ _ _) (one_int _ _) (by rw [HB.out]; unfold maxLen; omega) (by rw [HB.out]; omega) (by have := l2.size; simp; omega) ?_; intro v3 w3 hown3 hgrow3 _; have l3 : Later w w3 := (l2.alloc l2.size _).grown hgrow3 (by have := l2.size; simp; omega) (fun k hk => (o2.lt k hk).1); have o3 := own_snoc hown3; clear hown3 hgrow3)
    | (at_builtin; refine wpList_app _ rfl _ _ 33 rfl w.heap.size 5 i0 (.int .u8 0) 1 1 Tryd.underlying33 hi hz0 hz1 hz2 rfl (by decide) _ _ _ rfl (World.ownsRow_lit w #[] 0 (Nat.le_refl _) (Nat.zero_le _) rfl) A n c _ rfl (hs.alloc _) (U_one _) (by unfold maxLen; omega) (by omega) (by simp) ?_; intro v2 w2 hown2 hgrow2; have l2 : Later w w2 := ((Below.refl _ _).alloc (Nat.le_refl _) _).grown hgrow2 (by simp) (fun k hk => by cases hk; exact Nat.le_refl _); have o2 : w2.ownsRow w.heap.size 5 1 v2 b.length (U b) := (by have h := hown2; rw [Nat.zero_add] at h; rw [HB.out]; exact h); clear hown2 hgrow2))
  clear o2 l2
  go_loopw [3] (fun v wr => ∃ j : Nat, j ≤ Z ∧ wr.ownsRow w.heap.size 5 1 v (b ++ [128] ++ List.replicate j 0).length (U (b ++ [128] ++ List.replicate j 0)) ∧ Later w wr) (fun v _ => (n + 1 + Z) - lenS v)
  case atStart => exact ⟨0, Nat.zero_le _, by simpa using o3, l3⟩
  case round =>
    clear o3 l3
    obtain ⟨j, hj, hor, hbr⟩ := hrel
    obtain ⟨L, hL⟩ : ∃ L, L = (b ++ [128] ++ List.replicate j (0 : Int)).length := ⟨_, rfl⟩
    have hL2 : L = n + 1 + j := by rw [hL]; simp only [List.length_append, List.length_replicate, List.length_singleton, HB.out]
    have HL := Lib.hid hL
    rw [← hL] at hor
    obtain ⟨X, cx, rfl, hx1, hx2, _, _⟩ := own_form hor
    have hl1 : n + 1 + j ≤ L := by omega
    have hl2 : L ≤ n + 1 + j := by omega
    have HL2 := Lib.hid hL2
    clear hL hL2
    by_cases hlt : j < Z
    · have ht : ((L : Int) % 64 == 56) = false := by rw [beq_eq_false_iff_ne]; have := HZM.out; omega
      have ht2 : ((L : Int) % 64 != 56) = true := by rw [bne_iff_ne]; have := HZM.out; omega
      go_wp2_with (at_builtin; refine wpList_append_own _ rfl _ _ 33 rfl w.heap.size 5 i0 (.int .u8 0) 1 1 Tryd.underlying33 hi hz0 hz1 hz2 rfl (by decide) _ _ _ rfl (hor.alloc _) ⟨wr.heap.size, 0, none⟩ 1 1 [.int .u8 _] rfl rfl (cell_one_new _ _ _) (one_int _ _) (by unfold maxLen; omega) (by omega) (by have := hbr.size; simp; omega) ?_; intro v' w1 hown' hgrow _)
      have hb1 : Later w w1 := (hbr.alloc hbr.size _).grown hgrow (by have := hbr.size; simp; omega) (fun k hk => (hor.lt k hk).1)
      have ho2 := own_snocL HL.out hown'
      rw [List.append_assoc (b ++ [128]), ← List.replicate_succ'] at ho2
      obtain ⟨X2, cx2, rfl, _, _, _, _⟩ := own_form ho2
      have hlen2 : lenS (.slice X2 (b ++ [128] ++ List.replicate (j + 1) (0 : Int)).length cx2) = n + 1 + (j + 1) := by
        show (b ++ [128] ++ List.replicate (j + 1) (0 : Int)).length = _
        simp only [List.length_append, List.length_replicate, List.length_singleton, HB.out]
      have HM := Lib.hid hlen2
      clear hown' hgrow hor hlen2
      go_wp2
      go_roundw
      case rel => exact ⟨j + 1, by omega, ho2, hb1⟩
      case measure =>
        rw [HM.out]
        show _ < n + 1 + Z - L
        omega
    · obtain rfl : j = Z := by omega
      have ht : ((L : Int) % 64 == 56) = true := by rw [beq_iff_eq]; have := HZM.out; omega
      have ht2 : ((L : Int) % 64 != 56) = false := by rw [bne_eq_false_iff_eq]; have := HZM.out; omega
      obtain ⟨P, hP⟩ : ∃ P, P = b ++ [128] ++ List.replicate j (0 : Int) := ⟨_, rfl⟩
      rw [← hP] at HL hor ⊢
      have HP := Lib.hid hP; clear hP
      go_wp2
      go_loopw [3, 5] (fun v i wr => ∃ k : Nat, k ≤ 8 ∧ i = .int .i64 k ∧ wr.ownsRow w.heap.size 5 1 v (P ++ (lenB n).take k).length (U (P ++ (lenB n).take k)) ∧ Later w wr) (fun _ i _ => 8 - (intOf i).toNat)
      case atStart => exact ⟨0, by omega, rfl, by rw [List.take_zero, List.append_nil, ← HL.out]; exact hor, hbr⟩
      case round =>
        clear hor hbr
        obtain ⟨k, hk, rfl, hor, hbr⟩ := hrel
        have hpl : (P ++ (lenB n).take k).length ≤ L + 8 := by rw [List.length_append, List.length_take, ← HL.out]; omega
        by_cases hlt : k < 8
        · have hcast : ((56 : Int) - 8 * (k : Int)).toNat = 56 - 8 * k := by omega
          obtain ⟨y, hy, hy2⟩ : ∃ y, IntKind.u8.wrap (8 * (n : Int) / 2 ^ (56 - 8 * k)) = y ∧ y = ((8 * n / 2 ^ (56 - 8 * k) % 256 : Nat) : Int) := ⟨_, rfl, by rw [IntKind.wrap_u8]; simp⟩
          have hnx := lenB_next n k hlt
          rw [← hy2] at hnx
          have HN := Lib.hid hnx
          clear hnx hy2
          go_wp2_with (at_builtin; refine wpList_append_own _ rfl _ _ 33 rfl w.heap.size 5 i0 (.int .u8 0) 1 1 Tryd.underlying33 hi hz0 hz1 hz2 rfl (by decide) _ _ _ rfl (hor.alloc _) ⟨wr.heap.size, 0, none⟩ 1 1 [.int .u8 _] rfl rfl (cell_one_new _ _ _) (one_int _ _) (by unfold maxLen; omega) (by omega) (by have := hbr.size; simp; omega) ?_; intro v' w1 hown' hgrow _)
          have hb1 : Later w w1 := (hbr.alloc hbr.size _).grown hgrow (by have := hbr.size; simp; omega) (fun k hk => (hor.lt k hk).1)
          have ho2 := own_snoc hown'
          rw [List.append_assoc P, ← HN.out] at ho2
          clear hown' hgrow hor
          go_wp2
          go_roundw
          case rel => exact ⟨k + 1, by omega, by go_num, ho2, hb1⟩
          case measure => simp [intOf]; omega
        · obtain rfl : k = 8 := by omega
          rw [List.take_of_length_le (by rw [lenB_len]; exact Nat.le_refl _)] at hor
          go_wp2
          go_ret
          exact ⟨_, rfl, by rw [← HP.out]; exact hor, hbr⟩
end Go.Proofs.YtoigpokmlohhkaaDoor
