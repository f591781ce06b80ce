/-
  THE WALK OF the reference's padded: a message with its padding.
-/
import Derived.Test.YtaihfkcoiagdaabDoorGd
import Derived.Test.YtaihfkcoiagdaabDoorGc
import Derived.Laws.OwnMore
import Derived.Stop.LaidErr
namespace Go.Proofs.YtaihfkcoiagdaabDoor
open Go.RowKit

theorem pad_is {b : Wm.Bs} (hb : Wm.isBs b) : iv8 (Hs.pad (bv b)) = b ++ [128] ++ List.replicate (Hs.zs b.length) 0 ++ lenB b.length := by
  unfold Hs.pad
  rw [iv8_append, iv8_append, iv8_append, iv8_bv hb, bv_len]
  have e1 : iv8 [128#8] = [128] := rfl
  have e2 : iv8 (List.replicate (Hs.zs b.length) 0#8) = List.replicate (Hs.zs b.length) 0 := by unfold iv8; rw [List.map_replicate]; rfl
  rw [e1, e2]; rfl
theorem lenB_next (n k : Nat) (h : k < 8) : (lenB n).take (k + 1) = (lenB n).take k ++ [((8 * n / 2 ^ (56 - 8 * k) % 256 : Nat) : Int)] := by
  have h1 := lenB_at n (7 - k) (by omega)
  rw [show 7 - (7 - k) = k by omega, show 8 * (7 - k) = 56 - 8 * k by omega] at h1
  have hl := lenB_len n
  rw [List.take_succ_eq_append_getElem (by omega), ← h1]
  congr 2
  rw [List.getD_eq_getElem?_getD, List.getElem?_eq_getElem (by omega)]; rfl

theorem own_snocL {w : World} {B : Nat} {e : TypeId} {v : Value} {a : Wm.Bs} {x : Int} {L : Nat} (hL : L = a.length) (h : w.ownsRow B e 1 v (L + 1) (U a ++ [Value.int .u8 x])) : w.ownsRow B e 1 v (a ++ [x]).length (U (a ++ [x])) := by
  subst hL; exact own_snoc h

set_option maxRecDepth 100000 in
set_option maxHeartbeats 1000000 in
theorem refPadded_any (A : Option Addr) (n c : Nat) (b : Wm.Bs) (w : World) (hs : Sl w 1 A n (U b)) (hb : Wm.isBs b) (hn : n ≤ 100000) :
    Calls Tryd.prog 82 #[.slice A n c] w (MadeV (iv8 (Hs.pad (bv b))) w) := by
  obtain ⟨i0, hi, hz0, hz1, hz2⟩ := info_parts u8_info
  have hbl := hs.blen
  rw [pad_is hb, hbl]
  obtain ⟨Z, hZ⟩ : ∃ Z, Z = Hs.zs n := ⟨_, rfl⟩
  rw [← hZ]
  have hZ2 : Z ≤ 63 := by rw [hZ]; unfold Hs.zs; omega
  have hZm : (n + 1 + Z) % 64 = 56 := by rw [hZ]; unfold Hs.zs; omega
  have HB := Lib.hid hbl
  have HZM := Lib.hid hZm
  clear hZ hbl hZm
  go_enter Tryd.func82, Tryd.ntmps82
  go_wp2_with (first
    | (at_builtin; refine wpList_append_own _ rfl _ _ 75 rfl w.heap.size 5 i0 (.int .u8 0) 1 1 Tryd.underlying75 hi hz0 hz1 hz2 rfl (by decide) _ _ _ rfl (o2.alloc _) ⟨w2.heap.size, 0, none⟩ 1 1 [.int .u8 _] rfl rfl (cell_one_new _ _ _) (one_int _ _) (by rw [HB.out]; unfold maxLen; omega) (by rw [HB.out]; omega) (by have := l2.size; simp; omega) ?_; intro v3 w3 hown3 hgrow3 _; have l3 : Later w w3 := (l2.alloc l2.size _).grown hgrow3 (by have := l2.size; simp; omega) (fun k hk => (o2.lt k hk).1); have o3 := own_snoc hown3; clear hown3 hgrow3)
    | (at_builtin; refine wpList_app _ rfl _ _ 75 rfl w.heap.size 5 i0 (.int .u8 0) 1 1 Tryd.underlying75 hi hz0 hz1 hz2 rfl (by decide) _ _ _ rfl (World.ownsRow_lit w #[] 0 (Nat.le_refl _) (Nat.zero_le _) rfl) A n c _ rfl (hs.alloc _) (U_one _) (by unfold maxLen; omega) (by omega) (by simp) ?_; intro v2 w2 hown2 hgrow2; have l2 : Later w w2 := ((Below.refl _ _).alloc (Nat.le_refl _) _).grown hgrow2 (by simp) (fun k hk => by cases hk; exact Nat.le_refl _); have o2 : w2.ownsRow w.heap.size 5 1 v2 b.length (U b) := (by have h := hown2; rw [Nat.zero_add] at h; rw [HB.out]; exact h); clear hown2 hgrow2))
  clear o2 l2
  go_loopw [3] (fun v wr => ∃ j : Nat, j ≤ Z ∧ wr.ownsRow w.heap.size 5 1 v (b ++ [128] ++ List.replicate j 0).length (U (b ++ [128] ++ List.replicate j 0)) ∧ Later w wr) (fun v _ => (n + 1 + Z) - lenS v)
  case atStart => exact ⟨0, Nat.zero_le _, by simpa using o3, l3⟩
  case round =>
    clear o3 l3
    obtain ⟨j, hj, hor, hbr⟩ := hrel
    obtain ⟨L, hL⟩ : ∃ L, L = (b ++ [128] ++ List.replicate j (0 : Int)).length := ⟨_, rfl⟩
    have hL2 : L = n + 1 + j := by rw [hL]; simp only [List.length_append, List.length_replicate, List.length_singleton, HB.out]
    have HL := Lib.hid hL
    rw [← hL] at hor
    obtain ⟨X, cx, rfl, hx1, hx2, _, _⟩ := own_form hor
    have hl1 : n + 1 + j ≤ L := by omega
    have hl2 : L ≤ n + 1 + j := by omega
    have HL2 := Lib.hid hL2
    clear hL hL2
    by_cases hlt : j < Z
    · have ht : ((L : Int) % 64 == 56) = false := by rw [beq_eq_false_iff_ne]; have := HZM.out; omega
      have ht2 : ((L : Int) % 64 != 56) = true := by rw [bne_iff_ne]; have := HZM.out; omega
      go_wp2_with (at_builtin; refine wpList_append_own _ rfl _ _ 75 rfl w.heap.size 5 i0 (.int .u8 0) 1 1 Tryd.underlying75 hi hz0 hz1 hz2 rfl (by decide) _ _ _ rfl (hor.alloc _) ⟨wr.heap.size, 0, none⟩ 1 1 [.int .u8 _] rfl rfl (cell_one_new _ _ _) (one_int _ _) (by unfold maxLen; omega) (by omega) (by have := hbr.size; simp; omega) ?_; intro v' w1 hown' hgrow _)
      have hb1 : Later w w1 := (hbr.alloc hbr.size _).grown hgrow (by have := hbr.size; simp; omega) (fun k hk => (hor.lt k hk).1)
      have ho2 := own_snocL HL.out hown'
      rw [List.append_assoc (b ++ [128]), ← List.replicate_succ'] at ho2
      obtain ⟨X2, cx2, rfl, _, _, _, _⟩ := own_form ho2
      have hlen2 : lenS (.slice X2 (b ++ [128] ++ List.replicate (j + 1) (0 : Int)).length cx2) = n + 1 + (j + 1) := by
        show (b ++ [128] ++ List.replicate (j + 1) (0 : Int)).length = _
        simp only [List.length_append, List.length_replicate, List.length_singleton, HB.out]
      have HM := Lib.hid hlen2
      clear hown' hgrow hor hlen2
      go_wp2
      go_roundw
      case rel => exact ⟨j + 1, by omega, ho2, hb1⟩
      case measure =>
        rw [HM.out]
        show _ < n + 1 + Z - L
        omega
    · obtain rfl : j = Z := by omega
      have ht : ((L : Int) % 64 == 56) = true := by rw [beq_iff_eq]; have := HZM.out; omega
      have ht2 : ((L : Int) % 64 != 56) = false := by rw [bne_eq_false_iff_eq]; have := HZM.out; omega
      obtain ⟨P, hP⟩ : ∃ P, P = b ++ [128] ++ List.replicate j (0 : Int) := ⟨_, rfl⟩
      rw [← hP] at HL hor ⊢
      have HP := Lib.hid hP; clear hP
      go_wp2
      go_loopw [3, 5] (fun v i wr => ∃ k : Nat, k ≤ 8 ∧ i = .int .i64 k ∧ wr.ownsRow w.heap.size 5 1 v (P ++ (lenB n).take k).length (U (P ++ (lenB n).take k)) ∧ Later w wr) (fun _ i _ => 8 - (intOf i).toNat)
      case atStart => exact ⟨0, by omega, rfl, by rw [List.take_zero, List.append_nil, ← HL.out]; exact hor, hbr⟩
      case round =>
        clear hor hbr
        obtain ⟨k, hk, rfl, hor, hbr⟩ := hrel
        have hpl : (P ++ (lenB n).take k).length ≤ L + 8 := by rw [List.length_append, List.length_take, ← HL.out]; omega
        by_cases hlt : k < 8
        · have hcast : ((56 : Int) - 8 * (k : Int)).toNat = 56 - 8 * k := by omega
          obtain ⟨y, hy, hy2⟩ : ∃ y, IntKind.u8.wrap (8 * (n : Int) / 2 ^ (56 - 8 * k)) = y ∧ y = ((8 * n / 2 ^ (56 - 8 * k) % 256 : Nat) : Int) := ⟨_, rfl, by rw [IntKind.wrap_u8]; simp⟩
          have hnx := lenB_next n k hlt
          rw [← hy2] at hnx
          have HN := Lib.hid hnx
          clear hnx hy2
          go_wp2_with (at_builtin; refine wpList_append_own _ rfl _ _ 75 rfl w.heap.size 5 i0 (.int .u8 0) 1 1 Tryd.underlying75 hi hz0 hz1 hz2 rfl (by decide) _ _ _ rfl (hor.alloc _) ⟨wr.heap.size, 0, none⟩ 1 1 [.int .u8 _] rfl rfl (cell_one_new _ _ _) (one_int _ _) (by unfold maxLen; omega) (by omega) (by have := hbr.size; simp; omega) ?_; intro v' w1 hown' hgrow _)
          have hb1 : Later w w1 := (hbr.alloc hbr.size _).grown hgrow (by have := hbr.size; simp; omega) (fun k hk => (hor.lt k hk).1)
          have ho2 := own_snoc hown'
          rw [List.append_assoc P, ← HN.out] at ho2
          clear hown' hgrow hor
          go_wp2
          go_roundw
          case rel => exact ⟨k + 1, by omega, by go_num, ho2, hb1⟩
          case measure => simp [intOf]; omega
        · obtain rfl : k = 8 := by omega
          rw [List.take_of_length_le (by rw [lenB_len]; exact Nat.le_refl _)] at hor
          go_wp2
          go_ret
          exact ⟨_, rfl, by rw [← HP.out]; exact hor, hbr⟩
end Go.Proofs.YtaihfkcoiagdaabDoor

/-
  THE WALK OF the reference's words: the words of a block, read from a slice.
-/
namespace Go.Proofs.YtaihfkcoiagdaabDoor
open Go.RowKit

theorem Sl.byteX {w : World} {A : Option Addr} {n : Nat} {b : Wm.Bs} (h : Sl w 1 A n (U b)) (hb : Wm.isBs b) {k : Nat} (hk : k < n) :
    ∃ ad x, A = some ad ∧ w.cell? (ad.add k) = some (.int .u8 x) ∧ 0 ≤ x ∧ x < 256 ∧ Hid (b.getD k 0 = x) := by
  obtain ⟨ad, e, _, hc⟩ := h.byte hk
  have hx := bs_at hb k
  exact ⟨ad, _, e, hc, hx.1, hx.2, Lib.hid rfl⟩

theorem rrq (x : Hs.W) (w : World) (n : Nat) (z : Int) (hz : z = (n : Int)) (h0 : 1 ≤ n) (h1 : n ≤ 31) :
    Calls Tryd.prog 84 #[.int .u32 (q32 x), .int .i64 z] w fun e w' => e = .returned (.int .u32 (q32 (Hs.rotr x n))) ∧ ∃ m, w' = w.drewN m := by
  subst hz
  exact refRotr_any x n w h0 h1

set_option maxRecDepth 100000 in
set_option maxHeartbeats 4000000 in
theorem refSchedule_any (A : Option Addr) (c : Nat) (b : Wm.Bs) (w : World) (hs : Sl w 1 A 64 (U b)) (hb : Wm.isBs b) :
    Calls Tryd.prog 83 #[.slice A 64 c] w fun e w' => e = .returned (.agg (W32 (Hs.words (bv b))).toArray) ∧ Later w w' := by
  have hl := hs.blen
  have HL := Lib.hid hl; clear hl
  obtain ⟨ad, rfl, _, _⟩ := hs.2 (by decide)
  go_enter Tryd.func83, Tryd.ntmps83
  go_wp2
  go_loopw [4] (fun i wr => ∃ k : Nat, k ≤ 16 ∧ i = .int .i64 k ∧ Blk wr w.heap.size 119 (Part [] 64) ∧ Blk wr (w.heap.size + 1) 119 (Part (Hs.firsts (bv b) k) 64) ∧ Later w wr) (fun i _ => 16 - (intOf i).toNat)
  case atStart =>
    exact ⟨0, by omega, rfl, (Blk.new w _ _ _ rfl).alloc _, Blk.new' _ _ _ _ _ (by simp) rfl, ((Below.refl _ _).alloc (Nat.le_refl _) _).alloc (by simp) _⟩
  case round =>
    obtain ⟨k, hk, rfl, h2, h3, hbr⟩ := hrel
    by_cases hlt : k < 16
    · obtain ⟨ad0, x0, e0', c0, a0, b0, X0⟩ := (hs.keep hbr).byteX hb (k := 4 * k) (by omega)
      obtain ⟨ad1, x1, e1', c1, a1, b1, X1⟩ := (hs.keep hbr).byteX hb (k := 4 * k + 1) (by omega)
      obtain ⟨ad2, x2, e2', c2, a2, b2, X2⟩ := (hs.keep hbr).byteX hb (k := 4 * k + 2) (by omega)
      obtain ⟨ad3, x3, e3', c3, a3, b3, X3⟩ := (hs.keep hbr).byteX hb (k := 4 * k + 3) (by omega)
      cases e0'; cases e1'; cases e2'; cases e3'
      simp [Addr.add] at c1 c2 c3
      have hwd := word_is x0 x1 x2 x3 ⟨a0, b0⟩ ⟨a1, b1⟩ ⟨a2, b2⟩ ⟨a3, b3⟩
      rw [wordAt_is b k x0 x1 x2 x3 (by rw [HL.out]; omega) X0.out X1.out X2.out X3.out] at hwd
      clear X0 X1 X2 X3
      obtain ⟨u, hcell⟩ := Option.isSome_iff_exists.1 (h3.there1 (j := k) (by rw [Part.len (by rw [Hs.firsts_len]; omega)]; omega))
      have hfr := h3.frz k
      have e0 : IntKind.i64.wrap (4 * (k : Int)) = 4 * (k : Int) := IntWalk.i64_in _ (by omega)
      have e1 : IntKind.i64.wrap (4 * (k : Int) + 1) = 4 * (k : Int) + 1 := IntWalk.i64_in _ (by omega)
      have e2 : IntKind.i64.wrap (4 * (k : Int) + 2) = 4 * (k : Int) + 2 := IntWalk.i64_in _ (by omega)
      have e3 : IntKind.i64.wrap (4 * (k : Int) + 3) = 4 * (k : Int) + 3 := IntWalk.i64_in _ (by omega)
      have n0 : (4 * (k : Int)).toNat = 4 * k := by omega
      have n1 : (4 * (k : Int) + 1).toNat = 4 * k + 1 := by omega
      have n2 : (4 * (k : Int) + 2).toNat = 4 * k + 2 := by omega
      have n3 : (4 * (k : Int) + 3).toNat = 4 * k + 3 := by omega
      have p0 : (0 : Int) ≤ 4 * (k : Int) := by omega
      have p1 : (0 : Int) ≤ 4 * (k : Int) + 1 := by omega
      have p2 : (0 : Int) ≤ 4 * (k : Int) + 2 := by omega
      have p3 : (0 : Int) ≤ 4 * (k : Int) + 3 := by omega
      have l0 : 4 * (k : Int) < 64 := by omega
      have l1 : 4 * (k : Int) + 1 < 64 := by omega
      have l2 : 4 * (k : Int) + 2 < 64 := by omega
      have l3 : 4 * (k : Int) + 3 < 64 := by omega
      have k0 : (0 : Int) ≤ (k : Int) := by omega
      have k64 : (k : Int) < 64 := by omega
      go_wp2
      go_still_tail 35, (by kernel_rfl)
      change wpList _ _ _ _ _ wr.drew
      clear e0 e1 e2 e3 n0 n1 n2 n3 p0 p1 p2 p3 l0 l1 l2 l3 k0 k64 c0 c1 c2 c3
      go_wp2
      have hset := h3.drew.set k (.int .u32 (q32 (Hs.wordAt (bv b) k)))
      have hps := Part.set (l := Hs.firsts (bv b) k) (n := 64) (by rw [Hs.firsts_len]; omega) (Hs.wordAt (bv b) k)
      rw [Hs.firsts_len, ← Hs.firsts_succ] at hps
      rw [hps] at hset
      have h2' := h2.drew.set_other ⟨w.heap.size + 1, k, none⟩ (.int .u32 (q32 (Hs.wordAt (bv b) k))) (by simp)
      have hbr2 : Later w (wr.drew.setCell ⟨w.heap.size + 1, k, none⟩ (.int .u32 (q32 (Hs.wordAt (bv b) k)))) := hbr.drew.setCell (by simp) _
      clear hps h2 h3 hbr hcell hfr hwd
      go_roundw
      case rel => exact ⟨k + 1, by omega, by go_num, h2', hset, hbr2⟩
      case measure => simp [intOf]; omega
    · obtain rfl : k = 16 := by omega
      rw [show ((16 : Nat) : Int) = 16 from rfl]
      go_wp2
      go_loopw [5] (fun i wr => ∃ (k : Nat) (l : List Hs.W), k ≤ 64 ∧ 16 ≤ k ∧ i = .int .i64 k ∧ Hid (l.length = k ∧ Hs.grow (64 - k) l = Hs.words (bv b)) ∧ Blk wr w.heap.size 119 (Part [] 64) ∧ Blk wr (w.heap.size + 1) 119 (Part l 64) ∧ Later w wr) (fun i _ => 64 - (intOf i).toNat)
      case atStart => exact ⟨16, Hs.firsts (bv b) 16, by omega, by omega, rfl, Lib.hid ⟨Hs.firsts_len _ _, rfl⟩, h2, h3, hbr⟩
      case round =>
        clear h2 h3 hbr
        rename_i wr
        obtain ⟨k, l, hk64, hk16, rfl, hg, h2, h3, hbr⟩ := hrel
        by_cases hlt : k < 64
        · obtain ⟨p, hp⟩ : ∃ p, p = l.getD (k - 15) 0 := ⟨_, rfl⟩
          obtain ⟨q, hq⟩ : ∃ q, q = l.getD (k - 2) 0 := ⟨_, rfl⟩
          obtain ⟨x16, hx16⟩ : ∃ q, q = l.getD (k - 16) 0 := ⟨_, rfl⟩
          obtain ⟨x7, hx7⟩ : ∃ q, q = l.getD (k - 7) 0 := ⟨_, rfl⟩
          have hnext : x16 + Hs.s0 p + x7 + Hs.s1 q = Hs.next l l.length := by rw [hp, hq, hx16, hx7, hg.out.1]; rfl
          have c15 := h3.cell (Part.get (n := 64) (show k - 15 < l.length by rw [hg.out.1]; omega))
          have c2 := h3.cell (Part.get (n := 64) (show k - 2 < l.length by rw [hg.out.1]; omega))
          have c16 := h3.cell (Part.get (n := 64) (show k - 16 < l.length by rw [hg.out.1]; omega))
          have c7 := h3.cell (Part.get (n := 64) (show k - 7 < l.length by rw [hg.out.1]; omega))
          rw [← hp] at c15; rw [← hq] at c2; rw [← hx16] at c16; rw [← hx7] at c7
          obtain ⟨nx, hnx⟩ : ∃ nx, nx = Hs.next l l.length := ⟨_, rfl⟩
          rw [← hnx] at hnext
          have HN := Lib.hid hnext
          have HX := Lib.hid hnx
          clear hp hq hx16 hx7 hnext hnx
          have hs0 := s0_is p
          have hs1 := s1_is q
          have hsum := sum_is x16 (Hs.s0 p) x7 (Hs.s1 q)
          rw [HN.out] at hsum
          have bp := q32_bd p
          have bq := q32_bd q
          obtain ⟨u, hcell⟩ := Option.isSome_iff_exists.1 (h3.there1 (j := k) (by rw [Part.len (by rw [hg.out.1]; omega)]; omega))
          have hfr := h3.frz k
          have e15 : IntKind.i64.wrap ((k : Int) - 15) = (k : Int) - 15 := IntWalk.i64_in _ (by omega)
          have e2 : IntKind.i64.wrap ((k : Int) - 2) = (k : Int) - 2 := IntWalk.i64_in _ (by omega)
          have e16 : IntKind.i64.wrap ((k : Int) - 16) = (k : Int) - 16 := IntWalk.i64_in _ (by omega)
          have e7 : IntKind.i64.wrap ((k : Int) - 7) = (k : Int) - 7 := IntWalk.i64_in _ (by omega)
          have n15 : ((k : Int) - 15).toNat = k - 15 := by omega
          have n2 : ((k : Int) - 2).toNat = k - 2 := by omega
          have n16 : ((k : Int) - 16).toNat = k - 16 := by omega
          have n7 : ((k : Int) - 7).toNat = k - 7 := by omega
          have p15 : (0 : Int) ≤ (k : Int) - 15 := by omega
          have p2 : (0 : Int) ≤ (k : Int) - 2 := by omega
          have p16 : (0 : Int) ≤ (k : Int) - 16 := by omega
          have p7 : (0 : Int) ≤ (k : Int) - 7 := by omega
          have l15 : (k : Int) - 15 < 64 := by omega
          have l2 : (k : Int) - 2 < 64 := by omega
          have l16 : (k : Int) - 16 < 64 := by omega
          have l7 : (k : Int) - 7 < 64 := by omega
          have q15 : (15 : Int) ≤ (k : Int) := by omega
          have q2 : (2 : Int) ≤ (k : Int) := by omega
          have q16 : (16 : Int) ≤ (k : Int) := by omega
          have q7 : (7 : Int) ≤ (k : Int) := by omega
          have k0 : (0 : Int) ≤ (k : Int) := by omega
          have k64 : (k : Int) < 64 := by omega
          go_wp2
          go_quiet ((first
            | ((with_reducible refine (rrq _ _ 7 7 rfl (by decide) (by decide)).mono ?_); rintro e w' ⟨rfl, m, rfl⟩; exact ⟨rfl, _, World.drewN_drewN ..⟩)
            | ((with_reducible refine (rrq _ _ 18 18 rfl (by decide) (by decide)).mono ?_); rintro e w' ⟨rfl, m, rfl⟩; exact ⟨rfl, _, World.drewN_drewN ..⟩)))
          have h2q : Blk (wr.drewN nq) w.heap.size 119 (Part [] 64) := h2
          have h3q : Blk (wr.drewN nq) (w.heap.size + 1) 119 (Part l 64) := h3
          have hbq : Later w (wr.drewN nq) := ⟨hbr.os, hbr.tape, hbr.output, hbr.size, hbr.block⟩
          have c16q : (wr.drewN nq).cell? ⟨w.heap.size + 1, k - 16, none⟩ = some (.int .u32 (q32 x16)) := c16
          have c7q : (wr.drewN nq).cell? ⟨w.heap.size + 1, k - 7, none⟩ = some (.int .u32 (q32 x7)) := c7
          have c2q : (wr.drewN nq).cell? ⟨w.heap.size + 1, k - 2, none⟩ = some (.int .u32 (q32 q)) := c2
          have cuq : (wr.drewN nq).cell? ⟨w.heap.size + 1, k, none⟩ = some u := hcell
          have hfq : (wr.drewN nq).frozen? ⟨w.heap.size + 1, k, none⟩ = false := hfr
          clear h2 h3 hbr c16 c7 c15 c2 hcell hfr
          generalize wr.drewN nq = wq at h2q h3q hbq c16q c7q c2q cuq hfq ⊢
          go_wp2
          go_quiet ((first
            | ((with_reducible refine (rrq _ _ 17 17 rfl (by decide) (by decide)).mono ?_); rintro e w' ⟨rfl, m, rfl⟩; exact ⟨rfl, _, World.drewN_drewN ..⟩)
            | ((with_reducible refine (rrq _ _ 19 19 rfl (by decide) (by decide)).mono ?_); rintro e w' ⟨rfl, m, rfl⟩; exact ⟨rfl, _, World.drewN_drewN ..⟩)))
          have h2 : Blk (wq.drewN nq) w.heap.size 119 (Part [] 64) := h2q
          have h3 : Blk (wq.drewN nq) (w.heap.size + 1) 119 (Part l 64) := h3q
          have hbr : Later w (wq.drewN nq) := ⟨hbq.os, hbq.tape, hbq.output, hbq.size, hbq.block⟩
          have c16 : (wq.drewN nq).cell? ⟨w.heap.size + 1, k - 16, none⟩ = some (.int .u32 (q32 x16)) := c16q
          have c7 : (wq.drewN nq).cell? ⟨w.heap.size + 1, k - 7, none⟩ = some (.int .u32 (q32 x7)) := c7q
          have hcell : (wq.drewN nq).cell? ⟨w.heap.size + 1, k, none⟩ = some u := cuq
          have hfr : (wq.drewN nq).frozen? ⟨w.heap.size + 1, k, none⟩ = false := hfq
          clear h2q h3q hbq c16q c7q c2q cuq hfq
          generalize wq.drewN nq = wv at h2 h3 hbr c16 c7 hcell hfr ⊢
          go_wp2
          go_still_tail 15, (by kernel_rfl)
          change wpList _ _ _ _ _ wv.drew
          clear e15 e2 e16 e7 n15 n2 n16 n7 p15 p2 p16 p7 l15 l2 l16 l7 c16 c7
          go_wp2
          have hset := h3.drew.set k (.int .u32 (q32 nx))
          have hps : (Part l 64).set k (.int .u32 (q32 nx)) = Part (l ++ [nx]) 64 := by
            have h := Part.set (l := l) (n := 64) (by rw [hg.out.1]; omega) nx
            rwa [hg.out.1] at h
          rw [hps] at hset
          have h2' := h2.drew.set_other ⟨w.heap.size + 1, k, none⟩ (.int .u32 (q32 nx)) (by simp)
          have hbr2 : Later w (wv.drew.setCell ⟨w.heap.size + 1, k, none⟩ (.int .u32 (q32 nx))) := hbr.drew.setCell (by simp) _
          have hg2 : Hid ((l ++ [nx]).length = k + 1 ∧ Hs.grow (64 - (k + 1)) (l ++ [nx]) = Hs.words (bv b)) := by
            refine Lib.hid ⟨by rw [List.length_append, hg.out.1]; rfl, ?_⟩
            rw [← hg.out.2, show 64 - k = (64 - (k + 1)) + 1 by omega, HX.out]
            rfl
          clear hps h2 h3 hbr hcell hfr hs0 hs1 hsum
          go_roundw
          case rel => exact ⟨k + 1, l ++ [nx], by omega, by omega, by go_num, hg2, h2', hset, hbr2⟩
          case measure => simp [intOf]; omega
        · obtain rfl : k = 64 := by omega
          have hw : l = Hs.words (bv b) := hg.out.2
          have hpl : Part l 64 = W32 (Hs.words (bv b)) := by rw [Part.full hg.out.1, hw]
          rw [hpl] at h3
          clear hg hw hpl
          have hwl := Hs.words_len (bv b)
          have hsz2 : (Tryd.prog.info? 119).map (·.size) = some (W32 (Hs.words (bv b))).length := by rw [W32_len, hwl]; kernel_rfl
          have hone := W32_one (Hs.words (bv b))
          have hlen : (Part [] 64).length = (W32 (Hs.words (bv b))).length := by rw [W32_len, hwl]; rfl
          obtain ⟨R, hR⟩ : ∃ R, R = W32 (Hs.words (bv b)) := ⟨_, rfl⟩
          rw [← hR] at h3 hsz2 hone hlen
          have HR := Lib.hid hR
          have HON := Lib.hid hone
          have HLE := Lib.hid hlen
          clear hone hlen hwl hR
          go_wp2_with (first
            | ((with_reducible refine wpList_load_blk (o := ⟨some 100, .load 119 (.tmp 3), _, _, _, none⟩) rfl _ _ rfl (w.heap.size + 1) _ R _ ?_ h3 Tryd.underlying119 rfl hsz2 ?_); rfl)
            | ((with_reducible refine wpList_store_blk (o := ⟨none, .store 119 (.tmp 2) (.tmp 100), _, _, _, none⟩) rfl _ _ _ rfl w.heap.size _ _ R ?_ ?_ h2 hsz2 HLE.out HON.out ?_); rfl; rfl))
          exact bodyPost_ret (v := .agg R.toArray) (results_blk Tryd.results83 _ _ w.heap.size _ R _ rfl (h2.row R) Tryd.underlying119 rfl hsz2) rfl ⟨by rw [HR.out], below_setRow hbr (Nat.le_refl _) _⟩
end Go.Proofs.YtaihfkcoiagdaabDoor

/-
  THE WALK OF the reference's Sum: the hash by its definition.
-/
namespace Go.Proofs.YtaihfkcoiagdaabDoor
open Go.RowKit

/-- THE REFERENCE'S CONSTANTS lie in its variable. -/
def Tab0 (w : World) : Prop := ∀ j, j < 64 → w.cell? ⟨1, j, none⟩ = some (.int .u32 (q32 (Hs.K.getD j 0)))
theorem Tab0.keep {w w' : World} (h : Tab0 w) (hb : Later w w') : Tab0 w' := fun j hj => by
  have hc := h j hj
  rw [hb.cell (World.block_lt_of_cell? w _ hc)]; exact hc
theorem Sl.only {w w' : World} {size n g : Nat} {ad : Addr} {xs : List Value} (h : Sl w size (some ad) n xs) (ho : Only g w w') (hne : ad.block ≠ g) : Sl w' size (some ad) n xs := by
  refine ⟨h.1, fun hn => ?_⟩
  obtain ⟨ad', e, hl, hc⟩ := h.2 hn
  cases e
  refine ⟨_, rfl, by rw [ho.size]; exact hl, fun j u hu => ?_⟩
  have h1 := hc j u hu
  unfold World.cell? at h1 ⊢
  rw [addr_add_block] at h1 ⊢
  rw [ho.2.2.2.2 _ hne]
  exact h1

theorem refTx_is (s : Hs.St) (k w : Hs.W) :
    ((q32 s.h + bits .xor .u32 (bits .xor .u32 (q32 (Hs.rotr s.e 6)) (q32 (Hs.rotr s.e 11))) (q32 (Hs.rotr s.e 25)) + bits .xor .u32 (bits .and .u32 (q32 s.e) (q32 s.f)) (bits .and .u32 (bits .xor .u32 (q32 s.e) 4294967295) (q32 s.g)) + q32 k) % 4294967296 + q32 w) % 4294967296 = q32 (Hs.tx s k w) := by
  have h := tx_is s k w
  rw [if_neg (by decide), show IntKind.u32.max = 4294967295 from rfl, not32'] at h
  rw [not32]
  exact h

set_option maxRecDepth 100000 in
set_option maxHeartbeats 4000000 in
theorem refSum_any (A : Option Addr) (n c : Nat) (b : Wm.Bs) (w : World) (hs : Sl w 1 A n (U b)) (hb : Wm.isBs b) (hn : n ≤ 100000) (tab : Tab0 w) :
    Calls Tryd.prog 72 #[.slice A n c] w fun e w' => e = .returned (.agg (shaC b).toArray) ∧ Later w w' := by
  obtain ⟨P, hP⟩ : ∃ P, P = iv8 (Hs.pad (bv b)) := ⟨_, rfl⟩
  obtain ⟨N, hN⟩ : ∃ N, N = ((bv b).length + 72) / 64 := ⟨_, rfl⟩
  have hPl : P.length = 64 * N := by rw [hP, iv8_len, Hs.pad_len, hN]
  have hNb : N ≤ 1564 := by rw [hN, bv_len, hs.blen]; omega
  have hPb : Wm.isBs P := by rw [hP]; exact iv8_bs _
  have hN1 : 1 ≤ N := by rw [hN]; omega
  have hfin : Hs.blocks (N - 0) Hs.iv ((bv P).drop (64 * 0)) = Hs.final (bv b) := by
    rw [hP, bv_iv8, hN]; rfl
  have HPD := Lib.hid fun (w' : World) (hl : Later w w') => by have h := refPadded_any A n c b w' (hs.keep hl) hb hn; rw [← hP] at h; exact h
  have HPL := Lib.hid hPl
  have HFIN := Lib.hid hfin
  have HLB := Lib.hid hs.blen
  clear hP hN hPl hfin hs
  go_enter Tryd.func72, Tryd.ntmps72
  go_wp2_with (go_at_call 82; refine (HPD.out _ (((Below.refl _ _).alloc (Nat.le_refl _) _).alloc (by simp) _)).mono ?_; rintro e w1 ⟨v1, rfl, ho1, hl1⟩)
  rw [HPL.out] at ho1
  obtain ⟨L, hL⟩ : ∃ L, L = 64 * N := ⟨_, rfl⟩
  have hL1 : L ≤ 64 * N := by omega
  have hL2 : 64 * N ≤ L := by omega
  rw [← hL] at ho1
  clear hL
  obtain ⟨X, cx, rfl, hx1, hx2, hx3, hx4⟩ := own_form ho1
  obtain ⟨ad, rfl, hadl, _⟩ := hx3.2 (by omega)
  have hadb := (hx4 ad rfl).1
  simp only [World.size_alloc] at hadb
  clear hx4 ho1
  have f0 : Blk w1 w.heap.size 103 (PartB [] 32) := ((Blk.new w _ _ _ rfl).alloc _).keep hl1
  have f1 : Blk w1 (w.heap.size + 1) 96 (StV Hs.iv) := (Blk.new' _ _ _ _ _ (by simp) rfl).keep hl1
  have f2 : Later w w1 := Later.trans_ (((Below.refl _ _).alloc (Nat.le_refl _) _).alloc (by simp) _) hl1
  clear hl1
  unfold maxLen at hx2
  go_loopw [5] (fun i wr => ∃ (j : Nat) (s : Hs.St), j ≤ N ∧ i = .int .i64 (64 * (j : Int)) ∧ Hid (Hs.blocks (N - j) s ((bv P).drop (64 * j)) = Hs.final (bv b)) ∧ Blk wr w.heap.size 103 (PartB [] 32) ∧ Blk wr (w.heap.size + 1) 96 (StV s) ∧ Sl wr 1 (some ad) L (U P) ∧ Later w wr) (fun i _ => 64 * N - (intOf i).toNat)
  case atStart => exact ⟨0, Hs.iv, Nat.zero_le _, rfl, HFIN, f0, f1, hx3, f2⟩
  case round =>
    clear f0 f1 f2 hx3 hadl
    obtain ⟨j, s, hj, rfl, HR, f0, f1, f3, f2⟩ := hrel
    by_cases hlt : j < N
    · have hcast : (64 * (j : Int)).toNat = 64 * j := by omega
      have hcast2 : (64 * (j : Int) + 64).toNat = 64 * j + 64 := by omega
      have hne : ¬ cx = 64 * j := by omega
      obtain ⟨B, hB⟩ : ∃ B, B = (P.drop (64 * j)).take 64 := ⟨_, rfl⟩
      have hBb : Wm.isBs B := by rw [hB]; exact bs_take (bs_drop hPb _) _
      have hsl : ∀ w', Later wr w' → Sl w' 1 (some (ad.add (64 * j))) 64 (U B) := fun w' hl => by
        have h1 := ((f3.keep hl).cutB (k := 64 * j) (cap := cx) (by omega) (by omega) hne).frontB (k := 64) (by omega)
        rw [← hB] at h1; exact h1
      obtain ⟨WS, hWS⟩ : ∃ WS, WS = Hs.words (bv B) := ⟨_, rfl⟩
      obtain ⟨R, hR⟩ : ∃ R, R = W32 WS := ⟨_, rfl⟩
      have hWl : WS.length = 64 := by rw [hWS]; exact Hs.words_len _
      have hR2 : R = Part WS 64 := by rw [hR, Part.full hWl]
      have hRl : R.length = 64 := by rw [hR, W32_len, hWl]
      have hszR : (Tryd.prog.info? 119).map (·.size) = some R.length := by rw [hRl]; kernel_rfl
      have hR1 : ∀ v ∈ R, v.oneCell' = true := by rw [hR]; exact W32_one _
      have HSC := Lib.hid fun c' => by have h := refSchedule_any (some (ad.add (64 * j))) c' B wr (hsl wr (Below.refl _ _)) hBb; rw [← hWS, ← hR] at h; exact h
      have HBB := Lib.hid hB; have HWS := Lib.hid hWS; have HWL := Lib.hid hWl; have HR1 := Lib.hid hR1; have HR2 := Lib.hid hR2; have HRl := Lib.hid hRl
      have HZ : Hid ((Part [] 64).length = R.length) := by rw [HRl.out]; exact Lib.hid rfl
      clear hB hsl hWS hR hWl hR2 hRl hR1
      have hu8 := Tryd.underlying96
      have HU8 := Lib.hid hu8
      obtain ⟨V, hV⟩ : ∃ V, V = StV s := ⟨_, rfl⟩
      have hszV : (Tryd.prog.info? 96).map (·.size) = some V.length := by rw [hV, StV_len]; kernel_rfl
      have hV1 : ∀ v ∈ V, v.oneCell' = true := by rw [hV]; exact StV_one _
      have hVl : (Part [] 8).length = V.length := by rw [hV, StV_len]; rfl
      rw [← hV] at f1
      have HV := Lib.hid hV; have HV1 := Lib.hid hV1; have HVL := Lib.hid hVl
      clear hu8 hV hV1 hVl
      go_wp2_with (first
        | (go_at_call 83; (with_reducible refine (HSC.out _).mono ?_); rintro e w2 ⟨rfl, l2⟩)
        | ((with_reducible refine wpList_store_abs (o := ⟨none, .store 119 (.tmp 6) (.tmp 28), _, _, _, none⟩) rfl _ _ _ rfl w2.heap.size 119 (Part [] 64) R ?_ ?_ ?_ hszR HZ.out HR1.out ?_); rfl; rfl; exact Blk.new _ _ _ _ rfl; intro w3 g6 o3)
        | ((with_reducible refine wpList_load_blk (o := ⟨some 29, .load 96 (.tmp 3), _, _, _, none⟩) rfl _ _ rfl (w.heap.size + 1) 96 V _ ?_ (((f1.keep l2).alloc _).only o3 (Nat.ne_of_lt (f1.keep l2).lt)) HU8.out rfl hszV ?_); rfl)
        | ((with_reducible refine wpList_store_abs (o := ⟨none, .store 96 (.tmp 7) (.tmp 29), _, _, _, none⟩) rfl _ _ _ rfl w3.heap.size 96 (Part [] 8) V ?_ ?_ ?_ hszV HVL.out HV1.out ?_); rfl; rfl; exact Blk.new _ _ _ _ rfl; intro w4 g7 o4))
      have n1 := f1.lt
      have n2 := l2.size
      have n3 := o3.size
      have n4 := o4.size
      have n5 := (f3.2 (by omega))
      obtain ⟨ad', e', n6, _⟩ := n5
      cases e'
      simp only [World.size_alloc] at n3 n4
      have k0 : Blk w4 w.heap.size 103 (PartB [] 32) := ((((f0.keep l2).alloc _).only o3 (by omega)).alloc _).only o4 (by omega)
      have k1 : Blk w4 (w.heap.size + 1) 96 V := ((((f1.keep l2).alloc _).only o3 (by omega)).alloc _).only o4 (by omega)
      have k3 : Sl w4 1 (some ad) L (U P) := ((((f3.keep l2).alloc _).only o3 (by omega)).alloc _).only o4 (by omega)
      have k6 : Blk w4 w2.heap.size 119 R := (g6.alloc _).only o4 (by omega)
      have k2 : Later w w4 := Below.only ((Below.only ((Later.trans_ f2 l2).alloc (by omega) _) o3 (by omega)).alloc (by omega) _) o4 (by omega)
      obtain ⟨B6, hB6⟩ : ∃ B6, B6 = w2.heap.size := ⟨_, rfl⟩
      obtain ⟨B7, hB7⟩ : ∃ B7, B7 = w3.heap.size := ⟨_, rfl⟩
      rw [← hB6] at k6 ⊢
      rw [← hB7] at g7 ⊢
      have m1 : w.heap.size + 1 < B6 := by omega
      have m2 : B6 < B7 := by omega
      have m3 : ad.block < B6 := by omega
      rw [HV.out] at g7
      clear f0 f1 f2 f3 g6 o3 o4 l2 n1 n2 n3 n4 n6 hB6 hB7 HSC
      go_loopw [8] (fun i wq => ∃ (k : Nat) (st : Hs.St), k ≤ 64 ∧ i = .int .i64 k ∧ Hid (Hs.rounds WS (64 - k) k st = Hs.rounds WS 64 0 s) ∧ Blk wq B7 96 (StV st) ∧ Blk wq B6 119 R ∧ Blk wq w.heap.size 103 (PartB [] 32) ∧ Blk wq (w.heap.size + 1) 96 V ∧ Sl wq 1 (some ad) L (U P) ∧ Later w wq) (fun i _ => 64 - (intOf i).toNat)
      case atStart => exact ⟨0, s, by omega, rfl, Lib.hid rfl, g7, k6, k0, k1, k3, k2⟩
      case round =>
        clear g7 k6 k0 k1 k3 k2
        rename_i wr0
        obtain ⟨k, st, hk, rfl, HRd, g7, k6, k0, k1, k3, k2⟩ := hrel
        by_cases hlt2 : k < 64
        · obtain ⟨kk, hkk⟩ : ∃ kk, kk = Hs.K.getD k 0 := ⟨_, rfl⟩
          obtain ⟨ww, hww⟩ : ∃ ww, ww = WS.getD k 0 := ⟨_, rfl⟩
          have ck := (tab.keep k2) k hlt2
          have cw := k6.cell (j := k) (v := .int .u32 (q32 (WS.getD k 0))) (by rw [HR2.out]; exact Part.get (by rw [HWL.out]; exact hlt2))
          rw [← hkk] at ck
          rw [← hww] at cw
          have HKK := Lib.hid hkk
          have HWW := Lib.hid hww
          clear hkk hww
          have c0 := g7.cell (j := 0) (v := .int .u32 (q32 st.a)) rfl
          have c1 := g7.cell (j := 1) (v := .int .u32 (q32 st.b)) rfl
          have c2 := g7.cell (j := 2) (v := .int .u32 (q32 st.c)) rfl
          have c3 := g7.cell (j := 3) (v := .int .u32 (q32 st.d)) rfl
          have c4 := g7.cell (j := 4) (v := .int .u32 (q32 st.e)) rfl
          have c5 := g7.cell (j := 5) (v := .int .u32 (q32 st.f)) rfl
          have c6 := g7.cell (j := 6) (v := .int .u32 (q32 st.g)) rfl
          have c7 := g7.cell (j := 7) (v := .int .u32 (q32 st.h)) rfl
          have be := q32_bd st.e
          have q0 : (0 : Int) ≤ (k : Int) := by omega
          have q64' : (k : Int) < 64 := by omega
          go_wp2
          go_quiet ((first
            | ((with_reducible refine (rrq _ _ 6 6 rfl (by decide) (by decide)).mono ?_); rintro e w' ⟨rfl, m, rfl⟩; exact ⟨rfl, _, World.drewN_drewN ..⟩)
            | ((with_reducible refine (rrq _ _ 11 11 rfl (by decide) (by decide)).mono ?_); rintro e w' ⟨rfl, m, rfl⟩; exact ⟨rfl, _, World.drewN_drewN ..⟩)
            | ((with_reducible refine (rrq _ _ 25 25 rfl (by decide) (by decide)).mono ?_); rintro e w' ⟨rfl, m, rfl⟩; exact ⟨rfl, _, World.drewN_drewN ..⟩)))
          rw [refTx_is st kk ww]
          have g7' : Blk (wr.drewN nq) B7 96 (StV st) := g7
          have k6' : Blk (wr.drewN nq) B6 119 R := k6
          have k0' : Blk (wr.drewN nq) w.heap.size 103 (PartB [] 32) := k0
          have k1' : Blk (wr.drewN nq) (w.heap.size + 1) 96 V := k1
          have k3' : Sl (wr.drewN nq) 1 (some ad) L (U P) := k3
          have k2' : Later w (wr.drewN nq) := ⟨k2.os, k2.tape, k2.output, k2.size, k2.block⟩
          clear g7 k6 k0 k1 k3 k2 ck cw c0 c1 c2 c3 c4 c5 c6 c7
          generalize wr.drewN nq = wq at g7' k6' k0' k1' k3' k2' ⊢
          have c0 := g7'.cell (j := 0) (v := .int .u32 (q32 st.a)) rfl
          have c1 := g7'.cell (j := 1) (v := .int .u32 (q32 st.b)) rfl
          have c2 := g7'.cell (j := 2) (v := .int .u32 (q32 st.c)) rfl
          go_wp2
          go_quiet ((first
            | ((with_reducible refine (rrq _ _ 2 2 rfl (by decide) (by decide)).mono ?_); rintro e w' ⟨rfl, m, rfl⟩; exact ⟨rfl, _, World.drewN_drewN ..⟩)
            | ((with_reducible refine (rrq _ _ 13 13 rfl (by decide) (by decide)).mono ?_); rintro e w' ⟨rfl, m, rfl⟩; exact ⟨rfl, _, World.drewN_drewN ..⟩)
            | ((with_reducible refine (rrq _ _ 22 22 rfl (by decide) (by decide)).mono ?_); rintro e w' ⟨rfl, m, rfl⟩; exact ⟨rfl, _, World.drewN_drewN ..⟩)))
          rw [ty_is st]
          have g7 : Blk (wq.drewN nq) B7 96 (StV st) := g7'
          have k6 : Blk (wq.drewN nq) B6 119 R := k6'
          have k0 : Blk (wq.drewN nq) w.heap.size 103 (PartB [] 32) := k0'
          have k1 : Blk (wq.drewN nq) (w.heap.size + 1) 96 V := k1'
          have k3 : Sl (wq.drewN nq) 1 (some ad) L (U P) := k3'
          have k2 : Later w (wq.drewN nq) := ⟨k2'.os, k2'.tape, k2'.output, k2'.size, k2'.block⟩
          clear g7' k6' k0' k1' k3' k2' c0 c1 c2
          generalize wq.drewN nq = wv at g7 k6 k0 k1 k3 k2 ⊢
          have hr2 : Hid (Hs.rounds WS (64 - (k + 1)) (k + 1) (Hs.round st kk ww) = Hs.rounds WS 64 0 s) := by
            refine Lib.hid ?_
            rw [← HRd.out, show 64 - k = (64 - (k + 1)) + 1 by omega, HKK.out, HWW.out]
            rfl
          obtain ⟨st2, hst2⟩ : ∃ x, x = Hs.round st kk ww := ⟨_, rfl⟩
          obtain ⟨X, hX⟩ : ∃ x, x = Hs.tx st kk ww := ⟨_, rfl⟩
          obtain ⟨Y, hY⟩ : ∃ x, x = Hs.ty st := ⟨_, rfl⟩
          have hst3 : #[Value.int .u32 (q32 (X + Y)), .int .u32 (q32 st.a), .int .u32 (q32 st.b), .int .u32 (q32 st.c), .int .u32 (q32 (st.d + X)), .int .u32 (q32 st.e), .int .u32 (q32 st.f), .int .u32 (q32 st.g)] = (StV st2).toArray := by rw [hst2, hX, hY]; rfl
          rw [← hX, ← hY]
          have s1 := mod_sum2 X Y
          have s2 := mod_sum2 st.d X
          have c0 := g7.cell (j := 0) (v := .int .u32 (q32 st.a)) rfl
          have c1 := g7.cell (j := 1) (v := .int .u32 (q32 st.b)) rfl
          have c2 := g7.cell (j := 2) (v := .int .u32 (q32 st.c)) rfl
          have c3 := g7.cell (j := 3) (v := .int .u32 (q32 st.d)) rfl
          have c4 := g7.cell (j := 4) (v := .int .u32 (q32 st.e)) rfl
          have c5 := g7.cell (j := 5) (v := .int .u32 (q32 st.f)) rfl
          have c6 := g7.cell (j := 6) (v := .int .u32 (q32 st.g)) rfl
          have hszS : (Tryd.prog.info? 96).map (·.size) = some (StV st2).length := by rw [StV_len]; kernel_rfl
          have bX := q32_bd X
          have bY := q32_bd Y
          have bd := q32_bd st.d
          rw [← hst2] at hr2
          have HST3 := Lib.hid hst3
          clear hst2 hX hY hst3
          go_wp2_with ((with_reducible refine wpList_store_abs (o := ⟨none, .store 96 (.tmp 7) (.tmp 117), _, _, _, none⟩) rfl _ _ _ rfl B7 96 (StV st) (StV st2) ?_ ?_ g7 hszS rfl (StV_one _) ?_); rfl; exact congrArg Value.agg HST3.out; intro wz y7 oz)
          have y6 := k6.only oz (by omega)
          have y0 := k0.only oz (by omega)
          have y1 := k1.only oz (by omega)
          have y3 := k3.only oz (by omega)
          have y2 : Later w wz := Below.only k2 oz (by omega)
          go_roundw
          case rel => exact ⟨k + 1, st2, by omega, by go_num, hr2, y7, y6, y0, y1, y3, y2⟩
          case measure => simp [intOf]; omega
        · obtain rfl : k = 64 := by omega
          have hst : st = Hs.rounds WS 64 0 s := HRd.out
          have HST := Lib.hid hst
          rw [HV.out] at k1
          clear hst HRd k6
          rw [show ((64 : Nat) : Int) = 64 from rfl]
          go_wp2
          go_loopw [11] (fun i wq => ∃ k : Nat, k ≤ 8 ∧ i = .int .i64 k ∧ Blk wq (w.heap.size + 1) 96 (Sofar s st k) ∧ Blk wq B7 96 (StV st) ∧ Blk wq w.heap.size 103 (PartB [] 32) ∧ Sl wq 1 (some ad) L (U P) ∧ Later w wq) (fun i _ => 8 - (intOf i).toNat)
          case atStart => exact ⟨0, by omega, rfl, k1, g7, k0, k3, k2⟩
          case round =>
            clear k1 g7 k0 k3 k2
            rename_i wr1
            obtain ⟨k, hk, rfl, k1, g7, k0, k3, k2⟩ := hrel
            by_cases hlt3 : k < 8
            · obtain ⟨x, hx⟩ : ∃ x, x = s.list.getD k 0 := ⟨_, rfl⟩
              obtain ⟨y, hy⟩ : ∃ y, y = st.list.getD k 0 := ⟨_, rfl⟩
              have c := k1.cell (Sofar.get s st k hlt3)
              have cy := g7.cell (W32_get st.list k (by show k < 8; exact hlt3))
              have fz := k1.frz k
              have hset := k1.drew.set k (.int .u32 (q32 (s.list.getD k 0 + st.list.getD k 0)))
              rw [Sofar.set s st k hlt3, ← hx, ← hy] at hset
              rw [← hx] at c
              rw [← hy] at cy
              have hsum := mod_sum2 x y
              have h7 := g7.drew.set_other ⟨w.heap.size + 1, k, none⟩ (.int .u32 (q32 (x + y))) (by simp; omega)
              have h0 := k0.drew.set_other ⟨w.heap.size + 1, k, none⟩ (.int .u32 (q32 (x + y))) (by simp)
              have h3 : Sl (wr.drew.setCell ⟨w.heap.size + 1, k, none⟩ (.int .u32 (q32 (x + y)))) 1 (some ad) L (U P) := k3.drew.only (Only.set _ _ _ _) (by omega)
              have h4 : Later w (wr.drew.setCell ⟨w.heap.size + 1, k, none⟩ (.int .u32 (q32 (x + y)))) := k2.drew.setCell (by simp) _
              have k0' : (0 : Int) ≤ (k : Int) := by omega
              have k8 : (k : Int) < 8 := by omega
              have bx := q32_bd x
              have by' := q32_bd y
              clear k1 g7 k0 k3 k2 hx hy
              go_wp2
              go_still_tail 9, (by kernel_rfl)
              change wpList _ _ _ _ _ wr.drew
              go_wp2
              go_roundw
              case rel => exact ⟨k + 1, by omega, by go_num, hset, h7, h0, h3, h4⟩
              case measure => simp [intOf]; omega
            · obtain rfl : k = 8 := by omega
              have hcm : Sofar s st 8 = StV (Hs.compress s (bv B)) := by
                unfold Hs.compress
                rw [← HWS.out, ← HST.out]; rfl
              rw [hcm] at k1
              have hnx : Hs.blocks (N - (j + 1)) (Hs.compress s (bv B)) ((bv P).drop (64 * (j + 1))) = Hs.final (bv b) := by
                rw [← HR.out, show N - j = (N - (j + 1)) + 1 by omega, HBB.out]
                show _ = Hs.blocks _ (Hs.compress s (((bv P).drop (64 * j)).take 64)) (((bv P).drop (64 * j)).drop 64)
                rw [List.drop_drop]
                have e1 : bv ((P.drop (64 * j)).take 64) = ((bv P).drop (64 * j)).take 64 := by simp [bv]
                rw [e1, show 64 * (j + 1) = 64 * j + 64 by omega]
              have HNX := Lib.hid hnx
              clear hcm hnx HR HST HWS HBB
              go_wp2
              go_roundw
              case rel => exact ⟨j + 1, Hs.compress s (bv B), by omega, by go_num, HNX, k0, k1, k3, k2⟩
              case measure => simp [intOf]; omega
    · obtain rfl : j = N := by omega
      have hse : s = Hs.final (bv b) := by have h := HR.out; rw [Nat.sub_self] at h; exact h
      have HSE := Lib.hid hse
      clear hse HR f3
      obtain ⟨wo, rfl⟩ : ∃ wo : World, wo = wr := ⟨_, rfl⟩
      go_wp2
      go_loopw [13] (fun i wq => ∃ k : Nat, k ≤ 32 ∧ i = .int .i64 k ∧ Blk wq (w.heap.size + 1) 96 (StV s) ∧ Blk wq w.heap.size 103 (PartB [] 32) ∧ Blk wq wo.heap.size 103 (PartB (unp s k) 32) ∧ Later w wq) (fun i _ => 32 - (intOf i).toNat)
      case atStart => exact ⟨0, by omega, rfl, f1.alloc _, f0.alloc _, Blk.new _ _ _ _ rfl, f2.alloc f2.size _⟩
      case round =>
        have hlt1 := f1.lt
        clear f0 f1 f2
        obtain ⟨k, hk, rfl, g1, g2, g3, g4⟩ := hrel
        by_cases hlt2 : k < 32
        · have hc := g1.cell (j := k / 4) (W32_get s.list (k / 4) (by show _ < 8; omega))
          have hb' := byte_of (s.list.getD (k / 4) 0) (24 - 8 * (k % 4))
          have hbd := q32_bd (s.list.getD (k / 4) 0)
          have hus := unp_succ s k
          obtain ⟨y, hy⟩ : ∃ y, y = q8 (((s.list.getD (k / 4) 0) >>> (24 - 8 * (k % 4))).setWidth 8) := ⟨_, rfl⟩
          rw [← hy] at hb' hus
          obtain ⟨x, hx⟩ : ∃ x, x = s.list.getD (k / 4) 0 := ⟨_, rfl⟩
          rw [← hx] at hc hb' hbd
          clear hx hy
          obtain ⟨u, hcell⟩ := Option.isSome_iff_exists.1 (g3.there1 (j := k) (by rw [PartB.len (by rw [unp_len]; omega)]; omega))
          have hfr := g3.frz k
          have HU := Lib.hid hus; clear hus
          have e1 : ((k : Int) / 4).toNat = k / 4 := by omega
          have e2 : ((24 : Int) - 8 * ((k : Int) % 4)).toNat = 24 - 8 * (k % 4) := by omega
          have k0 : (0 : Int) ≤ (k : Int) := by omega
          have k1 : (k : Int) / 4 < 8 := by omega
          have k2 : (0 : Int) ≤ (k : Int) / 4 := by omega
          have k32 : (k : Int) < 32 := by omega
          go_wp2
          have hset := g3.set k (.int .u8 y)
          have hps : (PartB (unp s k) 32).set k (.int .u8 y) = PartB (unp s (k + 1)) 32 := by
            have h := PartB.set (b := unp s k) (n := 32) (by rw [unp_len]; exact hlt2) y
            rw [unp_len] at h
            rw [h, HU.out]
          rw [hps] at hset
          go_roundw
          case rel => exact ⟨k + 1, by omega, by go_num, g1.set_other _ _ (by simp; omega), g2.set_other _ _ (by simp; omega), hset, g4.setCell (by simp; omega) _⟩
          case measure => simp [intOf]; omega
        · obtain rfl : k = 32 := by omega
          have hf : PartB (unp s 32) 32 = shaC b := by rw [PartB.full (unp_len s 32), unp_all, HSE.out]; rfl
          rw [hf] at g3
          obtain ⟨F, hF⟩ : ∃ F, F = shaC b := ⟨_, rfl⟩
          rw [← hF] at g3
          have hol : F.length = 32 := by rw [hF]; exact shaC_len _
          have hszF : (Tryd.prog.info? 103).map (·.size) = some F.length := by rw [hol]; kernel_rfl
          have hF1 : ∀ v ∈ F, v.oneCell' = true := by rw [hF]; exact shaC_one _
          have hFl : (PartB [] 32).length = F.length := by rw [hol]; rfl
          have HF := Lib.hid hF
          have HF1 := Lib.hid hF1
          have HFl := Lib.hid hFl
          have hu8 := Tryd.underlying103
          have HU8 := Lib.hid hu8
          clear hF hF1 hFl hu8 hol hf g1
          go_wp2_with (first
            | ((with_reducible refine wpList_load_blk (o := ⟨some 147, .load 103 (.tmp 12), _, _, _, none⟩) rfl _ _ rfl wo.heap.size 103 F _ ?_ g3 HU8.out rfl hszF ?_); rfl)
            | ((with_reducible refine wpList_store_abs (o := ⟨none, .store 103 (.tmp 2) (.tmp 147), _, _, _, none⟩) rfl _ _ _ rfl w.heap.size 103 (PartB [] 32) F ?_ ?_ g2 hszF HFl.out HF1.out ?_); rfl; rfl; intro w5 k1 k2))
          exact bodyPost_ret (v := .agg F.toArray) (results_blk Tryd.results72 _ _ w.heap.size _ F _ rfl k1 HU8.out rfl hszF) rfl ⟨by rw [HF.out], Below.only g4 k2 (Nat.le_refl _)⟩
end Go.Proofs.YtaihfkcoiagdaabDoor

/-
  THE WALKS OF the reference's Short, Input, Of.
-/
namespace Go.Proofs.YtaihfkcoiagdaabDoor
open Go.RowKit

/-- The first bytes of the hash. -/
def digOf (b : Wm.Bs) : Wm.Bs := (iv8 (Hs.sha (bv b))).take 16
theorem sha_len (b : Wm.Bs) : (iv8 (Hs.sha (bv b))).length = 32 := by have := shaC_len b; unfold shaC at this; rwa [U_length] at this
theorem digOf_len (b : Wm.Bs) : (digOf b).length = 16 := by unfold digOf; rw [List.length_take, sha_len]; rfl
theorem digOf_bs (b : Wm.Bs) : Wm.isBs (digOf b) := bs_take (iv8_bs _) _
theorem U_digOf (b : Wm.Bs) : U (digOf b) = (shaC b).take 16 := by unfold digOf shaC U; rw [List.map_take]

set_option maxRecDepth 100000 in
set_option maxHeartbeats 1000000 in
theorem refShort_any (A : Option Addr) (n c : Nat) (b : Wm.Bs) (w : World) (hs : Sl w 1 A n (U b)) (hb : Wm.isBs b) (hn : n ≤ 100000) (tab : Tab0 w) :
    Calls Tryd.prog 60 #[.slice A n c] w fun e w' => e = .returned (.agg (U (digOf b)).toArray) ∧ Later w w' := by
  obtain ⟨H, hH⟩ : ∃ H, H = iv8 (Hs.sha (bv b)) := ⟨_, rfl⟩
  have hHl : H.length = 32 := by rw [hH]; exact sha_len b
  have hHb : Wm.isBs H := by rw [hH]; exact iv8_bs _
  have hD : digOf b = H.take 16 := by rw [hH]; rfl
  obtain ⟨C, hC⟩ : ∃ C, C = U H := ⟨_, rfl⟩
  have HSM := Lib.hid fun (w' : World) (hl : Later w w') => by have h := refSum_any A n c b w' (hs.keep hl) hb hn (tab.keep hl); rw [show shaC b = C from by rw [hC, hH]; rfl] at h; exact h
  have hszC : (Tryd.prog.info? 103).map (·.size) = some C.length := by rw [hC, U_length, hHl]; kernel_rfl
  have hC1 : ∀ v ∈ C, v.oneCell' = true := by rw [hC]; exact U_one _
  have hCl : (PartB [] 32).length = C.length := by rw [hC, U_length, hHl]; rfl
  have HCC := Lib.hid hC; have HC1 := Lib.hid hC1; have HCl := Lib.hid hCl; have HHL := Lib.hid hHl; have HD := Lib.hid hD
  clear hs tab hH hC hC1 hCl hHl hD
  go_enter Tryd.func60, Tryd.ntmps60
  go_wp2_with (first
    | (go_at_call 72; (with_reducible refine (HSM.out _ ((Below.refl _ _).alloc (Nat.le_refl _) _)).mono ?_); rintro e w1 ⟨rfl, l1⟩)
    | ((with_reducible refine wpList_store_abs (o := ⟨none, .store 103 (.tmp 3) (.tmp 7), _, _, _, none⟩) rfl _ _ _ rfl w1.heap.size 103 (PartB [] 32) C ?_ ?_ ?_ hszC HCl.out HC1.out ?_); rfl; rfl; exact Blk.new _ _ _ _ rfl; intro w2 g3 o2))
  have n1 := l1.size
  have n2 := o2.size
  simp only [World.size_alloc] at n1 n2
  have f1 : Blk w2 w.heap.size 31 (PartB [] 16) := (((Blk.new w _ _ _ rfl).keep l1).alloc _).only o2 (by omega)
  have f2 : Later w w2 := Below.only ((Later.trans_ ((Below.refl _ _).alloc (Nat.le_refl _) _) l1).alloc (by omega) _) o2 (by omega)
  rw [HCC.out] at g3
  obtain ⟨B3, hB3⟩ : ∃ B3, B3 = w1.heap.size := ⟨_, rfl⟩
  rw [← hB3] at g3 ⊢
  have m3 : B3 < w2.heap.size := by omega
  have m0 : w.heap.size < B3 := by omega
  clear l1 o2 n1 n2 hB3 HSM
  go_loopw [5] (fun i wq => ∃ k : Nat, k ≤ 16 ∧ i = .int .i64 k ∧ Blk wq w.heap.size 31 (PartB [] 16) ∧ Blk wq B3 103 (U H) ∧ Blk wq w2.heap.size 31 (PartB (H.take k) 16) ∧ Later w wq) (fun i _ => 16 - (intOf i).toNat)
  case atStart => exact ⟨0, by omega, rfl, f1.alloc _, g3.alloc _, Blk.new _ _ _ _ rfl, f2.alloc f2.size _⟩
  case round =>
    clear f1 f2 g3
    obtain ⟨k, hk, rfl, k1, k2, k3, k4⟩ := hrel
    have htl : (H.take k).length = k := by rw [List.length_take, HHL.out]; omega
    by_cases hlt : k < 16
    · obtain ⟨x, hc, x0, x1, HX⟩ := k2.byte hHb k (by rw [HHL.out]; omega)
      have htk : H.take (k + 1) = H.take k ++ [x] := by
        rw [List.take_succ_eq_append_getElem (by rw [HHL.out]; omega)]
        congr 2
        rw [← HX.out, List.getD_eq_getElem?_getD, List.getElem?_eq_getElem (by rw [HHL.out]; omega)]; rfl
      obtain ⟨u, hcell⟩ := Option.isSome_iff_exists.1 (k3.there1 (j := k) (by rw [PartB.len (by omega)]; omega))
      have hfr := k3.frz k
      have hset := k3.set k (.int .u8 x)
      have hps := PartB.set (b := H.take k) (n := 16) (by omega) x
      rw [htl] at hps
      rw [hps, ← htk] at hset
      have e0 : (0 : Int) ≤ (k : Int) := by omega
      have e1 : (k : Int) < 16 := by omega
      have e2 : (k : Int) < 32 := by omega
      clear htk htl hps HX
      go_wp2
      go_roundw
      case rel => exact ⟨k + 1, by omega, by go_num, k1.set_other _ _ (by simp; omega), k2.set_other _ _ (by simp; omega), hset, k4.setCell (by simp; omega) _⟩
      case measure => simp [intOf]; omega
    · obtain rfl : k = 16 := by omega
      rw [← HD.out, PartB.full (digOf_len b)] at k3
      obtain ⟨F, hF⟩ : ∃ F, F = U (digOf b) := ⟨_, rfl⟩
      rw [← hF] at k3
      have hol : F.length = 16 := by rw [hF, U_length]; exact digOf_len _
      have hszF : (Tryd.prog.info? 31).map (·.size) = some F.length := by rw [hol]; kernel_rfl
      have hF1 : ∀ v ∈ F, v.oneCell' = true := by rw [hF]; exact U_one _
      have hFl : (PartB [] 16).length = F.length := by rw [hol]; rfl
      have HF := Lib.hid hF
      have HF1 := Lib.hid hF1
      have HFl := Lib.hid hFl
      have hu8 := Tryd.underlying31
      have HU8 := Lib.hid hu8
      clear hF hF1 hFl hu8 hol htl
      go_wp2_with (first
        | ((with_reducible refine wpList_load_blk (o := ⟨some 18, .load 31 (.tmp 4), _, _, _, none⟩) rfl _ _ rfl w2.heap.size 31 F _ ?_ k3 HU8.out rfl hszF ?_); rfl)
        | ((with_reducible refine wpList_store_abs (o := ⟨none, .store 31 (.tmp 2) (.tmp 18), _, _, _, none⟩) rfl _ _ _ rfl w.heap.size 31 (PartB [] 16) F ?_ ?_ k1 hszF HFl.out HF1.out ?_); rfl; rfl; intro w5 z1 z2))
      exact bodyPost_ret (v := .agg F.toArray) (results_blk Tryd.results60 _ _ w.heap.size _ F _ rfl z1 HU8.out rfl hszF) rfl ⟨by rw [HF.out], Below.only k4 z2 (Nat.le_refl _)⟩

/-- The reference's Input. -/
theorem ofS_ofB (s : ByteArray) : Wm.ofS s = sb s := rfl
set_option maxRecDepth 100000 in
set_option maxHeartbeats 1000000 in
theorem refInput_any (tag : Int) (A : Option Addr) (n c : Nat) (l : List ByteArray) (w : World) (hs : Sl w 1 A n (Strs l)) (h400 : ∀ s ∈ l, s.size ≤ 400) (hn : n ≤ 200) :
    Calls Tryd.prog 61 #[.int .i64 tag, .slice A n c] w (MadeV (inputB tag l) w) := by
  obtain ⟨i0, hi, hz0, hz1, hz2⟩ := info_parts u8_info
  have hll := hs.slen
  have hil : ∀ k, (inputB tag (l.take k)).length ≤ 82001 := fun k => by
    have h1 := inputB_le tag (l.take k) (fun x hx => h400 x (List.mem_of_mem_take hx))
    have h2 : (l.take k).length ≤ l.length := by rw [List.length_take]; omega
    omega
  have HLL := Lib.hid hll
  have htag : IntKind.u8.wrap tag = tag % 256 := IntKind.wrap_u8 _
  obtain ⟨tg, htg, t0, t1⟩ : ∃ tg, IntKind.u8.wrap tag = tg ∧ 0 ≤ tg ∧ tg < 256 := ⟨_, rfl, by rw [htag]; omega, by rw [htag]; omega⟩
  have HTG : Hid (tg = tag % 256) := Lib.hid (htg.symm.trans htag)
  have H4 := Lib.hid h400; have HIL := Lib.hid hil
  clear htag hll h400 hil
  go_enter Tryd.func61, Tryd.ntmps61
  go_wp2
  have o1 : (w.alloc (.cells #[.int .u8 tg] 5)).ownsRow w.heap.size 5 1 (.slice (some ⟨w.heap.size, 0, none⟩) 1 1) 1 [.int .u8 tg] := World.ownsRow_lit w #[.int .u8 tg] 1 (Nat.le_refl _) (by decide) rfl
  have hst : inputB tag (l.take 0) = [tg] := by simp [inputB, HTG.out]
  have HST := Lib.hid hst
  clear hst htg
  go_loopw [5, 6] (fun v i wr => ∃ k : Nat, k ≤ n ∧ i = .int .i64 k ∧ wr.ownsRow w.heap.size 5 1 v (inputB tag (l.take k)).length (U (inputB tag (l.take k))) ∧ Later w wr) (fun _ i _ => n - (intOf i).toNat)
  case atStart => exact ⟨0, Nat.zero_le _, rfl, by rw [HST.out]; exact o1, (Below.refl _ _).alloc (Nat.le_refl _) _⟩
  case round =>
    clear o1
    obtain ⟨k, hk, rfl, hor, hbr⟩ := hrel
    by_cases hlt : k < n
    · obtain ⟨ad, s, rfl, hbl, hc, hmem, HX⟩ := (hs.keep hbr).str hlt
      have hs4 := H4.out s hmem
      have hmE : (Wm.encB (sb s)).length ≤ 410 := by have := encB_le s (by omega); omega
      have hik := HIL.out k
      have hnx : inputB tag (l.take (k + 1)) = inputB tag (l.take k) ++ Wm.encB (sb s) := by rw [HX.out.1, inputB_snoc]
      have HN := Lib.hid hnx
      have HB := Lib.hid (madeV_as (ref01Bytes_any s wr (by omega) (by rw [ofS_ofB]; omega)))
      rw [ofS_ofB] at HB
      obtain ⟨K, hK⟩ : ∃ K, K = inputB tag (l.take k) := ⟨_, rfl⟩
      rw [← hK] at hor hik HN
      obtain ⟨E, hE⟩ : ∃ E, E = Wm.encB (sb s) := ⟨_, rfl⟩
      rw [← hE] at HB HN hmE
      clear hnx HX hK hE
      go_wp2_with (first
        | (go_at_call 73; (with_reducible refine HB.out.mono ?_); rintro e w1 ⟨A1, c1, rfl, m1, m2, _, m3, m4⟩)
        | (at_builtin; refine wpList_app _ rfl _ _ 75 rfl w.heap.size 5 i0 (.int .u8 0) 1 1 Tryd.underlying75 hi hz0 hz1 hz2 rfl (by decide) _ _ _ rfl (own_below hor m4) A1 E.length c1 _ rfl m3 (U_one _) (by unfold maxLen; omega) (by omega) (Later.trans_ hbr m4).size ?_; intro v2 w2 hown2 hgrow2))
      have hb2 : Later w w2 := (Later.trans_ hbr m4).grown hgrow2 (Later.trans_ hbr m4).size (fun k hk => (hor.lt k hk).1)
      have ho2 := own_app (b := E) rfl hown2
      rw [← HN.out] at ho2
      clear hown2 hgrow2 hor m3 m4
      go_roundw
      case rel => exact ⟨k + 1, by omega, by go_num, ho2, hb2⟩
      case measure => simp [intOf]; omega
    · rw [List.take_of_length_le (by rw [HLL.out]; omega)] at hor
      go_wp2
      go_ret
      exact ⟨_, rfl, hor, hbr⟩

set_option maxRecDepth 100000 in
set_option maxHeartbeats 1000000 in
theorem refOf_any (tag : Int) (A : Option Addr) (n c : Nat) (l : List ByteArray) (w : World) (hs : Sl w 1 A n (Strs l)) (h400 : ∀ s ∈ l, s.size ≤ 400) (hn : n ≤ 200) (tab : Tab0 w) :
    Calls Tryd.prog 41 #[.int .i64 tag, .slice A n c] w fun e w' => e = .returned (.agg (U (digOf (inputB tag l))).toArray) ∧ Later w w' := by
  have hil := inputB_le tag l h400
  have hll := hs.slen
  obtain ⟨I, hI⟩ : ∃ I, I = inputB tag l := ⟨_, rfl⟩
  have hIb : Wm.isBs I := by rw [hI]; exact inputB_bs _ _
  have HIN := Lib.hid fun (w' : World) (hl : Later w w') => by have h := madeV_as (refInput_any tag A n c l w' (hs.keep hl) h400 hn); rw [← hI] at h; exact h
  rw [← hI] at hil ⊢
  obtain ⟨F, hF⟩ : ∃ F, F = U (digOf I) := ⟨_, rfl⟩
  have hol : F.length = 16 := by rw [hF, U_length]; exact digOf_len _
  have HSH := Lib.hid fun (w' : World) (X : Option Addr) (c' : Nat) (hl : Later w w') (hx : Sl w' 1 X I.length (U I)) => by have h := refShort_any X I.length c' I w' hx hIb (by omega) (tab.keep hl); rw [← hF] at h; exact h
  have hszF : (Tryd.prog.info? 31).map (·.size) = some F.length := by rw [hol]; kernel_rfl
  have hF1 : ∀ v ∈ F, v.oneCell' = true := by rw [hF]; exact U_one _
  have hFl : (PartB [] 16).length = F.length := by rw [hol]; rfl
  rw [← hF]
  have HF1 := Lib.hid hF1
  have HFl := Lib.hid hFl
  have hu8 := Tryd.underlying31
  have HU8 := Lib.hid hu8
  clear hF hF1 hFl hu8 hol hI hil hll hs tab h400
  go_enter Tryd.func41, Tryd.ntmps41
  go_wp2_with (first
    | (go_at_call 61; (with_reducible refine (HIN.out _ ((Below.refl _ _).alloc (Nat.le_refl _) _)).mono ?_); rintro e w1 ⟨A1, c1, rfl, m1, m2, _, m3, m4⟩; have l1 := Later.trans_ ((Below.refl _ _).alloc (Nat.le_refl _) _) m4)
    | (go_at_call 60; (with_reducible refine (HSH.out _ A1 c1 l1 m3).mono ?_); rintro e w2 ⟨rfl, m5⟩)
    | ((with_reducible refine wpList_store_abs (o := ⟨none, .store 31 (.tmp 4) (.tmp 8), _, _, _, none⟩) rfl _ _ _ rfl w.heap.size 31 (PartB [] 16) F ?_ ?_ ?_ hszF HFl.out HF1.out ?_); rfl; rfl; exact (((Blk.new w _ _ _ rfl).keep m4).keep m5); intro w5 z1 z2))
  exact bodyPost_ret (v := .agg F.toArray) (results_blk Tryd.results41 _ _ w.heap.size _ F _ rfl z1 HU8.out rfl hszF) rfl ⟨rfl, Below.only (Later.trans_ l1 m5) z2 (Nat.le_refl _)⟩
end Go.Proofs.YtaihfkcoiagdaabDoor

/-
  BOTH TABLES: the reference's constants and the program's, from a row's list; the world of the witness.
-/
namespace Go.Proofs.YtaihfkcoiagdaabDoor
open Go.RowKit Go.ChangeShapes Go.WideShapes Go.ChangeAt

theorem gTab0 : Tryd.prog.globalNamed "simulacrum/simulacrumref02.constants" = some 1 := by kernel_rfl
theorem tab0_data : (Rows.laid_simulacrum_simulacrumref02_constants : DataW Unit) = Lib.tabData .u32 (Hs.K.map q32) := by kernel_rfl
theorem tab0_of {W : World} {rest : List (String × DataW Unit)} (h : laidMet Tryd.prog (("simulacrum/simulacrumref02.constants", Rows.laid_simulacrum_simulacrumref02_constants) :: rest) W) : Tab0 W := by
  rw [tab0_data] at h
  have ht : ∃ t e : TypeId, (Tryd.prog.globals[1]?).map (·.type) = some t ∧ Tryd.prog.underlying t = some (.array 64 e) ∧ Tryd.prog.underlying e = some (.int .u32) ∧ Tryd.prog.cellsOf e = 1 ∧ Tryd.prog.cellsOf t = 64 :=
    ⟨119, 95, by kernel_rfl, by kernel_rfl, by kernel_rfl, by kernel_rfl, by kernel_rfl⟩
  obtain ⟨t, e, h1, h2, h3, h4, h5⟩ := ht
  have hT := Lib.tabIs_of_head gTab0 h1 h2 h3 h4 h5 h
  intro j hj
  have hc := hT.cell gTab0 j (by rw [List.length_map, K_len]; exact hj)
  rw [hc, List.getD_eq_getElem?_getD, List.getElem?_map, List.getD_eq_getElem?_getD, List.getElem?_eq_getElem (by rw [K_len]; exact hj)]
  rfl
theorem tabs_of {W : World} (h : laidMet Tryd.prog [("simulacrum/simulacrumref02.constants", Rows.laid_simulacrum_simulacrumref02_constants), ("simulacrum/hash.rounds", Rows.laid_simulacrum_hash_rounds)] W) : Tab0 W ∧ Tab W :=
  ⟨tab0_of h, tab_of h.tail⟩
noncomputable def layK (o : Obj) : Obj := match o with
  | .cells _ t frozen => .cells (W32 Hs.K).toArray t frozen
  | o => o
/-- A world for the witness. -/
noncomputable def laidWorld2 (os : Os) : World :=
  { World.holding Tryd.prog os ⟨#[], #[], []⟩ with heap := ((World.holding Tryd.prog os ⟨#[], #[], []⟩).heap.modify 1 layK).modify 0 layK }
end Go.Proofs.YtaihfkcoiagdaabDoor
