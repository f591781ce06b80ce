/-
  PARTS OF Answer: slices.Clone of stores and of accesses; put, into the processor of an effect.
-/
import Derived.Test.YtidhodalnikhlaaGreatDoorWq
namespace Go.Proofs.YtidhodalnikhlaaGreatDoor
open Go.RowKit Go.ChangeShapes Go.WideShapes Go.ChangeAt

theorem sl_of {w : World} {g q size : Nat} {xs : List Value} {e : TypeId} (hl : xs.length = q * size) (h : ∃ cur : Array Value, w.heap[g]? = some (.cells cur e (0, 0)) ∧ cur.toList.take (q * size) = xs) : Sl w size (some ⟨g, 0, none⟩) q xs := by
  obtain ⟨cur, h1, h2⟩ := h
  have hb : Blk w g e cur.toList := by unfold Blk; simpa using h1
  refine ⟨hl, fun _ => ⟨_, rfl, hb.lt, fun j u hu => ?_⟩⟩
  rw [← h2, List.getElem?_take] at hu
  split at hu
  · have hv := hb.cell hu
    unfold Addr.add
    split
    · rename_i h0
      subst h0
      exact hv
    · simpa using hv
  · cases hu
/-- A slice of three cells each that lies above block B. -/
def Fr (w : World) (B : Nat) (A : Option Addr) (q : Nat) (xs : List Value) : Prop := Sl w 3 A q xs ∧ ∀ ad, A = some ad → B < ad.block
theorem Fr.keep {w w' : World} {B : Nat} {A : Option Addr} {q : Nat} {xs : List Value} (h : Fr w B A q xs) (l : Later w w') : Fr w' B A q xs := ⟨h.1.keep l, h.2⟩
theorem Fr.only {w w' : World} {B g : Nat} {A : Option Addr} {q : Nat} {xs : List Value} (h : Fr w B A q xs) (o : Only g w w') (hg : g ≤ B) : Fr w' B A q xs :=
  ⟨h.1.block (Nat.le_of_eq o.size.symm) (fun ad e => o.2.2.2.2 _ (by have := h.2 ad e; omega)), h.2⟩
theorem Fr.but {w w' : World} {B g : Nat} {A : Option Addr} {q : Nat} {xs : List Value} (h : Fr w B A q xs) (o : ∃ u, Later w u ∧ Only g u w') (hg : g ≤ B) : Fr w' B A q xs := by
  obtain ⟨u, l, k⟩ := o
  exact (h.keep l).only k hg
set_option maxRecDepth 100000 in
set_option maxHeartbeats 1000000 in
theorem clonew_any (A : Option Addr) (q c : Nat) (xs : List Value) (w : World) (hs : Sl w 3 A q xs) (hq : q ≤ 1000000) : Calls Tryz.prog 45 #[.slice A q c] w fun e w' => ∃ A' c', e = .returned (.slice A' q c') ∧ Sl w' 3 A' q xs ∧ (∀ ad, A' = some ad → w.heap.size ≤ ad.block) ∧ Later w w' := by
  have hl := hs.1
  have hnil := run_eql_nil (P := Tryz.prog) w 33 64 A q c Tryz.underlying33
  by_cases h0 : q = 0
  · subst h0
    obtain rfl : xs = [] := List.eq_nil_of_length_eq_zero (by simpa using hl)
    cases A with
    | none =>
      go_enter Tryz.func45, Tryz.ntmps45
      go_wp2
      go_ret
      exact ⟨none, 0, rfl, Sl.nil _ _ _, fun ad e => (by cases e), later0 _⟩
    | some ad =>
      go_enter Tryz.func45, Tryz.ntmps45
      go_wp2
      go_ret
      exact ⟨some ⟨w.heap.size, 0, none⟩, 0, rfl, Sl.nil _ _ _, fun ad e => (by cases e; exact Nat.le_refl _), later1 _ _⟩
  · obtain ⟨i0, hi, hz0, hz1, hz2⟩ := info_parts wr_info
    obtain ⟨ad, rfl⟩ := hs.addr (by omega)
    have HS := Lib.hid hs
    clear hs
    go_enter Tryz.func45, Tryz.ntmps45
    go_wp2_with (first
      | ((with_reducible refine wpList_app_own rfl (.tmp 5) (.tmp 6) 33 rfl 64 i0 _ 3 24 Tryz.underlying33 hi hz0 hz1 hz2 ?_ ?_ ⟨w.heap.size, 0, none⟩ ?_ (some ad) q c xs ?_ ?_ ?_ ?_ ?_ ?_); rfl; decide; rfl; rfl; omega; exact HS.out.alloc _; (unfold maxLen; omega); omega; intro g c' w1 k1 k2 k3 k4 k5))
    go_ret
    exact ⟨some ⟨g, 0, none⟩, c', rfl, sl_of hl k4, fun ad e => (by cases e; exact Nat.le_of_succ_le (by simpa using k3)), Later.trans_ (later1 _ _) k5⟩
set_option maxRecDepth 100000 in
set_option maxHeartbeats 1000000 in
theorem clonea_any (A : Option Addr) (q c : Nat) (xs : List Value) (w : World) (hs : Sl w 3 A q xs) (hq : q ≤ 1000000) : Calls Tryz.prog 46 #[.slice A q c] w fun e w' => ∃ A' c', e = .returned (.slice A' q c') ∧ Sl w' 3 A' q xs ∧ (∀ ad, A' = some ad → w.heap.size ≤ ad.block) ∧ Later w w' := by
  have hl := hs.1
  have hnil := run_eql_nil (P := Tryz.prog) w 34 53 A q c Tryz.underlying34
  by_cases h0 : q = 0
  · subst h0
    obtain rfl : xs = [] := List.eq_nil_of_length_eq_zero (by simpa using hl)
    cases A with
    | none =>
      go_enter Tryz.func46, Tryz.ntmps46
      go_wp2
      go_ret
      exact ⟨none, 0, rfl, Sl.nil _ _ _, fun ad e => (by cases e), later0 _⟩
    | some ad =>
      go_enter Tryz.func46, Tryz.ntmps46
      go_wp2
      go_ret
      exact ⟨some ⟨w.heap.size, 0, none⟩, 0, rfl, Sl.nil _ _ _, fun ad e => (by cases e; exact Nat.le_refl _), later1 _ _⟩
  · obtain ⟨i0, hi, hz0, hz1, hz2⟩ := info_parts ac_info
    obtain ⟨ad, rfl⟩ := hs.addr (by omega)
    have HS := Lib.hid hs
    clear hs
    go_enter Tryz.func46, Tryz.ntmps46
    go_wp2_with (first
      | ((with_reducible refine wpList_app_own rfl (.tmp 5) (.tmp 6) 34 rfl 53 i0 _ 3 24 Tryz.underlying34 hi hz0 hz1 hz2 ?_ ?_ ⟨w.heap.size, 0, none⟩ ?_ (some ad) q c xs ?_ ?_ ?_ ?_ ?_ ?_); rfl; decide; rfl; rfl; omega; exact HS.out.alloc _; (unfold maxLen; omega); omega; intro g c' w1 k1 k2 k3 k4 k5))
    go_ret
    exact ⟨some ⟨g, 0, none⟩, c', rfl, sl_of hl k4, fun ad e => (by cases e; exact Nat.le_of_succ_le (by simpa using k3)), Later.trans_ (later1 _ _) k5⟩
theorem eff_reg (s : Sp) (k : Nat) (h : k < 16) : s.eff[2 + k]? = some (.int .u32 (s.ec.reg k)) := by
  rcases (show k = 0 ∨ k = 1 ∨ k = 2 ∨ k = 3 ∨ k = 4 ∨ k = 5 ∨ k = 6 ∨ k = 7 ∨ k = 8 ∨ k = 9 ∨ k = 10 ∨ k = 11 ∨ k = 12 ∨ k = 13 ∨ k = 14 ∨ k = 15 by omega) with rfl | rfl | rfl | rfl | rfl | rfl | rfl | rfl | rfl | rfl | rfl | rfl | rfl | rfl | rfl | rfl <;> rfl
theorem eff_setR (s : Sp) (k : Nat) (v : Int) (h : k < 16) : s.eff.set (2 + k) (.int .u32 v) = ({ s with ec := s.ec.setR k v } : Sp).eff := by
  rcases (show k = 0 ∨ k = 1 ∨ k = 2 ∨ k = 3 ∨ k = 4 ∨ k = 5 ∨ k = 6 ∨ k = 7 ∨ k = 8 ∨ k = 9 ∨ k = 10 ∨ k = 11 ∨ k = 12 ∨ k = 13 ∨ k = 14 ∨ k = 15 by omega) with rfl | rfl | rfl | rfl | rfl | rfl | rfl | rfl | rfl | rfl | rfl | rfl | rfl | rfl | rfl | rfl <;> rfl
/-- The world grew, and of what was there only block B may be another. -/
def But (B : Nat) (w w' : World) : Prop := ∃ u, Later w u ∧ Only B u w'
theorem But.blk {B : Nat} {w w' : World} (h : But B w w') {g : Nat} {t : TypeId} {cs : List Value} (hb : Blk w g t cs) (hne : g ≠ B) : Blk w' g t cs := by
  obtain ⟨u, l, k⟩ := h
  exact (hb.keep l).only k hne
theorem But.below {B C : Nat} {a w w' : World} (h : But B w w') (hb : Below C a w) (hC : C ≤ B) (hl : C ≤ w.heap.size) : Below C a w' := by
  obtain ⟨u, l, k⟩ := h
  exact Below.only (hb.trans (l.mono hl)) k hC
set_option maxRecDepth 100000 in
set_option maxHeartbeats 2000000 in
theorem eput_any {w : World} {B : Nat} {s : Sp} (h : Blk w B 38 s.eff) (i : Im.I) (hr : Im.Right i) (tab : Tab w) (x : Int) : Calls Tryz.prog 49 #[.pointer (some ⟨B, 1, none⟩), .agg i.cells.toArray, .int .u32 x] w fun e w' => e = .returned (.tuple #[]) ∧ Blk w' B 38 ({ s with ec := s.ec.putR i x } : Sp).eff ∧ But B w w' := by
  have HW := Lib.hid fun w' (hl : Later w w') => writes_any i hr w' (tab.keep hl)
  obtain ⟨k0, k1⟩ := write_reg hr
  unfold Cpu.putR
  obtain ⟨z, hz⟩ : ∃ z, z = writeI i := ⟨_, rfl⟩
  rw [← hz] at HW k0 k1 ⊢
  clear hz hr
  obtain ⟨op, a, b', c', im⟩ := i
  have l0 := later1 w (.cells #[.int .i64 op, .int .i64 a, .int .i64 b', .int .i64 c', .int .i64 im] 70)
  by_cases h0 : z = 0
  · have e0 : (z != 0) = false := by simpa using h0
    rw [if_pos h0]
    have H := Lib.hid h
    clear h h0 k0 k1
    show Calls Tryz.prog 49 #[.pointer (some ⟨B, 1, none⟩), .agg #[.int .i64 op, .int .i64 a, .int .i64 b', .int .i64 c', .int .i64 im], .int .u32 x] w _
    go_enter Tryz.func49, Tryz.ntmps49
    go_wp2_with (go_at_call 95; refine (HW.out _ l0).mono ?_; rintro e w1 ⟨rfl, l1⟩)
    go_end0
    exact ⟨rfl, H.out.keep (Later.trans_ l0 l1), w1, Later.trans_ l0 l1, rfl, rfl, rfl, rfl, fun _ _ => rfl⟩
  · have e0 : (z != 0) = true := by simpa using h0
    rw [if_neg h0]
    obtain ⟨k, rfl⟩ := Int.eq_ofNat_of_zero_le k0
    have h16 : k < 16 := by omega
    have H := Lib.hid h
    clear h h0 k0
    show Calls Tryz.prog 49 #[.pointer (some ⟨B, 1, none⟩), .agg #[.int .i64 op, .int .i64 a, .int .i64 b', .int .i64 c', .int .i64 im], .int .u32 x] w _
    go_enter Tryz.func49, Tryz.ntmps49
    go_wp2_with (go_at_call 95; refine (HW.out _ l0).mono ?_; rintro e w1 ⟨rfl, l1⟩; have l2 := Later.trans_ l0 l1; have h2 := H.out.keep l2; have c0 : w1.cell? ⟨B, 2 + k, none⟩ = some (.int .u32 (s.ec.reg k)) := h2.cell (eff_reg s k h16); have f0 := h2.frz (2 + k))
    go_end0
    exact ⟨rfl, eff_setR s k x h16 ▸ h2.set (2 + k) (.int .u32 x), w1, l2, Only.set _ _ _ _⟩
end Go.Proofs.YtidhodalnikhlaaGreatDoor
