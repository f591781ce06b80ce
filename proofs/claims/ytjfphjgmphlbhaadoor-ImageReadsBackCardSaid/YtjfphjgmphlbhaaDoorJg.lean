/-
  THE WALK OF hash.schedule: the words of a block.
-/
import Derived.Test.YtjfphjgmphlbhaaDoorJf
import Derived.Lib.LaidTab
import Derived.Lib.SliceRun
namespace Go.Proofs.YtjfphjgmphlbhaaDoor
open Go.RowKit

set_option maxRecDepth 100000 in
/-- Words as cells. -/
def W32 (l : List Hs.W) : List Value := l.map fun x => .int .u32 (q32 x)
set_option maxRecDepth 100000 in
theorem W32_len (l : List Hs.W) : (W32 l).length = l.length := List.length_map _
set_option maxRecDepth 100000 in
theorem W32_one (l : List Hs.W) : ∀ u ∈ W32 l, u.oneCell' = true := by
  intro u hu
  obtain ⟨x, _, rfl⟩ := List.mem_map.1 hu
  rfl
set_option maxRecDepth 100000 in
theorem W32_get (l : List Hs.W) (j : Nat) (h : j < l.length) : (W32 l)[j]? = some (.int .u32 (q32 (l.getD j 0))) := by
  simp [W32, h]
set_option maxRecDepth 100000 in
/-- Words so far, and zeros. -/
def Part_H (l : List Hs.W) (n : Nat) : List Value := W32 l ++ List.replicate (n - l.length) (.int .u32 0)
set_option maxRecDepth 100000 in
theorem Part_H.get {l : List Hs.W} {n j : Nat} (h : j < l.length) : (Part_H l n)[j]? = some (.int .u32 (q32 (l.getD j 0))) := by
  unfold Part_H
  rw [List.getElem?_append_left (by rw [W32_len]; exact h), W32_get l j h]
set_option maxRecDepth 100000 in
theorem Part_H.set {l : List Hs.W} {n : Nat} (h : l.length < n) (x : Hs.W) : (Part_H l n).set l.length (.int .u32 (q32 x)) = Part_H (l ++ [x]) n := by
  unfold Part_H
  rw [List.set_append_right _ _ (by rw [W32_len]; exact Nat.le_refl _), W32_len, Nat.sub_self]
  have e : List.replicate (n - l.length) (Value.int .u32 0) = .int .u32 0 :: List.replicate (n - (l ++ [x]).length) (.int .u32 0) := by
    rw [List.length_append, List.length_singleton, ← List.replicate_succ]
    congr 1
    omega
  rw [e, List.set_cons_zero]
  simp [W32]
set_option maxRecDepth 100000 in
theorem Part_H.full {l : List Hs.W} {n : Nat} (h : l.length = n) : Part_H l n = W32 l := by
  unfold Part_H; rw [h, Nat.sub_self]; simp
set_option maxRecDepth 100000 in
theorem Part_H.len {l : List Hs.W} {n : Nat} (h : l.length ≤ n) : (Part_H l n).length = n := by
  unfold Part_H; rw [List.length_append, W32_len, List.length_replicate]; omega

set_option maxRecDepth 100000 in
theorem bv_getD (b : Wm.Bs) (i : Nat) (h : i < b.length) : (bv b).getD i 0 = ob (b.getD i 0) := by
  simp [bv, h]
set_option maxRecDepth 100000 in
theorem sl32_24 (A : BitVec 32) : IntKind.u32.wrap (q32 A * 16777216) = q32 (A <<< 24) := shl32 A 24 16777216 rfl
set_option maxRecDepth 100000 in
theorem sl32_16 (A : BitVec 32) : IntKind.u32.wrap (q32 A * 65536) = q32 (A <<< 16) := shl32 A 16 65536 rfl
set_option maxRecDepth 100000 in
theorem sl32_8 (A : BitVec 32) : IntKind.u32.wrap (q32 A * 256) = q32 (A <<< 8) := shl32 A 8 256 rfl
set_option maxRecDepth 100000 in
/-- A word, as Go makes it of four bytes. -/
theorem word_is (a b c d : Int) (ha : 0 ≤ a ∧ a < 256) (hb : 0 ≤ b ∧ b < 256) (hc : 0 ≤ c ∧ c < 256) (hd : 0 ≤ d ∧ d < 256) :
    bits .or .u32 (bits .or .u32 (bits .or .u32 (IntKind.u32.wrap (IntKind.u32.wrap a * 16777216)) (IntKind.u32.wrap (IntKind.u32.wrap b * 65536))) (IntKind.u32.wrap (IntKind.u32.wrap c * 256))) (IntKind.u32.wrap d) = q32 (Hs.word (ob a) (ob b) (ob c) (ob d)) := by
  have e : ∀ x : Int, 0 ≤ x ∧ x < 256 → IntKind.u32.wrap x = q32 ((ob x).setWidth 32) := fun x hx => by rw [← q8_32, q8_ob hx, IntKind.wrap_u32]; omega
  rw [e a ha, e b hb, e c hc, e d hd, sl32_24, sl32_16, sl32_8, or32, or32, or32]; rfl
set_option maxRecDepth 100000 in
theorem s0_is (p : Hs.W) : bits .xor .u32 (bits .xor .u32 (q32 (Hs.rotr p 7)) (q32 (Hs.rotr p 18))) (q32 p / 8) = q32 (Hs.s0 p) := by
  rw [shr32 p 3 8 rfl, xor32, xor32]; rfl
set_option maxRecDepth 100000 in
theorem s1_is (p : Hs.W) : bits .xor .u32 (bits .xor .u32 (q32 (Hs.rotr p 17)) (q32 (Hs.rotr p 19))) (q32 p / 1024) = q32 (Hs.s1 p) := by
  rw [shr32 p 10 1024 rfl, xor32, xor32]; rfl
set_option maxRecDepth 100000 in
theorem sum_is (a b c d : Hs.W) : IntKind.u32.wrap (IntKind.u32.wrap (IntKind.u32.wrap (q32 a + q32 b) + q32 c) + q32 d) = q32 (a + b + c + d) := by
  rw [add32, add32, add32]

set_option maxRecDepth 100000 in
theorem Blk.byte {w : World} {B : Nat} {t : TypeId} {b : Wm.Bs} (h : Blk w B t (U b)) (hb : Wm.isBs b) (j : Nat) (hj : j < b.length) : ∃ x, w.cell? ⟨B, j, none⟩ = some (.int .u8 x) ∧ 0 ≤ x ∧ x < 256 ∧ Hid (b.getD j 0 = x) :=
  ⟨_, h.cell (U_get b j hj), (bs_at hb j).1, (bs_at hb j).2, Lib.hid rfl⟩
set_option maxRecDepth 100000 in
theorem wordAt_is (b : Wm.Bs) (k : Nat) (x0 x1 x2 x3 : Int) (h : 4 * k + 3 < b.length) (h0 : b.getD (4 * k) 0 = x0) (h1 : b.getD (4 * k + 1) 0 = x1) (h2 : b.getD (4 * k + 2) 0 = x2) (h3 : b.getD (4 * k + 3) 0 = x3) :
    Hs.word (ob x0) (ob x1) (ob x2) (ob x3) = Hs.wordAt (bv b) k := by
  unfold Hs.wordAt
  rw [bv_getD _ _ (by omega), bv_getD _ _ (by omega), bv_getD _ _ (by omega), bv_getD _ _ (by omega), h0, h1, h2, h3]

set_option maxRecDepth 100000 in
set_option maxHeartbeats 4000000 in
theorem schedule_any (b : Wm.Bs) (w : World) (hb : Wm.isBs b) (hl : b.length = 64) :
    Calls Tryd.prog 95 #[.agg (U b).toArray] w fun e w' => e = .returned (.agg (W32 (Hs.words (bv b))).toArray) ∧ Later w w' := by
  have hUl : (U b).toArray.size = 64 := by rw [List.size_toArray, U_length, hl]
  have hsz : (Tryd.prog.info? 123).map (·.size) = some (U b).toArray.size := by rw [hUl]; kernel_rfl
  obtain ⟨C, hC⟩ : ∃ C, C = (U b).toArray := ⟨_, rfl⟩
  rw [← hC] at hUl hsz ⊢
  have HC := Lib.hid hC; clear hC
  have HU := Lib.hid hUl; clear hUl
  have HL := Lib.hid hl; clear hl
  go_enter Tryd.func95, Tryd.ntmps95
  go_wp2
  go_loopw [8] (fun i wr => ∃ k : Nat, k ≤ 16 ∧ i = .int .i64 k ∧ Blk wr w.heap.size 123 (U b) ∧ Blk wr (w.heap.size + 1) 149 (Part_H [] 64) ∧ Blk wr (w.heap.size + 1 + 1) 149 (Part_H (Hs.firsts (bv b) k) 64) ∧ Later w wr) (fun i _ => 16 - (intOf i).toNat)
  case atStart =>
    exact ⟨0, by omega, rfl, ((Blk.new w _ _ _ HC.out).alloc _).alloc _, (Blk.new' _ _ _ _ _ (by simp) rfl).alloc _, Blk.new' _ _ _ _ _ (by simp) rfl, (((Below.refl _ _).alloc (Nat.le_refl _) _).alloc (by simp) _).alloc (by simp; omega) _⟩
  case round =>
    obtain ⟨k, hk, rfl, h1, h2, h3, hbr⟩ := hrel
    by_cases hlt : k < 16
    · obtain ⟨x0, c0, a0, b0, X0⟩ := h1.byte hb (4 * k) (by rw [HL.out]; omega)
      obtain ⟨x1, c1, a1, b1, X1⟩ := h1.byte hb (4 * k + 1) (by rw [HL.out]; omega)
      obtain ⟨x2, c2, a2, b2, X2⟩ := h1.byte hb (4 * k + 2) (by rw [HL.out]; omega)
      obtain ⟨x3, c3, a3, b3, X3⟩ := h1.byte hb (4 * k + 3) (by rw [HL.out]; omega)
      have hwd := word_is x0 x1 x2 x3 ⟨a0, b0⟩ ⟨a1, b1⟩ ⟨a2, b2⟩ ⟨a3, b3⟩
      rw [wordAt_is b k x0 x1 x2 x3 (by rw [HL.out]; omega) X0.out X1.out X2.out X3.out] at hwd
      clear X0 X1 X2 X3
      obtain ⟨u, hcell⟩ := Option.isSome_iff_exists.1 (h3.there1 (j := k) (by rw [Part_H.len (by rw [Hs.firsts_len]; omega)]; omega))
      have hfr := h3.frz k
      have e0 : IntKind.i64.wrap (4 * (k : Int)) = 4 * (k : Int) := IntWalk.i64_in _ (by omega)
      have e1 : IntKind.i64.wrap (4 * (k : Int) + 1) = 4 * (k : Int) + 1 := IntWalk.i64_in _ (by omega)
      have e2 : IntKind.i64.wrap (4 * (k : Int) + 2) = 4 * (k : Int) + 2 := IntWalk.i64_in _ (by omega)
      have e3 : IntKind.i64.wrap (4 * (k : Int) + 3) = 4 * (k : Int) + 3 := IntWalk.i64_in _ (by omega)
      have n0 : (4 * (k : Int)).toNat = 4 * k := by omega
      have n1 : (4 * (k : Int) + 1).toNat = 4 * k + 1 := by omega
      have n2 : (4 * (k : Int) + 2).toNat = 4 * k + 2 := by omega
      have n3 : (4 * (k : Int) + 3).toNat = 4 * k + 3 := by omega
      have p0 : (0 : Int) ≤ 4 * (k : Int) := by omega
      have p1 : (0 : Int) ≤ 4 * (k : Int) + 1 := by omega
      have p2 : (0 : Int) ≤ 4 * (k : Int) + 2 := by omega
      have p3 : (0 : Int) ≤ 4 * (k : Int) + 3 := by omega
      have l0 : 4 * (k : Int) < 64 := by omega
      have l1 : 4 * (k : Int) + 1 < 64 := by omega
      have l2 : 4 * (k : Int) + 2 < 64 := by omega
      have l3 : 4 * (k : Int) + 3 < 64 := by omega
      have k0 : (0 : Int) ≤ (k : Int) := by omega
      have k64 : (k : Int) < 64 := by omega
      go_wp2
      go_still_tail 31, (by kernel_rfl)
      change wpList _ _ _ _ _ wr.drew
      clear e0 e1 e2 e3 n0 n1 n2 n3 p0 p1 p2 p3 l0 l1 l2 l3 k0 k64 c0 c1 c2 c3
      go_wp2
      have hset := h3.drew.set k (.int .u32 (q32 (Hs.wordAt (bv b) k)))
      have hps := Part_H.set (l := Hs.firsts (bv b) k) (n := 64) (by rw [Hs.firsts_len]; omega) (Hs.wordAt (bv b) k)
      rw [Hs.firsts_len, ← Hs.firsts_succ] at hps
      rw [hps] at hset
      have h1' := h1.drew.set_other ⟨w.heap.size + 1 + 1, k, none⟩ (.int .u32 (q32 (Hs.wordAt (bv b) k))) (by simp; omega)
      have h2' := h2.drew.set_other ⟨w.heap.size + 1 + 1, k, none⟩ (.int .u32 (q32 (Hs.wordAt (bv b) k))) (by simp)
      have hbr2 : Later w (wr.drew.setCell ⟨w.heap.size + 1 + 1, k, none⟩ (.int .u32 (q32 (Hs.wordAt (bv b) k)))) := hbr.drew.setCell (by simp; omega) _
      clear hps h1 h2 h3 hbr hcell hfr hwd
      go_roundw
      case rel => exact ⟨k + 1, by omega, by go_num, h1', h2', hset, hbr2⟩
      case measure => simp [intOf]; omega
    · obtain rfl : k = 16 := by omega
      clear h1
      rw [show ((16 : Nat) : Int) = 16 from rfl]
      go_wp2
      go_loopw [5] (fun i wr => ∃ (k : Nat) (l : List Hs.W), k ≤ 64 ∧ 16 ≤ k ∧ i = .int .i64 k ∧ Hid (l.length = k ∧ Hs.grow (64 - k) l = Hs.words (bv b)) ∧ Blk wr (w.heap.size + 1) 149 (Part_H [] 64) ∧ Blk wr (w.heap.size + 1 + 1) 149 (Part_H l 64) ∧ Later w wr) (fun i _ => 64 - (intOf i).toNat)
      case atStart => exact ⟨16, Hs.firsts (bv b) 16, by omega, by omega, rfl, Lib.hid ⟨Hs.firsts_len _ _, rfl⟩, h2, h3, hbr⟩
      case round =>
        clear h2 h3 hbr
        rename_i wr
        obtain ⟨k, l, hk64, hk16, rfl, hg, h2, h3, hbr⟩ := hrel
        by_cases hlt : k < 64
        · obtain ⟨p, hp⟩ : ∃ p, p = l.getD (k - 15) 0 := ⟨_, rfl⟩
          obtain ⟨q, hq⟩ : ∃ q, q = l.getD (k - 2) 0 := ⟨_, rfl⟩
          obtain ⟨x16, hx16⟩ : ∃ q, q = l.getD (k - 16) 0 := ⟨_, rfl⟩
          obtain ⟨x7, hx7⟩ : ∃ q, q = l.getD (k - 7) 0 := ⟨_, rfl⟩
          have hnext : x16 + Hs.s0 p + x7 + Hs.s1 q = Hs.next l l.length := by rw [hp, hq, hx16, hx7, hg.out.1]; rfl
          have c15 := h3.cell (Part_H.get (n := 64) (show k - 15 < l.length by rw [hg.out.1]; omega))
          have c2 := h3.cell (Part_H.get (n := 64) (show k - 2 < l.length by rw [hg.out.1]; omega))
          have c16 := h3.cell (Part_H.get (n := 64) (show k - 16 < l.length by rw [hg.out.1]; omega))
          have c7 := h3.cell (Part_H.get (n := 64) (show k - 7 < l.length by rw [hg.out.1]; omega))
          rw [← hp] at c15; rw [← hq] at c2; rw [← hx16] at c16; rw [← hx7] at c7
          obtain ⟨nx, hnx⟩ : ∃ nx, nx = Hs.next l l.length := ⟨_, rfl⟩
          rw [← hnx] at hnext
          have HN := Lib.hid hnext
          have HX := Lib.hid hnx
          clear hp hq hx16 hx7 hnext hnx
          have hs0 := s0_is p
          have hs1 := s1_is q
          have hsum := sum_is x16 (Hs.s0 p) x7 (Hs.s1 q)
          rw [HN.out] at hsum
          have bp := q32_bd p
          have bq := q32_bd q
          obtain ⟨u, hcell⟩ := Option.isSome_iff_exists.1 (h3.there1 (j := k) (by rw [Part_H.len (by rw [hg.out.1]; omega)]; omega))
          have hfr := h3.frz k
          have e15 : IntKind.i64.wrap ((k : Int) - 15) = (k : Int) - 15 := IntWalk.i64_in _ (by omega)
          have e2 : IntKind.i64.wrap ((k : Int) - 2) = (k : Int) - 2 := IntWalk.i64_in _ (by omega)
          have e16 : IntKind.i64.wrap ((k : Int) - 16) = (k : Int) - 16 := IntWalk.i64_in _ (by omega)
          have e7 : IntKind.i64.wrap ((k : Int) - 7) = (k : Int) - 7 := IntWalk.i64_in _ (by omega)
          have n15 : ((k : Int) - 15).toNat = k - 15 := by omega
          have n2 : ((k : Int) - 2).toNat = k - 2 := by omega
          have n16 : ((k : Int) - 16).toNat = k - 16 := by omega
          have n7 : ((k : Int) - 7).toNat = k - 7 := by omega
          have p15 : (0 : Int) ≤ (k : Int) - 15 := by omega
          have p2 : (0 : Int) ≤ (k : Int) - 2 := by omega
          have p16 : (0 : Int) ≤ (k : Int) - 16 := by omega
          have p7 : (0 : Int) ≤ (k : Int) - 7 := by omega
          have l15 : (k : Int) - 15 < 64 := by omega
          have l2 : (k : Int) - 2 < 64 := by omega
          have l16 : (k : Int) - 16 < 64 := by omega
          have l7 : (k : Int) - 7 < 64 := by omega
          have q15 : (15 : Int) ≤ (k : Int) := by omega
          have q2 : (2 : Int) ≤ (k : Int) := by omega
          have q16 : (16 : Int) ≤ (k : Int) := by omega
          have q7 : (7 : Int) ≤ (k : Int) := by omega
          have k0 : (0 : Int) ≤ (k : Int) := by omega
          have k64 : (k : Int) < 64 := by omega
          go_wp2
          go_quiet (fail)
          have h2q : Blk (wr.drewN nq) (w.heap.size + 1) 149 (Part_H [] 64) := h2
          have h3q : Blk (wr.drewN nq) (w.heap.size + 1 + 1) 149 (Part_H l 64) := h3
          have hbq : Later w (wr.drewN nq) := ⟨hbr.os, hbr.tape, hbr.output, hbr.size, hbr.block⟩
          have c16q : (wr.drewN nq).cell? ⟨w.heap.size + 1 + 1, k - 16, none⟩ = some (.int .u32 (q32 x16)) := c16
          have c7q : (wr.drewN nq).cell? ⟨w.heap.size + 1 + 1, k - 7, none⟩ = some (.int .u32 (q32 x7)) := c7
          have cuq : (wr.drewN nq).cell? ⟨w.heap.size + 1 + 1, k, none⟩ = some u := hcell
          have hfq : (wr.drewN nq).frozen? ⟨w.heap.size + 1 + 1, k, none⟩ = false := hfr
          clear h2 h3 hbr c16 c7 c15 c2 hcell hfr
          generalize wr.drewN nq = wq at h2q h3q hbq c16q c7q cuq hfq ⊢
          go_wp2
          go_still_tail 29, (by kernel_rfl)
          still_call ((rotr_any p 7 _ (by decide) (by decide)).mono fun _ _ h => ⟨h.1, h.2.symm⟩)
          repeat still_step
          still_call ((rotr_any p 18 _ (by decide) (by decide)).mono fun _ _ h => ⟨h.1, h.2.symm⟩)
          repeat still_step
          still_call ((rotr_any q 17 _ (by decide) (by decide)).mono fun _ _ h => ⟨h.1, h.2.symm⟩)
          repeat still_step
          still_call ((rotr_any q 19 _ (by decide) (by decide)).mono fun _ _ h => ⟨h.1, h.2.symm⟩)
          repeat still_step
          refine wpStill_nil ?_
          change wpList _ _ _ _ _ wq.drew
          clear e15 e2 e16 e7 n15 n2 n16 n7 p15 p2 p16 p7 l15 l2 l16 l7 c16q c7q
          go_wp2
          have hset := h3q.drew.set k (.int .u32 (q32 nx))
          have hps : (Part_H l 64).set k (.int .u32 (q32 nx)) = Part_H (l ++ [nx]) 64 := by
            have h := Part_H.set (l := l) (n := 64) (by rw [hg.out.1]; omega) nx
            rwa [hg.out.1] at h
          rw [hps] at hset
          have h2' := h2q.drew.set_other ⟨w.heap.size + 1 + 1, k, none⟩ (.int .u32 (q32 nx)) (by simp)
          have hbr2 : Later w (wq.drew.setCell ⟨w.heap.size + 1 + 1, k, none⟩ (.int .u32 (q32 nx))) := hbq.drew.setCell (by simp; omega) _
          have hg2 : Hid ((l ++ [nx]).length = k + 1 ∧ Hs.grow (64 - (k + 1)) (l ++ [nx]) = Hs.words (bv b)) := by
            refine Lib.hid ⟨by rw [List.length_append, hg.out.1]; rfl, ?_⟩
            rw [← hg.out.2, show 64 - k = (64 - (k + 1)) + 1 by omega, HX.out]
            rfl
          clear hps h2q h3q hbq cuq hfq hs0 hs1 hsum
          go_roundw
          case rel => exact ⟨k + 1, l ++ [nx], by omega, by omega, by go_num, hg2, h2', hset, hbr2⟩
          case measure => simp [intOf]; omega
        · obtain rfl : k = 64 := by omega
          have hw : l = Hs.words (bv b) := hg.out.2
          have hpl : Part_H l 64 = W32 (Hs.words (bv b)) := by rw [Part_H.full hg.out.1, hw]
          rw [hpl] at h3
          clear hg hw hpl
          have hwl := Hs.words_len (bv b)
          have hsz2 : (Tryd.prog.info? 149).map (·.size) = some (W32 (Hs.words (bv b))).length := by rw [W32_len, hwl]; kernel_rfl
          have hone := W32_one (Hs.words (bv b))
          have hlen : (Part_H [] 64).length = (W32 (Hs.words (bv b))).length := by rw [W32_len, hwl]; rfl
          obtain ⟨R, hR⟩ : ∃ R, R = W32 (Hs.words (bv b)) := ⟨_, rfl⟩
          rw [← hR] at h3 hsz2 hone hlen
          have HR := Lib.hid hR
          have HON := Lib.hid hone
          have HLE := Lib.hid hlen
          clear hone hlen hwl hR
          go_wp2_with (first
            | ((with_reducible refine wpList_load_blk (o := ⟨some 84, .load 149 (.tmp 3), _, _, _, none⟩) rfl _ _ rfl (w.heap.size + 1 + 1) _ R _ ?_ h3 Tryd.underlying149 rfl hsz2 ?_); rfl)
            | ((with_reducible refine wpList_store_blk (o := ⟨none, .store 149 (.tmp 2) (.tmp 84), _, _, _, none⟩) rfl _ _ _ rfl (w.heap.size + 1) _ _ R ?_ ?_ h2 hsz2 HLE.out HON.out ?_); rfl; rfl))
          exact bodyPost_ret (v := .agg R.toArray) (results_blk Tryd.results95 _ _ (w.heap.size + 1) _ R _ rfl (h2.row R) Tryd.underlying149 rfl hsz2) rfl ⟨by rw [HR.out], below_setRow hbr (by simp) _⟩
end Go.Proofs.YtjfphjgmphlbhaaDoor

/-
  THE WALK OF hash.compress: the hash value after a block.
-/
namespace Go.Proofs.YtjfphjgmphlbhaaDoor
open Go.RowKit

set_option maxRecDepth 100000 in
/-- THE ROUND CONSTANTS lie in the package's variable. -/
def Tab (w : World) : Prop := ∀ j, j < 64 → w.cell? ⟨0, j, none⟩ = some (.int .u32 (q32 (Hs.K.getD j 0)))
set_option maxRecDepth 100000 in
/-- The variables a to h, as cells. -/
def StV (s : Hs.St) : List Value := W32 s.list

set_option maxRecDepth 100000 in
theorem mod_sum (a b c d e : Hs.W) : ((q32 a + q32 b + q32 c + q32 d) % 4294967296 + q32 e) % 4294967296 = q32 (a + b + c + d + e) := by
  unfold q32
  simp only [BitVec.toNat_add]
  omega
set_option maxRecDepth 100000 in
theorem mod_sum2 (a b : Hs.W) : (q32 a + q32 b) % 4294967296 = q32 (a + b) := by
  unfold q32
  simp only [BitVec.toNat_add]
  omega
set_option maxRecDepth 100000 in
theorem tx_is (s : Hs.St) (k w : Hs.W) :
    ((q32 s.h + bits .xor .u32 (bits .xor .u32 (q32 (Hs.rotr s.e 6)) (q32 (Hs.rotr s.e 11))) (q32 (Hs.rotr s.e 25)) + bits .xor .u32 (bits .and .u32 (q32 s.e) (q32 s.f)) (bits .and .u32 (bits .xor .u32 (if IntKind.u32.signed = true then -1 else IntKind.u32.max) (q32 s.e)) (q32 s.g)) + q32 k) % 4294967296 + q32 w) % 4294967296 = q32 (Hs.tx s k w) := by
  rw [if_neg (by decide), show IntKind.u32.max = 4294967295 from rfl, not32', xor32, xor32, and32, and32, xor32, mod_sum]; rfl
set_option maxRecDepth 100000 in
theorem ty_is (s : Hs.St) :
    (bits .xor .u32 (bits .xor .u32 (q32 (Hs.rotr s.a 2)) (q32 (Hs.rotr s.a 13))) (q32 (Hs.rotr s.a 22)) + bits .xor .u32 (bits .xor .u32 (bits .and .u32 (q32 s.a) (q32 s.b)) (bits .and .u32 (q32 s.a) (q32 s.c))) (bits .and .u32 (q32 s.b) (q32 s.c))) % 4294967296 = q32 (Hs.ty s) := by
  rw [xor32, xor32, and32, and32, and32, xor32, xor32, mod_sum2]; rfl
set_option maxRecDepth 100000 in
/-- Cells of a sum, so far. -/
def Sofar (s st : Hs.St) (i : Nat) : List Value := ((StV (s.add st)).take i) ++ ((StV s).drop i)
set_option maxRecDepth 100000 in
theorem Sofar.get (s st : Hs.St) (k : Nat) (h : k < 8) : (Sofar s st k)[k]? = some (.int .u32 (q32 (s.list.getD k 0))) := by
  obtain rfl | rfl | rfl | rfl | rfl | rfl | rfl | rfl : k = 0 ∨ k = 1 ∨ k = 2 ∨ k = 3 ∨ k = 4 ∨ k = 5 ∨ k = 6 ∨ k = 7 := by omega
  all_goals rfl
set_option maxRecDepth 100000 in
theorem Sofar.set (s st : Hs.St) (k : Nat) (h : k < 8) : (Sofar s st k).set k (.int .u32 (q32 (s.list.getD k 0 + st.list.getD k 0))) = Sofar s st (k + 1) := by
  obtain rfl | rfl | rfl | rfl | rfl | rfl | rfl | rfl : k = 0 ∨ k = 1 ∨ k = 2 ∨ k = 3 ∨ k = 4 ∨ k = 5 ∨ k = 6 ∨ k = 7 := by omega
  all_goals rfl
set_option maxRecDepth 100000 in
theorem run_index_agg {P : Program} (w : World) (t e : TypeId) (n : Nat) (cs : Array Value) (k kk : IntKind) (i : Int) (h : P.underlying t = some (.array n e)) (he : P.underlying e = some (.int kk)) (hi : (P.info? e).map (·.size) = some 1)
    (h0 : 0 ≤ i) (h1 : i < (n : Int)) (v : Value) (hv : cs[i.toNat]? = some v) : (Instr.index t (.agg cs) (.int k i)).run P w = .ok v w := by
  cases hq : P.info? e with
  | none => simp [hq] at hi
  | some inf =>
    have hs : inf.size = 1 := by simpa [hq] using hi
    have hagg : (isAgg e).run P w = .ok false w := by
      unfold isAgg
      rw [Sem.run_bind, run_underlying he w]
      rfl
    simp [Instr.index, run_underlying h, asIntOf, h0, h1, sizeOf, typeInfo, hq, hs, part, Sem.run_bind, hagg, hv]

set_option maxRecDepth 100000 in
theorem Tab.keep {w w' : World} (h : Tab w) (hb : Later w w') : Tab w' := fun j hj => by
  have hc := h j hj
  rw [hb.cell (World.block_lt_of_cell? w _ hc)]; exact hc
set_option maxRecDepth 100000 in
theorem Tab.lt {w : World} (h : Tab w) : 0 < w.heap.size := World.block_lt_of_cell? w _ (h 0 (by decide))
set_option maxRecDepth 100000 in
theorem StV_one (s : Hs.St) : ∀ v ∈ StV s, v.oneCell' = true := W32_one _
set_option maxRecDepth 100000 in
theorem StV_len (s : Hs.St) : (StV s).length = 8 := rfl

set_option maxRecDepth 100000 in
theorem rq (x : Hs.W) (w : World) (n : Nat) (z : Int) (hz : z = (n : Int)) (h0 : 1 ≤ n) (h1 : n ≤ 31) :
    Calls Tryd.prog 96 #[.int .u32 (q32 x), .int .i64 z] w fun e w' => e = .returned (.int .u32 (q32 (Hs.rotr x n))) ∧ w' = w := by
  subst hz
  exact (rotr_any x n w h0 h1).mono fun _ _ h => ⟨h.1, h.2.symm⟩

set_option maxRecDepth 100000 in
set_option maxHeartbeats 4000000 in
theorem compress_any (s : Hs.St) (b : Wm.Bs) (w : World) (hb : Wm.isBs b) (hl : b.length = 64) (ht : Tab w) :
    Calls Tryd.prog 89 #[.agg (StV s).toArray, .agg (U b).toArray] w fun e w' => e = .returned (.agg (StV (Hs.compress s (bv b))).toArray) ∧ Later w w' := by
  have hUl : (U b).length = 64 := by rw [U_length, hl]
  have hsz : (Tryd.prog.info? 123).map (·.size) = some (U b).length := by rw [hUl]; kernel_rfl
  obtain ⟨C, hC⟩ : ∃ C, C = U b := ⟨_, rfl⟩
  have HS := Lib.hid (schedule_any b · hb hl)
  rw [← hC] at hUl hsz HS ⊢
  have HC := Lib.hid hC; clear hC
  have HU := Lib.hid hUl; clear hUl
  have HL := Lib.hid hl; clear hl
  obtain ⟨V, hV⟩ : ∃ V, V = StV s := ⟨_, rfl⟩
  have hszV : (Tryd.prog.info? 122).map (·.size) = some V.length := by rw [hV]; kernel_rfl
  rw [← hV]
  have HV := Lib.hid hV; clear hV
  go_enter Tryd.func89, Tryd.ntmps89
  have hu64 := Tryd.underlying123
  have hu32 := Tryd.underlying149
  have HU64 := Lib.hid hu64
  have HU32 := Lib.hid hu32
  clear hu64 hu32
  obtain ⟨R, hR⟩ : ∃ R, R = W32 (Hs.words (bv b)) := ⟨_, rfl⟩
  have hR2 : R = Part_H (Hs.words (bv b)) 64 := by rw [hR, Part_H.full (Hs.words_len _)]
  have hRl : R.length = 64 := by rw [hR, W32_len, Hs.words_len]
  have hszR : (Tryd.prog.info? 149).map (·.size) = some R.length := by rw [hRl]; kernel_rfl
  have hR1 : ∀ v ∈ R, v.oneCell' = true := by rw [hR]; exact W32_one _
  rw [← hR] at HS
  have HR1 := Lib.hid hR1
  have HR2 := Lib.hid hR2
  have HRl := Lib.hid hRl
  have HZ : Hid ((Part_H [] 64).length = R.length) := by rw [HRl.out]; exact Lib.hid rfl
  clear hR hR1 hRl hR2
  go_wp2_with (first
    | ((with_reducible refine wpList_load_blk (o := ⟨some 19, .load 123 (.tmp 3), _, _, _, none⟩) rfl _ _ rfl (w.heap.size + 1) 123 C _ ?_ ?_ HU64.out rfl hsz ?_); rfl; exact (Blk.new' _ _ _ _ _ (by simp) rfl).alloc _)
    | (go_at_call 95; refine (HS.out _).mono ?_; rintro e w1 ⟨rfl, hl1⟩)
    | ((with_reducible refine wpList_store_abs (o := ⟨none, .store 149 (.tmp 5) (.tmp 20), _, _, _, none⟩) rfl _ _ _ rfl w1.heap.size 149 (Part_H [] 64) R ?_ ?_ ?_ hszR HZ.out HR1.out ?_); rfl; rfl; exact Blk.new _ _ _ _ rfl; intro w2 f3 ho2))
  have hs1 := hl1.size
  simp only [World.size_alloc] at hs1
  have f4 : Later w w2 := Below.only ((((((Below.refl _ _).alloc (Nat.le_refl _) _).alloc (by simp) _).alloc (by simp; omega) _).trans (hl1.mono (by simp; omega))).alloc (by omega) _) ho2 (by omega)
  have f1 : Blk w2 w.heap.size 122 V := (((((Blk.new w _ _ _ rfl).alloc _).alloc _).keep hl1).alloc _).only ho2 (by omega)
  have f2 : Blk w2 (w.heap.size + 1 + 1) 122 (Part_H [] 8) := (((Blk.new' _ _ _ _ _ (by simp) rfl).keep hl1).alloc _).only ho2 (by omega)
  have f5 := ht.keep f4
  clear ht ho2 hl1 HS
  have c0 := f1.cell (j := 0) (v := .int .u32 (q32 s.a)) (by rw [HV.out]; rfl)
  have c1 := f1.cell (j := 1) (v := .int .u32 (q32 s.b)) (by rw [HV.out]; rfl)
  have c2 := f1.cell (j := 2) (v := .int .u32 (q32 s.c)) (by rw [HV.out]; rfl)
  have c3 := f1.cell (j := 3) (v := .int .u32 (q32 s.d)) (by rw [HV.out]; rfl)
  have c4 := f1.cell (j := 4) (v := .int .u32 (q32 s.e)) (by rw [HV.out]; rfl)
  have c5 := f1.cell (j := 5) (v := .int .u32 (q32 s.f)) (by rw [HV.out]; rfl)
  have c6 := f1.cell (j := 6) (v := .int .u32 (q32 s.g)) (by rw [HV.out]; rfl)
  have c7 := f1.cell (j := 7) (v := .int .u32 (q32 s.h)) (by rw [HV.out]; rfl)
  go_quiet (fail)
  clear c0 c1 c2 c3 c4 c5 c6 c7
  have g1 : Blk (w2.drewN nq) w.heap.size 122 V := f1
  have g2 : Blk (w2.drewN nq) (w.heap.size + 1 + 1) 122 (Part_H [] 8) := f2
  have g3 : Blk (w2.drewN nq) w1.heap.size 149 R := f3
  have g4 : Later w (w2.drewN nq) := ⟨f4.os, f4.tape, f4.output, f4.size, f4.block⟩
  have g5 : Tab (w2.drewN nq) := f5
  clear f1 f2 f3 f4 f5
  generalize w2.drewN nq = w3 at g1 g2 g3 g4 g5 ⊢
  go_wp2
  go_loopw [6, 7, 8, 9, 10, 11, 12, 13, 37] (fun a b' c d e f g h i wr => ∃ (k : Nat) (st : Hs.St), k ≤ 64 ∧ i = .int .i64 k ∧ a = .int .u32 (q32 st.a) ∧ b' = .int .u32 (q32 st.b) ∧ c = .int .u32 (q32 st.c) ∧ d = .int .u32 (q32 st.d) ∧ e = .int .u32 (q32 st.e) ∧ f = .int .u32 (q32 st.f) ∧ g = .int .u32 (q32 st.g) ∧ h = .int .u32 (q32 st.h) ∧
      Hid (Hs.rounds (Hs.words (bv b)) (64 - k) k st = Hs.rounds (Hs.words (bv b)) 64 0 s) ∧ Blk wr w.heap.size 122 V ∧ Blk wr (w.heap.size + 1 + 1) 122 (Part_H [] 8) ∧ Blk wr w1.heap.size 149 R ∧ Later w wr ∧ Tab wr) (fun _ _ _ _ _ _ _ _ i _ => 64 - (intOf i).toNat)
  case atStart => exact ⟨0, s, by omega, rfl, rfl, rfl, rfl, rfl, rfl, rfl, rfl, rfl, Lib.hid rfl, g1, g2, g3, g4, g5⟩
  case round =>
    clear g1 g2 g3 g4 g5
    rename_i wr
    obtain ⟨k, st, hk, rfl, rfl, rfl, rfl, rfl, rfl, rfl, rfl, rfl, hr, g1, g2, g3, g4, g5⟩ := hrel
    by_cases hlt : k < 64
    · obtain ⟨kk, hkk⟩ : ∃ kk, kk = Hs.K.getD k 0 := ⟨_, rfl⟩
      obtain ⟨ww, hww⟩ : ∃ ww, ww = (Hs.words (bv b)).getD k 0 := ⟨_, rfl⟩
      have ck := g5 k hlt
      have cw := g3.cell (j := k) (v := .int .u32 (q32 ((Hs.words (bv b)).getD k 0))) (by rw [HR2.out]; exact Part_H.get (by rw [Hs.words_len]; exact hlt))
      rw [← hkk] at ck
      rw [← hww] at cw
      have HKK := Lib.hid hkk
      have HWW := Lib.hid hww
      clear hkk hww
      have be := q32_bd st.e
      have k0 : (0 : Int) ≤ (k : Int) := by omega
      have k64 : (k : Int) < 64 := by omega
      go_wp2
      go_quiet ((first | ((with_reducible refine (rq _ _ 6 6 rfl (by decide) (by decide)).mono ?_); rintro e w' ⟨rfl, rfl⟩; exact ⟨rfl, _, rfl⟩) | ((with_reducible refine (rq _ _ 11 11 rfl (by decide) (by decide)).mono ?_); rintro e w' ⟨rfl, rfl⟩; exact ⟨rfl, _, rfl⟩) | ((with_reducible refine (rq _ _ 25 25 rfl (by decide) (by decide)).mono ?_); rintro e w' ⟨rfl, rfl⟩; exact ⟨rfl, _, rfl⟩)))
      rw [tx_is st kk ww]
      have g1' : Blk (wr.drewN nq) w.heap.size 122 V := g1
      have g2' : Blk (wr.drewN nq) (w.heap.size + 1 + 1) 122 (Part_H [] 8) := g2
      have g3' : Blk (wr.drewN nq) w1.heap.size 149 R := g3
      have g4' : Later w (wr.drewN nq) := ⟨g4.os, g4.tape, g4.output, g4.size, g4.block⟩
      have g5' : Tab (wr.drewN nq) := g5
      clear g1 g2 g3 g4 g5 ck cw
      generalize wr.drewN nq = wq at g1' g2' g3' g4' g5' ⊢
      go_wp2_with (first
        | ((with_reducible refine (rq _ _ 2 2 rfl (by decide) (by decide)).mono ?_); rintro e w' ⟨rfl, rfl⟩)
        | ((with_reducible refine (rq _ _ 13 13 rfl (by decide) (by decide)).mono ?_); rintro e w' ⟨rfl, rfl⟩)
        | ((with_reducible refine (rq _ _ 22 22 rfl (by decide) (by decide)).mono ?_); rintro e w' ⟨rfl, rfl⟩))
      have hr2 : Hid (Hs.rounds (Hs.words (bv b)) (64 - (k + 1)) (k + 1) (Hs.round st kk ww) = Hs.rounds (Hs.words (bv b)) 64 0 s) := by
        refine Lib.hid ?_
        rw [← hr.out, show 64 - k = (64 - (k + 1)) + 1 by omega, HKK.out, HWW.out]
        rfl
      go_roundw
      case rel => exact ⟨k + 1, Hs.round st kk ww, by omega, by go_num, by rw [ty_is, mod_sum2]; rfl, rfl, rfl, rfl, by rw [mod_sum2]; rfl, rfl, rfl, rfl, hr2, g1', g2', g3', g4', g5'⟩
      case measure => simp [intOf]; omega
    · obtain rfl : k = 64 := by omega
      have hst : st = Hs.rounds (Hs.words (bv b)) 64 0 s := hr.out
      have HST := Lib.hid hst
      rw [HV.out] at g1
      clear hr hst g3 g5
      rw [show ((64 : Nat) : Int) = 64 from rfl]
      go_wp2
      go_loopw [109] (fun i wr => ∃ k : Nat, k ≤ 8 ∧ i = .int .i64 k ∧ Blk wr w.heap.size 122 (Sofar s st k) ∧ Blk wr (w.heap.size + 1 + 1) 122 (Part_H [] 8) ∧ Later w wr) (fun i _ => 8 - (intOf i).toNat)
      case atStart => exact ⟨0, by omega, rfl, g1, g2, g4⟩
      case round =>
        clear g1 g2 g4
        rename_i wr
        obtain ⟨k, hk, rfl, g1, g2, g4⟩ := hrel
        by_cases hlt : k < 8
        · obtain ⟨x, hx⟩ : ∃ x, x = s.list.getD k 0 := ⟨_, rfl⟩
          obtain ⟨y, hy⟩ : ∃ y, y = st.list.getD k 0 := ⟨_, rfl⟩
          have c := g1.cell (Sofar.get s st k hlt)
          have fz := g1.frz k
          have hset := g1.set k (.int .u32 (q32 (s.list.getD k 0 + st.list.getD k 0)))
          rw [Sofar.set s st k hlt, ← hx, ← hy] at hset
          rw [← hx] at c
          have hidx := run_index_agg (P := Tryd.prog) wr 122 49 8 #[.int .u32 (q32 st.a), .int .u32 (q32 st.b), .int .u32 (q32 st.c), .int .u32 (q32 st.d), .int .u32 (q32 st.e), .int .u32 (q32 st.f), .int .u32 (q32 st.g), .int .u32 (q32 st.h)] .i64 .u32 (k : Int) Tryd.underlying122 Tryd.underlying49 (by kernel_rfl) (by omega) (by omega) (.int .u32 (q32 y)) (by
            rw [hy, Int.toNat_natCast]
            have := W32_get st.list k (by show k < 8; exact hlt)
            simpa [W32, Hs.St.list] using this)
          have hsum := mod_sum2 x y
          have h2 := g2.set_other ⟨w.heap.size, k, none⟩ (.int .u32 (q32 (x + y))) (by simp; omega)
          have h4 : Later w (wr.setCell ⟨w.heap.size, k, none⟩ (.int .u32 (q32 (x + y)))) := g4.setCell (Nat.le_refl _) _
          have k0 : (0 : Int) ≤ (k : Int) := by omega
          have k8 : (k : Int) < 8 := by omega
          clear g1 g2 g4 hx hy
          go_wp2
          go_roundw
          case rel => exact ⟨k + 1, by omega, by go_num, hset, h2, h4⟩
          case measure => simp [intOf]; omega
        · obtain rfl : k = 8 := by omega
          have hfin : Sofar s st 8 = StV (Hs.compress s (bv b)) := by
            unfold Hs.compress
            rw [← HST.out]; rfl
          rw [hfin] at g1
          clear hfin
          obtain ⟨F, hF⟩ : ∃ F, F = StV (Hs.compress s (bv b)) := ⟨_, rfl⟩
          have hszF : (Tryd.prog.info? 122).map (·.size) = some F.length := by rw [hF, StV_len]; kernel_rfl
          have hF1 : ∀ v ∈ F, v.oneCell' = true := by rw [hF]; exact StV_one _
          have hFl : (Part_H [] 8).length = F.length := by rw [hF, StV_len]; rfl
          rw [← hF] at g1
          have HF := Lib.hid hF
          have HF1 := Lib.hid hF1
          have HFl := Lib.hid hFl
          have hu8 := Tryd.underlying122
          have HU8 := Lib.hid hu8
          clear hF hF1 hFl hu8
          go_wp2_with (first
            | ((with_reducible refine wpList_load_blk (o := ⟨some 120, .load 122 (.tmp 2), _, _, _, none⟩) rfl _ _ rfl w.heap.size 122 F _ ?_ g1 HU8.out rfl hszF ?_); rfl)
            | ((with_reducible refine wpList_store_abs (o := ⟨none, .store 122 (.tmp 4) (.tmp 120), _, _, _, none⟩) rfl _ _ _ rfl (w.heap.size + 1 + 1) 122 (Part_H [] 8) F ?_ ?_ g2 hszF HFl.out HF1.out ?_); rfl; rfl; intro w5 k1 k2))
          exact bodyPost_ret (v := .agg F.toArray) (results_blk Tryd.results89 _ _ (w.heap.size + 1 + 1) _ F _ rfl k1 HU8.out rfl hszF) rfl ⟨by rw [HF.out], Below.only g4 k2 (by omega)⟩
end Go.Proofs.YtjfphjgmphlbhaaDoor

/-
  THE WALK OF hash.unpack: the bytes of a hash value.
-/
namespace Go.Proofs.YtjfphjgmphlbhaaDoor
open Go.RowKit

set_option maxRecDepth 100000 in
/-- Bytes, as integers. -/
def iv8 (l : List Hs.By) : Wm.Bs := l.map q8
set_option maxRecDepth 100000 in
theorem iv8_len (l : List Hs.By) : (iv8 l).length = l.length := List.length_map _
set_option maxRecDepth 100000 in
theorem iv8_bs (l : List Hs.By) : Wm.isBs (iv8 l) := fun x hx => by
  obtain ⟨c, _, rfl⟩ := List.mem_map.1 hx
  exact q8_bd c
set_option maxRecDepth 100000 in
theorem bv_iv8 (l : List Hs.By) : bv (iv8 l) = l := by
  unfold bv iv8
  rw [List.map_map]
  conv => rhs; rw [← List.map_id l]
  congr 1
  funext c
  exact ob_q8 c
set_option maxRecDepth 100000 in
/-- Bytes so far, and zeros. -/
def PartB (b : Wm.Bs) (n : Nat) : List Value := U b ++ List.replicate (n - b.length) (.int .u8 0)
set_option maxRecDepth 100000 in
theorem PartB.set {b : Wm.Bs} {n : Nat} (h : b.length < n) (x : Int) : (PartB b n).set b.length (.int .u8 x) = PartB (b ++ [x]) n := by
  unfold PartB
  rw [List.set_append_right _ _ (by rw [U_length]; exact Nat.le_refl _), U_length, Nat.sub_self]
  have e : List.replicate (n - b.length) (Value.int .u8 0) = .int .u8 0 :: List.replicate (n - (b ++ [x]).length) (.int .u8 0) := by
    rw [List.length_append, List.length_singleton, ← List.replicate_succ]
    congr 1
    omega
  rw [e, List.set_cons_zero, U_append]
  simp [U]
set_option maxRecDepth 100000 in
theorem PartB.full {b : Wm.Bs} {n : Nat} (h : b.length = n) : PartB b n = U b := by
  unfold PartB; rw [h, Nat.sub_self]; simp
set_option maxRecDepth 100000 in
theorem PartB.len {b : Wm.Bs} {n : Nat} (h : b.length ≤ n) : (PartB b n).length = n := by
  unfold PartB; rw [List.length_append, U_length, List.length_replicate]; omega

set_option maxRecDepth 100000 in
/-- The bytes of a hash value so far. -/
def unp (s : Hs.St) (k : Nat) : Wm.Bs := (List.range k).map fun i => q8 (((s.list.getD (i / 4) 0) >>> (24 - 8 * (i % 4))).setWidth 8)
set_option maxRecDepth 100000 in
theorem unp_len (s : Hs.St) (k : Nat) : (unp s k).length = k := by simp [unp]
set_option maxRecDepth 100000 in
theorem unp_succ (s : Hs.St) (k : Nat) : unp s (k + 1) = unp s k ++ [q8 (((s.list.getD (k / 4) 0) >>> (24 - 8 * (k % 4))).setWidth 8)] := by
  unfold unp; rw [List.range_succ, List.map_append]; rfl
set_option maxRecDepth 100000 in
theorem unp_all (s : Hs.St) : unp s 32 = iv8 (Hs.bytesOf s) := by
  unfold unp iv8 Hs.bytesOf
  rw [List.map_map]; rfl
set_option maxRecDepth 100000 in
theorem byte_of (x : Hs.W) (j : Nat) : IntKind.u8.wrap (q32 x / 2 ^ j) = q8 ((x >>> j).setWidth 8) := by
  have e : q32 x / 2 ^ j = q32 (x >>> j) := shr32 x j _ (by rw [Int.natCast_pow]; rfl)
  rw [e, IntKind.wrap_u8]
  unfold q32 q8
  rw [BitVec.toNat_setWidth]
  rfl

set_option maxRecDepth 100000 in
theorem fresh_out (s : Hs.St) : (U (iv8 (Hs.bytesOf s))).length = 32 := by
  rw [U_length, iv8_len]; unfold Hs.bytesOf; rw [List.length_map, List.length_range]

set_option maxRecDepth 100000 in
set_option maxHeartbeats 1000000 in
theorem unpack_any (s : Hs.St) (w : World) :
    Calls Tryd.prog 90 #[.agg (StV s).toArray] w fun e w' => e = .returned (.agg (U (iv8 (Hs.bytesOf s))).toArray) ∧ Later w w' := by
  obtain ⟨V, hV⟩ : ∃ V, V = StV s := ⟨_, rfl⟩
  have hszV : (Tryd.prog.info? 122).map (·.size) = some V.length := by rw [hV, StV_len]; kernel_rfl
  rw [← hV]
  have HV := Lib.hid hV; clear hV
  go_enter Tryd.func90, Tryd.ntmps90
  go_wp2
  go_loopw [5] (fun i wr => ∃ k : Nat, k ≤ 32 ∧ i = .int .i64 k ∧ Blk wr w.heap.size 122 (StV s) ∧ Blk wr (w.heap.size + 1) 129 (PartB [] 32) ∧ Blk wr (w.heap.size + 1 + 1) 129 (PartB (unp s k) 32) ∧ Later w wr) (fun i _ => 32 - (intOf i).toNat)
  case atStart => exact ⟨0, by omega, rfl, ((Blk.new w _ _ _ (by rw [HV.out])).alloc _).alloc _, (Blk.new' _ _ _ _ _ (by simp) rfl).alloc _, Blk.new' _ _ _ _ _ (by simp) rfl, (((Below.refl _ _).alloc (Nat.le_refl _) _).alloc (by simp) _).alloc (by simp; omega) _⟩
  case round =>
    obtain ⟨k, hk, rfl, g1, g2, g3, g4⟩ := hrel
    by_cases hlt : k < 32
    · have hc := g1.cell (j := k / 4) (W32_get s.list (k / 4) (by show _ < 8; omega))
      have hb := byte_of (s.list.getD (k / 4) 0) (24 - 8 * (k % 4))
      have hbd := q32_bd (s.list.getD (k / 4) 0)
      have hus := unp_succ s k
      obtain ⟨y, hy⟩ : ∃ y, y = q8 (((s.list.getD (k / 4) 0) >>> (24 - 8 * (k % 4))).setWidth 8) := ⟨_, rfl⟩
      rw [← hy] at hb hus
      obtain ⟨x, hx⟩ : ∃ x, x = s.list.getD (k / 4) 0 := ⟨_, rfl⟩
      rw [← hx] at hc hb hbd
      clear hx hy
      obtain ⟨u, hcell⟩ := Option.isSome_iff_exists.1 (g3.there1 (j := k) (by rw [PartB.len (by rw [unp_len]; omega)]; omega))
      have hfr := g3.frz k
      have HU := Lib.hid hus; clear hus
      have e1 : ((k : Int) / 4).toNat = k / 4 := by omega
      have e2 : ((24 : Int) - 8 * ((k : Int) % 4)).toNat = 24 - 8 * (k % 4) := by omega
      have k0 : (0 : Int) ≤ (k : Int) := by omega
      have k1 : (k : Int) / 4 < 8 := by omega
      have k2 : (0 : Int) ≤ (k : Int) / 4 := by omega
      have k32 : (k : Int) < 32 := by omega
      go_wp2
      have hset := g3.set k (.int .u8 y)
      have hps : (PartB (unp s k) 32).set k (.int .u8 y) = PartB (unp s (k + 1)) 32 := by
        have h := PartB.set (b := unp s k) (n := 32) (by rw [unp_len]; exact hlt) y
        rw [unp_len] at h
        rw [h, HU.out]
      rw [hps] at hset
      go_roundw
      case rel => exact ⟨k + 1, by omega, by go_num, g1.set_other _ _ (by simp; omega), g2.set_other _ _ (by simp), hset, g4.setCell (by simp; omega) _⟩
      case measure => simp [intOf]; omega
    · obtain rfl : k = 32 := by omega
      have hf : PartB (unp s 32) 32 = U (iv8 (Hs.bytesOf s)) := by rw [PartB.full (unp_len s 32), unp_all]
      rw [hf] at g3
      clear hf g1
      have hol := fresh_out s
      obtain ⟨F, hF⟩ : ∃ F, F = U (iv8 (Hs.bytesOf s)) := ⟨_, rfl⟩
      rw [← hF] at g3 hol
      have hszF : (Tryd.prog.info? 129).map (·.size) = some F.length := by rw [hol]; kernel_rfl
      have hF1 : ∀ v ∈ F, v.oneCell' = true := by rw [hF]; exact U_one _
      have hFl : (PartB [] 32).length = F.length := by rw [hol]; rfl
      have HF := Lib.hid hF
      have HF1 := Lib.hid hF1
      have HFl := Lib.hid hFl
      have hu8 := Tryd.underlying129
      have HU8 := Lib.hid hu8
      clear hF hF1 hFl hu8 hol
      go_wp2_with (first
        | ((with_reducible refine wpList_load_blk (o := ⟨some 21, .load 129 (.tmp 3), _, _, _, none⟩) rfl _ _ rfl (w.heap.size + 1 + 1) 129 F _ ?_ g3 HU8.out rfl hszF ?_); rfl)
        | ((with_reducible refine wpList_store_abs (o := ⟨none, .store 129 (.tmp 2) (.tmp 21), _, _, _, none⟩) rfl _ _ _ rfl (w.heap.size + 1) 129 (PartB [] 32) F ?_ ?_ g2 hszF HFl.out HF1.out ?_); rfl; rfl; intro w5 k1 k2))
      exact bodyPost_ret (v := .agg F.toArray) (results_blk Tryd.results90 _ _ (w.heap.size + 1) _ F _ rfl k1 HU8.out rfl hszF) rfl ⟨by rw [HF.out], Below.only g4 k2 (by omega)⟩
end Go.Proofs.YtjfphjgmphlbhaaDoor

/-
  STREAMS: what a stream's cells say of its message; laws for copy into a block.
-/
namespace Go.Proofs.YtjfphjgmphlbhaaDoor
open Go.RowKit

set_option maxRecDepth 100000 in
/-- A copy out of a slice, into a block that is known whole. -/
theorem wpList_copy_blk {P : Program} {w : World} {ops : Array Oper} {rest : List Oper} {o : Oper} {a : Act} {Q : Exit → Act → World → Prop} (hgd : o.guard = none) (d s : Operand) (dT sT : TypeId)
    (ho : o.op = .call { callee := .builtin .copy, args := #[d, s], argTypes := #[dT, sT] }) (elem : TypeId) (hu : P.underlying dT = some (.slice elem)) (hsz : (P.info? elem).map (·.size) = some 1)
    (g off dLen dCap : Nat) (A : Option Addr) (sLen sCap : Nat) (t : TypeId) (old : List Value) (b cs : Wm.Bs) (k : Nat) (hd : a.eval d = .slice (some ⟨g, off, none⟩) dLen dCap) (hs : a.eval s = .slice A sLen sCap)
    (hg : Blk w g t old) (hsl : Sl w 1 A sLen (U b)) (hcs : cs = b.take dLen) (hpos : 0 < sLen) (hk : k = cs.length) (hfit : off + k ≤ old.length)
    (h : ∀ w', Blk w' g t (old.take off ++ U cs ++ old.drop (off + k)) → Only g w w' → wpList P ops Q rest (a.put o.dst (.int .i64 k)) w') : wpList P ops Q (o :: rest) a w := by
  subst hk
  obtain ⟨ad, rfl, _, hc⟩ := hsl.2 hpos
  have hbl := hsl.blen
  have hlen : (U cs).length = Nat.min sLen dLen := by rw [U_length, hcs, List.length_take, hbl]; exact Nat.min_comm _ _
  refine wpList_plain hgd fun K hK => ?_
  have hrun := run_copy_row (P := P) w dT sT o.type elem g off dLen dCap ad sLen sCap old.toArray t (U cs) hu hsz hg hlen (fun j v hv => hc j v (by
      rw [hcs] at hv
      unfold U at *
      rw [List.getElem?_map, List.getElem?_take] at hv
      rw [List.getElem?_map]
      split at hv
      · exact hv
      · cases hv)) (by rw [U_length]; simpa using hfit) (U_one cs)
  unfold Oper.wp
  simp [execOp, ho, resolve, invoke, builtin, hd, hs, hrun, Result.andThen]
  have hb := hg.row (old.take off ++ U cs ++ old.drop (off + cs.length))
  have h2 := h _ hb (Only.row _ _ _)
  rw [U_length]
  simp only [List.append_assoc] at h2
  exact hK _ _ h2

set_option maxRecDepth 100000 in
/-- A copy out of a string. -/
theorem wpList_copy_str {P : Program} {w : World} {ops : Array Oper} {rest : List Oper} {o : Oper} {a : Act} {Q : Exit → Act → World → Prop} (hgd : o.guard = none) (d s : Operand) (dT sT : TypeId)
    (ho : o.op = .call { callee := .builtin .copy, args := #[d, s], argTypes := #[dT, sT] }) (elem : TypeId) (hu : P.underlying dT = some (.slice elem)) (hsz : (P.info? elem).map (·.size) = some 1)
    (g off dLen dCap : Nat) (st : ByteArray) (t : TypeId) (old : List Value) (cs : Wm.Bs) (k : Nat) (hd : a.eval d = .slice (some ⟨g, off, none⟩) dLen dCap) (hs : a.eval s = .string st)
    (hg : Blk w g t old) (hcs : cs = (sb st).take dLen) (hk : k = cs.length) (hfit : off + k ≤ old.length)
    (h : ∀ w', Blk w' g t (old.take off ++ U cs ++ old.drop (off + k)) → Only g w w' → wpList P ops Q rest (a.put o.dst (.int .i64 k)) w') : wpList P ops Q (o :: rest) a w := by
  subst hk
  refine wpList_plain hgd fun K hK => ?_
  have hst := run_storeCells_at P g off t (U cs) 0 old.toArray w hg (by rw [U_length]; simpa using hfit) (U_one cs)
  have hmin : Nat.min st.size dLen = cs.length := by rw [hcs, List.length_take, sb_len]; exact Nat.min_comm _ _
  have hex : List.take cs.length (List.map (fun b => Value.int IntKind.u8 (b.toNat : Int)) st.data.toList) = U cs := by
    unfold U
    rw [← List.map_take]
    have e : cs = (sb st).take cs.length := by
      rw [← hmin]
      conv => lhs; rw [hcs]
      show _ = List.take (min st.size dLen) (sb st)
      rw [← sb_len st, List.take_eq_take_iff]
      omega
    conv => rhs; rw [e]
    unfold sb
    rw [← List.map_take, List.map_map]
    rfl
  have hrun : (Builtin.copy_ #[dT, sT] o.type #[.slice (some ⟨g, off, none⟩) dLen dCap, .string st]).run P w = .ok (goInt cs.length) (w.setRow g (old.take off ++ U cs ++ old.drop (off + cs.length)).toArray) := by
    cases hq : P.info? elem with
    | none => simp [hq] at hsz
    | some i =>
      rw [U_length] at hst
      simp only [Nat.add_zero, List.append_assoc] at hst
      simp [Builtin.copy_, run_underlying hu, Builtin.lenOf, Builtin.firstCells, sizeOf, typeInfo, hq, hmin, hex, hst]
  unfold Oper.wp
  simp [execOp, ho, resolve, invoke, builtin, hd, hs, hrun, Result.andThen]
  have h2 := h _ (hg.row _) (Only.row _ _ _)
  simp only [List.append_assoc] at h2
  exact hK _ _ h2

set_option maxRecDepth 100000 in
/-- The cells of a stream. -/
def strC (n : Nat) (v : Hs.St) (blk : Wm.Bs) : List Value := .int .i64 n :: (StV v ++ U blk)
set_option maxRecDepth 100000 in
theorem strC_len (n : Nat) (v : Hs.St) (blk : Wm.Bs) (h : blk.length = 64) : (strC n v blk).length = 73 := by
  unfold strC; rw [List.length_cons, List.length_append, StV_len, U_length, h]
set_option maxRecDepth 100000 in
theorem strC_one (n : Nat) (v : Hs.St) (blk : Wm.Bs) : ∀ u ∈ strC n v blk, u.oneCell' = true := by
  intro u hu
  rcases List.mem_cons.1 hu with rfl | hu
  · rfl
  · rcases List.mem_append.1 hu with hu | hu
    · exact StV_one v u hu
    · exact U_one blk u hu
set_option maxRecDepth 100000 in
theorem strC_set (n k : Nat) (v : Hs.St) (blk : Wm.Bs) : (strC n v blk).set 0 (.int .i64 ((n : Int) + (k : Int))) = strC (n + k) v blk := by
  rw [← Int.natCast_add]; rfl
set_option maxRecDepth 100000 in
theorem strC_val (n : Nat) (v : Hs.St) (blk : Wm.Bs) : ((strC n v blk).drop 1).take 8 = StV v := by
  unfold strC; rw [List.drop_succ_cons, List.drop_zero, List.take_left' (StV_len v)]
set_option maxRecDepth 100000 in
theorem strC_blk (n : Nat) (v : Hs.St) (blk : Wm.Bs) (h : blk.length = 64) : ((strC n v blk).drop 9).take 64 = U blk := by
  unfold strC
  rw [List.drop_succ_cons, List.drop_left' (StV_len v), List.take_of_length_le (by rw [U_length, h]; exact Nat.le_refl _)]
set_option maxRecDepth 100000 in
theorem strC_put (n : Nat) (v v' : Hs.St) (blk : Wm.Bs) : (strC n v blk).take 1 ++ StV v' ++ (strC n v blk).drop (1 + (StV v').length) = strC n v' blk := by
  rw [StV_len]; unfold strC
  rw [show 1 + 8 = 8 + 1 from rfl, List.drop_succ_cons, List.drop_left' (StV_len v)]
  rfl
set_option maxRecDepth 100000 in
theorem strC_copy (n : Nat) (v : Hs.St) (blk x : Wm.Bs) (at_ : Nat) :
    (strC n v blk).take (9 + at_) ++ U x ++ (strC n v blk).drop (9 + at_ + x.length) = strC n v (blk.take at_ ++ x ++ blk.drop (at_ + x.length)) := by
  unfold strC
  have e1 : 9 + at_ = (8 + at_) + 1 := by omega
  have e2 : 9 + at_ + x.length = (8 + (at_ + x.length)) + 1 := by omega
  rw [e2, e1, List.take_succ_cons, List.drop_succ_cons]
  have e3 : (StV v ++ U blk).take (8 + at_) = StV v ++ U (blk.take at_) := by
    rw [List.take_append, StV_len, List.take_of_length_le (by rw [StV_len]; omega)]
    simp [U, List.map_take]
  have e4 : (StV v ++ U blk).drop (8 + (at_ + x.length)) = U (blk.drop (at_ + x.length)) := by
    rw [List.drop_append, StV_len, List.drop_eq_nil_of_le (by rw [StV_len]; omega)]
    simp [U, List.map_drop]
  rw [e3, e4, U_append, U_append]
  simp
set_option maxRecDepth 100000 in
/-- A stream's cells, for the message m. -/
def StrOf (m : List Hs.By) (cs : List Value) : Prop := ∃ blk : Wm.Bs, Wm.isBs blk ∧ blk.length = 64 ∧ blk.take (m.length % 64) = iv8 (Hs.rest m) ∧ cs = strC m.length (Hs.whole m) blk
set_option maxRecDepth 100000 in
theorem StrOf.len {m : List Hs.By} {cs : List Value} (h : StrOf m cs) : cs.length = 73 := by
  obtain ⟨blk, _, hl, _, rfl⟩ := h
  exact strC_len _ _ _ hl
set_option maxRecDepth 100000 in
theorem StrOf.one {m : List Hs.By} {cs : List Value} (h : StrOf m cs) : ∀ u ∈ cs, u.oneCell' = true := by
  obtain ⟨blk, _, _, _, rfl⟩ := h
  exact strC_one _ _ _
set_option maxRecDepth 100000 in
theorem bs_take {b : Wm.Bs} (h : Wm.isBs b) (k : Nat) : Wm.isBs (b.take k) := fun x hx => h x (List.mem_of_mem_take hx)
set_option maxRecDepth 100000 in
theorem bs_drop {b : Wm.Bs} (h : Wm.isBs b) (k : Nat) : Wm.isBs (b.drop k) := fun x hx => h x (List.mem_of_mem_drop hx)
set_option maxRecDepth 100000 in
theorem bs_app {a b : Wm.Bs} (ha : Wm.isBs a) (hb : Wm.isBs b) : Wm.isBs (a ++ b) := fun x hx => by
  rcases List.mem_append.1 hx with h | h
  · exact ha x h
  · exact hb x h
set_option maxRecDepth 100000 in
theorem iv8_bv {b : Wm.Bs} (h : Wm.isBs b) : iv8 (bv b) = b := by
  unfold iv8 bv
  rw [List.map_map]
  conv => rhs; rw [← List.map_id b]
  refine List.map_congr_left fun x hx => ?_
  exact q8_ob (h x hx)
set_option maxRecDepth 100000 in
theorem iv8_append (a b : List Hs.By) : iv8 (a ++ b) = iv8 a ++ iv8 b := List.map_append
set_option maxRecDepth 100000 in
/-- The block behind a copy. -/
def laidOn (blk x : Wm.Bs) (k : Nat) : Wm.Bs := blk.take k ++ x ++ blk.drop (k + x.length)
set_option maxRecDepth 100000 in
theorem laidOn_len {blk x : Wm.Bs} {k : Nat} (h : k + x.length ≤ blk.length) : (laidOn blk x k).length = blk.length := by
  unfold laidOn; simp; omega
set_option maxRecDepth 100000 in
theorem laidOn_bs {blk x : Wm.Bs} {k : Nat} (h : Wm.isBs blk) (hx : Wm.isBs x) : Wm.isBs (laidOn blk x k) := bs_app (bs_app (bs_take h _) hx) (bs_drop h _)
set_option maxRecDepth 100000 in
/-- Bytes that stay within the block. -/
theorem str_within {m : List Hs.By} {blk x : Wm.Bs} (h1 : Wm.isBs blk) (h2 : blk.length = 64) (h3 : blk.take (m.length % 64) = iv8 (Hs.rest m)) (hx : Wm.isBs x) (h : m.length % 64 + x.length < 64) :
    StrOf (m ++ bv x) (strC (m.length + x.length) (Hs.whole m) (laidOn blk x (m.length % 64))) := by
  obtain ⟨e1, e2⟩ := Hs.rest_within m (bv x) (by rw [bv_len]; exact h)
  refine ⟨laidOn blk x (m.length % 64), laidOn_bs h1 hx, (laidOn_len (by omega)).trans h2, ?_, ?_⟩
  · rw [e2, iv8_append, iv8_bv hx, ← h3, List.length_append, bv_len]
    have : (m.length + x.length) % 64 = m.length % 64 + x.length := by omega
    rw [this]
    unfold laidOn
    rw [List.take_append_of_le_length (by simp; omega), List.take_of_length_le (by simp; omega)]
  · rw [e1, List.length_append, bv_len]
set_option maxRecDepth 100000 in
/-- Bytes that make it full. -/
theorem str_full {m : List Hs.By} {blk x : Wm.Bs} (h1 : Wm.isBs blk) (h2 : blk.length = 64) (h3 : blk.take (m.length % 64) = iv8 (Hs.rest m)) (hx : Wm.isBs x) (h : m.length % 64 + x.length = 64) :
    StrOf (m ++ bv x) (strC (m.length + x.length) (Hs.compress (Hs.whole m) (bv (laidOn blk x (m.length % 64)))) (laidOn blk x (m.length % 64))) := by
  obtain ⟨e1, e2⟩ := Hs.rest_full m (bv x) (by rw [bv_len]; exact h)
  have hb : bv (laidOn blk x (m.length % 64)) = Hs.rest m ++ bv x := by
    unfold laidOn
    rw [h3, List.drop_eq_nil_of_le (by omega), List.append_nil, bv_append, bv_iv8]
  refine ⟨laidOn blk x (m.length % 64), laidOn_bs h1 hx, (laidOn_len (by omega)).trans h2, ?_, ?_⟩
  · rw [e2, List.length_append, bv_len, show (m.length + x.length) % 64 = 0 by omega]
    rfl
  · rw [e1, hb, List.length_append, bv_len]
end Go.Proofs.YtjfphjgmphlbhaaDoor

/-
  THE WALK OF hash.addAll over bytes: a stream, and more bytes.
-/
namespace Go.Proofs.YtjfphjgmphlbhaaDoor
open Go.RowKit

set_option maxRecDepth 100000 in
def lenS (v : Value) : Nat := match v with | .slice _ n _ => n | .string s => s.size | _ => 0
set_option maxRecDepth 100000 in
/-- A stream behind more bytes. -/
def Added (m : List Hs.By) (w : World) (e : Ending) (w' : World) : Prop := ∃ cs, e = .returned (.agg cs.toArray) ∧ StrOf m cs ∧ Later w w'

set_option maxRecDepth 100000 in
theorem blk_len {w : World} {B : Nat} {t : TypeId} {L : Nat} {V : Hs.St} {lo : Wm.Bs} (h : Blk w B t (strC L V lo)) (k : Nat) : Blk (w.setCell ⟨B, 0, none⟩ (.int .i64 ((L : Int) + (k : Int)))) B t (strC (L + k) V lo) := by
  rw [← strC_set]; exact h.set 0 _

set_option maxRecDepth 100000 in
set_option maxHeartbeats 2000000 in
theorem addB_any (m : List Hs.By) (cs : List Value) (A : Option Addr) (n c : Nat) (t : Wm.Bs) (w : World) (hS : StrOf m cs) (hs : Sl w 1 A n (U t)) (ht : Wm.isBs t) (hnc : n ≤ c) (hc : c ≤ 9223372036854775807) (hbig : m.length + n ≤ 281474976710656) (tab : Tab w) :
    Calls Tryd.prog 72 #[.agg cs.toArray, .slice A n c] w (Added (m ++ bv t) w) := by
  have htl := hs.blen
  have hcl := hS.len
  have hsz : (Tryd.prog.info? 125).map (·.size) = some cs.length := by rw [hcl]; kernel_rfl
  have HT := Lib.hid htl; have HC := Lib.hid hcl
  clear htl hcl
  go_enter Tryd.func72, Tryd.ntmps72
  go_wp2
  go_loopw [1] (fun x wr => ∃ (j : Nat) (A' : Option Addr) (c' : Nat) (cs' : List Value), j ≤ n ∧ x = .slice A' (n - j : Nat) c' ∧ n - j ≤ c' ∧ c' ≤ 9223372036854775807 ∧ Sl w 1 A' (n - j) (U (t.drop j)) ∧ StrOf (m ++ bv (t.take j)) cs' ∧ Blk wr w.heap.size 125 cs' ∧ Blk wr (w.heap.size + 1) 125 Tryd.zeroCells125.toList ∧ Later w wr) (fun x _ => lenS x)
  case atStart =>
    exact ⟨0, A, c, cs, Nat.zero_le _, rfl, hnc, hc, hs, by simpa [bv] using hS, (Blk.new w _ _ _ rfl).alloc _, Blk.new' _ _ _ _ _ (by simp) (by simp), ((Below.refl _ _).alloc (Nat.le_refl _) _).alloc (by simp) _⟩
  case round =>
    clear hs hS hnc hc hsz HC
    obtain ⟨j, A', c', cs', hj, rfl, hnc, hc, hs, hS, g1, g2, g3⟩ := hrel
    by_cases hlt : j < n
    · obtain ⟨blk, b1, b2, b3, rfl⟩ := hS
      obtain ⟨M, hM⟩ : ∃ M, M = m ++ bv (t.take j) := ⟨_, rfl⟩
      rw [← hM] at b3 g1
      have hML : M.length = m.length + j := by rw [hM, List.length_append, bv_len, List.length_take, HT.out]; omega
      obtain ⟨V, hV⟩ : ∃ V, V = Hs.whole M := ⟨_, rfl⟩
      obtain ⟨L, hL⟩ : ∃ L, L = M.length := ⟨_, rfl⟩
      rw [← hL, ← hV] at g1
      obtain ⟨p, hp⟩ : ∃ p, p = L % 64 := ⟨_, rfl⟩
      obtain ⟨x, hx⟩ : ∃ x, x = (t.drop j).take (64 - p) := ⟨_, rfl⟩
      obtain ⟨k, hk⟩ : ∃ k, k = x.length := ⟨_, rfl⟩
      have hxb : Wm.isBs x := by rw [hx]; exact bs_take (bs_drop ht _) _
      have hk1 : k ≤ n - j := by rw [hk, hx, List.length_take, List.length_drop, HT.out]; omega
      have hk2 : k ≤ 64 - p := by rw [hk, hx, List.length_take]; omega
      have hp64 : p < 64 := by omega
      have hk3 : 1 ≤ k := by rw [hk, hx, List.length_take, List.length_drop, HT.out]; omega
      have hpm : (L : Int) % 64 = (p : Int) := by omega
      have hLb : L ≤ 281474976710656 := by omega
      obtain ⟨lo, hlo⟩ : ∃ lo, lo = laidOn blk x p := ⟨_, rfl⟩
      have hcopy : (strC L V blk).take (9 + p) ++ U x ++ (strC L V blk).drop (9 + p + k) = strC L V lo := by rw [hk, hlo]; exact strC_copy L V blk x p
      have hfit : 9 + p + k ≤ (strC L V blk).length := by rw [strC_len _ _ _ b2]; omega
      have hlob : Wm.isBs lo := by rw [hlo]; exact laidOn_bs b1 hxb
      have hlol : lo.length = 64 := by rw [hlo, laidOn_len (by omega)]; exact b2
      have hmsg : M ++ bv x = m ++ bv (t.take (j + k)) := by
        rw [hM, List.append_assoc, ← bv_append]
        congr 2
        rw [List.take_add]
        congr 1
        rw [hk, hx, List.length_take]
        rw [List.take_eq_take_iff]
        omega
      have hfull : p + k = 64 → StrOf (m ++ bv (t.take (j + k))) (strC (L + k) (Hs.compress V (bv lo)) lo) := fun h => by
        have := str_full b1 b2 b3 hxb (by rw [← hL, ← hp, ← hk]; exact h)
        rw [← hL, ← hp, ← hk, ← hV, ← hlo, hmsg] at this
        exact this
      have hwithin : p + k < 64 → StrOf (m ++ bv (t.take (j + k))) (strC (L + k) V lo) := fun h => by
        have := str_within b1 b2 b3 hxb (by rw [← hL, ← hp, ← hk]; exact h)
        rw [← hL, ← hp, ← hk, ← hV, ← hlo, hmsg] at this
        exact this
      have c0 := g1.cell (j := 0) (v := .int .i64 (L : Int)) rfl
      have HC := Lib.hid hcopy; have HF := Lib.hid hfull; have HW := Lib.hid hwithin; have HLO := Lib.hid hlol
      have HX := Lib.hid hx; have HK := Lib.hid hk
      clear hM hML hL hp hx hk b1 b2 b3 hcopy hfull hwithin hmsg hlo hV hlol
      have p0 : (0 : Int) ≤ (p : Int) := by omega
      have p1 : (p : Int) ≤ 64 := by omega
      have p2 : (p : Int) < 64 := by omega
      have hsz1 : (Tryd.prog.info? 5).map (·.size) = some 1 := by kernel_rfl
      have HSZ := Lib.hid hsz1; clear hsz1
      have hsk := hs.keep g3
      have hu8 := Tryd.underlying122
      have HU8 := Lib.hid hu8
      have hu64 := Tryd.underlying123
      have HU64 := Lib.hid hu64
      have HS8' : ∀ v : Hs.St, (Tryd.prog.info? 122).map (·.size) = some (StV v).length := fun v => by rw [StV_len]; kernel_rfl
      have HS8 := Lib.hid (HS8' V)
      have hs64 : (Tryd.prog.info? 123).map (·.size) = some (U lo).length := by rw [U_length, HLO.out]; kernel_rfl
      have HS64 := Lib.hid hs64
      have hf8 : 1 + (StV (Hs.compress V (bv lo))).length ≤ (strC (L + k) V lo).length := by rw [StV_len, strC_len _ _ _ HLO.out]; omega
      have HF8 := Lib.hid hf8
      clear hu8 hu64 hs64 hf8
      by_cases hck : c' = k
      · subst hck
        obtain hnk : n - j = c' := by omega
        have hcut := hs.cutEnd hk1 hnc rfl
        by_cases hf : p + c' = 64
        · have hmod : (((L : Int) + (c' : Int)) % 64 == 0) = true := by rw [beq_iff_eq]; omega
          have hst := Lib.hid (HF.out hf)
          go_wp2_with (first
            | ((with_reducible refine wpList_copy_blk (o := ⟨some 15, .call { callee := .builtin .copy, args := #[.tmp 13, .tmp 14], argTypes := #[25, 25] }, _, _, _, none⟩) rfl _ _ _ _ rfl 5 Tryd.underlying25 HSZ.out w.heap.size (9 + p) (64 - p) (64 - p) A' (n - j) c' _ _ (t.drop j) x c' ?_ ?_ g1 hsk HX.out (by omega) HK.out hfit ?_); rfl; rfl; intro w2 k1 k2; rw [HC.out] at k1; have c1 := k1.cell (j := 0) (v := .int .i64 (L : Int)) rfl; have f1 := k1.frz 0; have k3 := blk_len k1 c'; have k4 := (g2.only k2 (by omega)).set_other ⟨w.heap.size, 0, none⟩ (.int .i64 ((L : Int) + (c' : Int))) (by simp); have k5 : Later w (w2.setCell ⟨w.heap.size, 0, none⟩ (.int .i64 ((L : Int) + (c' : Int)))) := (Below.only g3 k2 (Nat.le_refl _)).setCell (Nat.le_refl _) _)
            | ((with_reducible refine wpList_load_at (o := ⟨some 29, .load 122 (.tmp 28), _, _, _, none⟩) rfl _ _ rfl w.heap.size 1 8 125 (strC (L + c') V lo) (StV V) _ ?_ k3 (strC_val _ _ _) HU8.out rfl HS8.out ?_); rfl)
            | ((with_reducible refine wpList_load_at (o := ⟨some 31, .load 123 (.tmp 30), _, _, _, none⟩) rfl _ _ rfl w.heap.size 9 64 125 (strC (L + c') V lo) (U lo) _ ?_ k3 (strC_blk _ _ _ HLO.out) HU64.out rfl HS64.out ?_); rfl)
            | (go_at_call 89; refine (compress_any V lo _ hlob HLO.out (tab.keep k5)).mono ?_; rintro e w3 ⟨rfl, hl3⟩)
            | ((with_reducible refine wpList_store_at (o := ⟨none, .store 122 (.tmp 33) (.tmp 32), _, _, _, none⟩) rfl _ _ _ rfl rfl w.heap.size 1 125 (strC (L + c') V lo) (StV (Hs.compress V (bv lo))) ?_ ?_ (k3.keep hl3) (HS8' _) (HF8.out) (StV_one _) ?_); rfl; rfl; intro w4 q1 q2; rw [strC_put] at q1))
          go_roundw
          case rel => exact ⟨j + c', A', 0, _, by omega, by rw [show n - (j + c') = 0 by omega], by omega, by omega, by rw [← Nat.sub_sub, ← List.drop_drop]; exact hcut, hst.out, q1, (k4.keep hl3).only q2 (by omega), Below.only (Later.trans_ k5 hl3) q2 (Nat.le_refl _)⟩
          case measure => simp [lenS]; omega
        · have hmod : (((L : Int) + (c' : Int)) % 64 == 0) = false := by rw [beq_eq_false_iff_ne]; omega
          have hst := Lib.hid (HW.out (by omega))
          go_wp2_with (first
            | ((with_reducible refine wpList_copy_blk (o := ⟨some 15, .call { callee := .builtin .copy, args := #[.tmp 13, .tmp 14], argTypes := #[25, 25] }, _, _, _, none⟩) rfl _ _ _ _ rfl 5 Tryd.underlying25 HSZ.out w.heap.size (9 + p) (64 - p) (64 - p) A' (n - j) c' _ _ (t.drop j) x c' ?_ ?_ g1 hsk HX.out (by omega) HK.out hfit ?_); rfl; rfl; intro w2 k1 k2; rw [HC.out] at k1; have c1 := k1.cell (j := 0) (v := .int .i64 (L : Int)) rfl; have f1 := k1.frz 0; have k3 := blk_len k1 c'; have k4 := (g2.only k2 (by omega)).set_other ⟨w.heap.size, 0, none⟩ (.int .i64 ((L : Int) + (c' : Int))) (by simp); have k5 : Later w (w2.setCell ⟨w.heap.size, 0, none⟩ (.int .i64 ((L : Int) + (c' : Int)))) := (Below.only g3 k2 (Nat.le_refl _)).setCell (Nat.le_refl _) _))
          go_roundw
          case rel => exact ⟨j + c', A', 0, _, by omega, by rw [show n - (j + c') = 0 by omega], by omega, by omega, by rw [← Nat.sub_sub, ← List.drop_drop]; exact hcut, hst.out, k3, k4, k5⟩
          case measure => simp [lenS]; omega

      · have hcut := hs.cutB hk1 hnc hck
        by_cases hf : p + k = 64
        · have hmod : (((L : Int) + (k : Int)) % 64 == 0) = true := by rw [beq_iff_eq]; omega
          have hst := Lib.hid (HF.out hf)
          go_wp2_with (first
            | ((with_reducible refine wpList_copy_blk (o := ⟨some 15, .call { callee := .builtin .copy, args := #[.tmp 13, .tmp 14], argTypes := #[25, 25] }, _, _, _, none⟩) rfl _ _ _ _ rfl 5 Tryd.underlying25 HSZ.out w.heap.size (9 + p) (64 - p) (64 - p) A' (n - j) c' _ _ (t.drop j) x k ?_ ?_ g1 hsk HX.out (by omega) HK.out hfit ?_); rfl; rfl; intro w2 k1 k2; rw [HC.out] at k1; have c1 := k1.cell (j := 0) (v := .int .i64 (L : Int)) rfl; have f1 := k1.frz 0; have k3 := blk_len k1 k; have k4 := (g2.only k2 (by omega)).set_other ⟨w.heap.size, 0, none⟩ (.int .i64 ((L : Int) + (k : Int))) (by simp); have k5 : Later w (w2.setCell ⟨w.heap.size, 0, none⟩ (.int .i64 ((L : Int) + (k : Int)))) := (Below.only g3 k2 (Nat.le_refl _)).setCell (Nat.le_refl _) _)
            | ((with_reducible refine wpList_load_at (o := ⟨some 29, .load 122 (.tmp 28), _, _, _, none⟩) rfl _ _ rfl w.heap.size 1 8 125 (strC (L + k) V lo) (StV V) _ ?_ k3 (strC_val _ _ _) HU8.out rfl HS8.out ?_); rfl)
            | ((with_reducible refine wpList_load_at (o := ⟨some 31, .load 123 (.tmp 30), _, _, _, none⟩) rfl _ _ rfl w.heap.size 9 64 125 (strC (L + k) V lo) (U lo) _ ?_ k3 (strC_blk _ _ _ HLO.out) HU64.out rfl HS64.out ?_); rfl)
            | (go_at_call 89; refine (compress_any V lo _ hlob HLO.out (tab.keep k5)).mono ?_; rintro e w3 ⟨rfl, hl3⟩)
            | ((with_reducible refine wpList_store_at (o := ⟨none, .store 122 (.tmp 33) (.tmp 32), _, _, _, none⟩) rfl _ _ _ rfl rfl w.heap.size 1 125 (strC (L + k) V lo) (StV (Hs.compress V (bv lo))) ?_ ?_ (k3.keep hl3) (HS8' _) (HF8.out) (StV_one _) ?_); rfl; rfl; intro w4 q1 q2; rw [strC_put] at q1))
          go_roundw
          case rel => exact ⟨j + k, A'.map (·.add k), c' - k, _, by omega, by rw [Nat.sub_sub], by omega, by omega, by rw [← Nat.sub_sub, ← List.drop_drop]; exact hcut, hst.out, q1, (k4.keep hl3).only q2 (by omega), Below.only (Later.trans_ k5 hl3) q2 (Nat.le_refl _)⟩
          case measure => simp [lenS]; omega
        · have hmod : (((L : Int) + (k : Int)) % 64 == 0) = false := by rw [beq_eq_false_iff_ne]; omega
          have hst := Lib.hid (HW.out (by omega))
          go_wp2_with (first
            | ((with_reducible refine wpList_copy_blk (o := ⟨some 15, .call { callee := .builtin .copy, args := #[.tmp 13, .tmp 14], argTypes := #[25, 25] }, _, _, _, none⟩) rfl _ _ _ _ rfl 5 Tryd.underlying25 HSZ.out w.heap.size (9 + p) (64 - p) (64 - p) A' (n - j) c' _ _ (t.drop j) x k ?_ ?_ g1 hsk HX.out (by omega) HK.out hfit ?_); rfl; rfl; intro w2 k1 k2; rw [HC.out] at k1; have c1 := k1.cell (j := 0) (v := .int .i64 (L : Int)) rfl; have f1 := k1.frz 0; have k3 := blk_len k1 k; have k4 := (g2.only k2 (by omega)).set_other ⟨w.heap.size, 0, none⟩ (.int .i64 ((L : Int) + (k : Int))) (by simp); have k5 : Later w (w2.setCell ⟨w.heap.size, 0, none⟩ (.int .i64 ((L : Int) + (k : Int)))) := (Below.only g3 k2 (Nat.le_refl _)).setCell (Nat.le_refl _) _))
          go_roundw
          case rel => exact ⟨j + k, A'.map (·.add k), c' - k, _, by omega, by rw [Nat.sub_sub], by omega, by omega, by rw [← Nat.sub_sub, ← List.drop_drop]; exact hcut, hst.out, k3, k4, k5⟩
          case measure => simp [lenS]; omega

    · obtain rfl : j = n := by omega
      have hS' := hS
      rw [List.take_of_length_le (by rw [HT.out]; exact Nat.le_refl _)] at hS'
      have hsz : (Tryd.prog.info? 125).map (·.size) = some cs'.length := by rw [hS.len]; kernel_rfl
      have hone := hS.one
      have hz : Tryd.zeroCells125.toList.length = cs'.length := by rw [hS.len]; rfl
      have hu := Tryd.underlying125
      have HU := Lib.hid hu
      have HO := Lib.hid hone; have HZ := Lib.hid hz; have HS := Lib.hid hS'
      clear hone hz hS hS' hu
      go_wp2_with (first
        | ((with_reducible refine wpList_load_blk (o := ⟨some 34, .load 125 (.tmp 2), _, _, _, none⟩) rfl _ _ rfl w.heap.size 125 cs' _ ?_ g1 HU.out rfl hsz ?_); rfl)
        | ((with_reducible refine wpList_store_abs (o := ⟨none, .store 125 (.tmp 4) (.tmp 34), _, _, _, none⟩) rfl _ _ _ rfl (w.heap.size + 1) 125 _ cs' ?_ ?_ g2 hsz HZ.out HO.out ?_); rfl; rfl; intro w5 k1 k2))
      exact bodyPost_ret (v := .agg cs'.toArray) (results_blk Tryd.results72 _ _ (w.heap.size + 1) _ cs' _ rfl k1 HU.out rfl hsz) rfl ⟨cs', rfl, HS.out, Below.only g3 k2 (by omega)⟩
end Go.Proofs.YtjfphjgmphlbhaaDoor

/-
  THE WALK OF hash.addAll over a string; and of Stream.Add.
-/
namespace Go.Proofs.YtjfphjgmphlbhaaDoor
open Go.RowKit

set_option maxRecDepth 100000 in
theorem sb_cut (s : ByteArray) (k : Nat) : sb (s.extract k s.size) = (sb s).drop k := by
  unfold sb
  rw [← List.map_drop]
  congr 1
  simp
  exact List.take_of_length_le (by simp)

set_option maxRecDepth 100000 in
theorem StrOf.begin : StrOf [] (strC 0 Hs.iv (List.replicate 64 0)) :=
  ⟨List.replicate 64 0, fun x hx => by rw [List.eq_of_mem_replicate hx]; omega, List.length_replicate, rfl, rfl⟩
set_option maxRecDepth 100000 in
set_option maxHeartbeats 1000000 in
theorem strBegin_any (w : World) : Calls Tryd.prog 73 #[] w (Added [] w) := by
  have hsz : (Tryd.prog.info? 125).map (·.size) = some (strC 0 Hs.iv (List.replicate 64 0)).length := by rw [strC_len _ _ _ List.length_replicate]; kernel_rfl
  have hu := Tryd.underlying125
  have HU := Lib.hid hu
  have h0 : ((((((((Tryd.zeroCells125.setIfInBounds 1 (Value.int IntKind.u32 1779033703)).setIfInBounds 2 (Value.int IntKind.u32 3144134277)).setIfInBounds 3 (Value.int IntKind.u32 1013904242)).setIfInBounds 4 (Value.int IntKind.u32 2773480762)).setIfInBounds 5 (Value.int IntKind.u32 1359893119)).setIfInBounds 6 (Value.int IntKind.u32 2600822924)).setIfInBounds 7 (Value.int IntKind.u32 528734635)).setIfInBounds 8 (Value.int IntKind.u32 1541459225)) = (strC 0 Hs.iv (List.replicate 64 0)).toArray := by kernel_rfl
  have H0 := Lib.hid h0
  obtain ⟨C, hC⟩ : ∃ C, C = strC 0 Hs.iv (List.replicate 64 0) := ⟨_, rfl⟩
  have hS : StrOf [] C := by rw [hC]; exact StrOf.begin
  rw [← hC] at H0 hsz
  clear hu h0 hC
  go_enter Tryd.func73, Tryd.ntmps73
  go_wp2_with (((with_reducible refine wpList_store_abs (o := ⟨none, .store 125 (.tmp 0) (.tmp 2), _, _, _, none⟩) rfl _ _ _ rfl w.heap.size 125 Tryd.zeroCells125.toList C ?_ ?_ ?_ hsz ?_ hS.one ?_); rfl; exact congrArg Value.agg H0.out; exact Blk.new _ _ _ _ (by simp); (rw [hS.len]; rfl); intro w5 k1 k2))
  exact bodyPost_ret (v := .agg C.toArray) (results_blk Tryd.results73 _ _ w.heap.size _ C _ rfl k1 HU.out rfl hsz) rfl ⟨C, rfl, hS, Below.only ((Below.refl _ _).alloc (Nat.le_refl _) _) k2 (by omega)⟩
end Go.Proofs.YtjfphjgmphlbhaaDoor

/-
  THE WALK OF Stream.Sum: the padding, and the hash.
-/
namespace Go.Proofs.YtjfphjgmphlbhaaDoor
open Go.RowKit

set_option maxRecDepth 100000 in
theorem zero_u8 (w : World) : (zeroValue 5).run Tryd.prog w = .ok (.int .u8 0) w := by
  obtain ⟨i0, hi, hz0, _, _⟩ := info_parts u8_info
  simp [zeroValue, typeInfo, hi, hz0]
set_option maxRecDepth 100000 in
/-- clear, of a part of a block that is known whole. -/
theorem wpList_clear_blk {w : World} {ops : Array Oper} {rest : List Oper} {o : Oper} {a : Act} {Q : Exit → Act → World → Prop} (hgd : o.guard = none) (hdn : o.dst = none) (s : Operand)
    (ho : o.op = .call { callee := .builtin .clear, args := #[s], argTypes := #[25] }) (g off n c : Nat) (A : Option Addr) (t : TypeId) (old : List Value) (hx : a.eval s = .slice A n c) (hA : 0 < n → A = some ⟨g, off, none⟩)
    (hg : Blk w g t old) (hfit : off + n ≤ old.length)
    (h : ∀ w', Blk w' g t (old.take off ++ List.replicate n (.int .u8 0) ++ old.drop (off + n)) → Only g w w' → wpList Tryd.prog ops Q rest a w') : wpList Tryd.prog ops Q (o :: rest) a w := by
  refine wpList_plain hgd fun K hK => ?_
  have hput : a.put o.dst (.tuple #[]) = a := by rw [hdn]; rfl
  rcases Nat.eq_zero_or_pos n with h0 | h0
  · subst h0
    have hrun : (Builtin.clear_ #[25] o.type #[.slice A 0 c]).run Tryd.prog w = .ok (.tuple #[]) w := by
      cases A <;> simp [Builtin.clear_, run_underlying Tryd.underlying25]
    unfold Oper.wp
    simp [execOp, ho, resolve, invoke, builtin, hx, hrun, Result.andThen]
    exact hK _ _ (by rw [hput]; exact h w (by simpa using hg) ⟨rfl, rfl, rfl, rfl, fun _ _ => rfl⟩)
  · obtain rfl := hA h0
    have hrun := Lib.run_clear_slice (P := Tryd.prog) w 25 5 o.type (.int .u8 0) Tryd.underlying25 zero_u8 rfl rfl g off n c h0 (fun j hj => hg.there1 (by omega)) (fun j _ => hg.frz _)
    unfold Oper.wp
    simp [execOp, ho, resolve, invoke, builtin, hx, hrun, Result.andThen]
    have h1 := hg.sets off (List.replicate n (.int .u8 0)) (by rw [List.length_replicate]; exact hfit)
    rw [List.length_replicate] at h1
    exact hK _ _ (by rw [hput]; exact h _ h1 (Only.sets _ _ _ _))

set_option maxRecDepth 100000 in
theorem strC_at (n : Nat) (v : Hs.St) (blk : Wm.Bs) (i : Nat) (x : Int) : (strC n v blk).set (9 + i) (.int .u8 x) = strC n v (blk.set i x) := by
  unfold strC
  rw [show 9 + i = (8 + i) + 1 by omega, List.set_cons_succ, List.set_append_right _ _ (by rw [StV_len]; omega), StV_len, show 8 + i - 8 = i by omega]
  simp [U, List.map_set]
set_option maxRecDepth 100000 in
theorem strC_zero (n : Nat) (v : Hs.St) (blk : Wm.Bs) (i k : Nat) :
    (strC n v blk).take (9 + i) ++ List.replicate k (.int .u8 0) ++ (strC n v blk).drop (9 + i + k) = strC n v (blk.take i ++ List.replicate k 0 ++ blk.drop (i + k)) := by
  have h := strC_copy n v blk (List.replicate k 0) i
  rw [List.length_replicate] at h
  rw [← h]
  simp [U]

set_option maxRecDepth 100000 in
/-- The bytes of the length. -/
def lenB (L : Nat) : Wm.Bs := iv8 (Hs.len8 L)
set_option maxRecDepth 100000 in
theorem lenB_len (L : Nat) : (lenB L).length = 8 := by unfold lenB; rw [iv8_len, Hs.len8_len]
set_option maxRecDepth 100000 in
theorem lenB_at (L i : Nat) (h : i < 8) : (lenB L).getD (7 - i) 0 = ((8 * L / 2 ^ (8 * i) % 256 : Nat) : Int) := by
  unfold lenB iv8 Hs.len8
  rw [List.map_map, List.getD_eq_getElem?_getD, List.getElem?_map, List.getElem?_range (by omega)]
  simp only [Option.map_some, Option.getD_some, Function.comp, q8, BitVec.toNat_ofNat]
  rw [show 56 - 8 * (7 - i) = 8 * i by omega]
set_option maxRecDepth 100000 in
/-- The block while the length is laid, from behind. -/
def Laying (b0 : Wm.Bs) (L i : Nat) : Wm.Bs := b0.take (64 - i) ++ (lenB L).drop (8 - i)
set_option maxRecDepth 100000 in
theorem Laying.len {b0 : Wm.Bs} {L i : Nat} (h : b0.length = 64) (hi : i ≤ 8) : (Laying b0 L i).length = 64 := by
  unfold Laying; rw [List.length_append, List.length_take, List.length_drop, lenB_len]; omega
set_option maxRecDepth 100000 in
theorem Laying.next {b0 : Wm.Bs} {L i : Nat} (h : b0.length = 64) (hi : i < 8) : (Laying b0 L i).set (63 - i) ((8 * L / 2 ^ (8 * i) % 256 : Nat) : Int) = Laying b0 L (i + 1) := by
  unfold Laying
  rw [List.set_append_left _ _ (by rw [List.length_take]; omega)]
  have e1 : b0.take (64 - i) = b0.take (63 - i) ++ [b0.getD (63 - i) 0] := by
    rw [show 64 - i = (63 - i) + 1 by omega, List.take_succ_eq_append_getElem (by omega)]
    congr 2
    rw [List.getD_eq_getElem?_getD, List.getElem?_eq_getElem (by omega)]; rfl
  have e2 : (lenB L).drop (7 - i) = (lenB L).getD (7 - i) 0 :: (lenB L).drop (8 - i) := by
    rw [List.drop_eq_getElem_cons (by rw [lenB_len]; omega), show 7 - i + 1 = 8 - i by omega]
    congr 1
    rw [List.getD_eq_getElem?_getD, List.getElem?_eq_getElem (by rw [lenB_len]; omega)]; rfl
  rw [e1, List.set_append_right _ _ (by rw [List.length_take]; omega), List.length_take, show 63 - i - min (63 - i) b0.length = 0 by omega, show 64 - (i + 1) = 63 - i by omega, show 8 - (i + 1) = 7 - i by omega, e2, lenB_at L i hi]
  simp


set_option maxRecDepth 100000 in
/-- The block with the byte 128 and zeros behind the rest. -/
def Padded (m : List Hs.By) : Wm.Bs := iv8 (Hs.rest m) ++ [128] ++ List.replicate (63 - m.length % 64) 0
set_option maxRecDepth 100000 in
theorem Padded.len (m : List Hs.By) : (Padded m).length = 64 := by
  unfold Padded; simp only [List.length_append, iv8_len, Hs.rest_len, List.length_replicate, List.length_singleton]; omega
set_option maxRecDepth 100000 in
theorem padded_is {m : List Hs.By} {blk : Wm.Bs} (h2 : blk.length = 64) (h3 : blk.take (m.length % 64) = iv8 (Hs.rest m)) :
    (blk.set (m.length % 64) 128).take (m.length % 64 + 1) ++ List.replicate (63 - m.length % 64) 0 ++ (blk.set (m.length % 64) 128).drop (m.length % 64 + 1 + (63 - m.length % 64)) = Padded m := by
  unfold Padded
  rw [← h3, List.drop_eq_nil_of_le (by rw [List.length_set]; omega), List.append_nil, List.take_succ_eq_append_getElem (by rw [List.length_set]; omega), List.take_set_of_le (by omega)]
  simp
set_option maxRecDepth 100000 in
theorem Padded.bs (m : List Hs.By) : Wm.isBs (Padded m) := bs_app (bs_app (iv8_bs _) (fun x hx => by simp at hx; omega)) (fun x hx => by rw [List.eq_of_mem_replicate hx]; omega)

set_option maxRecDepth 100000 in
theorem bv_zeros (n : Nat) : bv (List.replicate n 0) = List.replicate n 0#8 := by
  unfold bv; rw [List.map_replicate]; rfl
set_option maxRecDepth 100000 in
theorem bv_lenB (L : Nat) : bv (lenB L) = Hs.len8 L := bv_iv8 _
set_option maxRecDepth 100000 in
theorem Laying.zero {b0 : Wm.Bs} {L : Nat} (h : b0.length = 64) : Laying b0 L 0 = b0 := by
  unfold Laying
  rw [List.take_of_length_le (by omega), List.drop_eq_nil_of_le (by rw [lenB_len]; omega), List.append_nil]
set_option maxRecDepth 100000 in
theorem Laying.bs {b0 : Wm.Bs} {L i : Nat} (h : Wm.isBs b0) : Wm.isBs (Laying b0 L i) := bs_app (bs_take h _) (bs_drop (iv8_bs _) _)
set_option maxRecDepth 100000 in
theorem lay_one (m : List Hs.By) (h : m.length % 64 ≤ 55) : Hs.compress (Hs.whole m) (bv (Laying (Padded m) m.length 8)) = Hs.final m := by
  rw [Hs.final_one m h]
  congr 1
  unfold Laying Padded
  have e : (iv8 (Hs.rest m) ++ [128] ++ List.replicate (63 - m.length % 64) 0).take (64 - 8) = iv8 (Hs.rest m) ++ [128] ++ List.replicate (55 - m.length % 64) (0 : Int) := by
    rw [List.take_append, List.take_of_length_le (by simp only [List.length_append, iv8_len, Hs.rest_len, List.length_singleton]; omega), List.take_replicate]
    congr 2
    simp only [List.length_append, iv8_len, Hs.rest_len, List.length_singleton]
    omega
  rw [e, Nat.sub_self, List.drop_zero, bv_append, bv_append, bv_append, bv_iv8, bv_zeros, bv_lenB]
  rfl
set_option maxRecDepth 100000 in
theorem strC_zeros (n : Nat) (v : Hs.St) (blk : Wm.Bs) (h : blk.length = 64) :
    (strC n v blk).take 9 ++ U (List.replicate 64 0) ++ (strC n v blk).drop (9 + (U (List.replicate 64 0)).length) = strC n v (List.replicate 64 0) := by
  have h1 := strC_copy n v blk (List.replicate 64 0) 0
  have e : blk.take 0 ++ List.replicate 64 0 ++ blk.drop (0 + (List.replicate 64 (0 : Int)).length) = List.replicate 64 0 := by
    rw [List.take_zero, List.nil_append, List.length_replicate, List.drop_eq_nil_of_le (by omega), List.append_nil]
  rw [e] at h1
  rw [← h1, U_length]
set_option maxRecDepth 100000 in
theorem bv_padded (m : List Hs.By) : bv (Padded m) = Hs.rest m ++ [128#8] ++ List.replicate (63 - m.length % 64) 0#8 := by
  unfold Padded
  rw [bv_append, bv_append, bv_iv8, bv_zeros]
  rfl
set_option maxRecDepth 100000 in
theorem bv_lay_two (L : Nat) : bv (Laying (List.replicate 64 0) L 8) = List.replicate 56 0#8 ++ Hs.len8 L := by
  unfold Laying
  rw [List.take_replicate, Nat.sub_self, List.drop_zero, bv_append, bv_zeros, bv_lenB]
  rfl
set_option maxRecDepth 100000 in
theorem lay_two (m : List Hs.By) (h : 55 < m.length % 64) : Hs.compress (Hs.compress (Hs.whole m) (bv (Padded m))) (bv (Laying (List.replicate 64 0) m.length 8)) = Hs.final m := by
  rw [Hs.final_two m h, bv_padded, bv_lay_two]

set_option maxRecDepth 100000 in
set_option maxHeartbeats 4000000 in
theorem strSum_any (m : List Hs.By) (cs : List Value) (w : World) (hS : StrOf m cs) (hbig : m.length ≤ 281474976710656) (tab : Tab w) :
    Calls Tryd.prog 75 #[.agg cs.toArray] w fun e w' => e = .returned (.agg (U (iv8 (Hs.sha m))).toArray) ∧ Later w w' := by
  have hsz : (Tryd.prog.info? 125).map (·.size) = some cs.length := by rw [hS.len]; kernel_rfl
  obtain ⟨blk, b1, b2, b3, hcs⟩ := hS
  have hpad := padded_is b2 b3
  obtain ⟨V, hV⟩ : ∃ V, V = Hs.whole m := ⟨_, rfl⟩
  obtain ⟨L, hL⟩ : ∃ L, L = m.length := ⟨_, rfl⟩
  obtain ⟨p, hp⟩ : ∃ p, p = L % 64 := ⟨_, rfl⟩
  rw [← hL, ← hV] at hcs
  rw [← hL, ← hp] at hpad b3
  have hc0 : cs[0]? = some (.int .i64 (L : Int)) := by rw [hcs]; rfl
  obtain ⟨u, hcp⟩ : ∃ u, cs[9 + p]? = some u := by
    have hlt : 9 + p < cs.length := by rw [hcs, strC_len _ _ _ b2]; omega
    exact ⟨_, List.getElem?_eq_getElem hlt⟩
  have hg2 : ∀ o, Blk ((w.alloc (.cells (cs.set (9 + p) (.int .u8 128)).toArray 125)).alloc o) w.heap.size 125 (strC L V (blk.set p 128)) := fun o => by
    rw [← strC_at]
    exact (Blk.new w _ _ _ (by rw [hcs])).alloc o
  have hfit : 9 + (p + 1) + (63 - p) ≤ (strC L V (blk.set p 128)).length := by rw [strC_len _ _ _ (by rw [List.length_set]; exact b2)]; omega
  have hp64 : p < 64 := by omega
  have hpm : (L : Int) % 64 = (p : Int) := by omega
  have hLb : L ≤ 281474976710656 := by omega
  have p0 : (0 : Int) ≤ (p : Int) := by omega
  have p1 : (p : Int) ≤ 64 := by omega
  have p2 : (p : Int) < 64 := by omega
  have HCS := Lib.hid hcs; have HPD := Lib.hid hpad; have HL := Lib.hid hL; have HP := Lib.hid hp; have HV := Lib.hid hV
  clear hcs hpad hL hp hV
  go_enter Tryd.func75, Tryd.ntmps75
  have q0 : (0 : Int) ≤ (p : Int) + 1 := by omega
  have q1 : (p : Int) + 1 ≤ 64 := by omega
  have qn : ((p : Int) + 1).toNat = p + 1 := by omega
  rw [show ((p : Int) : Int) = p from rfl] at hpm
  have hu8 := Tryd.underlying122
  have HU8 := Lib.hid hu8
  have hu64 := Tryd.underlying123
  have HU64 := Lib.hid hu64
  have HS8' : ∀ v : Hs.St, (Tryd.prog.info? 122).map (·.size) = some (StV v).length := fun v => by rw [StV_len]; kernel_rfl
  have HS8 := Lib.hid (HS8' V)
  have hs64 : (Tryd.prog.info? 123).map (·.size) = some (U (Padded m)).length := by rw [U_length, Padded.len]; kernel_rfl
  have HS64 := Lib.hid hs64
  have hz64 : (Tryd.prog.info? 123).map (·.size) = some (U (List.replicate 64 0)).length := by rw [U_length, List.length_replicate]; kernel_rfl
  have HZ64 := Lib.hid hz64
  have hf8 : 1 + (StV (Hs.compress V (bv (Padded m)))).length ≤ (strC L V (Padded m)).length := by rw [StV_len, strC_len _ _ _ (Padded.len m)]; omega
  have HF8 := Lib.hid hf8
  have hf64 : 9 + (U (List.replicate 64 0)).length ≤ (strC L (Hs.compress V (bv (Padded m))) (Padded m)).length := by rw [U_length, List.length_replicate, strC_len _ _ _ (Padded.len m)]; omega
  have HF64 := Lib.hid hf64
  clear hu8 hu64 hs64 hz64 hf8 hf64
  have hcases : p = 63 ∨ (p < 63 ∧ 55 < p) ∨ p ≤ 55 := by omega
  rcases hcases with h63 | ⟨hlt63, h55⟩ | h55
  case' inl =>
    have HW63 : 55 < m.length % 64 := by have h1 := HP.out; have h2 := HL.out; omega
    subst h63
    have hg63 : ∀ o, Blk ((w.alloc (.cells (cs.set 72 (.int .u8 128)).toArray 125)).alloc o) w.heap.size 125 (strC L V (blk.set 63 128)) := hg2
    have hz63 : (strC L V (blk.set 63 128)).take 73 ++ List.replicate 0 (.int .u8 0) ++ (strC L V (blk.set 63 128)).drop (73 + 0) = strC L V (Padded m) := by
      have h := strC_zero L V (blk.set 63 128) (63 + 1) (63 - 63)
      rw [HPD.out] at h
      exact h
    have HZ63 := Lib.hid hz63
    have hfit63 : 73 + 0 ≤ (strC L V (blk.set 63 128)).length := hfit
    clear hz63
    go_wp2_with (first
        | ((with_reducible refine wpList_clear_blk (o := ⟨none, .call { callee := .builtin .clear, args := #[.tmp 19], argTypes := #[25] }, _, _, _, none⟩) rfl rfl _ rfl w.heap.size 73 0 0 (some ⟨w.heap.size, 9, none⟩) 125 _ ?_ (fun h => absurd h (Nat.lt_irrefl 0)) (hg63 _) hfit63 ?_); rfl; intro w2 k1 k2; rw [HZ63.out] at k1; have k3 : Later w w2 := Below.only (((Below.refl _ _).alloc (Nat.le_refl _) _).alloc (by simp) _) k2 (Nat.le_refl _); have k4 : Blk w2 (w.heap.size + 1) 129 (PartB [] 32) := (Blk.new' _ _ _ _ _ (by simp) rfl).only k2 (by omega))
        | ((with_reducible refine wpList_load_at (o := ⟨some 24, .load 122 (.tmp 23), _, _, _, none⟩) rfl _ _ rfl w.heap.size 1 8 125 (strC L V (Padded m)) (StV V) _ ?_ k1 (strC_val _ _ _) HU8.out rfl HS8.out ?_); rfl)
        | ((with_reducible refine wpList_load_at (o := ⟨some 26, .load 123 (.tmp 25), _, _, _, none⟩) rfl _ _ rfl w.heap.size 9 64 125 (strC L V (Padded m)) (U (Padded m)) _ ?_ k1 (strC_blk _ _ _ (Padded.len m)) HU64.out rfl HS64.out ?_); rfl)
        | (go_at_call 89; refine (compress_any V (Padded m) _ (Padded.bs m) (Padded.len m) (tab.keep k3)).mono ?_; rintro e w3 ⟨rfl, hl3⟩)
        | ((with_reducible refine wpList_store_at (o := ⟨none, .store 122 (.tmp 28) (.tmp 27), _, _, _, none⟩) rfl _ _ _ rfl rfl w.heap.size 1 125 (strC L V (Padded m)) (StV (Hs.compress V (bv (Padded m)))) ?_ ?_ (k1.keep hl3) (HS8' _) (HF8.out) (StV_one _) ?_); rfl; rfl; intro w4 q1 q2; rw [strC_put] at q1)
        | ((with_reducible refine wpList_store_at (o := ⟨none, .store 123 (.tmp 30) (.tmp 29), _, _, _, none⟩) rfl _ _ _ rfl rfl w.heap.size 9 125 (strC L (Hs.compress V (bv (Padded m))) (Padded m)) (U (List.replicate 64 0)) ?_ ?_ q1 HZ64.out HF64.out (U_one _) ?_); rfl; rfl; intro w5 s1 s2))
    have sx := s1
    rw [strC_zeros _ _ _ (Padded.len m)] at sx
    have ex : Later w w5 := Below.only (Below.only (Later.trans_ k3 hl3) q2 (Nat.le_refl _)) s2 (Nat.le_refl _)
    have zx : Blk w5 (w.heap.size + 1) 129 (PartB [] 32) := ((k4.keep hl3).only q2 (by omega)).only s2 (by omega)
    have hb0 : (List.replicate 64 (0 : Int)).length = 64 := List.length_replicate
    have hB0 : Wm.isBs (List.replicate 64 (0 : Int)) := fun x hx => by rw [List.eq_of_mem_replicate hx]; omega
    have HFIN : Hid (Hs.compress (Hs.compress V (bv (Padded m))) (bv (Laying (List.replicate 64 0) L 8)) = Hs.final m) := by
      rw [HL.out, HV.out]
      exact lay_two m HW63
    generalize Hs.compress V (bv (Padded m)) = V0 at sx HFIN
    obtain ⟨b0, hbb⟩ : ∃ b0, b0 = List.replicate 64 (0 : Int) := ⟨_, rfl⟩
    rw [← hbb] at sx HFIN hb0 hB0
    clear hbb
    obtain ⟨wx, hwx⟩ : ∃ wx, wx = w5 := ⟨_, rfl⟩
    subst hwx
    clear hg63 HZ63 hfit63
  case' inr.inl =>
    have HW63 : 55 < m.length % 64 := by have h1 := HP.out; have h2 := HL.out; omega
    have hlt63' : (p : Int) + 1 < 64 := by omega
    go_wp2_with (first
      | ((with_reducible refine wpList_clear_blk (o := ⟨none, .call { callee := .builtin .clear, args := #[.tmp 19], argTypes := #[25] }, _, _, _, none⟩) rfl rfl _ rfl w.heap.size (9 + (p + 1)) (63 - p) (63 - p) (some ⟨w.heap.size, 9 + (p + 1), none⟩) 125 _ ?_ (fun _ => rfl) (hg2 _) hfit ?_); rfl; intro w2 k1 k2; rw [strC_zero, HPD.out] at k1; have k3 : Later w w2 := Below.only (((Below.refl _ _).alloc (Nat.le_refl _) _).alloc (by simp) _) k2 (Nat.le_refl _); have k4 : Blk w2 (w.heap.size + 1) 129 (PartB [] 32) := (Blk.new' _ _ _ _ _ (by simp) rfl).only k2 (by omega))
      | ((with_reducible refine wpList_load_at (o := ⟨some 24, .load 122 (.tmp 23), _, _, _, none⟩) rfl _ _ rfl w.heap.size 1 8 125 (strC L V (Padded m)) (StV V) _ ?_ k1 (strC_val _ _ _) HU8.out rfl HS8.out ?_); rfl)
      | ((with_reducible refine wpList_load_at (o := ⟨some 26, .load 123 (.tmp 25), _, _, _, none⟩) rfl _ _ rfl w.heap.size 9 64 125 (strC L V (Padded m)) (U (Padded m)) _ ?_ k1 (strC_blk _ _ _ (Padded.len m)) HU64.out rfl HS64.out ?_); rfl)
      | (go_at_call 89; refine (compress_any V (Padded m) _ (Padded.bs m) (Padded.len m) (tab.keep k3)).mono ?_; rintro e w3 ⟨rfl, hl3⟩)
      | ((with_reducible refine wpList_store_at (o := ⟨none, .store 122 (.tmp 28) (.tmp 27), _, _, _, none⟩) rfl _ _ _ rfl rfl w.heap.size 1 125 (strC L V (Padded m)) (StV (Hs.compress V (bv (Padded m)))) ?_ ?_ (k1.keep hl3) (HS8' _) (HF8.out) (StV_one _) ?_); rfl; rfl; intro w4 q1 q2; rw [strC_put] at q1)
      | ((with_reducible refine wpList_store_at (o := ⟨none, .store 123 (.tmp 30) (.tmp 29), _, _, _, none⟩) rfl _ _ _ rfl rfl w.heap.size 9 125 (strC L (Hs.compress V (bv (Padded m))) (Padded m)) (U (List.replicate 64 0)) ?_ ?_ q1 HZ64.out HF64.out (U_one _) ?_); rfl; rfl; intro w5 s1 s2))
    have sx := s1
    rw [strC_zeros _ _ _ (Padded.len m)] at sx
    have ex : Later w w5 := Below.only (Below.only (Later.trans_ k3 hl3) q2 (Nat.le_refl _)) s2 (Nat.le_refl _)
    have zx : Blk w5 (w.heap.size + 1) 129 (PartB [] 32) := ((k4.keep hl3).only q2 (by omega)).only s2 (by omega)
    have hb0 : (List.replicate 64 (0 : Int)).length = 64 := List.length_replicate
    have hB0 : Wm.isBs (List.replicate 64 (0 : Int)) := fun x hx => by rw [List.eq_of_mem_replicate hx]; omega
    have HFIN : Hid (Hs.compress (Hs.compress V (bv (Padded m))) (bv (Laying (List.replicate 64 0) L 8)) = Hs.final m) := by
      rw [HL.out, HV.out]
      exact lay_two m HW63
    generalize Hs.compress V (bv (Padded m)) = V0 at sx HFIN
    obtain ⟨b0, hbb⟩ : ∃ b0, b0 = List.replicate 64 (0 : Int) := ⟨_, rfl⟩
    rw [← hbb] at sx HFIN hb0 hB0
    clear hbb
    obtain ⟨wx, hwx⟩ : ∃ wx, wx = w5 := ⟨_, rfl⟩
    subst hwx
  case' inr.inr =>
    have HW55 : m.length % 64 ≤ 55 := by have h1 := HP.out; have h2 := HL.out; omega
    have hlt63 : p < 63 := by omega
    have hlt63' : (p : Int) + 1 < 64 := by omega
    go_wp2_with (first
      | ((with_reducible refine wpList_clear_blk (o := ⟨none, .call { callee := .builtin .clear, args := #[.tmp 19], argTypes := #[25] }, _, _, _, none⟩) rfl rfl _ rfl w.heap.size (9 + (p + 1)) (63 - p) (63 - p) (some ⟨w.heap.size, 9 + (p + 1), none⟩) 125 _ ?_ (fun _ => rfl) (hg2 _) hfit ?_); rfl; intro w2 k1 k2; rw [strC_zero, HPD.out] at k1; have k3 : Later w w2 := Below.only (((Below.refl _ _).alloc (Nat.le_refl _) _).alloc (by simp) _) k2 (Nat.le_refl _); have k4 : Blk w2 (w.heap.size + 1) 129 (PartB [] 32) := (Blk.new' _ _ _ _ _ (by simp) rfl).only k2 (by omega)))
    have sx := k1
    have ex := k3
    have zx := k4
    have hb0 := Padded.len m
    have hB0 := Padded.bs m
    have HFIN : Hid (Hs.compress V (bv (Laying (Padded m) L 8)) = Hs.final m) := by
      rw [HL.out, HV.out]
      exact lay_one m HW55
    generalize Padded m = b0 at sx HFIN hb0 hB0
    obtain ⟨V0, hv0⟩ : ∃ V0, V0 = V := ⟨_, rfl⟩
    rw [← hv0] at sx HFIN
    clear hv0
    obtain ⟨wx, hwx⟩ : ∃ wx, wx = w2 := ⟨_, rfl⟩
    subst hwx
  all_goals
    clear hpm qn hc0 hcp hg2 hfit
    go_loopw [31] (fun i wr => ∃ k : Nat, k ≤ 8 ∧ i = .int .i64 k ∧ Blk wr w.heap.size 125 (strC L V0 (Laying b0 L k)) ∧ Blk wr (w.heap.size + 1) 129 (PartB [] 32) ∧ Later w wr) (fun i _ => 8 - (intOf i).toNat)
    case atStart => exact ⟨0, by omega, rfl, by rw [Laying.zero hb0]; exact sx, zx, ex⟩
    case round =>
      clear sx zx ex
      rename_i wr
      obtain ⟨k, hk, rfl, g1, g2, g3⟩ := hrel
      by_cases hlt : k < 8
      · have hlay := Laying.next (L := L) hb0 hlt
        obtain ⟨y, hy⟩ : ∃ y : Int, y = ((8 * L / 2 ^ (8 * k) % 256 : Nat) : Int) := ⟨_, rfl⟩
        have hby : IntKind.u8.wrap ((L : Int) * 8 / 2 ^ (8 * k)) = y := by
          rw [IntKind.wrap_u8, hy, show (L : Int) * 8 = ((8 * L : Nat) : Int) by omega, show (2 : Int) ^ (8 * k) = ((2 ^ (8 * k) : Nat) : Int) by rw [Int.natCast_pow]; rfl]
          rfl
        rw [← hy] at hlay
        obtain ⟨u, hcell⟩ := Option.isSome_iff_exists.1 (g1.there1 (j := 9 + (63 - k)) (by rw [strC_len _ _ _ (Laying.len hb0 hk)]; omega))
        have hfr := g1.frz (9 + (63 - k))
        have hset := g1.set (9 + (63 - k)) (.int .u8 y)
        rw [strC_at, hlay] at hset
        have h2 := g2.set_other ⟨w.heap.size, 9 + (63 - k), none⟩ (.int .u8 y) (by simp)
        have h3 : Later w (wr.setCell ⟨w.heap.size, 9 + (63 - k), none⟩ (.int .u8 y)) := g3.setCell (Nat.le_refl _) _
        have n1 : ((63 : Int) - (k : Int)).toNat = 63 - k := by omega
        have n2 : ((8 : Int) * (k : Int)).toNat = 8 * k := by omega
        have r0 : (0 : Int) ≤ 63 - (k : Int) := by omega
        have r1 : (63 : Int) - (k : Int) < 64 := by omega
        have r2 : (k : Int) ≤ 63 := by omega
        have r3 : (0 : Int) ≤ 8 * (k : Int) := by omega
        clear hy hlay g1 g2 g3
        go_wp2
        go_roundw
        case rel => exact ⟨k + 1, by omega, by go_num, hset, h2, h3⟩
        case measure => simp [intOf]; omega
      · obtain rfl : k = 8 := by omega
        have hLl := Laying.len (L := L) hb0 (Nat.le_refl 8)
        have hLb8 : Wm.isBs (Laying b0 L 8) := Laying.bs hB0
        have hcm := HFIN.out
        obtain ⟨F, hF⟩ : ∃ F, F = Laying b0 L 8 := ⟨_, rfl⟩
        rw [← hF] at g1 hLl hLb8 hcm
        have hs64 : (Tryd.prog.info? 123).map (·.size) = some (U F).length := by rw [U_length, hLl]; kernel_rfl
        have HSF := Lib.hid hs64
        have HSV := Lib.hid (HS8' V0)
        have hC : ∀ w', Later w w' → Calls Tryd.prog 89 #[.agg (StV V0).toArray, .agg (U F).toArray] w' fun e w'' => e = .returned (.agg (StV (Hs.final m)).toArray) ∧ Later w' w'' := fun w' hl => by
          rw [← hcm]; exact compress_any V0 F w' hLb8 hLl (tab.keep hl)
        have HCC := Lib.hid hC
        have hU : ∀ w', Calls Tryd.prog 90 #[.agg (StV (Hs.final m)).toArray] w' fun e w'' => e = .returned (.agg (U (iv8 (Hs.sha m))).toArray) ∧ Later w' w'' := fun w' => unpack_any (Hs.final m) w'
        have HUU := Lib.hid hU
        have hfo : (U (iv8 (Hs.sha m))).length = 32 := fresh_out (Hs.final m)
        have HLF := Lib.hid hLl
        clear hF hs64 hC hU hcm hLl HFIN
        obtain ⟨O, hO⟩ : ∃ O, O = U (iv8 (Hs.sha m)) := ⟨_, rfl⟩
        rw [← hO] at HUU hfo
        have hsO : (Tryd.prog.info? 129).map (·.size) = some O.length := by rw [hfo]; kernel_rfl
        have hO1 : ∀ v ∈ O, v.oneCell' = true := by rw [hO]; exact U_one _
        have hOl : (PartB [] 32).length = O.length := by rw [hfo]; rfl
        have hu32 := Tryd.underlying129
        have HU32 := Lib.hid hu32
        have HO := Lib.hid hO; have HO1 := Lib.hid hO1; have HOL := Lib.hid hOl
        clear hO hO1 hOl hu32 hfo
        go_wp2_with (first
          | ((with_reducible refine wpList_load_at (o := ⟨some 45, .load 122 (.tmp 44), _, _, _, none⟩) rfl _ _ rfl w.heap.size 1 8 125 (strC L V0 F) (StV V0) _ ?_ g1 (strC_val _ _ _) HU8.out rfl HSV.out ?_); rfl)
          | ((with_reducible refine wpList_load_at (o := ⟨some 47, .load 123 (.tmp 46), _, _, _, none⟩) rfl _ _ rfl w.heap.size 9 64 125 (strC L V0 F) (U F) _ ?_ g1 (strC_blk _ _ _ HLF.out) HU64.out rfl HSF.out ?_); rfl)
          | (go_at_call 89; refine (HCC.out _ g3).mono ?_; rintro e wc ⟨rfl, hlc⟩)
          | (go_at_call 90; refine (HUU.out _).mono ?_; rintro e wu ⟨rfl, hlu⟩)
          | ((with_reducible refine wpList_store_abs (o := ⟨none, .store 129 (.tmp 2) (.tmp 49), _, _, _, none⟩) rfl _ _ _ rfl (w.heap.size + 1) 129 (PartB [] 32) O ?_ ?_ ((g2.keep hlc).keep hlu) hsO HOL.out HO1.out ?_); rfl; rfl; intro wz z1 z2))
        exact bodyPost_ret (v := .agg O.toArray) (results_blk Tryd.results75 _ _ (w.heap.size + 1) _ O _ rfl z1 HU32.out rfl hsO) rfl ⟨by rw [HO.out], Below.only (Later.trans_ (Later.trans_ g3 hlc) hlu) z2 (by omega)⟩
end Go.Proofs.YtjfphjgmphlbhaaDoor
