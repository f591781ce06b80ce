/-
  THE WALK OF hash.schedule: the words of a block.
-/
import Derived.Test.YtoigpokmlohhkaaDoorHashE
namespace Go.Proofs.YtoigpokmlohhkaaDoor
open Go.RowKit

/-- Words as cells. -/
def W32 (l : List Hs.W) : List Value := l.map fun x => .int .u32 (q32 x)
theorem W32_len (l : List Hs.W) : (W32 l).length = l.length := List.length_map _
theorem W32_one (l : List Hs.W) : ∀ u ∈ W32 l, u.oneCell' = true := by
  intro u hu
  obtain ⟨x, _, rfl⟩ := List.mem_map.1 hu
  rfl
theorem W32_get (l : List Hs.W) (j : Nat) (h : j < l.length) : (W32 l)[j]? = some (.int .u32 (q32 (l.getD j 0))) := by
  simp [W32, h]
/-- Words so far, and zeros. -/
def Part (l : List Hs.W) (n : Nat) : List Value := W32 l ++ List.replicate (n - l.length) (.int .u32 0)
theorem Part.get {l : List Hs.W} {n j : Nat} (h : j < l.length) : (Part l n)[j]? = some (.int .u32 (q32 (l.getD j 0))) := by
  unfold Part
  rw [List.getElem?_append_left (by rw [W32_len]; exact h), W32_get l j h]
theorem Part.set {l : List Hs.W} {n : Nat} (h : l.length < n) (x : Hs.W) : (Part l n).set l.length (.int .u32 (q32 x)) = Part (l ++ [x]) n := by
  unfold Part
  rw [List.set_append_right _ _ (by rw [W32_len]; exact Nat.le_refl _), W32_len, Nat.sub_self]
  have e : List.replicate (n - l.length) (Value.int .u32 0) = .int .u32 0 :: List.replicate (n - (l ++ [x]).length) (.int .u32 0) := by
    rw [List.length_append, List.length_singleton, ← List.replicate_succ]
    congr 1
    omega
  rw [e, List.set_cons_zero]
  simp [W32]
theorem Part.full {l : List Hs.W} {n : Nat} (h : l.length = n) : Part l n = W32 l := by
  unfold Part; rw [h, Nat.sub_self]; simp
theorem Part.len {l : List Hs.W} {n : Nat} (h : l.length ≤ n) : (Part l n).length = n := by
  unfold Part; rw [List.length_append, W32_len, List.length_replicate]; omega

theorem bv_getD (b : Wm.Bs) (i : Nat) (h : i < b.length) : (bv b).getD i 0 = ob (b.getD i 0) := by
  simp [bv, h]
theorem sl32_24 (A : BitVec 32) : IntKind.u32.wrap (q32 A * 16777216) = q32 (A <<< 24) := shl32 A 24 16777216 rfl
theorem sl32_16 (A : BitVec 32) : IntKind.u32.wrap (q32 A * 65536) = q32 (A <<< 16) := shl32 A 16 65536 rfl
theorem sl32_8 (A : BitVec 32) : IntKind.u32.wrap (q32 A * 256) = q32 (A <<< 8) := shl32 A 8 256 rfl
/-- A word, as Go makes it of four bytes. -/
theorem word_is (a b c d : Int) (ha : 0 ≤ a ∧ a < 256) (hb : 0 ≤ b ∧ b < 256) (hc : 0 ≤ c ∧ c < 256) (hd : 0 ≤ d ∧ d < 256) :
    bits .or .u32 (bits .or .u32 (bits .or .u32 (IntKind.u32.wrap (IntKind.u32.wrap a * 16777216)) (IntKind.u32.wrap (IntKind.u32.wrap b * 65536))) (IntKind.u32.wrap (IntKind.u32.wrap c * 256))) (IntKind.u32.wrap d) = q32 (Hs.word (ob a) (ob b) (ob c) (ob d)) := by
  have e : ∀ x : Int, 0 ≤ x ∧ x < 256 → IntKind.u32.wrap x = q32 ((ob x).setWidth 32) := fun x hx => by rw [← q8_32, q8_ob hx, IntKind.wrap_u32]; omega
  rw [e a ha, e b hb, e c hc, e d hd, sl32_24, sl32_16, sl32_8, or32, or32, or32]; rfl
theorem s0_is (p : Hs.W) : bits .xor .u32 (bits .xor .u32 (q32 (Hs.rotr p 7)) (q32 (Hs.rotr p 18))) (q32 p / 8) = q32 (Hs.s0 p) := by
  rw [shr32 p 3 8 rfl, xor32, xor32]; rfl
theorem s1_is (p : Hs.W) : bits .xor .u32 (bits .xor .u32 (q32 (Hs.rotr p 17)) (q32 (Hs.rotr p 19))) (q32 p / 1024) = q32 (Hs.s1 p) := by
  rw [shr32 p 10 1024 rfl, xor32, xor32]; rfl
theorem sum_is (a b c d : Hs.W) : IntKind.u32.wrap (IntKind.u32.wrap (IntKind.u32.wrap (q32 a + q32 b) + q32 c) + q32 d) = q32 (a + b + c + d) := by
  rw [add32, add32, add32]

theorem Blk.byte {w : World} {B : Nat} {t : TypeId} {b : Wm.Bs} (h : Blk w B t (U b)) (hb : Wm.isBs b) (j : Nat) (hj : j < b.length) : ∃ x, w.cell? ⟨B, j, none⟩ = some (.int .u8 x) ∧ 0 ≤ x ∧ x < 256 ∧ Hid (b.getD j 0 = x) :=
  ⟨_, h.cell (U_get b j hj), (bs_at hb j).1, (bs_at hb j).2, Lib.hid rfl⟩
theorem wordAt_is (b : Wm.Bs) (k : Nat) (x0 x1 x2 x3 : Int) (h : 4 * k + 3 < b.length) (h0 : b.getD (4 * k) 0 = x0) (h1 : b.getD (4 * k + 1) 0 = x1) (h2 : b.getD (4 * k + 2) 0 = x2) (h3 : b.getD (4 * k + 3) 0 = x3) :
    Hs.word (ob x0) (ob x1) (ob x2) (ob x3) = Hs.wordAt (bv b) k := by
  unfold Hs.wordAt
  rw [bv_getD _ _ (by omega), bv_getD _ _ (by omega), bv_getD _ _ (by omega), bv_getD _ _ (by omega), h0, h1, h2, h3]

set_option maxRecDepth 100000 in
set_option maxHeartbeats 4000000 in
theorem schedule_any (b : Wm.Bs) (w : World) (hb : Wm.isBs b) (hl : b.length = 64) :
    Calls Tryd.prog 91 #[.agg (U b).toArray] w fun e w' => e = .returned (.agg (W32 (Hs.words (bv b))).toArray) ∧ Later w w' := by
  have hUl : (U b).toArray.size = 64 := by rw [List.size_toArray, U_length, hl]
  have hsz : (Tryd.prog.info? 40).map (·.size) = some (U b).toArray.size := by rw [hUl]; kernel_rfl
  obtain ⟨C, hC⟩ : ∃ C, C = (U b).toArray := ⟨_, rfl⟩
  rw [← hC] at hUl hsz ⊢
  have HC := Lib.hid hC; clear hC
  have HU := Lib.hid hUl; clear hUl
  have HL := Lib.hid hl; clear hl
  go_enter Tryd.func91, Tryd.ntmps91
  go_wp2
  go_loopw [8] (fun i wr => ∃ k : Nat, k ≤ 16 ∧ i = .int .i64 k ∧ Blk wr w.heap.size 40 (U b) ∧ Blk wr (w.heap.size + 1) 101 (Part [] 64) ∧ Blk wr (w.heap.size + 1 + 1) 101 (Part (Hs.firsts (bv b) k) 64) ∧ Later w wr) (fun i _ => 16 - (intOf i).toNat)
  case atStart =>
    exact ⟨0, by omega, rfl, ((Blk.new w _ _ _ HC.out).alloc _).alloc _, (Blk.new' _ _ _ _ _ (by simp) rfl).alloc _, Blk.new' _ _ _ _ _ (by simp) rfl, (((Below.refl _ _).alloc (Nat.le_refl _) _).alloc (by simp) _).alloc (by simp; omega) _⟩
  case round =>
    obtain ⟨k, hk, rfl, h1, h2, h3, hbr⟩ := hrel
    by_cases hlt : k < 16
    · obtain ⟨x0, c0, a0, b0, X0⟩ := h1.byte hb (4 * k) (by rw [HL.out]; omega)
      obtain ⟨x1, c1, a1, b1, X1⟩ := h1.byte hb (4 * k + 1) (by rw [HL.out]; omega)
      obtain ⟨x2, c2, a2, b2, X2⟩ := h1.byte hb (4 * k + 2) (by rw [HL.out]; omega)
      obtain ⟨x3, c3, a3, b3, X3⟩ := h1.byte hb (4 * k + 3) (by rw [HL.out]; omega)
      have hwd := word_is x0 x1 x2 x3 ⟨a0, b0⟩ ⟨a1, b1⟩ ⟨a2, b2⟩ ⟨a3, b3⟩
      rw [wordAt_is b k x0 x1 x2 x3 (by rw [HL.out]; omega) X0.out X1.out X2.out X3.out] at hwd
      clear X0 X1 X2 X3
      obtain ⟨u, hcell⟩ := Option.isSome_iff_exists.1 (h3.there1 (j := k) (by rw [Part.len (by rw [Hs.firsts_len]; omega)]; omega))
      have hfr := h3.frz k
      have e0 : IntKind.i64.wrap (4 * (k : Int)) = 4 * (k : Int) := IntWalk.i64_in _ (by omega)
      have e1 : IntKind.i64.wrap (4 * (k : Int) + 1) = 4 * (k : Int) + 1 := IntWalk.i64_in _ (by omega)
      have e2 : IntKind.i64.wrap (4 * (k : Int) + 2) = 4 * (k : Int) + 2 := IntWalk.i64_in _ (by omega)
      have e3 : IntKind.i64.wrap (4 * (k : Int) + 3) = 4 * (k : Int) + 3 := IntWalk.i64_in _ (by omega)
      have n0 : (4 * (k : Int)).toNat = 4 * k := by omega
      have n1 : (4 * (k : Int) + 1).toNat = 4 * k + 1 := by omega
      have n2 : (4 * (k : Int) + 2).toNat = 4 * k + 2 := by omega
      have n3 : (4 * (k : Int) + 3).toNat = 4 * k + 3 := by omega
      have p0 : (0 : Int) ≤ 4 * (k : Int) := by omega
      have p1 : (0 : Int) ≤ 4 * (k : Int) + 1 := by omega
      have p2 : (0 : Int) ≤ 4 * (k : Int) + 2 := by omega
      have p3 : (0 : Int) ≤ 4 * (k : Int) + 3 := by omega
      have l0 : 4 * (k : Int) < 64 := by omega
      have l1 : 4 * (k : Int) + 1 < 64 := by omega
      have l2 : 4 * (k : Int) + 2 < 64 := by omega
      have l3 : 4 * (k : Int) + 3 < 64 := by omega
      have k0 : (0 : Int) ≤ (k : Int) := by omega
      have k64 : (k : Int) < 64 := by omega
      go_wp2
      go_still_tail 31, (by kernel_rfl)
      change wpList _ _ _ _ _ wr.drew
      clear e0 e1 e2 e3 n0 n1 n2 n3 p0 p1 p2 p3 l0 l1 l2 l3 k0 k64 c0 c1 c2 c3
      go_wp2
      have hset := h3.drew.set k (.int .u32 (q32 (Hs.wordAt (bv b) k)))
      have hps := Part.set (l := Hs.firsts (bv b) k) (n := 64) (by rw [Hs.firsts_len]; omega) (Hs.wordAt (bv b) k)
      rw [Hs.firsts_len, ← Hs.firsts_succ] at hps
      rw [hps] at hset
      have h1' := h1.drew.set_other ⟨w.heap.size + 1 + 1, k, none⟩ (.int .u32 (q32 (Hs.wordAt (bv b) k))) (by simp; omega)
      have h2' := h2.drew.set_other ⟨w.heap.size + 1 + 1, k, none⟩ (.int .u32 (q32 (Hs.wordAt (bv b) k))) (by simp)
      have hbr2 : Later w (wr.drew.setCell ⟨w.heap.size + 1 + 1, k, none⟩ (.int .u32 (q32 (Hs.wordAt (bv b) k)))) := hbr.drew.setCell (by simp; omega) _
      clear hps h1 h2 h3 hbr hcell hfr hwd
      go_roundw
      case rel => exact ⟨k + 1, by omega, by go_num, h1', h2', hset, hbr2⟩
      case measure => simp [intOf]; omega
    · obtain rfl : k = 16 := by omega
      clear h1
      rw [show ((16 : Nat) : Int) = 16 from rfl]
      go_wp2
      go_loopw [5] (fun i wr => ∃ (k : Nat) (l : List Hs.W), k ≤ 64 ∧ 16 ≤ k ∧ i = .int .i64 k ∧ Hid (l.length = k ∧ Hs.grow (64 - k) l = Hs.words (bv b)) ∧ Blk wr (w.heap.size + 1) 101 (Part [] 64) ∧ Blk wr (w.heap.size + 1 + 1) 101 (Part l 64) ∧ Later w wr) (fun i _ => 64 - (intOf i).toNat)
      case atStart => exact ⟨16, Hs.firsts (bv b) 16, by omega, by omega, rfl, Lib.hid ⟨Hs.firsts_len _ _, rfl⟩, h2, h3, hbr⟩
      case round =>
        clear h2 h3 hbr
        rename_i wr
        obtain ⟨k, l, hk64, hk16, rfl, hg, h2, h3, hbr⟩ := hrel
        by_cases hlt : k < 64
        · obtain ⟨p, hp⟩ : ∃ p, p = l.getD (k - 15) 0 := ⟨_, rfl⟩
          obtain ⟨q, hq⟩ : ∃ q, q = l.getD (k - 2) 0 := ⟨_, rfl⟩
          obtain ⟨x16, hx16⟩ : ∃ q, q = l.getD (k - 16) 0 := ⟨_, rfl⟩
          obtain ⟨x7, hx7⟩ : ∃ q, q = l.getD (k - 7) 0 := ⟨_, rfl⟩
          have hnext : x16 + Hs.s0 p + x7 + Hs.s1 q = Hs.next l l.length := by rw [hp, hq, hx16, hx7, hg.out.1]; rfl
          have c15 := h3.cell (Part.get (n := 64) (show k - 15 < l.length by rw [hg.out.1]; omega))
          have c2 := h3.cell (Part.get (n := 64) (show k - 2 < l.length by rw [hg.out.1]; omega))
          have c16 := h3.cell (Part.get (n := 64) (show k - 16 < l.length by rw [hg.out.1]; omega))
          have c7 := h3.cell (Part.get (n := 64) (show k - 7 < l.length by rw [hg.out.1]; omega))
          rw [← hp] at c15; rw [← hq] at c2; rw [← hx16] at c16; rw [← hx7] at c7
          obtain ⟨nx, hnx⟩ : ∃ nx, nx = Hs.next l l.length := ⟨_, rfl⟩
          rw [← hnx] at hnext
          have HN := Lib.hid hnext
          have HX := Lib.hid hnx
          clear hp hq hx16 hx7 hnext hnx
          have hs0 := s0_is p
          have hs1 := s1_is q
          have hsum := sum_is x16 (Hs.s0 p) x7 (Hs.s1 q)
          rw [HN.out] at hsum
          have bp := q32_bd p
          have bq := q32_bd q
          obtain ⟨u, hcell⟩ := Option.isSome_iff_exists.1 (h3.there1 (j := k) (by rw [Part.len (by rw [hg.out.1]; omega)]; omega))
          have hfr := h3.frz k
          have e15 : IntKind.i64.wrap ((k : Int) - 15) = (k : Int) - 15 := IntWalk.i64_in _ (by omega)
          have e2 : IntKind.i64.wrap ((k : Int) - 2) = (k : Int) - 2 := IntWalk.i64_in _ (by omega)
          have e16 : IntKind.i64.wrap ((k : Int) - 16) = (k : Int) - 16 := IntWalk.i64_in _ (by omega)
          have e7 : IntKind.i64.wrap ((k : Int) - 7) = (k : Int) - 7 := IntWalk.i64_in _ (by omega)
          have n15 : ((k : Int) - 15).toNat = k - 15 := by omega
          have n2 : ((k : Int) - 2).toNat = k - 2 := by omega
          have n16 : ((k : Int) - 16).toNat = k - 16 := by omega
          have n7 : ((k : Int) - 7).toNat = k - 7 := by omega
          have p15 : (0 : Int) ≤ (k : Int) - 15 := by omega
          have p2 : (0 : Int) ≤ (k : Int) - 2 := by omega
          have p16 : (0 : Int) ≤ (k : Int) - 16 := by omega
          have p7 : (0 : Int) ≤ (k : Int) - 7 := by omega
          have l15 : (k : Int) - 15 < 64 := by omega
          have l2 : (k : Int) - 2 < 64 := by omega
          have l16 : (k : Int) - 16 < 64 := by omega
          have l7 : (k : Int) - 7 < 64 := by omega
          have q15 : (15 : Int) ≤ (k : Int) := by omega
          have q2 : (2 : Int) ≤ (k : Int) := by omega
          have q16 : (16 : Int) ≤ (k : Int) := by omega
          have q7 : (7 : Int) ≤ (k : Int) := by omega
          have k0 : (0 : Int) ≤ (k : Int) := by omega
          have k64 : (k : Int) < 64 := by omega
          go_wp2
          go_quiet (fail)
          have h2q : Blk (wr.drewN nq) (w.heap.size + 1) 101 (Part [] 64) := h2
          have h3q : Blk (wr.drewN nq) (w.heap.size + 1 + 1) 101 (Part l 64) := h3
          have hbq : Later w (wr.drewN nq) := ⟨hbr.os, hbr.tape, hbr.output, hbr.size, hbr.block⟩
          have c16q : (wr.drewN nq).cell? ⟨w.heap.size + 1 + 1, k - 16, none⟩ = some (.int .u32 (q32 x16)) := c16
          have c7q : (wr.drewN nq).cell? ⟨w.heap.size + 1 + 1, k - 7, none⟩ = some (.int .u32 (q32 x7)) := c7
          have cuq : (wr.drewN nq).cell? ⟨w.heap.size + 1 + 1, k, none⟩ = some u := hcell
          have hfq : (wr.drewN nq).frozen? ⟨w.heap.size + 1 + 1, k, none⟩ = false := hfr
          clear h2 h3 hbr c16 c7 c15 c2 hcell hfr
          generalize wr.drewN nq = wq at h2q h3q hbq c16q c7q cuq hfq ⊢
          go_wp2
          go_still_tail 29, (by kernel_rfl)
          still_call ((rotr_any p 7 _ (by decide) (by decide)).mono fun _ _ h => ⟨h.1, h.2.symm⟩)
          repeat still_step
          still_call ((rotr_any p 18 _ (by decide) (by decide)).mono fun _ _ h => ⟨h.1, h.2.symm⟩)
          repeat still_step
          still_call ((rotr_any q 17 _ (by decide) (by decide)).mono fun _ _ h => ⟨h.1, h.2.symm⟩)
          repeat still_step
          still_call ((rotr_any q 19 _ (by decide) (by decide)).mono fun _ _ h => ⟨h.1, h.2.symm⟩)
          repeat still_step
          refine wpStill_nil ?_
          change wpList _ _ _ _ _ wq.drew
          clear e15 e2 e16 e7 n15 n2 n16 n7 p15 p2 p16 p7 l15 l2 l16 l7 c16q c7q
          go_wp2
          have hset := h3q.drew.set k (.int .u32 (q32 nx))
          have hps : (Part l 64).set k (.int .u32 (q32 nx)) = Part (l ++ [nx]) 64 := by
            have h := Part.set (l := l) (n := 64) (by rw [hg.out.1]; omega) nx
            rwa [hg.out.1] at h
          rw [hps] at hset
          have h2' := h2q.drew.set_other ⟨w.heap.size + 1 + 1, k, none⟩ (.int .u32 (q32 nx)) (by simp)
          have hbr2 : Later w (wq.drew.setCell ⟨w.heap.size + 1 + 1, k, none⟩ (.int .u32 (q32 nx))) := hbq.drew.setCell (by simp; omega) _
          have hg2 : Hid ((l ++ [nx]).length = k + 1 ∧ Hs.grow (64 - (k + 1)) (l ++ [nx]) = Hs.words (bv b)) := by
            refine Lib.hid ⟨by rw [List.length_append, hg.out.1]; rfl, ?_⟩
            rw [← hg.out.2, show 64 - k = (64 - (k + 1)) + 1 by omega, HX.out]
            rfl
          clear hps h2q h3q hbq cuq hfq hs0 hs1 hsum
          go_roundw
          case rel => exact ⟨k + 1, l ++ [nx], by omega, by omega, by go_num, hg2, h2', hset, hbr2⟩
          case measure => simp [intOf]; omega
        · obtain rfl : k = 64 := by omega
          have hw : l = Hs.words (bv b) := hg.out.2
          have hpl : Part l 64 = W32 (Hs.words (bv b)) := by rw [Part.full hg.out.1, hw]
          rw [hpl] at h3
          clear hg hw hpl
          have hwl := Hs.words_len (bv b)
          have hsz2 : (Tryd.prog.info? 101).map (·.size) = some (W32 (Hs.words (bv b))).length := by rw [W32_len, hwl]; kernel_rfl
          have hone := W32_one (Hs.words (bv b))
          have hlen : (Part [] 64).length = (W32 (Hs.words (bv b))).length := by rw [W32_len, hwl]; rfl
          obtain ⟨R, hR⟩ : ∃ R, R = W32 (Hs.words (bv b)) := ⟨_, rfl⟩
          rw [← hR] at h3 hsz2 hone hlen
          have HR := Lib.hid hR
          have HON := Lib.hid hone
          have HLE := Lib.hid hlen
          clear hone hlen hwl hR
          go_wp2_with (first
            | ((with_reducible refine wpList_load_blk (o := ⟨some 84, .load 101 (.tmp 3), _, _, _, none⟩) rfl _ _ rfl (w.heap.size + 1 + 1) _ R _ ?_ h3 Tryd.underlying101 rfl hsz2 ?_); rfl)
            | ((with_reducible refine wpList_store_blk (o := ⟨none, .store 101 (.tmp 2) (.tmp 84), _, _, _, none⟩) rfl _ _ _ rfl (w.heap.size + 1) _ _ R ?_ ?_ h2 hsz2 HLE.out HON.out ?_); rfl; rfl))
          exact bodyPost_ret (v := .agg R.toArray) (results_blk Tryd.results91 _ _ (w.heap.size + 1) _ R _ rfl (h2.row R) Tryd.underlying101 rfl hsz2) rfl ⟨by rw [HR.out], below_setRow hbr (by simp) _⟩
end Go.Proofs.YtoigpokmlohhkaaDoor
