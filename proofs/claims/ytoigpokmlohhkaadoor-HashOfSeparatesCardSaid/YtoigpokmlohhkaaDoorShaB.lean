/-
  THE WALK OF the reference's words: the words of a block, read from a slice.
-/
import Derived.Test.YtoigpokmlohhkaaDoorHashF
namespace Go.Proofs.YtoigpokmlohhkaaDoor
open Go.RowKit

theorem Sl.byteX {w : World} {A : Option Addr} {n : Nat} {b : Wm.Bs} (h : Sl w 1 A n (U b)) (hb : Wm.isBs b) {k : Nat} (hk : k < n) :
    ∃ ad x, A = some ad ∧ w.cell? (ad.add k) = some (.int .u8 x) ∧ 0 ≤ x ∧ x < 256 ∧ Hid (b.getD k 0 = x) := by
  obtain ⟨ad, e, _, hc⟩ := h.byte hk
  have hx := bs_at hb k
  exact ⟨ad, _, e, hc, hx.1, hx.2, Lib.hid rfl⟩

theorem rrq (x : Hs.W) (w : World) (n : Nat) (z : Int) (hz : z = (n : Int)) (h0 : 1 ≤ n) (h1 : n ≤ 31) :
    Calls Tryd.prog 62 #[.int .u32 (q32 x), .int .i64 z] w fun e w' => e = .returned (.int .u32 (q32 (Hs.rotr x n))) ∧ ∃ m, w' = w.drewN m := by
  subst hz
  exact refRotr_any x n w h0 h1

set_option maxRecDepth 100000 in
set_option maxHeartbeats 4000000 in
theorem refSchedule_any (A : Option Addr) (c : Nat) (b : Wm.Bs) (w : World) (hs : Sl w 1 A 64 (U b)) (hb : Wm.isBs b) :
    Calls Tryd.prog 61 #[.slice A 64 c] w fun e w' => e = .returned (.agg (W32 (Hs.words (bv b))).toArray) ∧ Later w w' := by
  have hl := hs.blen
  have HL := Lib.hid hl; clear hl
  obtain ⟨ad, rfl, _, _⟩ := hs.2 (by decide)
  go_enter Tryd.func61, Tryd.ntmps61
  go_wp2
  go_loopw [4] (fun i wr => ∃ k : Nat, k ≤ 16 ∧ i = .int .i64 k ∧ Blk wr w.heap.size 101 (Part [] 64) ∧ Blk wr (w.heap.size + 1) 101 (Part (Hs.firsts (bv b) k) 64) ∧ Later w wr) (fun i _ => 16 - (intOf i).toNat)
  case atStart =>
    exact ⟨0, by omega, rfl, (Blk.new w _ _ _ rfl).alloc _, Blk.new' _ _ _ _ _ (by simp) rfl, ((Below.refl _ _).alloc (Nat.le_refl _) _).alloc (by simp) _⟩
  case round =>
    obtain ⟨k, hk, rfl, h2, h3, hbr⟩ := hrel
    by_cases hlt : k < 16
    · obtain ⟨ad0, x0, e0', c0, a0, b0, X0⟩ := (hs.keep hbr).byteX hb (k := 4 * k) (by omega)
      obtain ⟨ad1, x1, e1', c1, a1, b1, X1⟩ := (hs.keep hbr).byteX hb (k := 4 * k + 1) (by omega)
      obtain ⟨ad2, x2, e2', c2, a2, b2, X2⟩ := (hs.keep hbr).byteX hb (k := 4 * k + 2) (by omega)
      obtain ⟨ad3, x3, e3', c3, a3, b3, X3⟩ := (hs.keep hbr).byteX hb (k := 4 * k + 3) (by omega)
      cases e0'; cases e1'; cases e2'; cases e3'
      simp [Addr.add] at c1 c2 c3
      have hwd := word_is x0 x1 x2 x3 ⟨a0, b0⟩ ⟨a1, b1⟩ ⟨a2, b2⟩ ⟨a3, b3⟩
      rw [wordAt_is b k x0 x1 x2 x3 (by rw [HL.out]; omega) X0.out X1.out X2.out X3.out] at hwd
      clear X0 X1 X2 X3
      obtain ⟨u, hcell⟩ := Option.isSome_iff_exists.1 (h3.there1 (j := k) (by rw [Part.len (by rw [Hs.firsts_len]; omega)]; omega))
      have hfr := h3.frz k
      have e0 : IntKind.i64.wrap (4 * (k : Int)) = 4 * (k : Int) := IntWalk.i64_in _ (by omega)
      have e1 : IntKind.i64.wrap (4 * (k : Int) + 1) = 4 * (k : Int) + 1 := IntWalk.i64_in _ (by omega)
      have e2 : IntKind.i64.wrap (4 * (k : Int) + 2) = 4 * (k : Int) + 2 := IntWalk.i64_in _ (by omega)
      have e3 : IntKind.i64.wrap (4 * (k : Int) + 3) = 4 * (k : Int) + 3 := IntWalk.i64_in _ (by omega)
      have n0 : (4 * (k : Int)).toNat = 4 * k := by omega
      have n1 : (4 * (k : Int) + 1).toNat = 4 * k + 1 := by omega
      have n2 : (4 * (k : Int) + 2).toNat = 4 * k + 2 := by omega
      have n3 : (4 * (k : Int) + 3).toNat = 4 * k + 3 := by omega
      have p0 : (0 : Int) ≤ 4 * (k : Int) := by omega
      have p1 : (0 : Int) ≤ 4 * (k : Int) + 1 := by omega
      have p2 : (0 : Int) ≤ 4 * (k : Int) + 2 := by omega
      have p3 : (0 : Int) ≤ 4 * (k : Int) + 3 := by omega
      have l0 : 4 * (k : Int) < 64 := by omega
      have l1 : 4 * (k : Int) + 1 < 64 := by omega
      have l2 : 4 * (k : Int) + 2 < 64 := by omega
      have l3 : 4 * (k : Int) + 3 < 64 := by omega
      have k0 : (0 : Int) ≤ (k : Int) := by omega
      have k64 : (k : Int) < 64 := by omega
      go_wp2
      go_still_tail 35, (by kernel_rfl)
      change wpList _ _ _ _ _ wr.drew
      clear e0 e1 e2 e3 n0 n1 n2 n3 p0 p1 p2 p3 l0 l1 l2 l3 k0 k64 c0 c1 c2 c3
      go_wp2
      have hset := h3.drew.set k (.int .u32 (q32 (Hs.wordAt (bv b) k)))
      have hps := Part.set (l := Hs.firsts (bv b) k) (n := 64) (by rw [Hs.firsts_len]; omega) (Hs.wordAt (bv b) k)
      rw [Hs.firsts_len, ← Hs.firsts_succ] at hps
      rw [hps] at hset
      have h2' := h2.drew.set_other ⟨w.heap.size + 1, k, none⟩ (.int .u32 (q32 (Hs.wordAt (bv b) k))) (by simp)
      have hbr2 : Later w (wr.drew.setCell ⟨w.heap.size + 1, k, none⟩ (.int .u32 (q32 (Hs.wordAt (bv b) k)))) := hbr.drew.setCell (by simp) _
      clear hps h2 h3 hbr hcell hfr hwd
      go_roundw
      case rel => exact ⟨k + 1, by omega, by go_num, h2', hset, hbr2⟩
      case measure => simp [intOf]; omega
    · obtain rfl : k = 16 := by omega
      rw [show ((16 : Nat) : Int) = 16 from rfl]
      go_wp2
      go_loopw [5] (fun i wr => ∃ (k : Nat) (l : List Hs.W), k ≤ 64 ∧ 16 ≤ k ∧ i = .int .i64 k ∧ Hid (l.length = k ∧ Hs.grow (64 - k) l = Hs.words (bv b)) ∧ Blk wr w.heap.size 101 (Part [] 64) ∧ Blk wr (w.heap.size + 1) 101 (Part l 64) ∧ Later w wr) (fun i _ => 64 - (intOf i).toNat)
      case atStart => exact ⟨16, Hs.firsts (bv b) 16, by omega, by omega, rfl, Lib.hid ⟨Hs.firsts_len _ _, rfl⟩, h2, h3, hbr⟩
      case round =>
        clear h2 h3 hbr
        rename_i wr
        obtain ⟨k, l, hk64, hk16, rfl, hg, h2, h3, hbr⟩ := hrel
        by_cases hlt : k < 64
        · obtain ⟨p, hp⟩ : ∃ p, p = l.getD (k - 15) 0 := ⟨_, rfl⟩
          obtain ⟨q, hq⟩ : ∃ q, q = l.getD (k - 2) 0 := ⟨_, rfl⟩
          obtain ⟨x16, hx16⟩ : ∃ q, q = l.getD (k - 16) 0 := ⟨_, rfl⟩
          obtain ⟨x7, hx7⟩ : ∃ q, q = l.getD (k - 7) 0 := ⟨_, rfl⟩
          have hnext : x16 + Hs.s0 p + x7 + Hs.s1 q = Hs.next l l.length := by rw [hp, hq, hx16, hx7, hg.out.1]; rfl
          have c15 := h3.cell (Part.get (n := 64) (show k - 15 < l.length by rw [hg.out.1]; omega))
          have c2 := h3.cell (Part.get (n := 64) (show k - 2 < l.length by rw [hg.out.1]; omega))
          have c16 := h3.cell (Part.get (n := 64) (show k - 16 < l.length by rw [hg.out.1]; omega))
          have c7 := h3.cell (Part.get (n := 64) (show k - 7 < l.length by rw [hg.out.1]; omega))
          rw [← hp] at c15; rw [← hq] at c2; rw [← hx16] at c16; rw [← hx7] at c7
          obtain ⟨nx, hnx⟩ : ∃ nx, nx = Hs.next l l.length := ⟨_, rfl⟩
          rw [← hnx] at hnext
          have HN := Lib.hid hnext
          have HX := Lib.hid hnx
          clear hp hq hx16 hx7 hnext hnx
          have hs0 := s0_is p
          have hs1 := s1_is q
          have hsum := sum_is x16 (Hs.s0 p) x7 (Hs.s1 q)
          rw [HN.out] at hsum
          have bp := q32_bd p
          have bq := q32_bd q
          obtain ⟨u, hcell⟩ := Option.isSome_iff_exists.1 (h3.there1 (j := k) (by rw [Part.len (by rw [hg.out.1]; omega)]; omega))
          have hfr := h3.frz k
          have e15 : IntKind.i64.wrap ((k : Int) - 15) = (k : Int) - 15 := IntWalk.i64_in _ (by omega)
          have e2 : IntKind.i64.wrap ((k : Int) - 2) = (k : Int) - 2 := IntWalk.i64_in _ (by omega)
          have e16 : IntKind.i64.wrap ((k : Int) - 16) = (k : Int) - 16 := IntWalk.i64_in _ (by omega)
          have e7 : IntKind.i64.wrap ((k : Int) - 7) = (k : Int) - 7 := IntWalk.i64_in _ (by omega)
          have n15 : ((k : Int) - 15).toNat = k - 15 := by omega
          have n2 : ((k : Int) - 2).toNat = k - 2 := by omega
          have n16 : ((k : Int) - 16).toNat = k - 16 := by omega
          have n7 : ((k : Int) - 7).toNat = k - 7 := by omega
          have p15 : (0 : Int) ≤ (k : Int) - 15 := by omega
          have p2 : (0 : Int) ≤ (k : Int) - 2 := by omega
          have p16 : (0 : Int) ≤ (k : Int) - 16 := by omega
          have p7 : (0 : Int) ≤ (k : Int) - 7 := by omega
          have l15 : (k : Int) - 15 < 64 := by omega
          have l2 : (k : Int) - 2 < 64 := by omega
          have l16 : (k : Int) - 16 < 64 := by omega
          have l7 : (k : Int) - 7 < 64 := by omega
          have q15 : (15 : Int) ≤ (k : Int) := by omega
          have q2 : (2 : Int) ≤ (k : Int) := by omega
          have q16 : (16 : Int) ≤ (k : Int) := by omega
          have q7 : (7 : Int) ≤ (k : Int) := by omega
          have k0 : (0 : Int) ≤ (k : Int) := by omega
          have k64 : (k : Int) < 64 := by omega
          go_wp2
          go_quiet ((first
            | ((with_reducible refine (rrq _ _ 7 7 rfl (by decide) (by decide)).mono ?_); rintro e w' ⟨rfl, m, rfl⟩; exact ⟨rfl, _, World.drewN_drewN ..⟩)
            | ((with_reducible refine (rrq _ _ 18 18 rfl (by decide) (by decide)).mono ?_); rintro e w' ⟨rfl, m, rfl⟩; exact ⟨rfl, _, World.drewN_drewN ..⟩)))
          have h2q : Blk (wr.drewN nq) w.heap.size 101 (Part [] 64) := h2
          have h3q : Blk (wr.drewN nq) (w.heap.size + 1) 101 (Part l 64) := h3
          have hbq : Later w (wr.drewN nq) := ⟨hbr.os, hbr.tape, hbr.output, hbr.size, hbr.block⟩
          have c16q : (wr.drewN nq).cell? ⟨w.heap.size + 1, k - 16, none⟩ = some (.int .u32 (q32 x16)) := c16
          have c7q : (wr.drewN nq).cell? ⟨w.heap.size + 1, k - 7, none⟩ = some (.int .u32 (q32 x7)) := c7
          have c2q : (wr.drewN nq).cell? ⟨w.heap.size + 1, k - 2, none⟩ = some (.int .u32 (q32 q)) := c2
          have cuq : (wr.drewN nq).cell? ⟨w.heap.size + 1, k, none⟩ = some u := hcell
          have hfq : (wr.drewN nq).frozen? ⟨w.heap.size + 1, k, none⟩ = false := hfr
          clear h2 h3 hbr c16 c7 c15 c2 hcell hfr
          generalize wr.drewN nq = wq at h2q h3q hbq c16q c7q c2q cuq hfq ⊢
          go_wp2
          go_quiet ((first
            | ((with_reducible refine (rrq _ _ 17 17 rfl (by decide) (by decide)).mono ?_); rintro e w' ⟨rfl, m, rfl⟩; exact ⟨rfl, _, World.drewN_drewN ..⟩)
            | ((with_reducible refine (rrq _ _ 19 19 rfl (by decide) (by decide)).mono ?_); rintro e w' ⟨rfl, m, rfl⟩; exact ⟨rfl, _, World.drewN_drewN ..⟩)))
          have h2 : Blk (wq.drewN nq) w.heap.size 101 (Part [] 64) := h2q
          have h3 : Blk (wq.drewN nq) (w.heap.size + 1) 101 (Part l 64) := h3q
          have hbr : Later w (wq.drewN nq) := ⟨hbq.os, hbq.tape, hbq.output, hbq.size, hbq.block⟩
          have c16 : (wq.drewN nq).cell? ⟨w.heap.size + 1, k - 16, none⟩ = some (.int .u32 (q32 x16)) := c16q
          have c7 : (wq.drewN nq).cell? ⟨w.heap.size + 1, k - 7, none⟩ = some (.int .u32 (q32 x7)) := c7q
          have hcell : (wq.drewN nq).cell? ⟨w.heap.size + 1, k, none⟩ = some u := cuq
          have hfr : (wq.drewN nq).frozen? ⟨w.heap.size + 1, k, none⟩ = false := hfq
          clear h2q h3q hbq c16q c7q c2q cuq hfq
          generalize wq.drewN nq = wv at h2 h3 hbr c16 c7 hcell hfr ⊢
          go_wp2
          go_still_tail 15, (by kernel_rfl)
          change wpList _ _ _ _ _ wv.drew
          clear e15 e2 e16 e7 n15 n2 n16 n7 p15 p2 p16 p7 l15 l2 l16 l7 c16 c7
          go_wp2
          have hset := h3.drew.set k (.int .u32 (q32 nx))
          have hps : (Part l 64).set k (.int .u32 (q32 nx)) = Part (l ++ [nx]) 64 := by
            have h := Part.set (l := l) (n := 64) (by rw [hg.out.1]; omega) nx
            rwa [hg.out.1] at h
          rw [hps] at hset
          have h2' := h2.drew.set_other ⟨w.heap.size + 1, k, none⟩ (.int .u32 (q32 nx)) (by simp)
          have hbr2 : Later w (wv.drew.setCell ⟨w.heap.size + 1, k, none⟩ (.int .u32 (q32 nx))) := hbr.drew.setCell (by simp) _
          have hg2 : Hid ((l ++ [nx]).length = k + 1 ∧ Hs.grow (64 - (k + 1)) (l ++ [nx]) = Hs.words (bv b)) := by
            refine Lib.hid ⟨by rw [List.length_append, hg.out.1]; rfl, ?_⟩
            rw [← hg.out.2, show 64 - k = (64 - (k + 1)) + 1 by omega, HX.out]
            rfl
          clear hps h2 h3 hbr hcell hfr hs0 hs1 hsum
          go_roundw
          case rel => exact ⟨k + 1, l ++ [nx], by omega, by omega, by go_num, hg2, h2', hset, hbr2⟩
          case measure => simp [intOf]; omega
        · obtain rfl : k = 64 := by omega
          have hw : l = Hs.words (bv b) := hg.out.2
          have hpl : Part l 64 = W32 (Hs.words (bv b)) := by rw [Part.full hg.out.1, hw]
          rw [hpl] at h3
          clear hg hw hpl
          have hwl := Hs.words_len (bv b)
          have hsz2 : (Tryd.prog.info? 101).map (·.size) = some (W32 (Hs.words (bv b))).length := by rw [W32_len, hwl]; kernel_rfl
          have hone := W32_one (Hs.words (bv b))
          have hlen : (Part [] 64).length = (W32 (Hs.words (bv b))).length := by rw [W32_len, hwl]; rfl
          obtain ⟨R, hR⟩ : ∃ R, R = W32 (Hs.words (bv b)) := ⟨_, rfl⟩
          rw [← hR] at h3 hsz2 hone hlen
          have HR := Lib.hid hR
          have HON := Lib.hid hone
          have HLE := Lib.hid hlen
          clear hone hlen hwl hR
          go_wp2_with (first
            | ((with_reducible refine wpList_load_blk (o := ⟨some 100, .load 101 (.tmp 3), _, _, _, none⟩) rfl _ _ rfl (w.heap.size + 1) _ R _ ?_ h3 Tryd.underlying101 rfl hsz2 ?_); rfl)
            | ((with_reducible refine wpList_store_blk (o := ⟨none, .store 101 (.tmp 2) (.tmp 100), _, _, _, none⟩) rfl _ _ _ rfl w.heap.size _ _ R ?_ ?_ h2 hsz2 HLE.out HON.out ?_); rfl; rfl))
          exact bodyPost_ret (v := .agg R.toArray) (results_blk Tryd.results61 _ _ w.heap.size _ R _ rfl (h2.row R) Tryd.underlying101 rfl hsz2) rfl ⟨by rw [HR.out], below_setRow hbr (Nat.le_refl _) _⟩
end Go.Proofs.YtoigpokmlohhkaaDoor
