/-
  THE WALK OF hash.compress: the hash value after a block.
-/
import Derived.Test.YtoigpokmlohhkaaDoorHashF
import Derived.Lib.LaidTab
namespace Go.Proofs.YtoigpokmlohhkaaDoor
open Go.RowKit

/-- THE ROUND CONSTANTS lie in the package's variable. -/
def Tab (w : World) : Prop := ∀ j, j < 64 → w.cell? ⟨1, j, none⟩ = some (.int .u32 (q32 (Hs.K.getD j 0)))
/-- The variables a to h, as cells. -/
def StV (s : Hs.St) : List Value := W32 s.list

theorem mod_sum (a b c d e : Hs.W) : ((q32 a + q32 b + q32 c + q32 d) % 4294967296 + q32 e) % 4294967296 = q32 (a + b + c + d + e) := by
  unfold q32
  simp only [BitVec.toNat_add]
  omega
theorem mod_sum2 (a b : Hs.W) : (q32 a + q32 b) % 4294967296 = q32 (a + b) := by
  unfold q32
  simp only [BitVec.toNat_add]
  omega
theorem tx_is (s : Hs.St) (k w : Hs.W) :
    ((q32 s.h + bits .xor .u32 (bits .xor .u32 (q32 (Hs.rotr s.e 6)) (q32 (Hs.rotr s.e 11))) (q32 (Hs.rotr s.e 25)) + bits .xor .u32 (bits .and .u32 (q32 s.e) (q32 s.f)) (bits .and .u32 (bits .xor .u32 (if IntKind.u32.signed = true then -1 else IntKind.u32.max) (q32 s.e)) (q32 s.g)) + q32 k) % 4294967296 + q32 w) % 4294967296 = q32 (Hs.tx s k w) := by
  rw [if_neg (by decide), show IntKind.u32.max = 4294967295 from rfl, not32', xor32, xor32, and32, and32, xor32, mod_sum]; rfl
theorem ty_is (s : Hs.St) :
    (bits .xor .u32 (bits .xor .u32 (q32 (Hs.rotr s.a 2)) (q32 (Hs.rotr s.a 13))) (q32 (Hs.rotr s.a 22)) + bits .xor .u32 (bits .xor .u32 (bits .and .u32 (q32 s.a) (q32 s.b)) (bits .and .u32 (q32 s.a) (q32 s.c))) (bits .and .u32 (q32 s.b) (q32 s.c))) % 4294967296 = q32 (Hs.ty s) := by
  rw [xor32, xor32, and32, and32, and32, xor32, xor32, mod_sum2]; rfl
/-- Cells of a sum, so far. -/
def Sofar (s st : Hs.St) (i : Nat) : List Value := ((StV (s.add st)).take i) ++ ((StV s).drop i)
theorem Sofar.get (s st : Hs.St) (k : Nat) (h : k < 8) : (Sofar s st k)[k]? = some (.int .u32 (q32 (s.list.getD k 0))) := by
  obtain rfl | rfl | rfl | rfl | rfl | rfl | rfl | rfl : k = 0 ∨ k = 1 ∨ k = 2 ∨ k = 3 ∨ k = 4 ∨ k = 5 ∨ k = 6 ∨ k = 7 := by omega
  all_goals rfl
theorem Sofar.set (s st : Hs.St) (k : Nat) (h : k < 8) : (Sofar s st k).set k (.int .u32 (q32 (s.list.getD k 0 + st.list.getD k 0))) = Sofar s st (k + 1) := by
  obtain rfl | rfl | rfl | rfl | rfl | rfl | rfl | rfl : k = 0 ∨ k = 1 ∨ k = 2 ∨ k = 3 ∨ k = 4 ∨ k = 5 ∨ k = 6 ∨ k = 7 := by omega
  all_goals rfl
theorem run_index_agg {P : Program} (w : World) (t e : TypeId) (n : Nat) (cs : Array Value) (k kk : IntKind) (i : Int) (h : P.underlying t = some (.array n e)) (he : P.underlying e = some (.int kk)) (hi : (P.info? e).map (·.size) = some 1)
    (h0 : 0 ≤ i) (h1 : i < (n : Int)) (v : Value) (hv : cs[i.toNat]? = some v) : (Instr.index t (.agg cs) (.int k i)).run P w = .ok v w := by
  cases hq : P.info? e with
  | none => simp [hq] at hi
  | some inf =>
    have hs : inf.size = 1 := by simpa [hq] using hi
    have hagg : (isAgg e).run P w = .ok false w := by
      unfold isAgg
      rw [Sem.run_bind, run_underlying he w]
      rfl
    simp [Instr.index, run_underlying h, asIntOf, h0, h1, sizeOf, typeInfo, hq, hs, part, Sem.run_bind, hagg, hv]

theorem Tab.keep {w w' : World} (h : Tab w) (hb : Later w w') : Tab w' := fun j hj => by
  have hc := h j hj
  rw [hb.cell (World.block_lt_of_cell? w _ hc)]; exact hc
theorem Tab.lt {w : World} (h : Tab w) : 1 < w.heap.size := World.block_lt_of_cell? w _ (h 0 (by decide))
theorem StV_one (s : Hs.St) : ∀ v ∈ StV s, v.oneCell' = true := W32_one _
theorem StV_len (s : Hs.St) : (StV s).length = 8 := rfl

theorem rq (x : Hs.W) (w : World) (n : Nat) (z : Int) (hz : z = (n : Int)) (h0 : 1 ≤ n) (h1 : n ≤ 31) :
    Calls Tryd.prog 92 #[.int .u32 (q32 x), .int .i64 z] w fun e w' => e = .returned (.int .u32 (q32 (Hs.rotr x n))) ∧ w' = w := by
  subst hz
  exact (rotr_any x n w h0 h1).mono fun _ _ h => ⟨h.1, h.2.symm⟩

set_option maxRecDepth 100000 in
set_option maxHeartbeats 4000000 in
theorem compress_any (s : Hs.St) (b : Wm.Bs) (w : World) (hb : Wm.isBs b) (hl : b.length = 64) (ht : Tab w) :
    Calls Tryd.prog 64 #[.agg (StV s).toArray, .agg (U b).toArray] w fun e w' => e = .returned (.agg (StV (Hs.compress s (bv b))).toArray) ∧ Later w w' := by
  have hUl : (U b).length = 64 := by rw [U_length, hl]
  have hsz : (Tryd.prog.info? 40).map (·.size) = some (U b).length := by rw [hUl]; kernel_rfl
  obtain ⟨C, hC⟩ : ∃ C, C = U b := ⟨_, rfl⟩
  have HS := Lib.hid (schedule_any b · hb hl)
  rw [← hC] at hUl hsz HS ⊢
  have HC := Lib.hid hC; clear hC
  have HU := Lib.hid hUl; clear hUl
  have HL := Lib.hid hl; clear hl
  obtain ⟨V, hV⟩ : ∃ V, V = StV s := ⟨_, rfl⟩
  have hszV : (Tryd.prog.info? 39).map (·.size) = some V.length := by rw [hV]; kernel_rfl
  rw [← hV]
  have HV := Lib.hid hV; clear hV
  go_enter Tryd.func64, Tryd.ntmps64
  have hu64 := Tryd.underlying40
  have hu32 := Tryd.underlying101
  have HU64 := Lib.hid hu64
  have HU32 := Lib.hid hu32
  clear hu64 hu32
  obtain ⟨R, hR⟩ : ∃ R, R = W32 (Hs.words (bv b)) := ⟨_, rfl⟩
  have hR2 : R = Part (Hs.words (bv b)) 64 := by rw [hR, Part.full (Hs.words_len _)]
  have hRl : R.length = 64 := by rw [hR, W32_len, Hs.words_len]
  have hszR : (Tryd.prog.info? 101).map (·.size) = some R.length := by rw [hRl]; kernel_rfl
  have hR1 : ∀ v ∈ R, v.oneCell' = true := by rw [hR]; exact W32_one _
  rw [← hR] at HS
  have HR1 := Lib.hid hR1
  have HR2 := Lib.hid hR2
  have HRl := Lib.hid hRl
  have HZ : Hid ((Part [] 64).length = R.length) := by rw [HRl.out]; exact Lib.hid rfl
  clear hR hR1 hRl hR2
  go_wp2_with (first
    | ((with_reducible refine wpList_load_blk (o := ⟨some 19, .load 40 (.tmp 3), _, _, _, none⟩) rfl _ _ rfl (w.heap.size + 1) 40 C _ ?_ ?_ HU64.out rfl hsz ?_); rfl; exact (Blk.new' _ _ _ _ _ (by simp) rfl).alloc _)
    | (go_at_call 91; refine (HS.out _).mono ?_; rintro e w1 ⟨rfl, hl1⟩)
    | ((with_reducible refine wpList_store_abs (o := ⟨none, .store 101 (.tmp 5) (.tmp 20), _, _, _, none⟩) rfl _ _ _ rfl w1.heap.size 101 (Part [] 64) R ?_ ?_ ?_ hszR HZ.out HR1.out ?_); rfl; rfl; exact Blk.new _ _ _ _ rfl; intro w2 f3 ho2))
  have hs1 := hl1.size
  simp only [World.size_alloc] at hs1
  have f4 : Later w w2 := Below.only ((((((Below.refl _ _).alloc (Nat.le_refl _) _).alloc (by simp) _).alloc (by simp; omega) _).trans (hl1.mono (by simp; omega))).alloc (by omega) _) ho2 (by omega)
  have f1 : Blk w2 w.heap.size 39 V := (((((Blk.new w _ _ _ rfl).alloc _).alloc _).keep hl1).alloc _).only ho2 (by omega)
  have f2 : Blk w2 (w.heap.size + 1 + 1) 39 (Part [] 8) := (((Blk.new' _ _ _ _ _ (by simp) rfl).keep hl1).alloc _).only ho2 (by omega)
  have f5 := ht.keep f4
  clear ht ho2 hl1 HS
  have c0 := f1.cell (j := 0) (v := .int .u32 (q32 s.a)) (by rw [HV.out]; rfl)
  have c1 := f1.cell (j := 1) (v := .int .u32 (q32 s.b)) (by rw [HV.out]; rfl)
  have c2 := f1.cell (j := 2) (v := .int .u32 (q32 s.c)) (by rw [HV.out]; rfl)
  have c3 := f1.cell (j := 3) (v := .int .u32 (q32 s.d)) (by rw [HV.out]; rfl)
  have c4 := f1.cell (j := 4) (v := .int .u32 (q32 s.e)) (by rw [HV.out]; rfl)
  have c5 := f1.cell (j := 5) (v := .int .u32 (q32 s.f)) (by rw [HV.out]; rfl)
  have c6 := f1.cell (j := 6) (v := .int .u32 (q32 s.g)) (by rw [HV.out]; rfl)
  have c7 := f1.cell (j := 7) (v := .int .u32 (q32 s.h)) (by rw [HV.out]; rfl)
  go_quiet (fail)
  clear c0 c1 c2 c3 c4 c5 c6 c7
  have g1 : Blk (w2.drewN nq) w.heap.size 39 V := f1
  have g2 : Blk (w2.drewN nq) (w.heap.size + 1 + 1) 39 (Part [] 8) := f2
  have g3 : Blk (w2.drewN nq) w1.heap.size 101 R := f3
  have g4 : Later w (w2.drewN nq) := ⟨f4.os, f4.tape, f4.output, f4.size, f4.block⟩
  have g5 : Tab (w2.drewN nq) := f5
  clear f1 f2 f3 f4 f5
  generalize w2.drewN nq = w3 at g1 g2 g3 g4 g5 ⊢
  go_wp2
  go_loopw [6, 7, 8, 9, 10, 11, 12, 13, 37] (fun a b' c d e f g h i wr => ∃ (k : Nat) (st : Hs.St), k ≤ 64 ∧ i = .int .i64 k ∧ a = .int .u32 (q32 st.a) ∧ b' = .int .u32 (q32 st.b) ∧ c = .int .u32 (q32 st.c) ∧ d = .int .u32 (q32 st.d) ∧ e = .int .u32 (q32 st.e) ∧ f = .int .u32 (q32 st.f) ∧ g = .int .u32 (q32 st.g) ∧ h = .int .u32 (q32 st.h) ∧
      Hid (Hs.rounds (Hs.words (bv b)) (64 - k) k st = Hs.rounds (Hs.words (bv b)) 64 0 s) ∧ Blk wr w.heap.size 39 V ∧ Blk wr (w.heap.size + 1 + 1) 39 (Part [] 8) ∧ Blk wr w1.heap.size 101 R ∧ Later w wr ∧ Tab wr) (fun _ _ _ _ _ _ _ _ i _ => 64 - (intOf i).toNat)
  case atStart => exact ⟨0, s, by omega, rfl, rfl, rfl, rfl, rfl, rfl, rfl, rfl, rfl, Lib.hid rfl, g1, g2, g3, g4, g5⟩
  case round =>
    clear g1 g2 g3 g4 g5
    rename_i wr
    obtain ⟨k, st, hk, rfl, rfl, rfl, rfl, rfl, rfl, rfl, rfl, rfl, hr, g1, g2, g3, g4, g5⟩ := hrel
    by_cases hlt : k < 64
    · obtain ⟨kk, hkk⟩ : ∃ kk, kk = Hs.K.getD k 0 := ⟨_, rfl⟩
      obtain ⟨ww, hww⟩ : ∃ ww, ww = (Hs.words (bv b)).getD k 0 := ⟨_, rfl⟩
      have ck := g5 k hlt
      have cw := g3.cell (j := k) (v := .int .u32 (q32 ((Hs.words (bv b)).getD k 0))) (by rw [HR2.out]; exact Part.get (by rw [Hs.words_len]; exact hlt))
      rw [← hkk] at ck
      rw [← hww] at cw
      have HKK := Lib.hid hkk
      have HWW := Lib.hid hww
      clear hkk hww
      have be := q32_bd st.e
      have k0 : (0 : Int) ≤ (k : Int) := by omega
      have k64 : (k : Int) < 64 := by omega
      go_wp2
      go_quiet ((first | ((with_reducible refine (rq _ _ 6 6 rfl (by decide) (by decide)).mono ?_); rintro e w' ⟨rfl, rfl⟩; exact ⟨rfl, _, rfl⟩) | ((with_reducible refine (rq _ _ 11 11 rfl (by decide) (by decide)).mono ?_); rintro e w' ⟨rfl, rfl⟩; exact ⟨rfl, _, rfl⟩) | ((with_reducible refine (rq _ _ 25 25 rfl (by decide) (by decide)).mono ?_); rintro e w' ⟨rfl, rfl⟩; exact ⟨rfl, _, rfl⟩)))
      rw [tx_is st kk ww]
      have g1' : Blk (wr.drewN nq) w.heap.size 39 V := g1
      have g2' : Blk (wr.drewN nq) (w.heap.size + 1 + 1) 39 (Part [] 8) := g2
      have g3' : Blk (wr.drewN nq) w1.heap.size 101 R := g3
      have g4' : Later w (wr.drewN nq) := ⟨g4.os, g4.tape, g4.output, g4.size, g4.block⟩
      have g5' : Tab (wr.drewN nq) := g5
      clear g1 g2 g3 g4 g5 ck cw
      generalize wr.drewN nq = wq at g1' g2' g3' g4' g5' ⊢
      go_wp2_with (first
        | ((with_reducible refine (rq _ _ 2 2 rfl (by decide) (by decide)).mono ?_); rintro e w' ⟨rfl, rfl⟩)
        | ((with_reducible refine (rq _ _ 13 13 rfl (by decide) (by decide)).mono ?_); rintro e w' ⟨rfl, rfl⟩)
        | ((with_reducible refine (rq _ _ 22 22 rfl (by decide) (by decide)).mono ?_); rintro e w' ⟨rfl, rfl⟩))
      have hr2 : Hid (Hs.rounds (Hs.words (bv b)) (64 - (k + 1)) (k + 1) (Hs.round st kk ww) = Hs.rounds (Hs.words (bv b)) 64 0 s) := by
        refine Lib.hid ?_
        rw [← hr.out, show 64 - k = (64 - (k + 1)) + 1 by omega, HKK.out, HWW.out]
        rfl
      go_roundw
      case rel => exact ⟨k + 1, Hs.round st kk ww, by omega, by go_num, by rw [ty_is, mod_sum2]; rfl, rfl, rfl, rfl, by rw [mod_sum2]; rfl, rfl, rfl, rfl, hr2, g1', g2', g3', g4', g5'⟩
      case measure => simp [intOf]; omega
    · obtain rfl : k = 64 := by omega
      have hst : st = Hs.rounds (Hs.words (bv b)) 64 0 s := hr.out
      have HST := Lib.hid hst
      rw [HV.out] at g1
      clear hr hst g3 g5
      rw [show ((64 : Nat) : Int) = 64 from rfl]
      go_wp2
      go_loopw [109] (fun i wr => ∃ k : Nat, k ≤ 8 ∧ i = .int .i64 k ∧ Blk wr w.heap.size 39 (Sofar s st k) ∧ Blk wr (w.heap.size + 1 + 1) 39 (Part [] 8) ∧ Later w wr) (fun i _ => 8 - (intOf i).toNat)
      case atStart => exact ⟨0, by omega, rfl, g1, g2, g4⟩
      case round =>
        clear g1 g2 g4
        rename_i wr
        obtain ⟨k, hk, rfl, g1, g2, g4⟩ := hrel
        by_cases hlt : k < 8
        · obtain ⟨x, hx⟩ : ∃ x, x = s.list.getD k 0 := ⟨_, rfl⟩
          obtain ⟨y, hy⟩ : ∃ y, y = st.list.getD k 0 := ⟨_, rfl⟩
          have c := g1.cell (Sofar.get s st k hlt)
          have fz := g1.frz k
          have hset := g1.set k (.int .u32 (q32 (s.list.getD k 0 + st.list.getD k 0)))
          rw [Sofar.set s st k hlt, ← hx, ← hy] at hset
          rw [← hx] at c
          have hidx := run_index_agg (P := Tryd.prog) wr 39 38 8 #[.int .u32 (q32 st.a), .int .u32 (q32 st.b), .int .u32 (q32 st.c), .int .u32 (q32 st.d), .int .u32 (q32 st.e), .int .u32 (q32 st.f), .int .u32 (q32 st.g), .int .u32 (q32 st.h)] .i64 .u32 (k : Int) Tryd.underlying39 Tryd.underlying38 (by kernel_rfl) (by omega) (by omega) (.int .u32 (q32 y)) (by
            rw [hy, Int.toNat_natCast]
            have := W32_get st.list k (by show k < 8; exact hlt)
            simpa [W32, Hs.St.list] using this)
          have hsum := mod_sum2 x y
          have h2 := g2.set_other ⟨w.heap.size, k, none⟩ (.int .u32 (q32 (x + y))) (by simp; omega)
          have h4 : Later w (wr.setCell ⟨w.heap.size, k, none⟩ (.int .u32 (q32 (x + y)))) := g4.setCell (Nat.le_refl _) _
          have k0 : (0 : Int) ≤ (k : Int) := by omega
          have k8 : (k : Int) < 8 := by omega
          clear g1 g2 g4 hx hy
          go_wp2
          go_roundw
          case rel => exact ⟨k + 1, by omega, by go_num, hset, h2, h4⟩
          case measure => simp [intOf]; omega
        · obtain rfl : k = 8 := by omega
          have hfin : Sofar s st 8 = StV (Hs.compress s (bv b)) := by
            unfold Hs.compress
            rw [← HST.out]; rfl
          rw [hfin] at g1
          clear hfin
          obtain ⟨F, hF⟩ : ∃ F, F = StV (Hs.compress s (bv b)) := ⟨_, rfl⟩
          have hszF : (Tryd.prog.info? 39).map (·.size) = some F.length := by rw [hF, StV_len]; kernel_rfl
          have hF1 : ∀ v ∈ F, v.oneCell' = true := by rw [hF]; exact StV_one _
          have hFl : (Part [] 8).length = F.length := by rw [hF, StV_len]; rfl
          rw [← hF] at g1
          have HF := Lib.hid hF
          have HF1 := Lib.hid hF1
          have HFl := Lib.hid hFl
          have hu8 := Tryd.underlying39
          have HU8 := Lib.hid hu8
          clear hF hF1 hFl hu8
          go_wp2_with (first
            | ((with_reducible refine wpList_load_blk (o := ⟨some 120, .load 39 (.tmp 2), _, _, _, none⟩) rfl _ _ rfl w.heap.size 39 F _ ?_ g1 HU8.out rfl hszF ?_); rfl)
            | ((with_reducible refine wpList_store_abs (o := ⟨none, .store 39 (.tmp 4) (.tmp 120), _, _, _, none⟩) rfl _ _ _ rfl (w.heap.size + 1 + 1) 39 (Part [] 8) F ?_ ?_ g2 hszF HFl.out HF1.out ?_); rfl; rfl; intro w5 k1 k2))
          exact bodyPost_ret (v := .agg F.toArray) (results_blk Tryd.results64 _ _ (w.heap.size + 1 + 1) _ F _ rfl k1 HU8.out rfl hszF) rfl ⟨by rw [HF.out], Below.only g4 k2 (by omega)⟩
end Go.Proofs.YtoigpokmlohhkaaDoor
