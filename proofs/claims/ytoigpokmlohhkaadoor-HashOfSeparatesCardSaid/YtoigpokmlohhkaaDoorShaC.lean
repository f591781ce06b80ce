/-
  THE WALK OF the reference's Sum: the hash by its definition.
-/
import Derived.Test.YtoigpokmlohhkaaDoorShaA
import Derived.Test.YtoigpokmlohhkaaDoorShaB
namespace Go.Proofs.YtoigpokmlohhkaaDoor
open Go.RowKit

/-- THE REFERENCE'S CONSTANTS lie in its variable. -/
def Tab0 (w : World) : Prop := ∀ j, j < 64 → w.cell? ⟨0, j, none⟩ = some (.int .u32 (q32 (Hs.K.getD j 0)))
theorem Tab0.keep {w w' : World} (h : Tab0 w) (hb : Later w w') : Tab0 w' := fun j hj => by
  have hc := h j hj
  rw [hb.cell (World.block_lt_of_cell? w _ hc)]; exact hc
theorem Sl.only {w w' : World} {size n g : Nat} {ad : Addr} {xs : List Value} (h : Sl w size (some ad) n xs) (ho : Only g w w') (hne : ad.block ≠ g) : Sl w' size (some ad) n xs := by
  refine ⟨h.1, fun hn => ?_⟩
  obtain ⟨ad', e, hl, hc⟩ := h.2 hn
  cases e
  refine ⟨_, rfl, by rw [ho.size]; exact hl, fun j u hu => ?_⟩
  have h1 := hc j u hu
  unfold World.cell? at h1 ⊢
  rw [addr_add_block] at h1 ⊢
  rw [ho.2.2.2.2 _ hne]
  exact h1

theorem refTx_is (s : Hs.St) (k w : Hs.W) :
    ((q32 s.h + bits .xor .u32 (bits .xor .u32 (q32 (Hs.rotr s.e 6)) (q32 (Hs.rotr s.e 11))) (q32 (Hs.rotr s.e 25)) + bits .xor .u32 (bits .and .u32 (q32 s.e) (q32 s.f)) (bits .and .u32 (bits .xor .u32 (q32 s.e) 4294967295) (q32 s.g)) + q32 k) % 4294967296 + q32 w) % 4294967296 = q32 (Hs.tx s k w) := by
  have h := tx_is s k w
  rw [if_neg (by decide), show IntKind.u32.max = 4294967295 from rfl, not32'] at h
  rw [not32]
  exact h

set_option maxRecDepth 100000 in
set_option maxHeartbeats 4000000 in
theorem refSum_any (A : Option Addr) (n c : Nat) (b : Wm.Bs) (w : World) (hs : Sl w 1 A n (U b)) (hb : Wm.isBs b) (hn : n ≤ 100000) (tab : Tab0 w) :
    Calls Tryd.prog 22 #[.slice A n c] w fun e w' => e = .returned (.agg (shaC b).toArray) ∧ Later w w' := by
  obtain ⟨P, hP⟩ : ∃ P, P = iv8 (Hs.pad (bv b)) := ⟨_, rfl⟩
  obtain ⟨N, hN⟩ : ∃ N, N = ((bv b).length + 72) / 64 := ⟨_, rfl⟩
  have hPl : P.length = 64 * N := by rw [hP, iv8_len, Hs.pad_len, hN]
  have hNb : N ≤ 1564 := by rw [hN, bv_len, hs.blen]; omega
  have hPb : Wm.isBs P := by rw [hP]; exact iv8_bs _
  have hN1 : 1 ≤ N := by rw [hN]; omega
  have hfin : Hs.blocks (N - 0) Hs.iv ((bv P).drop (64 * 0)) = Hs.final (bv b) := by
    rw [hP, bv_iv8, hN]; rfl
  have HPD := Lib.hid fun (w' : World) (hl : Later w w') => by have h := refPadded_any A n c b w' (hs.keep hl) hb hn; rw [← hP] at h; exact h
  have HPL := Lib.hid hPl
  have HFIN := Lib.hid hfin
  have HLB := Lib.hid hs.blen
  clear hP hN hPl hfin hs
  go_enter Tryd.func22, Tryd.ntmps22
  go_wp2_with (go_at_call 60; refine (HPD.out _ (((Below.refl _ _).alloc (Nat.le_refl _) _).alloc (by simp) _)).mono ?_; rintro e w1 ⟨v1, rfl, ho1, hl1⟩)
  rw [HPL.out] at ho1
  obtain ⟨L, hL⟩ : ∃ L, L = 64 * N := ⟨_, rfl⟩
  have hL1 : L ≤ 64 * N := by omega
  have hL2 : 64 * N ≤ L := by omega
  rw [← hL] at ho1
  clear hL
  obtain ⟨X, cx, rfl, hx1, hx2, hx3, hx4⟩ := own_form ho1
  obtain ⟨ad, rfl, hadl, _⟩ := hx3.2 (by omega)
  have hadb := (hx4 ad rfl).1
  simp only [World.size_alloc] at hadb
  clear hx4 ho1
  have f0 : Blk w1 w.heap.size 35 (PartB [] 32) := ((Blk.new w _ _ _ rfl).alloc _).keep hl1
  have f1 : Blk w1 (w.heap.size + 1) 39 (StV Hs.iv) := (Blk.new' _ _ _ _ _ (by simp) rfl).keep hl1
  have f2 : Later w w1 := Later.trans_ (((Below.refl _ _).alloc (Nat.le_refl _) _).alloc (by simp) _) hl1
  clear hl1
  unfold maxLen at hx2
  go_loopw [5] (fun i wr => ∃ (j : Nat) (s : Hs.St), j ≤ N ∧ i = .int .i64 (64 * (j : Int)) ∧ Hid (Hs.blocks (N - j) s ((bv P).drop (64 * j)) = Hs.final (bv b)) ∧ Blk wr w.heap.size 35 (PartB [] 32) ∧ Blk wr (w.heap.size + 1) 39 (StV s) ∧ Sl wr 1 (some ad) L (U P) ∧ Later w wr) (fun i _ => 64 * N - (intOf i).toNat)
  case atStart => exact ⟨0, Hs.iv, Nat.zero_le _, rfl, HFIN, f0, f1, hx3, f2⟩
  case round =>
    clear f0 f1 f2 hx3 hadl
    obtain ⟨j, s, hj, rfl, HR, f0, f1, f3, f2⟩ := hrel
    by_cases hlt : j < N
    · have hcast : (64 * (j : Int)).toNat = 64 * j := by omega
      have hcast2 : (64 * (j : Int) + 64).toNat = 64 * j + 64 := by omega
      have hne : ¬ cx = 64 * j := by omega
      obtain ⟨B, hB⟩ : ∃ B, B = (P.drop (64 * j)).take 64 := ⟨_, rfl⟩
      have hBb : Wm.isBs B := by rw [hB]; exact bs_take (bs_drop hPb _) _
      have hsl : ∀ w', Later wr w' → Sl w' 1 (some (ad.add (64 * j))) 64 (U B) := fun w' hl => by
        have h1 := ((f3.keep hl).cutB (k := 64 * j) (cap := cx) (by omega) (by omega) hne).frontB (k := 64) (by omega)
        rw [← hB] at h1; exact h1
      obtain ⟨WS, hWS⟩ : ∃ WS, WS = Hs.words (bv B) := ⟨_, rfl⟩
      obtain ⟨R, hR⟩ : ∃ R, R = W32 WS := ⟨_, rfl⟩
      have hWl : WS.length = 64 := by rw [hWS]; exact Hs.words_len _
      have hR2 : R = Part WS 64 := by rw [hR, Part.full hWl]
      have hRl : R.length = 64 := by rw [hR, W32_len, hWl]
      have hszR : (Tryd.prog.info? 101).map (·.size) = some R.length := by rw [hRl]; kernel_rfl
      have hR1 : ∀ v ∈ R, v.oneCell' = true := by rw [hR]; exact W32_one _
      have HSC := Lib.hid fun c' => by have h := refSchedule_any (some (ad.add (64 * j))) c' B wr (hsl wr (Below.refl _ _)) hBb; rw [← hWS, ← hR] at h; exact h
      have HBB := Lib.hid hB; have HWS := Lib.hid hWS; have HWL := Lib.hid hWl; have HR1 := Lib.hid hR1; have HR2 := Lib.hid hR2; have HRl := Lib.hid hRl
      have HZ : Hid ((Part [] 64).length = R.length) := by rw [HRl.out]; exact Lib.hid rfl
      clear hB hsl hWS hR hWl hR2 hRl hR1
      have hu8 := Tryd.underlying39
      have HU8 := Lib.hid hu8
      obtain ⟨V, hV⟩ : ∃ V, V = StV s := ⟨_, rfl⟩
      have hszV : (Tryd.prog.info? 39).map (·.size) = some V.length := by rw [hV, StV_len]; kernel_rfl
      have hV1 : ∀ v ∈ V, v.oneCell' = true := by rw [hV]; exact StV_one _
      have hVl : (Part [] 8).length = V.length := by rw [hV, StV_len]; rfl
      rw [← hV] at f1
      have HV := Lib.hid hV; have HV1 := Lib.hid hV1; have HVL := Lib.hid hVl
      clear hu8 hV hV1 hVl
      go_wp2_with (first
        | (go_at_call 61; (with_reducible refine (HSC.out _).mono ?_); rintro e w2 ⟨rfl, l2⟩)
        | ((with_reducible refine wpList_store_abs (o := ⟨none, .store 101 (.tmp 6) (.tmp 28), _, _, _, none⟩) rfl _ _ _ rfl w2.heap.size 101 (Part [] 64) R ?_ ?_ ?_ hszR HZ.out HR1.out ?_); rfl; rfl; exact Blk.new _ _ _ _ rfl; intro w3 g6 o3)
        | ((with_reducible refine wpList_load_blk (o := ⟨some 29, .load 39 (.tmp 3), _, _, _, none⟩) rfl _ _ rfl (w.heap.size + 1) 39 V _ ?_ (((f1.keep l2).alloc _).only o3 (Nat.ne_of_lt (f1.keep l2).lt)) HU8.out rfl hszV ?_); rfl)
        | ((with_reducible refine wpList_store_abs (o := ⟨none, .store 39 (.tmp 7) (.tmp 29), _, _, _, none⟩) rfl _ _ _ rfl w3.heap.size 39 (Part [] 8) V ?_ ?_ ?_ hszV HVL.out HV1.out ?_); rfl; rfl; exact Blk.new _ _ _ _ rfl; intro w4 g7 o4))
      have n1 := f1.lt
      have n2 := l2.size
      have n3 := o3.size
      have n4 := o4.size
      have n5 := (f3.2 (by omega))
      obtain ⟨ad', e', n6, _⟩ := n5
      cases e'
      simp only [World.size_alloc] at n3 n4
      have k0 : Blk w4 w.heap.size 35 (PartB [] 32) := ((((f0.keep l2).alloc _).only o3 (by omega)).alloc _).only o4 (by omega)
      have k1 : Blk w4 (w.heap.size + 1) 39 V := ((((f1.keep l2).alloc _).only o3 (by omega)).alloc _).only o4 (by omega)
      have k3 : Sl w4 1 (some ad) L (U P) := ((((f3.keep l2).alloc _).only o3 (by omega)).alloc _).only o4 (by omega)
      have k6 : Blk w4 w2.heap.size 101 R := (g6.alloc _).only o4 (by omega)
      have k2 : Later w w4 := Below.only ((Below.only ((Later.trans_ f2 l2).alloc (by omega) _) o3 (by omega)).alloc (by omega) _) o4 (by omega)
      obtain ⟨B6, hB6⟩ : ∃ B6, B6 = w2.heap.size := ⟨_, rfl⟩
      obtain ⟨B7, hB7⟩ : ∃ B7, B7 = w3.heap.size := ⟨_, rfl⟩
      rw [← hB6] at k6 ⊢
      rw [← hB7] at g7 ⊢
      have m1 : w.heap.size + 1 < B6 := by omega
      have m2 : B6 < B7 := by omega
      have m3 : ad.block < B6 := by omega
      rw [HV.out] at g7
      clear f0 f1 f2 f3 g6 o3 o4 l2 n1 n2 n3 n4 n6 hB6 hB7 HSC
      go_loopw [8] (fun i wq => ∃ (k : Nat) (st : Hs.St), k ≤ 64 ∧ i = .int .i64 k ∧ Hid (Hs.rounds WS (64 - k) k st = Hs.rounds WS 64 0 s) ∧ Blk wq B7 39 (StV st) ∧ Blk wq B6 101 R ∧ Blk wq w.heap.size 35 (PartB [] 32) ∧ Blk wq (w.heap.size + 1) 39 V ∧ Sl wq 1 (some ad) L (U P) ∧ Later w wq) (fun i _ => 64 - (intOf i).toNat)
      case atStart => exact ⟨0, s, by omega, rfl, Lib.hid rfl, g7, k6, k0, k1, k3, k2⟩
      case round =>
        clear g7 k6 k0 k1 k3 k2
        rename_i wr0
        obtain ⟨k, st, hk, rfl, HRd, g7, k6, k0, k1, k3, k2⟩ := hrel
        by_cases hlt2 : k < 64
        · obtain ⟨kk, hkk⟩ : ∃ kk, kk = Hs.K.getD k 0 := ⟨_, rfl⟩
          obtain ⟨ww, hww⟩ : ∃ ww, ww = WS.getD k 0 := ⟨_, rfl⟩
          have ck := (tab.keep k2) k hlt2
          have cw := k6.cell (j := k) (v := .int .u32 (q32 (WS.getD k 0))) (by rw [HR2.out]; exact Part.get (by rw [HWL.out]; exact hlt2))
          rw [← hkk] at ck
          rw [← hww] at cw
          have HKK := Lib.hid hkk
          have HWW := Lib.hid hww
          clear hkk hww
          have c0 := g7.cell (j := 0) (v := .int .u32 (q32 st.a)) rfl
          have c1 := g7.cell (j := 1) (v := .int .u32 (q32 st.b)) rfl
          have c2 := g7.cell (j := 2) (v := .int .u32 (q32 st.c)) rfl
          have c3 := g7.cell (j := 3) (v := .int .u32 (q32 st.d)) rfl
          have c4 := g7.cell (j := 4) (v := .int .u32 (q32 st.e)) rfl
          have c5 := g7.cell (j := 5) (v := .int .u32 (q32 st.f)) rfl
          have c6 := g7.cell (j := 6) (v := .int .u32 (q32 st.g)) rfl
          have c7 := g7.cell (j := 7) (v := .int .u32 (q32 st.h)) rfl
          have be := q32_bd st.e
          have q0 : (0 : Int) ≤ (k : Int) := by omega
          have q64' : (k : Int) < 64 := by omega
          go_wp2
          go_quiet ((first
            | ((with_reducible refine (rrq _ _ 6 6 rfl (by decide) (by decide)).mono ?_); rintro e w' ⟨rfl, m, rfl⟩; exact ⟨rfl, _, World.drewN_drewN ..⟩)
            | ((with_reducible refine (rrq _ _ 11 11 rfl (by decide) (by decide)).mono ?_); rintro e w' ⟨rfl, m, rfl⟩; exact ⟨rfl, _, World.drewN_drewN ..⟩)
            | ((with_reducible refine (rrq _ _ 25 25 rfl (by decide) (by decide)).mono ?_); rintro e w' ⟨rfl, m, rfl⟩; exact ⟨rfl, _, World.drewN_drewN ..⟩)))
          rw [refTx_is st kk ww]
          have g7' : Blk (wr.drewN nq) B7 39 (StV st) := g7
          have k6' : Blk (wr.drewN nq) B6 101 R := k6
          have k0' : Blk (wr.drewN nq) w.heap.size 35 (PartB [] 32) := k0
          have k1' : Blk (wr.drewN nq) (w.heap.size + 1) 39 V := k1
          have k3' : Sl (wr.drewN nq) 1 (some ad) L (U P) := k3
          have k2' : Later w (wr.drewN nq) := ⟨k2.os, k2.tape, k2.output, k2.size, k2.block⟩
          clear g7 k6 k0 k1 k3 k2 ck cw c0 c1 c2 c3 c4 c5 c6 c7
          generalize wr.drewN nq = wq at g7' k6' k0' k1' k3' k2' ⊢
          have c0 := g7'.cell (j := 0) (v := .int .u32 (q32 st.a)) rfl
          have c1 := g7'.cell (j := 1) (v := .int .u32 (q32 st.b)) rfl
          have c2 := g7'.cell (j := 2) (v := .int .u32 (q32 st.c)) rfl
          go_wp2
          go_quiet ((first
            | ((with_reducible refine (rrq _ _ 2 2 rfl (by decide) (by decide)).mono ?_); rintro e w' ⟨rfl, m, rfl⟩; exact ⟨rfl, _, World.drewN_drewN ..⟩)
            | ((with_reducible refine (rrq _ _ 13 13 rfl (by decide) (by decide)).mono ?_); rintro e w' ⟨rfl, m, rfl⟩; exact ⟨rfl, _, World.drewN_drewN ..⟩)
            | ((with_reducible refine (rrq _ _ 22 22 rfl (by decide) (by decide)).mono ?_); rintro e w' ⟨rfl, m, rfl⟩; exact ⟨rfl, _, World.drewN_drewN ..⟩)))
          rw [ty_is st]
          have g7 : Blk (wq.drewN nq) B7 39 (StV st) := g7'
          have k6 : Blk (wq.drewN nq) B6 101 R := k6'
          have k0 : Blk (wq.drewN nq) w.heap.size 35 (PartB [] 32) := k0'
          have k1 : Blk (wq.drewN nq) (w.heap.size + 1) 39 V := k1'
          have k3 : Sl (wq.drewN nq) 1 (some ad) L (U P) := k3'
          have k2 : Later w (wq.drewN nq) := ⟨k2'.os, k2'.tape, k2'.output, k2'.size, k2'.block⟩
          clear g7' k6' k0' k1' k3' k2' c0 c1 c2
          generalize wq.drewN nq = wv at g7 k6 k0 k1 k3 k2 ⊢
          have hr2 : Hid (Hs.rounds WS (64 - (k + 1)) (k + 1) (Hs.round st kk ww) = Hs.rounds WS 64 0 s) := by
            refine Lib.hid ?_
            rw [← HRd.out, show 64 - k = (64 - (k + 1)) + 1 by omega, HKK.out, HWW.out]
            rfl
          obtain ⟨st2, hst2⟩ : ∃ x, x = Hs.round st kk ww := ⟨_, rfl⟩
          obtain ⟨X, hX⟩ : ∃ x, x = Hs.tx st kk ww := ⟨_, rfl⟩
          obtain ⟨Y, hY⟩ : ∃ x, x = Hs.ty st := ⟨_, rfl⟩
          have hst3 : #[Value.int .u32 (q32 (X + Y)), .int .u32 (q32 st.a), .int .u32 (q32 st.b), .int .u32 (q32 st.c), .int .u32 (q32 (st.d + X)), .int .u32 (q32 st.e), .int .u32 (q32 st.f), .int .u32 (q32 st.g)] = (StV st2).toArray := by rw [hst2, hX, hY]; rfl
          rw [← hX, ← hY]
          have s1 := mod_sum2 X Y
          have s2 := mod_sum2 st.d X
          have c0 := g7.cell (j := 0) (v := .int .u32 (q32 st.a)) rfl
          have c1 := g7.cell (j := 1) (v := .int .u32 (q32 st.b)) rfl
          have c2 := g7.cell (j := 2) (v := .int .u32 (q32 st.c)) rfl
          have c3 := g7.cell (j := 3) (v := .int .u32 (q32 st.d)) rfl
          have c4 := g7.cell (j := 4) (v := .int .u32 (q32 st.e)) rfl
          have c5 := g7.cell (j := 5) (v := .int .u32 (q32 st.f)) rfl
          have c6 := g7.cell (j := 6) (v := .int .u32 (q32 st.g)) rfl
          have hszS : (Tryd.prog.info? 39).map (·.size) = some (StV st2).length := by rw [StV_len]; kernel_rfl
          have bX := q32_bd X
          have bY := q32_bd Y
          have bd := q32_bd st.d
          rw [← hst2] at hr2
          have HST3 := Lib.hid hst3
          clear hst2 hX hY hst3
          go_wp2_with ((with_reducible refine wpList_store_abs (o := ⟨none, .store 39 (.tmp 7) (.tmp 117), _, _, _, none⟩) rfl _ _ _ rfl B7 39 (StV st) (StV st2) ?_ ?_ g7 hszS rfl (StV_one _) ?_); rfl; exact congrArg Value.agg HST3.out; intro wz y7 oz)
          have y6 := k6.only oz (by omega)
          have y0 := k0.only oz (by omega)
          have y1 := k1.only oz (by omega)
          have y3 := k3.only oz (by omega)
          have y2 : Later w wz := Below.only k2 oz (by omega)
          go_roundw
          case rel => exact ⟨k + 1, st2, by omega, by go_num, hr2, y7, y6, y0, y1, y3, y2⟩
          case measure => simp [intOf]; omega
        · obtain rfl : k = 64 := by omega
          have hst : st = Hs.rounds WS 64 0 s := HRd.out
          have HST := Lib.hid hst
          rw [HV.out] at k1
          clear hst HRd k6
          rw [show ((64 : Nat) : Int) = 64 from rfl]
          go_wp2
          go_loopw [11] (fun i wq => ∃ k : Nat, k ≤ 8 ∧ i = .int .i64 k ∧ Blk wq (w.heap.size + 1) 39 (Sofar s st k) ∧ Blk wq B7 39 (StV st) ∧ Blk wq w.heap.size 35 (PartB [] 32) ∧ Sl wq 1 (some ad) L (U P) ∧ Later w wq) (fun i _ => 8 - (intOf i).toNat)
          case atStart => exact ⟨0, by omega, rfl, k1, g7, k0, k3, k2⟩
          case round =>
            clear k1 g7 k0 k3 k2
            rename_i wr1
            obtain ⟨k, hk, rfl, k1, g7, k0, k3, k2⟩ := hrel
            by_cases hlt3 : k < 8
            · obtain ⟨x, hx⟩ : ∃ x, x = s.list.getD k 0 := ⟨_, rfl⟩
              obtain ⟨y, hy⟩ : ∃ y, y = st.list.getD k 0 := ⟨_, rfl⟩
              have c := k1.cell (Sofar.get s st k hlt3)
              have cy := g7.cell (W32_get st.list k (by show k < 8; exact hlt3))
              have fz := k1.frz k
              have hset := k1.drew.set k (.int .u32 (q32 (s.list.getD k 0 + st.list.getD k 0)))
              rw [Sofar.set s st k hlt3, ← hx, ← hy] at hset
              rw [← hx] at c
              rw [← hy] at cy
              have hsum := mod_sum2 x y
              have h7 := g7.drew.set_other ⟨w.heap.size + 1, k, none⟩ (.int .u32 (q32 (x + y))) (by simp; omega)
              have h0 := k0.drew.set_other ⟨w.heap.size + 1, k, none⟩ (.int .u32 (q32 (x + y))) (by simp)
              have h3 : Sl (wr.drew.setCell ⟨w.heap.size + 1, k, none⟩ (.int .u32 (q32 (x + y)))) 1 (some ad) L (U P) := k3.drew.only (Only.set _ _ _ _) (by omega)
              have h4 : Later w (wr.drew.setCell ⟨w.heap.size + 1, k, none⟩ (.int .u32 (q32 (x + y)))) := k2.drew.setCell (by simp) _
              have k0' : (0 : Int) ≤ (k : Int) := by omega
              have k8 : (k : Int) < 8 := by omega
              have bx := q32_bd x
              have by' := q32_bd y
              clear k1 g7 k0 k3 k2 hx hy
              go_wp2
              go_still_tail 9, (by kernel_rfl)
              change wpList _ _ _ _ _ wr.drew
              go_wp2
              go_roundw
              case rel => exact ⟨k + 1, by omega, by go_num, hset, h7, h0, h3, h4⟩
              case measure => simp [intOf]; omega
            · obtain rfl : k = 8 := by omega
              have hcm : Sofar s st 8 = StV (Hs.compress s (bv B)) := by
                unfold Hs.compress
                rw [← HWS.out, ← HST.out]; rfl
              rw [hcm] at k1
              have hnx : Hs.blocks (N - (j + 1)) (Hs.compress s (bv B)) ((bv P).drop (64 * (j + 1))) = Hs.final (bv b) := by
                rw [← HR.out, show N - j = (N - (j + 1)) + 1 by omega, HBB.out]
                show _ = Hs.blocks _ (Hs.compress s (((bv P).drop (64 * j)).take 64)) (((bv P).drop (64 * j)).drop 64)
                rw [List.drop_drop]
                have e1 : bv ((P.drop (64 * j)).take 64) = ((bv P).drop (64 * j)).take 64 := by simp [bv]
                rw [e1, show 64 * (j + 1) = 64 * j + 64 by omega]
              have HNX := Lib.hid hnx
              clear hcm hnx HR HST HWS HBB
              go_wp2
              go_roundw
              case rel => exact ⟨j + 1, Hs.compress s (bv B), by omega, by go_num, HNX, k0, k1, k3, k2⟩
              case measure => simp [intOf]; omega
    · obtain rfl : j = N := by omega
      have hse : s = Hs.final (bv b) := by have h := HR.out; rw [Nat.sub_self] at h; exact h
      have HSE := Lib.hid hse
      clear hse HR f3
      obtain ⟨wo, rfl⟩ : ∃ wo : World, wo = wr := ⟨_, rfl⟩
      go_wp2
      go_loopw [13] (fun i wq => ∃ k : Nat, k ≤ 32 ∧ i = .int .i64 k ∧ Blk wq (w.heap.size + 1) 39 (StV s) ∧ Blk wq w.heap.size 35 (PartB [] 32) ∧ Blk wq wo.heap.size 35 (PartB (unp s k) 32) ∧ Later w wq) (fun i _ => 32 - (intOf i).toNat)
      case atStart => exact ⟨0, by omega, rfl, f1.alloc _, f0.alloc _, Blk.new _ _ _ _ rfl, f2.alloc f2.size _⟩
      case round =>
        have hlt1 := f1.lt
        clear f0 f1 f2
        obtain ⟨k, hk, rfl, g1, g2, g3, g4⟩ := hrel
        by_cases hlt2 : k < 32
        · have hc := g1.cell (j := k / 4) (W32_get s.list (k / 4) (by show _ < 8; omega))
          have hb' := byte_of (s.list.getD (k / 4) 0) (24 - 8 * (k % 4))
          have hbd := q32_bd (s.list.getD (k / 4) 0)
          have hus := unp_succ s k
          obtain ⟨y, hy⟩ : ∃ y, y = q8 (((s.list.getD (k / 4) 0) >>> (24 - 8 * (k % 4))).setWidth 8) := ⟨_, rfl⟩
          rw [← hy] at hb' hus
          obtain ⟨x, hx⟩ : ∃ x, x = s.list.getD (k / 4) 0 := ⟨_, rfl⟩
          rw [← hx] at hc hb' hbd
          clear hx hy
          obtain ⟨u, hcell⟩ := Option.isSome_iff_exists.1 (g3.there1 (j := k) (by rw [PartB.len (by rw [unp_len]; omega)]; omega))
          have hfr := g3.frz k
          have HU := Lib.hid hus; clear hus
          have e1 : ((k : Int) / 4).toNat = k / 4 := by omega
          have e2 : ((24 : Int) - 8 * ((k : Int) % 4)).toNat = 24 - 8 * (k % 4) := by omega
          have k0 : (0 : Int) ≤ (k : Int) := by omega
          have k1 : (k : Int) / 4 < 8 := by omega
          have k2 : (0 : Int) ≤ (k : Int) / 4 := by omega
          have k32 : (k : Int) < 32 := by omega
          go_wp2
          have hset := g3.set k (.int .u8 y)
          have hps : (PartB (unp s k) 32).set k (.int .u8 y) = PartB (unp s (k + 1)) 32 := by
            have h := PartB.set (b := unp s k) (n := 32) (by rw [unp_len]; exact hlt2) y
            rw [unp_len] at h
            rw [h, HU.out]
          rw [hps] at hset
          go_roundw
          case rel => exact ⟨k + 1, by omega, by go_num, g1.set_other _ _ (by simp; omega), g2.set_other _ _ (by simp; omega), hset, g4.setCell (by simp; omega) _⟩
          case measure => simp [intOf]; omega
        · obtain rfl : k = 32 := by omega
          have hf : PartB (unp s 32) 32 = shaC b := by rw [PartB.full (unp_len s 32), unp_all, HSE.out]; rfl
          rw [hf] at g3
          obtain ⟨F, hF⟩ : ∃ F, F = shaC b := ⟨_, rfl⟩
          rw [← hF] at g3
          have hol : F.length = 32 := by rw [hF]; exact shaC_len _
          have hszF : (Tryd.prog.info? 35).map (·.size) = some F.length := by rw [hol]; kernel_rfl
          have hF1 : ∀ v ∈ F, v.oneCell' = true := by rw [hF]; exact shaC_one _
          have hFl : (PartB [] 32).length = F.length := by rw [hol]; rfl
          have HF := Lib.hid hF
          have HF1 := Lib.hid hF1
          have HFl := Lib.hid hFl
          have hu8 := Tryd.underlying35
          have HU8 := Lib.hid hu8
          clear hF hF1 hFl hu8 hol hf g1
          go_wp2_with (first
            | ((with_reducible refine wpList_load_blk (o := ⟨some 147, .load 35 (.tmp 12), _, _, _, none⟩) rfl _ _ rfl wo.heap.size 35 F _ ?_ g3 HU8.out rfl hszF ?_); rfl)
            | ((with_reducible refine wpList_store_abs (o := ⟨none, .store 35 (.tmp 2) (.tmp 147), _, _, _, none⟩) rfl _ _ _ rfl w.heap.size 35 (PartB [] 32) F ?_ ?_ g2 hszF HFl.out HF1.out ?_); rfl; rfl; intro w5 k1 k2))
          exact bodyPost_ret (v := .agg F.toArray) (results_blk Tryd.results22 _ _ w.heap.size _ F _ rfl k1 HU8.out rfl hszF) rfl ⟨by rw [HF.out], Below.only g4 k2 (Nat.le_refl _)⟩
end Go.Proofs.YtoigpokmlohhkaaDoor
