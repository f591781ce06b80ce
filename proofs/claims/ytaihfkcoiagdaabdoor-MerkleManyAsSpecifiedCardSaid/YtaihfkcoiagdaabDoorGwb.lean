/-
  WALKS: the reference's walk.
-/
import Derived.Test.YtaihfkcoiagdaabDoorGwa
namespace Go.Proofs.YtaihfkcoiagdaabDoor
open Go.RowKit Go.ChangeShapes Go.WideShapes Go.ChangeAt

/-- What walk answers, against gather. -/
def WkIs (G : Wm.Bs × Mk.Tr Wm.Bs) (m TL : Nat) (d : Wm.Bs) (f u : Int) (ok : Bool) : Prop :=
  (G.2.short = true → ok = false) ∧ (G.2.short = false → ok = true ∧ d = G.1 ∧ f = (m : Int) ∧ u = ((TL - G.2.rest.length : Nat) : Int))
def GotW (G : Wm.Bs × Mk.Tr Wm.Bs) (m TL : Nat) (w : World) (e : Ending) (w' : World) : Prop :=
  ∃ d f u ok, e = .returned (.agg (WkC d f u ok).toArray) ∧ (d.length = 16 ∧ Wm.isBs d) ∧ Later w w' ∧ WkIs G m TL d f u ok

theorem yieldsIf_wk {ops : Array Oper} {S : World → Prop} {op : Oper} {a : Act} (hw : Region.wanted op (yielded ops a.tmps) = true) (fs : Array (Nat × Operand)) (vs : Array (Nat × Value)) (C : Array Value) (ho : op.op = .build 87 fs)
    (hv : fs.toList.map (fun x => (x.1, a.eval x.2)) = vs.toList) (hr : ∀ w, (Instr.build 87 vs).run Tryd.prog w = .ok (.agg C) w) : YieldsIf Tryd.prog ops S op (.agg C) a :=
  .inl ⟨hw, fun w _ => by
    have e : fs.map (fun x => (x.1, a.eval x.2)) = vs := by
      apply Array.toList_inj.1; rw [Array.toList_map]; exact hv
    unfold execOp
    simp only [ho, e, Sem.run_bind, hr, Sem.run_pure, Result.andThen_ok]⟩
theorem Mk_len1 (qs : List Int) (b : Int) (hi : ∀ p ∈ qs, b ≤ p ∧ p < b + ((1 : Nat) : Int)) (ha : qs.Pairwise (· < ·)) : qs.length ≤ 1 := asc_len qs b 1 hi ha
theorem addr_add_zero (ad : Addr) : ad.add 0 = ad := by
  unfold Addr.add; split
  · rfl
  · rename_i h; exact absurd rfl h

set_option maxRecDepth 100000 in
set_option maxHeartbeats 4000000 in
theorem refWalk_any (N : Nat) : ∀ (n : Nat) (b : Int) (A1 : Option Addr) (k1 c1 : Nat) (ps : List Int) (A2 : Option Addr) (k2 c2 : Nat) (F : List Wm.Bs) (A3 : Option Addr) (k3 c3 : Nat) (T : List Wm.Bs) (w : World), n ≤ N → 1 ≤ n → 0 ≤ b → b + n ≤ 1099511627776 →
    Sl w 1 A1 k1 (N64 ps) → k1 ≤ 1000 → ps.Pairwise (· < ·) → Sl w 16 A2 k2 (Ds F) → isD F → (Mk.wi ps b (b + n)).length ≤ k2 → k2 ≤ 1000 → k2 ≤ c2 → c2 ≤ 9223372036854775807 →
    Sl w 16 A3 k3 (Ds T) → isD T → k3 ≤ 1000 → k3 ≤ c3 → c3 ≤ 9223372036854775807 → Tab0 w →
    Calls Tryd.prog 49 #[.int .i64 b, .int .i64 n, .slice A1 k1 c1, .slice A2 k2 c2, .slice A3 k3 c3] w
      (GotW (Mk.gather nodeD zD b n (Mk.wi ps b (b + n)) (F.take (Mk.wi ps b (b + n)).length) ⟨T, false⟩) (Mk.wi ps b (b + n)).length T.length w) := by
  induction N with
  | zero => intro n b A1 k1 c1 ps A2 k2 c2 F A3 k3 c3 T w h1 h2; omega
  | succ N ih =>
    intro n b A1 k1 c1 ps A2 k2 c2 F A3 k3 c3 T w hN hn1 hb hbn hsp hk1 hps hs2 hF hmk hk2 hkc2 hc2 hs3 hT hk3 hkc3 hc3 tab
    have hFl := hs2.dlen hF
    have hTl := hs3.dlen hT
    have HW := Lib.hid fun (w' : World) (h : Later w w') => within_any A1 k1 c1 ps b (b + n) w' (hsp.keep h) hk1
    have hqa := Mk.wi_asc hps b (b + n)
    have hqi := Mk.wi_in ps b (b + n)
    have hql := Mk.wi_len ps b (b + n)
    rw [hsp.ilen] at hql
    obtain ⟨qs, hqs⟩ : ∃ qs, qs = Mk.wi ps b (b + n) := ⟨_, rfl⟩
    rw [← hqs] at HW hqa hqi hql hmk ⊢
    have hwr : IntKind.i64.wrap (b + (n : Int)) = b + (n : Int) := IntWalk.i64_in _ (by omega)
    clear hqs hsp hps
    by_cases hq0 : qs = []
    · subst hq0
      rw [Mk.gather_none]
      cases T with
      | nil =>
        obtain rfl : k3 = 0 := by simpa using hTl.symm
        have HPOST : Hid (WkIs (Mk.nxt zD ⟨[], false⟩) ([] : List Int).length ([] : List Wm.Bs).length zD 0 0 false) := Lib.hid ⟨fun _ => rfl, fun h => by cases h⟩
        obtain ⟨G, hG⟩ : ∃ G, G = Mk.nxt zD (⟨[], false⟩ : Mk.Tr Wm.Bs) := ⟨_, rfl⟩
        rw [← hG] at HPOST ⊢
        clear hG ih hs2 hF hFl hTl hs3 hT tab hqa hqi hql hmk
        go_enter Tryd.func49, Tryd.ntmps49
        go_wp2_with (first
          | ((with_reducible refine wpList_wk (o := ⟨some 27, .build 87 #[], _, _, _, none⟩) rfl #[] #[] (WkC zD 0 0 false).toArray rfl rfl (run_wk0 _) ?_))
          | ((with_reducible refine wpList_store_abs (o := ⟨none, .store 87 (.tmp 10) (.tmp 27), _, _, _, none⟩) rfl _ _ _ rfl w.heap.size 87 (WkC zD 0 0 false) (WkC zD 0 0 false) ?_ ?_ b10 (WkC_sz zD_len _ _ _) (WkC_same zD_len zD_len _ _ _ _ _ _) (WkC_one _ _ _ _) ?_); rfl; rfl; intro w5 z1 z2)
          | (go_at_call 64; refine (HW.out _ (laterX _ _)).mono ?_; rintro e w1 ⟨Aq, cq, rfl, _, _, _, l1⟩; have lr := Later.trans_ (laterX w _) l1; have b10 : Blk w1 w.heap.size 87 (WkC zD 0 0 false) := (Blk.new w _ _ _ rfl).keep l1))
        exact bodyPost_ret (v := .agg (WkC zD 0 0 false).toArray) (wk_ret Tryd.results49 _ w.heap.size _ zD_len rfl z1) rfl ⟨zD, 0, 0, false, rfl, ⟨zD_len, zD_bs⟩, Below.only lr z2 (Nat.le_refl _), HPOST.out⟩
      | cons d r =>
        have HPOST : Hid (WkIs (Mk.nxt zD ⟨d :: r, false⟩) ([] : List Int).length (d :: r).length d 0 1 true) := Lib.hid ⟨fun h => (by cases h), fun _ => ⟨rfl, rfl, rfl, by simp only [Mk.nxt, List.length_cons]; omega⟩⟩
        obtain ⟨G, hG⟩ : ∃ G, G = Mk.nxt zD (⟨d :: r, false⟩ : Mk.Tr Wm.Bs) := ⟨_, rfl⟩
        rw [← hG] at HPOST ⊢
        have hk0 : 0 < k3 := by rw [← hTl]; simp
        obtain ⟨ad, rfl, _, _, _⟩ := hs3.digest hT (k := 0) hk0
        have HD := Lib.hid (hT d List.mem_cons_self)
        have HC := Lib.hid fun (w' : World) (hw : Later w w') (j : Nat) (v : Value) (hv : (U d)[j]? = some v) => (by
          obtain ⟨a2, e, _, _, h2⟩ := (hs3.keep hw).digest hT (k := 0) hk0
          cases e
          have := h2 j v hv
          rw [Nat.zero_mul, addr_add_zero] at this
          exact this : w'.cell? (ad.add j) = some v)
        have hk0' : ((k3 : Int) == 0) = false := by rw [beq_eq_false_iff_ne]; omega
        have hk0'' : (0 : Int) < (k3 : Int) := by omega
        have hk1'' : (1 : Int) ≤ (k3 : Int) := by omega
        clear hG ih hs2 hF hFl hTl hs3 hT tab hqa hqi hql hmk
        go_enter Tryd.func49, Tryd.ntmps49
        go_wp2_with (first
          | ((with_reducible refine wpList_wk (o := ⟨some 31, .build 87 #[(0, .tmp 30), (2, .const (.int .i64 1)), (3, .const (.bool true))], _, _, _, none⟩) rfl #[(0, .tmp 30), (2, .const (.int .i64 1)), (3, .const (.bool true))] #[(0, .agg (U d).toArray), (2, .int .i64 1), (3, .bool true)] (WkC d 0 1 true).toArray rfl rfl (run_wkp HD.out.1 _) ?_))
          | ((with_reducible refine wpList_load_addr (o := ⟨some 30, .load 31 (.tmp 29), _, _, _, none⟩) rfl _ _ rfl ad (U d) _ ?_ (HC.out _ lr) Tryd.underlying31 rfl (dig_sz HD.out.1) ?_); rfl)
          | ((with_reducible refine wpList_store_abs (o := ⟨none, .store 87 (.tmp 10) (.tmp 31), _, _, _, none⟩) rfl _ _ _ rfl w.heap.size 87 (WkC zD 0 0 false) (WkC d 0 1 true) ?_ ?_ b10 (WkC_sz HD.out.1 _ _ _) (WkC_same zD_len HD.out.1 _ _ _ _ _ _) (WkC_one _ _ _ _) ?_); rfl; rfl; intro w5 z1 z2)
          | (go_at_call 64; refine (HW.out _ (laterX _ _)).mono ?_; rintro e w1 ⟨Aq, cq, rfl, _, _, _, l1⟩; have lr := Later.trans_ (laterX w _) l1; have b10 : Blk w1 w.heap.size 87 (WkC zD 0 0 false) := (Blk.new w _ _ _ rfl).keep l1))
        exact bodyPost_ret (v := .agg (WkC d 0 1 true).toArray) (wk_ret Tryd.results49 _ w.heap.size _ HD.out.1 rfl z1) rfl ⟨d, 0, 1, true, rfl, HD.out, Below.only lr z2 (Nat.le_refl _), HPOST.out⟩
    · have hm0 : 1 ≤ qs.length := by
        cases qs with
        | nil => exact absurd rfl hq0
        | cons a r => simp
      obtain ⟨m, hm⟩ : ∃ m, m = qs.length := ⟨_, rfl⟩
      have hm1 : ((m : Int) == 0) = false := by rw [beq_eq_false_iff_ne]; omega
      have HW2 := Lib.hid fun (w' : World) (h : Later w w') => (by rw [hm]; exact HW.out w' h : Calls Tryd.prog 64 #[.slice A1 k1 c1, .int .i64 b, .int .i64 (b + (n : Int))] w' fun e w'' => ∃ Aq cq, e = .returned (.slice Aq m cq) ∧ Sl w'' 1 Aq m (N64 qs) ∧ m ≤ cq ∧ cq ≤ 9223372036854775807 ∧ Later w' w'')
      rw [← hm] at hmk ⊢
      by_cases hn : n = 1
      · subst hn
        have hq1 := Mk_len1 qs b hqi hqa
        obtain rfl : m = 1 := by omega
        rw [Mk.gather_one _ _ _ _ _ _ _ hq0 (by omega)]
        have hk0 : 0 < k2 := by omega
        obtain ⟨ad, rfl, _, hkl, hxx⟩ := hs2.digest hF (k := 0) hk0
        have hd0 : (F.take 1).headD zD = F[0] := by
          cases F with
          | nil => simp at hkl
          | cons a r => rfl
        rw [hd0]
        have HD := Lib.hid (hF _ (List.getElem_mem hkl))
        have HC := Lib.hid fun (w' : World) (hw : Later w w') (j : Nat) (v : Value) (hv : (U F[0])[j]? = some v) => (by
          obtain ⟨a2, e, _, _, h2⟩ := (hs2.keep hw).digest hF (k := 0) hk0
          cases e
          have := h2 j v hv
          rw [Nat.zero_mul, addr_add_zero] at this
          exact this : w'.cell? (ad.add j) = some v)
        obtain ⟨d, hd⟩ : ∃ d, d = F[0] := ⟨_, rfl⟩
        rw [← hd] at HD HC ⊢
        have HPOST : Hid (WkIs (d, ⟨T, false⟩) 1 T.length d 1 0 true) := Lib.hid ⟨fun h => (by cases h), fun _ => ⟨rfl, rfl, rfl, by simp⟩⟩
        obtain ⟨G, hG⟩ : ∃ G, G = (d, (⟨T, false⟩ : Mk.Tr Wm.Bs)) := ⟨_, rfl⟩
        rw [← hG] at HPOST ⊢
        have hk0'' : (0 : Int) < (k2 : Int) := by omega
        clear hG hd0 hd hxx hkl ih hs2 hF hFl hTl hs3 hT tab hqa hqi hql hmk hq1 hm hm0 hm1 HW
        go_enter Tryd.func49, Tryd.ntmps49
        go_wp2_with (first
          | ((with_reducible refine wpList_wk (o := ⟨some 37, .build 87 #[(0, .tmp 36), (1, .const (.int .i64 1)), (3, .const (.bool true))], _, _, _, none⟩) rfl #[(0, .tmp 36), (1, .const (.int .i64 1)), (3, .const (.bool true))] #[(0, .agg (U d).toArray), (1, .int .i64 1), (3, .bool true)] (WkC d 1 0 true).toArray rfl rfl (run_wkf HD.out.1 _) ?_))
          | ((with_reducible refine wpList_load_addr (o := ⟨some 36, .load 31 (.tmp 35), _, _, _, none⟩) rfl _ _ rfl ad (U d) _ ?_ (HC.out _ lr) Tryd.underlying31 rfl (dig_sz HD.out.1) ?_); rfl)
          | ((with_reducible refine wpList_store_abs (o := ⟨none, .store 87 (.tmp 10) (.tmp 37), _, _, _, none⟩) rfl _ _ _ rfl w.heap.size 87 (WkC zD 0 0 false) (WkC d 1 0 true) ?_ ?_ b10 (WkC_sz HD.out.1 _ _ _) (WkC_same zD_len HD.out.1 _ _ _ _ _ _) (WkC_one _ _ _ _) ?_); rfl; rfl; intro w5 z1 z2)
          | (go_at_call 64; refine (HW2.out _ (laterX _ _)).mono ?_; rintro e w1 ⟨Aq, cq, rfl, _, _, _, l1⟩; have lr := Later.trans_ (laterX w _) l1; have b10 : Blk w1 w.heap.size 87 (WkC zD 0 0 false) := (Blk.new w _ _ _ rfl).keep l1))
        exact bodyPost_ret (v := .agg (WkC d 1 0 true).toArray) (wk_ret Tryd.results49 _ w.heap.size _ HD.out.1 rfl z1) rfl ⟨d, 1, 0, true, rfl, HD.out, Below.only lr z2 (Nat.le_refl _), HPOST.out⟩
      · have h2 : 2 ≤ n := by omega
        have z1 := Mk.sp_lt h2
        have z0 := Mk.sp_pos n
        have hP := Lib.hid fun w' => refSplit_any n w' h2 (by omega)
        have hn1' : ((n : Int) == 1) = false := by rw [beq_eq_false_iff_ne]; omega
        have hcx := Mk.cnt_le qs (b + Mk.sp n)
        rw [Mk.gather_two _ _ _ _ _ _ _ hq0 h2]
        have HF := Lib.hid fun (w' : World) (Aq : Option Addr) (cq : Nat) (hw : Later w w') (sq : Sl w' 1 Aq m (N64 qs)) => (by
          have e := Mk.wi_left hqa (x := b + Mk.sp n) (fun p hp => (hqi p hp).1)
          have h := ih (Mk.sp n) b Aq m cq qs A2 k2 c2 F A3 k3 c3 T w' (by omega) z0 hb (by omega) sq (by omega) hqa (hs2.keep hw) hF (by rw [e, List.length_take]; omega) hk2 hkc2 hc2 (hs3.keep hw) hT hk3 hkc3 hc3 (tab.keep hw)
          rw [e, List.length_take, Nat.min_eq_left hcx] at h
          exact h : Calls Tryd.prog 49 #[.int .i64 b, .int .i64 (Mk.sp n), .slice Aq m cq, .slice A2 k2 c2, .slice A3 k3 c3] w' (GotW (Mk.gather nodeD zD b (Mk.sp n) (qs.take (Mk.cnt qs (b + Mk.sp n))) (F.take (Mk.cnt qs (b + Mk.sp n))) ⟨T, false⟩) (Mk.cnt qs (b + Mk.sp n)) T.length w'))
        have eT : (F.take m).take (Mk.cnt qs (b + Mk.sp n)) = F.take (Mk.cnt qs (b + Mk.sp n)) := by rw [List.take_take, Nat.min_eq_left (by omega)]
        have eD : (F.take m).drop (Mk.cnt qs (b + Mk.sp n)) = (F.drop (Mk.cnt qs (b + Mk.sp n))).take (m - Mk.cnt qs (b + Mk.sp n)) := List.drop_take ..
        rw [eT, eD]
        have hgr := Mk.gather_rest nodeD zD n b (Mk.sp n) (qs.take (Mk.cnt qs (b + Mk.sp n))) (F.take (Mk.cnt qs (b + Mk.sp n))) ⟨T, false⟩ (by omega)
        have hgd := gather_dig b (Mk.sp n) (qs.take (Mk.cnt qs (b + Mk.sp n))) (F.take (Mk.cnt qs (b + Mk.sp n))) ⟨T, false⟩ hT (fun d hd => hF d (List.mem_of_mem_take hd))
        obtain ⟨g1, hg1⟩ : ∃ g, g = Mk.gather nodeD zD b (Mk.sp n) (qs.take (Mk.cnt qs (b + Mk.sp n))) (F.take (Mk.cnt qs (b + Mk.sp n))) (⟨T, false⟩ : Mk.Tr Wm.Bs) := ⟨_, rfl⟩
        rw [← hg1] at HF hgr hgd ⊢
        obtain ⟨gd, ⟨gr, gs⟩⟩ := g1
        have y7 : IntKind.i64.wrap (b + (Mk.sp n : Int)) = b + (Mk.sp n : Int) := IntWalk.i64_in _ (by omega)
        have y8 : IntKind.i64.wrap ((n : Int) - (Mk.sp n : Int)) = (n : Int) - (Mk.sp n : Int) := IntWalk.i64_in _ (by omega)
        cases gs with
        | true =>
          have HPOST : Hid (WkIs (nodeD gd (Mk.gather nodeD zD (b + Mk.sp n) (n - Mk.sp n) (qs.drop (Mk.cnt qs (b + Mk.sp n))) ((F.drop (Mk.cnt qs (b + Mk.sp n))).take (m - Mk.cnt qs (b + Mk.sp n))) ⟨gr, true⟩).1, (Mk.gather nodeD zD (b + Mk.sp n) (n - Mk.sp n) (qs.drop (Mk.cnt qs (b + Mk.sp n))) ((F.drop (Mk.cnt qs (b + Mk.sp n))).take (m - Mk.cnt qs (b + Mk.sp n))) ⟨gr, true⟩).2) m T.length zD 0 0 false) := Lib.hid ⟨fun _ => rfl, fun h => by
            have h9 := Mk.gather_short nodeD zD (b := b + Mk.sp n) (n := n - Mk.sp n) (ps := qs.drop (Mk.cnt qs (b + Mk.sp n))) (fs := (F.drop (Mk.cnt qs (b + Mk.sp n))).take (m - Mk.cnt qs (b + Mk.sp n))) (t := ⟨gr, true⟩) rfl
            rw [h9] at h; cases h⟩
          obtain ⟨G, hG⟩ : ∃ G, G = (nodeD gd (Mk.gather nodeD zD (b + Mk.sp n) (n - Mk.sp n) (qs.drop (Mk.cnt qs (b + Mk.sp n))) ((F.drop (Mk.cnt qs (b + Mk.sp n))).take (m - Mk.cnt qs (b + Mk.sp n))) (⟨gr, true⟩ : Mk.Tr Wm.Bs)).1, (Mk.gather nodeD zD (b + Mk.sp n) (n - Mk.sp n) (qs.drop (Mk.cnt qs (b + Mk.sp n))) ((F.drop (Mk.cnt qs (b + Mk.sp n))).take (m - Mk.cnt qs (b + Mk.sp n))) (⟨gr, true⟩ : Mk.Tr Wm.Bs)).2) := ⟨_, rfl⟩
          have HFF := Lib.hid fun (w' : World) (Aq : Option Addr) (cq : Nat) (hw : Later w w') (sq : Sl w' 1 Aq m (N64 qs)) => ((HF.out w' Aq cq hw sq).mono (fun e w'' h => by
            obtain ⟨d, f, u, ok, e1, hd, l, hi⟩ := h
            obtain rfl := hi.1 rfl
            exact ⟨d, f, u, e1, hd, l⟩) : Calls Tryd.prog 49 #[.int .i64 b, .int .i64 (Mk.sp n), .slice Aq m cq, .slice A2 k2 c2, .slice A3 k3 c3] w' fun e w'' => ∃ d f u, e = .returned (.agg (WkC d f u false).toArray) ∧ (d.length = 16 ∧ Wm.isBs d) ∧ Later w' w'')
          rw [← hG] at HPOST ⊢
          obtain ⟨K, hK⟩ : ∃ K, K = Mk.sp n := ⟨_, rfl⟩
          rw [← hK] at HFF hP z0 z1 y7 y8
          clear hG hK hg1 HF hgr hgd eT eD hcx ih hs2 hF hFl hTl hs3 hT tab hqa hqi hql hmk hm hm0 HW hq0
          go_enter Tryd.func49, Tryd.ntmps49
          go_wp2_with (first
            | ((with_reducible refine wpList_wk (o := ⟨some 49, .build 87 #[], _, _, _, none⟩) rfl #[] #[] (WkC zD 0 0 false).toArray rfl rfl (run_wk0 _) ?_))
            | ((with_reducible refine wpList_store_abs (o := ⟨none, .store 87 (.tmp 10) (.tmp 49), _, _, _, none⟩) rfl _ _ _ rfl w.heap.size 87 (WkC zD 0 0 false) (WkC zD 0 0 false) ?_ ?_ b10 (WkC_sz zD_len _ _ _) (WkC_same zD_len zD_len _ _ _ _ _ _) (WkC_one _ _ _ _) ?_); rfl; rfl; intro w5 v1 v2)
            | ((with_reducible refine wpList_store_abs (o := ⟨none, .store 87 (.tmp 13) (.tmp 45), _, _, _, none⟩) rfl _ _ _ rfl w2.heap.size 87 (WkC zD 0 0 false) (WkC d1 f1 u1 false) ?_ ?_ (Blk.new w2 _ _ _ rfl) (WkC_sz hd1.1 _ _ _) (WkC_same zD_len hd1.1 _ _ _ _ _ _) (WkC_one _ _ _ _) ?_); rfl; rfl; intro w3 g13 o3; have k3' := Below.only (laterX w2 (.cells (WkC zD 0 0 false).toArray 87)) o3 (Nat.le_refl _); replace lr := Later.trans_ lr k3'; replace b10 := b10.keep k3'; have ck := wk_ok g13 hd1.1)
            | (go_at_call 49; refine (HFF.out _ Aq cq lr sq).mono ?_; rintro e w2 ⟨d1, f1, u1, rfl, hd1, l2⟩; replace lr := Later.trans_ lr l2; replace b10 := b10.keep l2)
            | (go_at_call 40; refine (hP.out _).mono ?_; rintro e w9 ⟨rfl, rfl⟩)
            | (go_at_call 64; refine (HW2.out _ (laterX _ _)).mono ?_; rintro e w1 ⟨Aq, cq, rfl, sq, _, _, l1⟩; have lr := Later.trans_ (laterX w _) l1; have b10 : Blk w1 w.heap.size 87 (WkC zD 0 0 false) := (Blk.new w _ _ _ rfl).keep l1))
          exact bodyPost_ret (v := .agg (WkC zD 0 0 false).toArray) (wk_ret Tryd.results49 _ w.heap.size _ zD_len rfl v1) rfl ⟨zD, 0, 0, false, rfl, ⟨zD_len, zD_bs⟩, Below.only lr v2 (Nat.le_refl _), HPOST.out⟩
        | false =>
          obtain ⟨_, q, hq, hqe⟩ := hgr rfl
          simp only [Mk.Tr.mk.injEq, and_true] at hqe
          simp only at hq
          subst hqe
          have HFF := Lib.hid fun (w' : World) (Aq : Option Addr) (cq : Nat) (hw : Later w w') (sq : Sl w' 1 Aq m (N64 qs)) => ((HF.out w' Aq cq hw sq).mono (fun e w'' h => by
            obtain ⟨d, f, u, ok, e1, hd, l, hi⟩ := h
            obtain ⟨rfl, rfl, rfl, rfl⟩ := hi.2 rfl
            have e2 : T.length - (T.drop q).length = q := by rw [List.length_drop]; omega
            simp only [e2] at e1
            exact ⟨e1, l⟩) : Calls Tryd.prog 49 #[.int .i64 b, .int .i64 (Mk.sp n), .slice Aq m cq, .slice A2 k2 c2, .slice A3 k3 c3] w' fun e w'' => e = .returned (.agg (WkC gd (Mk.cnt qs (b + Mk.sp n) : Nat) (q : Nat) true).toArray) ∧ Later w' w'')
          obtain ⟨A2', HC2, HS2⟩ := dcut_run (A := A2) (n := k2) (c := c2) (u := Mk.cnt qs (b + Mk.sp n)) (by omega) hkc2
          obtain ⟨A3', HC3, HS3⟩ := dcut_run (A := A3) (n := k3) (c := c3) (u := q) (by omega) hkc3
          replace HC2 := Lib.hid HC2
          replace HC3 := Lib.hid HC3
          have HB := Lib.hid fun (w' : World) (Aq : Option Addr) (cq : Nat) (hw : Later w w') (sq : Sl w' 1 Aq m (N64 qs)) => (by
            have e := Mk.wi_right hqa (x := b + Mk.sp n) (b := b + Mk.sp n + (n - Mk.sp n : Nat)) (fun p hp => by have := (hqi p hp).2; omega)
            have h := ih (n - Mk.sp n) (b + Mk.sp n) Aq m cq qs A2' (k2 - Mk.cnt qs (b + Mk.sp n)) (c2 - Mk.cnt qs (b + Mk.sp n)) (F.drop (Mk.cnt qs (b + Mk.sp n))) A3' (k3 - q) (c3 - q) (T.drop q) w' (by omega) (by omega) (by omega) (by omega) sq (by omega) hqa (HS2 w' F hF (hs2.keep hw)) (isD_drop hF _) (by rw [e, List.length_drop]; omega) (by omega) (by omega) (by omega) (HS3 w' T hT (hs3.keep hw)) (isD_drop hT _) (by omega) (by omega) (by omega) (tab.keep hw)
            rw [e, List.length_drop, ← hm, show ((n - Mk.sp n : Nat) : Int) = (n : Int) - (Mk.sp n : Int) by omega] at h
            exact h : Calls Tryd.prog 49 #[.int .i64 (b + Mk.sp n), .int .i64 ((n : Int) - (Mk.sp n : Int)), .slice Aq m cq, .slice A2' (k2 - Mk.cnt qs (b + Mk.sp n)) (c2 - Mk.cnt qs (b + Mk.sp n)), .slice A3' (k3 - q) (c3 - q)] w' (GotW (Mk.gather nodeD zD (b + Mk.sp n) (n - Mk.sp n) (qs.drop (Mk.cnt qs (b + Mk.sp n))) ((F.drop (Mk.cnt qs (b + Mk.sp n))).take (m - Mk.cnt qs (b + Mk.sp n))) ⟨T.drop q, false⟩) (m - Mk.cnt qs (b + Mk.sp n)) (T.drop q).length w'))
          have hgr2 := Mk.gather_rest nodeD zD n (b + Mk.sp n) (n - Mk.sp n) (qs.drop (Mk.cnt qs (b + Mk.sp n))) ((F.drop (Mk.cnt qs (b + Mk.sp n))).take (m - Mk.cnt qs (b + Mk.sp n))) ⟨T.drop q, false⟩ (by omega)
          obtain ⟨g2, hg2⟩ : ∃ g, g = Mk.gather nodeD zD (b + Mk.sp n) (n - Mk.sp n) (qs.drop (Mk.cnt qs (b + Mk.sp n))) ((F.drop (Mk.cnt qs (b + Mk.sp n))).take (m - Mk.cnt qs (b + Mk.sp n))) (⟨T.drop q, false⟩ : Mk.Tr Wm.Bs) := ⟨_, rfl⟩
          rw [← hg2] at HB hgr2 ⊢
          obtain ⟨x, hx⟩ : ∃ x, x = Mk.cnt qs (b + Mk.sp n) := ⟨_, rfl⟩
          rw [← hx] at HFF HB HC2 hcx
          have HPOST : Hid (∀ d2 f2 u2 ok2, WkIs g2 (m - x) (T.drop q).length d2 f2 u2 ok2 → WkIs (nodeD gd g2.1, g2.2) m T.length (nodeD gd d2) (IntKind.i64.wrap ((x : Int) + f2)) (IntKind.i64.wrap ((q : Int) + u2)) ok2) := Lib.hid fun d2 f2 u2 ok2 h => ⟨h.1, fun h9 => by
            obtain ⟨rfl, rfl, rfl, rfl⟩ := h.2 h9
            obtain ⟨_, u, hu, hue⟩ := hgr2 h9
            have hr : g2.2.rest = (T.drop q).drop u := by rw [hue]
            have hrl : g2.2.rest.length = T.length - q - u := by rw [hr, List.length_drop, List.length_drop]
            simp only [List.length_drop] at hu
            refine ⟨rfl, rfl, ?_, ?_⟩
            · rw [IntWalk.i64_in _ (by omega)]; omega
            · show IntKind.i64.wrap _ = ((T.length - g2.2.rest.length : Nat) : Int)
              rw [hrl, List.length_drop, IntWalk.i64_in _ (by omega)]; omega⟩
          obtain ⟨G0, hG⟩ : ∃ G, G = (nodeD gd g2.1, g2.2) := ⟨_, rfl⟩
          rw [← hG] at HPOST ⊢
          obtain ⟨K, hK⟩ : ∃ K, K = Mk.sp n := ⟨_, rfl⟩
          rw [← hK] at HFF HB hP z0 z1 y7 y8
          obtain ⟨d1, hd1⟩ : ∃ d, d = gd := ⟨_, rfl⟩
          rw [← hd1] at HFF HPOST hgd
          have HD1 : Hid (d1.length = 16 ∧ Wm.isBs d1) := Lib.hid hgd
          have TB := Lib.hid tab
          have hx2 : x ≤ k2 := by omega
          have hq3 : q ≤ k3 := by omega
          clear hd1 hG hK hx hg2 hg1 HF hgr hgr2 hgd eT eD hcx ih hs2 hF hFl hTl hs3 hT tab hqa hqi hql hmk hm hm0 HW HS2 HS3 hq hq0
          go_enter Tryd.func49, Tryd.ntmps49
          go_wp2_with (first
            | ((with_reducible refine wpList_store_abs (o := ⟨none, .store 87 (.tmp 13) (.tmp 45), _, _, _, none⟩) rfl _ _ _ rfl w2.heap.size 87 (WkC zD 0 0 false) (WkC d1 (x : Nat) (q : Nat) true) ?_ ?_ (Blk.new w2 _ _ _ rfl) (WkC_sz HD1.out.1 _ _ _) (WkC_same zD_len HD1.out.1 _ _ _ _ _ _) (WkC_one _ _ _ _) ?_); rfl; rfl; intro w3 b13 o3; have hn13' := b10.lt; have k3' := Below.only (laterX w2 (.cells (WkC zD 0 0 false).toArray 87)) o3 (Nat.le_refl _); replace lr := Later.trans_ lr k3'; replace b10 := b10.keep k3'; replace sq := sq.keep k3'; have ck := wk_ok b13 HD1.out.1)
            | (go_at_call 49; refine (HFF.out _ Aq cq lr sq).mono ?_; rintro e w2 ⟨rfl, l2⟩; replace lr := Later.trans_ lr l2; replace b10 := b10.keep l2; replace sq := sq.keep l2)
            | (go_at_call 40; refine (hP.out _).mono ?_; rintro e w9 ⟨rfl, rfl⟩)
            | (go_at_call 64; refine (HW2.out _ (laterX _ _)).mono ?_; rintro e w1 ⟨Aq, cq, rfl, sq, _, _, l1⟩; have lr := Later.trans_ (laterX w _) l1; have b10 : Blk w1 w.heap.size 87 (WkC zD 0 0 false) := (Blk.new w _ _ _ rfl).keep l1))
          have HNE : Hid (w2.heap.size ≠ w.heap.size) := Lib.hid (Nat.ne_of_gt hn13')
          obtain ⟨B13, hB13⟩ : ∃ B, B = w2.heap.size := ⟨_, rfl⟩
          rw [← hB13] at b13 HNE ⊢
          clear hB13 ck k3' o3 l1 l2 hn13'
          refine wp_region_held_drew (S := fun w' => w'.cell? ⟨B13, 16, none⟩ = some (.int .i64 (x : Int)) ∧ w'.cell? ⟨B13, 17, none⟩ = some (.int .i64 (q : Int))) (by kernel_rfl) ⟨wk_found b13.drew HD1.out.1, wk_path b13.drew HD1.out.1⟩ (fun hHeld => ?_)
          replace lr := Later.trans_ lr (Below.refl w3.heap.size w3).drew
          replace sq := sq.drew
          replace b10 := b10.drew
          replace b13 := b13.drew
          generalize w3.drew = u0 at lr sq b10 b13 hHeld ⊢
          refine wpAnyH_take (i := 0) (oi := ⟨some 50, .move (.tmp 0), _, _, _, none⟩) (v := .int .i64 b) rfl (by kernel_rfl) (by kernel_rfl) (by kernel_rfl) (fun _ _ _ h => h) (Or.inl ⟨by rfl, fun _ _ => rfl⟩) hHeld ?_
          simp only [Act.put, List.setIfInBounds_toArray, List.set_cons_zero, List.set_cons_succ]
          refine wpAnyH_take (i := 1) (oi := ⟨some 51, .move (.tmp 12), _, _, _, none⟩) (v := .int .i64 K) rfl (by kernel_rfl) (by kernel_rfl) (by kernel_rfl) (fun _ _ _ h => h) (Or.inl ⟨by rfl, fun _ _ => rfl⟩) hHeld ?_
          simp only [Act.put, List.setIfInBounds_toArray, List.set_cons_zero, List.set_cons_succ]
          refine wpAnyH_take (i := 2) (oi := ⟨some 52, .binOp .add 3 (.tmp 50) (.tmp 51) 3, _, _, _, none⟩) (v := .int .i64 (b + (K : Int))) rfl (by kernel_rfl) (by kernel_rfl) (by kernel_rfl) (fun _ _ _ h => h) (Or.inl ⟨by rfl, fun w _ => by go_simp⟩) hHeld ?_
          simp only [Act.put, List.setIfInBounds_toArray, List.set_cons_zero, List.set_cons_succ]
          refine wpAnyH_take (i := 3) (oi := ⟨some 53, .move (.tmp 1), _, _, _, none⟩) (v := .int .i64 n) rfl (by kernel_rfl) (by kernel_rfl) (by kernel_rfl) (fun _ _ _ h => h) (Or.inl ⟨by rfl, fun _ _ => rfl⟩) hHeld ?_
          simp only [Act.put, List.setIfInBounds_toArray, List.set_cons_zero, List.set_cons_succ]
          refine wpAnyH_take (i := 4) (oi := ⟨some 54, .move (.tmp 12), _, _, _, none⟩) (v := .int .i64 K) rfl (by kernel_rfl) (by kernel_rfl) (by kernel_rfl) (fun _ _ _ h => h) (Or.inl ⟨by rfl, fun _ _ => rfl⟩) hHeld ?_
          simp only [Act.put, List.setIfInBounds_toArray, List.set_cons_zero, List.set_cons_succ]
          refine wpAnyH_take (i := 5) (oi := ⟨some 55, .binOp .sub 3 (.tmp 53) (.tmp 54) 3, _, _, _, none⟩) (v := .int .i64 ((n : Int) - (K : Int))) rfl (by kernel_rfl) (by kernel_rfl) (by kernel_rfl) (fun _ _ _ h => h) (Or.inl ⟨by rfl, fun w _ => by go_simp⟩) hHeld ?_
          simp only [Act.put, List.setIfInBounds_toArray, List.set_cons_zero, List.set_cons_succ]
          refine wpAnyH_take (i := 6) (oi := ⟨some 56, .move (.tmp 11), _, _, _, none⟩) (v := .slice Aq m cq) rfl (by kernel_rfl) (by kernel_rfl) (by kernel_rfl) (fun _ _ _ h => h) (Or.inl ⟨by rfl, fun _ _ => rfl⟩) hHeld ?_
          simp only [Act.put, List.setIfInBounds_toArray, List.set_cons_zero, List.set_cons_succ]
          refine wpAnyH_take (i := 7) (oi := ⟨some 57, .move (.tmp 3), _, _, _, none⟩) (v := .slice A2 k2 c2) rfl (by kernel_rfl) (by kernel_rfl) (by kernel_rfl) (fun _ _ _ h => h) (Or.inl ⟨by rfl, fun _ _ => rfl⟩) hHeld ?_
          simp only [Act.put, List.setIfInBounds_toArray, List.set_cons_zero, List.set_cons_succ]
          refine wpAnyH_take (i := 8) (oi := ⟨some 58, .fieldAddr 87 (.tmp 13) 1, _, _, _, none⟩) (v := .pointer (some ⟨B13, 16, none⟩)) rfl (by kernel_rfl) (by kernel_rfl) (by kernel_rfl) (fun _ _ _ h => h) (Or.inl ⟨by rfl, fun w _ => by go_simp⟩) hHeld ?_
          simp only [Act.put, List.setIfInBounds_toArray, List.set_cons_zero, List.set_cons_succ]
          refine wpAnyH_take (i := 9) (oi := ⟨some 59, .load 3 (.tmp 58), _, _, _, none⟩) (v := .int .i64 (x : Int)) rfl (by kernel_rfl) (by kernel_rfl) (by kernel_rfl) (fun _ _ _ h => h) (Or.inl ⟨by rfl, fun w hSw => by have e1 := hSw.1; clear hSw; go_simp⟩) hHeld ?_
          simp only [Act.put, List.setIfInBounds_toArray, List.set_cons_zero, List.set_cons_succ]
          refine wpAnyH_take (i := 10) (oi := ⟨some 60, .slice 22 (.tmp 57) (some (.tmp 59)) none none, _, _, _, none⟩) (v := .slice A2' (k2 - x) (c2 - x)) rfl (by kernel_rfl) (by kernel_rfl) (by kernel_rfl) (fun _ _ _ h => h) (Or.inl ⟨by rfl, fun w _ => by have e1 := HC2.out w; go_simp⟩) hHeld ?_
          simp only [Act.put, List.setIfInBounds_toArray, List.set_cons_zero, List.set_cons_succ]
          refine wpAnyH_take (i := 11) (oi := ⟨some 61, .move (.tmp 4), _, _, _, none⟩) (v := .slice A3 k3 c3) rfl (by kernel_rfl) (by kernel_rfl) (by kernel_rfl) (fun _ _ _ h => h) (Or.inl ⟨by rfl, fun _ _ => rfl⟩) hHeld ?_
          simp only [Act.put, List.setIfInBounds_toArray, List.set_cons_zero, List.set_cons_succ]
          refine wpAnyH_take (i := 12) (oi := ⟨some 62, .fieldAddr 87 (.tmp 13) 2, _, _, _, none⟩) (v := .pointer (some ⟨B13, 17, none⟩)) rfl (by kernel_rfl) (by kernel_rfl) (by kernel_rfl) (fun _ _ _ h => h) (Or.inl ⟨by rfl, fun w _ => by go_simp⟩) hHeld ?_
          simp only [Act.put, List.setIfInBounds_toArray, List.set_cons_zero, List.set_cons_succ]
          refine wpAnyH_take (i := 13) (oi := ⟨some 63, .load 3 (.tmp 62), _, _, _, none⟩) (v := .int .i64 (q : Int)) rfl (by kernel_rfl) (by kernel_rfl) (by kernel_rfl) (fun _ _ _ h => h) (Or.inl ⟨by rfl, fun w hSw => by have e1 := hSw.2; clear hSw; go_simp⟩) hHeld ?_
          simp only [Act.put, List.setIfInBounds_toArray, List.set_cons_zero, List.set_cons_succ]
          refine wpAnyH_take (i := 14) (oi := ⟨some 64, .slice 22 (.tmp 61) (some (.tmp 63)) none none, _, _, _, none⟩) (v := .slice A3' (k3 - q) (c3 - q)) rfl (by kernel_rfl) (by kernel_rfl) (by kernel_rfl) (fun _ _ _ h => h) (Or.inl ⟨by rfl, fun w _ => by have e1 := HC3.out w; go_simp⟩) hHeld ?_
          simp only [Act.put, List.setIfInBounds_toArray, List.set_cons_zero, List.set_cons_succ]
          refine wpAnyH_ready (rs := [15, 16]) (by kernel_rfl) (by simp) (AllReadyH.cons (o := ⟨some 65, .call { callee := .value (.func 49), args := #[.tmp 52, .tmp 55, .tmp 56, .tmp 60, .tmp 64], argTypes := #[3, 3, 37, 22, 22] }, _, _, _, none⟩) rfl (fun K' hK => ?_) (AllReadyH.cons (o := ⟨some 14, .alloc 87, _, _, _, none⟩) rfl (fun K' hK => ?_) (AllReadyH.nil)))
          · go_simp
            refine (HB.out _ Aq cq lr sq).mono ?_
            rintro e wa ⟨d2, f2, u2, ok2, rfl, hd2, l2, hi2⟩
            replace lr := Later.trans_ lr l2
            replace sq := sq.keep l2
            replace b10 := b10.keep l2
            replace b13 := b13.keep l2
            refine hK.out _ _ ⟨wk_found b13 HD1.out.1, wk_path b13 HD1.out.1⟩ (fun hHeld => ?_)
            clear hK K'
            try simp only [Act.put, List.setIfInBounds_toArray, List.set_cons_zero, List.set_cons_succ]
            refine wpAnyH_ready (rs := [16]) (by kernel_rfl) (by simp) (AllReadyH.cons (o := ⟨some 14, .alloc 87, _, _, _, none⟩) rfl (fun K' hK => ?_) (AllReadyH.nil))
            go_simp
            refine hK.out _ (wa.alloc (.cells (WkC zD 0 0 false).toArray 87)) ⟨wk_found (b13.alloc _) HD1.out.1, wk_path (b13.alloc _) HD1.out.1⟩ (fun hHeld => ?_)
            clear hK K'
            try simp only [Act.put, List.setIfInBounds_toArray, List.set_cons_zero, List.set_cons_succ]
            have b14 : Blk (wa.alloc (.cells (WkC zD 0 0 false).toArray 87)) wa.heap.size 87 (WkC zD 0 0 false) := Blk.new wa _ _ _ rfl
            have s0 := laterX wa (.cells (WkC zD 0 0 false).toArray 87)
            replace lr := Later.trans_ lr s0
            replace sq := sq.keep s0
            have hn10 : wa.heap.size ≠ w.heap.size := Nat.ne_of_gt b10.lt
            have hn13 : wa.heap.size ≠ B13 := Nat.ne_of_gt b13.lt
            have hwG := Nat.le_of_lt b10.lt
            replace b10 := b10.keep s0
            replace b13 := b13.keep s0
            clear s0
            obtain ⟨G, hG⟩ : ∃ G, G = wa.heap.size := ⟨_, rfl⟩
            rw [← hG] at b14 hn10 hn13 hwG ⊢
            clear hG
            generalize wa.alloc (.cells (WkC zD 0 0 false).toArray 87) = wb at lr sq b10 b13 b14 hHeld ⊢
            refine wpAnyH_ready (rs := [17]) (by kernel_rfl) (by simp) (AllReadyH.cons (o := ⟨none, .store 87 (.tmp 14) (.tmp 65), _, _, _, none⟩) rfl (fun K' hK => ?_) (AllReadyH.nil))
            refine wp_store_whole _ _ _ rfl G 87 (WkC zD 0 0 false) (WkC d2 f2 u2 ok2) rfl rfl b14 (WkC_sz hd2.1 _ _ _) (WkC_same zD_len hd2.1 _ _ _ _ _ _) (WkC_one _ _ _ _) ?_
            intro u3 b14' o3
            replace b10 := b10.only o3 hn10.symm
            replace b13 := b13.only o3 hn13.symm
            replace lr := Below.only lr o3 hwG
            refine hK.out _ _ ⟨wk_found b13 HD1.out.1, wk_path b13 HD1.out.1⟩ (fun hHeld => ?_)
            clear hK K'
            try simp only [Act.put]
            refine wpAnyH_done (by kernel_rfl) ?_ _
            clear hHeld b14 HB
            try simp only [Act.put]
            have HN := Lib.hid fun (w' : World) (h : Later w w') => refNode_any d1 d2 w' HD1.out.1 hd2.1 (TB.out.keep h)
            have HPP := Lib.hid (HPOST.out d2 f2 u2 ok2 hi2)
            obtain ⟨N, hN⟩ : ∃ N, N = nodeD d1 d2 := ⟨_, rfl⟩
            have HNl : Hid (N.length = 16 ∧ Wm.isBs N) := Lib.hid (by rw [hN]; exact ⟨nodeD_len _ _, nodeD_bs _ _⟩)
            rw [← hN] at HN HPP
            have HD2 := Lib.hid hd2
            clear hN hi2 hd2
            go_wp2_with fail
            refine wp_region_held_drew (S := fun w' => w'.rangeAt B13 0 (U d1) ∧ w'.rangeAt G 0 (U d2) ∧ w'.cell? ⟨B13, 16, none⟩ = some (.int .i64 (x : Int)) ∧ w'.cell? ⟨B13, 17, none⟩ = some (.int .i64 (q : Int)) ∧ w'.cell? ⟨G, 16, none⟩ = some (.int .i64 f2) ∧ w'.cell? ⟨G, 17, none⟩ = some (.int .i64 u2) ∧ w'.cell? ⟨G, 18, none⟩ = some (.bool ok2)) (by kernel_rfl) ⟨wk_dig b13.drew HD1.out.1, wk_dig b14'.drew HD2.out.1, wk_found b13.drew HD1.out.1, wk_path b13.drew HD1.out.1, wk_found b14'.drew HD2.out.1, wk_path b14'.drew HD2.out.1, wk_ok b14'.drew HD2.out.1⟩ (fun hHeld => ?_)
            refine wpAnyH_take (i := 0) (oi := ⟨some 66, .fieldAddr 87 (.tmp 13) 0, _, _, _, none⟩) (v := .pointer (some ⟨B13, 0, none⟩)) rfl (by kernel_rfl) (by kernel_rfl) (by kernel_rfl) (fun _ _ _ h => h) (Or.inl ⟨by rfl, fun w _ => by go_simp⟩) hHeld ?_
            simp only [Act.put, List.setIfInBounds_toArray, List.set_cons_zero, List.set_cons_succ]
            refine wpAnyH_take (i := 1) (oi := ⟨some 67, .load 31 (.tmp 66), _, _, _, none⟩) (v := .agg (U d1).toArray) rfl (by kernel_rfl) (by kernel_rfl) (by kernel_rfl) (fun _ _ _ h => h) (yieldsIf_load_mid (by rfl) _ _ rfl _ _ rfl _ _ (fun w h => h.1) Tryd.underlying31 rfl (dig_sz HD1.out.1)) hHeld ?_
            simp only [Act.put, List.setIfInBounds_toArray, List.set_cons_zero, List.set_cons_succ]
            refine wpAnyH_take (i := 2) (oi := ⟨some 68, .fieldAddr 87 (.tmp 14) 0, _, _, _, none⟩) (v := .pointer (some ⟨G, 0, none⟩)) rfl (by kernel_rfl) (by kernel_rfl) (by kernel_rfl) (fun _ _ _ h => h) (Or.inl ⟨by rfl, fun w _ => by go_simp⟩) hHeld ?_
            simp only [Act.put, List.setIfInBounds_toArray, List.set_cons_zero, List.set_cons_succ]
            refine wpAnyH_take (i := 3) (oi := ⟨some 69, .load 31 (.tmp 68), _, _, _, none⟩) (v := .agg (U d2).toArray) rfl (by kernel_rfl) (by kernel_rfl) (by kernel_rfl) (fun _ _ _ h => h) (yieldsIf_load_mid (by rfl) _ _ rfl _ _ rfl _ _ (fun w h => h.2.1) Tryd.underlying31 rfl (dig_sz HD2.out.1)) hHeld ?_
            simp only [Act.put, List.setIfInBounds_toArray, List.set_cons_zero, List.set_cons_succ]
            refine wpAnyH_take (i := 5) (oi := ⟨some 71, .fieldAddr 87 (.tmp 13) 1, _, _, _, none⟩) (v := .pointer (some ⟨B13, 16, none⟩)) rfl (by kernel_rfl) (by kernel_rfl) (by kernel_rfl) (fun _ _ _ h => h) (Or.inl ⟨by rfl, fun w _ => by go_simp⟩) hHeld ?_
            simp only [Act.put, List.setIfInBounds_toArray, List.set_cons_zero, List.set_cons_succ]
            refine wpAnyH_take (i := 6) (oi := ⟨some 72, .load 3 (.tmp 71), _, _, _, none⟩) (v := .int .i64 (x : Int)) rfl (by kernel_rfl) (by kernel_rfl) (by kernel_rfl) (fun _ _ _ h => h) (Or.inl ⟨by rfl, fun w hSw => by have e1 := hSw.2.2.1; clear hSw; go_simp⟩) hHeld ?_
            simp only [Act.put, List.setIfInBounds_toArray, List.set_cons_zero, List.set_cons_succ]
            refine wpAnyH_take (i := 7) (oi := ⟨some 73, .fieldAddr 87 (.tmp 14) 1, _, _, _, none⟩) (v := .pointer (some ⟨G, 16, none⟩)) rfl (by kernel_rfl) (by kernel_rfl) (by kernel_rfl) (fun _ _ _ h => h) (Or.inl ⟨by rfl, fun w _ => by go_simp⟩) hHeld ?_
            simp only [Act.put, List.setIfInBounds_toArray, List.set_cons_zero, List.set_cons_succ]
            refine wpAnyH_take (i := 8) (oi := ⟨some 74, .load 3 (.tmp 73), _, _, _, none⟩) (v := .int .i64 f2) rfl (by kernel_rfl) (by kernel_rfl) (by kernel_rfl) (fun _ _ _ h => h) (Or.inl ⟨by rfl, fun w hSw => by have e1 := hSw.2.2.2.2.1; clear hSw; go_simp⟩) hHeld ?_
            simp only [Act.put, List.setIfInBounds_toArray, List.set_cons_zero, List.set_cons_succ]
            refine wpAnyH_take (i := 9) (oi := ⟨some 75, .binOp .add 3 (.tmp 72) (.tmp 74) 3, _, _, _, none⟩) (v := .int .i64 (IntKind.i64.wrap ((x : Int) + f2))) rfl (by kernel_rfl) (by kernel_rfl) (by kernel_rfl) (fun _ _ _ h => h) (Or.inl ⟨by rfl, fun w _ => by go_simp⟩) hHeld ?_
            simp only [Act.put, List.setIfInBounds_toArray, List.set_cons_zero, List.set_cons_succ]
            refine wpAnyH_take (i := 10) (oi := ⟨some 76, .fieldAddr 87 (.tmp 13) 2, _, _, _, none⟩) (v := .pointer (some ⟨B13, 17, none⟩)) rfl (by kernel_rfl) (by kernel_rfl) (by kernel_rfl) (fun _ _ _ h => h) (Or.inl ⟨by rfl, fun w _ => by go_simp⟩) hHeld ?_
            simp only [Act.put, List.setIfInBounds_toArray, List.set_cons_zero, List.set_cons_succ]
            refine wpAnyH_take (i := 11) (oi := ⟨some 77, .load 3 (.tmp 76), _, _, _, none⟩) (v := .int .i64 (q : Int)) rfl (by kernel_rfl) (by kernel_rfl) (by kernel_rfl) (fun _ _ _ h => h) (Or.inl ⟨by rfl, fun w hSw => by have e1 := hSw.2.2.2.1; clear hSw; go_simp⟩) hHeld ?_
            simp only [Act.put, List.setIfInBounds_toArray, List.set_cons_zero, List.set_cons_succ]
            refine wpAnyH_take (i := 12) (oi := ⟨some 78, .fieldAddr 87 (.tmp 14) 2, _, _, _, none⟩) (v := .pointer (some ⟨G, 17, none⟩)) rfl (by kernel_rfl) (by kernel_rfl) (by kernel_rfl) (fun _ _ _ h => h) (Or.inl ⟨by rfl, fun w _ => by go_simp⟩) hHeld ?_
            simp only [Act.put, List.setIfInBounds_toArray, List.set_cons_zero, List.set_cons_succ]
            refine wpAnyH_take (i := 13) (oi := ⟨some 79, .load 3 (.tmp 78), _, _, _, none⟩) (v := .int .i64 u2) rfl (by kernel_rfl) (by kernel_rfl) (by kernel_rfl) (fun _ _ _ h => h) (Or.inl ⟨by rfl, fun w hSw => by have e1 := hSw.2.2.2.2.2.1; clear hSw; go_simp⟩) hHeld ?_
            simp only [Act.put, List.setIfInBounds_toArray, List.set_cons_zero, List.set_cons_succ]
            refine wpAnyH_take (i := 14) (oi := ⟨some 80, .binOp .add 3 (.tmp 77) (.tmp 79) 3, _, _, _, none⟩) (v := .int .i64 (IntKind.i64.wrap ((q : Int) + u2))) rfl (by kernel_rfl) (by kernel_rfl) (by kernel_rfl) (fun _ _ _ h => h) (Or.inl ⟨by rfl, fun w _ => by go_simp⟩) hHeld ?_
            simp only [Act.put, List.setIfInBounds_toArray, List.set_cons_zero, List.set_cons_succ]
            refine wpAnyH_take (i := 15) (oi := ⟨some 81, .fieldAddr 87 (.tmp 14) 3, _, _, _, none⟩) (v := .pointer (some ⟨G, 18, none⟩)) rfl (by kernel_rfl) (by kernel_rfl) (by kernel_rfl) (fun _ _ _ h => h) (Or.inl ⟨by rfl, fun w _ => by go_simp⟩) hHeld ?_
            simp only [Act.put, List.setIfInBounds_toArray, List.set_cons_zero, List.set_cons_succ]
            refine wpAnyH_take (i := 16) (oi := ⟨some 82, .load 4 (.tmp 81), _, _, _, none⟩) (v := .bool ok2) rfl (by kernel_rfl) (by kernel_rfl) (by kernel_rfl) (fun _ _ _ h => h) (Or.inl ⟨by rfl, fun w hSw => by have e1 := hSw.2.2.2.2.2.2; clear hSw; go_simp⟩) hHeld ?_
            simp only [Act.put, List.setIfInBounds_toArray, List.set_cons_zero, List.set_cons_succ]
            refine wpAnyH_ready (rs := [4]) (by kernel_rfl) (by simp) (AllReadyH.cons (o := ⟨some 70, .call { callee := .value (.func 20), args := #[.tmp 67, .tmp 69], argTypes := #[31, 31] }, _, _, _, none⟩) rfl (fun K' hK => ?_) (AllReadyH.nil))
            go_simp
            refine (HN.out _ lr.drew).mono ?_
            rintro e u4 ⟨rfl, l4⟩
            replace lr := Later.trans_ lr.drew l4
            replace b10 := b10.drew.keep l4
            replace b13 := b13.drew.keep l4
            replace b14' := b14'.drew.keep l4
            refine hK.out _ _ ⟨wk_dig b13 HD1.out.1, wk_dig b14' HD2.out.1, wk_found b13 HD1.out.1, wk_path b13 HD1.out.1, wk_found b14' HD2.out.1, wk_path b14' HD2.out.1, wk_ok b14' HD2.out.1⟩ (fun hHeld => ?_)
            clear hK K'
            try simp only [Act.put, List.setIfInBounds_toArray, List.set_cons_zero, List.set_cons_succ]
            refine wpAnyH_take (i := 17) (oi := ⟨some 83, .build 87 #[(0, .tmp 70), (1, .tmp 75), (2, .tmp 80), (3, .tmp 82)], _, _, _, none⟩) (v := .agg (WkC N (IntKind.i64.wrap ((x : Int) + f2)) (IntKind.i64.wrap ((q : Int) + u2)) ok2).toArray) rfl (by kernel_rfl) (by kernel_rfl) (by kernel_rfl) (fun _ _ _ h => h) (yieldsIf_wk (by rfl) #[(0, .tmp 70), (1, .tmp 75), (2, .tmp 80), (3, .tmp 82)] #[(0, .agg (U N).toArray), (1, .int .i64 (IntKind.i64.wrap ((x : Int) + f2))), (2, .int .i64 (IntKind.i64.wrap ((q : Int) + u2))), (3, .bool ok2)] (WkC N (IntKind.i64.wrap ((x : Int) + f2)) (IntKind.i64.wrap ((q : Int) + u2)) ok2).toArray rfl rfl (run_wka HNl.out.1 (IntKind.i64.wrap ((x : Int) + f2)) (IntKind.i64.wrap ((q : Int) + u2)) ok2)) hHeld ?_
            simp only [Act.put, List.setIfInBounds_toArray, List.set_cons_zero, List.set_cons_succ]
            refine wpAnyH_ready (rs := [18]) (by kernel_rfl) (by simp) (AllReadyH.cons (o := ⟨none, .store 87 (.tmp 10) (.tmp 83), _, _, _, none⟩) rfl (fun K' hK => ?_) (AllReadyH.nil))
            refine wp_store_whole _ _ _ rfl w.heap.size 87 (WkC zD 0 0 false) (WkC N (IntKind.i64.wrap ((x : Int) + f2)) (IntKind.i64.wrap ((q : Int) + u2)) ok2) rfl rfl b10 (WkC_sz HNl.out.1 _ _ _) (WkC_same zD_len HNl.out.1 _ _ _ _ _ _) (WkC_one _ _ _ _) ?_
            intro u5 b10' o5
            replace b13 := b13.only o5 HNE.out
            replace b14' := b14'.only o5 hn10
            replace lr := Below.only lr o5 (Nat.le_refl _)
            refine hK.out _ _ ⟨wk_dig b13 HD1.out.1, wk_dig b14' HD2.out.1, wk_found b13 HD1.out.1, wk_path b13 HD1.out.1, wk_found b14' HD2.out.1, wk_path b14' HD2.out.1, wk_ok b14' HD2.out.1⟩ (fun hHeld => ?_)
            clear hK K'
            try simp only [Act.put]
            refine wpAnyH_done (by kernel_rfl) ?_ _
            clear hHeld
            try simp only [Act.put]
            go_wp2_with fail
            exact bodyPost_ret (v := .agg (WkC N (IntKind.i64.wrap ((x : Int) + f2)) (IntKind.i64.wrap ((q : Int) + u2)) ok2).toArray) (wk_ret Tryd.results49 _ w.heap.size _ HNl.out.1 rfl b10') rfl ⟨N, _, _, ok2, rfl, HNl.out, lr, HPP⟩
          · go_simp
            refine hK.out _ (u0.alloc (.cells (WkC zD 0 0 false).toArray 87)) ⟨wk_found (b13.alloc _) HD1.out.1, wk_path (b13.alloc _) HD1.out.1⟩ (fun hHeld => ?_)
            clear hK K'
            try simp only [Act.put, List.setIfInBounds_toArray, List.set_cons_zero, List.set_cons_succ]
            have b14 : Blk (u0.alloc (.cells (WkC zD 0 0 false).toArray 87)) u0.heap.size 87 (WkC zD 0 0 false) := Blk.new u0 _ _ _ rfl
            have s0 := laterX u0 (.cells (WkC zD 0 0 false).toArray 87)
            replace lr := Later.trans_ lr s0
            replace sq := sq.keep s0
            have hn10 : u0.heap.size ≠ w.heap.size := Nat.ne_of_gt b10.lt
            have hn13 : u0.heap.size ≠ B13 := Nat.ne_of_gt b13.lt
            have hwG := Nat.le_of_lt b10.lt
            replace b10 := b10.keep s0
            replace b13 := b13.keep s0
            clear s0
            obtain ⟨G, hG⟩ : ∃ G, G = u0.heap.size := ⟨_, rfl⟩
            rw [← hG] at b14 hn10 hn13 hwG ⊢
            clear hG
            generalize u0.alloc (.cells (WkC zD 0 0 false).toArray 87) = wa at lr sq b10 b13 b14 hHeld ⊢
            refine wpAnyH_ready (rs := [15]) (by kernel_rfl) (by simp) (AllReadyH.cons (o := ⟨some 65, .call { callee := .value (.func 49), args := #[.tmp 52, .tmp 55, .tmp 56, .tmp 60, .tmp 64], argTypes := #[3, 3, 37, 22, 22] }, _, _, _, none⟩) rfl (fun K' hK => ?_) (AllReadyH.nil))
            go_simp
            refine (HB.out _ Aq cq lr sq).mono ?_
            rintro e wb ⟨d2, f2, u2, ok2, rfl, hd2, l2, hi2⟩
            replace lr := Later.trans_ lr l2
            replace sq := sq.keep l2
            replace b10 := b10.keep l2
            replace b13 := b13.keep l2
            replace b14 := b14.keep l2
            refine hK.out _ _ ⟨wk_found b13 HD1.out.1, wk_path b13 HD1.out.1⟩ (fun hHeld => ?_)
            clear hK K'
            try simp only [Act.put, List.setIfInBounds_toArray, List.set_cons_zero, List.set_cons_succ]
            refine wpAnyH_ready (rs := [17]) (by kernel_rfl) (by simp) (AllReadyH.cons (o := ⟨none, .store 87 (.tmp 14) (.tmp 65), _, _, _, none⟩) rfl (fun K' hK => ?_) (AllReadyH.nil))
            refine wp_store_whole _ _ _ rfl G 87 (WkC zD 0 0 false) (WkC d2 f2 u2 ok2) rfl rfl b14 (WkC_sz hd2.1 _ _ _) (WkC_same zD_len hd2.1 _ _ _ _ _ _) (WkC_one _ _ _ _) ?_
            intro u3 b14' o3
            replace b10 := b10.only o3 hn10.symm
            replace b13 := b13.only o3 hn13.symm
            replace lr := Below.only lr o3 hwG
            refine hK.out _ _ ⟨wk_found b13 HD1.out.1, wk_path b13 HD1.out.1⟩ (fun hHeld => ?_)
            clear hK K'
            try simp only [Act.put]
            refine wpAnyH_done (by kernel_rfl) ?_ _
            clear hHeld b14 HB
            try simp only [Act.put]
            have HN := Lib.hid fun (w' : World) (h : Later w w') => refNode_any d1 d2 w' HD1.out.1 hd2.1 (TB.out.keep h)
            have HPP := Lib.hid (HPOST.out d2 f2 u2 ok2 hi2)
            obtain ⟨N, hN⟩ : ∃ N, N = nodeD d1 d2 := ⟨_, rfl⟩
            have HNl : Hid (N.length = 16 ∧ Wm.isBs N) := Lib.hid (by rw [hN]; exact ⟨nodeD_len _ _, nodeD_bs _ _⟩)
            rw [← hN] at HN HPP
            have HD2 := Lib.hid hd2
            clear hN hi2 hd2
            go_wp2_with fail
            refine wp_region_held_drew (S := fun w' => w'.rangeAt B13 0 (U d1) ∧ w'.rangeAt G 0 (U d2) ∧ w'.cell? ⟨B13, 16, none⟩ = some (.int .i64 (x : Int)) ∧ w'.cell? ⟨B13, 17, none⟩ = some (.int .i64 (q : Int)) ∧ w'.cell? ⟨G, 16, none⟩ = some (.int .i64 f2) ∧ w'.cell? ⟨G, 17, none⟩ = some (.int .i64 u2) ∧ w'.cell? ⟨G, 18, none⟩ = some (.bool ok2)) (by kernel_rfl) ⟨wk_dig b13.drew HD1.out.1, wk_dig b14'.drew HD2.out.1, wk_found b13.drew HD1.out.1, wk_path b13.drew HD1.out.1, wk_found b14'.drew HD2.out.1, wk_path b14'.drew HD2.out.1, wk_ok b14'.drew HD2.out.1⟩ (fun hHeld => ?_)
            refine wpAnyH_take (i := 0) (oi := ⟨some 66, .fieldAddr 87 (.tmp 13) 0, _, _, _, none⟩) (v := .pointer (some ⟨B13, 0, none⟩)) rfl (by kernel_rfl) (by kernel_rfl) (by kernel_rfl) (fun _ _ _ h => h) (Or.inl ⟨by rfl, fun w _ => by go_simp⟩) hHeld ?_
            simp only [Act.put, List.setIfInBounds_toArray, List.set_cons_zero, List.set_cons_succ]
            refine wpAnyH_take (i := 1) (oi := ⟨some 67, .load 31 (.tmp 66), _, _, _, none⟩) (v := .agg (U d1).toArray) rfl (by kernel_rfl) (by kernel_rfl) (by kernel_rfl) (fun _ _ _ h => h) (yieldsIf_load_mid (by rfl) _ _ rfl _ _ rfl _ _ (fun w h => h.1) Tryd.underlying31 rfl (dig_sz HD1.out.1)) hHeld ?_
            simp only [Act.put, List.setIfInBounds_toArray, List.set_cons_zero, List.set_cons_succ]
            refine wpAnyH_take (i := 2) (oi := ⟨some 68, .fieldAddr 87 (.tmp 14) 0, _, _, _, none⟩) (v := .pointer (some ⟨G, 0, none⟩)) rfl (by kernel_rfl) (by kernel_rfl) (by kernel_rfl) (fun _ _ _ h => h) (Or.inl ⟨by rfl, fun w _ => by go_simp⟩) hHeld ?_
            simp only [Act.put, List.setIfInBounds_toArray, List.set_cons_zero, List.set_cons_succ]
            refine wpAnyH_take (i := 3) (oi := ⟨some 69, .load 31 (.tmp 68), _, _, _, none⟩) (v := .agg (U d2).toArray) rfl (by kernel_rfl) (by kernel_rfl) (by kernel_rfl) (fun _ _ _ h => h) (yieldsIf_load_mid (by rfl) _ _ rfl _ _ rfl _ _ (fun w h => h.2.1) Tryd.underlying31 rfl (dig_sz HD2.out.1)) hHeld ?_
            simp only [Act.put, List.setIfInBounds_toArray, List.set_cons_zero, List.set_cons_succ]
            refine wpAnyH_take (i := 5) (oi := ⟨some 71, .fieldAddr 87 (.tmp 13) 1, _, _, _, none⟩) (v := .pointer (some ⟨B13, 16, none⟩)) rfl (by kernel_rfl) (by kernel_rfl) (by kernel_rfl) (fun _ _ _ h => h) (Or.inl ⟨by rfl, fun w _ => by go_simp⟩) hHeld ?_
            simp only [Act.put, List.setIfInBounds_toArray, List.set_cons_zero, List.set_cons_succ]
            refine wpAnyH_take (i := 6) (oi := ⟨some 72, .load 3 (.tmp 71), _, _, _, none⟩) (v := .int .i64 (x : Int)) rfl (by kernel_rfl) (by kernel_rfl) (by kernel_rfl) (fun _ _ _ h => h) (Or.inl ⟨by rfl, fun w hSw => by have e1 := hSw.2.2.1; clear hSw; go_simp⟩) hHeld ?_
            simp only [Act.put, List.setIfInBounds_toArray, List.set_cons_zero, List.set_cons_succ]
            refine wpAnyH_take (i := 7) (oi := ⟨some 73, .fieldAddr 87 (.tmp 14) 1, _, _, _, none⟩) (v := .pointer (some ⟨G, 16, none⟩)) rfl (by kernel_rfl) (by kernel_rfl) (by kernel_rfl) (fun _ _ _ h => h) (Or.inl ⟨by rfl, fun w _ => by go_simp⟩) hHeld ?_
            simp only [Act.put, List.setIfInBounds_toArray, List.set_cons_zero, List.set_cons_succ]
            refine wpAnyH_take (i := 8) (oi := ⟨some 74, .load 3 (.tmp 73), _, _, _, none⟩) (v := .int .i64 f2) rfl (by kernel_rfl) (by kernel_rfl) (by kernel_rfl) (fun _ _ _ h => h) (Or.inl ⟨by rfl, fun w hSw => by have e1 := hSw.2.2.2.2.1; clear hSw; go_simp⟩) hHeld ?_
            simp only [Act.put, List.setIfInBounds_toArray, List.set_cons_zero, List.set_cons_succ]
            refine wpAnyH_take (i := 9) (oi := ⟨some 75, .binOp .add 3 (.tmp 72) (.tmp 74) 3, _, _, _, none⟩) (v := .int .i64 (IntKind.i64.wrap ((x : Int) + f2))) rfl (by kernel_rfl) (by kernel_rfl) (by kernel_rfl) (fun _ _ _ h => h) (Or.inl ⟨by rfl, fun w _ => by go_simp⟩) hHeld ?_
            simp only [Act.put, List.setIfInBounds_toArray, List.set_cons_zero, List.set_cons_succ]
            refine wpAnyH_take (i := 10) (oi := ⟨some 76, .fieldAddr 87 (.tmp 13) 2, _, _, _, none⟩) (v := .pointer (some ⟨B13, 17, none⟩)) rfl (by kernel_rfl) (by kernel_rfl) (by kernel_rfl) (fun _ _ _ h => h) (Or.inl ⟨by rfl, fun w _ => by go_simp⟩) hHeld ?_
            simp only [Act.put, List.setIfInBounds_toArray, List.set_cons_zero, List.set_cons_succ]
            refine wpAnyH_take (i := 11) (oi := ⟨some 77, .load 3 (.tmp 76), _, _, _, none⟩) (v := .int .i64 (q : Int)) rfl (by kernel_rfl) (by kernel_rfl) (by kernel_rfl) (fun _ _ _ h => h) (Or.inl ⟨by rfl, fun w hSw => by have e1 := hSw.2.2.2.1; clear hSw; go_simp⟩) hHeld ?_
            simp only [Act.put, List.setIfInBounds_toArray, List.set_cons_zero, List.set_cons_succ]
            refine wpAnyH_take (i := 12) (oi := ⟨some 78, .fieldAddr 87 (.tmp 14) 2, _, _, _, none⟩) (v := .pointer (some ⟨G, 17, none⟩)) rfl (by kernel_rfl) (by kernel_rfl) (by kernel_rfl) (fun _ _ _ h => h) (Or.inl ⟨by rfl, fun w _ => by go_simp⟩) hHeld ?_
            simp only [Act.put, List.setIfInBounds_toArray, List.set_cons_zero, List.set_cons_succ]
            refine wpAnyH_take (i := 13) (oi := ⟨some 79, .load 3 (.tmp 78), _, _, _, none⟩) (v := .int .i64 u2) rfl (by kernel_rfl) (by kernel_rfl) (by kernel_rfl) (fun _ _ _ h => h) (Or.inl ⟨by rfl, fun w hSw => by have e1 := hSw.2.2.2.2.2.1; clear hSw; go_simp⟩) hHeld ?_
            simp only [Act.put, List.setIfInBounds_toArray, List.set_cons_zero, List.set_cons_succ]
            refine wpAnyH_take (i := 14) (oi := ⟨some 80, .binOp .add 3 (.tmp 77) (.tmp 79) 3, _, _, _, none⟩) (v := .int .i64 (IntKind.i64.wrap ((q : Int) + u2))) rfl (by kernel_rfl) (by kernel_rfl) (by kernel_rfl) (fun _ _ _ h => h) (Or.inl ⟨by rfl, fun w _ => by go_simp⟩) hHeld ?_
            simp only [Act.put, List.setIfInBounds_toArray, List.set_cons_zero, List.set_cons_succ]
            refine wpAnyH_take (i := 15) (oi := ⟨some 81, .fieldAddr 87 (.tmp 14) 3, _, _, _, none⟩) (v := .pointer (some ⟨G, 18, none⟩)) rfl (by kernel_rfl) (by kernel_rfl) (by kernel_rfl) (fun _ _ _ h => h) (Or.inl ⟨by rfl, fun w _ => by go_simp⟩) hHeld ?_
            simp only [Act.put, List.setIfInBounds_toArray, List.set_cons_zero, List.set_cons_succ]
            refine wpAnyH_take (i := 16) (oi := ⟨some 82, .load 4 (.tmp 81), _, _, _, none⟩) (v := .bool ok2) rfl (by kernel_rfl) (by kernel_rfl) (by kernel_rfl) (fun _ _ _ h => h) (Or.inl ⟨by rfl, fun w hSw => by have e1 := hSw.2.2.2.2.2.2; clear hSw; go_simp⟩) hHeld ?_
            simp only [Act.put, List.setIfInBounds_toArray, List.set_cons_zero, List.set_cons_succ]
            refine wpAnyH_ready (rs := [4]) (by kernel_rfl) (by simp) (AllReadyH.cons (o := ⟨some 70, .call { callee := .value (.func 20), args := #[.tmp 67, .tmp 69], argTypes := #[31, 31] }, _, _, _, none⟩) rfl (fun K' hK => ?_) (AllReadyH.nil))
            go_simp
            refine (HN.out _ lr.drew).mono ?_
            rintro e u4 ⟨rfl, l4⟩
            replace lr := Later.trans_ lr.drew l4
            replace b10 := b10.drew.keep l4
            replace b13 := b13.drew.keep l4
            replace b14' := b14'.drew.keep l4
            refine hK.out _ _ ⟨wk_dig b13 HD1.out.1, wk_dig b14' HD2.out.1, wk_found b13 HD1.out.1, wk_path b13 HD1.out.1, wk_found b14' HD2.out.1, wk_path b14' HD2.out.1, wk_ok b14' HD2.out.1⟩ (fun hHeld => ?_)
            clear hK K'
            try simp only [Act.put, List.setIfInBounds_toArray, List.set_cons_zero, List.set_cons_succ]
            refine wpAnyH_take (i := 17) (oi := ⟨some 83, .build 87 #[(0, .tmp 70), (1, .tmp 75), (2, .tmp 80), (3, .tmp 82)], _, _, _, none⟩) (v := .agg (WkC N (IntKind.i64.wrap ((x : Int) + f2)) (IntKind.i64.wrap ((q : Int) + u2)) ok2).toArray) rfl (by kernel_rfl) (by kernel_rfl) (by kernel_rfl) (fun _ _ _ h => h) (yieldsIf_wk (by rfl) #[(0, .tmp 70), (1, .tmp 75), (2, .tmp 80), (3, .tmp 82)] #[(0, .agg (U N).toArray), (1, .int .i64 (IntKind.i64.wrap ((x : Int) + f2))), (2, .int .i64 (IntKind.i64.wrap ((q : Int) + u2))), (3, .bool ok2)] (WkC N (IntKind.i64.wrap ((x : Int) + f2)) (IntKind.i64.wrap ((q : Int) + u2)) ok2).toArray rfl rfl (run_wka HNl.out.1 (IntKind.i64.wrap ((x : Int) + f2)) (IntKind.i64.wrap ((q : Int) + u2)) ok2)) hHeld ?_
            simp only [Act.put, List.setIfInBounds_toArray, List.set_cons_zero, List.set_cons_succ]
            refine wpAnyH_ready (rs := [18]) (by kernel_rfl) (by simp) (AllReadyH.cons (o := ⟨none, .store 87 (.tmp 10) (.tmp 83), _, _, _, none⟩) rfl (fun K' hK => ?_) (AllReadyH.nil))
            refine wp_store_whole _ _ _ rfl w.heap.size 87 (WkC zD 0 0 false) (WkC N (IntKind.i64.wrap ((x : Int) + f2)) (IntKind.i64.wrap ((q : Int) + u2)) ok2) rfl rfl b10 (WkC_sz HNl.out.1 _ _ _) (WkC_same zD_len HNl.out.1 _ _ _ _ _ _) (WkC_one _ _ _ _) ?_
            intro u5 b10' o5
            replace b13 := b13.only o5 HNE.out
            replace b14' := b14'.only o5 hn10
            replace lr := Below.only lr o5 (Nat.le_refl _)
            refine hK.out _ _ ⟨wk_dig b13 HD1.out.1, wk_dig b14' HD2.out.1, wk_found b13 HD1.out.1, wk_path b13 HD1.out.1, wk_found b14' HD2.out.1, wk_path b14' HD2.out.1, wk_ok b14' HD2.out.1⟩ (fun hHeld => ?_)
            clear hK K'
            try simp only [Act.put]
            refine wpAnyH_done (by kernel_rfl) ?_ _
            clear hHeld
            try simp only [Act.put]
            go_wp2_with fail
            exact bodyPost_ret (v := .agg (WkC N (IntKind.i64.wrap ((x : Int) + f2)) (IntKind.i64.wrap ((q : Int) + u2)) ok2).toArray) (wk_ret Tryd.results49 _ w.heap.size _ HNl.out.1 rfl b10') rfl ⟨N, _, _, ok2, rfl, HNl.out, lr, HPP⟩
end Go.Proofs.YtaihfkcoiagdaabDoor

/-
  WALKS: the reference's CheckMany.
-/
namespace Go.Proofs.YtaihfkcoiagdaabDoor
open Go.RowKit Go.ChangeShapes Go.WideShapes Go.ChangeAt

theorem wpList_mid_g {P : Program} {ops : Array Oper} {rest : List Oper} {o : Oper} {a : Act} {w : World} {Q : Exit → Act → World → Prop} (ty : TypeId) (x : Operand) (ho : o.op = .load ty x)
    (g off : Nat) (cs : List Value) (d : TypeDesc) (hw : Region.wanted o (yielded ops a.tmps) = true) (hx : a.eval x = .pointer (some ⟨g, off, none⟩)) (hr : w.rangeAt g off cs)
    (hu : P.underlying ty = some d) (hd : d.isRow = true) (hi : (P.info? ty).map (·.size) = some cs.length)
    (h : wpList P ops Q rest (a.put o.dst (.agg cs.toArray)) w) : wpList P ops Q (o :: rest) a w :=
  wpList_step fun K hK => by
    rw [hw, if_pos rfl]
    exact wp_load_mid ty x ho g off hx cs d hr hu hd hi (hK _ _ h)

set_option maxRecDepth 100000 in
set_option maxHeartbeats 1000000 in
theorem refCheckMany_bad (rt : Wm.Bs) (n : Int) (A1 : Option Addr) (kp c1 : Nat) (ps : List Int) (A2 : Option Addr) (kf c2 : Nat) (v : Value) (w : World) (hsp : Sl w 1 A1 kp (N64 ps)) (hk : kp ≤ 9223372036854775807)
    (h : n < 0 ∨ 1099511627776 < n ∨ arePl (-1) ps n = false ∨ kf ≠ kp) :
    Calls Tryd.prog 24 #[.int .i64 n, .slice A1 kp c1, .slice A2 kf c2, v, .agg (U rt).toArray] w fun e w' => e = .returned (.bool false) ∧ Later w w' := by
  obtain ⟨Y, hY⟩ : ∃ Y, Y = (U rt).toArray := ⟨_, rfl⟩
  rw [← hY]
  clear hY
  have HP := Lib.hid fun (w' : World) (hw : Later w w') => refAscend_any A1 kp c1 ps n w' (hsp.keep hw) hk
  have HL3 := Lib.hid (laterX w (.cells Y 31))
  clear hsp
  by_cases h1 : n < 0
  · go_enter Tryd.func24, Tryd.ntmps24
    go_wp2
    go_ret
    exact ⟨rfl, HL3.out⟩
  · have h1' : 0 ≤ n := by omega
    by_cases h2 : 1099511627776 < n
    · go_enter Tryd.func24, Tryd.ntmps24
      go_wp2
      go_ret
      exact ⟨rfl, HL3.out⟩
    · have h2' : n ≤ 1099511627776 := by omega
      cases hb : arePl (-1) ps n with
      | false =>
        rw [hb] at HP
        clear h hb
        go_enter Tryd.func24, Tryd.ntmps24
        go_wp2_with (go_at_call 45; refine (HP.out _ HL3.out).mono ?_; rintro e w1 ⟨rfl, l1⟩)
        go_ret
        exact ⟨rfl, Later.trans_ HL3.out l1⟩
      | true =>
        have h3 : kf ≠ kp := by
          rcases h with h | h | h | h
          · omega
          · omega
          · rw [hb] at h; cases h
          · exact h
        have h3' : ((kf : Int) == (kp : Int)) = false := by rw [beq_eq_false_iff_ne]; omega
        have h3'' : ¬ kf = kp := h3
        rw [hb] at HP
        clear h hb
        go_enter Tryd.func24, Tryd.ntmps24
        go_wp2_with (go_at_call 45; refine (HP.out _ HL3.out).mono ?_; rintro e w1 ⟨rfl, l1⟩)
        go_ret
        exact ⟨rfl, Later.trans_ HL3.out l1⟩

set_option maxRecDepth 100000 in
set_option maxHeartbeats 1000000 in
theorem refCheckMany_zero (rt : Wm.Bs) (A1 A2 : Option Addr) (kp c1 c2 : Nat) (ps : List Int) (A3 : Option Addr) (k3 c3 : Nat) (T : List Wm.Bs) (w : World) (hdr : rt.length = 16 ∧ Wm.isBs rt)
    (hsp : Sl w 1 A1 kp (N64 ps)) (hk : kp ≤ 9223372036854775807) (hb : arePl (-1) ps 0 = true) (hT : T.length = k3) (tab : Tab0 w) :
    Calls Tryd.prog 24 #[.int .i64 0, .slice A1 kp c1, .slice A2 kp c2, .slice A3 k3 c3, .agg (U rt).toArray] w fun e w' => e = .returned (.bool (decide (rt = emptyD) && !(⟨T, false⟩ : Mk.Tr Wm.Bs).short && decide ((⟨T, false⟩ : Mk.Tr Wm.Bs).rest = []))) ∧ Later w w' := by
  have HP := Lib.hid fun (w' : World) (hw : Later w w') => (by have h := refAscend_any A1 kp c1 ps 0 w' (hsp.keep hw) hk; rw [hb] at h; exact h : Calls Tryd.prog 45 #[.slice A1 kp c1, .int .i64 0] w' fun e w'' => e = .returned (.bool true) ∧ Later w' w'')
  have hgd : Tryd.prog.eqGuardType Tryd.prog.depth 31 = false := by kernel_rfl
  obtain ⟨Y, hY⟩ : ∃ Y, Y = (U rt).toArray := ⟨_, rfl⟩
  have HE := Lib.hid fun (w' : World) (hw : Later w w') => refEmpty_any w' (tab.keep hw)
  have hel : emptyD.length = 16 := digOf_len _
  obtain ⟨ED, hED⟩ : ∃ ED, ED = emptyD := ⟨_, rfl⟩
  rw [← hED] at HE hel ⊢
  have heq : ∀ w' : World, (Op.equalIn 10000 31 (.agg (U rt).toArray) (.agg (U ED).toArray)).run Tryd.prog w' = .ok (decide (rt = ED)) w' := fun w' => dig_eq hdr.1 hel w'
  rw [← hY]
  have HY := Lib.hid hY; have HRt := Lib.hid hdr.1
  obtain ⟨b, hb'⟩ : ∃ b, b = decide (rt = ED) := ⟨_, rfl⟩
  rw [← hb'] at heq ⊢
  have hz : decide ((⟨T, false⟩ : Mk.Tr Wm.Bs).rest = []) = decide (k3 = 0) := by rw [← hT]; simp
  rw [hz]
  clear hb' hb hY hED hel hdr tab hsp hz
  by_cases h0 : k3 = 0
  · subst h0
    have HQ : Hid ((b && !(⟨T, false⟩ : Mk.Tr Wm.Bs).short && decide (0 = 0)) = b) := Lib.hid (by simp)
    rw [HQ.out]
    go_enter Tryd.func24, Tryd.ntmps24
    go_wp2_with (go_at_call 45; refine (HP.out _ (laterX _ _)).mono ?_; rintro e w1 ⟨rfl, l1⟩; have lr := Later.trans_ (laterX w _) l1; have b9 : Blk w1 w.heap.size 31 (U rt) := (Blk.new w _ _ _ HY.out).keep l1)
    refine wp_region_held_drew (S := fun w' => w'.rangeAt w.heap.size 0 (U rt)) (by kernel_rfl) (blk_at b9.drew) (fun hHeld => ?_)
    refine wpAnyH_take (i := 0) (oi := ⟨some 33, .move (.tmp 3), _, _, _, none⟩) (v := .slice A3 0 c3) rfl (by kernel_rfl) (by kernel_rfl) (by kernel_rfl) (fun _ _ _ h => h) (Or.inl ⟨by rfl, fun _ _ => rfl⟩) hHeld ?_
    simp only [Act.put, List.setIfInBounds_toArray, List.set_cons_zero, List.set_cons_succ]
    refine wpAnyH_take (i := 1) (oi := ⟨some 34, .call { callee := .builtin .len, args := #[.tmp 33], argTypes := #[22] }, _, _, _, none⟩) (v := .int .i64 0) rfl (by kernel_rfl) (by kernel_rfl) (by kernel_rfl) (fun _ _ _ h => h) (Or.inl ⟨by rfl, fun w _ => by go_simp⟩) hHeld ?_
    simp only [Act.put, List.setIfInBounds_toArray, List.set_cons_zero, List.set_cons_succ]
    refine wpAnyH_take (i := 2) (oi := ⟨some 35, .binOp .eql 3 (.tmp 34) (.const (.int .i64 0)) 3, _, _, _, none⟩) (v := .bool true) rfl (by kernel_rfl) (by kernel_rfl) (by kernel_rfl) (fun _ _ _ h => h) (Or.inl ⟨by rfl, fun w _ => by go_simp⟩) hHeld ?_
    simp only [Act.put, List.setIfInBounds_toArray, List.set_cons_zero, List.set_cons_succ]
    refine wpAnyH_take (i := 3) (oi := ⟨some 36, .move (.tmp 35), _, _, _, none⟩) (v := .bool true) rfl (by kernel_rfl) (by kernel_rfl) (by kernel_rfl) (fun _ _ _ h => h) (Or.inl ⟨by rfl, fun _ _ => rfl⟩) hHeld ?_
    simp only [Act.put, List.setIfInBounds_toArray, List.set_cons_zero, List.set_cons_succ]
    refine wpAnyH_take (i := 4) (oi := ⟨some 37, .load 31 (.tmp 9), _, _, _, _⟩) (v := .agg (U rt).toArray) rfl (by kernel_rfl) (by kernel_rfl) (by kernel_rfl) (fun _ _ _ h => h) (yieldsIf_load_mid (by rfl) _ _ rfl _ _ rfl _ _ (fun w h => h) Tryd.underlying31 rfl (dig_sz HRt.out)) hHeld ?_
    simp only [Act.put, List.setIfInBounds_toArray, List.set_cons_zero, List.set_cons_succ]
    refine wpAnyH_ready (rs := [5]) (by kernel_rfl) (by simp) (AllReadyH.cons (o := ⟨some 38, .call { callee := .value (.func 39), args := #[], argTypes := #[] }, _, _, _, _⟩) rfl (fun K' hK => ?_) (AllReadyH.nil))
    go_simp
    refine (HE.out _ lr.drew).mono ?_
    rintro e w2 ⟨rfl, l2⟩
    replace lr := Later.trans_ lr.drew l2
    replace b9 := b9.drew.keep l2
    refine hK.out _ _ (blk_at b9) (fun hHeld => ?_)
    clear hK K'
    try simp only [Act.put, List.setIfInBounds_toArray, List.set_cons_zero, List.set_cons_succ]
    refine wpAnyH_take (i := 6) (oi := ⟨some 39, .binOp .eql 31 (.tmp 37) (.tmp 38) 31, _, _, _, _⟩) (v := .bool b) rfl (by kernel_rfl) (by kernel_rfl) (by kernel_rfl) (fun _ _ _ h => h) (Or.inl ⟨by rfl, fun w _ => by go_simp⟩) hHeld ?_
    simp only [Act.put, List.setIfInBounds_toArray, List.set_cons_zero, List.set_cons_succ]
    refine wpAnyH_take (i := 7) (oi := ⟨some 40, .pick (.tmp 36) (.tmp 39) (.const (.bool false)), _, _, _, none⟩) (v := .bool b) rfl (by kernel_rfl) (by kernel_rfl) (by kernel_rfl) (fun _ _ _ h => h) (Or.inl ⟨by rfl, fun w _ => by go_simp⟩) hHeld ?_
    simp only [Act.put, List.setIfInBounds_toArray, List.set_cons_zero, List.set_cons_succ]
    refine wpAnyH_take (i := 8) (oi := ⟨some 10, .assign (.tmp 40), _, _, _, none⟩) (v := .bool b) rfl (by kernel_rfl) (by kernel_rfl) (by kernel_rfl) (fun _ _ _ h => h) (Or.inl ⟨by rfl, fun _ _ => rfl⟩) hHeld ?_
    simp only [Act.put, List.setIfInBounds_toArray, List.set_cons_zero, List.set_cons_succ]
    refine wpAnyH_done (by kernel_rfl) ?_ _
    clear hHeld
    go_wp2
    go_ret
    exact ⟨rfl, lr⟩
  · have HQ : Hid ((b && !(⟨T, false⟩ : Mk.Tr Wm.Bs).short && decide (k3 = 0)) = false) := Lib.hid (by rw [decide_eq_false h0, Bool.and_false])
    rw [HQ.out]
    have h0' : ((k3 : Int) == 0) = false := by rw [beq_eq_false_iff_ne]; omega
    go_enter Tryd.func24, Tryd.ntmps24
    go_wp2_with (go_at_call 45; refine (HP.out _ (laterX _ _)).mono ?_; rintro e w1 ⟨rfl, l1⟩; have lr := Later.trans_ (laterX w _) l1)
    refine wp_region_held_drew (S := fun w' => True) (by kernel_rfl) trivial (fun hHeld => ?_)
    refine wpAnyH_take (i := 0) (oi := ⟨some 33, .move (.tmp 3), _, _, _, none⟩) (v := .slice A3 k3 c3) rfl (by kernel_rfl) (by kernel_rfl) (by kernel_rfl) (fun _ _ _ h => h) (Or.inl ⟨by rfl, fun _ _ => rfl⟩) hHeld ?_
    simp only [Act.put, List.setIfInBounds_toArray, List.set_cons_zero, List.set_cons_succ]
    refine wpAnyH_take (i := 1) (oi := ⟨some 34, .call { callee := .builtin .len, args := #[.tmp 33], argTypes := #[22] }, _, _, _, none⟩) (v := .int .i64 k3) rfl (by kernel_rfl) (by kernel_rfl) (by kernel_rfl) (fun _ _ _ h => h) (Or.inl ⟨by rfl, fun w _ => by go_simp⟩) hHeld ?_
    simp only [Act.put, List.setIfInBounds_toArray, List.set_cons_zero, List.set_cons_succ]
    refine wpAnyH_take (i := 2) (oi := ⟨some 35, .binOp .eql 3 (.tmp 34) (.const (.int .i64 0)) 3, _, _, _, none⟩) (v := .bool false) rfl (by kernel_rfl) (by kernel_rfl) (by kernel_rfl) (fun _ _ _ h => h) (Or.inl ⟨by rfl, fun w _ => by go_simp⟩) hHeld ?_
    simp only [Act.put, List.setIfInBounds_toArray, List.set_cons_zero, List.set_cons_succ]
    refine wpAnyH_take (i := 3) (oi := ⟨some 36, .move (.tmp 35), _, _, _, none⟩) (v := .bool false) rfl (by kernel_rfl) (by kernel_rfl) (by kernel_rfl) (fun _ _ _ h => h) (Or.inl ⟨by rfl, fun _ _ => rfl⟩) hHeld ?_
    simp only [Act.put, List.setIfInBounds_toArray, List.set_cons_zero, List.set_cons_succ]
    refine wpAnyH_take (i := 4) (oi := ⟨some 37, .load 31 (.tmp 9), _, _, _, _⟩) (v := undef) rfl (by kernel_rfl) (by kernel_rfl) (by kernel_rfl) (fun _ _ _ h => h) (Or.inr ⟨by rfl, rfl⟩) hHeld ?_
    simp only [Act.put, List.setIfInBounds_toArray, List.set_cons_zero, List.set_cons_succ]
    refine wpAnyH_take (i := 5) (oi := ⟨some 38, .call { callee := .value (.func 39), args := #[], argTypes := #[] }, _, _, _, _⟩) (v := undef) rfl (by kernel_rfl) (by kernel_rfl) (by kernel_rfl) (fun _ _ _ h => h) (Or.inr ⟨by rfl, rfl⟩) hHeld ?_
    simp only [Act.put, List.setIfInBounds_toArray, List.set_cons_zero, List.set_cons_succ]
    refine wpAnyH_take (i := 6) (oi := ⟨some 39, .binOp .eql 31 (.tmp 37) (.tmp 38) 31, _, _, _, _⟩) (v := undef) rfl (by kernel_rfl) (by kernel_rfl) (by kernel_rfl) (fun _ _ _ h => h) (Or.inr ⟨by rfl, rfl⟩) hHeld ?_
    simp only [Act.put, List.setIfInBounds_toArray, List.set_cons_zero, List.set_cons_succ]
    refine wpAnyH_take (i := 7) (oi := ⟨some 40, .pick (.tmp 36) (.tmp 39) (.const (.bool false)), _, _, _, none⟩) (v := .bool false) rfl (by kernel_rfl) (by kernel_rfl) (by kernel_rfl) (fun _ _ _ h => h) (Or.inl ⟨by rfl, fun w _ => by go_simp⟩) hHeld ?_
    simp only [Act.put, List.setIfInBounds_toArray, List.set_cons_zero, List.set_cons_succ]
    refine wpAnyH_take (i := 8) (oi := ⟨some 10, .assign (.tmp 40), _, _, _, none⟩) (v := .bool false) rfl (by kernel_rfl) (by kernel_rfl) (by kernel_rfl) (fun _ _ _ h => h) (Or.inl ⟨by rfl, fun _ _ => rfl⟩) hHeld ?_
    simp only [Act.put, List.setIfInBounds_toArray, List.set_cons_zero, List.set_cons_succ]
    refine wpAnyH_done (by kernel_rfl) ?_ _
    clear hHeld
    go_wp2
    go_ret
    exact ⟨rfl, lr.drew⟩

set_option maxRecDepth 100000 in
set_option maxHeartbeats 2000000 in
theorem refCheckMany_any (rt : Wm.Bs) (n : Nat) (A1 A2 : Option Addr) (kp c1 c2 : Nat) (ps : List Int) (F : List Wm.Bs) (A3 : Option Addr) (k3 c3 : Nat) (T : List Wm.Bs) (w : World) (hn1 : 1 ≤ n) (hn : n ≤ 1099511627776) (hdr : rt.length = 16 ∧ Wm.isBs rt)
    (hsp : Sl w 1 A1 kp (N64 ps)) (hsf : Sl w 16 A2 kp (Ds F)) (hlf : isD F) (hb : arePl (-1) ps n = true) (hk : kp ≤ 1000) (hk2 : kp ≤ c2) (hc2 : c2 ≤ 9223372036854775807)
    (hs : Sl w 16 A3 k3 (Ds T)) (hl : isD T) (hk3 : k3 ≤ 1000) (hkc : k3 ≤ c3) (hc : c3 ≤ 9223372036854775807) (tab : Tab0 w) :
    Calls Tryd.prog 24 #[.int .i64 n, .slice A1 kp c1, .slice A2 kp c2, .slice A3 k3 c3, .agg (U rt).toArray] w fun e w' => e = .returned (.bool (decide ((Mk.gather nodeD zD 0 n ps F ⟨T, false⟩).1 = rt) && !(Mk.gather nodeD zD 0 n ps F ⟨T, false⟩).2.short && decide ((Mk.gather nodeD zD 0 n ps F ⟨T, false⟩).2.rest = []))) ∧ Later w w' := by
  have HP := Lib.hid fun (w' : World) (hw : Later w w') => (by have h := refAscend_any A1 kp c1 ps n w' (hsp.keep hw) (by omega); rw [hb] at h; exact h : Calls Tryd.prog 45 #[.slice A1 kp c1, .int .i64 n] w' fun e w'' => e = .returned (.bool true) ∧ Later w' w'')
  have hgd : Tryd.prog.eqGuardType Tryd.prog.depth 31 = false := by kernel_rfl
  obtain ⟨hin, hasc⟩ := arePl_spec ps _ _ hb
  have hpl := hsp.ilen
  have hfl := hsf.dlen hlf
  have hTl := hs.dlen hl
  have ew : Mk.wi ps 0 (0 + n) = ps := Mk.wi_all (fun p hp => by have := hin p hp; omega)
  have HC := Lib.hid fun (w' : World) (hw : Later w w') => (by
    have h := refWalk_any n n 0 A1 kp c1 ps A2 kp c2 F A3 k3 c3 T w' (Nat.le_refl _) hn1 (by omega) (by omega) (hsp.keep hw) hk hasc (hsf.keep hw) hlf (by rw [ew]; omega) hk hk2 hc2 (hs.keep hw) hl hk3 hkc hc (tab.keep hw)
    rw [ew, List.take_of_length_le (by omega)] at h
    exact h : Calls Tryd.prog 49 #[.int .i64 0, .int .i64 n, .slice A1 kp c1, .slice A2 kp c2, .slice A3 k3 c3] w' (GotW (Mk.gather nodeD zD 0 n ps F ⟨T, false⟩) ps.length T.length w'))
  have hcd := gather_dig 0 n ps F ⟨T, false⟩ hl hlf
  have hgr := Mk.gather_rest nodeD zD n 0 n ps F ⟨T, false⟩ (Nat.le_refl _)
  obtain ⟨C, hC⟩ : ∃ C, C = Mk.gather nodeD zD 0 n ps F ⟨T, false⟩ := ⟨_, rfl⟩
  rw [← hC] at HC hcd hgr ⊢
  obtain ⟨cd, ⟨cr, cs⟩⟩ := C
  have heq : ∀ w' : World, (Op.equalIn 10000 31 (.agg (U cd).toArray) (.agg (U rt).toArray)).run Tryd.prog w' = .ok (decide (cd = rt)) w' := fun w' => dig_eq hcd.1 hdr.1 w'
  obtain ⟨Y, hY⟩ : ∃ Y, Y = (U rt).toArray := ⟨_, rfl⟩
  rw [← hY]
  have HY := Lib.hid hY; have HRt := Lib.hid hdr.1; have HCD := Lib.hid hcd
  have h0 : (0 : Int) ≤ (n : Int) := by omega
  have h2 : (n : Int) ≤ 1099511627776 := by omega
  have h3 : ((n : Int) == 0) = false := by rw [beq_eq_false_iff_ne]; omega
  obtain ⟨q, hq⟩ : ∃ q, q = decide (cd = rt) := ⟨_, rfl⟩
  rw [← hq] at heq
  rw [show decide ((cd, (⟨cr, cs⟩ : Mk.Tr Wm.Bs)).1 = rt) = q from hq.symm]
  cases cs with
  | true =>
    have HQ : Hid ((q && !(cd, (⟨cr, true⟩ : Mk.Tr Wm.Bs)).2.short && decide ((cd, (⟨cr, true⟩ : Mk.Tr Wm.Bs)).2.rest = [])) = false) := Lib.hid (by simp)
    rw [HQ.out]
    have HCC := Lib.hid fun (w' : World) (hw : Later w w') => ((HC.out w' hw).mono (fun e w'' h => by
      obtain ⟨d, f, u, ok, e1, hd, l, hi⟩ := h
      obtain rfl := hi.1 rfl
      exact ⟨d, f, u, e1, hd, l⟩) : Calls Tryd.prog 49 #[.int .i64 0, .int .i64 n, .slice A1 kp c1, .slice A2 kp c2, .slice A3 k3 c3] w' fun e w'' => ∃ d f u, e = .returned (.agg (WkC d f u false).toArray) ∧ (d.length = 16 ∧ Wm.isBs d) ∧ Later w' w'')
    clear hY hC hcd hdr tab hs hl hsp hsf hlf hin hasc hpl hfl hTl hb hgr HC hq ew heq
    go_enter Tryd.func24, Tryd.ntmps24
    go_wp2_with (first
      | ((with_reducible refine wpList_store_abs (o := ⟨none, .store 87 (.tmp 11) (.tmp 45), _, _, _, none⟩) rfl _ _ _ rfl w2.heap.size 87 (WkC zD 0 0 false) (WkC d1 f1 u1 false) ?_ ?_ (Blk.new w2 _ _ _ rfl) (WkC_sz hd1.1 _ _ _) (WkC_same zD_len hd1.1 _ _ _ _ _ _) (WkC_one _ _ _ _) ?_); rfl; rfl; intro w3 g13 o3; have k3' := Below.only (laterX w2 (.cells (WkC zD 0 0 false).toArray 87)) o3 (Nat.le_refl _); replace lr := Later.trans_ lr k3'; have ck := wk_ok g13 hd1.1)
      | (go_at_call 49; refine (HCC.out _ lr).mono ?_; rintro e w2 ⟨d1, f1, u1, rfl, hd1, l2⟩; replace lr := Later.trans_ lr l2)
      | (go_at_call 45; refine (HP.out _ (laterX _ _)).mono ?_; rintro e w1 ⟨rfl, l1⟩; have lr := Later.trans_ (laterX w _) l1))
    go_ret
    exact ⟨rfl, lr⟩
  | false =>
    obtain ⟨_, u, hu, hue⟩ := hgr rfl
    have hcr : cr = T.drop u := by simpa using hue
    have hcl : cr.length ≤ T.length := by rw [hcr, List.length_drop]; omega
    obtain ⟨U1, hU1⟩ : ∃ U1, U1 = T.length - cr.length := ⟨_, rfl⟩
    have HCC := Lib.hid fun (w' : World) (hw : Later w w') => ((HC.out w' hw).mono (fun e w'' h => by
      obtain ⟨d, f, u, ok, e1, hd, l, hi⟩ := h
      obtain ⟨rfl, rfl, rfl, rfl⟩ := hi.2 rfl
      simp only [← hU1] at e1
      exact ⟨e1, l⟩) : Calls Tryd.prog 49 #[.int .i64 0, .int .i64 n, .slice A1 kp c1, .slice A2 kp c2, .slice A3 k3 c3] w' fun e w'' => e = .returned (.agg (WkC cd (ps.length : Nat) (U1 : Nat) true).toArray) ∧ Later w' w'')
    obtain ⟨F1, hF1⟩ : ∃ F1, F1 = ps.length := ⟨_, rfl⟩
    rw [← hF1] at HCC
    by_cases hr : cr = []
    · have hk3u : U1 = k3 := by rw [hU1, hr, ← hTl]; rfl
      subst hk3u
      have HQ : Hid ((q && !(cd, (⟨cr, false⟩ : Mk.Tr Wm.Bs)).2.short && decide ((cd, (⟨cr, false⟩ : Mk.Tr Wm.Bs)).2.rest = [])) = q) := Lib.hid (by simp [hr])
      rw [HQ.out]
      clear hY hC hcd hdr tab hs hl hsp hsf hlf hin hasc hpl hfl hTl hb hgr HC hq ew hr hcr hcl hu hue hU1 hF1
      go_enter Tryd.func24, Tryd.ntmps24
      go_wp2_with (first
        | ((with_reducible refine wpList_mid_g (o := ⟨some 57, .load 31 (.tmp 56), _, _, _, _⟩) _ _ rfl w2.heap.size 0 (U cd) _ ?_ ?_ (wk_dig g13 HCD.out.1) Tryd.underlying31 rfl (dig_sz HCD.out.1) ?_); rfl; rfl)
        | ((with_reducible refine wpList_mid_g (o := ⟨some 58, .load 31 (.tmp 9), _, _, _, _⟩) _ _ rfl w.heap.size 0 (U rt) _ ?_ ?_ (blk_at b9) Tryd.underlying31 rfl (dig_sz HRt.out) ?_); rfl; rfl)
        | ((with_reducible refine wpList_store_abs (o := ⟨none, .store 87 (.tmp 11) (.tmp 45), _, _, _, none⟩) rfl _ _ _ rfl w2.heap.size 87 (WkC zD 0 0 false) (WkC cd (F1 : Nat) (U1 : Nat) true) ?_ ?_ (Blk.new w2 _ _ _ rfl) (WkC_sz HCD.out.1 _ _ _) (WkC_same zD_len HCD.out.1 _ _ _ _ _ _) (WkC_one _ _ _ _) ?_); rfl; rfl; intro w3 g13 o3; have k3' := Below.only (laterX w2 (.cells (WkC zD 0 0 false).toArray 87)) o3 (Nat.le_refl _); replace lr := Later.trans_ lr k3'; replace b9 := b9.keep k3'; have ck := wk_ok g13 HCD.out.1; have cu := wk_path g13 HCD.out.1)
        | (go_at_call 49; refine (HCC.out _ lr).mono ?_; rintro e w2 ⟨rfl, l2⟩; replace lr := Later.trans_ lr l2; replace b9 := b9.keep l2)
        | (go_at_call 45; refine (HP.out _ (laterX _ _)).mono ?_; rintro e w1 ⟨rfl, l1⟩; have lr := Later.trans_ (laterX w _) l1; have b9 : Blk w1 w.heap.size 31 (U rt) := (Blk.new w _ _ _ HY.out).keep l1))
      go_ret
      exact ⟨rfl, lr⟩
    · have hne : ((U1 : Int) == (k3 : Int)) = false := by
        have : 1 ≤ cr.length := by
          cases cr with
          | nil => exact absurd rfl hr
          | cons a r => simp
        rw [beq_eq_false_iff_ne]; omega
      have hne2 : ¬ U1 = k3 := by
        have := beq_eq_false_iff_ne.1 hne
        omega
      have HQ : Hid ((q && !(cd, (⟨cr, false⟩ : Mk.Tr Wm.Bs)).2.short && decide ((cd, (⟨cr, false⟩ : Mk.Tr Wm.Bs)).2.rest = [])) = false) := Lib.hid (by rw [decide_eq_false hr, Bool.and_false])
      rw [HQ.out]
      clear hY hC hcd hdr tab hs hl hsp hsf hlf hin hasc hpl hfl hTl hb hgr HC hq ew hr hcr hcl hu hue hU1 hF1 heq
      go_enter Tryd.func24, Tryd.ntmps24
      go_wp2_with (first
        | ((with_reducible refine wpList_store_abs (o := ⟨none, .store 87 (.tmp 11) (.tmp 45), _, _, _, none⟩) rfl _ _ _ rfl w2.heap.size 87 (WkC zD 0 0 false) (WkC cd (F1 : Nat) (U1 : Nat) true) ?_ ?_ (Blk.new w2 _ _ _ rfl) (WkC_sz HCD.out.1 _ _ _) (WkC_same zD_len HCD.out.1 _ _ _ _ _ _) (WkC_one _ _ _ _) ?_); rfl; rfl; intro w3 g13 o3; have k3' := Below.only (laterX w2 (.cells (WkC zD 0 0 false).toArray 87)) o3 (Nat.le_refl _); replace lr := Later.trans_ lr k3'; have ck := wk_ok g13 HCD.out.1; have cu := wk_path g13 HCD.out.1)
        | (go_at_call 49; refine (HCC.out _ lr).mono ?_; rintro e w2 ⟨rfl, l2⟩; replace lr := Later.trans_ lr l2)
        | (go_at_call 45; refine (HP.out _ (laterX _ _)).mono ?_; rintro e w1 ⟨rfl, l1⟩; have lr := Later.trans_ (laterX w _) l1))
      go_ret
      exact ⟨rfl, lr⟩
end Go.Proofs.YtaihfkcoiagdaabDoor
