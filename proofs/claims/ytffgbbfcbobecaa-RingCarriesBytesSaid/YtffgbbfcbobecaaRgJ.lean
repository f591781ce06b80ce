/-
  A RING: Take.
-/
import Derived.Test.YtffgbbfcbobecaaRgI
namespace Go.Proofs.Ytffgbbfcbobecaa
open Go.RowKit Go.ChangeShapes Go.WideShapes Go.ChangeAt

theorem results_ctt {P : Program} {fn : Func} {p q r : Tmp} {ty : TypeId} (h : fn.results = #[.cell p ty, .tmp q, .tmp r]) (tmps : Array Value) (w : World) (g : Nat) (t : TypeId) (cs : List Value) (v u : Value) (d : TypeDesc)
    (hp : tmps.getD p undef = .pointer (some ⟨g, 0, none⟩)) (hq : tmps.getD q undef = v) (hr : tmps.getD r undef = u) (hg : Blk w g t cs)
    (hu : P.underlying ty = some d) (hd : (match d with | .struct _ | .array _ _ => true | _ => false) = true) (hi : (P.info? ty).map (·.size) = some cs.length) :
    (results fn tmps).run P w = .ok (.tuple #[.agg cs.toArray, v, u]) w := by
  have hp' : tmps[p]?.getD undef = .pointer (some ⟨g, 0, none⟩) := by simpa using hp
  have hq' : tmps[q]?.getD undef = v := by simpa using hq
  have hr' : tmps[r]?.getD undef = u := by simpa using hr
  simp [results, h, hp', hq', hr', asAddr, run_loadVar_row w g t ty cs.toArray (0, 0) d hg hu hd (by rw [List.size_toArray]; exact hi)]
/-- What Take answers: a memory, parts, an error. -/
def GotT (n : Nat) (X : Wm.Bs) (l : List Rg.Pt) (er : Int) (w : World) (e : Ending) (w' : World) : Prop := ∃ g c1 AP m cp, e = .returned (.tuple #[.agg #[.slice (some ⟨g, 0, none⟩) n c1], .slice AP m cp, .int .i64 er]) ∧ w.heap.size ≤ g ∧ n ≤ c1 ∧ c1 ≤ maxLen ∧ Draft w' g n X ∧ m ≤ cp ∧ cp ≤ maxLen ∧ Sl w' 4 AP m (Ps l) ∧ l.length = m ∧ Later w w'
theorem takM_ok {L : Nat} {b : Wm.Bs} {B S i : Int} (h : Rg.takE L b B S i = 0) : Rg.takM L b B S i = Rg.mark b B (Rg.takL L b B S i) 2 := if_pos h
theorem takM_err {L : Nat} {b : Wm.Bs} {B S i : Int} (h : Rg.takE L b B S i ≠ 0) (ho : Rg.off b B i = true) : Rg.takM L b B S i = Rg.failM b B i (Rg.takE L b B S i) := by
  unfold Rg.takM Rg.failM
  have := (Rg.take_errs h).2
  rw [if_neg h, if_pos ho, if_neg (by omega)]
theorem takM_not {L : Nat} {b : Wm.Bs} {B S i : Int} (h : Rg.takE L b B S i ≠ 0) (ho : Rg.off b B i = false) : Rg.takM L b B S i = b := by
  unfold Rg.takM
  rw [if_neg h, if_neg (by rw [ho]; simp)]
set_option maxRecDepth 100000 in
set_option maxHeartbeats 8000000 in
theorem take_any (A : Option Addr) (n c : Nat) (b : Wm.Bs) (B S i : Int) (w : World) (hs : Sl w 128 A n (U b)) (hb : Wm.isBs b) (hn1 : 1 ≤ n) (hn : n ≤ 64) (hok : Rg.Ok (n * 128) B S) (i0 : 0 ≤ i) (i1 : i < S) :
    Calls Try.prog 15 #[.agg #[.slice A n c], .agg #[.int .u32 B, .int .u32 S], .int .i64 i] w (GotT n (Rg.takM (n * 128) b B S i) (Rg.takL (n * 128) b B S i) (Rg.takE (n * 128) b B S i) w) := by
  have hB := hok.2.2.1
  have hB2 := hok.2.2.2
  have hS := hok.s
  have hbl : b.length = n * 128 := by have := hs.1; rwa [U_length] at this
  have KF := Lib.hid fun w' (k : Later w w') => follow_any A n c b B S i w' (hs.keep k) hb hn1 hn hok i0 i1
  have hgd := Rg.take_good (L := n * 128) (B := B) hb i0 i1
  by_cases hE : Rg.takE (n * 128) b B S i = 0
  · rw [takM_ok hE]
    rw [hE] at KF ⊢
    obtain ⟨l, hl⟩ : ∃ l, l = Rg.takL (n * 128) b B S i := ⟨_, rfl⟩
    rw [← hl] at KF hgd ⊢
    have KS := Lib.hid fun w' (AP : Option Addr) (m cp : Nat) (k : Later w w') (hk : Sl w' 4 AP m (Ps l)) => statuses_any B S 2 AP m cp l w' hB (by omega) hk (by have := hk.1; rw [Ps_len] at this; omega) (by have := hk.1; rw [Ps_len] at this; have := hgd.len; omega) (fun p hp => ⟨(hgd.inr p hp).1, by have := (hgd.inr p hp).2; omega⟩)
    have KW := Lib.hid fun w' (g0 m : Nat) (k : Later w w') (hk : Sl w' 3 (some ⟨g0, 0, none⟩) m (Ws (sw B l 2))) => pw_any A n c b (some ⟨g0, 0, none⟩) m m (sw B l 2) w' (hs.keep k) hb hn1 hn hk (by have := hk.1; rw [Ws_len] at this; omega) (sw_isW hok (by omega) (by omega) (by omega) hgd.inr) (by have := hk.1; rw [Ws_len, sw_len] at this; have := hgd.len; omega)
    rw [ap_sw hok l b hbl hgd.inr] at KW
    change Hid (∀ w' g0 m, Later w w' → Sl w' 3 (some ⟨g0, 0, none⟩) m (Ws (sw B l 2)) → Calls Try.prog 43 #[.agg #[.slice A n c], .slice (some ⟨g0, 0, none⟩) m m] w' (GotM n (Rg.mark b B l 2) w')) at KW
    obtain ⟨X, hX⟩ : ∃ X, X = Rg.mark b B l 2 := ⟨_, rfl⟩
    rw [← hX] at KW ⊢
    have HLL := Lib.hid hgd.len
    have e0 : ((0 : Int) == 0) = true := rfl
    clear hX hl hE hgd hs hb hok hbl
    have b3 : Blk _ w.heap.size 24 ([.slice A n c]) := (((Blk.new' w w.heap.size 24 ([.slice A n c]).toArray ([.slice A n c]) (by simp) rfl).alloc (.cells ([.int .u32 B, .int .u32 S]).toArray 27)).alloc (.cells ([.slice none 0 0]).toArray 24))
    have b4 : Blk _ (w.heap.size + 1) 27 ([.int .u32 B, .int .u32 S]) := ((Blk.new' (w.alloc (.cells ([.slice A n c]).toArray 24)) (w.heap.size + 1) 27 ([.int .u32 B, .int .u32 S]).toArray ([.int .u32 B, .int .u32 S]) (by simp) rfl).alloc (.cells ([.slice none 0 0]).toArray 24))
    have b6 : Blk _ (w.heap.size + 1 + 1) 24 ([.slice none 0 0]) := (Blk.new' ((w.alloc (.cells ([.slice A n c]).toArray 24)).alloc (.cells ([.int .u32 B, .int .u32 S]).toArray 27)) (w.heap.size + 1 + 1) 24 ([.slice none 0 0]).toArray ([.slice none 0 0]) (by simp) rfl)
    have lw := (((later1 w (.cells ([.slice A n c]).toArray 24)).alloc (by simp; try omega) (.cells ([.int .u32 B, .int .u32 S]).toArray 27)).alloc (by simp; try omega) (.cells ([.slice none 0 0]).toArray 24))
    obtain ⟨u0, hu⟩ : ∃ u, (((w.alloc (.cells ([.slice A n c]).toArray 24)).alloc (.cells ([.int .u32 B, .int .u32 S]).toArray 27)).alloc (.cells ([.slice none 0 0]).toArray 24)) = u := ⟨_, rfl⟩
    rw [hu] at b3 b4 b6 lw
    go_enter Try.func15, Try.ntmps15
    go_upto_region 1 with fail
    have hu2 : (((w.alloc (.cells #[.slice A n c] 24)).alloc (.cells #[.int .u32 B, .int .u32 S] 27)).alloc (.cells #[.slice none 0 0] 24)) = u0 := hu
    try rw [hu2]
    clear hu hu2
    go_upto_region 3 with (first
      | ((with_reducible refine wpList_load_blk (o := ⟨some 12, .load 24 (.tmp 3), _, _, _, none⟩) rfl _ _ rfl w.heap.size 24 ([.slice A n c]) _ ?_ ?_ Try.underlying24 rfl memS ?_); rfl; exact b3)
      | ((with_reducible refine wpList_load_blk (o := ⟨some 13, .load 27 (.tmp 4), _, _, _, none⟩) rfl _ _ rfl (w.heap.size + 1) 27 ([.int .u32 B, .int .u32 S]) _ ?_ ?_ Try.underlying27 rfl ring_sz ?_); rfl; exact b4)
      | (go_at_call 42; (with_reducible refine (KF.out _ lw).mono ?_); rintro e w1 ⟨AP, m, cp, rfl, hm1, hm2, sl, hlm, hfr, l1⟩; have hsg : ∀ ad, AP = some ad → w.heap.size + 1 + 1 < ad.block := fun ad e => Nat.lt_of_lt_of_le b6.lt (hfr ad e); replace b3 := b3.keep l1; replace b4 := b4.keep l1; replace b6 := b6.keep l1; replace lw := Later.trans_ lw l1))
    replace b3 := b3.drew
    replace b4 := b4.drew
    replace b6 := b6.drew
    replace lw := lw.drew
    replace sl : Sl w1.drew 4 AP m (Ps l) := sl
    refine wp_region_held_drew (S := fun w' => World.rangeAt w' w.heap.size 0 [.slice A n c] ∧ World.rangeAt w' (w.heap.size + 1) 0 [.int .u32 B, .int .u32 S]) (by kernel_rfl) ⟨b3.range 0 1, b4.range 0 2⟩ (fun hHeld => ?_)
    refine wpAnyH_take (i := 0) (oi := ⟨some 21, .load 24 (.tmp 3), _, _, _, none⟩) (v := .agg ([.slice A n c]).toArray) rfl (by kernel_rfl) (by kernel_rfl) (by kernel_rfl) (fun _ _ _ h => h) (yieldsIf_load_mid (by rfl) _ _ rfl w.heap.size 0 rfl ([.slice A n c]) _ (fun wz hSw => hSw.1) Try.underlying24 rfl memS) hHeld ?_
    simp only [Act.put, List.setIfInBounds_toArray, List.set_cons_zero, List.set_cons_succ]
    refine wpAnyH_take (i := 1) (oi := ⟨some 22, .load 27 (.tmp 4), _, _, _, none⟩) (v := .agg ([.int .u32 B, .int .u32 S]).toArray) rfl (by kernel_rfl) (by kernel_rfl) (by kernel_rfl) (fun _ _ _ h => h) (yieldsIf_load_mid (by rfl) _ _ rfl (w.heap.size + 1) 0 rfl ([.int .u32 B, .int .u32 S]) _ (fun wz hSw => hSw.2) Try.underlying27 rfl ring_sz) hHeld ?_
    simp only [Act.put, List.setIfInBounds_toArray, List.set_cons_zero, List.set_cons_succ]
    refine wpAnyH_take (i := 2) (oi := ⟨some 23, .move (.tmp 9), _, _, _, none⟩) (v := .slice AP m cp) rfl (by kernel_rfl) (by kernel_rfl) (by kernel_rfl) (fun _ _ _ h => h) (Or.inl ⟨by rfl, fun _ _ => rfl⟩) hHeld ?_
    simp only [Act.put, List.setIfInBounds_toArray, List.set_cons_zero, List.set_cons_succ]
    refine wpAnyH_take (i := 5) (oi := ⟨some 26, .move (.tmp 9), _, _, _, none⟩) (v := .slice AP m cp) rfl (by kernel_rfl) (by kernel_rfl) (by kernel_rfl) (fun _ _ _ h => h) (Or.inl ⟨by rfl, fun _ _ => rfl⟩) hHeld ?_
    simp only [Act.put, List.setIfInBounds_toArray, List.set_cons_zero, List.set_cons_succ]
    refine wpAnyH_ready (rs := [3]) (by kernel_rfl) (by simp) (AllReadyH.cons (o := ⟨some 24, .call { callee := .value (.func 44), args := #[.tmp 22, .tmp 23, .const (.int .u32 2)], argTypes := #[27, 35, 25] }, _, _, _, none⟩) rfl (fun K' hK => ?_) (AllReadyH.nil))
    go_simp
    (with_reducible refine (KS.out _ _ _ _ lw sl).mono ?_)
    rintro e1 w2 ⟨g0, rfl, sl0, l2⟩
    replace b3 := b3.keep l2
    replace b4 := b4.keep l2
    replace b6 := b6.keep l2
    replace lw := Later.trans_ lw l2
    replace sl := sl.keep l2
    refine hK.out _ _ ⟨b3.range 0 1, b4.range 0 2⟩ (fun hHeld => ?_)
    clear hK K'
    try simp only [Act.put, List.setIfInBounds_toArray, List.set_cons_zero, List.set_cons_succ]
    refine wpAnyH_ready (rs := [4]) (by kernel_rfl) (by simp) (AllReadyH.cons (o := ⟨some 25, .call { callee := .value (.func 43), args := #[.tmp 21, .tmp 24], argTypes := #[24, 78] }, _, _, _, none⟩) rfl (fun K' hK => ?_) (AllReadyH.nil))
    go_simp
    (with_reducible refine (KW.out _ _ _ lw sl0).mono ?_)
    rintro e2 w3 ⟨g, c1, rfl, g1, g2, g3, dx, l3⟩
    have hg := Nat.le_trans lw.size g1
    have hgu := Nat.lt_of_lt_of_le b6.lt g1
    replace b3 := b3.keep l3
    replace b4 := b4.keep l3
    replace b6 := b6.keep l3
    replace lw := Later.trans_ lw l3
    replace sl := sl.keep l3
    refine hK.out _ _ ⟨b3.range 0 1, b4.range 0 2⟩ (fun hHeld => ?_)
    clear hK K'
    try simp only [Act.put, List.setIfInBounds_toArray, List.set_cons_zero, List.set_cons_succ]
    refine wpAnyH_ready (rs := [6]) (by kernel_rfl) (by simp) (AllReadyH.cons (o := ⟨none, .store 24 (.tmp 6) (.tmp 25), _, _, _, none⟩) rfl (fun K' hK => ?_) (AllReadyH.nil))
    refine wp_store_blk 24 _ _ rfl (w.heap.size + 1 + 1) 24 [.slice none 0 0] [.slice (some ⟨g, 0, none⟩) n c1] rfl rfl b6 memS rfl (one1 rfl) ?_
    intro w9 b9 o9
    replace b3 := b3.only o9 (by omega)
    replace b4 := b4.only o9 (by omega)
    replace lw := Below.only lw o9 (by omega)
    replace dx := dx.only o9 (Nat.ne_of_gt hgu)
    replace sl := sl.only_ne o9 (fun ad' e => Nat.ne_of_gt (hsg ad' e))
    refine hK.out _ _ ⟨b3.range 0 1, b4.range 0 2⟩ (fun hHeld => ?_)
    clear hK K'
    try simp only [Act.put]
    refine wpAnyH_take (i := 7) (oi := ⟨some 7, .assign (.tmp 26), _, _, _, none⟩) (v := .slice AP m cp) rfl (by kernel_rfl) (by kernel_rfl) (by kernel_rfl) (fun _ _ _ h => h) (Or.inl ⟨by rfl, fun _ _ => rfl⟩) hHeld ?_
    simp only [Act.put, List.setIfInBounds_toArray, List.set_cons_zero, List.set_cons_succ]
    refine wpAnyH_take (i := 8) (oi := ⟨some 8, .assign (.const (.int .i64 0)), _, _, _, none⟩) (v := .int .i64 0) rfl (by kernel_rfl) (by kernel_rfl) (by kernel_rfl) (fun _ _ _ h => h) (Or.inl ⟨by rfl, fun _ _ => rfl⟩) hHeld ?_
    simp only [Act.put, List.setIfInBounds_toArray, List.set_cons_zero, List.set_cons_succ]
    refine wpAnyH_done (by kernel_rfl) ?_ _
    clear hHeld
    go_wp2
    exact bodyPost_ret (results_ctt Try.results15 _ _ (w.heap.size + 1 + 1) 24 _ _ _ _ rfl rfl rfl b9 Try.underlying24 rfl memS) rfl ⟨g, c1, AP, m, cp, rfl, hg, g2, g3, dx, hm1, hm2, sl, hlm, lw⟩
  · have hle := Rg.take_errs hE
    have hl0 := hle.1
    have KL := Lib.hid fun w' (k : Later w w') => load_dc A n c b B S i w' (hs.keep k) hb hn1 hn hok i0 i1
    have KO := Lib.hid fun w' => isOffered_any (Rg.pt b B i) (Rg.wd b B i 2) (Rg.wd b B i 3) w'
    change Hid (∀ w', Later w w' → Calls Try.prog 40 #[.agg #[.slice A n c], .agg #[.int .u32 B, .int .u32 S], .int .i64 i] w' fun e w'_1 => e = .returned (.agg (dcC (Rg.pt b B i) (Rg.wd b B i 2) (Rg.wd b B i 3)).toArray) ∧ Later w' w'_1) at KL
    change Hid (∀ w', Calls Try.prog 41 #[.agg (dcC (Rg.pt b B i) (Rg.wd b B i 2) (Rg.wd b B i 3)).toArray] w' fun e w'_1 => e = .returned (.bool (Rg.off b B i)) ∧ Later w' w'_1) at KO
    have KW := Lib.hid fun w' (k : Later w w') => fail_any A n c b B S i (Rg.takE (n * 128) b B S i) w' (hs.keep k) hb hn1 hn hok i0 i1
    have K0 := Lib.hid fun w' (k : Later w w') => pw_any A n c b none 0 0 [] w' (hs.keep k) hb hn1 hn (Sl.nil _ _ _) rfl (fun x hx => by cases hx) (by omega)
    rw [ap_nil'] at K0
    have e0 : (Rg.takE (n * 128) b B S i == 0) = false := beq_eq_false_iff_ne.2 hE
    rw [hl0] at KF ⊢
    cases hof : Rg.off b B i
    · rw [takM_not hE hof]
      rw [hof] at KO
      obtain ⟨E1, hE1⟩ : ∃ z, z = Rg.takE (n * 128) b B S i := ⟨_, rfl⟩
      rw [← hE1] at KF e0 ⊢
      clear hE1 hE hle hl0 hof hgd hs hb hok hbl KW
      have b3 : Blk _ w.heap.size 24 ([.slice A n c]) := (((Blk.new' w w.heap.size 24 ([.slice A n c]).toArray ([.slice A n c]) (by simp) rfl).alloc (.cells ([.int .u32 B, .int .u32 S]).toArray 27)).alloc (.cells ([.slice none 0 0]).toArray 24))
      have b4 : Blk _ (w.heap.size + 1) 27 ([.int .u32 B, .int .u32 S]) := ((Blk.new' (w.alloc (.cells ([.slice A n c]).toArray 24)) (w.heap.size + 1) 27 ([.int .u32 B, .int .u32 S]).toArray ([.int .u32 B, .int .u32 S]) (by simp) rfl).alloc (.cells ([.slice none 0 0]).toArray 24))
      have b6 : Blk _ (w.heap.size + 1 + 1) 24 ([.slice none 0 0]) := (Blk.new' ((w.alloc (.cells ([.slice A n c]).toArray 24)).alloc (.cells ([.int .u32 B, .int .u32 S]).toArray 27)) (w.heap.size + 1 + 1) 24 ([.slice none 0 0]).toArray ([.slice none 0 0]) (by simp) rfl)
      have lw := (((later1 w (.cells ([.slice A n c]).toArray 24)).alloc (by simp; try omega) (.cells ([.int .u32 B, .int .u32 S]).toArray 27)).alloc (by simp; try omega) (.cells ([.slice none 0 0]).toArray 24))
      obtain ⟨u0, hu⟩ : ∃ u, (((w.alloc (.cells ([.slice A n c]).toArray 24)).alloc (.cells ([.int .u32 B, .int .u32 S]).toArray 27)).alloc (.cells ([.slice none 0 0]).toArray 24)) = u := ⟨_, rfl⟩
      rw [hu] at b3 b4 b6 lw
      go_enter Try.func15, Try.ntmps15
      go_upto_region 1 with fail
      have hu2 : (((w.alloc (.cells #[.slice A n c] 24)).alloc (.cells #[.int .u32 B, .int .u32 S] 27)).alloc (.cells #[.slice none 0 0] 24)) = u0 := hu
      try rw [hu2]
      clear hu hu2
      go_wp2_with (first
        | ((with_reducible refine wpList_load_blk (o := ⟨some 12, .load 24 (.tmp 3), _, _, _, none⟩) rfl _ _ rfl w.heap.size 24 ([.slice A n c]) _ ?_ ?_ Try.underlying24 rfl memS ?_); rfl; exact b3)
        | ((with_reducible refine wpList_load_blk (o := ⟨some 13, .load 27 (.tmp 4), _, _, _, none⟩) rfl _ _ rfl (w.heap.size + 1) 27 ([.int .u32 B, .int .u32 S]) _ ?_ ?_ Try.underlying27 rfl ring_sz ?_); rfl; exact b4)
        | (go_at_call 42; (with_reducible refine (KF.out _ lw).mono ?_); rintro e w1 ⟨AP, m, cp, rfl, hm1, hm2, sl, hlm, hfr, l1⟩; replace b3 := b3.keep l1; replace b4 := b4.keep l1; replace b6 := b6.keep l1; replace lw := Later.trans_ lw l1)
        | ((with_reducible refine wpList_load_blk (o := ⟨some 28, .load 24 (.tmp 3), _, _, _, none⟩) rfl _ _ rfl w.heap.size 24 ([.slice A n c]) _ ?_ ?_ Try.underlying24 rfl memS ?_); rfl; exact b3)
        | ((with_reducible refine wpList_load_blk (o := ⟨some 29, .load 27 (.tmp 4), _, _, _, none⟩) rfl _ _ rfl (w.heap.size + 1) 27 ([.int .u32 B, .int .u32 S]) _ ?_ ?_ Try.underlying27 rfl ring_sz ?_); rfl; exact b4)
        | (go_at_call 40; (with_reducible refine (KL.out _ lw).mono ?_); rintro e w3 ⟨rfl, l3⟩; replace b3 := b3.keep l3; replace b4 := b4.keep l3; replace b6 := b6.keep l3; replace lw := Later.trans_ lw l3)
        | (go_at_call 41; (with_reducible refine (KO.out _).mono ?_); rintro e w4 ⟨rfl, l4⟩; replace b3 := b3.keep l4; replace b4 := b4.keep l4; replace b6 := b6.keep l4; replace lw := Later.trans_ lw l4)
        | ((with_reducible refine wpList_load_blk (o := ⟨some 39, .load 24 (.tmp 3), _, _, _, none⟩) rfl _ _ rfl w.heap.size 24 ([.slice A n c]) _ ?_ ?_ Try.underlying24 rfl memS ?_); rfl; exact b3)
        | (go_at_call 43; (with_reducible refine (K0.out _ lw).mono ?_); rintro e w5 ⟨g, c1, rfl, g1, g2, g3, dx, l5⟩; have hg := Nat.le_trans lw.size g1; have hgu := Nat.lt_of_lt_of_le b6.lt g1; replace b3 := b3.keep l5; replace b4 := b4.keep l5; replace b6 := b6.keep l5; replace lw := Later.trans_ lw l5)
        | ((with_reducible refine wpList_store_abs (o := ⟨none, .store 24 (.tmp 6) (.tmp 40), _, _, _, none⟩) rfl _ _ _ rfl (w.heap.size + 1 + 1) 24 ([.slice none 0 0]) ([.slice (some ⟨g, 0, none⟩) n c1]) ?_ ?_ ?_ ?_ ?_ ?_ ?_); rfl; rfl; exact b6; exact memS; rfl; exact (one1 rfl); intro w9 b9 o9))
      exact bodyPost_ret (results_ctt Try.results15 _ _ (w.heap.size + 1 + 1) 24 _ _ _ _ rfl rfl rfl b9 Try.underlying24 rfl memS) rfl ⟨g, c1, none, 0, 0, rfl, hg, g2, g3, dx.only o9 (Nat.ne_of_gt hgu), Nat.le_refl _, Nat.zero_le _, Sl.nil _ _ _, rfl, Below.only lw o9 (by omega)⟩
    · rw [takM_err hE hof]
      rw [hof] at KO
      obtain ⟨X, hX⟩ : ∃ X, X = Rg.failM b B i (Rg.takE (n * 128) b B S i) := ⟨_, rfl⟩
      rw [← hX] at KW ⊢
      obtain ⟨E1, hE1⟩ : ∃ z, z = Rg.takE (n * 128) b B S i := ⟨_, rfl⟩
      rw [← hE1] at KF KW e0 ⊢
      clear hX hE1 hE hle hl0 hof hgd hs hb hok hbl K0
      have b3 : Blk _ w.heap.size 24 ([.slice A n c]) := (((Blk.new' w w.heap.size 24 ([.slice A n c]).toArray ([.slice A n c]) (by simp) rfl).alloc (.cells ([.int .u32 B, .int .u32 S]).toArray 27)).alloc (.cells ([.slice none 0 0]).toArray 24))
      have b4 : Blk _ (w.heap.size + 1) 27 ([.int .u32 B, .int .u32 S]) := ((Blk.new' (w.alloc (.cells ([.slice A n c]).toArray 24)) (w.heap.size + 1) 27 ([.int .u32 B, .int .u32 S]).toArray ([.int .u32 B, .int .u32 S]) (by simp) rfl).alloc (.cells ([.slice none 0 0]).toArray 24))
      have b6 : Blk _ (w.heap.size + 1 + 1) 24 ([.slice none 0 0]) := (Blk.new' ((w.alloc (.cells ([.slice A n c]).toArray 24)).alloc (.cells ([.int .u32 B, .int .u32 S]).toArray 27)) (w.heap.size + 1 + 1) 24 ([.slice none 0 0]).toArray ([.slice none 0 0]) (by simp) rfl)
      have lw := (((later1 w (.cells ([.slice A n c]).toArray 24)).alloc (by simp; try omega) (.cells ([.int .u32 B, .int .u32 S]).toArray 27)).alloc (by simp; try omega) (.cells ([.slice none 0 0]).toArray 24))
      obtain ⟨u0, hu⟩ : ∃ u, (((w.alloc (.cells ([.slice A n c]).toArray 24)).alloc (.cells ([.int .u32 B, .int .u32 S]).toArray 27)).alloc (.cells ([.slice none 0 0]).toArray 24)) = u := ⟨_, rfl⟩
      rw [hu] at b3 b4 b6 lw
      go_enter Try.func15, Try.ntmps15
      go_upto_region 1 with fail
      have hu2 : (((w.alloc (.cells #[.slice A n c] 24)).alloc (.cells #[.int .u32 B, .int .u32 S] 27)).alloc (.cells #[.slice none 0 0] 24)) = u0 := hu
      try rw [hu2]
      clear hu hu2
      go_wp2_with (first
        | ((with_reducible refine wpList_load_blk (o := ⟨some 12, .load 24 (.tmp 3), _, _, _, none⟩) rfl _ _ rfl w.heap.size 24 ([.slice A n c]) _ ?_ ?_ Try.underlying24 rfl memS ?_); rfl; exact b3)
        | ((with_reducible refine wpList_load_blk (o := ⟨some 13, .load 27 (.tmp 4), _, _, _, none⟩) rfl _ _ rfl (w.heap.size + 1) 27 ([.int .u32 B, .int .u32 S]) _ ?_ ?_ Try.underlying27 rfl ring_sz ?_); rfl; exact b4)
        | (go_at_call 42; (with_reducible refine (KF.out _ lw).mono ?_); rintro e w1 ⟨AP, m, cp, rfl, hm1, hm2, sl, hlm, hfr, l1⟩; replace b3 := b3.keep l1; replace b4 := b4.keep l1; replace b6 := b6.keep l1; replace lw := Later.trans_ lw l1)
        | ((with_reducible refine wpList_load_blk (o := ⟨some 28, .load 24 (.tmp 3), _, _, _, none⟩) rfl _ _ rfl w.heap.size 24 ([.slice A n c]) _ ?_ ?_ Try.underlying24 rfl memS ?_); rfl; exact b3)
        | ((with_reducible refine wpList_load_blk (o := ⟨some 29, .load 27 (.tmp 4), _, _, _, none⟩) rfl _ _ rfl (w.heap.size + 1) 27 ([.int .u32 B, .int .u32 S]) _ ?_ ?_ Try.underlying27 rfl ring_sz ?_); rfl; exact b4)
        | (go_at_call 40; (with_reducible refine (KL.out _ lw).mono ?_); rintro e w3 ⟨rfl, l3⟩; replace b3 := b3.keep l3; replace b4 := b4.keep l3; replace b6 := b6.keep l3; replace lw := Later.trans_ lw l3)
        | (go_at_call 41; (with_reducible refine (KO.out _).mono ?_); rintro e w4 ⟨rfl, l4⟩; replace b3 := b3.keep l4; replace b4 := b4.keep l4; replace b6 := b6.keep l4; replace lw := Later.trans_ lw l4)
        | ((with_reducible refine wpList_load_blk (o := ⟨some 33, .load 24 (.tmp 3), _, _, _, none⟩) rfl _ _ rfl w.heap.size 24 ([.slice A n c]) _ ?_ ?_ Try.underlying24 rfl memS ?_); rfl; exact b3)
        | ((with_reducible refine wpList_load_blk (o := ⟨some 34, .load 27 (.tmp 4), _, _, _, none⟩) rfl _ _ rfl (w.heap.size + 1) 27 ([.int .u32 B, .int .u32 S]) _ ?_ ?_ Try.underlying27 rfl ring_sz ?_); rfl; exact b4)
        | (go_at_call 22; (with_reducible refine (KW.out _ lw).mono ?_); rintro e w5 ⟨g, c1, rfl, g1, g2, g3, dx, l5⟩; have hg := Nat.le_trans lw.size g1; have hgu := Nat.lt_of_lt_of_le b6.lt g1; replace b3 := b3.keep l5; replace b4 := b4.keep l5; replace b6 := b6.keep l5; replace lw := Later.trans_ lw l5)
        | ((with_reducible refine wpList_store_abs (o := ⟨none, .store 24 (.tmp 6) (.tmp 37), _, _, _, none⟩) rfl _ _ _ rfl (w.heap.size + 1 + 1) 24 ([.slice none 0 0]) ([.slice (some ⟨g, 0, none⟩) n c1]) ?_ ?_ ?_ ?_ ?_ ?_ ?_); rfl; rfl; exact b6; exact memS; rfl; exact (one1 rfl); intro w9 b9 o9))
      exact bodyPost_ret (results_ctt Try.results15 _ _ (w.heap.size + 1 + 1) 24 _ _ _ _ rfl rfl rfl b9 Try.underlying24 rfl memS) rfl ⟨g, c1, none, 0, 0, rfl, hg, g2, g3, dx.only o9 (Nat.ne_of_gt hgu), Nat.le_refl _, Nat.zero_le _, Sl.nil _ _ _, rfl, Below.only lw o9 (by omega)⟩
end Go.Proofs.Ytffgbbfcbobecaa
