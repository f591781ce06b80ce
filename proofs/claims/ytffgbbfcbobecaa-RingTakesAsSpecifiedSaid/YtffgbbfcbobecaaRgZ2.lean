/-
  THE STATEMENT RingTakesAsSpecified: Check, First, Take, Finish and Fail do what the specification says; for every memory, ring, index and error.
-/
import Derived.Test.YtffgbbfcbobecaaRgY
import Derived.Deep.DeepCutAuto
namespace Go.Proofs.Ytffgbbfcbobecaa
open Go.RowKit Go.ChangeShapes Go.WideShapes Go.ChangeAt

set_option maxRecDepth 100000 in
set_option maxHeartbeats 4000000 in
theorem takes_no (A : Option Addr) (n c : Nat) (B : Int) (s : Nat) (i er : Int) (w : World)  (h : ¬ (1 ≤ n ∧ n ≤ 64)) : Calls Try.prog 3 #[.agg #[.slice A n c], .agg #[.int .u32 B, .int .u32 (s : Int)], .int .u8 i, .int .i64 er] w fun e w' => e = .returned (.bool true) ∧ Later w w' := by
  have KV := Lib.hid fun w' => rvalid_any A n c w'
  have KN := Lib.hid fun w' => sanity_any w'
  rw [decide_eq_false h] at KV
  clear h
  have b4 : Blk _ w.heap.size 24 ([.slice A n c]) := ((Blk.new' w w.heap.size 24 ([.slice A n c]).toArray ([.slice A n c]) (by simp) rfl).alloc (.cells ([.int .u32 B, .int .u32 (s : Int)]).toArray 27))
  have b5 : Blk _ (w.heap.size + 1) 27 ([.int .u32 B, .int .u32 (s : Int)]) := (Blk.new' (w.alloc (.cells ([.slice A n c]).toArray 24)) (w.heap.size + 1) 27 ([.int .u32 B, .int .u32 (s : Int)]).toArray ([.int .u32 B, .int .u32 (s : Int)]) (by simp) rfl)
  have lw := ((later1 w (.cells ([.slice A n c]).toArray 24)).alloc (by simp; try omega) (.cells ([.int .u32 B, .int .u32 (s : Int)]).toArray 27))
  obtain ⟨u0, hu⟩ : ∃ u, ((w.alloc (.cells ([.slice A n c]).toArray 24)).alloc (.cells ([.int .u32 B, .int .u32 (s : Int)]).toArray 27)) = u := ⟨_, rfl⟩
  rw [hu] at b4 b5 lw
  go_enter Try.func3, Try.ntmps3
  go_upto_region 1 with fail
  have hu2 : ((w.alloc (.cells #[.slice A n c] 24)).alloc (.cells #[.int .u32 B, .int .u32 (s : Int)] 27)) = u0 := hu
  try rw [hu2]
  clear hu hu2
  go_wp2_with (first
    | ((with_reducible refine wpList_load_blk (o := ⟨some 17, .load 24 (.tmp 4), _, _, _, none⟩) rfl _ _ rfl w.heap.size 24 ([.slice A n c]) _ ?_ ?_ Try.underlying24 rfl memS ?_); rfl; exact b4)
    | (go_at_call 9; (with_reducible refine (KV.out _).mono ?_); rintro e w1 ⟨rfl, l1⟩; replace b4 := b4.keep l1; replace b5 := b5.keep l1; replace lw := Later.trans_ lw l1)
    | (go_at_call 10; (with_reducible refine (KN.out _).mono ?_); rintro e w9 ⟨rfl, l9⟩; replace lw := Later.trans_ lw l9))
  go_ret
  exact ⟨rfl, lw⟩
set_option maxRecDepth 100000 in
set_option maxHeartbeats 4000000 in
theorem takes_out (A : Option Addr) (n c : Nat) (B : Int) (s : Nat) (i er : Int) (w : World) (hB : Tm.isE B) (hS : Tm.isE (s : Int)) (h1 : 1 ≤ n ∧ n ≤ 64) (h : ¬ Rg.Ok (n * 128) B s) : Calls Try.prog 3 #[.agg #[.slice A n c], .agg #[.int .u32 B, .int .u32 (s : Int)], .int .u8 i, .int .i64 er] w fun e w' => e = .returned (.bool true) ∧ Later w w' := by
  have KC := Lib.hid fun w' => pcheck_any A n c B s w' h1.2 hB hS
  have KD := Lib.hid fun w' => rcheck_any A n c B s w' h1.2 hB hS
  obtain ⟨vc, hvc⟩ : ∃ v, v = chk (n * 128) B s := ⟨_, rfl⟩
  rw [← hvc] at KC KD
  have KV := Lib.hid fun w' => rvalid_any A n c w'
  rw [decide_eq_true h1] at KV
  have KN := Lib.hid fun w' => sanity_any w'
  have KT := Lib.hid fun w' => lthere_any A n c B s w' hB hS
  rw [decide_eq_true h1] at KT
  rw [decide_eq_false h] at KT
  clear hvc h h1 hB hS
  have b4 : Blk _ w.heap.size 24 ([.slice A n c]) := ((Blk.new' w w.heap.size 24 ([.slice A n c]).toArray ([.slice A n c]) (by simp) rfl).alloc (.cells ([.int .u32 B, .int .u32 (s : Int)]).toArray 27))
  have b5 : Blk _ (w.heap.size + 1) 27 ([.int .u32 B, .int .u32 (s : Int)]) := (Blk.new' (w.alloc (.cells ([.slice A n c]).toArray 24)) (w.heap.size + 1) 27 ([.int .u32 B, .int .u32 (s : Int)]).toArray ([.int .u32 B, .int .u32 (s : Int)]) (by simp) rfl)
  have lw := ((later1 w (.cells ([.slice A n c]).toArray 24)).alloc (by simp; try omega) (.cells ([.int .u32 B, .int .u32 (s : Int)]).toArray 27))
  obtain ⟨u0, hu⟩ : ∃ u, ((w.alloc (.cells ([.slice A n c]).toArray 24)).alloc (.cells ([.int .u32 B, .int .u32 (s : Int)]).toArray 27)) = u := ⟨_, rfl⟩
  rw [hu] at b4 b5 lw
  go_enter Try.func3, Try.ntmps3
  go_upto_region 1 with fail
  have hu2 : ((w.alloc (.cells #[.slice A n c] 24)).alloc (.cells #[.int .u32 B, .int .u32 (s : Int)] 27)) = u0 := hu
  try rw [hu2]
  clear hu hu2
  go_upto_region 3 with (first
    | ((with_reducible refine wpList_load_blk (o := ⟨some 17, .load 24 (.tmp 4), _, _, _, none⟩) rfl _ _ rfl w.heap.size 24 ([.slice A n c]) _ ?_ ?_ Try.underlying24 rfl memS ?_); rfl; exact b4)
    | (go_at_call 9; (with_reducible refine (KV.out _).mono ?_); rintro e w1 ⟨rfl, l1⟩; replace b4 := b4.keep l1; replace b5 := b5.keep l1; replace lw := Later.trans_ lw l1))
  replace b4 := b4.drew
  replace b5 := b5.drew
  replace lw := lw.drew
  refine wp_region_held_drew (S := fun w' => World.rangeAt w' w.heap.size 0 [.slice A n c] ∧ World.rangeAt w' (w.heap.size + 1) 0 [.int .u32 B, .int .u32 (s : Int)]) (by kernel_rfl) ⟨b4.range 0 1, b5.range 0 2⟩ (fun hHeld => ?_)
  refine wpAnyH_take (i := 0) (oi := ⟨some 21, .load 24 (.tmp 4), _, _, _, none⟩) (v := .agg ([.slice A n c]).toArray) rfl (by kernel_rfl) (by kernel_rfl) (by kernel_rfl) (fun _ _ _ h => h) (yieldsIf_load_mid (by rfl) _ _ rfl w.heap.size 0 rfl ([.slice A n c]) _ (fun wz hSw => hSw.1) Try.underlying24 rfl memS) hHeld ?_
  simp only [Act.put, List.setIfInBounds_toArray, List.set_cons_zero, List.set_cons_succ]
  refine wpAnyH_take (i := 1) (oi := ⟨some 22, .load 27 (.tmp 5), _, _, _, none⟩) (v := .agg ([.int .u32 B, .int .u32 (s : Int)]).toArray) rfl (by kernel_rfl) (by kernel_rfl) (by kernel_rfl) (fun _ _ _ h => h) (yieldsIf_load_mid (by rfl) _ _ rfl (w.heap.size + 1) 0 rfl ([.int .u32 B, .int .u32 (s : Int)]) _ (fun wz hSw => hSw.2) Try.underlying27 rfl ring_sz) hHeld ?_
  simp only [Act.put, List.setIfInBounds_toArray, List.set_cons_zero, List.set_cons_succ]
  refine wpAnyH_take (i := 3) (oi := ⟨some 24, .load 24 (.tmp 4), _, _, _, none⟩) (v := .agg ([.slice A n c]).toArray) rfl (by kernel_rfl) (by kernel_rfl) (by kernel_rfl) (fun _ _ _ h => h) (yieldsIf_load_mid (by rfl) _ _ rfl w.heap.size 0 rfl ([.slice A n c]) _ (fun wz hSw => hSw.1) Try.underlying24 rfl memS) hHeld ?_
  simp only [Act.put, List.setIfInBounds_toArray, List.set_cons_zero, List.set_cons_succ]
  refine wpAnyH_take (i := 4) (oi := ⟨some 25, .load 27 (.tmp 5), _, _, _, none⟩) (v := .agg ([.int .u32 B, .int .u32 (s : Int)]).toArray) rfl (by kernel_rfl) (by kernel_rfl) (by kernel_rfl) (fun _ _ _ h => h) (yieldsIf_load_mid (by rfl) _ _ rfl (w.heap.size + 1) 0 rfl ([.int .u32 B, .int .u32 (s : Int)]) _ (fun wz hSw => hSw.2) Try.underlying27 rfl ring_sz) hHeld ?_
  simp only [Act.put, List.setIfInBounds_toArray, List.set_cons_zero, List.set_cons_succ]
  refine wpAnyH_ready (rs := [2]) (by kernel_rfl) (by simp) (AllReadyH.cons (o := ⟨some 23, .call { callee := .value (.func 11), args := #[.tmp 21, .tmp 22], argTypes := #[24, 27] }, _, _, _, none⟩) rfl (fun K' hK => ?_) (AllReadyH.nil))
  go_simp
  (with_reducible refine (KC.out _).mono ?_)
  rintro e v1 ⟨rfl, l2⟩
  replace b4 := b4.keep l2
  replace b5 := b5.keep l2
  replace lw := Later.trans_ lw l2
  refine hK.out _ _ ⟨b4.range 0 1, b5.range 0 2⟩ (fun hHeld => ?_)
  clear hK K'
  try simp only [Act.put, List.setIfInBounds_toArray, List.set_cons_zero, List.set_cons_succ]
  refine wpAnyH_ready (rs := [5]) (by kernel_rfl) (by simp) (AllReadyH.cons (o := ⟨some 26, .call { callee := .value (.func 12), args := #[.tmp 24, .tmp 25], argTypes := #[24, 27] }, _, _, _, none⟩) rfl (fun K' hK => ?_) (AllReadyH.nil))
  go_simp
  (with_reducible refine (KD.out _).mono ?_)
  rintro e v2 ⟨rfl, l2⟩
  replace b4 := b4.keep l2
  replace b5 := b5.keep l2
  replace lw := Later.trans_ lw l2
  refine hK.out _ _ ⟨b4.range 0 1, b5.range 0 2⟩ (fun hHeld => ?_)
  clear hK K'
  try simp only [Act.put, List.setIfInBounds_toArray, List.set_cons_zero, List.set_cons_succ]
  refine wpAnyH_take (i := 6) (oi := ⟨some 27, .binOp .neq 28 (.tmp 23) (.tmp 26) 28, _, _, _, none⟩) (v := .bool false) rfl (by kernel_rfl) (by kernel_rfl) (by kernel_rfl) (fun _ _ _ h => h) (Or.inl ⟨by rfl, fun w _ => by go_simp⟩) hHeld ?_
  simp only [Act.put, List.setIfInBounds_toArray, List.set_cons_zero, List.set_cons_succ]
  refine wpAnyH_done (by kernel_rfl) ?_ _
  clear hHeld
  go_wp2_with (first
    | ((with_reducible refine wpList_load_blk (o := ⟨some 28, .load 24 (.tmp 4), _, _, _, none⟩) rfl _ _ rfl w.heap.size 24 ([.slice A n c]) _ ?_ ?_ Try.underlying24 rfl memS ?_); rfl; exact b4)
    | ((with_reducible refine wpList_load_blk (o := ⟨some 29, .load 27 (.tmp 5), _, _, _, none⟩) rfl _ _ rfl (w.heap.size + 1) 27 ([.int .u32 B, .int .u32 (s : Int)]) _ ?_ ?_ Try.underlying27 rfl ring_sz ?_); rfl; exact b5)
    | (go_at_call 13; (with_reducible refine (KT.out _).mono ?_); rintro e w5 ⟨rfl, l5⟩; replace b4 := b4.keep l5; replace b5 := b5.keep l5; replace lw := Later.trans_ lw l5)
    | (go_at_call 10; (with_reducible refine (KN.out _).mono ?_); rintro e w9 ⟨rfl, l9⟩; replace lw := Later.trans_ lw l9))
  go_ret
  exact ⟨rfl, lw⟩
set_option maxRecDepth 100000 in
set_option maxHeartbeats 32000000 in
theorem takes_yes (A : Option Addr) (n c : Nat) (b : Wm.Bs) (B : Int) (s : Nat) (i er : Int) (w : World) (hs : Sl w 128 A n (U b)) (hb : Wm.isBs b) (hnc : n ≤ c) (hc : c ≤ maxLen) (hB : Tm.isE B) (hS : Tm.isE (s : Int)) (hi0 : 0 ≤ i) (hi1 : i ≤ 255) (h1 : 1 ≤ n ∧ n ≤ 64) (hok : Rg.Ok (n * 128) B s) : Calls Try.prog 3 #[.agg #[.slice A n c], .agg #[.int .u32 B, .int .u32 (s : Int)], .int .u8 i, .int .i64 er] w fun e w' => e = .returned (.bool true) ∧ Later w w' := by
  have KC := Lib.hid fun w' => pcheck_any A n c B s w' h1.2 hB hS
  have KD := Lib.hid fun w' => rcheck_any A n c B s w' h1.2 hB hS
  obtain ⟨vc, hvc⟩ : ∃ v, v = chk (n * 128) B s := ⟨_, rfl⟩
  rw [← hvc] at KC KD
  have KV := Lib.hid fun w' => rvalid_any A n c w'
  rw [decide_eq_true h1] at KV
  have KN := Lib.hid fun w' => sanity_any w'
  have KT := Lib.hid fun w' => lthere_any A n c B s w' hB hS
  rw [decide_eq_true h1] at KT
  rw [decide_eq_true hok] at KT
  obtain ⟨ht, hq0, hq1, hq2⟩ := idx_rng hok hi0
  have hSS := hok.s
  obtain ⟨q, hq⟩ : ∃ q, q = i % (s : Int) := ⟨_, rfl⟩
  rw [← hq] at ht hq0 hq1
  have hg := Rg.take_good (L := n * 128) (B := B) hb hq0 hq1
  have hXb := Rg.takM_bs (n * 128) B (s : Int) q hb
  have KF := Lib.hid fun w' (k : Later w w') => pfirst_any A n c b B s q w' (hs.keep k) hb h1.1 h1.2 hok hq0 hq1
  have KRF := Lib.hid fun w' (k : Later w w') => rfirst_any A n c b B s q w' (hs.keep k) hb h1.2 hok hq0 hq1
  have KTK := Lib.hid fun w' (k : Later w w') => take_any A n c b B s q w' (hs.keep k) hb h1.1 h1.2 hok hq0 hq1
  have KRT := Lib.hid fun w' (k : Later w w') => rtake_any A n c b B s q w' (hs.keep k) hb h1.1 h1.2 hnc hc hok hq0 hq1
  have KFA := Lib.hid fun w' (k : Later w w') => fail_any A n c b B s q er w' (hs.keep k) hb h1.1 h1.2 hok hq0 hq1
  have KRA := Lib.hid fun w' (k : Later w w') => rfail_any A n c b B s q er w' (hs.keep k) hb h1.1 h1.2 hnc hc hok hq0 hq1
  obtain ⟨l, hl⟩ : ∃ l, l = Rg.takL (n * 128) b B s q := ⟨_, rfl⟩
  obtain ⟨E1, hE1⟩ : ∃ l, l = Rg.takE (n * 128) b B s q := ⟨_, rfl⟩
  obtain ⟨X, hX⟩ : ∃ l, l = Rg.takM (n * 128) b B s q := ⟨_, rfl⟩
  obtain ⟨x1, hx1⟩ : ∃ x, x = fI (Rg.fst b B s q s) := ⟨_, rfl⟩
  obtain ⟨y1, hy1⟩ : ∃ x, x = (Rg.fst b B s q s).isSome := ⟨_, rfl⟩
  obtain ⟨Y, hY⟩ : ∃ Y, Y = Rg.failM b B q er := ⟨_, rfl⟩
  rw [← hl, ← hE1, ← hX] at KTK KRT
  rw [← hX] at hXb
  rw [← hx1, ← hy1] at KF KRF
  rw [← hY] at KFA KRA
  rw [← hl] at hg
  have hll := hg.len
  have KFI := Lib.hid fun g c1 AP mp cp w' (h : Draft w' g n X) (k : Sl w' 4 AP mp (Ps l)) (hm : l.length = mp) => finish_any (some ⟨g, 0, none⟩) n c1 X B s AP mp cp l w' h.sl hXb h1.1 h1.2 hok k hm (by omega) hg.inr
  have KRI := Lib.hid fun A2 c2 AQ mq cq w' (h : Sl w' 128 A2 n (U X)) (k : Sl w' 4 AQ mq (Ps l)) (hm : l.length = mq) (hc : n ≤ c2 ∧ c2 ≤ maxLen) => rfinish_any A2 n c2 X B s AQ mq cq l w' h hXb h1.1 h1.2 hc.1 hc.2 hok k hm (by omega) hg.inr
  obtain ⟨Z, hZ⟩ : ∃ Z, Z = Rg.mark X B l 3 := ⟨_, rfl⟩
  rw [← hZ] at KFI KRI
  have KSP := Lib.hid fun AP AQ cp cq mq w' (h : Sl w' 4 AP mq (Ps l)) (k : Sl w' 4 AQ mq (Ps l)) (hm : l.length = mq) => same_parts AP AQ mq cp cq l w' h k hm (by omega)
  have KSM := Lib.hid fun g c1 A2 c2 w' (h : Draft w' g n X) (k : Sl w' 128 A2 n (U X)) => same_any (some ⟨g, 0, none⟩) n c1 A2 n c2 X X w' h.sl k h1.2 h1.2
  rw [decide_eq_true (show X = X from rfl)] at KSM
  have KSF := Lib.hid fun g c1 A2 c2 w' (h : Draft w' g n Z) (k : Sl w' 128 A2 n (U Z)) => same_any (some ⟨g, 0, none⟩) n c1 A2 n c2 Z Z w' h.sl k h1.2 h1.2
  rw [decide_eq_true (show Z = Z from rfl)] at KSF
  have KSH := Lib.hid fun g c1 A2 c2 w' (h : Draft w' g n Y) (k : Sl w' 128 A2 n (U Y)) => same_any (some ⟨g, 0, none⟩) n c1 A2 n c2 Y Y w' h.sl k h1.2 h1.2
  rw [decide_eq_true (show Y = Y from rfl)] at KSH
  have hqs : (i % (s : Int)) = q := hq.symm
  have cS := wrap64 (s : Int) (by omega) (by omega)
  have ci := wrap64 i hi0 (by omega)
  have hz0 : ¬ s = 0 := by omega
  clear hq hl hE1 hX hx1 hy1 hY hZ hvc hXb hs hb hnc hc hB hS hok hSS hll hq2
  have hn1' : 1 ≤ n := h1.1
  clear h1 hg
  have b4 : Blk _ w.heap.size 24 ([.slice A n c]) := ((Blk.new' w w.heap.size 24 ([.slice A n c]).toArray ([.slice A n c]) (by simp) rfl).alloc (.cells ([.int .u32 B, .int .u32 (s : Int)]).toArray 27))
  have b5 : Blk _ (w.heap.size + 1) 27 ([.int .u32 B, .int .u32 (s : Int)]) := (Blk.new' (w.alloc (.cells ([.slice A n c]).toArray 24)) (w.heap.size + 1) 27 ([.int .u32 B, .int .u32 (s : Int)]).toArray ([.int .u32 B, .int .u32 (s : Int)]) (by simp) rfl)
  have lw := ((later1 w (.cells ([.slice A n c]).toArray 24)).alloc (by simp; try omega) (.cells ([.int .u32 B, .int .u32 (s : Int)]).toArray 27))
  obtain ⟨u0, hu⟩ : ∃ u, ((w.alloc (.cells ([.slice A n c]).toArray 24)).alloc (.cells ([.int .u32 B, .int .u32 (s : Int)]).toArray 27)) = u := ⟨_, rfl⟩
  rw [hu] at b4 b5 lw
  go_enter Try.func3, Try.ntmps3
  go_upto_region 1 with fail
  have hu2 : ((w.alloc (.cells #[.slice A n c] 24)).alloc (.cells #[.int .u32 B, .int .u32 (s : Int)] 27)) = u0 := hu
  try rw [hu2]
  clear hu hu2
  go_upto_region 3 with (first
    | ((with_reducible refine wpList_load_blk (o := ⟨some 17, .load 24 (.tmp 4), _, _, _, none⟩) rfl _ _ rfl w.heap.size 24 ([.slice A n c]) _ ?_ ?_ Try.underlying24 rfl memS ?_); rfl; exact b4)
    | (go_at_call 9; (with_reducible refine (KV.out _).mono ?_); rintro e w1 ⟨rfl, l1⟩; replace b4 := b4.keep l1; replace b5 := b5.keep l1; replace lw := Later.trans_ lw l1))
  replace b4 := b4.drew
  replace b5 := b5.drew
  replace lw := lw.drew
  refine wp_region_held_drew (S := fun w' => World.rangeAt w' w.heap.size 0 [.slice A n c] ∧ World.rangeAt w' (w.heap.size + 1) 0 [.int .u32 B, .int .u32 (s : Int)]) (by kernel_rfl) ⟨b4.range 0 1, b5.range 0 2⟩ (fun hHeld => ?_)
  refine wpAnyH_take (i := 0) (oi := ⟨some 21, .load 24 (.tmp 4), _, _, _, none⟩) (v := .agg ([.slice A n c]).toArray) rfl (by kernel_rfl) (by kernel_rfl) (by kernel_rfl) (fun _ _ _ h => h) (yieldsIf_load_mid (by rfl) _ _ rfl w.heap.size 0 rfl ([.slice A n c]) _ (fun wz hSw => hSw.1) Try.underlying24 rfl memS) hHeld ?_
  simp only [Act.put, List.setIfInBounds_toArray, List.set_cons_zero, List.set_cons_succ]
  refine wpAnyH_take (i := 1) (oi := ⟨some 22, .load 27 (.tmp 5), _, _, _, none⟩) (v := .agg ([.int .u32 B, .int .u32 (s : Int)]).toArray) rfl (by kernel_rfl) (by kernel_rfl) (by kernel_rfl) (fun _ _ _ h => h) (yieldsIf_load_mid (by rfl) _ _ rfl (w.heap.size + 1) 0 rfl ([.int .u32 B, .int .u32 (s : Int)]) _ (fun wz hSw => hSw.2) Try.underlying27 rfl ring_sz) hHeld ?_
  simp only [Act.put, List.setIfInBounds_toArray, List.set_cons_zero, List.set_cons_succ]
  refine wpAnyH_take (i := 3) (oi := ⟨some 24, .load 24 (.tmp 4), _, _, _, none⟩) (v := .agg ([.slice A n c]).toArray) rfl (by kernel_rfl) (by kernel_rfl) (by kernel_rfl) (fun _ _ _ h => h) (yieldsIf_load_mid (by rfl) _ _ rfl w.heap.size 0 rfl ([.slice A n c]) _ (fun wz hSw => hSw.1) Try.underlying24 rfl memS) hHeld ?_
  simp only [Act.put, List.setIfInBounds_toArray, List.set_cons_zero, List.set_cons_succ]
  refine wpAnyH_take (i := 4) (oi := ⟨some 25, .load 27 (.tmp 5), _, _, _, none⟩) (v := .agg ([.int .u32 B, .int .u32 (s : Int)]).toArray) rfl (by kernel_rfl) (by kernel_rfl) (by kernel_rfl) (fun _ _ _ h => h) (yieldsIf_load_mid (by rfl) _ _ rfl (w.heap.size + 1) 0 rfl ([.int .u32 B, .int .u32 (s : Int)]) _ (fun wz hSw => hSw.2) Try.underlying27 rfl ring_sz) hHeld ?_
  simp only [Act.put, List.setIfInBounds_toArray, List.set_cons_zero, List.set_cons_succ]
  refine wpAnyH_ready (rs := [2]) (by kernel_rfl) (by simp) (AllReadyH.cons (o := ⟨some 23, .call { callee := .value (.func 11), args := #[.tmp 21, .tmp 22], argTypes := #[24, 27] }, _, _, _, none⟩) rfl (fun K' hK => ?_) (AllReadyH.nil))
  go_simp
  (with_reducible refine (KC.out _).mono ?_)
  rintro e v1 ⟨rfl, l2⟩
  replace b4 := b4.keep l2
  replace b5 := b5.keep l2
  replace lw := Later.trans_ lw l2
  refine hK.out _ _ ⟨b4.range 0 1, b5.range 0 2⟩ (fun hHeld => ?_)
  clear hK K'
  try simp only [Act.put, List.setIfInBounds_toArray, List.set_cons_zero, List.set_cons_succ]
  refine wpAnyH_ready (rs := [5]) (by kernel_rfl) (by simp) (AllReadyH.cons (o := ⟨some 26, .call { callee := .value (.func 12), args := #[.tmp 24, .tmp 25], argTypes := #[24, 27] }, _, _, _, none⟩) rfl (fun K' hK => ?_) (AllReadyH.nil))
  go_simp
  (with_reducible refine (KD.out _).mono ?_)
  rintro e v2 ⟨rfl, l2⟩
  replace b4 := b4.keep l2
  replace b5 := b5.keep l2
  replace lw := Later.trans_ lw l2
  refine hK.out _ _ ⟨b4.range 0 1, b5.range 0 2⟩ (fun hHeld => ?_)
  clear hK K'
  try simp only [Act.put, List.setIfInBounds_toArray, List.set_cons_zero, List.set_cons_succ]
  refine wpAnyH_take (i := 6) (oi := ⟨some 27, .binOp .neq 28 (.tmp 23) (.tmp 26) 28, _, _, _, none⟩) (v := .bool false) rfl (by kernel_rfl) (by kernel_rfl) (by kernel_rfl) (fun _ _ _ h => h) (Or.inl ⟨by rfl, fun w _ => by go_simp⟩) hHeld ?_
  simp only [Act.put, List.setIfInBounds_toArray, List.set_cons_zero, List.set_cons_succ]
  refine wpAnyH_done (by kernel_rfl) ?_ _
  clear hHeld
  have e5 := b5.cell (j := 1) (v := .int .u32 (s : Int)) rfl
  go_upto_region 10 with (first
    | ((with_reducible refine wpList_load_blk (o := ⟨some 28, .load 24 (.tmp 4), _, _, _, none⟩) rfl _ _ rfl w.heap.size 24 ([.slice A n c]) _ ?_ ?_ Try.underlying24 rfl memS ?_); rfl; exact b4)
    | ((with_reducible refine wpList_load_blk (o := ⟨some 29, .load 27 (.tmp 5), _, _, _, none⟩) rfl _ _ rfl (w.heap.size + 1) 27 ([.int .u32 B, .int .u32 (s : Int)]) _ ?_ ?_ Try.underlying27 rfl ring_sz ?_); rfl; exact b5)
    | (go_at_call 13; (with_reducible refine (KT.out _).mono ?_); rintro e w5 ⟨rfl, l5⟩; clear e5; replace b4 := b4.keep l5; replace b5 := b5.keep l5; replace lw := Later.trans_ lw l5; have e5 := b5.cell (j := 1) (v := .int .u32 (s : Int)) rfl)
    | ((with_reducible refine wpList_load_blk (o := ⟨some 40, .load 24 (.tmp 4), _, _, _, none⟩) rfl _ _ rfl w.heap.size 24 ([.slice A n c]) _ ?_ ?_ Try.underlying24 rfl memS ?_); rfl; exact b4)
    | ((with_reducible refine wpList_load_blk (o := ⟨some 41, .load 27 (.tmp 5), _, _, _, none⟩) rfl _ _ rfl (w.heap.size + 1) 27 ([.int .u32 B, .int .u32 (s : Int)]) _ ?_ ?_ Try.underlying27 rfl ring_sz ?_); rfl; exact b5)
    | (go_at_call 14; (with_reducible refine (KF.out _ lw).mono ?_); rintro e w6 ⟨rfl, l6⟩; clear e5; replace b4 := b4.keep l6; replace b5 := b5.keep l6; replace lw := Later.trans_ lw l6)
    | ((with_reducible refine wpList_load_blk (o := ⟨some 47, .load 24 (.tmp 4), _, _, _, none⟩) rfl _ _ rfl w.heap.size 24 ([.slice A n c]) _ ?_ ?_ Try.underlying24 rfl memS ?_); rfl; exact b4)
    | ((with_reducible refine wpList_load_blk (o := ⟨some 48, .load 27 (.tmp 5), _, _, _, none⟩) rfl _ _ rfl (w.heap.size + 1) 27 ([.int .u32 B, .int .u32 (s : Int)]) _ ?_ ?_ Try.underlying27 rfl ring_sz ?_); rfl; exact b5)
    | (go_at_call 15; (with_reducible refine (KTK.out _ lw).mono ?_); rintro e w7 ⟨g, c1, AP, mp, cp, rfl, _, _, _, dX, _, _, sP, hpl, l7⟩; replace b4 := b4.keep l7; replace b5 := b5.keep l7; replace lw := Later.trans_ lw l7)
    | ((with_reducible refine wpList_store_abs (o := ⟨none, .store 24 (.tmp 12) (.tmp 51), _, _, _, none⟩) rfl _ _ _ rfl w7.heap.size 24 ([.slice none 0 0]) ([.slice (some ⟨g, 0, none⟩) n c1]) ?_ ?_ ?_ ?_ ?_ ?_ ?_); rfl; rfl; exact (Blk.new _ _ _ _ rfl); exact memS; rfl; exact (one1 rfl); intro w8 b12 o12; have l8 := Below.only (later1 w7 (.cells #[.slice none 0 0] 24)) o12 (Nat.le_refl _); replace b4 := b4.keep l8; replace b5 := b5.keep l8; replace dX := dX.keep l8; replace sP := sP.keep l8; replace lw := Later.trans_ lw l8; clear l8 o12))
  clear ht hqs cS ci hz0
  try simp only [Act.put]
  have hn0 : 0 < n := by omega
  go_cut [15, 16] (fun q15 q16 wx => ∃ G15 G16 A2 c2 AQ mq cq, q15 = .pointer (some ⟨G15, 0, none⟩) ∧ q16 = .pointer (some ⟨G16, 0, none⟩) ∧ Blk wx G15 39 [.int .i64 x1, .bool y1] ∧ Blk wx G16 42 [.slice A2 n c2, .slice AQ mq cq, .int .i64 E1] ∧ Hid (n ≤ c2 ∧ c2 ≤ maxLen) ∧ Sl wx 128 A2 n (U X) ∧ Sl wx 4 AQ mq (Ps l) ∧ Hid (l.length = mq) ∧ Later w8 wx)
  case first => as_aux_lemma =>
    have lx : Later w8 w8.drew := (later0 _).drew
    replace b4 := b4.drew
    replace b5 := b5.drew
    replace b12 := b12.drew
    replace dX : Draft w8.drew g n X := dX
    replace sP : Sl w8.drew 4 AP mp (Ps l) := sP
    refine wp_region_held_drew (S := fun w' => World.rangeAt w' w.heap.size 0 [.slice A n c] ∧ World.rangeAt w' (w.heap.size + 1) 0 [.int .u32 B, .int .u32 (s : Int)]) (by kernel_rfl) ⟨b4.range 0 1, b5.range 0 2⟩ (fun hHeld => ?_)
    refine wpAnyH_take (i := 0) (oi := ⟨some 54, .load 24 (.tmp 4), _, _, _, none⟩) (v := .agg ([.slice A n c]).toArray) rfl (by kernel_rfl) (by kernel_rfl) (by kernel_rfl) (fun _ _ _ h => h) (yieldsIf_load_mid (by rfl) _ _ rfl w.heap.size 0 rfl ([.slice A n c]) _ (fun wz hSw => hSw.1) Try.underlying24 rfl memS) hHeld ?_
    simp only [Act.put, List.setIfInBounds_toArray, List.set_cons_zero, List.set_cons_succ]
    refine wpAnyH_take (i := 1) (oi := ⟨some 55, .load 27 (.tmp 5), _, _, _, none⟩) (v := .agg ([.int .u32 B, .int .u32 (s : Int)]).toArray) rfl (by kernel_rfl) (by kernel_rfl) (by kernel_rfl) (fun _ _ _ h => h) (yieldsIf_load_mid (by rfl) _ _ rfl (w.heap.size + 1) 0 rfl ([.int .u32 B, .int .u32 (s : Int)]) _ (fun wz hSw => hSw.2) Try.underlying27 rfl ring_sz) hHeld ?_
    simp only [Act.put, List.setIfInBounds_toArray, List.set_cons_zero, List.set_cons_succ]
    refine wpAnyH_take (i := 2) (oi := ⟨some 56, .move (.tmp 9), _, _, _, none⟩) (v := .int .i64 q) rfl (by kernel_rfl) (by kernel_rfl) (by kernel_rfl) (fun _ _ _ h => h) (Or.inl ⟨by rfl, fun _ _ => rfl⟩) hHeld ?_
    simp only [Act.put, List.setIfInBounds_toArray, List.set_cons_zero, List.set_cons_succ]
    refine wpAnyH_take (i := 4) (oi := ⟨some 58, .load 24 (.tmp 4), _, _, _, none⟩) (v := .agg ([.slice A n c]).toArray) rfl (by kernel_rfl) (by kernel_rfl) (by kernel_rfl) (fun _ _ _ h => h) (yieldsIf_load_mid (by rfl) _ _ rfl w.heap.size 0 rfl ([.slice A n c]) _ (fun wz hSw => hSw.1) Try.underlying24 rfl memS) hHeld ?_
    simp only [Act.put, List.setIfInBounds_toArray, List.set_cons_zero, List.set_cons_succ]
    refine wpAnyH_take (i := 5) (oi := ⟨some 59, .load 27 (.tmp 5), _, _, _, none⟩) (v := .agg ([.int .u32 B, .int .u32 (s : Int)]).toArray) rfl (by kernel_rfl) (by kernel_rfl) (by kernel_rfl) (fun _ _ _ h => h) (yieldsIf_load_mid (by rfl) _ _ rfl (w.heap.size + 1) 0 rfl ([.int .u32 B, .int .u32 (s : Int)]) _ (fun wz hSw => hSw.2) Try.underlying27 rfl ring_sz) hHeld ?_
    simp only [Act.put, List.setIfInBounds_toArray, List.set_cons_zero, List.set_cons_succ]
    refine wpAnyH_take (i := 6) (oi := ⟨some 60, .move (.tmp 9), _, _, _, none⟩) (v := .int .i64 q) rfl (by kernel_rfl) (by kernel_rfl) (by kernel_rfl) (fun _ _ _ h => h) (Or.inl ⟨by rfl, fun _ _ => rfl⟩) hHeld ?_
    simp only [Act.put, List.setIfInBounds_toArray, List.set_cons_zero, List.set_cons_succ]
    refine wpAnyH_ready (rs := [3, 8, 9]) (by kernel_rfl) (by simp) (AllReadyH.cons (o := ⟨some 57, .call { callee := .value (.func 16), args := #[.tmp 54, .tmp 55, .tmp 56], argTypes := #[24, 27, 3] }, _, _, _, none⟩) rfl (fun K' hK => ?_) (AllReadyH.cons (o := ⟨some 15, .alloc 39, _, _, _, none⟩) rfl (fun K' hK => ?_) (AllReadyH.cons (o := ⟨some 16, .alloc 42, _, _, _, none⟩) rfl (fun K' hK => ?_) AllReadyH.nil)))
    · go_simp
      (with_reducible refine (KRF.out _ (Later.trans_ lw lx)).mono ?_)
      rintro e u3 ⟨rfl, l3⟩
      replace b4 := b4.keep l3
      replace b5 := b5.keep l3
      replace b12 := b12.keep l3
      replace dX := dX.keep l3
      replace sP := sP.keep l3
      replace lx := Later.trans_ lx l3
      refine hK.out _ _ ⟨b4.range 0 1, b5.range 0 2⟩ (fun hHeld => ?_)
      clear hK K'
      try simp only [Act.put, List.setIfInBounds_toArray, List.set_cons_zero, List.set_cons_succ]
      refine wpAnyH_ready (rs := [7, 8, 9]) (by kernel_rfl) (by simp) (AllReadyH.cons (o := ⟨some 61, .call { callee := .value (.func 17), args := #[.tmp 58, .tmp 59, .tmp 60], argTypes := #[24, 27, 3] }, _, _, _, none⟩) rfl (fun K' hK => ?_) (AllReadyH.cons (o := ⟨some 15, .alloc 39, _, _, _, none⟩) rfl (fun K' hK => ?_) (AllReadyH.cons (o := ⟨some 16, .alloc 42, _, _, _, none⟩) rfl (fun K' hK => ?_) AllReadyH.nil)))
      · go_simp
        (with_reducible refine (KRT.out _ (Later.trans_ lw lx)).mono ?_)
        rintro e u7 ⟨A2, c2, AQ, mq, cq, rfl, k1, k2, sX, _, _, sQ, hql, l7⟩
        replace b4 := b4.keep l7
        replace b5 := b5.keep l7
        replace b12 := b12.keep l7
        replace dX := dX.keep l7
        replace sP := sP.keep l7
        replace lx := Later.trans_ lx l7
        refine hK.out _ _ ⟨b4.range 0 1, b5.range 0 2⟩ (fun hHeld => ?_)
        clear hK K'
        try simp only [Act.put, List.setIfInBounds_toArray, List.set_cons_zero, List.set_cons_succ]
        refine wpAnyH_ready (rs := [8, 9]) (by kernel_rfl) (by simp) (AllReadyH.cons (o := ⟨some 15, .alloc 39, _, _, _, none⟩) rfl (fun K' hK => ?_) (AllReadyH.cons (o := ⟨some 16, .alloc 42, _, _, _, none⟩) rfl (fun K' hK => ?_) AllReadyH.nil))
        · refine wp_new_pl rfl fun ua G15 b15 la15 hG15 => ?_
          have fG15 := Nat.le_trans lx.size hG15
          replace b4 := b4.keep la15
          replace b5 := b5.keep la15
          replace b12 := b12.keep la15
          replace dX := dX.keep la15
          replace sP := sP.keep la15
          replace sX := sX.keep la15
          replace sQ := sQ.keep la15
          replace lx := Later.trans_ lx la15
          refine hK.out _ _ ⟨b4.range 0 1, b5.range 0 2⟩ (fun hHeld => ?_)
          clear hK K'
          try simp only [Act.put, List.setIfInBounds_toArray, List.set_cons_zero, List.set_cons_succ]
          refine wpAnyH_ready (rs := [9]) (by kernel_rfl) (by simp) (AllReadyH.cons (o := ⟨some 16, .alloc 42, _, _, _, none⟩) rfl (fun K' hK => ?_) AllReadyH.nil)
          refine wp_new_tk rfl fun ub G16 b16 la16 hG16 => ?_
          have fG16 := Nat.le_trans lx.size hG16
          replace b4 := b4.keep la16
          replace b5 := b5.keep la16
          replace b12 := b12.keep la16
          replace dX := dX.keep la16
          replace sP := sP.keep la16
          replace sX := sX.keep la16
          replace sQ := sQ.keep la16
          replace b15 := b15.keep la16
          replace lx := Later.trans_ lx la16
          refine hK.out _ _ ⟨b4.range 0 1, b5.range 0 2⟩ (fun hHeld => ?_)
          clear hK K'
          try simp only [Act.put, List.setIfInBounds_toArray, List.set_cons_zero, List.set_cons_succ]
          refine wpAnyH_ready (rs := [10]) (by kernel_rfl) (by simp) (AllReadyH.cons (o := ⟨none, .store 39 (.tmp 15) (.tmp 57), _, _, _, none⟩) rfl (fun K' hK => ?_) AllReadyH.nil)
          refine wp_store_blk 39 _ _ rfl G15 39 [.int .i64 0, .bool false] ([.int .i64 x1, .bool y1]) rfl rfl b15 plS rfl (one2 rfl rfl) ?_
          intro wq bq oq
          replace b4 := b4.only oq (blk_ne b4 b15 (by decide))
          replace b5 := b5.only oq (blk_ne b5 b15 (by decide))
          replace b12 := b12.only oq (blk_ne b12 b15 (by decide))
          replace dX := dX.only oq (sl_ne dX.sl (by omega) b15 (Nat.succ_pos _) (show 2 < 128 from by decide))
          replace sP := sP.lx (Lx.only oq) (fun hm ad e => by subst e; exact sl_ne sP hm b15 (Nat.succ_pos _) (show 2 < 4 from by decide))
          replace sX := sX.lx (Lx.only oq) (fun hm ad e => by subst e; exact sl_ne sX hm b15 (Nat.succ_pos _) (show 2 < 128 from by decide))
          replace sQ := sQ.lx (Lx.only oq) (fun hm ad e => by subst e; exact sl_ne sQ hm b15 (Nat.succ_pos _) (show 2 < 4 from by decide))
          replace b16 := b16.only oq (blk_ne b16 b15 (by decide))
          replace lx := Below.only lx oq fG15
          clear b15
          have b15 := bq
          clear bq oq
          refine hK.out _ _ ⟨b4.range 0 1, b5.range 0 2⟩ (fun hHeld => ?_)
          clear hK K'
          try simp only [Act.put]
          refine wpAnyH_ready (rs := [11]) (by kernel_rfl) (by simp) (AllReadyH.cons (o := ⟨none, .store 42 (.tmp 16) (.tmp 61), _, _, _, none⟩) rfl (fun K' hK => ?_) AllReadyH.nil)
          refine wp_store_blk 42 _ _ rfl G16 42 [.slice none 0 0, .slice none 0 0, .int .i64 0] ([.slice A2 n c2, .slice AQ mq cq, .int .i64 E1]) rfl rfl b16 tkS rfl (one3 rfl rfl rfl) ?_
          intro wq bq oq
          replace b4 := b4.only oq (blk_ne b4 b16 (by decide))
          replace b5 := b5.only oq (blk_ne b5 b16 (by decide))
          replace b12 := b12.only oq (blk_ne b12 b16 (by decide))
          replace dX := dX.only oq (sl_ne dX.sl (by omega) b16 (Nat.succ_pos _) (show 3 < 128 from by decide))
          replace sP := sP.lx (Lx.only oq) (fun hm ad e => by subst e; exact sl_ne sP hm b16 (Nat.succ_pos _) (show 3 < 4 from by decide))
          replace sX := sX.lx (Lx.only oq) (fun hm ad e => by subst e; exact sl_ne sX hm b16 (Nat.succ_pos _) (show 3 < 128 from by decide))
          replace sQ := sQ.lx (Lx.only oq) (fun hm ad e => by subst e; exact sl_ne sQ hm b16 (Nat.succ_pos _) (show 3 < 4 from by decide))
          replace b15 := b15.only oq (blk_ne b15 b16 (by decide))
          replace lx := Below.only lx oq fG16
          clear b16
          have b16 := bq
          clear bq oq
          refine hK.out _ _ ⟨b4.range 0 1, b5.range 0 2⟩ (fun hHeld => ?_)
          clear hK K'
          try simp only [Act.put]
          refine wpAnyH_done (by kernel_rfl) ?_ _
          clear hHeld
          go_wp2
          go_meet
          exact ⟨G15, G16, A2, c2, AQ, mq, cq, rfl, rfl, b15, b16, Lib.hid ⟨k1, k2⟩, sX, sQ, Lib.hid hql, lx⟩
        · refine wp_new_tk rfl fun ub G16 b16 la16 hG16 => ?_
          have fG16 := Nat.le_trans lx.size hG16
          replace b4 := b4.keep la16
          replace b5 := b5.keep la16
          replace b12 := b12.keep la16
          replace dX := dX.keep la16
          replace sP := sP.keep la16
          replace sX := sX.keep la16
          replace sQ := sQ.keep la16
          replace lx := Later.trans_ lx la16
          refine hK.out _ _ ⟨b4.range 0 1, b5.range 0 2⟩ (fun hHeld => ?_)
          clear hK K'
          try simp only [Act.put, List.setIfInBounds_toArray, List.set_cons_zero, List.set_cons_succ]
          refine wpAnyH_ready (rs := [8]) (by kernel_rfl) (by simp) (AllReadyH.cons (o := ⟨some 15, .alloc 39, _, _, _, none⟩) rfl (fun K' hK => ?_) AllReadyH.nil)
          refine wp_new_pl rfl fun ua G15 b15 la15 hG15 => ?_
          have fG15 := Nat.le_trans lx.size hG15
          replace b4 := b4.keep la15
          replace b5 := b5.keep la15
          replace b12 := b12.keep la15
          replace dX := dX.keep la15
          replace sP := sP.keep la15
          replace sX := sX.keep la15
          replace sQ := sQ.keep la15
          replace b16 := b16.keep la15
          replace lx := Later.trans_ lx la15
          refine hK.out _ _ ⟨b4.range 0 1, b5.range 0 2⟩ (fun hHeld => ?_)
          clear hK K'
          try simp only [Act.put, List.setIfInBounds_toArray, List.set_cons_zero, List.set_cons_succ]
          refine wpAnyH_ready (rs := [10]) (by kernel_rfl) (by simp) (AllReadyH.cons (o := ⟨none, .store 39 (.tmp 15) (.tmp 57), _, _, _, none⟩) rfl (fun K' hK => ?_) AllReadyH.nil)
          refine wp_store_blk 39 _ _ rfl G15 39 [.int .i64 0, .bool false] ([.int .i64 x1, .bool y1]) rfl rfl b15 plS rfl (one2 rfl rfl) ?_
          intro wq bq oq
          replace b4 := b4.only oq (blk_ne b4 b15 (by decide))
          replace b5 := b5.only oq (blk_ne b5 b15 (by decide))
          replace b12 := b12.only oq (blk_ne b12 b15 (by decide))
          replace dX := dX.only oq (sl_ne dX.sl (by omega) b15 (Nat.succ_pos _) (show 2 < 128 from by decide))
          replace sP := sP.lx (Lx.only oq) (fun hm ad e => by subst e; exact sl_ne sP hm b15 (Nat.succ_pos _) (show 2 < 4 from by decide))
          replace sX := sX.lx (Lx.only oq) (fun hm ad e => by subst e; exact sl_ne sX hm b15 (Nat.succ_pos _) (show 2 < 128 from by decide))
          replace sQ := sQ.lx (Lx.only oq) (fun hm ad e => by subst e; exact sl_ne sQ hm b15 (Nat.succ_pos _) (show 2 < 4 from by decide))
          replace b16 := b16.only oq (blk_ne b16 b15 (by decide))
          replace lx := Below.only lx oq fG15
          clear b15
          have b15 := bq
          clear bq oq
          refine hK.out _ _ ⟨b4.range 0 1, b5.range 0 2⟩ (fun hHeld => ?_)
          clear hK K'
          try simp only [Act.put]
          refine wpAnyH_ready (rs := [11]) (by kernel_rfl) (by simp) (AllReadyH.cons (o := ⟨none, .store 42 (.tmp 16) (.tmp 61), _, _, _, none⟩) rfl (fun K' hK => ?_) AllReadyH.nil)
          refine wp_store_blk 42 _ _ rfl G16 42 [.slice none 0 0, .slice none 0 0, .int .i64 0] ([.slice A2 n c2, .slice AQ mq cq, .int .i64 E1]) rfl rfl b16 tkS rfl (one3 rfl rfl rfl) ?_
          intro wq bq oq
          replace b4 := b4.only oq (blk_ne b4 b16 (by decide))
          replace b5 := b5.only oq (blk_ne b5 b16 (by decide))
          replace b12 := b12.only oq (blk_ne b12 b16 (by decide))
          replace dX := dX.only oq (sl_ne dX.sl (by omega) b16 (Nat.succ_pos _) (show 3 < 128 from by decide))
          replace sP := sP.lx (Lx.only oq) (fun hm ad e => by subst e; exact sl_ne sP hm b16 (Nat.succ_pos _) (show 3 < 4 from by decide))
          replace sX := sX.lx (Lx.only oq) (fun hm ad e => by subst e; exact sl_ne sX hm b16 (Nat.succ_pos _) (show 3 < 128 from by decide))
          replace sQ := sQ.lx (Lx.only oq) (fun hm ad e => by subst e; exact sl_ne sQ hm b16 (Nat.succ_pos _) (show 3 < 4 from by decide))
          replace b15 := b15.only oq (blk_ne b15 b16 (by decide))
          replace lx := Below.only lx oq fG16
          clear b16
          have b16 := bq
          clear bq oq
          refine hK.out _ _ ⟨b4.range 0 1, b5.range 0 2⟩ (fun hHeld => ?_)
          clear hK K'
          try simp only [Act.put]
          refine wpAnyH_done (by kernel_rfl) ?_ _
          clear hHeld
          go_wp2
          go_meet
          exact ⟨G15, G16, A2, c2, AQ, mq, cq, rfl, rfl, b15, b16, Lib.hid ⟨k1, k2⟩, sX, sQ, Lib.hid hql, lx⟩
      · refine wp_new_pl rfl fun ua G15 b15 la15 hG15 => ?_
        have fG15 := Nat.le_trans lx.size hG15
        replace b4 := b4.keep la15
        replace b5 := b5.keep la15
        replace b12 := b12.keep la15
        replace dX := dX.keep la15
        replace sP := sP.keep la15
        replace lx := Later.trans_ lx la15
        refine hK.out _ _ ⟨b4.range 0 1, b5.range 0 2⟩ (fun hHeld => ?_)
        clear hK K'
        try simp only [Act.put, List.setIfInBounds_toArray, List.set_cons_zero, List.set_cons_succ]
        refine wpAnyH_ready (rs := [7, 9]) (by kernel_rfl) (by simp) (AllReadyH.cons (o := ⟨some 61, .call { callee := .value (.func 17), args := #[.tmp 58, .tmp 59, .tmp 60], argTypes := #[24, 27, 3] }, _, _, _, none⟩) rfl (fun K' hK => ?_) (AllReadyH.cons (o := ⟨some 16, .alloc 42, _, _, _, none⟩) rfl (fun K' hK => ?_) AllReadyH.nil))
        · go_simp
          (with_reducible refine (KRT.out _ (Later.trans_ lw lx)).mono ?_)
          rintro e u7 ⟨A2, c2, AQ, mq, cq, rfl, k1, k2, sX, _, _, sQ, hql, l7⟩
          replace b4 := b4.keep l7
          replace b5 := b5.keep l7
          replace b12 := b12.keep l7
          replace dX := dX.keep l7
          replace sP := sP.keep l7
          replace b15 := b15.keep l7
          replace lx := Later.trans_ lx l7
          refine hK.out _ _ ⟨b4.range 0 1, b5.range 0 2⟩ (fun hHeld => ?_)
          clear hK K'
          try simp only [Act.put, List.setIfInBounds_toArray, List.set_cons_zero, List.set_cons_succ]
          refine wpAnyH_ready (rs := [9]) (by kernel_rfl) (by simp) (AllReadyH.cons (o := ⟨some 16, .alloc 42, _, _, _, none⟩) rfl (fun K' hK => ?_) AllReadyH.nil)
          refine wp_new_tk rfl fun ub G16 b16 la16 hG16 => ?_
          have fG16 := Nat.le_trans lx.size hG16
          replace b4 := b4.keep la16
          replace b5 := b5.keep la16
          replace b12 := b12.keep la16
          replace dX := dX.keep la16
          replace sP := sP.keep la16
          replace sX := sX.keep la16
          replace sQ := sQ.keep la16
          replace b15 := b15.keep la16
          replace lx := Later.trans_ lx la16
          refine hK.out _ _ ⟨b4.range 0 1, b5.range 0 2⟩ (fun hHeld => ?_)
          clear hK K'
          try simp only [Act.put, List.setIfInBounds_toArray, List.set_cons_zero, List.set_cons_succ]
          refine wpAnyH_ready (rs := [10]) (by kernel_rfl) (by simp) (AllReadyH.cons (o := ⟨none, .store 39 (.tmp 15) (.tmp 57), _, _, _, none⟩) rfl (fun K' hK => ?_) AllReadyH.nil)
          refine wp_store_blk 39 _ _ rfl G15 39 [.int .i64 0, .bool false] ([.int .i64 x1, .bool y1]) rfl rfl b15 plS rfl (one2 rfl rfl) ?_
          intro wq bq oq
          replace b4 := b4.only oq (blk_ne b4 b15 (by decide))
          replace b5 := b5.only oq (blk_ne b5 b15 (by decide))
          replace b12 := b12.only oq (blk_ne b12 b15 (by decide))
          replace dX := dX.only oq (sl_ne dX.sl (by omega) b15 (Nat.succ_pos _) (show 2 < 128 from by decide))
          replace sP := sP.lx (Lx.only oq) (fun hm ad e => by subst e; exact sl_ne sP hm b15 (Nat.succ_pos _) (show 2 < 4 from by decide))
          replace sX := sX.lx (Lx.only oq) (fun hm ad e => by subst e; exact sl_ne sX hm b15 (Nat.succ_pos _) (show 2 < 128 from by decide))
          replace sQ := sQ.lx (Lx.only oq) (fun hm ad e => by subst e; exact sl_ne sQ hm b15 (Nat.succ_pos _) (show 2 < 4 from by decide))
          replace b16 := b16.only oq (blk_ne b16 b15 (by decide))
          replace lx := Below.only lx oq fG15
          clear b15
          have b15 := bq
          clear bq oq
          refine hK.out _ _ ⟨b4.range 0 1, b5.range 0 2⟩ (fun hHeld => ?_)
          clear hK K'
          try simp only [Act.put]
          refine wpAnyH_ready (rs := [11]) (by kernel_rfl) (by simp) (AllReadyH.cons (o := ⟨none, .store 42 (.tmp 16) (.tmp 61), _, _, _, none⟩) rfl (fun K' hK => ?_) AllReadyH.nil)
          refine wp_store_blk 42 _ _ rfl G16 42 [.slice none 0 0, .slice none 0 0, .int .i64 0] ([.slice A2 n c2, .slice AQ mq cq, .int .i64 E1]) rfl rfl b16 tkS rfl (one3 rfl rfl rfl) ?_
          intro wq bq oq
          replace b4 := b4.only oq (blk_ne b4 b16 (by decide))
          replace b5 := b5.only oq (blk_ne b5 b16 (by decide))
          replace b12 := b12.only oq (blk_ne b12 b16 (by decide))
          replace dX := dX.only oq (sl_ne dX.sl (by omega) b16 (Nat.succ_pos _) (show 3 < 128 from by decide))
          replace sP := sP.lx (Lx.only oq) (fun hm ad e => by subst e; exact sl_ne sP hm b16 (Nat.succ_pos _) (show 3 < 4 from by decide))
          replace sX := sX.lx (Lx.only oq) (fun hm ad e => by subst e; exact sl_ne sX hm b16 (Nat.succ_pos _) (show 3 < 128 from by decide))
          replace sQ := sQ.lx (Lx.only oq) (fun hm ad e => by subst e; exact sl_ne sQ hm b16 (Nat.succ_pos _) (show 3 < 4 from by decide))
          replace b15 := b15.only oq (blk_ne b15 b16 (by decide))
          replace lx := Below.only lx oq fG16
          clear b16
          have b16 := bq
          clear bq oq
          refine hK.out _ _ ⟨b4.range 0 1, b5.range 0 2⟩ (fun hHeld => ?_)
          clear hK K'
          try simp only [Act.put]
          refine wpAnyH_done (by kernel_rfl) ?_ _
          clear hHeld
          go_wp2
          go_meet
          exact ⟨G15, G16, A2, c2, AQ, mq, cq, rfl, rfl, b15, b16, Lib.hid ⟨k1, k2⟩, sX, sQ, Lib.hid hql, lx⟩
        · refine wp_new_tk rfl fun ub G16 b16 la16 hG16 => ?_
          have fG16 := Nat.le_trans lx.size hG16
          replace b4 := b4.keep la16
          replace b5 := b5.keep la16
          replace b12 := b12.keep la16
          replace dX := dX.keep la16
          replace sP := sP.keep la16
          replace b15 := b15.keep la16
          replace lx := Later.trans_ lx la16
          refine hK.out _ _ ⟨b4.range 0 1, b5.range 0 2⟩ (fun hHeld => ?_)
          clear hK K'
          try simp only [Act.put, List.setIfInBounds_toArray, List.set_cons_zero, List.set_cons_succ]
          refine wpAnyH_ready (rs := [7]) (by kernel_rfl) (by simp) (AllReadyH.cons (o := ⟨some 61, .call { callee := .value (.func 17), args := #[.tmp 58, .tmp 59, .tmp 60], argTypes := #[24, 27, 3] }, _, _, _, none⟩) rfl (fun K' hK => ?_) AllReadyH.nil)
          go_simp
          (with_reducible refine (KRT.out _ (Later.trans_ lw lx)).mono ?_)
          rintro e u7 ⟨A2, c2, AQ, mq, cq, rfl, k1, k2, sX, _, _, sQ, hql, l7⟩
          replace b4 := b4.keep l7
          replace b5 := b5.keep l7
          replace b12 := b12.keep l7
          replace dX := dX.keep l7
          replace sP := sP.keep l7
          replace b15 := b15.keep l7
          replace b16 := b16.keep l7
          replace lx := Later.trans_ lx l7
          refine hK.out _ _ ⟨b4.range 0 1, b5.range 0 2⟩ (fun hHeld => ?_)
          clear hK K'
          try simp only [Act.put, List.setIfInBounds_toArray, List.set_cons_zero, List.set_cons_succ]
          refine wpAnyH_ready (rs := [10]) (by kernel_rfl) (by simp) (AllReadyH.cons (o := ⟨none, .store 39 (.tmp 15) (.tmp 57), _, _, _, none⟩) rfl (fun K' hK => ?_) AllReadyH.nil)
          refine wp_store_blk 39 _ _ rfl G15 39 [.int .i64 0, .bool false] ([.int .i64 x1, .bool y1]) rfl rfl b15 plS rfl (one2 rfl rfl) ?_
          intro wq bq oq
          replace b4 := b4.only oq (blk_ne b4 b15 (by decide))
          replace b5 := b5.only oq (blk_ne b5 b15 (by decide))
          replace b12 := b12.only oq (blk_ne b12 b15 (by decide))
          replace dX := dX.only oq (sl_ne dX.sl (by omega) b15 (Nat.succ_pos _) (show 2 < 128 from by decide))
          replace sP := sP.lx (Lx.only oq) (fun hm ad e => by subst e; exact sl_ne sP hm b15 (Nat.succ_pos _) (show 2 < 4 from by decide))
          replace sX := sX.lx (Lx.only oq) (fun hm ad e => by subst e; exact sl_ne sX hm b15 (Nat.succ_pos _) (show 2 < 128 from by decide))
          replace sQ := sQ.lx (Lx.only oq) (fun hm ad e => by subst e; exact sl_ne sQ hm b15 (Nat.succ_pos _) (show 2 < 4 from by decide))
          replace b16 := b16.only oq (blk_ne b16 b15 (by decide))
          replace lx := Below.only lx oq fG15
          clear b15
          have b15 := bq
          clear bq oq
          refine hK.out _ _ ⟨b4.range 0 1, b5.range 0 2⟩ (fun hHeld => ?_)
          clear hK K'
          try simp only [Act.put]
          refine wpAnyH_ready (rs := [11]) (by kernel_rfl) (by simp) (AllReadyH.cons (o := ⟨none, .store 42 (.tmp 16) (.tmp 61), _, _, _, none⟩) rfl (fun K' hK => ?_) AllReadyH.nil)
          refine wp_store_blk 42 _ _ rfl G16 42 [.slice none 0 0, .slice none 0 0, .int .i64 0] ([.slice A2 n c2, .slice AQ mq cq, .int .i64 E1]) rfl rfl b16 tkS rfl (one3 rfl rfl rfl) ?_
          intro wq bq oq
          replace b4 := b4.only oq (blk_ne b4 b16 (by decide))
          replace b5 := b5.only oq (blk_ne b5 b16 (by decide))
          replace b12 := b12.only oq (blk_ne b12 b16 (by decide))
          replace dX := dX.only oq (sl_ne dX.sl (by omega) b16 (Nat.succ_pos _) (show 3 < 128 from by decide))
          replace sP := sP.lx (Lx.only oq) (fun hm ad e => by subst e; exact sl_ne sP hm b16 (Nat.succ_pos _) (show 3 < 4 from by decide))
          replace sX := sX.lx (Lx.only oq) (fun hm ad e => by subst e; exact sl_ne sX hm b16 (Nat.succ_pos _) (show 3 < 128 from by decide))
          replace sQ := sQ.lx (Lx.only oq) (fun hm ad e => by subst e; exact sl_ne sQ hm b16 (Nat.succ_pos _) (show 3 < 4 from by decide))
          replace b15 := b15.only oq (blk_ne b15 b16 (by decide))
          replace lx := Below.only lx oq fG16
          clear b16
          have b16 := bq
          clear bq oq
          refine hK.out _ _ ⟨b4.range 0 1, b5.range 0 2⟩ (fun hHeld => ?_)
          clear hK K'
          try simp only [Act.put]
          refine wpAnyH_done (by kernel_rfl) ?_ _
          clear hHeld
          go_wp2
          go_meet
          exact ⟨G15, G16, A2, c2, AQ, mq, cq, rfl, rfl, b15, b16, Lib.hid ⟨k1, k2⟩, sX, sQ, Lib.hid hql, lx⟩
      · refine wp_new_tk rfl fun ub G16 b16 la16 hG16 => ?_
        have fG16 := Nat.le_trans lx.size hG16
        replace b4 := b4.keep la16
        replace b5 := b5.keep la16
        replace b12 := b12.keep la16
        replace dX := dX.keep la16
        replace sP := sP.keep la16
        replace lx := Later.trans_ lx la16
        refine hK.out _ _ ⟨b4.range 0 1, b5.range 0 2⟩ (fun hHeld => ?_)
        clear hK K'
        try simp only [Act.put, List.setIfInBounds_toArray, List.set_cons_zero, List.set_cons_succ]
        refine wpAnyH_ready (rs := [7, 8]) (by kernel_rfl) (by simp) (AllReadyH.cons (o := ⟨some 61, .call { callee := .value (.func 17), args := #[.tmp 58, .tmp 59, .tmp 60], argTypes := #[24, 27, 3] }, _, _, _, none⟩) rfl (fun K' hK => ?_) (AllReadyH.cons (o := ⟨some 15, .alloc 39, _, _, _, none⟩) rfl (fun K' hK => ?_) AllReadyH.nil))
        · go_simp
          (with_reducible refine (KRT.out _ (Later.trans_ lw lx)).mono ?_)
          rintro e u7 ⟨A2, c2, AQ, mq, cq, rfl, k1, k2, sX, _, _, sQ, hql, l7⟩
          replace b4 := b4.keep l7
          replace b5 := b5.keep l7
          replace b12 := b12.keep l7
          replace dX := dX.keep l7
          replace sP := sP.keep l7
          replace b16 := b16.keep l7
          replace lx := Later.trans_ lx l7
          refine hK.out _ _ ⟨b4.range 0 1, b5.range 0 2⟩ (fun hHeld => ?_)
          clear hK K'
          try simp only [Act.put, List.setIfInBounds_toArray, List.set_cons_zero, List.set_cons_succ]
          refine wpAnyH_ready (rs := [8]) (by kernel_rfl) (by simp) (AllReadyH.cons (o := ⟨some 15, .alloc 39, _, _, _, none⟩) rfl (fun K' hK => ?_) AllReadyH.nil)
          refine wp_new_pl rfl fun ua G15 b15 la15 hG15 => ?_
          have fG15 := Nat.le_trans lx.size hG15
          replace b4 := b4.keep la15
          replace b5 := b5.keep la15
          replace b12 := b12.keep la15
          replace dX := dX.keep la15
          replace sP := sP.keep la15
          replace sX := sX.keep la15
          replace sQ := sQ.keep la15
          replace b16 := b16.keep la15
          replace lx := Later.trans_ lx la15
          refine hK.out _ _ ⟨b4.range 0 1, b5.range 0 2⟩ (fun hHeld => ?_)
          clear hK K'
          try simp only [Act.put, List.setIfInBounds_toArray, List.set_cons_zero, List.set_cons_succ]
          refine wpAnyH_ready (rs := [10]) (by kernel_rfl) (by simp) (AllReadyH.cons (o := ⟨none, .store 39 (.tmp 15) (.tmp 57), _, _, _, none⟩) rfl (fun K' hK => ?_) AllReadyH.nil)
          refine wp_store_blk 39 _ _ rfl G15 39 [.int .i64 0, .bool false] ([.int .i64 x1, .bool y1]) rfl rfl b15 plS rfl (one2 rfl rfl) ?_
          intro wq bq oq
          replace b4 := b4.only oq (blk_ne b4 b15 (by decide))
          replace b5 := b5.only oq (blk_ne b5 b15 (by decide))
          replace b12 := b12.only oq (blk_ne b12 b15 (by decide))
          replace dX := dX.only oq (sl_ne dX.sl (by omega) b15 (Nat.succ_pos _) (show 2 < 128 from by decide))
          replace sP := sP.lx (Lx.only oq) (fun hm ad e => by subst e; exact sl_ne sP hm b15 (Nat.succ_pos _) (show 2 < 4 from by decide))
          replace sX := sX.lx (Lx.only oq) (fun hm ad e => by subst e; exact sl_ne sX hm b15 (Nat.succ_pos _) (show 2 < 128 from by decide))
          replace sQ := sQ.lx (Lx.only oq) (fun hm ad e => by subst e; exact sl_ne sQ hm b15 (Nat.succ_pos _) (show 2 < 4 from by decide))
          replace b16 := b16.only oq (blk_ne b16 b15 (by decide))
          replace lx := Below.only lx oq fG15
          clear b15
          have b15 := bq
          clear bq oq
          refine hK.out _ _ ⟨b4.range 0 1, b5.range 0 2⟩ (fun hHeld => ?_)
          clear hK K'
          try simp only [Act.put]
          refine wpAnyH_ready (rs := [11]) (by kernel_rfl) (by simp) (AllReadyH.cons (o := ⟨none, .store 42 (.tmp 16) (.tmp 61), _, _, _, none⟩) rfl (fun K' hK => ?_) AllReadyH.nil)
          refine wp_store_blk 42 _ _ rfl G16 42 [.slice none 0 0, .slice none 0 0, .int .i64 0] ([.slice A2 n c2, .slice AQ mq cq, .int .i64 E1]) rfl rfl b16 tkS rfl (one3 rfl rfl rfl) ?_
          intro wq bq oq
          replace b4 := b4.only oq (blk_ne b4 b16 (by decide))
          replace b5 := b5.only oq (blk_ne b5 b16 (by decide))
          replace b12 := b12.only oq (blk_ne b12 b16 (by decide))
          replace dX := dX.only oq (sl_ne dX.sl (by omega) b16 (Nat.succ_pos _) (show 3 < 128 from by decide))
          replace sP := sP.lx (Lx.only oq) (fun hm ad e => by subst e; exact sl_ne sP hm b16 (Nat.succ_pos _) (show 3 < 4 from by decide))
          replace sX := sX.lx (Lx.only oq) (fun hm ad e => by subst e; exact sl_ne sX hm b16 (Nat.succ_pos _) (show 3 < 128 from by decide))
          replace sQ := sQ.lx (Lx.only oq) (fun hm ad e => by subst e; exact sl_ne sQ hm b16 (Nat.succ_pos _) (show 3 < 4 from by decide))
          replace b15 := b15.only oq (blk_ne b15 b16 (by decide))
          replace lx := Below.only lx oq fG16
          clear b16
          have b16 := bq
          clear bq oq
          refine hK.out _ _ ⟨b4.range 0 1, b5.range 0 2⟩ (fun hHeld => ?_)
          clear hK K'
          try simp only [Act.put]
          refine wpAnyH_done (by kernel_rfl) ?_ _
          clear hHeld
          go_wp2
          go_meet
          exact ⟨G15, G16, A2, c2, AQ, mq, cq, rfl, rfl, b15, b16, Lib.hid ⟨k1, k2⟩, sX, sQ, Lib.hid hql, lx⟩
        · refine wp_new_pl rfl fun ua G15 b15 la15 hG15 => ?_
          have fG15 := Nat.le_trans lx.size hG15
          replace b4 := b4.keep la15
          replace b5 := b5.keep la15
          replace b12 := b12.keep la15
          replace dX := dX.keep la15
          replace sP := sP.keep la15
          replace b16 := b16.keep la15
          replace lx := Later.trans_ lx la15
          refine hK.out _ _ ⟨b4.range 0 1, b5.range 0 2⟩ (fun hHeld => ?_)
          clear hK K'
          try simp only [Act.put, List.setIfInBounds_toArray, List.set_cons_zero, List.set_cons_succ]
          refine wpAnyH_ready (rs := [7]) (by kernel_rfl) (by simp) (AllReadyH.cons (o := ⟨some 61, .call { callee := .value (.func 17), args := #[.tmp 58, .tmp 59, .tmp 60], argTypes := #[24, 27, 3] }, _, _, _, none⟩) rfl (fun K' hK => ?_) AllReadyH.nil)
          go_simp
          (with_reducible refine (KRT.out _ (Later.trans_ lw lx)).mono ?_)
          rintro e u7 ⟨A2, c2, AQ, mq, cq, rfl, k1, k2, sX, _, _, sQ, hql, l7⟩
          replace b4 := b4.keep l7
          replace b5 := b5.keep l7
          replace b12 := b12.keep l7
          replace dX := dX.keep l7
          replace sP := sP.keep l7
          replace b15 := b15.keep l7
          replace b16 := b16.keep l7
          replace lx := Later.trans_ lx l7
          refine hK.out _ _ ⟨b4.range 0 1, b5.range 0 2⟩ (fun hHeld => ?_)
          clear hK K'
          try simp only [Act.put, List.setIfInBounds_toArray, List.set_cons_zero, List.set_cons_succ]
          refine wpAnyH_ready (rs := [10]) (by kernel_rfl) (by simp) (AllReadyH.cons (o := ⟨none, .store 39 (.tmp 15) (.tmp 57), _, _, _, none⟩) rfl (fun K' hK => ?_) AllReadyH.nil)
          refine wp_store_blk 39 _ _ rfl G15 39 [.int .i64 0, .bool false] ([.int .i64 x1, .bool y1]) rfl rfl b15 plS rfl (one2 rfl rfl) ?_
          intro wq bq oq
          replace b4 := b4.only oq (blk_ne b4 b15 (by decide))
          replace b5 := b5.only oq (blk_ne b5 b15 (by decide))
          replace b12 := b12.only oq (blk_ne b12 b15 (by decide))
          replace dX := dX.only oq (sl_ne dX.sl (by omega) b15 (Nat.succ_pos _) (show 2 < 128 from by decide))
          replace sP := sP.lx (Lx.only oq) (fun hm ad e => by subst e; exact sl_ne sP hm b15 (Nat.succ_pos _) (show 2 < 4 from by decide))
          replace sX := sX.lx (Lx.only oq) (fun hm ad e => by subst e; exact sl_ne sX hm b15 (Nat.succ_pos _) (show 2 < 128 from by decide))
          replace sQ := sQ.lx (Lx.only oq) (fun hm ad e => by subst e; exact sl_ne sQ hm b15 (Nat.succ_pos _) (show 2 < 4 from by decide))
          replace b16 := b16.only oq (blk_ne b16 b15 (by decide))
          replace lx := Below.only lx oq fG15
          clear b15
          have b15 := bq
          clear bq oq
          refine hK.out _ _ ⟨b4.range 0 1, b5.range 0 2⟩ (fun hHeld => ?_)
          clear hK K'
          try simp only [Act.put]
          refine wpAnyH_ready (rs := [11]) (by kernel_rfl) (by simp) (AllReadyH.cons (o := ⟨none, .store 42 (.tmp 16) (.tmp 61), _, _, _, none⟩) rfl (fun K' hK => ?_) AllReadyH.nil)
          refine wp_store_blk 42 _ _ rfl G16 42 [.slice none 0 0, .slice none 0 0, .int .i64 0] ([.slice A2 n c2, .slice AQ mq cq, .int .i64 E1]) rfl rfl b16 tkS rfl (one3 rfl rfl rfl) ?_
          intro wq bq oq
          replace b4 := b4.only oq (blk_ne b4 b16 (by decide))
          replace b5 := b5.only oq (blk_ne b5 b16 (by decide))
          replace b12 := b12.only oq (blk_ne b12 b16 (by decide))
          replace dX := dX.only oq (sl_ne dX.sl (by omega) b16 (Nat.succ_pos _) (show 3 < 128 from by decide))
          replace sP := sP.lx (Lx.only oq) (fun hm ad e => by subst e; exact sl_ne sP hm b16 (Nat.succ_pos _) (show 3 < 4 from by decide))
          replace sX := sX.lx (Lx.only oq) (fun hm ad e => by subst e; exact sl_ne sX hm b16 (Nat.succ_pos _) (show 3 < 128 from by decide))
          replace sQ := sQ.lx (Lx.only oq) (fun hm ad e => by subst e; exact sl_ne sQ hm b16 (Nat.succ_pos _) (show 3 < 4 from by decide))
          replace b15 := b15.only oq (blk_ne b15 b16 (by decide))
          replace lx := Below.only lx oq fG16
          clear b16
          have b16 := bq
          clear bq oq
          refine hK.out _ _ ⟨b4.range 0 1, b5.range 0 2⟩ (fun hHeld => ?_)
          clear hK K'
          try simp only [Act.put]
          refine wpAnyH_done (by kernel_rfl) ?_ _
          clear hHeld
          go_wp2
          go_meet
          exact ⟨G15, G16, A2, c2, AQ, mq, cq, rfl, rfl, b15, b16, Lib.hid ⟨k1, k2⟩, sX, sQ, Lib.hid hql, lx⟩
    · refine wp_new_pl rfl fun ua G15 b15 la15 hG15 => ?_
      have fG15 := Nat.le_trans lx.size hG15
      replace b4 := b4.keep la15
      replace b5 := b5.keep la15
      replace b12 := b12.keep la15
      replace dX := dX.keep la15
      replace sP := sP.keep la15
      replace lx := Later.trans_ lx la15
      refine hK.out _ _ ⟨b4.range 0 1, b5.range 0 2⟩ (fun hHeld => ?_)
      clear hK K'
      try simp only [Act.put, List.setIfInBounds_toArray, List.set_cons_zero, List.set_cons_succ]
      refine wpAnyH_ready (rs := [3, 9]) (by kernel_rfl) (by simp) (AllReadyH.cons (o := ⟨some 57, .call { callee := .value (.func 16), args := #[.tmp 54, .tmp 55, .tmp 56], argTypes := #[24, 27, 3] }, _, _, _, none⟩) rfl (fun K' hK => ?_) (AllReadyH.cons (o := ⟨some 16, .alloc 42, _, _, _, none⟩) rfl (fun K' hK => ?_) AllReadyH.nil))
      · go_simp
        (with_reducible refine (KRF.out _ (Later.trans_ lw lx)).mono ?_)
        rintro e u3 ⟨rfl, l3⟩
        replace b4 := b4.keep l3
        replace b5 := b5.keep l3
        replace b12 := b12.keep l3
        replace dX := dX.keep l3
        replace sP := sP.keep l3
        replace b15 := b15.keep l3
        replace lx := Later.trans_ lx l3
        refine hK.out _ _ ⟨b4.range 0 1, b5.range 0 2⟩ (fun hHeld => ?_)
        clear hK K'
        try simp only [Act.put, List.setIfInBounds_toArray, List.set_cons_zero, List.set_cons_succ]
        refine wpAnyH_ready (rs := [7, 9]) (by kernel_rfl) (by simp) (AllReadyH.cons (o := ⟨some 61, .call { callee := .value (.func 17), args := #[.tmp 58, .tmp 59, .tmp 60], argTypes := #[24, 27, 3] }, _, _, _, none⟩) rfl (fun K' hK => ?_) (AllReadyH.cons (o := ⟨some 16, .alloc 42, _, _, _, none⟩) rfl (fun K' hK => ?_) AllReadyH.nil))
        · go_simp
          (with_reducible refine (KRT.out _ (Later.trans_ lw lx)).mono ?_)
          rintro e u7 ⟨A2, c2, AQ, mq, cq, rfl, k1, k2, sX, _, _, sQ, hql, l7⟩
          replace b4 := b4.keep l7
          replace b5 := b5.keep l7
          replace b12 := b12.keep l7
          replace dX := dX.keep l7
          replace sP := sP.keep l7
          replace b15 := b15.keep l7
          replace lx := Later.trans_ lx l7
          refine hK.out _ _ ⟨b4.range 0 1, b5.range 0 2⟩ (fun hHeld => ?_)
          clear hK K'
          try simp only [Act.put, List.setIfInBounds_toArray, List.set_cons_zero, List.set_cons_succ]
          refine wpAnyH_ready (rs := [9]) (by kernel_rfl) (by simp) (AllReadyH.cons (o := ⟨some 16, .alloc 42, _, _, _, none⟩) rfl (fun K' hK => ?_) AllReadyH.nil)
          refine wp_new_tk rfl fun ub G16 b16 la16 hG16 => ?_
          have fG16 := Nat.le_trans lx.size hG16
          replace b4 := b4.keep la16
          replace b5 := b5.keep la16
          replace b12 := b12.keep la16
          replace dX := dX.keep la16
          replace sP := sP.keep la16
          replace sX := sX.keep la16
          replace sQ := sQ.keep la16
          replace b15 := b15.keep la16
          replace lx := Later.trans_ lx la16
          refine hK.out _ _ ⟨b4.range 0 1, b5.range 0 2⟩ (fun hHeld => ?_)
          clear hK K'
          try simp only [Act.put, List.setIfInBounds_toArray, List.set_cons_zero, List.set_cons_succ]
          refine wpAnyH_ready (rs := [10]) (by kernel_rfl) (by simp) (AllReadyH.cons (o := ⟨none, .store 39 (.tmp 15) (.tmp 57), _, _, _, none⟩) rfl (fun K' hK => ?_) AllReadyH.nil)
          refine wp_store_blk 39 _ _ rfl G15 39 [.int .i64 0, .bool false] ([.int .i64 x1, .bool y1]) rfl rfl b15 plS rfl (one2 rfl rfl) ?_
          intro wq bq oq
          replace b4 := b4.only oq (blk_ne b4 b15 (by decide))
          replace b5 := b5.only oq (blk_ne b5 b15 (by decide))
          replace b12 := b12.only oq (blk_ne b12 b15 (by decide))
          replace dX := dX.only oq (sl_ne dX.sl (by omega) b15 (Nat.succ_pos _) (show 2 < 128 from by decide))
          replace sP := sP.lx (Lx.only oq) (fun hm ad e => by subst e; exact sl_ne sP hm b15 (Nat.succ_pos _) (show 2 < 4 from by decide))
          replace sX := sX.lx (Lx.only oq) (fun hm ad e => by subst e; exact sl_ne sX hm b15 (Nat.succ_pos _) (show 2 < 128 from by decide))
          replace sQ := sQ.lx (Lx.only oq) (fun hm ad e => by subst e; exact sl_ne sQ hm b15 (Nat.succ_pos _) (show 2 < 4 from by decide))
          replace b16 := b16.only oq (blk_ne b16 b15 (by decide))
          replace lx := Below.only lx oq fG15
          clear b15
          have b15 := bq
          clear bq oq
          refine hK.out _ _ ⟨b4.range 0 1, b5.range 0 2⟩ (fun hHeld => ?_)
          clear hK K'
          try simp only [Act.put]
          refine wpAnyH_ready (rs := [11]) (by kernel_rfl) (by simp) (AllReadyH.cons (o := ⟨none, .store 42 (.tmp 16) (.tmp 61), _, _, _, none⟩) rfl (fun K' hK => ?_) AllReadyH.nil)
          refine wp_store_blk 42 _ _ rfl G16 42 [.slice none 0 0, .slice none 0 0, .int .i64 0] ([.slice A2 n c2, .slice AQ mq cq, .int .i64 E1]) rfl rfl b16 tkS rfl (one3 rfl rfl rfl) ?_
          intro wq bq oq
          replace b4 := b4.only oq (blk_ne b4 b16 (by decide))
          replace b5 := b5.only oq (blk_ne b5 b16 (by decide))
          replace b12 := b12.only oq (blk_ne b12 b16 (by decide))
          replace dX := dX.only oq (sl_ne dX.sl (by omega) b16 (Nat.succ_pos _) (show 3 < 128 from by decide))
          replace sP := sP.lx (Lx.only oq) (fun hm ad e => by subst e; exact sl_ne sP hm b16 (Nat.succ_pos _) (show 3 < 4 from by decide))
          replace sX := sX.lx (Lx.only oq) (fun hm ad e => by subst e; exact sl_ne sX hm b16 (Nat.succ_pos _) (show 3 < 128 from by decide))
          replace sQ := sQ.lx (Lx.only oq) (fun hm ad e => by subst e; exact sl_ne sQ hm b16 (Nat.succ_pos _) (show 3 < 4 from by decide))
          replace b15 := b15.only oq (blk_ne b15 b16 (by decide))
          replace lx := Below.only lx oq fG16
          clear b16
          have b16 := bq
          clear bq oq
          refine hK.out _ _ ⟨b4.range 0 1, b5.range 0 2⟩ (fun hHeld => ?_)
          clear hK K'
          try simp only [Act.put]
          refine wpAnyH_done (by kernel_rfl) ?_ _
          clear hHeld
          go_wp2
          go_meet
          exact ⟨G15, G16, A2, c2, AQ, mq, cq, rfl, rfl, b15, b16, Lib.hid ⟨k1, k2⟩, sX, sQ, Lib.hid hql, lx⟩
        · refine wp_new_tk rfl fun ub G16 b16 la16 hG16 => ?_
          have fG16 := Nat.le_trans lx.size hG16
          replace b4 := b4.keep la16
          replace b5 := b5.keep la16
          replace b12 := b12.keep la16
          replace dX := dX.keep la16
          replace sP := sP.keep la16
          replace b15 := b15.keep la16
          replace lx := Later.trans_ lx la16
          refine hK.out _ _ ⟨b4.range 0 1, b5.range 0 2⟩ (fun hHeld => ?_)
          clear hK K'
          try simp only [Act.put, List.setIfInBounds_toArray, List.set_cons_zero, List.set_cons_succ]
          refine wpAnyH_ready (rs := [7]) (by kernel_rfl) (by simp) (AllReadyH.cons (o := ⟨some 61, .call { callee := .value (.func 17), args := #[.tmp 58, .tmp 59, .tmp 60], argTypes := #[24, 27, 3] }, _, _, _, none⟩) rfl (fun K' hK => ?_) AllReadyH.nil)
          go_simp
          (with_reducible refine (KRT.out _ (Later.trans_ lw lx)).mono ?_)
          rintro e u7 ⟨A2, c2, AQ, mq, cq, rfl, k1, k2, sX, _, _, sQ, hql, l7⟩
          replace b4 := b4.keep l7
          replace b5 := b5.keep l7
          replace b12 := b12.keep l7
          replace dX := dX.keep l7
          replace sP := sP.keep l7
          replace b15 := b15.keep l7
          replace b16 := b16.keep l7
          replace lx := Later.trans_ lx l7
          refine hK.out _ _ ⟨b4.range 0 1, b5.range 0 2⟩ (fun hHeld => ?_)
          clear hK K'
          try simp only [Act.put, List.setIfInBounds_toArray, List.set_cons_zero, List.set_cons_succ]
          refine wpAnyH_ready (rs := [10]) (by kernel_rfl) (by simp) (AllReadyH.cons (o := ⟨none, .store 39 (.tmp 15) (.tmp 57), _, _, _, none⟩) rfl (fun K' hK => ?_) AllReadyH.nil)
          refine wp_store_blk 39 _ _ rfl G15 39 [.int .i64 0, .bool false] ([.int .i64 x1, .bool y1]) rfl rfl b15 plS rfl (one2 rfl rfl) ?_
          intro wq bq oq
          replace b4 := b4.only oq (blk_ne b4 b15 (by decide))
          replace b5 := b5.only oq (blk_ne b5 b15 (by decide))
          replace b12 := b12.only oq (blk_ne b12 b15 (by decide))
          replace dX := dX.only oq (sl_ne dX.sl (by omega) b15 (Nat.succ_pos _) (show 2 < 128 from by decide))
          replace sP := sP.lx (Lx.only oq) (fun hm ad e => by subst e; exact sl_ne sP hm b15 (Nat.succ_pos _) (show 2 < 4 from by decide))
          replace sX := sX.lx (Lx.only oq) (fun hm ad e => by subst e; exact sl_ne sX hm b15 (Nat.succ_pos _) (show 2 < 128 from by decide))
          replace sQ := sQ.lx (Lx.only oq) (fun hm ad e => by subst e; exact sl_ne sQ hm b15 (Nat.succ_pos _) (show 2 < 4 from by decide))
          replace b16 := b16.only oq (blk_ne b16 b15 (by decide))
          replace lx := Below.only lx oq fG15
          clear b15
          have b15 := bq
          clear bq oq
          refine hK.out _ _ ⟨b4.range 0 1, b5.range 0 2⟩ (fun hHeld => ?_)
          clear hK K'
          try simp only [Act.put]
          refine wpAnyH_ready (rs := [11]) (by kernel_rfl) (by simp) (AllReadyH.cons (o := ⟨none, .store 42 (.tmp 16) (.tmp 61), _, _, _, none⟩) rfl (fun K' hK => ?_) AllReadyH.nil)
          refine wp_store_blk 42 _ _ rfl G16 42 [.slice none 0 0, .slice none 0 0, .int .i64 0] ([.slice A2 n c2, .slice AQ mq cq, .int .i64 E1]) rfl rfl b16 tkS rfl (one3 rfl rfl rfl) ?_
          intro wq bq oq
          replace b4 := b4.only oq (blk_ne b4 b16 (by decide))
          replace b5 := b5.only oq (blk_ne b5 b16 (by decide))
          replace b12 := b12.only oq (blk_ne b12 b16 (by decide))
          replace dX := dX.only oq (sl_ne dX.sl (by omega) b16 (Nat.succ_pos _) (show 3 < 128 from by decide))
          replace sP := sP.lx (Lx.only oq) (fun hm ad e => by subst e; exact sl_ne sP hm b16 (Nat.succ_pos _) (show 3 < 4 from by decide))
          replace sX := sX.lx (Lx.only oq) (fun hm ad e => by subst e; exact sl_ne sX hm b16 (Nat.succ_pos _) (show 3 < 128 from by decide))
          replace sQ := sQ.lx (Lx.only oq) (fun hm ad e => by subst e; exact sl_ne sQ hm b16 (Nat.succ_pos _) (show 3 < 4 from by decide))
          replace b15 := b15.only oq (blk_ne b15 b16 (by decide))
          replace lx := Below.only lx oq fG16
          clear b16
          have b16 := bq
          clear bq oq
          refine hK.out _ _ ⟨b4.range 0 1, b5.range 0 2⟩ (fun hHeld => ?_)
          clear hK K'
          try simp only [Act.put]
          refine wpAnyH_done (by kernel_rfl) ?_ _
          clear hHeld
          go_wp2
          go_meet
          exact ⟨G15, G16, A2, c2, AQ, mq, cq, rfl, rfl, b15, b16, Lib.hid ⟨k1, k2⟩, sX, sQ, Lib.hid hql, lx⟩
      · refine wp_new_tk rfl fun ub G16 b16 la16 hG16 => ?_
        have fG16 := Nat.le_trans lx.size hG16
        replace b4 := b4.keep la16
        replace b5 := b5.keep la16
        replace b12 := b12.keep la16
        replace dX := dX.keep la16
        replace sP := sP.keep la16
        replace b15 := b15.keep la16
        replace lx := Later.trans_ lx la16
        refine hK.out _ _ ⟨b4.range 0 1, b5.range 0 2⟩ (fun hHeld => ?_)
        clear hK K'
        try simp only [Act.put, List.setIfInBounds_toArray, List.set_cons_zero, List.set_cons_succ]
        refine wpAnyH_ready (rs := [3]) (by kernel_rfl) (by simp) (AllReadyH.cons (o := ⟨some 57, .call { callee := .value (.func 16), args := #[.tmp 54, .tmp 55, .tmp 56], argTypes := #[24, 27, 3] }, _, _, _, none⟩) rfl (fun K' hK => ?_) AllReadyH.nil)
        go_simp
        (with_reducible refine (KRF.out _ (Later.trans_ lw lx)).mono ?_)
        rintro e u3 ⟨rfl, l3⟩
        replace b4 := b4.keep l3
        replace b5 := b5.keep l3
        replace b12 := b12.keep l3
        replace dX := dX.keep l3
        replace sP := sP.keep l3
        replace b15 := b15.keep l3
        replace b16 := b16.keep l3
        replace lx := Later.trans_ lx l3
        refine hK.out _ _ ⟨b4.range 0 1, b5.range 0 2⟩ (fun hHeld => ?_)
        clear hK K'
        try simp only [Act.put, List.setIfInBounds_toArray, List.set_cons_zero, List.set_cons_succ]
        refine wpAnyH_ready (rs := [7]) (by kernel_rfl) (by simp) (AllReadyH.cons (o := ⟨some 61, .call { callee := .value (.func 17), args := #[.tmp 58, .tmp 59, .tmp 60], argTypes := #[24, 27, 3] }, _, _, _, none⟩) rfl (fun K' hK => ?_) AllReadyH.nil)
        go_simp
        (with_reducible refine (KRT.out _ (Later.trans_ lw lx)).mono ?_)
        rintro e u7 ⟨A2, c2, AQ, mq, cq, rfl, k1, k2, sX, _, _, sQ, hql, l7⟩
        replace b4 := b4.keep l7
        replace b5 := b5.keep l7
        replace b12 := b12.keep l7
        replace dX := dX.keep l7
        replace sP := sP.keep l7
        replace b15 := b15.keep l7
        replace b16 := b16.keep l7
        replace lx := Later.trans_ lx l7
        refine hK.out _ _ ⟨b4.range 0 1, b5.range 0 2⟩ (fun hHeld => ?_)
        clear hK K'
        try simp only [Act.put, List.setIfInBounds_toArray, List.set_cons_zero, List.set_cons_succ]
        refine wpAnyH_ready (rs := [10]) (by kernel_rfl) (by simp) (AllReadyH.cons (o := ⟨none, .store 39 (.tmp 15) (.tmp 57), _, _, _, none⟩) rfl (fun K' hK => ?_) AllReadyH.nil)
        refine wp_store_blk 39 _ _ rfl G15 39 [.int .i64 0, .bool false] ([.int .i64 x1, .bool y1]) rfl rfl b15 plS rfl (one2 rfl rfl) ?_
        intro wq bq oq
        replace b4 := b4.only oq (blk_ne b4 b15 (by decide))
        replace b5 := b5.only oq (blk_ne b5 b15 (by decide))
        replace b12 := b12.only oq (blk_ne b12 b15 (by decide))
        replace dX := dX.only oq (sl_ne dX.sl (by omega) b15 (Nat.succ_pos _) (show 2 < 128 from by decide))
        replace sP := sP.lx (Lx.only oq) (fun hm ad e => by subst e; exact sl_ne sP hm b15 (Nat.succ_pos _) (show 2 < 4 from by decide))
        replace sX := sX.lx (Lx.only oq) (fun hm ad e => by subst e; exact sl_ne sX hm b15 (Nat.succ_pos _) (show 2 < 128 from by decide))
        replace sQ := sQ.lx (Lx.only oq) (fun hm ad e => by subst e; exact sl_ne sQ hm b15 (Nat.succ_pos _) (show 2 < 4 from by decide))
        replace b16 := b16.only oq (blk_ne b16 b15 (by decide))
        replace lx := Below.only lx oq fG15
        clear b15
        have b15 := bq
        clear bq oq
        refine hK.out _ _ ⟨b4.range 0 1, b5.range 0 2⟩ (fun hHeld => ?_)
        clear hK K'
        try simp only [Act.put]
        refine wpAnyH_ready (rs := [11]) (by kernel_rfl) (by simp) (AllReadyH.cons (o := ⟨none, .store 42 (.tmp 16) (.tmp 61), _, _, _, none⟩) rfl (fun K' hK => ?_) AllReadyH.nil)
        refine wp_store_blk 42 _ _ rfl G16 42 [.slice none 0 0, .slice none 0 0, .int .i64 0] ([.slice A2 n c2, .slice AQ mq cq, .int .i64 E1]) rfl rfl b16 tkS rfl (one3 rfl rfl rfl) ?_
        intro wq bq oq
        replace b4 := b4.only oq (blk_ne b4 b16 (by decide))
        replace b5 := b5.only oq (blk_ne b5 b16 (by decide))
        replace b12 := b12.only oq (blk_ne b12 b16 (by decide))
        replace dX := dX.only oq (sl_ne dX.sl (by omega) b16 (Nat.succ_pos _) (show 3 < 128 from by decide))
        replace sP := sP.lx (Lx.only oq) (fun hm ad e => by subst e; exact sl_ne sP hm b16 (Nat.succ_pos _) (show 3 < 4 from by decide))
        replace sX := sX.lx (Lx.only oq) (fun hm ad e => by subst e; exact sl_ne sX hm b16 (Nat.succ_pos _) (show 3 < 128 from by decide))
        replace sQ := sQ.lx (Lx.only oq) (fun hm ad e => by subst e; exact sl_ne sQ hm b16 (Nat.succ_pos _) (show 3 < 4 from by decide))
        replace b15 := b15.only oq (blk_ne b15 b16 (by decide))
        replace lx := Below.only lx oq fG16
        clear b16
        have b16 := bq
        clear bq oq
        refine hK.out _ _ ⟨b4.range 0 1, b5.range 0 2⟩ (fun hHeld => ?_)
        clear hK K'
        try simp only [Act.put]
        refine wpAnyH_done (by kernel_rfl) ?_ _
        clear hHeld
        go_wp2
        go_meet
        exact ⟨G15, G16, A2, c2, AQ, mq, cq, rfl, rfl, b15, b16, Lib.hid ⟨k1, k2⟩, sX, sQ, Lib.hid hql, lx⟩
    · refine wp_new_tk rfl fun ub G16 b16 la16 hG16 => ?_
      have fG16 := Nat.le_trans lx.size hG16
      replace b4 := b4.keep la16
      replace b5 := b5.keep la16
      replace b12 := b12.keep la16
      replace dX := dX.keep la16
      replace sP := sP.keep la16
      replace lx := Later.trans_ lx la16
      refine hK.out _ _ ⟨b4.range 0 1, b5.range 0 2⟩ (fun hHeld => ?_)
      clear hK K'
      try simp only [Act.put, List.setIfInBounds_toArray, List.set_cons_zero, List.set_cons_succ]
      refine wpAnyH_ready (rs := [3, 8]) (by kernel_rfl) (by simp) (AllReadyH.cons (o := ⟨some 57, .call { callee := .value (.func 16), args := #[.tmp 54, .tmp 55, .tmp 56], argTypes := #[24, 27, 3] }, _, _, _, none⟩) rfl (fun K' hK => ?_) (AllReadyH.cons (o := ⟨some 15, .alloc 39, _, _, _, none⟩) rfl (fun K' hK => ?_) AllReadyH.nil))
      · go_simp
        (with_reducible refine (KRF.out _ (Later.trans_ lw lx)).mono ?_)
        rintro e u3 ⟨rfl, l3⟩
        replace b4 := b4.keep l3
        replace b5 := b5.keep l3
        replace b12 := b12.keep l3
        replace dX := dX.keep l3
        replace sP := sP.keep l3
        replace b16 := b16.keep l3
        replace lx := Later.trans_ lx l3
        refine hK.out _ _ ⟨b4.range 0 1, b5.range 0 2⟩ (fun hHeld => ?_)
        clear hK K'
        try simp only [Act.put, List.setIfInBounds_toArray, List.set_cons_zero, List.set_cons_succ]
        refine wpAnyH_ready (rs := [7, 8]) (by kernel_rfl) (by simp) (AllReadyH.cons (o := ⟨some 61, .call { callee := .value (.func 17), args := #[.tmp 58, .tmp 59, .tmp 60], argTypes := #[24, 27, 3] }, _, _, _, none⟩) rfl (fun K' hK => ?_) (AllReadyH.cons (o := ⟨some 15, .alloc 39, _, _, _, none⟩) rfl (fun K' hK => ?_) AllReadyH.nil))
        · go_simp
          (with_reducible refine (KRT.out _ (Later.trans_ lw lx)).mono ?_)
          rintro e u7 ⟨A2, c2, AQ, mq, cq, rfl, k1, k2, sX, _, _, sQ, hql, l7⟩
          replace b4 := b4.keep l7
          replace b5 := b5.keep l7
          replace b12 := b12.keep l7
          replace dX := dX.keep l7
          replace sP := sP.keep l7
          replace b16 := b16.keep l7
          replace lx := Later.trans_ lx l7
          refine hK.out _ _ ⟨b4.range 0 1, b5.range 0 2⟩ (fun hHeld => ?_)
          clear hK K'
          try simp only [Act.put, List.setIfInBounds_toArray, List.set_cons_zero, List.set_cons_succ]
          refine wpAnyH_ready (rs := [8]) (by kernel_rfl) (by simp) (AllReadyH.cons (o := ⟨some 15, .alloc 39, _, _, _, none⟩) rfl (fun K' hK => ?_) AllReadyH.nil)
          refine wp_new_pl rfl fun ua G15 b15 la15 hG15 => ?_
          have fG15 := Nat.le_trans lx.size hG15
          replace b4 := b4.keep la15
          replace b5 := b5.keep la15
          replace b12 := b12.keep la15
          replace dX := dX.keep la15
          replace sP := sP.keep la15
          replace sX := sX.keep la15
          replace sQ := sQ.keep la15
          replace b16 := b16.keep la15
          replace lx := Later.trans_ lx la15
          refine hK.out _ _ ⟨b4.range 0 1, b5.range 0 2⟩ (fun hHeld => ?_)
          clear hK K'
          try simp only [Act.put, List.setIfInBounds_toArray, List.set_cons_zero, List.set_cons_succ]
          refine wpAnyH_ready (rs := [10]) (by kernel_rfl) (by simp) (AllReadyH.cons (o := ⟨none, .store 39 (.tmp 15) (.tmp 57), _, _, _, none⟩) rfl (fun K' hK => ?_) AllReadyH.nil)
          refine wp_store_blk 39 _ _ rfl G15 39 [.int .i64 0, .bool false] ([.int .i64 x1, .bool y1]) rfl rfl b15 plS rfl (one2 rfl rfl) ?_
          intro wq bq oq
          replace b4 := b4.only oq (blk_ne b4 b15 (by decide))
          replace b5 := b5.only oq (blk_ne b5 b15 (by decide))
          replace b12 := b12.only oq (blk_ne b12 b15 (by decide))
          replace dX := dX.only oq (sl_ne dX.sl (by omega) b15 (Nat.succ_pos _) (show 2 < 128 from by decide))
          replace sP := sP.lx (Lx.only oq) (fun hm ad e => by subst e; exact sl_ne sP hm b15 (Nat.succ_pos _) (show 2 < 4 from by decide))
          replace sX := sX.lx (Lx.only oq) (fun hm ad e => by subst e; exact sl_ne sX hm b15 (Nat.succ_pos _) (show 2 < 128 from by decide))
          replace sQ := sQ.lx (Lx.only oq) (fun hm ad e => by subst e; exact sl_ne sQ hm b15 (Nat.succ_pos _) (show 2 < 4 from by decide))
          replace b16 := b16.only oq (blk_ne b16 b15 (by decide))
          replace lx := Below.only lx oq fG15
          clear b15
          have b15 := bq
          clear bq oq
          refine hK.out _ _ ⟨b4.range 0 1, b5.range 0 2⟩ (fun hHeld => ?_)
          clear hK K'
          try simp only [Act.put]
          refine wpAnyH_ready (rs := [11]) (by kernel_rfl) (by simp) (AllReadyH.cons (o := ⟨none, .store 42 (.tmp 16) (.tmp 61), _, _, _, none⟩) rfl (fun K' hK => ?_) AllReadyH.nil)
          refine wp_store_blk 42 _ _ rfl G16 42 [.slice none 0 0, .slice none 0 0, .int .i64 0] ([.slice A2 n c2, .slice AQ mq cq, .int .i64 E1]) rfl rfl b16 tkS rfl (one3 rfl rfl rfl) ?_
          intro wq bq oq
          replace b4 := b4.only oq (blk_ne b4 b16 (by decide))
          replace b5 := b5.only oq (blk_ne b5 b16 (by decide))
          replace b12 := b12.only oq (blk_ne b12 b16 (by decide))
          replace dX := dX.only oq (sl_ne dX.sl (by omega) b16 (Nat.succ_pos _) (show 3 < 128 from by decide))
          replace sP := sP.lx (Lx.only oq) (fun hm ad e => by subst e; exact sl_ne sP hm b16 (Nat.succ_pos _) (show 3 < 4 from by decide))
          replace sX := sX.lx (Lx.only oq) (fun hm ad e => by subst e; exact sl_ne sX hm b16 (Nat.succ_pos _) (show 3 < 128 from by decide))
          replace sQ := sQ.lx (Lx.only oq) (fun hm ad e => by subst e; exact sl_ne sQ hm b16 (Nat.succ_pos _) (show 3 < 4 from by decide))
          replace b15 := b15.only oq (blk_ne b15 b16 (by decide))
          replace lx := Below.only lx oq fG16
          clear b16
          have b16 := bq
          clear bq oq
          refine hK.out _ _ ⟨b4.range 0 1, b5.range 0 2⟩ (fun hHeld => ?_)
          clear hK K'
          try simp only [Act.put]
          refine wpAnyH_done (by kernel_rfl) ?_ _
          clear hHeld
          go_wp2
          go_meet
          exact ⟨G15, G16, A2, c2, AQ, mq, cq, rfl, rfl, b15, b16, Lib.hid ⟨k1, k2⟩, sX, sQ, Lib.hid hql, lx⟩
        · refine wp_new_pl rfl fun ua G15 b15 la15 hG15 => ?_
          have fG15 := Nat.le_trans lx.size hG15
          replace b4 := b4.keep la15
          replace b5 := b5.keep la15
          replace b12 := b12.keep la15
          replace dX := dX.keep la15
          replace sP := sP.keep la15
          replace b16 := b16.keep la15
          replace lx := Later.trans_ lx la15
          refine hK.out _ _ ⟨b4.range 0 1, b5.range 0 2⟩ (fun hHeld => ?_)
          clear hK K'
          try simp only [Act.put, List.setIfInBounds_toArray, List.set_cons_zero, List.set_cons_succ]
          refine wpAnyH_ready (rs := [7]) (by kernel_rfl) (by simp) (AllReadyH.cons (o := ⟨some 61, .call { callee := .value (.func 17), args := #[.tmp 58, .tmp 59, .tmp 60], argTypes := #[24, 27, 3] }, _, _, _, none⟩) rfl (fun K' hK => ?_) AllReadyH.nil)
          go_simp
          (with_reducible refine (KRT.out _ (Later.trans_ lw lx)).mono ?_)
          rintro e u7 ⟨A2, c2, AQ, mq, cq, rfl, k1, k2, sX, _, _, sQ, hql, l7⟩
          replace b4 := b4.keep l7
          replace b5 := b5.keep l7
          replace b12 := b12.keep l7
          replace dX := dX.keep l7
          replace sP := sP.keep l7
          replace b15 := b15.keep l7
          replace b16 := b16.keep l7
          replace lx := Later.trans_ lx l7
          refine hK.out _ _ ⟨b4.range 0 1, b5.range 0 2⟩ (fun hHeld => ?_)
          clear hK K'
          try simp only [Act.put, List.setIfInBounds_toArray, List.set_cons_zero, List.set_cons_succ]
          refine wpAnyH_ready (rs := [10]) (by kernel_rfl) (by simp) (AllReadyH.cons (o := ⟨none, .store 39 (.tmp 15) (.tmp 57), _, _, _, none⟩) rfl (fun K' hK => ?_) AllReadyH.nil)
          refine wp_store_blk 39 _ _ rfl G15 39 [.int .i64 0, .bool false] ([.int .i64 x1, .bool y1]) rfl rfl b15 plS rfl (one2 rfl rfl) ?_
          intro wq bq oq
          replace b4 := b4.only oq (blk_ne b4 b15 (by decide))
          replace b5 := b5.only oq (blk_ne b5 b15 (by decide))
          replace b12 := b12.only oq (blk_ne b12 b15 (by decide))
          replace dX := dX.only oq (sl_ne dX.sl (by omega) b15 (Nat.succ_pos _) (show 2 < 128 from by decide))
          replace sP := sP.lx (Lx.only oq) (fun hm ad e => by subst e; exact sl_ne sP hm b15 (Nat.succ_pos _) (show 2 < 4 from by decide))
          replace sX := sX.lx (Lx.only oq) (fun hm ad e => by subst e; exact sl_ne sX hm b15 (Nat.succ_pos _) (show 2 < 128 from by decide))
          replace sQ := sQ.lx (Lx.only oq) (fun hm ad e => by subst e; exact sl_ne sQ hm b15 (Nat.succ_pos _) (show 2 < 4 from by decide))
          replace b16 := b16.only oq (blk_ne b16 b15 (by decide))
          replace lx := Below.only lx oq fG15
          clear b15
          have b15 := bq
          clear bq oq
          refine hK.out _ _ ⟨b4.range 0 1, b5.range 0 2⟩ (fun hHeld => ?_)
          clear hK K'
          try simp only [Act.put]
          refine wpAnyH_ready (rs := [11]) (by kernel_rfl) (by simp) (AllReadyH.cons (o := ⟨none, .store 42 (.tmp 16) (.tmp 61), _, _, _, none⟩) rfl (fun K' hK => ?_) AllReadyH.nil)
          refine wp_store_blk 42 _ _ rfl G16 42 [.slice none 0 0, .slice none 0 0, .int .i64 0] ([.slice A2 n c2, .slice AQ mq cq, .int .i64 E1]) rfl rfl b16 tkS rfl (one3 rfl rfl rfl) ?_
          intro wq bq oq
          replace b4 := b4.only oq (blk_ne b4 b16 (by decide))
          replace b5 := b5.only oq (blk_ne b5 b16 (by decide))
          replace b12 := b12.only oq (blk_ne b12 b16 (by decide))
          replace dX := dX.only oq (sl_ne dX.sl (by omega) b16 (Nat.succ_pos _) (show 3 < 128 from by decide))
          replace sP := sP.lx (Lx.only oq) (fun hm ad e => by subst e; exact sl_ne sP hm b16 (Nat.succ_pos _) (show 3 < 4 from by decide))
          replace sX := sX.lx (Lx.only oq) (fun hm ad e => by subst e; exact sl_ne sX hm b16 (Nat.succ_pos _) (show 3 < 128 from by decide))
          replace sQ := sQ.lx (Lx.only oq) (fun hm ad e => by subst e; exact sl_ne sQ hm b16 (Nat.succ_pos _) (show 3 < 4 from by decide))
          replace b15 := b15.only oq (blk_ne b15 b16 (by decide))
          replace lx := Below.only lx oq fG16
          clear b16
          have b16 := bq
          clear bq oq
          refine hK.out _ _ ⟨b4.range 0 1, b5.range 0 2⟩ (fun hHeld => ?_)
          clear hK K'
          try simp only [Act.put]
          refine wpAnyH_done (by kernel_rfl) ?_ _
          clear hHeld
          go_wp2
          go_meet
          exact ⟨G15, G16, A2, c2, AQ, mq, cq, rfl, rfl, b15, b16, Lib.hid ⟨k1, k2⟩, sX, sQ, Lib.hid hql, lx⟩
      · refine wp_new_pl rfl fun ua G15 b15 la15 hG15 => ?_
        have fG15 := Nat.le_trans lx.size hG15
        replace b4 := b4.keep la15
        replace b5 := b5.keep la15
        replace b12 := b12.keep la15
        replace dX := dX.keep la15
        replace sP := sP.keep la15
        replace b16 := b16.keep la15
        replace lx := Later.trans_ lx la15
        refine hK.out _ _ ⟨b4.range 0 1, b5.range 0 2⟩ (fun hHeld => ?_)
        clear hK K'
        try simp only [Act.put, List.setIfInBounds_toArray, List.set_cons_zero, List.set_cons_succ]
        refine wpAnyH_ready (rs := [3]) (by kernel_rfl) (by simp) (AllReadyH.cons (o := ⟨some 57, .call { callee := .value (.func 16), args := #[.tmp 54, .tmp 55, .tmp 56], argTypes := #[24, 27, 3] }, _, _, _, none⟩) rfl (fun K' hK => ?_) AllReadyH.nil)
        go_simp
        (with_reducible refine (KRF.out _ (Later.trans_ lw lx)).mono ?_)
        rintro e u3 ⟨rfl, l3⟩
        replace b4 := b4.keep l3
        replace b5 := b5.keep l3
        replace b12 := b12.keep l3
        replace dX := dX.keep l3
        replace sP := sP.keep l3
        replace b15 := b15.keep l3
        replace b16 := b16.keep l3
        replace lx := Later.trans_ lx l3
        refine hK.out _ _ ⟨b4.range 0 1, b5.range 0 2⟩ (fun hHeld => ?_)
        clear hK K'
        try simp only [Act.put, List.setIfInBounds_toArray, List.set_cons_zero, List.set_cons_succ]
        refine wpAnyH_ready (rs := [7]) (by kernel_rfl) (by simp) (AllReadyH.cons (o := ⟨some 61, .call { callee := .value (.func 17), args := #[.tmp 58, .tmp 59, .tmp 60], argTypes := #[24, 27, 3] }, _, _, _, none⟩) rfl (fun K' hK => ?_) AllReadyH.nil)
        go_simp
        (with_reducible refine (KRT.out _ (Later.trans_ lw lx)).mono ?_)
        rintro e u7 ⟨A2, c2, AQ, mq, cq, rfl, k1, k2, sX, _, _, sQ, hql, l7⟩
        replace b4 := b4.keep l7
        replace b5 := b5.keep l7
        replace b12 := b12.keep l7
        replace dX := dX.keep l7
        replace sP := sP.keep l7
        replace b15 := b15.keep l7
        replace b16 := b16.keep l7
        replace lx := Later.trans_ lx l7
        refine hK.out _ _ ⟨b4.range 0 1, b5.range 0 2⟩ (fun hHeld => ?_)
        clear hK K'
        try simp only [Act.put, List.setIfInBounds_toArray, List.set_cons_zero, List.set_cons_succ]
        refine wpAnyH_ready (rs := [10]) (by kernel_rfl) (by simp) (AllReadyH.cons (o := ⟨none, .store 39 (.tmp 15) (.tmp 57), _, _, _, none⟩) rfl (fun K' hK => ?_) AllReadyH.nil)
        refine wp_store_blk 39 _ _ rfl G15 39 [.int .i64 0, .bool false] ([.int .i64 x1, .bool y1]) rfl rfl b15 plS rfl (one2 rfl rfl) ?_
        intro wq bq oq
        replace b4 := b4.only oq (blk_ne b4 b15 (by decide))
        replace b5 := b5.only oq (blk_ne b5 b15 (by decide))
        replace b12 := b12.only oq (blk_ne b12 b15 (by decide))
        replace dX := dX.only oq (sl_ne dX.sl (by omega) b15 (Nat.succ_pos _) (show 2 < 128 from by decide))
        replace sP := sP.lx (Lx.only oq) (fun hm ad e => by subst e; exact sl_ne sP hm b15 (Nat.succ_pos _) (show 2 < 4 from by decide))
        replace sX := sX.lx (Lx.only oq) (fun hm ad e => by subst e; exact sl_ne sX hm b15 (Nat.succ_pos _) (show 2 < 128 from by decide))
        replace sQ := sQ.lx (Lx.only oq) (fun hm ad e => by subst e; exact sl_ne sQ hm b15 (Nat.succ_pos _) (show 2 < 4 from by decide))
        replace b16 := b16.only oq (blk_ne b16 b15 (by decide))
        replace lx := Below.only lx oq fG15
        clear b15
        have b15 := bq
        clear bq oq
        refine hK.out _ _ ⟨b4.range 0 1, b5.range 0 2⟩ (fun hHeld => ?_)
        clear hK K'
        try simp only [Act.put]
        refine wpAnyH_ready (rs := [11]) (by kernel_rfl) (by simp) (AllReadyH.cons (o := ⟨none, .store 42 (.tmp 16) (.tmp 61), _, _, _, none⟩) rfl (fun K' hK => ?_) AllReadyH.nil)
        refine wp_store_blk 42 _ _ rfl G16 42 [.slice none 0 0, .slice none 0 0, .int .i64 0] ([.slice A2 n c2, .slice AQ mq cq, .int .i64 E1]) rfl rfl b16 tkS rfl (one3 rfl rfl rfl) ?_
        intro wq bq oq
        replace b4 := b4.only oq (blk_ne b4 b16 (by decide))
        replace b5 := b5.only oq (blk_ne b5 b16 (by decide))
        replace b12 := b12.only oq (blk_ne b12 b16 (by decide))
        replace dX := dX.only oq (sl_ne dX.sl (by omega) b16 (Nat.succ_pos _) (show 3 < 128 from by decide))
        replace sP := sP.lx (Lx.only oq) (fun hm ad e => by subst e; exact sl_ne sP hm b16 (Nat.succ_pos _) (show 3 < 4 from by decide))
        replace sX := sX.lx (Lx.only oq) (fun hm ad e => by subst e; exact sl_ne sX hm b16 (Nat.succ_pos _) (show 3 < 128 from by decide))
        replace sQ := sQ.lx (Lx.only oq) (fun hm ad e => by subst e; exact sl_ne sQ hm b16 (Nat.succ_pos _) (show 3 < 4 from by decide))
        replace b15 := b15.only oq (blk_ne b15 b16 (by decide))
        replace lx := Below.only lx oq fG16
        clear b16
        have b16 := bq
        clear bq oq
        refine hK.out _ _ ⟨b4.range 0 1, b5.range 0 2⟩ (fun hHeld => ?_)
        clear hK K'
        try simp only [Act.put]
        refine wpAnyH_done (by kernel_rfl) ?_ _
        clear hHeld
        go_wp2
        go_meet
        exact ⟨G15, G16, A2, c2, AQ, mq, cq, rfl, rfl, b15, b16, Lib.hid ⟨k1, k2⟩, sX, sQ, Lib.hid hql, lx⟩
  case rest =>
    obtain ⟨G15, G16, A2, c2, AQ, mq, cq, rfl, rfl, b15, b16, hc2, sX, sQ, hql, lx⟩ := hcut
    replace b4 := b4.keep lx
    replace b5 := b5.keep lx
    replace b12 := b12.keep lx
    replace dX := dX.keep lx
    replace sP := sP.keep lx
    replace lw := Later.trans_ lw lx
    clear lx
    obtain rfl : mp = mq := hpl.symm.trans hql.out
    have z0 := b15.cell (j := 0) (v := .int .i64 x1) rfl
    have z1 := b15.cell (j := 1) (v := .bool y1) rfl
    have z2 := b16.cell (j := 2) (v := .int .i64 E1) rfl
    have z3 := b16.cell (j := 1) (v := .slice AQ mp cq) rfl
    go_upto_region 13 with (first
      | (go_at_call 18; (with_reducible refine (KSP.out AP AQ cp cq mp _ sP sQ hpl).mono ?_); rintro e v1 ⟨rfl, m1⟩; clear z0 z1 z2 z3; replace b4 := b4.keep m1; replace b5 := b5.keep m1; replace b12 := b12.keep m1; replace dX := dX.keep m1; replace sP := sP.keep m1; replace b15 := b15.keep m1; replace b16 := b16.keep m1; replace sX := sX.keep m1; replace sQ := sQ.keep m1; replace lw := Later.trans_ lw m1; have z0 := b15.cell (j := 0) (v := .int .i64 x1) rfl; have z1 := b15.cell (j := 1) (v := .bool y1) rfl; have z2 := b16.cell (j := 2) (v := .int .i64 E1) rfl; have z3 := b16.cell (j := 1) (v := .slice AQ mp cq) rfl)
      | ((with_reducible refine wpList_load_g (o := ⟨some 86, .load 24 (.tmp 12), _, _, _, _⟩) _ _ rfl w7.heap.size 24 ([.slice (some ⟨g, 0, none⟩) n c1]) _ ?_ ?_ ?_ Try.underlying24 ?_ memS ?_); rfl; rfl; exact b12; rfl)
      | ((with_reducible refine wpList_load_atg (o := ⟨some 88, .load 24 (.tmp 87), _, _, _, _⟩) _ _ rfl G16 0 1 42 ([.slice A2 n c2, .slice AQ mp cq, .int .i64 E1]) ([.slice A2 n c2]) _ ?_ ?_ ?_ rfl Try.underlying24 ?_ memS ?_); rfl; rfl; exact b16; rfl)
      | (go_at_call 19; (with_reducible refine (KSM.out g c1 A2 c2 _ dX sX).mono ?_); rintro e v2 ⟨rfl, m2⟩; clear z0 z1 z2 z3; replace b4 := b4.keep m2; replace b5 := b5.keep m2; replace b12 := b12.keep m2; replace dX := dX.keep m2; replace sP := sP.keep m2; replace b15 := b15.keep m2; replace b16 := b16.keep m2; replace sX := sX.keep m2; replace sQ := sQ.keep m2; replace lw := Later.trans_ lw m2; have z0 := b15.cell (j := 0) (v := .int .i64 x1) rfl; have z1 := b15.cell (j := 1) (v := .bool y1) rfl; have z2 := b16.cell (j := 2) (v := .int .i64 E1) rfl; have z3 := b16.cell (j := 1) (v := .slice AQ mp cq) rfl))
    clear z0 z1 z2 z3
    replace b4 := b4.drew
    replace b5 := b5.drew
    replace b12 := b12.drew
    replace b15 := b15.drew
    replace b16 := b16.drew
    replace lw := lw.drew
    replace dX : Draft v2.drew g n X := dX
    replace sP : Sl v2.drew 4 AP mp (Ps l) := sP
    replace sQ : Sl v2.drew 4 AQ mp (Ps l) := sQ
    replace sX : Sl v2.drew 128 A2 n (U X) := sX
    refine wp_region_held_drew (S := fun w' => World.rangeAt w' w.heap.size 0 [.slice A n c] ∧ World.rangeAt w' (w.heap.size + 1) 0 [.int .u32 B, .int .u32 (s : Int)] ∧ World.rangeAt w' w7.heap.size 0 [.slice (some ⟨g, 0, none⟩) n c1] ∧ World.rangeAt w' G16 0 [.slice A2 n c2, .slice AQ mp cq, .int .i64 E1]) (by kernel_rfl) ⟨b4.range 0 1, b5.range 0 2, b12.range 0 1, b16.range 0 3⟩ (fun hHeld => ?_)
    refine wpAnyH_ready (rs := [0]) (by kernel_rfl) (by simp) (AllReadyH.cons (o := ⟨some 92, .call { callee := .value (.func 10), args := #[], argTypes := #[] }, _, _, _, none⟩) rfl (fun K' hK => ?_) (AllReadyH.nil))
    go_simp
    (with_reducible refine (KN.out _).mono ?_)
    rintro e y1_ ⟨rfl, n1⟩
    replace b4 := b4.keep n1
    replace b5 := b5.keep n1
    replace b12 := b12.keep n1
    replace dX := dX.keep n1
    replace sP := sP.keep n1
    replace b15 := b15.keep n1
    replace b16 := b16.keep n1
    replace sX := sX.keep n1
    replace sQ := sQ.keep n1
    replace lw := Later.trans_ lw n1
    refine hK.out _ _ ⟨b4.range 0 1, b5.range 0 2, b12.range 0 1, b16.range 0 3⟩ (fun hHeld => ?_)
    clear hK K'
    try simp only [Act.put, List.setIfInBounds_toArray, List.set_cons_zero, List.set_cons_succ]
    refine wpAnyH_take (i := 1) (oi := ⟨some 93, .move (.tmp 92), _, _, _, none⟩) (v := .bool true) rfl (by kernel_rfl) (by kernel_rfl) (by kernel_rfl) (fun _ _ _ h => h) (Or.inl ⟨by rfl, fun _ _ => rfl⟩) hHeld ?_
    simp only [Act.put, List.setIfInBounds_toArray, List.set_cons_zero, List.set_cons_succ]
    refine wpAnyH_take (i := 2) (oi := ⟨some 94, .load 24 (.tmp 12), _, _, _, _⟩) (v := .agg ([.slice (some ⟨g, 0, none⟩) n c1]).toArray) rfl (by kernel_rfl) (by kernel_rfl) (by kernel_rfl) (fun _ _ _ h => h) (yieldsIf_load_mid (by rfl) _ _ rfl w7.heap.size 0 rfl ([.slice (some ⟨g, 0, none⟩) n c1]) _ (fun wz hSw => hSw.2.2.1) Try.underlying24 rfl memS) hHeld ?_
    simp only [Act.put, List.setIfInBounds_toArray, List.set_cons_zero, List.set_cons_succ]
    refine wpAnyH_take (i := 3) (oi := ⟨some 95, .load 27 (.tmp 5), _, _, _, _⟩) (v := .agg ([.int .u32 B, .int .u32 (s : Int)]).toArray) rfl (by kernel_rfl) (by kernel_rfl) (by kernel_rfl) (fun _ _ _ h => h) (yieldsIf_load_mid (by rfl) _ _ rfl (w.heap.size + 1) 0 rfl ([.int .u32 B, .int .u32 (s : Int)]) _ (fun wz hSw => hSw.2.1) Try.underlying27 rfl ring_sz) hHeld ?_
    simp only [Act.put, List.setIfInBounds_toArray, List.set_cons_zero, List.set_cons_succ]
    refine wpAnyH_take (i := 4) (oi := ⟨some 96, .move (.tmp 13), _, _, _, _⟩) (v := .slice AP mp cp) rfl (by kernel_rfl) (by kernel_rfl) (by kernel_rfl) (fun _ _ _ h => h) (Or.inl ⟨by rfl, fun _ _ => rfl⟩) hHeld ?_
    simp only [Act.put, List.setIfInBounds_toArray, List.set_cons_zero, List.set_cons_succ]
    refine wpAnyH_take (i := 6) (oi := ⟨some 98, .fieldAddr 42 (.tmp 16) 0, _, _, _, _⟩) (v := .pointer (some ⟨G16, 0, none⟩)) rfl (by kernel_rfl) (by kernel_rfl) (by kernel_rfl) (fun _ _ _ h => h) (Or.inl ⟨by rfl, fun w _ => by go_simp⟩) hHeld ?_
    simp only [Act.put, List.setIfInBounds_toArray, List.set_cons_zero, List.set_cons_succ]
    refine wpAnyH_take (i := 7) (oi := ⟨some 99, .load 24 (.tmp 98), _, _, _, _⟩) (v := .agg ([.slice A2 n c2]).toArray) rfl (by kernel_rfl) (by kernel_rfl) (by kernel_rfl) (fun _ _ _ h => h) (yieldsIf_load_mid (by rfl) _ _ rfl G16 0 rfl ([.slice A2 n c2]) _ (fun wz hSw => (fun j v hv => hSw.2.2.2 j v (by cases j with | zero => exact hv | succ j => simp at hv))) Try.underlying24 rfl memS) hHeld ?_
    simp only [Act.put, List.setIfInBounds_toArray, List.set_cons_zero, List.set_cons_succ]
    refine wpAnyH_take (i := 8) (oi := ⟨some 100, .load 27 (.tmp 5), _, _, _, _⟩) (v := .agg ([.int .u32 B, .int .u32 (s : Int)]).toArray) rfl (by kernel_rfl) (by kernel_rfl) (by kernel_rfl) (fun _ _ _ h => h) (yieldsIf_load_mid (by rfl) _ _ rfl (w.heap.size + 1) 0 rfl ([.int .u32 B, .int .u32 (s : Int)]) _ (fun wz hSw => hSw.2.1) Try.underlying27 rfl ring_sz) hHeld ?_
    simp only [Act.put, List.setIfInBounds_toArray, List.set_cons_zero, List.set_cons_succ]
    refine wpAnyH_take (i := 9) (oi := ⟨some 101, .fieldAddr 42 (.tmp 16) 1, _, _, _, _⟩) (v := .pointer (some ⟨G16, 1, none⟩)) rfl (by kernel_rfl) (by kernel_rfl) (by kernel_rfl) (fun _ _ _ h => h) (Or.inl ⟨by rfl, fun w _ => by go_simp⟩) hHeld ?_
    simp only [Act.put, List.setIfInBounds_toArray, List.set_cons_zero, List.set_cons_succ]
    refine wpAnyH_take (i := 10) (oi := ⟨some 102, .load 35 (.tmp 101), _, _, _, _⟩) (v := .slice AQ mp cq) rfl (by kernel_rfl) (by kernel_rfl) (by kernel_rfl) (fun _ _ _ h => h) (Or.inl ⟨by rfl, fun wz hSw => by have e1 : wz.cell? ⟨G16, 1, none⟩ = some (.slice AQ mp cq) := hSw.2.2.2 1 _ rfl; clear hSw; go_simp⟩) hHeld ?_
    simp only [Act.put, List.setIfInBounds_toArray, List.set_cons_zero, List.set_cons_succ]
    refine wpAnyH_ready (rs := [5]) (by kernel_rfl) (by simp) (AllReadyH.cons (o := ⟨some 97, .call { callee := .value (.func 20), args := #[.tmp 94, .tmp 95, .tmp 96], argTypes := #[24, 27, 35] }, _, _, _, _⟩) rfl (fun K' hK => ?_) (AllReadyH.nil))
    go_simp
    (with_reducible refine (KFI.out g c1 AP mp cp _ dX sP hpl).mono ?_)
    rintro e y2_ ⟨gF, cF, rfl, _, _, _, dF, n2⟩
    replace b4 := b4.keep n2
    replace b5 := b5.keep n2
    replace b12 := b12.keep n2
    replace dX := dX.keep n2
    replace sP := sP.keep n2
    replace b15 := b15.keep n2
    replace b16 := b16.keep n2
    replace sX := sX.keep n2
    replace sQ := sQ.keep n2
    replace lw := Later.trans_ lw n2
    refine hK.out _ _ ⟨b4.range 0 1, b5.range 0 2, b12.range 0 1, b16.range 0 3⟩ (fun hHeld => ?_)
    clear hK K'
    try simp only [Act.put, List.setIfInBounds_toArray, List.set_cons_zero, List.set_cons_succ]
    refine wpAnyH_ready (rs := [11]) (by kernel_rfl) (by simp) (AllReadyH.cons (o := ⟨some 103, .call { callee := .value (.func 21), args := #[.tmp 99, .tmp 100, .tmp 102], argTypes := #[24, 27, 35] }, _, _, _, _⟩) rfl (fun K' hK => ?_) (AllReadyH.nil))
    go_simp
    (with_reducible refine (KRI.out A2 c2 AQ mp cq _ sX sQ hpl hc2.out).mono ?_)
    rintro e y3_ ⟨AF, cG, rfl, _, _, sF, _, n3⟩
    replace b4 := b4.keep n3
    replace b5 := b5.keep n3
    replace b12 := b12.keep n3
    replace dX := dX.keep n3
    replace sP := sP.keep n3
    replace b15 := b15.keep n3
    replace b16 := b16.keep n3
    replace sX := sX.keep n3
    replace sQ := sQ.keep n3
    replace dF := dF.keep n3
    replace lw := Later.trans_ lw n3
    refine hK.out _ _ ⟨b4.range 0 1, b5.range 0 2, b12.range 0 1, b16.range 0 3⟩ (fun hHeld => ?_)
    clear hK K'
    try simp only [Act.put, List.setIfInBounds_toArray, List.set_cons_zero, List.set_cons_succ]
    refine wpAnyH_ready (rs := [12]) (by kernel_rfl) (by simp) (AllReadyH.cons (o := ⟨some 104, .call { callee := .value (.func 19), args := #[.tmp 97, .tmp 103], argTypes := #[24, 24] }, _, _, _, _⟩) rfl (fun K' hK => ?_) (AllReadyH.nil))
    go_simp
    (with_reducible refine (KSF.out gF cF AF cG _ dF sF).mono ?_)
    rintro e y4_ ⟨rfl, n4⟩
    replace b4 := b4.keep n4
    replace b5 := b5.keep n4
    replace b12 := b12.keep n4
    replace dX := dX.keep n4
    replace sP := sP.keep n4
    replace b15 := b15.keep n4
    replace b16 := b16.keep n4
    replace sX := sX.keep n4
    replace sQ := sQ.keep n4
    replace lw := Later.trans_ lw n4
    refine hK.out _ _ ⟨b4.range 0 1, b5.range 0 2, b12.range 0 1, b16.range 0 3⟩ (fun hHeld => ?_)
    clear hK K'
    try simp only [Act.put, List.setIfInBounds_toArray, List.set_cons_zero, List.set_cons_succ]
    refine wpAnyH_take (i := 13) (oi := ⟨some 105, .pick (.tmp 93) (.tmp 104) (.const (.bool false)), _, _, _, none⟩) (v := .bool true) rfl (by kernel_rfl) (by kernel_rfl) (by kernel_rfl) (fun _ _ _ h => h) (Or.inl ⟨by rfl, fun w _ => by go_simp⟩) hHeld ?_
    simp only [Act.put, List.setIfInBounds_toArray, List.set_cons_zero, List.set_cons_succ]
    refine wpAnyH_take (i := 14) (oi := ⟨some 106, .move (.tmp 105), _, _, _, none⟩) (v := .bool true) rfl (by kernel_rfl) (by kernel_rfl) (by kernel_rfl) (fun _ _ _ h => h) (Or.inl ⟨by rfl, fun _ _ => rfl⟩) hHeld ?_
    simp only [Act.put, List.setIfInBounds_toArray, List.set_cons_zero, List.set_cons_succ]
    refine wpAnyH_take (i := 15) (oi := ⟨some 107, .load 24 (.tmp 4), _, _, _, _⟩) (v := .agg ([.slice A n c]).toArray) rfl (by kernel_rfl) (by kernel_rfl) (by kernel_rfl) (fun _ _ _ h => h) (yieldsIf_load_mid (by rfl) _ _ rfl w.heap.size 0 rfl ([.slice A n c]) _ (fun wz hSw => hSw.1) Try.underlying24 rfl memS) hHeld ?_
    simp only [Act.put, List.setIfInBounds_toArray, List.set_cons_zero, List.set_cons_succ]
    refine wpAnyH_take (i := 16) (oi := ⟨some 108, .load 27 (.tmp 5), _, _, _, _⟩) (v := .agg ([.int .u32 B, .int .u32 (s : Int)]).toArray) rfl (by kernel_rfl) (by kernel_rfl) (by kernel_rfl) (fun _ _ _ h => h) (yieldsIf_load_mid (by rfl) _ _ rfl (w.heap.size + 1) 0 rfl ([.int .u32 B, .int .u32 (s : Int)]) _ (fun wz hSw => hSw.2.1) Try.underlying27 rfl ring_sz) hHeld ?_
    simp only [Act.put, List.setIfInBounds_toArray, List.set_cons_zero, List.set_cons_succ]
    refine wpAnyH_take (i := 17) (oi := ⟨some 109, .move (.tmp 9), _, _, _, _⟩) (v := .int .i64 q) rfl (by kernel_rfl) (by kernel_rfl) (by kernel_rfl) (fun _ _ _ h => h) (Or.inl ⟨by rfl, fun _ _ => rfl⟩) hHeld ?_
    simp only [Act.put, List.setIfInBounds_toArray, List.set_cons_zero, List.set_cons_succ]
    refine wpAnyH_take (i := 18) (oi := ⟨some 110, .move (.tmp 3), _, _, _, _⟩) (v := .int .i64 er) rfl (by kernel_rfl) (by kernel_rfl) (by kernel_rfl) (fun _ _ _ h => h) (Or.inl ⟨by rfl, fun _ _ => rfl⟩) hHeld ?_
    simp only [Act.put, List.setIfInBounds_toArray, List.set_cons_zero, List.set_cons_succ]
    refine wpAnyH_take (i := 20) (oi := ⟨some 112, .load 24 (.tmp 4), _, _, _, _⟩) (v := .agg ([.slice A n c]).toArray) rfl (by kernel_rfl) (by kernel_rfl) (by kernel_rfl) (fun _ _ _ h => h) (yieldsIf_load_mid (by rfl) _ _ rfl w.heap.size 0 rfl ([.slice A n c]) _ (fun wz hSw => hSw.1) Try.underlying24 rfl memS) hHeld ?_
    simp only [Act.put, List.setIfInBounds_toArray, List.set_cons_zero, List.set_cons_succ]
    refine wpAnyH_take (i := 21) (oi := ⟨some 113, .load 27 (.tmp 5), _, _, _, _⟩) (v := .agg ([.int .u32 B, .int .u32 (s : Int)]).toArray) rfl (by kernel_rfl) (by kernel_rfl) (by kernel_rfl) (fun _ _ _ h => h) (yieldsIf_load_mid (by rfl) _ _ rfl (w.heap.size + 1) 0 rfl ([.int .u32 B, .int .u32 (s : Int)]) _ (fun wz hSw => hSw.2.1) Try.underlying27 rfl ring_sz) hHeld ?_
    simp only [Act.put, List.setIfInBounds_toArray, List.set_cons_zero, List.set_cons_succ]
    refine wpAnyH_take (i := 22) (oi := ⟨some 114, .move (.tmp 9), _, _, _, _⟩) (v := .int .i64 q) rfl (by kernel_rfl) (by kernel_rfl) (by kernel_rfl) (fun _ _ _ h => h) (Or.inl ⟨by rfl, fun _ _ => rfl⟩) hHeld ?_
    simp only [Act.put, List.setIfInBounds_toArray, List.set_cons_zero, List.set_cons_succ]
    refine wpAnyH_take (i := 23) (oi := ⟨some 115, .move (.tmp 3), _, _, _, _⟩) (v := .int .i64 er) rfl (by kernel_rfl) (by kernel_rfl) (by kernel_rfl) (fun _ _ _ h => h) (Or.inl ⟨by rfl, fun _ _ => rfl⟩) hHeld ?_
    simp only [Act.put, List.setIfInBounds_toArray, List.set_cons_zero, List.set_cons_succ]
    refine wpAnyH_ready (rs := [19]) (by kernel_rfl) (by simp) (AllReadyH.cons (o := ⟨some 111, .call { callee := .value (.func 22), args := #[.tmp 107, .tmp 108, .tmp 109, .tmp 110], argTypes := #[24, 27, 3, 28] }, _, _, _, _⟩) rfl (fun K' hK => ?_) (AllReadyH.nil))
    go_simp
    (with_reducible refine (KFA.out _ lw).mono ?_)
    rintro e y5_ ⟨gH, cH, rfl, _, _, _, dH, n5⟩
    replace b4 := b4.keep n5
    replace b5 := b5.keep n5
    replace b12 := b12.keep n5
    replace dX := dX.keep n5
    replace sP := sP.keep n5
    replace b15 := b15.keep n5
    replace b16 := b16.keep n5
    replace sX := sX.keep n5
    replace sQ := sQ.keep n5
    replace lw := Later.trans_ lw n5
    refine hK.out _ _ ⟨b4.range 0 1, b5.range 0 2, b12.range 0 1, b16.range 0 3⟩ (fun hHeld => ?_)
    clear hK K'
    try simp only [Act.put, List.setIfInBounds_toArray, List.set_cons_zero, List.set_cons_succ]
    refine wpAnyH_ready (rs := [24]) (by kernel_rfl) (by simp) (AllReadyH.cons (o := ⟨some 116, .call { callee := .value (.func 23), args := #[.tmp 112, .tmp 113, .tmp 114, .tmp 115], argTypes := #[24, 27, 3, 28] }, _, _, _, _⟩) rfl (fun K' hK => ?_) (AllReadyH.nil))
    go_simp
    (with_reducible refine (KRA.out _ lw).mono ?_)
    rintro e y6_ ⟨AH, cI, rfl, _, _, sH, _, n6⟩
    replace b4 := b4.keep n6
    replace b5 := b5.keep n6
    replace b12 := b12.keep n6
    replace dX := dX.keep n6
    replace sP := sP.keep n6
    replace b15 := b15.keep n6
    replace b16 := b16.keep n6
    replace sX := sX.keep n6
    replace sQ := sQ.keep n6
    replace dH := dH.keep n6
    replace lw := Later.trans_ lw n6
    refine hK.out _ _ ⟨b4.range 0 1, b5.range 0 2, b12.range 0 1, b16.range 0 3⟩ (fun hHeld => ?_)
    clear hK K'
    try simp only [Act.put, List.setIfInBounds_toArray, List.set_cons_zero, List.set_cons_succ]
    refine wpAnyH_ready (rs := [25]) (by kernel_rfl) (by simp) (AllReadyH.cons (o := ⟨some 117, .call { callee := .value (.func 19), args := #[.tmp 111, .tmp 116], argTypes := #[24, 24] }, _, _, _, _⟩) rfl (fun K' hK => ?_) (AllReadyH.nil))
    go_simp
    (with_reducible refine (KSH.out gH cH AH cI _ dH sH).mono ?_)
    rintro e y7_ ⟨rfl, n7⟩
    replace b4 := b4.keep n7
    replace b5 := b5.keep n7
    replace b12 := b12.keep n7
    replace dX := dX.keep n7
    replace sP := sP.keep n7
    replace b15 := b15.keep n7
    replace b16 := b16.keep n7
    replace sX := sX.keep n7
    replace sQ := sQ.keep n7
    replace lw := Later.trans_ lw n7
    refine hK.out _ _ ⟨b4.range 0 1, b5.range 0 2, b12.range 0 1, b16.range 0 3⟩ (fun hHeld => ?_)
    clear hK K'
    try simp only [Act.put, List.setIfInBounds_toArray, List.set_cons_zero, List.set_cons_succ]
    refine wpAnyH_take (i := 26) (oi := ⟨some 118, .pick (.tmp 106) (.tmp 117) (.const (.bool false)), _, _, _, none⟩) (v := .bool true) rfl (by kernel_rfl) (by kernel_rfl) (by kernel_rfl) (fun _ _ _ h => h) (Or.inl ⟨by rfl, fun w _ => by go_simp⟩) hHeld ?_
    simp only [Act.put, List.setIfInBounds_toArray, List.set_cons_zero, List.set_cons_succ]
    refine wpAnyH_take (i := 27) (oi := ⟨some 8, .assign (.tmp 118), _, _, _, none⟩) (v := .bool true) rfl (by kernel_rfl) (by kernel_rfl) (by kernel_rfl) (fun _ _ _ h => h) (Or.inl ⟨by rfl, fun _ _ => rfl⟩) hHeld ?_
    simp only [Act.put, List.setIfInBounds_toArray, List.set_cons_zero, List.set_cons_succ]
    refine wpAnyH_done (by kernel_rfl) ?_ _
    clear hHeld
    go_wp2
    go_ret
    exact ⟨rfl, lw⟩
theorem takes_all (A : Option Addr) (n c : Nat) (b : Wm.Bs) (B : Int) (S : Int) (i er : Int) (w : World) (hs : Sl w 128 A n (U b)) (hb : Wm.isBs b) (hnc : n ≤ c) (hc : c ≤ maxLen) (hB : Tm.isE B) (hS : Tm.isE S) (hi0 : 0 ≤ i) (hi1 : i ≤ 255) : Calls Try.prog 3 #[.agg #[.slice A n c], .agg #[.int .u32 B, .int .u32 S], .int .u8 i, .int .i64 er] w fun e w' => e = .returned (.bool true) ∧ Later w w' := by
  obtain ⟨s, rfl⟩ := Int.eq_ofNat_of_zero_le hS.1
  by_cases h1 : 1 ≤ n ∧ n ≤ 64
  · by_cases h2 : Rg.Ok (n * 128) B s
    · exact takes_yes A n c b B s i er w hs hb hnc hc hB hS hi0 hi1 h1 h2
    · exact takes_out A n c B s i er w hB hS h1 h2
  · exact takes_no A n c B s i er w h1

set_option maxRecDepth 100000 in
theorem ringTakesAsSpecified_lifted (os : Os) (started : os.Started) (H : Type) (enc : TypeId × Value → H) :
    ReturnsInHanded {} Try.checked os 3 .any (Rows.ringTakesAsSpecifiedSpec.pre6 enc Try.prog Try.f3 Rows.ringTakesAsSpecifiedRow.domain false) (Rows.ringTakesAsSpecifiedSpec.post enc Try.prog Try.f3 false true false false) := by
  refine returnsInHanded_of_change (C := Try.checked) ownK started (by kernel_rfl) Try.func3
    (ChangeSpec.witness6 (enc := enc) (C := Try.checked) false ⟨#[], #[.agg #[.slice none 0 0], .agg #[.int .u32 0, .int .u32 0], .int .u8 0, .int .i64 0], []⟩ 8 (by kernel_rfl) (by kernel_rfl) (by kernel_rfl) (by kernel_rfl)) ?_
  intro W base args ds gs before hval0 hW hcnd _
  have hval : ∀ (j : Nat) t v, Try.f3.params[j]? = some t → args[j]? = some v → Value.okWide Try.prog W .any base t v := hval0
  have hW' := hW
  obtain ⟨p, q, hA0, hV, rfl, hfz, hnd⟩ := hW
  have hA : DataW.TrodAll enc Try.prog W 0 (fun _ => true) true Try.f3.params.toList args.toList ds p := hA0
  rw [Try.params3] at hA hval
  obtain ⟨v0, vs0, d0, ds0, p0, q0, hargs, rfl, rfl, h0, r0⟩ := trodAll_cons hA
  obtain ⟨v1, vs1, d1, ds1, p1, q1, rfl, rfl, rfl, h1, r1⟩ := trodAll_cons r0
  obtain ⟨v2, vs2, d2, ds2, p2, q2, rfl, rfl, rfl, h2, r2⟩ := trodAll_cons r1
  obtain ⟨v3, vs3, d3, ds3, p3, q3, rfl, rfl, rfl, h3, r3⟩ := trodAll_cons r2
  obtain ⟨rfl, rfl, rfl⟩ := trodAll_nil r3
  obtain rfl : args = #[v0, v1, v2, v3] := by cases args; simp_all
  obtain ⟨rfl, rfl⟩ := trodVars_none hV
  obtain ⟨A0, n0, c0, b0, rfl, x0, y0, s0, z0⟩ := mem_arg (K := 128) (by omega) Try.underlying24 rfl Try.underlying22 Try.underlying106 Try.underlying5 (by kernel_rfl) (by kernel_rfl) (by kernel_rfl) (by kernel_rfl) (hval 0 24 v0 rfl rfl) h0
  obtain ⟨B1, S1, rfl, zB1, zS1⟩ := ring_open (hval 1 27 v1 rfl rfl) h1
  obtain ⟨a2, rfl, _, _, w2⟩ := open_int Try.underlying5 (hval 2 5 v2 rfl rfl) h2
  have z2 : 0 ≤ a2 ∧ a2 ≤ 255 := by
    have e1 : IntKind.u8.min = 0 := rfl
    have e2 : IntKind.u8.max = 255 := rfl
    simp only [Lit.wf, Bool.and_eq_true, decide_eq_true_eq] at w2
    omega
  obtain ⟨a3, rfl, z3⟩ := int_arg Try.underlying28 (hval 3 28 v3 rfl rfl) h3
  clear hA0 hval0
  simp only [List.append_nil] at hW'
  refine (takes_all A0 n0 c0 b0 B1 S1 a2 a3 W s0 z0 x0 y0 zB1 zS1 z2.1 z2.2).mono fun e W' ⟨he, hw⟩ => ?_
  subst he
  exact ⟨_, rfl, law_post laidK rfl (by kernel_rfl) (by kernel_rfl) Try.underlying4 (by kernel_rfl) hW' rfl hw⟩
set_option maxRecDepth 100000 in
/-- The statement. -/
theorem ringTakesAsSpecified_said : Rows.RingTakesAsSpecifiedSaid :=
  OpenClaim.holds_of_wide 3 Try.f3 rfl rfl rfl rfl rfl rfl rfl ⟨rfl, rfl, rfl, rfl, rfl⟩ rfl rfl rfl rfl rfl (by kernel_rfl) Try.func3 (by kernel_rfl)
    (of_decide_eq_true (by kernel_rfl)) (by unfold Func.isWrapper; first | (rw [if_pos (by decide +kernel)]; kernel_rfl) | (rw [if_neg (by decide +kernel)]; exact ⟨rfl, rfl⟩))
    (fun os started H enc _ => ringTakesAsSpecified_lifted os started H enc)
#print axioms ringTakesAsSpecified_said
end Go.Proofs.Ytffgbbfcbobecaa
