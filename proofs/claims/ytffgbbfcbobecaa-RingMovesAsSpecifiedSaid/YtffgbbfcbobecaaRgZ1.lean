/-
  THE STATEMENT RingMovesAsSpecified: for the parts of a request Gather, Room and Scatter do what the specification says; for every memory, ring, index and bytes.
-/
import Derived.Test.YtffgbbfcbobecaaRgY
namespace Go.Proofs.Ytffgbbfcbobecaa
open Go.RowKit Go.ChangeShapes Go.WideShapes Go.ChangeAt

set_option maxRecDepth 100000 in
set_option maxHeartbeats 4000000 in
theorem moves_no (A : Option Addr) (n c : Nat) (B S i : Int) (data : ByteArray) (w : World) (hB : Tm.isE B) (hS : Tm.isE S) (h : (decide (1 ≤ n ∧ n ≤ 64) && decide (Rg.Ok (n * 128) B S)) = false ∨ 3000 < data.size) : Calls Try.prog 4 #[.agg #[.slice A n c], .agg #[.int .u32 B, .int .u32 S], .int .u8 i, .string data] w fun e w' => e = .returned (.bool true) ∧ Later w w' := by
  have KT := Lib.hid fun w' => lthere_any A n c B S w' hB hS
  have KN := Lib.hid fun w' => sanity_any w'
  obtain ⟨t, ht⟩ : ∃ t, t = (decide (1 ≤ n ∧ n ≤ 64) && decide (Rg.Ok (n * 128) B S)) := ⟨_, rfl⟩
  rw [← ht] at KT h
  clear ht hB hS
  have b4 : Blk _ w.heap.size 24 ([.slice A n c]) := ((Blk.new' w w.heap.size 24 ([.slice A n c]).toArray ([.slice A n c]) (by simp) rfl).alloc (.cells ([.int .u32 B, .int .u32 S]).toArray 27))
  have b5 : Blk _ (w.heap.size + 1) 27 ([.int .u32 B, .int .u32 S]) := (Blk.new' (w.alloc (.cells ([.slice A n c]).toArray 24)) (w.heap.size + 1) 27 ([.int .u32 B, .int .u32 S]).toArray ([.int .u32 B, .int .u32 S]) (by simp) rfl)
  have lw := ((later1 w (.cells ([.slice A n c]).toArray 24)).alloc (by simp; try omega) (.cells ([.int .u32 B, .int .u32 S]).toArray 27))
  obtain ⟨u0, hu⟩ : ∃ u, ((w.alloc (.cells ([.slice A n c]).toArray 24)).alloc (.cells ([.int .u32 B, .int .u32 S]).toArray 27)) = u := ⟨_, rfl⟩
  rw [hu] at b4 b5 lw
  cases t
  · clear h
    go_enter Try.func4, Try.ntmps4
    go_upto_region 1 with fail
    have hu2 : ((w.alloc (.cells #[.slice A n c] 24)).alloc (.cells #[.int .u32 B, .int .u32 S] 27)) = u0 := hu
    try rw [hu2]
    clear hu hu2
    go_wp2_with (first
      | ((with_reducible refine wpList_load_blk (o := ⟨some 13, .load 24 (.tmp 4), _, _, _, none⟩) rfl _ _ rfl w.heap.size 24 ([.slice A n c]) _ ?_ ?_ Try.underlying24 rfl memS ?_); rfl; exact b4)
      | ((with_reducible refine wpList_load_blk (o := ⟨some 14, .load 27 (.tmp 5), _, _, _, none⟩) rfl _ _ rfl (w.heap.size + 1) 27 ([.int .u32 B, .int .u32 S]) _ ?_ ?_ Try.underlying27 rfl ring_sz ?_); rfl; exact b5)
      | (go_at_call 13; (with_reducible refine (KT.out _).mono ?_); rintro e w1 ⟨rfl, l1⟩; replace b4 := b4.keep l1; replace b5 := b5.keep l1; replace lw := Later.trans_ lw l1)
      | (go_at_call 10; (with_reducible refine (KN.out _).mono ?_); rintro e w9 ⟨rfl, l9⟩; replace lw := Later.trans_ lw l9))
    go_ret
    exact ⟨rfl, lw⟩
  · have d1 : decide ((3000 : Int) < (data.size : Int)) = true := decide_eq_true (by rcases h with h | h; cases h; omega)
    clear h
    go_enter Try.func4, Try.ntmps4
    go_upto_region 1 with fail
    have hu2 : ((w.alloc (.cells #[.slice A n c] 24)).alloc (.cells #[.int .u32 B, .int .u32 S] 27)) = u0 := hu
    try rw [hu2]
    clear hu hu2
    go_wp2_with (first
      | ((with_reducible refine wpList_load_blk (o := ⟨some 13, .load 24 (.tmp 4), _, _, _, none⟩) rfl _ _ rfl w.heap.size 24 ([.slice A n c]) _ ?_ ?_ Try.underlying24 rfl memS ?_); rfl; exact b4)
      | ((with_reducible refine wpList_load_blk (o := ⟨some 14, .load 27 (.tmp 5), _, _, _, none⟩) rfl _ _ rfl (w.heap.size + 1) 27 ([.int .u32 B, .int .u32 S]) _ ?_ ?_ Try.underlying27 rfl ring_sz ?_); rfl; exact b5)
      | (go_at_call 13; (with_reducible refine (KT.out _).mono ?_); rintro e w1 ⟨rfl, l1⟩; replace b4 := b4.keep l1; replace b5 := b5.keep l1; replace lw := Later.trans_ lw l1)
      | (go_at_call 10; (with_reducible refine (KN.out _).mono ?_); rintro e w9 ⟨rfl, l9⟩; replace lw := Later.trans_ lw l9))
    go_ret
    exact ⟨rfl, lw⟩
set_option maxRecDepth 100000 in
set_option maxHeartbeats 16000000 in
theorem moves_yes (A : Option Addr) (n c : Nat) (b : Wm.Bs) (B S i : Int) (data : ByteArray) (w : World) (hs : Sl w 128 A n (U b)) (hb : Wm.isBs b) (hnc : n ≤ c) (hc : c ≤ maxLen) (hB : Tm.isE B) (hS : Tm.isE S) (hi0 : 0 ≤ i) (hi1 : i ≤ 255) (h1 : 1 ≤ n ∧ n ≤ 64) (hok : Rg.Ok (n * 128) B S) (hd : data.size ≤ 3000) : Calls Try.prog 4 #[.agg #[.slice A n c], .agg #[.int .u32 B, .int .u32 S], .int .u8 i, .string data] w fun e w' => e = .returned (.bool true) ∧ Later w w' := by
  have KT := Lib.hid fun w' => lthere_any A n c B S w' hB hS
  rw [decide_eq_true h1, decide_eq_true hok] at KT
  have KN := Lib.hid fun w' => sanity_any w'
  obtain ⟨ht, hq0, hq1, hq2⟩ := idx_rng hok hi0
  have hSS := hok.s
  obtain ⟨q, hq⟩ : ∃ q, q = i % S := ⟨_, rfl⟩
  rw [← hq] at ht hq0 hq1
  have hg := Rg.take_good (L := n * 128) (B := B) hb hq0 hq1
  have hsm := good_sml hg hb (by omega)
  have KK := Lib.hid fun w' (k : Later w w') => rtake_any A n c b B S q w' (hs.keep k) hb h1.1 h1.2 hnc hc hok hq0 hq1
  obtain ⟨l, hl⟩ : ∃ l, l = Rg.takL (n * 128) b B S q := ⟨_, rfl⟩
  obtain ⟨E1, hE1⟩ : ∃ l, l = Rg.takE (n * 128) b B S q := ⟨_, rfl⟩
  rw [← hl] at KK hsm
  rw [← hE1] at KK
  have KS := Lib.hid fun (AP : Option Addr) (mp cp : Nat) w' (k : Later w w') (h : Sl w' 4 AP mp (Ps l)) (hl : l.length = mp) => scatter_any A n c b AP mp cp l data w' (hs.keep k) hb h1.1 h1.2 h hl hsm (by omega)
  have KR := Lib.hid fun (AP : Option Addr) (mp cp : Nat) w' (k : Later w w') (h : Sl w' 4 AP mp (Ps l)) (hl : l.length = mp) => rscatter_any A n c b AP mp cp l data w' (hs.keep k) h1.1 h1.2 hnc hc h hl hsm (by omega)
  have KG := Lib.hid fun (AP : Option Addr) (mp cp : Nat) w' (k : Later w w') (h : Sl w' 4 AP mp (Ps l)) (hl : l.length = mp) => pgather_any A n c b AP mp cp l w' (hs.keep k) h1.1 h1.2 h hl hsm
  have KH := Lib.hid fun (AP : Option Addr) (mp cp : Nat) w' (k : Later w w') (h : Sl w' 4 AP mp (Ps l)) (hl : l.length = mp) => rgather_any A n c b AP mp cp l w' (hs.keep k) h1.2 h hl hsm
  have KO := Lib.hid fun (AP : Option Addr) (mp cp : Nat) w' (h : Sl w' 4 AP mp (Ps l)) (hl : l.length = mp) => room_any AP mp cp l w' h hl hsm
  have KQ := Lib.hid fun (AP : Option Addr) (mp cp : Nat) w' (h : Sl w' 4 AP mp (Ps l)) (hl : l.length = mp) => rroom_any AP mp cp l w' h hl hsm
  obtain ⟨X, hX⟩ : ∃ X, X = (scF b (Wm.ofS data) l).1 := ⟨_, rfl⟩
  obtain ⟨N, hN⟩ : ∃ X, X = (scF b (Wm.ofS data) l).2 := ⟨_, rfl⟩
  rw [← hX, ← hN] at KS KR
  obtain ⟨s1, hs1⟩ : ∃ s, s = strOfNums (Rg.gat b l) := ⟨_, rfl⟩
  rw [← hs1] at KG KH
  obtain ⟨R1, hR1⟩ : ∃ s, s = Rg.room l := ⟨_, rfl⟩
  rw [← hR1] at KO KQ
  have KX := Lib.hid fun g c1 A2 c2 w' (h : Draft w' g n X) (k : Sl w' 128 A2 n (U X)) => same_any (some ⟨g, 0, none⟩) n c1 A2 n c2 X X w' h.sl k h1.2 h1.2
  rw [decide_eq_true (show X = X from rfl)] at KX
  have d1 : decide ((3000 : Int) < (data.size : Int)) = false := decide_eq_false (by omega)
  have hqs : (i % S) = q := hq.symm
  have cS := wrap64 S (by omega) (by omega)
  have ci := wrap64 i hi0 (by omega)
  have cq := wrap64 q hq0 (by omega)
  have hfk := fld_k
  clear hq hl hE1 hX hN hs1 hR1 hg hsm hs hb hnc hc hB hS hok hd hSS h1
  have b4 : Blk _ w.heap.size 24 ([.slice A n c]) := ((Blk.new' w w.heap.size 24 ([.slice A n c]).toArray ([.slice A n c]) (by simp) rfl).alloc (.cells ([.int .u32 B, .int .u32 S]).toArray 27))
  have b5 : Blk _ (w.heap.size + 1) 27 ([.int .u32 B, .int .u32 S]) := (Blk.new' (w.alloc (.cells ([.slice A n c]).toArray 24)) (w.heap.size + 1) 27 ([.int .u32 B, .int .u32 S]).toArray ([.int .u32 B, .int .u32 S]) (by simp) rfl)
  have lw := ((later1 w (.cells ([.slice A n c]).toArray 24)).alloc (by simp; try omega) (.cells ([.int .u32 B, .int .u32 S]).toArray 27))
  obtain ⟨u0, hu⟩ : ∃ u, ((w.alloc (.cells ([.slice A n c]).toArray 24)).alloc (.cells ([.int .u32 B, .int .u32 S]).toArray 27)) = u := ⟨_, rfl⟩
  rw [hu] at b4 b5 lw
  go_enter Try.func4, Try.ntmps4
  go_upto_region 1 with fail
  have hu2 : ((w.alloc (.cells #[.slice A n c] 24)).alloc (.cells #[.int .u32 B, .int .u32 S] 27)) = u0 := hu
  try rw [hu2]
  clear hu hu2
  go_upto_region 3 with (first
    | ((with_reducible refine wpList_load_blk (o := ⟨some 13, .load 24 (.tmp 4), _, _, _, none⟩) rfl _ _ rfl w.heap.size 24 ([.slice A n c]) _ ?_ ?_ Try.underlying24 rfl memS ?_); rfl; exact b4)
    | ((with_reducible refine wpList_load_blk (o := ⟨some 14, .load 27 (.tmp 5), _, _, _, none⟩) rfl _ _ rfl (w.heap.size + 1) 27 ([.int .u32 B, .int .u32 S]) _ ?_ ?_ Try.underlying27 rfl ring_sz ?_); rfl; exact b5)
    | (go_at_call 13; (with_reducible refine (KT.out _).mono ?_); rintro e w1 ⟨rfl, l1⟩; replace b4 := b4.keep l1; replace b5 := b5.keep l1; replace lw := Later.trans_ lw l1))
  replace b4 := b4.drew
  replace b5 := b5.drew
  replace lw := lw.drew
  refine wp_region_held_drew (S := fun w' => World.rangeAt w' w.heap.size 0 [.slice A n c] ∧ World.rangeAt w' (w.heap.size + 1) 0 [.int .u32 B, .int .u32 S]) (by kernel_rfl) ⟨b4.range 0 1, b5.range 0 2⟩ (fun hHeld => ?_)
  refine wpAnyH_take (i := 0) (oi := ⟨some 23, .load 24 (.tmp 4), _, _, _, none⟩) (v := .agg ([.slice A n c]).toArray) rfl (by kernel_rfl) (by kernel_rfl) (by kernel_rfl) (fun _ _ _ h => h) (yieldsIf_load_mid (by rfl) _ _ rfl w.heap.size 0 rfl ([.slice A n c]) _ (fun wz hSw => hSw.1) Try.underlying24 rfl memS) hHeld ?_
  simp only [Act.put, List.setIfInBounds_toArray, List.set_cons_zero, List.set_cons_succ]
  refine wpAnyH_take (i := 1) (oi := ⟨some 24, .load 27 (.tmp 5), _, _, _, none⟩) (v := .agg ([.int .u32 B, .int .u32 S]).toArray) rfl (by kernel_rfl) (by kernel_rfl) (by kernel_rfl) (fun _ _ _ h => h) (yieldsIf_load_mid (by rfl) _ _ rfl (w.heap.size + 1) 0 rfl ([.int .u32 B, .int .u32 S]) _ (fun wz hSw => hSw.2) Try.underlying27 rfl ring_sz) hHeld ?_
  simp only [Act.put, List.setIfInBounds_toArray, List.set_cons_zero, List.set_cons_succ]
  refine wpAnyH_take (i := 2) (oi := ⟨some 25, .move (.tmp 2), _, _, _, none⟩) (v := .int .u8 i) rfl (by kernel_rfl) (by kernel_rfl) (by kernel_rfl) (fun _ _ _ h => h) (Or.inl ⟨by rfl, fun _ _ => rfl⟩) hHeld ?_
  simp only [Act.put, List.setIfInBounds_toArray, List.set_cons_zero, List.set_cons_succ]
  refine wpAnyH_take (i := 3) (oi := ⟨some 26, .convert 5 3 (.tmp 25), _, _, _, none⟩) (v := .int .i64 i) rfl (by kernel_rfl) (by kernel_rfl) (by kernel_rfl) (fun _ _ _ h => h) (Or.inl ⟨by rfl, fun w _ => by go_simp⟩) hHeld ?_
  simp only [Act.put, List.setIfInBounds_toArray, List.set_cons_zero, List.set_cons_succ]
  refine wpAnyH_take (i := 4) (oi := ⟨some 27, .fieldAddr 27 (.tmp 5) 1, _, _, _, none⟩) (v := .pointer (some ⟨(w.heap.size + 1), 1, none⟩)) rfl (by kernel_rfl) (by kernel_rfl) (by kernel_rfl) (fun _ _ _ h => h) (Or.inl ⟨by rfl, fun w _ => by go_simp⟩) hHeld ?_
  simp only [Act.put, List.setIfInBounds_toArray, List.set_cons_zero, List.set_cons_succ]
  refine wpAnyH_take (i := 5) (oi := ⟨some 28, .load 25 (.tmp 27), _, _, _, none⟩) (v := .int .u32 S) rfl (by kernel_rfl) (by kernel_rfl) (by kernel_rfl) (fun _ _ _ h => h) (Or.inl ⟨by rfl, fun wz hSw => by have e1 : wz.cell? ⟨(w.heap.size + 1), 1, none⟩ = some (.int .u32 S) := hSw.2 1 _ rfl; clear hSw; go_simp⟩) hHeld ?_
  simp only [Act.put, List.setIfInBounds_toArray, List.set_cons_zero, List.set_cons_succ]
  refine wpAnyH_take (i := 6) (oi := ⟨some 29, .convert 25 3 (.tmp 28), _, _, _, none⟩) (v := .int .i64 S) rfl (by kernel_rfl) (by kernel_rfl) (by kernel_rfl) (fun _ _ _ h => h) (Or.inl ⟨by rfl, fun w _ => by go_simp⟩) hHeld ?_
  simp only [Act.put, List.setIfInBounds_toArray, List.set_cons_zero, List.set_cons_succ]
  refine wpAnyH_take (i := 7) (oi := ⟨some 30, .binOp .rem 3 (.tmp 26) (.tmp 29) 3, _, _, _, none⟩) (v := .int .i64 q) rfl (by kernel_rfl) (by kernel_rfl) (by kernel_rfl) (fun _ _ _ h => h) (Or.inl ⟨by rfl, fun w _ => by go_simp⟩) hHeld ?_
  simp only [Act.put, List.setIfInBounds_toArray, List.set_cons_zero, List.set_cons_succ]
  refine wpAnyH_ready (rs := [8]) (by kernel_rfl) (by simp) (AllReadyH.cons (o := ⟨some 31, .call { callee := .value (.func 17), args := #[.tmp 23, .tmp 24, .tmp 30], argTypes := #[24, 27, 3] }, _, _, _, none⟩) rfl (fun K' hK => ?_) (AllReadyH.nil))
  go_simp
  (with_reducible refine (KK.out _ lw).mono ?_)
  rintro e w2 ⟨AK, cK, AP, mp, cp, rfl, _, _, _, _, _, sP, hpl, l2⟩
  replace b4 := b4.keep l2
  replace b5 := b5.keep l2
  replace lw := Later.trans_ lw l2
  refine hK.out _ _ ⟨b4.range 0 1, b5.range 0 2⟩ (fun hHeld => ?_)
  clear hK K'
  try simp only [Act.put, List.setIfInBounds_toArray, List.set_cons_zero, List.set_cons_succ]
  refine wpAnyH_take (i := 9) (oi := ⟨some 32, .field 42 (.tmp 31) 1, _, _, _, none⟩) (v := .slice AP mp cp) rfl (by kernel_rfl) (by kernel_rfl) (by kernel_rfl) (fun _ _ _ h => h) (Or.inl ⟨by rfl, fun w _ => by go_simp⟩) hHeld ?_
  simp only [Act.put, List.setIfInBounds_toArray, List.set_cons_zero, List.set_cons_succ]
  refine wpAnyH_take (i := 10) (oi := ⟨some 9, .assign (.tmp 32), _, _, _, none⟩) (v := .slice AP mp cp) rfl (by kernel_rfl) (by kernel_rfl) (by kernel_rfl) (fun _ _ _ h => h) (Or.inl ⟨by rfl, fun _ _ => rfl⟩) hHeld ?_
  simp only [Act.put, List.setIfInBounds_toArray, List.set_cons_zero, List.set_cons_succ]
  refine wpAnyH_done (by kernel_rfl) ?_ _
  clear hHeld
  clear ht hqs cS ci cq hq2
  go_upto_region 6 with (first
    | ((with_reducible refine wpList_load_blk (o := ⟨some 34, .load 24 (.tmp 4), _, _, _, none⟩) rfl _ _ rfl w.heap.size 24 ([.slice A n c]) _ ?_ ?_ Try.underlying24 rfl memS ?_); rfl; exact b4)
    | (go_at_call 24; (with_reducible refine (KS.out AP mp cp _ lw sP hpl).mono ?_); rintro e w3 ⟨g, c1, rfl, _, _, _, dX, l3⟩; replace b4 := b4.keep l3; replace b5 := b5.keep l3; replace sP := sP.keep l3; replace lw := Later.trans_ lw l3)
    | ((with_reducible refine wpList_store_abs (o := ⟨none, .store 24 (.tmp 10) (.tmp 38), _, _, _, none⟩) rfl _ _ _ rfl w3.heap.size 24 ([.slice none 0 0]) ([.slice (some ⟨g, 0, none⟩) n c1]) ?_ ?_ ?_ ?_ ?_ ?_ ?_); rfl; rfl; exact (Blk.new _ _ _ _ rfl); exact memS; rfl; exact (one1 rfl); intro w4 b10 o10; have l4 := Below.only (later1 w3 (.cells #[.slice none 0 0] 24)) o10 (Nat.le_refl _); replace b4 := b4.keep l4; replace b5 := b5.keep l4; replace sP := sP.keep l4; replace dX := dX.keep l4; replace lw := Later.trans_ lw l4; clear l4 o10)
    | ((with_reducible refine wpList_load_blk (o := ⟨some 40, .load 24 (.tmp 4), _, _, _, none⟩) rfl _ _ rfl w.heap.size 24 ([.slice A n c]) _ ?_ ?_ Try.underlying24 rfl memS ?_); rfl; exact b4)
    | (go_at_call 25; (with_reducible refine (KR.out AP mp cp _ lw sP hpl).mono ?_); rintro e w5 ⟨A2, c2, rfl, _, _, sX, l5⟩; replace b4 := b4.keep l5; replace b5 := b5.keep l5; replace sP := sP.keep l5; replace dX := dX.keep l5; replace b10 := b10.keep l5; replace lw := Later.trans_ lw l5)
    | ((with_reducible refine wpList_store_abs (o := ⟨none, .store 52 (.tmp 12) (.tmp 43), _, _, _, none⟩) rfl _ _ _ rfl w5.heap.size 52 ([.slice none 0 0, .int .i64 0]) ([.slice A2 n c2, .int .i64 (N : Int)]) ?_ ?_ ?_ ?_ ?_ ?_ ?_); rfl; rfl; exact (Blk.new _ _ _ _ rfl); exact scS; rfl; exact (one2 rfl rfl); intro w6 b12 o12; have l6 := Below.only (later1 w5 (.cells #[.slice none 0 0, .int .i64 0] 52)) o12 (Nat.le_refl _); replace b4 := b4.keep l6; replace b5 := b5.keep l6; replace sP := sP.keep l6; replace dX := dX.keep l6; replace b10 := b10.keep l6; replace sX := sX.keep l6; replace lw := Later.trans_ lw l6; clear l6 o12))
  replace lw := lw.drew
  replace b4 := b4.drew
  replace b5 := b5.drew
  replace b10 := b10.drew
  replace b12 := b12.drew
  replace dX := dX.drew
  replace sP : Sl w6.drew 4 AP mp (Ps l) := sP
  replace sX : Sl w6.drew 128 A2 n (U X) := sX
  refine wp_region_held_drew (S := fun w' => World.rangeAt w' w.heap.size 0 [.slice A n c] ∧ World.rangeAt w' w3.heap.size 0 [.slice (some ⟨g, 0, none⟩) n c1] ∧ World.rangeAt w' w5.heap.size 0 [.slice A2 n c2, .int .i64 (N : Int)]) (by kernel_rfl) ⟨b4.range 0 1, b10.range 0 1, b12.range 0 2⟩ (fun hHeld => ?_)
  refine wpAnyH_ready (rs := [0]) (by kernel_rfl) (by simp) (AllReadyH.cons (o := ⟨some 44, .call { callee := .value (.func 10), args := #[], argTypes := #[] }, _, _, _, none⟩) rfl (fun K' hK => ?_) (AllReadyH.nil))
  go_simp
  (with_reducible refine (KN.out _).mono ?_)
  rintro e v1 ⟨rfl, m1⟩
  replace b4 := b4.keep m1
  replace b5 := b5.keep m1
  replace sP := sP.keep m1
  replace dX := dX.keep m1
  replace b10 := b10.keep m1
  replace sX := sX.keep m1
  replace b12 := b12.keep m1
  replace lw := Later.trans_ lw m1
  refine hK.out _ _ ⟨b4.range 0 1, b10.range 0 1, b12.range 0 2⟩ (fun hHeld => ?_)
  clear hK K'
  try simp only [Act.put, List.setIfInBounds_toArray, List.set_cons_zero, List.set_cons_succ]
  refine wpAnyH_take (i := 1) (oi := ⟨some 45, .move (.tmp 44), _, _, _, none⟩) (v := .bool true) rfl (by kernel_rfl) (by kernel_rfl) (by kernel_rfl) (fun _ _ _ h => h) (Or.inl ⟨by rfl, fun _ _ => rfl⟩) hHeld ?_
  simp only [Act.put, List.setIfInBounds_toArray, List.set_cons_zero, List.set_cons_succ]
  refine wpAnyH_take (i := 2) (oi := ⟨some 46, .load 24 (.tmp 4), _, _, _, _⟩) (v := .agg ([.slice A n c]).toArray) rfl (by kernel_rfl) (by kernel_rfl) (by kernel_rfl) (fun _ _ _ h => h) (yieldsIf_load_mid (by rfl) _ _ rfl w.heap.size 0 rfl ([.slice A n c]) _ (fun wz hSw => hSw.1) Try.underlying24 rfl memS) hHeld ?_
  simp only [Act.put, List.setIfInBounds_toArray, List.set_cons_zero, List.set_cons_succ]
  refine wpAnyH_take (i := 3) (oi := ⟨some 47, .move (.tmp 9), _, _, _, _⟩) (v := .slice AP mp cp) rfl (by kernel_rfl) (by kernel_rfl) (by kernel_rfl) (fun _ _ _ h => h) (Or.inl ⟨by rfl, fun _ _ => rfl⟩) hHeld ?_
  simp only [Act.put, List.setIfInBounds_toArray, List.set_cons_zero, List.set_cons_succ]
  refine wpAnyH_take (i := 5) (oi := ⟨some 49, .load 24 (.tmp 4), _, _, _, _⟩) (v := .agg ([.slice A n c]).toArray) rfl (by kernel_rfl) (by kernel_rfl) (by kernel_rfl) (fun _ _ _ h => h) (yieldsIf_load_mid (by rfl) _ _ rfl w.heap.size 0 rfl ([.slice A n c]) _ (fun wz hSw => hSw.1) Try.underlying24 rfl memS) hHeld ?_
  simp only [Act.put, List.setIfInBounds_toArray, List.set_cons_zero, List.set_cons_succ]
  refine wpAnyH_take (i := 6) (oi := ⟨some 50, .move (.tmp 9), _, _, _, _⟩) (v := .slice AP mp cp) rfl (by kernel_rfl) (by kernel_rfl) (by kernel_rfl) (fun _ _ _ h => h) (Or.inl ⟨by rfl, fun _ _ => rfl⟩) hHeld ?_
  simp only [Act.put, List.setIfInBounds_toArray, List.set_cons_zero, List.set_cons_succ]
  refine wpAnyH_ready (rs := [4]) (by kernel_rfl) (by simp) (AllReadyH.cons (o := ⟨some 48, .call { callee := .value (.func 26), args := #[.tmp 46, .tmp 47], argTypes := #[24, 35] }, _, _, _, _⟩) rfl (fun K' hK => ?_) (AllReadyH.nil))
  go_simp
  (with_reducible refine (KG.out AP mp cp _ lw sP hpl).mono ?_)
  rintro e v2 ⟨rfl, m2⟩
  replace b4 := b4.keep m2
  replace b5 := b5.keep m2
  replace sP := sP.keep m2
  replace dX := dX.keep m2
  replace b10 := b10.keep m2
  replace sX := sX.keep m2
  replace b12 := b12.keep m2
  replace lw := Later.trans_ lw m2
  refine hK.out _ _ ⟨b4.range 0 1, b10.range 0 1, b12.range 0 2⟩ (fun hHeld => ?_)
  clear hK K'
  try simp only [Act.put, List.setIfInBounds_toArray, List.set_cons_zero, List.set_cons_succ]
  refine wpAnyH_ready (rs := [7]) (by kernel_rfl) (by simp) (AllReadyH.cons (o := ⟨some 51, .call { callee := .value (.func 27), args := #[.tmp 49, .tmp 50], argTypes := #[24, 35] }, _, _, _, _⟩) rfl (fun K' hK => ?_) (AllReadyH.nil))
  go_simp
  (with_reducible refine (KH.out AP mp cp _ lw sP hpl).mono ?_)
  rintro e v3 ⟨rfl, m3⟩
  replace b4 := b4.keep m3
  replace b5 := b5.keep m3
  replace sP := sP.keep m3
  replace dX := dX.keep m3
  replace b10 := b10.keep m3
  replace sX := sX.keep m3
  replace b12 := b12.keep m3
  replace lw := Later.trans_ lw m3
  refine hK.out _ _ ⟨b4.range 0 1, b10.range 0 1, b12.range 0 2⟩ (fun hHeld => ?_)
  clear hK K'
  try simp only [Act.put, List.setIfInBounds_toArray, List.set_cons_zero, List.set_cons_succ]
  refine wpAnyH_take (i := 8) (oi := ⟨some 52, .binOp .eql 9 (.tmp 48) (.tmp 51) 9, _, _, _, _⟩) (v := .bool true) rfl (by kernel_rfl) (by kernel_rfl) (by kernel_rfl) (fun _ _ _ h => h) (Or.inl ⟨by rfl, fun w _ => by go_simp⟩) hHeld ?_
  simp only [Act.put, List.setIfInBounds_toArray, List.set_cons_zero, List.set_cons_succ]
  refine wpAnyH_take (i := 9) (oi := ⟨some 53, .pick (.tmp 45) (.tmp 52) (.const (.bool false)), _, _, _, none⟩) (v := .bool true) rfl (by kernel_rfl) (by kernel_rfl) (by kernel_rfl) (fun _ _ _ h => h) (Or.inl ⟨by rfl, fun w _ => by go_simp⟩) hHeld ?_
  simp only [Act.put, List.setIfInBounds_toArray, List.set_cons_zero, List.set_cons_succ]
  refine wpAnyH_take (i := 10) (oi := ⟨some 54, .move (.tmp 53), _, _, _, none⟩) (v := .bool true) rfl (by kernel_rfl) (by kernel_rfl) (by kernel_rfl) (fun _ _ _ h => h) (Or.inl ⟨by rfl, fun _ _ => rfl⟩) hHeld ?_
  simp only [Act.put, List.setIfInBounds_toArray, List.set_cons_zero, List.set_cons_succ]
  refine wpAnyH_take (i := 11) (oi := ⟨some 55, .move (.tmp 9), _, _, _, _⟩) (v := .slice AP mp cp) rfl (by kernel_rfl) (by kernel_rfl) (by kernel_rfl) (fun _ _ _ h => h) (Or.inl ⟨by rfl, fun _ _ => rfl⟩) hHeld ?_
  simp only [Act.put, List.setIfInBounds_toArray, List.set_cons_zero, List.set_cons_succ]
  refine wpAnyH_take (i := 13) (oi := ⟨some 57, .move (.tmp 9), _, _, _, _⟩) (v := .slice AP mp cp) rfl (by kernel_rfl) (by kernel_rfl) (by kernel_rfl) (fun _ _ _ h => h) (Or.inl ⟨by rfl, fun _ _ => rfl⟩) hHeld ?_
  simp only [Act.put, List.setIfInBounds_toArray, List.set_cons_zero, List.set_cons_succ]
  refine wpAnyH_ready (rs := [12]) (by kernel_rfl) (by simp) (AllReadyH.cons (o := ⟨some 56, .call { callee := .value (.func 28), args := #[.tmp 55], argTypes := #[35] }, _, _, _, _⟩) rfl (fun K' hK => ?_) (AllReadyH.nil))
  go_simp
  (with_reducible refine (KO.out AP mp cp _ sP hpl).mono ?_)
  rintro e v4 ⟨rfl, m4⟩
  replace b4 := b4.keep m4
  replace b5 := b5.keep m4
  replace sP := sP.keep m4
  replace dX := dX.keep m4
  replace b10 := b10.keep m4
  replace sX := sX.keep m4
  replace b12 := b12.keep m4
  replace lw := Later.trans_ lw m4
  refine hK.out _ _ ⟨b4.range 0 1, b10.range 0 1, b12.range 0 2⟩ (fun hHeld => ?_)
  clear hK K'
  try simp only [Act.put, List.setIfInBounds_toArray, List.set_cons_zero, List.set_cons_succ]
  refine wpAnyH_ready (rs := [14]) (by kernel_rfl) (by simp) (AllReadyH.cons (o := ⟨some 58, .call { callee := .value (.func 29), args := #[.tmp 57], argTypes := #[35] }, _, _, _, _⟩) rfl (fun K' hK => ?_) (AllReadyH.nil))
  go_simp
  (with_reducible refine (KQ.out AP mp cp _ sP hpl).mono ?_)
  rintro e v5 ⟨rfl, m5⟩
  replace b4 := b4.keep m5
  replace b5 := b5.keep m5
  replace sP := sP.keep m5
  replace dX := dX.keep m5
  replace b10 := b10.keep m5
  replace sX := sX.keep m5
  replace b12 := b12.keep m5
  replace lw := Later.trans_ lw m5
  refine hK.out _ _ ⟨b4.range 0 1, b10.range 0 1, b12.range 0 2⟩ (fun hHeld => ?_)
  clear hK K'
  try simp only [Act.put, List.setIfInBounds_toArray, List.set_cons_zero, List.set_cons_succ]
  refine wpAnyH_take (i := 15) (oi := ⟨some 59, .binOp .eql 3 (.tmp 56) (.tmp 58) 3, _, _, _, _⟩) (v := .bool true) rfl (by kernel_rfl) (by kernel_rfl) (by kernel_rfl) (fun _ _ _ h => h) (Or.inl ⟨by rfl, fun w _ => by go_simp⟩) hHeld ?_
  simp only [Act.put, List.setIfInBounds_toArray, List.set_cons_zero, List.set_cons_succ]
  refine wpAnyH_take (i := 16) (oi := ⟨some 60, .pick (.tmp 54) (.tmp 59) (.const (.bool false)), _, _, _, none⟩) (v := .bool true) rfl (by kernel_rfl) (by kernel_rfl) (by kernel_rfl) (fun _ _ _ h => h) (Or.inl ⟨by rfl, fun w _ => by go_simp⟩) hHeld ?_
  simp only [Act.put, List.setIfInBounds_toArray, List.set_cons_zero, List.set_cons_succ]
  refine wpAnyH_take (i := 17) (oi := ⟨some 61, .move (.tmp 60), _, _, _, none⟩) (v := .bool true) rfl (by kernel_rfl) (by kernel_rfl) (by kernel_rfl) (fun _ _ _ h => h) (Or.inl ⟨by rfl, fun _ _ => rfl⟩) hHeld ?_
  simp only [Act.put, List.setIfInBounds_toArray, List.set_cons_zero, List.set_cons_succ]
  refine wpAnyH_take (i := 18) (oi := ⟨some 62, .move (.tmp 11), _, _, _, _⟩) (v := .int .i64 (N : Int)) rfl (by kernel_rfl) (by kernel_rfl) (by kernel_rfl) (fun _ _ _ h => h) (Or.inl ⟨by rfl, fun _ _ => rfl⟩) hHeld ?_
  simp only [Act.put, List.setIfInBounds_toArray, List.set_cons_zero, List.set_cons_succ]
  refine wpAnyH_take (i := 19) (oi := ⟨some 63, .fieldAddr 52 (.tmp 12) 1, _, _, _, _⟩) (v := .pointer (some ⟨w5.heap.size, 1, none⟩)) rfl (by kernel_rfl) (by kernel_rfl) (by kernel_rfl) (fun _ _ _ h => h) (Or.inl ⟨by rfl, fun w _ => by go_simp⟩) hHeld ?_
  simp only [Act.put, List.setIfInBounds_toArray, List.set_cons_zero, List.set_cons_succ]
  refine wpAnyH_take (i := 20) (oi := ⟨some 64, .load 3 (.tmp 63), _, _, _, _⟩) (v := .int .i64 (N : Int)) rfl (by kernel_rfl) (by kernel_rfl) (by kernel_rfl) (fun _ _ _ h => h) (Or.inl ⟨by rfl, fun wz hSw => by have e1 : wz.cell? ⟨w5.heap.size, 1, none⟩ = some (.int .i64 (N : Int)) := hSw.2.2 1 _ rfl; clear hSw; go_simp⟩) hHeld ?_
  simp only [Act.put, List.setIfInBounds_toArray, List.set_cons_zero, List.set_cons_succ]
  refine wpAnyH_take (i := 21) (oi := ⟨some 65, .binOp .eql 3 (.tmp 62) (.tmp 64) 3, _, _, _, _⟩) (v := .bool true) rfl (by kernel_rfl) (by kernel_rfl) (by kernel_rfl) (fun _ _ _ h => h) (Or.inl ⟨by rfl, fun w _ => by go_simp⟩) hHeld ?_
  simp only [Act.put, List.setIfInBounds_toArray, List.set_cons_zero, List.set_cons_succ]
  refine wpAnyH_take (i := 22) (oi := ⟨some 66, .pick (.tmp 61) (.tmp 65) (.const (.bool false)), _, _, _, none⟩) (v := .bool true) rfl (by kernel_rfl) (by kernel_rfl) (by kernel_rfl) (fun _ _ _ h => h) (Or.inl ⟨by rfl, fun w _ => by go_simp⟩) hHeld ?_
  simp only [Act.put, List.setIfInBounds_toArray, List.set_cons_zero, List.set_cons_succ]
  refine wpAnyH_take (i := 23) (oi := ⟨some 67, .move (.tmp 66), _, _, _, none⟩) (v := .bool true) rfl (by kernel_rfl) (by kernel_rfl) (by kernel_rfl) (fun _ _ _ h => h) (Or.inl ⟨by rfl, fun _ _ => rfl⟩) hHeld ?_
  simp only [Act.put, List.setIfInBounds_toArray, List.set_cons_zero, List.set_cons_succ]
  refine wpAnyH_take (i := 24) (oi := ⟨some 68, .load 24 (.tmp 10), _, _, _, _⟩) (v := .agg ([.slice (some ⟨g, 0, none⟩) n c1]).toArray) rfl (by kernel_rfl) (by kernel_rfl) (by kernel_rfl) (fun _ _ _ h => h) (yieldsIf_load_mid (by rfl) _ _ rfl w3.heap.size 0 rfl ([.slice (some ⟨g, 0, none⟩) n c1]) _ (fun wz hSw => hSw.2.1) Try.underlying24 rfl memS) hHeld ?_
  simp only [Act.put, List.setIfInBounds_toArray, List.set_cons_zero, List.set_cons_succ]
  refine wpAnyH_take (i := 25) (oi := ⟨some 69, .fieldAddr 52 (.tmp 12) 0, _, _, _, _⟩) (v := .pointer (some ⟨w5.heap.size, 0, none⟩)) rfl (by kernel_rfl) (by kernel_rfl) (by kernel_rfl) (fun _ _ _ h => h) (Or.inl ⟨by rfl, fun w _ => by go_simp⟩) hHeld ?_
  simp only [Act.put, List.setIfInBounds_toArray, List.set_cons_zero, List.set_cons_succ]
  refine wpAnyH_take (i := 26) (oi := ⟨some 70, .load 24 (.tmp 69), _, _, _, _⟩) (v := .agg ([.slice A2 n c2]).toArray) rfl (by kernel_rfl) (by kernel_rfl) (by kernel_rfl) (fun _ _ _ h => h) (yieldsIf_load_mid (by rfl) _ _ rfl w5.heap.size 0 rfl ([.slice A2 n c2]) _ (fun wz hSw => (fun j v hv => hSw.2.2 j v (by cases j with | zero => exact hv | succ j => simp at hv))) Try.underlying24 rfl memS) hHeld ?_
  simp only [Act.put, List.setIfInBounds_toArray, List.set_cons_zero, List.set_cons_succ]
  refine wpAnyH_ready (rs := [27]) (by kernel_rfl) (by simp) (AllReadyH.cons (o := ⟨some 71, .call { callee := .value (.func 19), args := #[.tmp 68, .tmp 70], argTypes := #[24, 24] }, _, _, _, _⟩) rfl (fun K' hK => ?_) (AllReadyH.nil))
  go_simp
  (with_reducible refine (KX.out g c1 A2 c2 _ dX sX).mono ?_)
  rintro e v6 ⟨rfl, m6⟩
  replace b4 := b4.keep m6
  replace b5 := b5.keep m6
  replace sP := sP.keep m6
  replace dX := dX.keep m6
  replace b10 := b10.keep m6
  replace sX := sX.keep m6
  replace b12 := b12.keep m6
  replace lw := Later.trans_ lw m6
  refine hK.out _ _ ⟨b4.range 0 1, b10.range 0 1, b12.range 0 2⟩ (fun hHeld => ?_)
  clear hK K'
  try simp only [Act.put, List.setIfInBounds_toArray, List.set_cons_zero, List.set_cons_succ]
  refine wpAnyH_take (i := 28) (oi := ⟨some 72, .pick (.tmp 67) (.tmp 71) (.const (.bool false)), _, _, _, none⟩) (v := .bool true) rfl (by kernel_rfl) (by kernel_rfl) (by kernel_rfl) (fun _ _ _ h => h) (Or.inl ⟨by rfl, fun w _ => by go_simp⟩) hHeld ?_
  simp only [Act.put, List.setIfInBounds_toArray, List.set_cons_zero, List.set_cons_succ]
  refine wpAnyH_take (i := 29) (oi := ⟨some 8, .assign (.tmp 72), _, _, _, none⟩) (v := .bool true) rfl (by kernel_rfl) (by kernel_rfl) (by kernel_rfl) (fun _ _ _ h => h) (Or.inl ⟨by rfl, fun _ _ => rfl⟩) hHeld ?_
  simp only [Act.put, List.setIfInBounds_toArray, List.set_cons_zero, List.set_cons_succ]
  refine wpAnyH_done (by kernel_rfl) ?_ _
  clear hHeld
  go_wp2
  go_ret
  exact ⟨rfl, lw⟩
theorem moves_all (A : Option Addr) (n c : Nat) (b : Wm.Bs) (B S i : Int) (data : ByteArray) (w : World) (hs : Sl w 128 A n (U b)) (hb : Wm.isBs b) (hnc : n ≤ c) (hc : c ≤ maxLen) (hB : Tm.isE B) (hS : Tm.isE S) (hi0 : 0 ≤ i) (hi1 : i ≤ 255) : Calls Try.prog 4 #[.agg #[.slice A n c], .agg #[.int .u32 B, .int .u32 S], .int .u8 i, .string data] w fun e w' => e = .returned (.bool true) ∧ Later w w' := by
  by_cases h1 : 1 ≤ n ∧ n ≤ 64
  · by_cases h2 : Rg.Ok (n * 128) B S
    · by_cases h3 : data.size ≤ 3000
      · exact moves_yes A n c b B S i data w hs hb hnc hc hB hS hi0 hi1 h1 h2 h3
      · exact moves_no A n c B S i data w hB hS (.inr (by omega))
    · exact moves_no A n c B S i data w hB hS (.inl (by rw [decide_eq_false h2, Bool.and_false]))
  · exact moves_no A n c B S i data w hB hS (.inl (by rw [decide_eq_false h1, Bool.false_and]))

set_option maxRecDepth 100000 in
theorem ringMovesAsSpecified_lifted (os : Os) (started : os.Started) (H : Type) (enc : TypeId × Value → H) :
    ReturnsInHanded {} Try.checked os 4 .any (Rows.ringMovesAsSpecifiedSpec.pre6 enc Try.prog Try.f4 Rows.ringMovesAsSpecifiedRow.domain false) (Rows.ringMovesAsSpecifiedSpec.post enc Try.prog Try.f4 false true false false) := by
  refine returnsInHanded_of_change (C := Try.checked) ownK started (by kernel_rfl) Try.func4
    (ChangeSpec.witness6 (enc := enc) (C := Try.checked) false ⟨#[], #[.agg #[.slice none 0 0], .agg #[.int .u32 0, .int .u32 0], .int .u8 0, .string ⟨#[]⟩], []⟩ 8 (by kernel_rfl) (by kernel_rfl) (by kernel_rfl) (by kernel_rfl)) ?_
  intro W base args ds gs before hval0 hW hcnd _
  have hval : ∀ (j : Nat) t v, Try.f4.params[j]? = some t → args[j]? = some v → Value.okWide Try.prog W .any base t v := hval0
  have hW' := hW
  obtain ⟨p, q, hA0, hV, rfl, hfz, hnd⟩ := hW
  have hA : DataW.TrodAll enc Try.prog W 0 (fun _ => true) true Try.f4.params.toList args.toList ds p := hA0
  rw [Try.params4] at hA hval
  obtain ⟨v0, vs0, d0, ds0, p0, q0, hargs, rfl, rfl, h0, r0⟩ := trodAll_cons hA
  obtain ⟨v1, vs1, d1, ds1, p1, q1, rfl, rfl, rfl, h1, r1⟩ := trodAll_cons r0
  obtain ⟨v2, vs2, d2, ds2, p2, q2, rfl, rfl, rfl, h2, r2⟩ := trodAll_cons r1
  obtain ⟨v3, vs3, d3, ds3, p3, q3, rfl, rfl, rfl, h3, r3⟩ := trodAll_cons r2
  obtain ⟨rfl, rfl, rfl⟩ := trodAll_nil r3
  obtain rfl : args = #[v0, v1, v2, v3] := by cases args; simp_all
  obtain ⟨rfl, rfl⟩ := trodVars_none hV
  obtain ⟨A0, n0, c0, b0, rfl, x0, y0, s0, z0⟩ := mem_arg (K := 128) (by omega) Try.underlying24 rfl Try.underlying22 Try.underlying106 Try.underlying5 (by kernel_rfl) (by kernel_rfl) (by kernel_rfl) (by kernel_rfl) (hval 0 24 v0 rfl rfl) h0
  obtain ⟨B1, S1, rfl, zB1, zS1⟩ := ring_open (hval 1 27 v1 rfl rfl) h1
  obtain ⟨a2, rfl, _, _, w2⟩ := open_int Try.underlying5 (hval 2 5 v2 rfl rfl) h2
  have z2 : 0 ≤ a2 ∧ a2 ≤ 255 := by
    have e1 : IntKind.u8.min = 0 := rfl
    have e2 : IntKind.u8.max = 255 := rfl
    simp only [Lit.wf, Bool.and_eq_true, decide_eq_true_eq] at w2
    omega
  obtain ⟨a3, rfl, z3⟩ := str_arg Try.underlying9 (hval 3 9 v3 rfl rfl) h3
  clear hA0 hval0
  simp only [List.append_nil] at hW'
  refine (moves_all A0 n0 c0 b0 B1 S1 a2 a3 W s0 z0 x0 y0 zB1 zS1 z2.1 z2.2).mono fun e W' ⟨he, hw⟩ => ?_
  subst he
  exact ⟨_, rfl, law_post laidK rfl (by kernel_rfl) (by kernel_rfl) Try.underlying4 (by kernel_rfl) hW' rfl hw⟩
set_option maxRecDepth 100000 in
/-- The statement. -/
theorem ringMovesAsSpecified_said : Rows.RingMovesAsSpecifiedSaid :=
  OpenClaim.holds_of_wide 4 Try.f4 rfl rfl rfl rfl rfl rfl rfl ⟨rfl, rfl, rfl, rfl, rfl⟩ rfl rfl rfl rfl rfl (by kernel_rfl) Try.func4 (by kernel_rfl)
    (of_decide_eq_true (by kernel_rfl)) (by unfold Func.isWrapper; first | (rw [if_pos (by decide +kernel)]; kernel_rfl) | (rw [if_neg (by decide +kernel)]; exact ⟨rfl, rfl⟩))
    (fun os started H enc _ => ringMovesAsSpecified_lifted os started H enc)
#print axioms ringMovesAsSpecified_said
end Go.Proofs.Ytffgbbfcbobecaa
