/-
  THE STATEMENT RingCarriesBytes: what Scatter has written is what Gather reads, if no two parts that are written touch.
-/
import Derived.Test.YtffgbbfcbobecaaRgY3
import Derived.Deep.DeepCutAuto
import Derived.Lib.MinMax
namespace Go.Proofs.Ytffgbbfcbobecaa
open Go.RowKit Go.ChangeShapes Go.WideShapes Go.ChangeAt

theorem run_ro (a b c : Int) (w : World) : (Instr.build 59 #[(0, .int .i64 a), (1, .int .i64 b), (2, .int .i64 c)]).run Try.prog w = .ok (.agg (Pc (a, b, c, false)).toArray) w := run_build' w _ _ _ (by kernel_rfl)
set_option maxRecDepth 100000 in
set_option maxHeartbeats 4000000 in
theorem bytes_no (A : Option Addr) (n c : Nat) (B S i : Int) (data : ByteArray) (w : World) (hB : Tm.isE B) (hS : Tm.isE S) (h : (decide (1 ≤ n ∧ n ≤ 64) && decide (Rg.Ok (n * 128) B S)) = false ∨ 3000 < data.size) : Calls Try.prog 8 #[.agg #[.slice A n c], .agg #[.int .u32 B, .int .u32 S], .int .u8 i, .string data] w fun e w' => e = .returned (.bool true) ∧ Later w w' := by
  have KT := Lib.hid fun w' => lthere_any A n c B S w' hB hS
  have KN := Lib.hid fun w' => sanity_any w'
  obtain ⟨t, ht⟩ : ∃ t, t = (decide (1 ≤ n ∧ n ≤ 64) && decide (Rg.Ok (n * 128) B S)) := ⟨_, rfl⟩
  rw [← ht] at KT h
  clear ht hB hS
  have b4 : Blk _ w.heap.size 24 ([.slice A n c]) := ((Blk.new' w w.heap.size 24 ([.slice A n c]).toArray ([.slice A n c]) (by simp) rfl).alloc (.cells ([.int .u32 B, .int .u32 S]).toArray 27))
  have b5 : Blk _ (w.heap.size + 1) 27 ([.int .u32 B, .int .u32 S]) := (Blk.new' (w.alloc (.cells ([.slice A n c]).toArray 24)) (w.heap.size + 1) 27 ([.int .u32 B, .int .u32 S]).toArray ([.int .u32 B, .int .u32 S]) (by simp) rfl)
  have lw := ((later1 w (.cells ([.slice A n c]).toArray 24)).alloc (by simp; try omega) (.cells ([.int .u32 B, .int .u32 S]).toArray 27))
  obtain ⟨u0, hu⟩ : ∃ u, ((w.alloc (.cells ([.slice A n c]).toArray 24)).alloc (.cells ([.int .u32 B, .int .u32 S]).toArray 27)) = u := ⟨_, rfl⟩
  rw [hu] at b4 b5 lw
  cases t
  · clear h
    go_enter Try.func8, Try.ntmps8
    go_upto_region 1 with fail
    have hu2 : ((w.alloc (.cells #[.slice A n c] 24)).alloc (.cells #[.int .u32 B, .int .u32 S] 27)) = u0 := hu
    try rw [hu2]
    clear hu hu2
    go_wp2_with (first
      | ((with_reducible refine wpList_load_blk (o := ⟨some 21, .load 24 (.tmp 4), _, _, _, none⟩) rfl _ _ rfl w.heap.size 24 ([.slice A n c]) _ ?_ ?_ Try.underlying24 rfl memS ?_); rfl; exact b4)
      | ((with_reducible refine wpList_load_blk (o := ⟨some 22, .load 27 (.tmp 5), _, _, _, none⟩) rfl _ _ rfl (w.heap.size + 1) 27 ([.int .u32 B, .int .u32 S]) _ ?_ ?_ Try.underlying27 rfl ring_sz ?_); rfl; exact b5)
      | (go_at_call 13; (with_reducible refine (KT.out _).mono ?_); rintro e w1 ⟨rfl, l1⟩; replace b4 := b4.keep l1; replace b5 := b5.keep l1; replace lw := Later.trans_ lw l1)
      | (go_at_call 10; (with_reducible refine (KN.out _).mono ?_); rintro e w9 ⟨rfl, l9⟩; replace lw := Later.trans_ lw l9))
    go_ret
    exact ⟨rfl, lw⟩
  · have d1 : decide ((3000 : Int) < (data.size : Int)) = true := decide_eq_true (by rcases h with h | h; cases h; omega)
    clear h
    go_enter Try.func8, Try.ntmps8
    go_upto_region 1 with fail
    have hu2 : ((w.alloc (.cells #[.slice A n c] 24)).alloc (.cells #[.int .u32 B, .int .u32 S] 27)) = u0 := hu
    try rw [hu2]
    clear hu hu2
    go_wp2_with (first
      | ((with_reducible refine wpList_load_blk (o := ⟨some 21, .load 24 (.tmp 4), _, _, _, none⟩) rfl _ _ rfl w.heap.size 24 ([.slice A n c]) _ ?_ ?_ Try.underlying24 rfl memS ?_); rfl; exact b4)
      | ((with_reducible refine wpList_load_blk (o := ⟨some 22, .load 27 (.tmp 5), _, _, _, none⟩) rfl _ _ rfl (w.heap.size + 1) 27 ([.int .u32 B, .int .u32 S]) _ ?_ ?_ Try.underlying27 rfl ring_sz ?_); rfl; exact b5)
      | (go_at_call 13; (with_reducible refine (KT.out _).mono ?_); rintro e w1 ⟨rfl, l1⟩; replace b4 := b4.keep l1; replace b5 := b5.keep l1; replace lw := Later.trans_ lw l1)
      | (go_at_call 10; (with_reducible refine (KN.out _).mono ?_); rintro e w9 ⟨rfl, l9⟩; replace lw := Later.trans_ lw l9))
    go_ret
    exact ⟨rfl, lw⟩
theorem dj_succ {L : List Rg.Pt} {q : Rg.Pt} {j : Nat} (h : ∀ p ∈ L.take j, Dj p q) (hj : j < L.length) (hd : Dj L[j] q) : ∀ p ∈ L.take (j + 1), Dj p q := by
  intro p hp
  rw [List.take_succ_eq_append_getElem hj] at hp
  rcases List.mem_append.1 hp with hp | hp
  · exact h p hp
  · obtain rfl := List.mem_singleton.1 hp
    exact hd
set_option maxRecDepth 100000 in
set_option maxHeartbeats 32000000 in
theorem bytes_yes (A : Option Addr) (n c : Nat) (b : Wm.Bs) (B S i : Int) (data : ByteArray) (w : World) (hs : Sl w 128 A n (U b)) (hb : Wm.isBs b) (hB : Tm.isE B) (hS : Tm.isE S) (hi0 : 0 ≤ i) (hi1 : i ≤ 255) (h1 : 1 ≤ n ∧ n ≤ 64) (hok : Rg.Ok (n * 128) B S) (hd : data.size ≤ 3000) : Calls Try.prog 8 #[.agg #[.slice A n c], .agg #[.int .u32 B, .int .u32 S], .int .u8 i, .string data] w fun e w' => e = .returned (.bool true) ∧ Later w w' := by
  have KT := Lib.hid fun w' => lthere_any A n c B S w' hB hS
  rw [decide_eq_true h1, decide_eq_true hok] at KT
  have KN := Lib.hid fun w' => sanity_any w'
  obtain ⟨i0', hi0', hz0, hz1, hz2⟩ := info_parts part_info
  have HI := Lib.hid (show _ ∧ _ ∧ _ ∧ _ from ⟨hi0', hz0, hz1, hz2⟩)
  clear hi0' hz0 hz1 hz2
  obtain ⟨ht, hq0, hq1, hq2⟩ := idx_rng hok hi0
  have hSS := hok.s
  obtain ⟨q, hq⟩ : ∃ q, q = i % S := ⟨_, rfl⟩
  rw [← hq] at ht hq0 hq1
  have hL := hs.1
  rw [U_length] at hL
  have hg := Rg.take_good (L := n * 128) (B := B) hb hq0 hq1
  have hsm := good_sml hg hb (by omega)
  have KTK := Lib.hid fun w' (k : Later w w') => take_any A n c b B S q w' (hs.keep k) hb h1.1 h1.2 hok hq0 hq1
  obtain ⟨l, hl⟩ : ∃ l, l = Rg.takL (n * 128) b B S q := ⟨_, rfl⟩
  obtain ⟨E1, hE1⟩ : ∃ l, l = Rg.takE (n * 128) b B S q := ⟨_, rfl⟩
  obtain ⟨X0, hX0⟩ : ∃ l, l = Rg.takM (n * 128) b B S q := ⟨_, rfl⟩
  rw [← hl, ← hE1, ← hX0] at KTK
  rw [← hl] at hg hsm
  have hll := hg.len
  have hfit : ∀ p ∈ l, Fits b.length p := fun p hp => ⟨(hsm.2 p hp).2.2.1, (hsm.2 p hp).1, by rw [hL]; exact (hg.is p hp).2.2.2.2⟩
  have hrs : Sml ((tos l).map ro) := ⟨by rw [List.length_map]; exact Nat.le_trans (List.length_filter_le _ _) hll, fun p hp => by
    obtain ⟨x, hx, rfl⟩ := List.mem_map.1 hp
    exact hsm.2 x (List.mem_filter.1 hx).1⟩
  have KSC := Lib.hid fun AP mp cp w' (kk : Later w w') (k : Sl w' 4 AP mp (Ps l)) (hm : l.length = mp) => scatter_any A n c b AP mp cp l data w' (hs.keep kk) hb h1.1 h1.2 k hm hsm (by omega)
  have KRM := Lib.hid fun AP mp cp w' (h : Sl w' 4 AP mp (Ps l)) (hl : l.length = mp) => room_any AP mp cp l w' h hl hsm
  have KG1 := Lib.hid fun AS ms cs w' (kk : Later w w') (k : Sl w' 4 AS ms (Ps ((tos l).map ro))) (hm : ((tos l).map ro).length = ms) => pgather_any A n c b AS ms cs _ w' (hs.keep kk) h1.1 h1.2 k hm hrs
  have KG20 := Lib.hid fun g c1 AS ms cs w' (h : Draft w' g n (scF b (Wm.ofS data) l).1) (k : Sl w' 4 AS ms (Ps ((tos l).map ro))) (hm : ((tos l).map ro).length = ms) => pgather_any (some ⟨g, 0, none⟩) n c1 _ AS ms cs _ w' h.sl h1.1 h1.2 k hm hrs
  have HCA := Lib.hid fun h => carried (b := b) (D := Wm.ofS data) (l := l) hfit h
  rw [gat_ro] at KG1 KG20
  obtain ⟨X, hX⟩ : ∃ X', X' = (scF b (Wm.ofS data) l).1 := ⟨_, rfl⟩
  obtain ⟨N, hN⟩ : ∃ X', X' = (scF b (Wm.ofS data) l).2 := ⟨_, rfl⟩
  obtain ⟨R1, hR1⟩ : ∃ X', X' = Rg.room l := ⟨_, rfl⟩
  obtain ⟨s1, hs1⟩ : ∃ s, s = strOfNums (gw b (tos l)) := ⟨_, rfl⟩
  rw [← hX, ← hN] at KSC HCA
  rw [← hX] at KG20
  rw [← hR1] at KRM HCA
  rw [← hs1] at KG1
  have HS1 := Lib.hid hs1
  have HE := Lib.hid hsm.2
  have d1 : decide ((3000 : Int) < (data.size : Int)) = false := decide_eq_false (by omega)
  have hqs : (i % S) = q := hq.symm
  have cS := wrap64 S (by omega) (by omega)
  have ci := wrap64 i hi0 (by omega)
  have hz0 : ¬ S = 0 := by omega
  clear hq hl hE1 hX0 hX hN hR1 hs1 hfit hrs hs hb hB hS hok hL hSS hg h1 hsm
  have b4 : Blk _ w.heap.size 24 ([.slice A n c]) := ((Blk.new' w w.heap.size 24 ([.slice A n c]).toArray ([.slice A n c]) (by simp) rfl).alloc (.cells ([.int .u32 B, .int .u32 S]).toArray 27))
  have b5 : Blk _ (w.heap.size + 1) 27 ([.int .u32 B, .int .u32 S]) := (Blk.new' (w.alloc (.cells ([.slice A n c]).toArray 24)) (w.heap.size + 1) 27 ([.int .u32 B, .int .u32 S]).toArray ([.int .u32 B, .int .u32 S]) (by simp) rfl)
  have lw := ((later1 w (.cells ([.slice A n c]).toArray 24)).alloc (by simp; try omega) (.cells ([.int .u32 B, .int .u32 S]).toArray 27))
  obtain ⟨u0, hu⟩ : ∃ u, ((w.alloc (.cells ([.slice A n c]).toArray 24)).alloc (.cells ([.int .u32 B, .int .u32 S]).toArray 27)) = u := ⟨_, rfl⟩
  rw [hu] at b4 b5 lw
  go_enter Try.func8, Try.ntmps8
  go_upto_region 1 with fail
  have hu2 : ((w.alloc (.cells #[.slice A n c] 24)).alloc (.cells #[.int .u32 B, .int .u32 S] 27)) = u0 := hu
  try rw [hu2]
  clear hu hu2
  go_upto_region 3 with (first
    | ((with_reducible refine wpList_load_blk (o := ⟨some 21, .load 24 (.tmp 4), _, _, _, none⟩) rfl _ _ rfl w.heap.size 24 ([.slice A n c]) _ ?_ ?_ Try.underlying24 rfl memS ?_); rfl; exact b4)
    | ((with_reducible refine wpList_load_blk (o := ⟨some 22, .load 27 (.tmp 5), _, _, _, none⟩) rfl _ _ rfl (w.heap.size + 1) 27 ([.int .u32 B, .int .u32 S]) _ ?_ ?_ Try.underlying27 rfl ring_sz ?_); rfl; exact b5)
    | (go_at_call 13; (with_reducible refine (KT.out _).mono ?_); rintro e w1 ⟨rfl, l1⟩; replace b4 := b4.keep l1; replace b5 := b5.keep l1; replace lw := Later.trans_ lw l1))
  try simp only [Act.put]
  obtain ⟨w8, hw8⟩ : ∃ v, v = w1 := ⟨_, rfl⟩
  rw [← hw8] at b4 b5 lw ⊢
  clear hw8
  have hw3 := b4.lt
  go_cut [10] (fun q10 wx => ∃ AP mp cp, q10 = .slice AP mp cp ∧ Sl wx 4 AP mp (Ps l) ∧ Hid (l.length = mp) ∧ Later w8 wx)
  case first => as_aux_lemma =>
    have lx : Later w8 w8.drew := (later0 _).drew
    replace b4 := b4.drew
    replace b5 := b5.drew
    refine wp_region_held_drew (S := fun w' => World.rangeAt w' w.heap.size 0 [.slice A n c] ∧ World.rangeAt w' (w.heap.size + 1) 0 [.int .u32 B, .int .u32 S]) (by kernel_rfl) ⟨b4.range 0 1, b5.range 0 2⟩ (fun hHeld => ?_)
    refine wpAnyH_take (i := 0) (oi := ⟨some 32, .load 24 (.tmp 4), _, _, _, none⟩) (v := .agg ([.slice A n c]).toArray) rfl (by kernel_rfl) (by kernel_rfl) (by kernel_rfl) (fun _ _ _ h => h) (yieldsIf_load_mid (by rfl) _ _ rfl w.heap.size 0 rfl ([.slice A n c]) _ (fun wz hSw => hSw.1) Try.underlying24 rfl memS) hHeld ?_
    simp only [Act.put, List.setIfInBounds_toArray, List.set_cons_zero, List.set_cons_succ]
    refine wpAnyH_take (i := 1) (oi := ⟨some 33, .load 27 (.tmp 5), _, _, _, none⟩) (v := .agg ([.int .u32 B, .int .u32 S]).toArray) rfl (by kernel_rfl) (by kernel_rfl) (by kernel_rfl) (fun _ _ _ h => h) (yieldsIf_load_mid (by rfl) _ _ rfl (w.heap.size + 1) 0 rfl ([.int .u32 B, .int .u32 S]) _ (fun wz hSw => hSw.2) Try.underlying27 rfl ring_sz) hHeld ?_
    simp only [Act.put, List.setIfInBounds_toArray, List.set_cons_zero, List.set_cons_succ]
    refine wpAnyH_take (i := 2) (oi := ⟨some 34, .move (.tmp 2), _, _, _, none⟩) (v := .int .u8 i) rfl (by kernel_rfl) (by kernel_rfl) (by kernel_rfl) (fun _ _ _ h => h) (Or.inl ⟨by rfl, fun _ _ => rfl⟩) hHeld ?_
    simp only [Act.put, List.setIfInBounds_toArray, List.set_cons_zero, List.set_cons_succ]
    refine wpAnyH_take (i := 3) (oi := ⟨some 35, .convert 5 3 (.tmp 34), _, _, _, none⟩) (v := .int .i64 i) rfl (by kernel_rfl) (by kernel_rfl) (by kernel_rfl) (fun _ _ _ h => h) (Or.inl ⟨by rfl, fun w _ => by go_simp⟩) hHeld ?_
    simp only [Act.put, List.setIfInBounds_toArray, List.set_cons_zero, List.set_cons_succ]
    refine wpAnyH_take (i := 4) (oi := ⟨some 36, .fieldAddr 27 (.tmp 5) 1, _, _, _, none⟩) (v := .pointer (some ⟨(w.heap.size + 1), 1, none⟩)) rfl (by kernel_rfl) (by kernel_rfl) (by kernel_rfl) (fun _ _ _ h => h) (Or.inl ⟨by rfl, fun w _ => by go_simp⟩) hHeld ?_
    simp only [Act.put, List.setIfInBounds_toArray, List.set_cons_zero, List.set_cons_succ]
    refine wpAnyH_take (i := 5) (oi := ⟨some 37, .load 25 (.tmp 36), _, _, _, none⟩) (v := .int .u32 S) rfl (by kernel_rfl) (by kernel_rfl) (by kernel_rfl) (fun _ _ _ h => h) (Or.inl ⟨by rfl, fun wz hSw => by have e1 : wz.cell? ⟨(w.heap.size + 1), 1, none⟩ = some (.int .u32 S) := hSw.2 1 _ rfl; clear hSw; go_simp⟩) hHeld ?_
    simp only [Act.put, List.setIfInBounds_toArray, List.set_cons_zero, List.set_cons_succ]
    refine wpAnyH_take (i := 6) (oi := ⟨some 38, .convert 25 3 (.tmp 37), _, _, _, none⟩) (v := .int .i64 S) rfl (by kernel_rfl) (by kernel_rfl) (by kernel_rfl) (fun _ _ _ h => h) (Or.inl ⟨by rfl, fun w _ => by go_simp⟩) hHeld ?_
    simp only [Act.put, List.setIfInBounds_toArray, List.set_cons_zero, List.set_cons_succ]
    refine wpAnyH_take (i := 7) (oi := ⟨some 39, .binOp .rem 3 (.tmp 35) (.tmp 38) 3, _, _, _, none⟩) (v := .int .i64 q) rfl (by kernel_rfl) (by kernel_rfl) (by kernel_rfl) (fun _ _ _ h => h) (Or.inl ⟨by rfl, fun w _ => by go_simp⟩) hHeld ?_
    simp only [Act.put, List.setIfInBounds_toArray, List.set_cons_zero, List.set_cons_succ]
    refine wpAnyH_ready (rs := [8, 13]) (by kernel_rfl) (by simp) (AllReadyH.cons (o := ⟨some 40, .call { callee := .value (.func 15), args := #[.tmp 32, .tmp 33, .tmp 39], argTypes := #[24, 27, 3] }, _, _, _, none⟩) rfl (fun K' hK => ?_) (AllReadyH.cons (o := ⟨some 9, .alloc 24, _, _, _, none⟩) rfl (fun K' hK => ?_) AllReadyH.nil))
    · go_simp
      (with_reducible refine (KTK.out _ (Later.trans_ lw lx)).mono ?_)
      rintro e u7 ⟨g, c1, AP, mp, cp, rfl, _, _, _, _, _, _, sP, hpl, l7⟩
      replace b4 := b4.keep l7
      replace b5 := b5.keep l7
      replace lx := Later.trans_ lx l7
      refine hK.out _ _ ⟨b4.range 0 1, b5.range 0 2⟩ (fun hHeld => ?_)
      clear hK K'
      try simp only [Act.put, List.setIfInBounds_toArray, List.set_cons_zero, List.set_cons_succ]
      refine wpAnyH_take (i := 9) (oi := ⟨some 31, .move (.tmp 40), _, _, _, none⟩) (v := .tuple #[.agg #[.slice (some ⟨g, 0, none⟩) n c1], .slice AP mp cp, .int .i64 E1]) rfl (by kernel_rfl) (by kernel_rfl) (by kernel_rfl) (fun _ _ _ h => h) (Or.inl ⟨by rfl, fun _ _ => rfl⟩) hHeld ?_
      simp only [Act.put, List.setIfInBounds_toArray, List.set_cons_zero, List.set_cons_succ]
      refine wpAnyH_take (i := 10) (oi := ⟨some 41, .extract (.tmp 31) 0, _, _, _, none⟩) (v := .agg #[.slice (some ⟨g, 0, none⟩) n c1]) rfl (by kernel_rfl) (by kernel_rfl) (by kernel_rfl) (fun _ _ _ h => h) (Or.inl ⟨by rfl, fun w _ => by go_simp⟩) hHeld ?_
      simp only [Act.put, List.setIfInBounds_toArray, List.set_cons_zero, List.set_cons_succ]
      refine wpAnyH_take (i := 11) (oi := ⟨some 42, .extract (.tmp 31) 1, _, _, _, none⟩) (v := .slice AP mp cp) rfl (by kernel_rfl) (by kernel_rfl) (by kernel_rfl) (fun _ _ _ h => h) (Or.inl ⟨by rfl, fun w _ => by go_simp⟩) hHeld ?_
      simp only [Act.put, List.setIfInBounds_toArray, List.set_cons_zero, List.set_cons_succ]
      refine wpAnyH_take (i := 12) (oi := ⟨some 43, .extract (.tmp 31) 2, _, _, _, none⟩) (v := .int .i64 E1) rfl (by kernel_rfl) (by kernel_rfl) (by kernel_rfl) (fun _ _ _ h => h) (Or.inl ⟨by rfl, fun w _ => by go_simp⟩) hHeld ?_
      simp only [Act.put, List.setIfInBounds_toArray, List.set_cons_zero, List.set_cons_succ]
      refine wpAnyH_ready (rs := [13]) (by kernel_rfl) (by simp) (AllReadyH.cons (o := ⟨some 9, .alloc 24, _, _, _, none⟩) rfl (fun K' hK => ?_) AllReadyH.nil)
      refine wp_new_mm rfl fun ua G9 b9 la9 hG9 => ?_
      have f9 := Nat.le_trans lx.size hG9
      replace b4 := b4.keep la9
      replace b5 := b5.keep la9
      replace sP := sP.keep la9
      replace lx := Later.trans_ lx la9
      have hb49 : w.heap.size ≠ G9 := Nat.ne_of_lt (Nat.lt_of_lt_of_le hw3 f9)
      refine hK.out _ _ ⟨b4.range 0 1, b5.range 0 2⟩ (fun hHeld => ?_)
      clear hK K'
      try simp only [Act.put, List.setIfInBounds_toArray, List.set_cons_zero, List.set_cons_succ]
      refine wpAnyH_ready (rs := [14]) (by kernel_rfl) (by simp) (AllReadyH.cons (o := ⟨none, .store 24 (.tmp 9) (.tmp 41), _, _, _, none⟩) rfl (fun K' hK => ?_) AllReadyH.nil)
      refine wp_store_blk 24 _ _ rfl G9 24 [.slice none 0 0] ([.slice (some ⟨g, 0, none⟩) n c1]) rfl rfl b9 memS rfl (one1 rfl) ?_
      intro wq bq oq
      replace b5 := b5.only oq (blk_ne b5 b9 (by decide))
      replace b4 := b4.only oq hb49
      replace sP := sP.lx (Lx.only oq) (fun hm ad e => by subst e; exact sl_ne sP hm b9 (Nat.succ_pos _) (show 1 < 4 from by decide))
      replace lx := Below.only lx oq f9
      clear b9 bq oq
      refine hK.out _ _ ⟨b4.range 0 1, b5.range 0 2⟩ (fun hHeld => ?_)
      clear hK K'
      try simp only [Act.put]
      refine wpAnyH_take (i := 15) (oi := ⟨some 10, .assign (.tmp 42), _, _, _, none⟩) (v := .slice AP mp cp) rfl (by kernel_rfl) (by kernel_rfl) (by kernel_rfl) (fun _ _ _ h => h) (Or.inl ⟨by rfl, fun _ _ => rfl⟩) hHeld ?_
      simp only [Act.put, List.setIfInBounds_toArray, List.set_cons_zero, List.set_cons_succ]
      refine wpAnyH_take (i := 16) (oi := ⟨some 11, .assign (.tmp 43), _, _, _, none⟩) (v := .int .i64 E1) rfl (by kernel_rfl) (by kernel_rfl) (by kernel_rfl) (fun _ _ _ h => h) (Or.inl ⟨by rfl, fun _ _ => rfl⟩) hHeld ?_
      simp only [Act.put, List.setIfInBounds_toArray, List.set_cons_zero, List.set_cons_succ]
      refine wpAnyH_done (by kernel_rfl) ?_ _
      clear hHeld
      go_wp2
      go_meet
      exact ⟨AP, mp, cp, rfl, sP, Lib.hid hpl, lx⟩
    · refine wp_new_mm rfl fun ua G9 b9 la9 hG9 => ?_
      have f9 := Nat.le_trans lx.size hG9
      replace b4 := b4.keep la9
      replace b5 := b5.keep la9
      replace lx := Later.trans_ lx la9
      have hb49 : w.heap.size ≠ G9 := Nat.ne_of_lt (Nat.lt_of_lt_of_le hw3 f9)
      refine hK.out _ _ ⟨b4.range 0 1, b5.range 0 2⟩ (fun hHeld => ?_)
      clear hK K'
      try simp only [Act.put, List.setIfInBounds_toArray, List.set_cons_zero, List.set_cons_succ]
      refine wpAnyH_ready (rs := [8]) (by kernel_rfl) (by simp) (AllReadyH.cons (o := ⟨some 40, .call { callee := .value (.func 15), args := #[.tmp 32, .tmp 33, .tmp 39], argTypes := #[24, 27, 3] }, _, _, _, none⟩) rfl (fun K' hK => ?_) AllReadyH.nil)
      go_simp
      (with_reducible refine (KTK.out _ (Later.trans_ lw lx)).mono ?_)
      rintro e u7 ⟨g, c1, AP, mp, cp, rfl, _, _, _, _, _, _, sP, hpl, l7⟩
      replace b4 := b4.keep l7
      replace b5 := b5.keep l7
      replace b9 := b9.keep l7
      replace lx := Later.trans_ lx l7
      refine hK.out _ _ ⟨b4.range 0 1, b5.range 0 2⟩ (fun hHeld => ?_)
      clear hK K'
      try simp only [Act.put, List.setIfInBounds_toArray, List.set_cons_zero, List.set_cons_succ]
      refine wpAnyH_take (i := 9) (oi := ⟨some 31, .move (.tmp 40), _, _, _, none⟩) (v := .tuple #[.agg #[.slice (some ⟨g, 0, none⟩) n c1], .slice AP mp cp, .int .i64 E1]) rfl (by kernel_rfl) (by kernel_rfl) (by kernel_rfl) (fun _ _ _ h => h) (Or.inl ⟨by rfl, fun _ _ => rfl⟩) hHeld ?_
      simp only [Act.put, List.setIfInBounds_toArray, List.set_cons_zero, List.set_cons_succ]
      refine wpAnyH_take (i := 10) (oi := ⟨some 41, .extract (.tmp 31) 0, _, _, _, none⟩) (v := .agg #[.slice (some ⟨g, 0, none⟩) n c1]) rfl (by kernel_rfl) (by kernel_rfl) (by kernel_rfl) (fun _ _ _ h => h) (Or.inl ⟨by rfl, fun w _ => by go_simp⟩) hHeld ?_
      simp only [Act.put, List.setIfInBounds_toArray, List.set_cons_zero, List.set_cons_succ]
      refine wpAnyH_take (i := 11) (oi := ⟨some 42, .extract (.tmp 31) 1, _, _, _, none⟩) (v := .slice AP mp cp) rfl (by kernel_rfl) (by kernel_rfl) (by kernel_rfl) (fun _ _ _ h => h) (Or.inl ⟨by rfl, fun w _ => by go_simp⟩) hHeld ?_
      simp only [Act.put, List.setIfInBounds_toArray, List.set_cons_zero, List.set_cons_succ]
      refine wpAnyH_take (i := 12) (oi := ⟨some 43, .extract (.tmp 31) 2, _, _, _, none⟩) (v := .int .i64 E1) rfl (by kernel_rfl) (by kernel_rfl) (by kernel_rfl) (fun _ _ _ h => h) (Or.inl ⟨by rfl, fun w _ => by go_simp⟩) hHeld ?_
      simp only [Act.put, List.setIfInBounds_toArray, List.set_cons_zero, List.set_cons_succ]
      refine wpAnyH_ready (rs := [14]) (by kernel_rfl) (by simp) (AllReadyH.cons (o := ⟨none, .store 24 (.tmp 9) (.tmp 41), _, _, _, none⟩) rfl (fun K' hK => ?_) AllReadyH.nil)
      refine wp_store_blk 24 _ _ rfl G9 24 [.slice none 0 0] ([.slice (some ⟨g, 0, none⟩) n c1]) rfl rfl b9 memS rfl (one1 rfl) ?_
      intro wq bq oq
      replace b5 := b5.only oq (blk_ne b5 b9 (by decide))
      replace b4 := b4.only oq hb49
      replace sP := sP.lx (Lx.only oq) (fun hm ad e => by subst e; exact sl_ne sP hm b9 (Nat.succ_pos _) (show 1 < 4 from by decide))
      replace lx := Below.only lx oq f9
      clear b9 bq oq
      refine hK.out _ _ ⟨b4.range 0 1, b5.range 0 2⟩ (fun hHeld => ?_)
      clear hK K'
      try simp only [Act.put]
      refine wpAnyH_take (i := 15) (oi := ⟨some 10, .assign (.tmp 42), _, _, _, none⟩) (v := .slice AP mp cp) rfl (by kernel_rfl) (by kernel_rfl) (by kernel_rfl) (fun _ _ _ h => h) (Or.inl ⟨by rfl, fun _ _ => rfl⟩) hHeld ?_
      simp only [Act.put, List.setIfInBounds_toArray, List.set_cons_zero, List.set_cons_succ]
      refine wpAnyH_take (i := 16) (oi := ⟨some 11, .assign (.tmp 43), _, _, _, none⟩) (v := .int .i64 E1) rfl (by kernel_rfl) (by kernel_rfl) (by kernel_rfl) (fun _ _ _ h => h) (Or.inl ⟨by rfl, fun _ _ => rfl⟩) hHeld ?_
      simp only [Act.put, List.setIfInBounds_toArray, List.set_cons_zero, List.set_cons_succ]
      refine wpAnyH_done (by kernel_rfl) ?_ _
      clear hHeld
      go_wp2
      go_meet
      exact ⟨AP, mp, cp, rfl, sP, Lib.hid hpl, lx⟩
  case rest =>
    obtain ⟨AP, mp, cp, rfl, sP, hpl, lx⟩ := hcut
    replace b4 := b4.keep lx
    replace lw := Later.trans_ lw lx
    clear lx hw3 b5
    obtain ⟨wz, hwz⟩ : ∃ v, v = wc := ⟨_, rfl⟩
    rw [← hwz] at b4 sP lw ⊢
    clear hwz
    clear ht hqs cS ci hq2 hz0 d1 KT KTK
    go_upto_region 5 with fail
    go_wp2
    go_loopw [12, 46] (fun s v wr => ∃ k m2 : Nat, k ≤ mp ∧ v = .int .i64 (k : Int) ∧ wr.ownsRow wz.heap.size 59 4 s m2 (Ps ((tos (l.take k)).map ro)) ∧ Hid (m2 = (tos (l.take k)).length) ∧ Hid ((tos (l.take k)).Pairwise Dj) ∧ Later wz wr) (fun _ v _ => mp - (intOf v).toNat)
    case atStart => exact ⟨0, 0, Nat.zero_le _, rfl, World.ownsRow_nil _ _ _ _, Lib.hid rfl, Lib.hid List.Pairwise.nil, later0 _⟩
    case round =>
      rename_i wr
      obtain ⟨k, m2, hk, rfl, ho, hm2, HPW, lr⟩ := hrel
      obtain ⟨A2, c2, rfl, _, _, hsl2, _⟩ := own_form ho
      by_cases hlt : k < mp
      · have hkl : k < l.length := by rw [hpl.out]; exact hlt
        obtain ⟨ad, hA⟩ := sP.addr (by omega)
        subst hA
        have HC := Lib.hid fun w' (h : Sl w' 4 (some ad) mp (Ps l)) => h.ptAt hkl hpl.out
        have HS20 := tos_succ l hkl
        obtain ⟨z1, z2, z3, z4⟩ := HE.out _ (List.getElem_mem hkl)
        have kn : (k : Int) < (mp : Int) := by omega
        have hml : (tos (l.take k)).length ≤ k := Nat.le_trans (List.length_filter_le _ _) (by rw [List.length_take]; omega)
        obtain ⟨q1, hq1⟩ : ∃ q, q = l[k] := ⟨_, rfl⟩
        rw [← hq1] at HC HS20 z1 z2 z3 z4
        clear hq1
        have hkm : k ≤ 4 ∧ m2 ≤ 4 := by have := hm2.out; have := hpl.out; omega
        cases hw : q1.2.2.2
        · have HS2 := Lib.hid (show tos (l.take (k + 1)) = tos (l.take k) from by rw [HS20, hw]; rfl)
          clear HS20 hml hsl2
          go_wp2_with (first
      | ((with_reducible refine wpList_load_addr (o := ⟨some 49, .load 59 (.tmp 48), _, _, _, none⟩) rfl _ _ rfl (ad.add (k * 4)) (Pc q1) _ ?_ (HC.out _ (sP.keep lr)) Try.underlying59 rfl (pt_sz _) ?_); rfl)
      | ((with_reducible refine wpList_store_abs (o := ⟨none, .store 59 (.tmp 14) (.tmp 49), _, _, _, none⟩) rfl _ _ _ rfl wr.heap.size 59 ([.int .i64 0, .int .i64 0, .int .i64 0, .bool false]) (Pc q1) ?_ ?_ ?_ ?_ ?_ ?_ ?_); rfl; rfl; exact (Blk.new _ _ _ _ rfl); exact (pt_sz _); rfl; exact (pt_one _); intro w2 b14 o14; have l2 := Below.only (later1 wr (.cells #[.int .i64 0, .int .i64 0, .int .i64 0, .bool false] 59)) o14 (Nat.le_refl _); replace ho := own_below ho l2; replace lr := Later.trans_ lr l2; clear l2 o14; have f14 := b14.cell (j := 3) (v := .bool q1.2.2.2) rfl; rw [hw] at f14))
          go_roundw
          case rel => exact ⟨k + 1, m2, by omega, by go_num, by (rw [HS2.out]; exact ho), Lib.hid (by rw [HS2.out]; exact hm2.out), Lib.hid (by rw [HS2.out]; exact HPW.out), lr⟩
          case measure => simp [intOf]; omega
        · have HS2 := Lib.hid (show tos (l.take (k + 1)) = tos (l.take k) ++ [q1] from by rw [HS20, hw]; rfl)
          clear HS20 hml hsl2
          have HE20 : ∀ p ∈ (tos (l.take k)).map ro, 1 ≤ p.2.2.1 ∧ p.2.2.1 ≤ 512 ∧ 0 ≤ p.2.1 ∧ p.2.1 ≤ 8192 := by
            intro p hp
            obtain ⟨x, hx, rfl⟩ := List.mem_map.1 hp
            exact HE.out x (List.mem_of_mem_take (List.mem_filter.1 hx).1)
          have HL20 : ((tos (l.take k)).map ro).length = m2 := by rw [List.length_map, ← hm2.out]
          obtain ⟨L2, hL2⟩ : ∃ L, (tos (l.take k)).map ro = L := ⟨_, rfl⟩
          rw [hL2] at ho HE20 HL20
          have HLL2 := Lib.hid hL2
          have HE2 := Lib.hid HE20
          have HL2 := Lib.hid HL20
          clear hL2 HE20 HL20
          go_upto_region 9 with (first
      | ((with_reducible refine wpList_load_addr (o := ⟨some 49, .load 59 (.tmp 48), _, _, _, none⟩) rfl _ _ rfl (ad.add (k * 4)) (Pc q1) _ ?_ (HC.out _ (sP.keep lr)) Try.underlying59 rfl (pt_sz _) ?_); rfl)
      | ((with_reducible refine wpList_store_abs (o := ⟨none, .store 59 (.tmp 14) (.tmp 49), _, _, _, none⟩) rfl _ _ _ rfl wr.heap.size 59 ([.int .i64 0, .int .i64 0, .int .i64 0, .bool false]) (Pc q1) ?_ ?_ ?_ ?_ ?_ ?_ ?_); rfl; rfl; exact (Blk.new _ _ _ _ rfl); exact (pt_sz _); rfl; exact (pt_one _); intro w2 b14 o14; have l2 := Below.only (later1 wr (.cells #[.int .i64 0, .int .i64 0, .int .i64 0, .bool false] 59)) o14 (Nat.le_refl _); replace ho := own_below ho l2; replace lr := Later.trans_ lr l2; clear l2 o14; have f14 := b14.cell (j := 3) (v := .bool q1.2.2.2) rfl; rw [hw] at f14))
          clear f14
          obtain ⟨G14, hG14⟩ : ∃ g, g = wr.heap.size := ⟨_, rfl⟩
          rw [← hG14] at b14 ⊢
          clear hG14
          go_wp2
          go_loopw [55] (fun v wr => ∃ j : Nat, j ≤ m2 ∧ v = .int .i64 (j : Int) ∧ wr.ownsRow wz.heap.size 59 4 (.slice A2 m2 c2) m2 (Ps L2) ∧ Blk wr G14 59 (Pc q1) ∧ Hid (∀ p ∈ L2.take j, Dj p q1) ∧ Later wz wr) (fun v _ => m2 - (intOf v).toNat)
          case atStart => exact ⟨0, Nat.zero_le _, rfl, ho, b14, Lib.hid (fun p hp => by cases hp), lr⟩
          case round =>
            clear ho b14 lr
            obtain ⟨j, hj, rfl, ho, b14, HJ, lr⟩ := hrel
            by_cases hjm : j < m2
            · have hjl : j < L2.length := by rw [HL2.out]; exact hjm
              obtain ⟨ae, hA⟩ := (Sl.own ho).addr (by omega)
              subst hA
              have HCj := Lib.hid ((Sl.own ho).ptAt hjl HL2.out)
              obtain ⟨s1, s2, s3, s4⟩ := HE2.out _ (List.getElem_mem hjl)
              have hdj0 : ∀ h : Dj L2[j] q1, Dj L2[j] q1 := fun h => h
              have hLj := Lib.hid (show L2[j] = L2[j] from rfl)
              obtain ⟨p, hp⟩ : ∃ p, p = L2[j] := ⟨_, rfl⟩
              rw [← hp] at HCj s1 s2 s3 s4
              have HP := Lib.hid hp
              clear hp hdj0 hLj
              have jn : (j : Int) < (m2 : Int) := by omega
              have cw1 : IntKind.i64.wrap (q1.2.1 + q1.2.2.1) = q1.2.1 + q1.2.2.1 := wrap64 _ (by omega) (by omega)
              have cw2 : IntKind.i64.wrap (p.2.1 + p.2.2.1) = p.2.1 + p.2.2.1 := wrap64 _ (by omega) (by omega)
              by_cases c1 : p.2.1 < q1.2.1 + q1.2.2.1
              · by_cases c2 : q1.2.1 < p.2.1 + p.2.2.1
                · go_wp2_with (first
            | ((with_reducible refine wpList_load_addr (o := ⟨some 58, .load 59 (.tmp 57), _, _, _, none⟩) rfl _ _ rfl (ae.add (j * 4)) (Pc p) _ ?_ HCj.out Try.underlying59 rfl (pt_sz _) ?_); rfl)
            | ((with_reducible refine wpList_store_abs (o := ⟨none, .store 59 (.tmp 16) (.tmp 58), _, _, _, none⟩) rfl _ _ _ rfl wr.heap.size 59 ([.int .i64 0, .int .i64 0, .int .i64 0, .bool false]) (Pc p) ?_ ?_ ?_ ?_ ?_ ?_ ?_); rfl; rfl; exact (Blk.new _ _ _ _ rfl); exact (pt_sz _); rfl; exact (pt_one _); intro w4 b16 o16; have l4 := Below.only (later1 wr (.cells #[.int .i64 0, .int .i64 0, .int .i64 0, .bool false] 59)) o16 (Nat.le_refl _); replace ho := own_below ho l4; replace b14 := b14.keep l4; replace lr := Later.trans_ lr l4; clear l4 o16; have a1 := b14.cell (j := 1) (v := .int .i64 q1.2.1) rfl; have a2 := b14.cell (j := 2) (v := .int .i64 q1.2.2.1) rfl; have a3 := b16.cell (j := 1) (v := .int .i64 p.2.1) rfl; have a4 := b16.cell (j := 2) (v := .int .i64 p.2.2.1) rfl)
            | (go_at_call 10; (with_reducible refine (KN.out _).mono ?_); rintro e y9 ⟨rfl, l9⟩; replace lr := Later.trans_ lr l9))
                  go_ret
                  exact ⟨rfl, Later.trans_ lw lr⟩
                · have hdj : Dj L2[j] q1 := by rw [← HP.out]; unfold Dj; omega
                  clear HP
                  go_wp2_with (first
                    | ((with_reducible refine wpList_load_addr (o := ⟨some 58, .load 59 (.tmp 57), _, _, _, none⟩) rfl _ _ rfl (ae.add (j * 4)) (Pc p) _ ?_ HCj.out Try.underlying59 rfl (pt_sz _) ?_); rfl)
                    | ((with_reducible refine wpList_store_abs (o := ⟨none, .store 59 (.tmp 16) (.tmp 58), _, _, _, none⟩) rfl _ _ _ rfl wr.heap.size 59 ([.int .i64 0, .int .i64 0, .int .i64 0, .bool false]) (Pc p) ?_ ?_ ?_ ?_ ?_ ?_ ?_); rfl; rfl; exact (Blk.new _ _ _ _ rfl); exact (pt_sz _); rfl; exact (pt_one _); intro w4 b16 o16; have l4 := Below.only (later1 wr (.cells #[.int .i64 0, .int .i64 0, .int .i64 0, .bool false] 59)) o16 (Nat.le_refl _); replace ho := own_below ho l4; replace b14 := b14.keep l4; replace lr := Later.trans_ lr l4; clear l4 o16; have a1 := b14.cell (j := 1) (v := .int .i64 q1.2.1) rfl; have a2 := b14.cell (j := 2) (v := .int .i64 q1.2.2.1) rfl; have a3 := b16.cell (j := 1) (v := .int .i64 p.2.1) rfl; have a4 := b16.cell (j := 2) (v := .int .i64 p.2.2.1) rfl))
                  go_roundw
                  case rel => exact ⟨j + 1, by omega, by go_num, ho, b14, Lib.hid (dj_succ HJ.out hjl hdj), lr⟩
                  case measure => simp [intOf]; omega
              · have hdj : Dj L2[j] q1 := by rw [← HP.out]; unfold Dj; omega
                clear HP
                go_wp2_with (first
                  | ((with_reducible refine wpList_load_addr (o := ⟨some 58, .load 59 (.tmp 57), _, _, _, none⟩) rfl _ _ rfl (ae.add (j * 4)) (Pc p) _ ?_ HCj.out Try.underlying59 rfl (pt_sz _) ?_); rfl)
                  | ((with_reducible refine wpList_store_abs (o := ⟨none, .store 59 (.tmp 16) (.tmp 58), _, _, _, none⟩) rfl _ _ _ rfl wr.heap.size 59 ([.int .i64 0, .int .i64 0, .int .i64 0, .bool false]) (Pc p) ?_ ?_ ?_ ?_ ?_ ?_ ?_); rfl; rfl; exact (Blk.new _ _ _ _ rfl); exact (pt_sz _); rfl; exact (pt_one _); intro w4 b16 o16; have l4 := Below.only (later1 wr (.cells #[.int .i64 0, .int .i64 0, .int .i64 0, .bool false] 59)) o16 (Nat.le_refl _); replace ho := own_below ho l4; replace b14 := b14.keep l4; replace lr := Later.trans_ lr l4; clear l4 o16; have a1 := b14.cell (j := 1) (v := .int .i64 q1.2.1) rfl; have a2 := b14.cell (j := 2) (v := .int .i64 q1.2.2.1) rfl; have a3 := b16.cell (j := 1) (v := .int .i64 p.2.1) rfl; have a4 := b16.cell (j := 2) (v := .int .i64 p.2.2.1) rfl))
                go_roundw
                case rel => exact ⟨j + 1, by omega, by go_num, ho, b14, Lib.hid (dj_succ HJ.out hjl hdj), lr⟩
                case measure => simp [intOf]; omega
            · obtain rfl : j = m2 := by omega
              have nlt : ¬ ((j : Int) < (j : Int)) := by omega
              have HJ2 := Lib.hid (show ∀ p ∈ L2, Dj p q1 from by have := HJ.out; rwa [List.take_of_length_le (by rw [HL2.out]; exact Nat.le_refl _)] at this)
              clear HJ
              have a0 := b14.cell (j := 0) (v := .int .i64 q1.1) rfl
              have a1 := b14.cell (j := 1) (v := .int .i64 q1.2.1) rfl
              have a2 := b14.cell (j := 2) (v := .int .i64 q1.2.2.1) rfl
              go_wp2_with (first
            | ((with_reducible refine wpList_bld (o := ⟨some 86, .build 59 #[(0, .tmp 81), (1, .tmp 83), (2, .tmp 85)], _, _, _, none⟩) rfl _ #[(0, .tmp 81), (1, .tmp 83), (2, .tmp 85)] #[(0, .int .i64 q1.1), (1, .int .i64 q1.2.1), (2, .int .i64 q1.2.2.1)] (Pc (ro q1)).toArray rfl ?_ (run_ro _ _ _ _) ?_); rfl)
            | ((with_reducible refine wpList_build1 (o := ⟨some 87, .buildSlice 35 1 #[(0, .tmp 86)], _, _, _, none⟩) rfl _ 59 _ rfl (Pc (ro q1)).toArray i0' _ Try.underlying35 HI.out.1 HI.out.2.1 ?_ ?_ ?_ ?_ ?_); exact HI.out.2.2.1; exact (show 0 < 4 from by decide); exact (show 4 ≤ 16777216 from by decide); rfl; have bn := Blk.new wr 59 (Pc (ro q1)).toArray (Pc (ro q1)) rfl; replace ho := ho.alloc (.cells (Pc (ro q1)).toArray 59); replace lr := lr.alloc lr.size (.cells (Pc (ro q1)).toArray 59))
            | (at_builtin; refine wpList_append_lies _ rfl _ _ 35 rfl wz.heap.size 59 i0' (.agg #[.int .i64 0, .int .i64 0, .int .i64 0, .bool false]) 4 32 Try.underlying35 HI.out.1 HI.out.2.1 HI.out.2.2.1 HI.out.2.2.2 rfl (by decide) _ _ _ rfl ho ⟨wr.heap.size, 0, none⟩ 1 1 (Pc (ro q1)) rfl rfl (news_blk bn) (pt_one _) (by decide) (by unfold maxLen; omega) (by omega) lr.size _ rfl ?_; intro g5 cap5 w5 own5 grow5 hat5 hlt5; replace lr := lr.grown grow5 lr.size (fun b hb => (ho.lt b hb).1); clear ho bn hat5 grow5))
              go_roundw
              case rel => exact ⟨k + 1, j + 1, by omega, by go_num, by (rw [HS2.out, List.map_append, HLL2.out, List.map_cons, List.map_nil, Ps_snoc]; exact own5), Lib.hid (by rw [HS2.out, List.length_append, List.length_singleton, ← hm2.out]), Lib.hid (by rw [HS2.out, List.pairwise_append]; exact ⟨HPW.out, List.pairwise_singleton _ _, fun x hx y hy => by obtain rfl := List.mem_singleton.1 hy; exact (HJ2.out (ro x) (by rw [← HLL2.out]; exact List.mem_map_of_mem hx))⟩), lr⟩
              case measure => simp [intOf]; omega
      · obtain rfl : k = mp := by omega
        have nlt : ¬ ((k : Int) < (k : Int)) := by omega
        have hm3 := hm2.out
        have hpw := HPW.out
        rw [List.take_of_length_le (by rw [hpl.out]; exact Nat.le_refl _)] at ho hm3 hpw
        have HM := Lib.hid (show ((tos l).map ro).length = m2 from by rw [List.length_map, hm3])
        have hl2 := Sl.own ho
        clear hm2 HPW hm3 hsl2 ho
        obtain ⟨k1, k2, k3, k4⟩ := HCA.out hpw
        clear hpw
        replace b4 := b4.keep lr
        replace sP := sP.keep lr
        replace lw := Later.trans_ lw lr
        clear lr
        obtain ⟨s2, hs2⟩ : ∃ s, s = strOfNums (gw X (tos l)) := ⟨_, rfl⟩
        have hsz : s2.size = s1.size := by rw [hs2, HS1.out, str_len, str_len, k4, List.length_append, List.length_take, List.length_drop]; omega
        have hk2 : N ≤ data.size := by rw [← Wm.ofS_length]; exact k2
        have hk3 : N ≤ s1.size := by rw [HS1.out, str_len]; exact k3
        have HX0 := Lib.hid (show s2.extract 0 N = data.extract 0 N from by
          rw [hs2, k4, str_cut _ _ _ (by rw [List.length_append, List.length_take, List.length_drop]; omega) (Nat.zero_le _), List.drop_zero, Nat.sub_zero, List.take_append_of_le_length (by rw [List.length_take]; omega), List.take_take, Nat.min_self]
          have h := Wm.str_ofS (data.extract 0 N)
          rw [ofS_cut, List.drop_zero, Nat.sub_zero] at h
          exact h)
        have HX1 := Lib.hid (show s2.extract N s2.size = s1.extract N s1.size from by
          rw [hs2, HS1.out, k4, str_cut _ _ _ (by rw [str_len]; exact Nat.le_refl _) (by rw [str_len, List.length_append, List.length_take, List.length_drop]; omega), str_cut _ _ _ (by rw [str_len]; exact Nat.le_refl _) (by rw [str_len]; exact k3), str_len, str_len, List.drop_append_of_le_length (by rw [List.length_take]; omega), List.drop_of_length_le (l := (Wm.ofS data).take N) (by rw [List.length_take]; omega), List.nil_append]
          rw [List.take_of_length_le (by rw [List.length_append, List.length_take, List.length_drop]; omega), List.take_of_length_le (by rw [List.length_drop]; exact Nat.le_refl _)])
        have KG2 := Lib.hid fun g c1 AS ms cs w' (h : Draft w' g n X) (k : Sl w' 4 AS ms (Ps ((tos l).map ro))) (hm : ((tos l).map ro).length = ms) => (show Calls Try.prog 26 #[.agg #[.slice (some ⟨g, 0, none⟩) n c1], .slice AS ms cs] w' fun e w2 => e = .returned (.string s2) ∧ Later w' w2 from by
          have := KG20.out g c1 AS ms cs w' h k hm
          rw [← hs2] at this
          exact this)
        have HSZ := Lib.hid hsz
        have HMIN := Lib.hid (show min (data.size : Int) R1 = (N : Int) from by rw [k1, Wm.ofS_length])
        clear hs2 k1 k2 k3 k4
        go_upto_region 18 with (first
          | ((with_reducible refine wpList_load_blk (o := ⟨some 91, .load 24 (.tmp 4), _, _, _, none⟩) rfl _ _ rfl w.heap.size 24 ([.slice A n c]) _ ?_ ?_ Try.underlying24 rfl memS ?_); rfl; exact b4)
          | (go_at_call 24; (with_reducible refine (KSC.out AP k cp _ lw sP hpl.out).mono ?_); rintro e w3 ⟨g, c1, rfl, _, _, _, dX, l3⟩; replace b4 := b4.keep l3; replace sP := sP.keep l3; replace hl2 := hl2.keep l3; replace lw := Later.trans_ lw l3)
          | ((with_reducible refine wpList_store_abs (o := ⟨none, .store 24 (.tmp 17) (.tmp 95), _, _, _, none⟩) rfl _ _ _ rfl w3.heap.size 24 ([.slice none 0 0]) ([.slice (some ⟨g, 0, none⟩) n c1]) ?_ ?_ ?_ ?_ ?_ ?_ ?_); rfl; rfl; exact (Blk.new _ _ _ _ rfl); exact memS; rfl; exact (one1 rfl); intro w4 b17 o17; have l4 := Below.only (later1 w3 (.cells #[.slice none 0 0] 24)) o17 (Nat.le_refl _); replace b4 := b4.keep l4; replace sP := sP.keep l4; replace hl2 := hl2.keep l4; replace dX := dX.keep l4; replace lw := Later.trans_ lw l4; clear l4 o17))
        replace b4 := b4.drew
        replace b17 := b17.drew
        replace lw := lw.drew
        replace sP : Sl w4.drew 4 AP k (Ps l) := sP
        replace hl2 : Sl w4.drew 4 A2 m2 (Ps ((tos l).map ro)) := hl2
        replace dX : Draft w4.drew g n X := dX
        refine wp_region_held_drew (S := fun w' => World.rangeAt w' w.heap.size 0 [.slice A n c] ∧ World.rangeAt w' w3.heap.size 0 [.slice (some ⟨g, 0, none⟩) n c1]) (by kernel_rfl) ⟨b4.range 0 1, b17.range 0 1⟩ (fun hHeld => ?_)
        refine wpAnyH_take (i := 0) (oi := ⟨some 97, .load 24 (.tmp 4), _, _, _, none⟩) (v := .agg ([.slice A n c]).toArray) rfl (by kernel_rfl) (by kernel_rfl) (by kernel_rfl) (fun _ _ _ h => h) (yieldsIf_load_mid (by rfl) _ _ rfl w.heap.size 0 rfl ([.slice A n c]) _ (fun wz hSw => hSw.1) Try.underlying24 rfl memS) hHeld ?_
        simp only [Act.put, List.setIfInBounds_toArray, List.set_cons_zero, List.set_cons_succ]
        refine wpAnyH_take (i := 1) (oi := ⟨some 98, .move (.tmp 12), _, _, _, none⟩) (v := .slice A2 m2 c2) rfl (by kernel_rfl) (by kernel_rfl) (by kernel_rfl) (fun _ _ _ h => h) (Or.inl ⟨by rfl, fun _ _ => rfl⟩) hHeld ?_
        simp only [Act.put, List.setIfInBounds_toArray, List.set_cons_zero, List.set_cons_succ]
        refine wpAnyH_take (i := 3) (oi := ⟨some 100, .load 24 (.tmp 17), _, _, _, none⟩) (v := .agg ([.slice (some ⟨g, 0, none⟩) n c1]).toArray) rfl (by kernel_rfl) (by kernel_rfl) (by kernel_rfl) (fun _ _ _ h => h) (yieldsIf_load_mid (by rfl) _ _ rfl w3.heap.size 0 rfl ([.slice (some ⟨g, 0, none⟩) n c1]) _ (fun wz hSw => hSw.2) Try.underlying24 rfl memS) hHeld ?_
        simp only [Act.put, List.setIfInBounds_toArray, List.set_cons_zero, List.set_cons_succ]
        refine wpAnyH_take (i := 4) (oi := ⟨some 101, .move (.tmp 12), _, _, _, none⟩) (v := .slice A2 m2 c2) rfl (by kernel_rfl) (by kernel_rfl) (by kernel_rfl) (fun _ _ _ h => h) (Or.inl ⟨by rfl, fun _ _ => rfl⟩) hHeld ?_
        simp only [Act.put, List.setIfInBounds_toArray, List.set_cons_zero, List.set_cons_succ]
        refine wpAnyH_ready (rs := [2]) (by kernel_rfl) (by simp) (AllReadyH.cons (o := ⟨some 99, .call { callee := .value (.func 26), args := #[.tmp 97, .tmp 98], argTypes := #[24, 35] }, _, _, _, none⟩) rfl (fun K' hK => ?_) (AllReadyH.nil))
        go_simp
        (with_reducible refine (KG1.out A2 m2 c2 _ lw hl2 HM.out).mono ?_)
        rintro e v1 ⟨rfl, n1⟩
        replace b4 := b4.keep n1
        replace sP := sP.keep n1
        replace hl2 := hl2.keep n1
        replace dX := dX.keep n1
        replace b17 := b17.keep n1
        replace lw := Later.trans_ lw n1
        refine hK.out _ _ ⟨b4.range 0 1, b17.range 0 1⟩ (fun hHeld => ?_)
        clear hK K'
        try simp only [Act.put, List.setIfInBounds_toArray, List.set_cons_zero, List.set_cons_succ]
        refine wpAnyH_ready (rs := [5]) (by kernel_rfl) (by simp) (AllReadyH.cons (o := ⟨some 102, .call { callee := .value (.func 26), args := #[.tmp 100, .tmp 101], argTypes := #[24, 35] }, _, _, _, none⟩) rfl (fun K' hK => ?_) (AllReadyH.nil))
        go_simp
        (with_reducible refine (KG2.out g c1 A2 m2 c2 _ dX hl2 HM.out).mono ?_)
        rintro e v2 ⟨rfl, n2⟩
        replace b4 := b4.keep n2
        replace sP := sP.keep n2
        replace hl2 := hl2.keep n2
        replace dX := dX.keep n2
        replace b17 := b17.keep n2
        replace lw := Later.trans_ lw n2
        refine hK.out _ _ ⟨b4.range 0 1, b17.range 0 1⟩ (fun hHeld => ?_)
        clear hK K'
        try simp only [Act.put, List.setIfInBounds_toArray, List.set_cons_zero, List.set_cons_succ]
        refine wpAnyH_take (i := 6) (oi := ⟨some 19, .assign (.tmp 99), _, _, _, none⟩) (v := .string s1) rfl (by kernel_rfl) (by kernel_rfl) (by kernel_rfl) (fun _ _ _ h => h) (Or.inl ⟨by rfl, fun _ _ => rfl⟩) hHeld ?_
        simp only [Act.put, List.setIfInBounds_toArray, List.set_cons_zero, List.set_cons_succ]
        refine wpAnyH_take (i := 7) (oi := ⟨some 20, .assign (.tmp 102), _, _, _, none⟩) (v := .string s2) rfl (by kernel_rfl) (by kernel_rfl) (by kernel_rfl) (fun _ _ _ h => h) (Or.inl ⟨by rfl, fun _ _ => rfl⟩) hHeld ?_
        simp only [Act.put, List.setIfInBounds_toArray, List.set_cons_zero, List.set_cons_succ]
        refine wpAnyH_done (by kernel_rfl) ?_ _
        clear hHeld
        go_upto_region 19 with fail
        have hz1 : (s2.size : Int) = (s1.size : Int) := by rw [hsz]
        have hz2 : ((s2.size : Int) != (s1.size : Int)) = false := by rw [hz1]; simp
        have hmin := HMIN.out
        clear hsz
        go_upto_region 21 with (first
          | (go_at_call 28; (with_reducible refine (KRM.out AP k cp _ sP hpl.out).mono ?_); rintro e v4 ⟨rfl, n4⟩; replace b4 := b4.keep n4; replace sP := sP.keep n4; replace hl2 := hl2.keep n4; replace dX := dX.keep n4; replace b17 := b17.keep n4; replace lw := Later.trans_ lw n4))
        have hx0 := HX0.out
        have hx1 := HX1.out
        obtain ⟨x0, hx0'⟩ : ∃ x, x = data.extract 0 N := ⟨_, rfl⟩
        obtain ⟨x1, hx1'⟩ : ∃ x, x = s1.extract N s1.size := ⟨_, rfl⟩
        rw [← hx0'] at hx0
        rw [← hx1'] at hx1
        replace hx0' := hx0'.symm
        replace hx1' := hx1'.symm
        have hk4 : N ≤ s2.size := by rw [HSZ.out]; exact hk3
        replace b4 := b4.drew
        replace b17 := b17.drew
        replace lw := lw.drew
        replace sP : Sl v4.drew 4 AP k (Ps l) := sP
        replace hl2 : Sl v4.drew 4 A2 m2 (Ps ((tos l).map ro)) := hl2
        replace dX : Draft v4.drew g n X := dX
        refine wp_region_held_drew (S := fun w' => World.rangeAt w' w.heap.size 0 [.slice A n c] ∧ World.rangeAt w' w3.heap.size 0 [.slice (some ⟨g, 0, none⟩) n c1]) (by kernel_rfl) ⟨b4.range 0 1, b17.range 0 1⟩ (fun hHeld => ?_)
        refine wpAnyH_ready (rs := [0]) (by kernel_rfl) (by simp) (AllReadyH.cons (o := ⟨some 117, .call { callee := .value (.func 10), args := #[], argTypes := #[] }, _, _, _, none⟩) rfl (fun K' hK => ?_) (AllReadyH.nil))
        go_simp
        (with_reducible refine (KN.out _).mono ?_)
        rintro e v5 ⟨rfl, n5⟩
        replace b4 := b4.keep n5
        replace sP := sP.keep n5
        replace hl2 := hl2.keep n5
        replace dX := dX.keep n5
        replace b17 := b17.keep n5
        replace lw := Later.trans_ lw n5
        refine hK.out _ _ ⟨b4.range 0 1, b17.range 0 1⟩ (fun hHeld => ?_)
        clear hK K'
        try simp only [Act.put, List.setIfInBounds_toArray, List.set_cons_zero, List.set_cons_succ]
        refine wpAnyH_take (i := 1) (oi := ⟨some 118, .move (.tmp 117), _, _, _, none⟩) (v := .bool true) rfl (by kernel_rfl) (by kernel_rfl) (by kernel_rfl) (fun _ _ _ h => h) (Or.inl ⟨by rfl, fun _ _ => rfl⟩) hHeld ?_
        simp only [Act.put, List.setIfInBounds_toArray, List.set_cons_zero, List.set_cons_succ]
        refine wpAnyH_take (i := 2) (oi := ⟨some 119, .move (.tmp 20), _, _, _, _⟩) (v := .string s2) rfl (by kernel_rfl) (by kernel_rfl) (by kernel_rfl) (fun _ _ _ h => h) (Or.inl ⟨by rfl, fun _ _ => rfl⟩) hHeld ?_
        simp only [Act.put, List.setIfInBounds_toArray, List.set_cons_zero, List.set_cons_succ]
        refine wpAnyH_take (i := 3) (oi := ⟨some 120, .move (.tmp 18), _, _, _, _⟩) (v := .int .i64 (N : Int)) rfl (by kernel_rfl) (by kernel_rfl) (by kernel_rfl) (fun _ _ _ h => h) (Or.inl ⟨by rfl, fun _ _ => rfl⟩) hHeld ?_
        simp only [Act.put, List.setIfInBounds_toArray, List.set_cons_zero, List.set_cons_succ]
        refine wpAnyH_take (i := 4) (oi := ⟨some 121, .slice 9 (.tmp 119) none (some (.tmp 120)) none, _, _, _, _⟩) (v := .string x0) rfl (by kernel_rfl) (by kernel_rfl) (by kernel_rfl) (fun _ _ _ h => h) (Or.inl ⟨by rfl, fun w _ => by go_simp⟩) hHeld ?_
        simp only [Act.put, List.setIfInBounds_toArray, List.set_cons_zero, List.set_cons_succ]
        refine wpAnyH_take (i := 5) (oi := ⟨some 122, .move (.tmp 3), _, _, _, _⟩) (v := .string data) rfl (by kernel_rfl) (by kernel_rfl) (by kernel_rfl) (fun _ _ _ h => h) (Or.inl ⟨by rfl, fun _ _ => rfl⟩) hHeld ?_
        simp only [Act.put, List.setIfInBounds_toArray, List.set_cons_zero, List.set_cons_succ]
        refine wpAnyH_take (i := 6) (oi := ⟨some 123, .move (.tmp 18), _, _, _, _⟩) (v := .int .i64 (N : Int)) rfl (by kernel_rfl) (by kernel_rfl) (by kernel_rfl) (fun _ _ _ h => h) (Or.inl ⟨by rfl, fun _ _ => rfl⟩) hHeld ?_
        simp only [Act.put, List.setIfInBounds_toArray, List.set_cons_zero, List.set_cons_succ]
        refine wpAnyH_take (i := 7) (oi := ⟨some 124, .slice 9 (.tmp 122) none (some (.tmp 123)) none, _, _, _, _⟩) (v := .string x0) rfl (by kernel_rfl) (by kernel_rfl) (by kernel_rfl) (fun _ _ _ h => h) (Or.inl ⟨by rfl, fun w _ => by go_simp⟩) hHeld ?_
        simp only [Act.put, List.setIfInBounds_toArray, List.set_cons_zero, List.set_cons_succ]
        refine wpAnyH_take (i := 8) (oi := ⟨some 125, .binOp .eql 9 (.tmp 121) (.tmp 124) 9, _, _, _, _⟩) (v := .bool true) rfl (by kernel_rfl) (by kernel_rfl) (by kernel_rfl) (fun _ _ _ h => h) (Or.inl ⟨by rfl, fun w _ => by go_simp⟩) hHeld ?_
        simp only [Act.put, List.setIfInBounds_toArray, List.set_cons_zero, List.set_cons_succ]
        refine wpAnyH_take (i := 9) (oi := ⟨some 126, .pick (.tmp 118) (.tmp 125) (.const (.bool false)), _, _, _, none⟩) (v := .bool true) rfl (by kernel_rfl) (by kernel_rfl) (by kernel_rfl) (fun _ _ _ h => h) (Or.inl ⟨by rfl, fun w _ => by go_simp⟩) hHeld ?_
        simp only [Act.put, List.setIfInBounds_toArray, List.set_cons_zero, List.set_cons_succ]
        refine wpAnyH_take (i := 10) (oi := ⟨some 127, .move (.tmp 126), _, _, _, none⟩) (v := .bool true) rfl (by kernel_rfl) (by kernel_rfl) (by kernel_rfl) (fun _ _ _ h => h) (Or.inl ⟨by rfl, fun _ _ => rfl⟩) hHeld ?_
        simp only [Act.put, List.setIfInBounds_toArray, List.set_cons_zero, List.set_cons_succ]
        refine wpAnyH_take (i := 11) (oi := ⟨some 128, .move (.tmp 20), _, _, _, _⟩) (v := .string s2) rfl (by kernel_rfl) (by kernel_rfl) (by kernel_rfl) (fun _ _ _ h => h) (Or.inl ⟨by rfl, fun _ _ => rfl⟩) hHeld ?_
        simp only [Act.put, List.setIfInBounds_toArray, List.set_cons_zero, List.set_cons_succ]
        refine wpAnyH_take (i := 12) (oi := ⟨some 129, .move (.tmp 18), _, _, _, _⟩) (v := .int .i64 (N : Int)) rfl (by kernel_rfl) (by kernel_rfl) (by kernel_rfl) (fun _ _ _ h => h) (Or.inl ⟨by rfl, fun _ _ => rfl⟩) hHeld ?_
        simp only [Act.put, List.setIfInBounds_toArray, List.set_cons_zero, List.set_cons_succ]
        refine wpAnyH_take (i := 13) (oi := ⟨some 130, .slice 9 (.tmp 128) (some (.tmp 129)) none none, _, _, _, _⟩) (v := .string x1) rfl (by kernel_rfl) (by kernel_rfl) (by kernel_rfl) (fun _ _ _ h => h) (Or.inl ⟨by rfl, fun w _ => by go_simp⟩) hHeld ?_
        simp only [Act.put, List.setIfInBounds_toArray, List.set_cons_zero, List.set_cons_succ]
        refine wpAnyH_take (i := 14) (oi := ⟨some 131, .move (.tmp 19), _, _, _, _⟩) (v := .string s1) rfl (by kernel_rfl) (by kernel_rfl) (by kernel_rfl) (fun _ _ _ h => h) (Or.inl ⟨by rfl, fun _ _ => rfl⟩) hHeld ?_
        simp only [Act.put, List.setIfInBounds_toArray, List.set_cons_zero, List.set_cons_succ]
        refine wpAnyH_take (i := 15) (oi := ⟨some 132, .move (.tmp 18), _, _, _, _⟩) (v := .int .i64 (N : Int)) rfl (by kernel_rfl) (by kernel_rfl) (by kernel_rfl) (fun _ _ _ h => h) (Or.inl ⟨by rfl, fun _ _ => rfl⟩) hHeld ?_
        simp only [Act.put, List.setIfInBounds_toArray, List.set_cons_zero, List.set_cons_succ]
        refine wpAnyH_take (i := 16) (oi := ⟨some 133, .slice 9 (.tmp 131) (some (.tmp 132)) none none, _, _, _, _⟩) (v := .string x1) rfl (by kernel_rfl) (by kernel_rfl) (by kernel_rfl) (fun _ _ _ h => h) (Or.inl ⟨by rfl, fun w _ => by go_simp⟩) hHeld ?_
        simp only [Act.put, List.setIfInBounds_toArray, List.set_cons_zero, List.set_cons_succ]
        refine wpAnyH_take (i := 17) (oi := ⟨some 134, .binOp .eql 9 (.tmp 130) (.tmp 133) 9, _, _, _, _⟩) (v := .bool true) rfl (by kernel_rfl) (by kernel_rfl) (by kernel_rfl) (fun _ _ _ h => h) (Or.inl ⟨by rfl, fun w _ => by go_simp⟩) hHeld ?_
        simp only [Act.put, List.setIfInBounds_toArray, List.set_cons_zero, List.set_cons_succ]
        refine wpAnyH_take (i := 18) (oi := ⟨some 135, .pick (.tmp 127) (.tmp 134) (.const (.bool false)), _, _, _, none⟩) (v := .bool true) rfl (by kernel_rfl) (by kernel_rfl) (by kernel_rfl) (fun _ _ _ h => h) (Or.inl ⟨by rfl, fun w _ => by go_simp⟩) hHeld ?_
        simp only [Act.put, List.setIfInBounds_toArray, List.set_cons_zero, List.set_cons_succ]
        refine wpAnyH_take (i := 19) (oi := ⟨some 8, .assign (.tmp 135), _, _, _, none⟩) (v := .bool true) rfl (by kernel_rfl) (by kernel_rfl) (by kernel_rfl) (fun _ _ _ h => h) (Or.inl ⟨by rfl, fun _ _ => rfl⟩) hHeld ?_
        simp only [Act.put, List.setIfInBounds_toArray, List.set_cons_zero, List.set_cons_succ]
        refine wpAnyH_done (by kernel_rfl) ?_ _
        clear hHeld
        go_wp2
        go_ret
        exact ⟨rfl, lw⟩
theorem bytes_all (A : Option Addr) (n c : Nat) (b : Wm.Bs) (B S i : Int) (data : ByteArray) (w : World) (hs : Sl w 128 A n (U b)) (hb : Wm.isBs b) (hB : Tm.isE B) (hS : Tm.isE S) (hi0 : 0 ≤ i) (hi1 : i ≤ 255) : Calls Try.prog 8 #[.agg #[.slice A n c], .agg #[.int .u32 B, .int .u32 S], .int .u8 i, .string data] w fun e w' => e = .returned (.bool true) ∧ Later w w' := by
  by_cases h1 : 1 ≤ n ∧ n ≤ 64
  · by_cases h2 : Rg.Ok (n * 128) B S
    · by_cases h3 : data.size ≤ 3000
      · exact bytes_yes A n c b B S i data w hs hb hB hS hi0 hi1 h1 h2 h3
      · exact bytes_no A n c B S i data w hB hS (.inr (by omega))
    · exact bytes_no A n c B S i data w hB hS (.inl (by rw [decide_eq_false h2, Bool.and_false]))
  · exact bytes_no A n c B S i data w hB hS (.inl (by rw [decide_eq_false h1, Bool.false_and]))

set_option maxRecDepth 100000 in
theorem ringCarriesBytes_lifted (os : Os) (started : os.Started) (H : Type) (enc : TypeId × Value → H) :
    ReturnsInHanded {} Try.checked os 8 .any (Rows.ringCarriesBytesSpec.pre6 enc Try.prog Try.f8 Rows.ringCarriesBytesRow.domain false) (Rows.ringCarriesBytesSpec.post enc Try.prog Try.f8 false true false false) := by
  refine returnsInHanded_of_change (C := Try.checked) ownK started (by kernel_rfl) Try.func8
    (ChangeSpec.witness6 (enc := enc) (C := Try.checked) false ⟨#[], #[.agg #[.slice none 0 0], .agg #[.int .u32 0, .int .u32 0], .int .u8 0, .string ⟨#[]⟩], []⟩ 8 (by kernel_rfl) (by kernel_rfl) (by kernel_rfl) (by kernel_rfl)) ?_
  intro W base args ds gs before hval0 hW hcnd _
  have hval : ∀ (j : Nat) t v, Try.f8.params[j]? = some t → args[j]? = some v → Value.okWide Try.prog W .any base t v := hval0
  have hW' := hW
  obtain ⟨p, q, hA0, hV, rfl, hfz, hnd⟩ := hW
  have hA : DataW.TrodAll enc Try.prog W 0 (fun _ => true) true Try.f8.params.toList args.toList ds p := hA0
  rw [Try.params8] at hA hval
  obtain ⟨v0, vs0, d0, ds0, p0, q0, hargs, rfl, rfl, h0, r0⟩ := trodAll_cons hA
  obtain ⟨v1, vs1, d1, ds1, p1, q1, rfl, rfl, rfl, h1, r1⟩ := trodAll_cons r0
  obtain ⟨v2, vs2, d2, ds2, p2, q2, rfl, rfl, rfl, h2, r2⟩ := trodAll_cons r1
  obtain ⟨v3, vs3, d3, ds3, p3, q3, rfl, rfl, rfl, h3, r3⟩ := trodAll_cons r2
  obtain ⟨rfl, rfl, rfl⟩ := trodAll_nil r3
  obtain rfl : args = #[v0, v1, v2, v3] := by cases args; simp_all
  obtain ⟨rfl, rfl⟩ := trodVars_none hV
  obtain ⟨A0, n0, c0, b0, rfl, x0, y0, s0, z0⟩ := mem_arg (K := 128) (by omega) Try.underlying24 rfl Try.underlying22 Try.underlying106 Try.underlying5 (by kernel_rfl) (by kernel_rfl) (by kernel_rfl) (by kernel_rfl) (hval 0 24 v0 rfl rfl) h0
  obtain ⟨B1, S1, rfl, zB1, zS1⟩ := ring_open (hval 1 27 v1 rfl rfl) h1
  obtain ⟨a2, rfl, _, _, w2⟩ := open_int Try.underlying5 (hval 2 5 v2 rfl rfl) h2
  have z2 : 0 ≤ a2 ∧ a2 ≤ 255 := by
    have e1 : IntKind.u8.min = 0 := rfl
    have e2 : IntKind.u8.max = 255 := rfl
    simp only [Lit.wf, Bool.and_eq_true, decide_eq_true_eq] at w2
    omega
  obtain ⟨a3, rfl, z3⟩ := str_arg Try.underlying9 (hval 3 9 v3 rfl rfl) h3
  clear hA0 hval0
  simp only [List.append_nil] at hW'
  refine (bytes_all A0 n0 c0 b0 B1 S1 a2 a3 W s0 z0 zB1 zS1 z2.1 z2.2).mono fun e W' ⟨he, hw⟩ => ?_
  subst he
  exact ⟨_, rfl, law_post laidK rfl (by kernel_rfl) (by kernel_rfl) Try.underlying4 (by kernel_rfl) hW' rfl hw⟩
set_option maxRecDepth 100000 in
/-- The statement. -/
theorem ringCarriesBytes_said : Rows.RingCarriesBytesSaid :=
  OpenClaim.holds_of_wide 8 Try.f8 rfl rfl rfl rfl rfl rfl rfl ⟨rfl, rfl, rfl, rfl, rfl⟩ rfl rfl rfl rfl rfl (by kernel_rfl) Try.func8 (by kernel_rfl)
    (of_decide_eq_true (by kernel_rfl)) (by unfold Func.isWrapper; first | (rw [if_pos (by decide +kernel)]; kernel_rfl) | (rw [if_neg (by decide +kernel)]; exact ⟨rfl, rfl⟩))
    (fun os started H enc _ => ringCarriesBytes_lifted os started H enc)
#print axioms ringCarriesBytes_said
end Go.Proofs.Ytffgbbfcbobecaa
