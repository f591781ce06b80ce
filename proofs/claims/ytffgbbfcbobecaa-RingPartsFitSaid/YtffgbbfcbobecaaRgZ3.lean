/-
  THE STATEMENT RingPartsFit: the parts of a request lie in the memory, are few, of different descriptors, those that are read first; Gather and Room have all their bytes.
-/
import Derived.Test.YtffgbbfcbobecaaRgY
import Derived.Deep.DeepCutAuto
namespace Go.Proofs.Ytffgbbfcbobecaa
open Go.RowKit Go.ChangeShapes Go.WideShapes Go.ChangeAt

/-- The bytes of some parts. -/
def tot (l : List Rg.Pt) : Int := (l.map fun p => p.2.2.1).sum
theorem tot_succ (l : List Rg.Pt) {k : Nat} (hk : k < l.length) : tot (l.take (k + 1)) = tot (l.take k) + l[k].2.2.1 := by
  unfold tot
  rw [List.take_succ_eq_append_getElem hk, List.map_append, List.sum_append]
  simp
theorem tot_rng {l : List Rg.Pt} (h : ∀ p ∈ l, 1 ≤ p.2.2.1 ∧ p.2.2.1 ≤ 512) : 0 ≤ tot l ∧ tot l ≤ 512 * l.length := by
  unfold tot
  induction l with
  | nil => exact ⟨Int.le_refl _, Int.le_refl _⟩
  | cons p r ih =>
    have h1 := ih (fun q hq => h q (List.mem_cons_of_mem _ hq))
    have h2 := h p List.mem_cons_self
    rw [List.map_cons, List.sum_cons, List.length_cons]
    omega
theorem tot_eq {b : Wm.Bs} {l : List Rg.Pt} (h : ∀ p ∈ l, 0 ≤ p.2.1 ∧ 1 ≤ p.2.2.1 ∧ p.2.1 + p.2.2.1 ≤ (b.length : Int)) : ((Rg.gat b l).length : Int) + Rg.room l = tot l := by
  unfold tot Rg.gat Rg.room
  induction l with
  | nil => rfl
  | cons p r ih =>
    have h1 := ih (fun q hq => h q (List.mem_cons_of_mem _ hq))
    obtain ⟨h2, h3, h4⟩ := h p List.mem_cons_self
    rw [List.map_cons, List.sum_cons, List.map_cons, List.sum_cons, List.flatMap_cons, List.length_append]
    split
    · rw [List.length_nil]; omega
    · have e : (Mm.rd b p.2.1 p.2.2.1).length = p.2.2.1.toNat := by
        unfold Mm.rd
        rw [if_pos ⟨h2, by omega, by omega⟩, List.length_take, List.length_drop]
        omega
      rw [e]
      omega
set_option maxRecDepth 100000 in
set_option maxHeartbeats 4000000 in
theorem fit_no (A : Option Addr) (n c : Nat) (B : Int) (s : Nat) (i : Int) (w : World) (hB : Tm.isE B) (hS : Tm.isE (s : Int)) (h : (decide (1 ≤ n ∧ n ≤ 64) && decide (Rg.Ok (n * 128) B s)) = false) : Calls Try.prog 7 #[.agg #[.slice A n c], .agg #[.int .u32 B, .int .u32 (s : Int)], .int .u8 i] w fun e w' => e = .returned (.bool true) ∧ Later w w' := by
  have KT := Lib.hid fun w' => lthere_any A n c B s w' hB hS
  have KN := Lib.hid fun w' => sanity_any w'
  rw [h] at KT
  clear h hB hS
  have b3 : Blk _ w.heap.size 24 ([.slice A n c]) := ((Blk.new' w w.heap.size 24 ([.slice A n c]).toArray ([.slice A n c]) (by simp) rfl).alloc (.cells ([.int .u32 B, .int .u32 (s : Int)]).toArray 27))
  have b4 : Blk _ (w.heap.size + 1) 27 ([.int .u32 B, .int .u32 (s : Int)]) := (Blk.new' (w.alloc (.cells ([.slice A n c]).toArray 24)) (w.heap.size + 1) 27 ([.int .u32 B, .int .u32 (s : Int)]).toArray ([.int .u32 B, .int .u32 (s : Int)]) (by simp) rfl)
  have lw := ((later1 w (.cells ([.slice A n c]).toArray 24)).alloc (by simp; try omega) (.cells ([.int .u32 B, .int .u32 (s : Int)]).toArray 27))
  obtain ⟨u0, hu⟩ : ∃ u, ((w.alloc (.cells ([.slice A n c]).toArray 24)).alloc (.cells ([.int .u32 B, .int .u32 (s : Int)]).toArray 27)) = u := ⟨_, rfl⟩
  rw [hu] at b3 b4 lw
  go_enter Try.func7, Try.ntmps7
  go_upto_region 1 with fail
  have hu2 : ((w.alloc (.cells #[.slice A n c] 24)).alloc (.cells #[.int .u32 B, .int .u32 (s : Int)] 27)) = u0 := hu
  try rw [hu2]
  clear hu hu2
  go_wp2_with (first
    | ((with_reducible refine wpList_load_blk (o := ⟨some 15, .load 24 (.tmp 3), _, _, _, none⟩) rfl _ _ rfl w.heap.size 24 ([.slice A n c]) _ ?_ ?_ Try.underlying24 rfl memS ?_); rfl; exact b3)
    | ((with_reducible refine wpList_load_blk (o := ⟨some 16, .load 27 (.tmp 4), _, _, _, none⟩) rfl _ _ rfl (w.heap.size + 1) 27 ([.int .u32 B, .int .u32 (s : Int)]) _ ?_ ?_ Try.underlying27 rfl ring_sz ?_); rfl; exact b4)
    | (go_at_call 13; (with_reducible refine (KT.out _).mono ?_); rintro e w1 ⟨rfl, l1⟩; replace b3 := b3.keep l1; replace b4 := b4.keep l1; replace lw := Later.trans_ lw l1)
    | (go_at_call 10; (with_reducible refine (KN.out _).mono ?_); rintro e w9 ⟨rfl, l9⟩; replace lw := Later.trans_ lw l9))
  go_ret
  exact ⟨rfl, lw⟩
set_option maxRecDepth 100000 in
set_option maxHeartbeats 32000000 in
theorem fit_yes (A : Option Addr) (n c : Nat) (b : Wm.Bs) (B : Int) (s : Nat) (i : Int) (w : World) (hs : Sl w 128 A n (U b)) (hb : Wm.isBs b) (hB : Tm.isE B) (hS : Tm.isE (s : Int)) (hi0 : 0 ≤ i) (hi1 : i ≤ 255) (h1 : 1 ≤ n ∧ n ≤ 64) (hok : Rg.Ok (n * 128) B s) : Calls Try.prog 7 #[.agg #[.slice A n c], .agg #[.int .u32 B, .int .u32 (s : Int)], .int .u8 i] w fun e w' => e = .returned (.bool true) ∧ Later w w' := by
  have KT := Lib.hid fun w' => lthere_any A n c B s w' hB hS
  rw [decide_eq_true h1, decide_eq_true hok] at KT
  have KN := Lib.hid fun w' => sanity_any w'
  obtain ⟨ht, hq0, hq1, hq2⟩ := idx_rng hok hi0
  have hSS := hok.s
  obtain ⟨q, hq⟩ : ∃ q, q = i % (s : Int) := ⟨_, rfl⟩
  rw [← hq] at ht hq0 hq1
  have hL := hs.1
  rw [U_length] at hL
  have hg := Rg.take_good (L := n * 128) (B := B) hb hq0 hq1
  have hsm := good_sml hg hb (by omega)
  have KTK := Lib.hid fun w' (k : Later w w') => take_any A n c b B s q w' (hs.keep k) hb h1.1 h1.2 hok hq0 hq1
  obtain ⟨l, hl⟩ : ∃ l, l = Rg.takL (n * 128) b B s q := ⟨_, rfl⟩
  obtain ⟨E1, hE1⟩ : ∃ l, l = Rg.takE (n * 128) b B s q := ⟨_, rfl⟩
  obtain ⟨X, hX⟩ : ∃ l, l = Rg.takM (n * 128) b B s q := ⟨_, rfl⟩
  rw [← hl, ← hE1, ← hX] at KTK
  rw [← hl] at hg hsm
  clear hl hE1 hX
  have KG0 := Lib.hid fun (AP : Option Addr) (mp cp : Nat) w' (k : Later w w') (h : Sl w' 4 AP mp (Ps l)) (hl : l.length = mp) => pgather_any A n c b AP mp cp l w' (hs.keep k) h1.1 h1.2 h hl hsm
  have KO0 := Lib.hid fun (AP : Option Addr) (mp cp : Nat) w' (h : Sl w' 4 AP mp (Ps l)) (hl : l.length = mp) => room_any AP mp cp l w' h hl hsm
  obtain ⟨s1, hs1⟩ : ∃ s, s = strOfNums (Rg.gat b l) := ⟨_, rfl⟩
  obtain ⟨R1, hR1⟩ : ∃ s, s = Rg.room l := ⟨_, rfl⟩
  obtain ⟨TT, hTT0⟩ : ∃ s, s = tot l := ⟨_, rfl⟩
  have hte : (s1.size : Int) + R1 = TT := by
    rw [hs1, hR1, hTT0, str_len]
    exact tot_eq fun p hp => ⟨(hsm.2 p hp).2.2.1, (hsm.2 p hp).1, by rw [hL]; exact (hg.is p hp).2.2.2.2⟩
  have hTr := tot_rng (l := l) fun p hp => ⟨(hsm.2 p hp).1, (hsm.2 p hp).2.1⟩
  have hRr := room_rng (l := l) fun p hp => ⟨(hsm.2 p hp).1, (hsm.2 p hp).2.1⟩
  have hl4 := hsm.1
  have ct : IntKind.i64.wrap ((s1.size : Int) + R1) = TT := by rw [hte, ← hTT0] at *; exact wrap64 _ (by omega) (by omega)
  rw [← hs1] at KG0
  rw [← hR1] at KO0
  have hTT := Lib.hid hTT0
  have HT := Lib.hid fun k => tot_rng (l := l.take k) (fun p hp => ⟨(hsm.2 p (List.mem_of_mem_take hp)).1, (hsm.2 p (List.mem_of_mem_take hp)).2.1⟩)
  have HE := Lib.hid fun p (hp : p ∈ l) => (show 0 ≤ p.1 ∧ p.1 < (s : Int) ∧ 1 ≤ p.2.2.1 ∧ p.2.2.1 ≤ 512 ∧ 0 ≤ p.2.1 ∧ p.2.1 + p.2.2.1 ≤ ((n * 128 : Nat) : Int) from ⟨(hg.inr p hp).1, (hg.inr p hp).2, (hsm.2 p hp).1, (hsm.2 p hp).2.1, (hsm.2 p hp).2.2.1, (hg.is p hp).2.2.2.2⟩)
  have HP := Lib.hid fun (j k : Nat) (hj : j < l.length) (hk : k < l.length) (hjk : j < k) => List.pairwise_iff_getElem.1 hg.apart j k hj hk hjk
  have hqs : (i % (s : Int)) = q := hq.symm
  have cS := wrap64 (s : Int) (by omega) (by omega)
  have ci := wrap64 i hi0 (by omega)
  have hz0 : ¬ s = 0 := by omega
  clear hq hTT0 hs1 hR1 hte hTr hRr hg hsm hs hb hB hS hok hL
  have b3 : Blk _ w.heap.size 24 ([.slice A n c]) := ((Blk.new' w w.heap.size 24 ([.slice A n c]).toArray ([.slice A n c]) (by simp) rfl).alloc (.cells ([.int .u32 B, .int .u32 (s : Int)]).toArray 27))
  have b4 : Blk _ (w.heap.size + 1) 27 ([.int .u32 B, .int .u32 (s : Int)]) := (Blk.new' (w.alloc (.cells ([.slice A n c]).toArray 24)) (w.heap.size + 1) 27 ([.int .u32 B, .int .u32 (s : Int)]).toArray ([.int .u32 B, .int .u32 (s : Int)]) (by simp) rfl)
  have lw := ((later1 w (.cells ([.slice A n c]).toArray 24)).alloc (by simp; try omega) (.cells ([.int .u32 B, .int .u32 (s : Int)]).toArray 27))
  obtain ⟨u0, hu⟩ : ∃ u, ((w.alloc (.cells ([.slice A n c]).toArray 24)).alloc (.cells ([.int .u32 B, .int .u32 (s : Int)]).toArray 27)) = u := ⟨_, rfl⟩
  rw [hu] at b3 b4 lw
  go_enter Try.func7, Try.ntmps7
  go_upto_region 1 with fail
  have hu2 : ((w.alloc (.cells #[.slice A n c] 24)).alloc (.cells #[.int .u32 B, .int .u32 (s : Int)] 27)) = u0 := hu
  try rw [hu2]
  clear hu hu2
  go_upto_region 3 with (first
    | ((with_reducible refine wpList_load_blk (o := ⟨some 15, .load 24 (.tmp 3), _, _, _, none⟩) rfl _ _ rfl w.heap.size 24 ([.slice A n c]) _ ?_ ?_ Try.underlying24 rfl memS ?_); rfl; exact b3)
    | ((with_reducible refine wpList_load_blk (o := ⟨some 16, .load 27 (.tmp 4), _, _, _, none⟩) rfl _ _ rfl (w.heap.size + 1) 27 ([.int .u32 B, .int .u32 (s : Int)]) _ ?_ ?_ Try.underlying27 rfl ring_sz ?_); rfl; exact b4)
    | (go_at_call 13; (with_reducible refine (KT.out _).mono ?_); rintro e w1 ⟨rfl, l1⟩; replace b3 := b3.keep l1; replace b4 := b4.keep l1; replace lw := Later.trans_ lw l1))
  try simp only [Act.put]
  obtain ⟨w8, hw8⟩ : ∃ v, v = w1 := ⟨_, rfl⟩
  rw [← hw8] at b3 b4 lw ⊢
  clear hw8
  have hw3 := b3.lt
  go_cut [8] (fun q8 wx => ∃ AP mp cp, q8 = .slice AP mp cp ∧ Sl wx 4 AP mp (Ps l) ∧ Hid (l.length = mp) ∧ Hid (mp ≤ cp) ∧ Later w8 wx)
  case first => as_aux_lemma =>
    have lx : Later w8 w8.drew := (later0 _).drew
    replace b3 := b3.drew
    replace b4 := b4.drew
    refine wp_region_held_drew (S := fun w' => World.rangeAt w' w.heap.size 0 [.slice A n c] ∧ World.rangeAt w' (w.heap.size + 1) 0 [.int .u32 B, .int .u32 (s : Int)]) (by kernel_rfl) ⟨b3.range 0 1, b4.range 0 2⟩ (fun hHeld => ?_)
    refine wpAnyH_take (i := 0) (oi := ⟨some 21, .load 24 (.tmp 3), _, _, _, none⟩) (v := .agg ([.slice A n c]).toArray) rfl (by kernel_rfl) (by kernel_rfl) (by kernel_rfl) (fun _ _ _ h => h) (yieldsIf_load_mid (by rfl) _ _ rfl w.heap.size 0 rfl ([.slice A n c]) _ (fun wz hSw => hSw.1) Try.underlying24 rfl memS) hHeld ?_
    simp only [Act.put, List.setIfInBounds_toArray, List.set_cons_zero, List.set_cons_succ]
    refine wpAnyH_take (i := 1) (oi := ⟨some 22, .load 27 (.tmp 4), _, _, _, none⟩) (v := .agg ([.int .u32 B, .int .u32 (s : Int)]).toArray) rfl (by kernel_rfl) (by kernel_rfl) (by kernel_rfl) (fun _ _ _ h => h) (yieldsIf_load_mid (by rfl) _ _ rfl (w.heap.size + 1) 0 rfl ([.int .u32 B, .int .u32 (s : Int)]) _ (fun wz hSw => hSw.2) Try.underlying27 rfl ring_sz) hHeld ?_
    simp only [Act.put, List.setIfInBounds_toArray, List.set_cons_zero, List.set_cons_succ]
    refine wpAnyH_take (i := 2) (oi := ⟨some 23, .move (.tmp 2), _, _, _, none⟩) (v := .int .u8 i) rfl (by kernel_rfl) (by kernel_rfl) (by kernel_rfl) (fun _ _ _ h => h) (Or.inl ⟨by rfl, fun _ _ => rfl⟩) hHeld ?_
    simp only [Act.put, List.setIfInBounds_toArray, List.set_cons_zero, List.set_cons_succ]
    refine wpAnyH_take (i := 3) (oi := ⟨some 24, .convert 5 3 (.tmp 23), _, _, _, none⟩) (v := .int .i64 i) rfl (by kernel_rfl) (by kernel_rfl) (by kernel_rfl) (fun _ _ _ h => h) (Or.inl ⟨by rfl, fun w _ => by go_simp⟩) hHeld ?_
    simp only [Act.put, List.setIfInBounds_toArray, List.set_cons_zero, List.set_cons_succ]
    refine wpAnyH_take (i := 4) (oi := ⟨some 25, .fieldAddr 27 (.tmp 4) 1, _, _, _, none⟩) (v := .pointer (some ⟨(w.heap.size + 1), 1, none⟩)) rfl (by kernel_rfl) (by kernel_rfl) (by kernel_rfl) (fun _ _ _ h => h) (Or.inl ⟨by rfl, fun w _ => by go_simp⟩) hHeld ?_
    simp only [Act.put, List.setIfInBounds_toArray, List.set_cons_zero, List.set_cons_succ]
    refine wpAnyH_take (i := 5) (oi := ⟨some 26, .load 25 (.tmp 25), _, _, _, none⟩) (v := .int .u32 (s : Int)) rfl (by kernel_rfl) (by kernel_rfl) (by kernel_rfl) (fun _ _ _ h => h) (Or.inl ⟨by rfl, fun wz hSw => by have e1 : wz.cell? ⟨(w.heap.size + 1), 1, none⟩ = some (.int .u32 (s : Int)) := hSw.2 1 _ rfl; clear hSw; go_simp⟩) hHeld ?_
    simp only [Act.put, List.setIfInBounds_toArray, List.set_cons_zero, List.set_cons_succ]
    refine wpAnyH_take (i := 6) (oi := ⟨some 27, .convert 25 3 (.tmp 26), _, _, _, none⟩) (v := .int .i64 (s : Int)) rfl (by kernel_rfl) (by kernel_rfl) (by kernel_rfl) (fun _ _ _ h => h) (Or.inl ⟨by rfl, fun w _ => by go_simp⟩) hHeld ?_
    simp only [Act.put, List.setIfInBounds_toArray, List.set_cons_zero, List.set_cons_succ]
    refine wpAnyH_take (i := 7) (oi := ⟨some 28, .binOp .rem 3 (.tmp 24) (.tmp 27) 3, _, _, _, none⟩) (v := .int .i64 q) rfl (by kernel_rfl) (by kernel_rfl) (by kernel_rfl) (fun _ _ _ h => h) (Or.inl ⟨by rfl, fun w _ => by go_simp⟩) hHeld ?_
    simp only [Act.put, List.setIfInBounds_toArray, List.set_cons_zero, List.set_cons_succ]
    refine wpAnyH_ready (rs := [8, 13]) (by kernel_rfl) (by simp) (AllReadyH.cons (o := ⟨some 29, .call { callee := .value (.func 15), args := #[.tmp 21, .tmp 22, .tmp 28], argTypes := #[24, 27, 3] }, _, _, _, none⟩) rfl (fun K' hK => ?_) (AllReadyH.cons (o := ⟨some 7, .alloc 24, _, _, _, none⟩) rfl (fun K' hK => ?_) AllReadyH.nil))
    · go_simp
      (with_reducible refine (KTK.out _ (Later.trans_ lw lx)).mono ?_)
      rintro e u7 ⟨g, c1, AP, mp, cp, rfl, _, _, _, dX, hmc, _, sP, hpl, l7⟩
      replace b3 := b3.keep l7
      replace b4 := b4.keep l7
      replace lx := Later.trans_ lx l7
      refine hK.out _ _ ⟨b3.range 0 1, b4.range 0 2⟩ (fun hHeld => ?_)
      clear hK K'
      try simp only [Act.put, List.setIfInBounds_toArray, List.set_cons_zero, List.set_cons_succ]
      refine wpAnyH_take (i := 9) (oi := ⟨some 20, .move (.tmp 29), _, _, _, none⟩) (v := .tuple #[.agg #[.slice (some ⟨g, 0, none⟩) n c1], .slice AP mp cp, .int .i64 E1]) rfl (by kernel_rfl) (by kernel_rfl) (by kernel_rfl) (fun _ _ _ h => h) (Or.inl ⟨by rfl, fun _ _ => rfl⟩) hHeld ?_
      simp only [Act.put, List.setIfInBounds_toArray, List.set_cons_zero, List.set_cons_succ]
      refine wpAnyH_take (i := 10) (oi := ⟨some 30, .extract (.tmp 20) 0, _, _, _, none⟩) (v := .agg #[.slice (some ⟨g, 0, none⟩) n c1]) rfl (by kernel_rfl) (by kernel_rfl) (by kernel_rfl) (fun _ _ _ h => h) (Or.inl ⟨by rfl, fun w _ => by go_simp⟩) hHeld ?_
      simp only [Act.put, List.setIfInBounds_toArray, List.set_cons_zero, List.set_cons_succ]
      refine wpAnyH_take (i := 11) (oi := ⟨some 31, .extract (.tmp 20) 1, _, _, _, none⟩) (v := .slice AP mp cp) rfl (by kernel_rfl) (by kernel_rfl) (by kernel_rfl) (fun _ _ _ h => h) (Or.inl ⟨by rfl, fun w _ => by go_simp⟩) hHeld ?_
      simp only [Act.put, List.setIfInBounds_toArray, List.set_cons_zero, List.set_cons_succ]
      refine wpAnyH_take (i := 12) (oi := ⟨some 32, .extract (.tmp 20) 2, _, _, _, none⟩) (v := .int .i64 E1) rfl (by kernel_rfl) (by kernel_rfl) (by kernel_rfl) (fun _ _ _ h => h) (Or.inl ⟨by rfl, fun w _ => by go_simp⟩) hHeld ?_
      simp only [Act.put, List.setIfInBounds_toArray, List.set_cons_zero, List.set_cons_succ]
      refine wpAnyH_ready (rs := [13]) (by kernel_rfl) (by simp) (AllReadyH.cons (o := ⟨some 7, .alloc 24, _, _, _, none⟩) rfl (fun K' hK => ?_) AllReadyH.nil)
      refine wp_new_mm rfl fun ua G7 b7 la7 hG7 => ?_
      have f7 := Nat.le_trans lx.size hG7
      replace b3 := b3.keep la7
      replace b4 := b4.keep la7
      replace dX := dX.keep la7
      replace sP := sP.keep la7
      replace lx := Later.trans_ lx la7
      have hb37 : w.heap.size ≠ G7 := Nat.ne_of_lt (Nat.lt_of_lt_of_le hw3 f7)
      refine hK.out _ _ ⟨b3.range 0 1, b4.range 0 2⟩ (fun hHeld => ?_)
      clear hK K'
      try simp only [Act.put, List.setIfInBounds_toArray, List.set_cons_zero, List.set_cons_succ]
      refine wpAnyH_ready (rs := [14]) (by kernel_rfl) (by simp) (AllReadyH.cons (o := ⟨none, .store 24 (.tmp 7) (.tmp 30), _, _, _, none⟩) rfl (fun K' hK => ?_) AllReadyH.nil)
      refine wp_store_blk 24 _ _ rfl G7 24 [.slice none 0 0] ([.slice (some ⟨g, 0, none⟩) n c1]) rfl rfl b7 memS rfl (one1 rfl) ?_
      intro wq bq oq
      replace b4 := b4.only oq (blk_ne b4 b7 (by decide))
      replace b3 := b3.only oq hb37
      replace sP := sP.lx (Lx.only oq) (fun hm ad e => by subst e; exact sl_ne sP hm b7 (Nat.succ_pos _) (show 1 < 4 from by decide))
      replace lx := Below.only lx oq f7
      clear b7 bq oq
      refine hK.out _ _ ⟨b3.range 0 1, b4.range 0 2⟩ (fun hHeld => ?_)
      clear hK K'
      try simp only [Act.put]
      refine wpAnyH_take (i := 15) (oi := ⟨some 8, .assign (.tmp 31), _, _, _, none⟩) (v := .slice AP mp cp) rfl (by kernel_rfl) (by kernel_rfl) (by kernel_rfl) (fun _ _ _ h => h) (Or.inl ⟨by rfl, fun _ _ => rfl⟩) hHeld ?_
      simp only [Act.put, List.setIfInBounds_toArray, List.set_cons_zero, List.set_cons_succ]
      refine wpAnyH_take (i := 16) (oi := ⟨some 9, .assign (.tmp 32), _, _, _, none⟩) (v := .int .i64 E1) rfl (by kernel_rfl) (by kernel_rfl) (by kernel_rfl) (fun _ _ _ h => h) (Or.inl ⟨by rfl, fun _ _ => rfl⟩) hHeld ?_
      simp only [Act.put, List.setIfInBounds_toArray, List.set_cons_zero, List.set_cons_succ]
      refine wpAnyH_done (by kernel_rfl) ?_ _
      clear hHeld
      go_wp2
      go_meet
      exact ⟨AP, mp, cp, rfl, sP, Lib.hid hpl, Lib.hid hmc, lx⟩
    · refine wp_new_mm rfl fun ua G7 b7 la7 hG7 => ?_
      have f7 := Nat.le_trans lx.size hG7
      replace b3 := b3.keep la7
      replace b4 := b4.keep la7
      replace lx := Later.trans_ lx la7
      have hb37 : w.heap.size ≠ G7 := Nat.ne_of_lt (Nat.lt_of_lt_of_le hw3 f7)
      refine hK.out _ _ ⟨b3.range 0 1, b4.range 0 2⟩ (fun hHeld => ?_)
      clear hK K'
      try simp only [Act.put, List.setIfInBounds_toArray, List.set_cons_zero, List.set_cons_succ]
      refine wpAnyH_ready (rs := [8]) (by kernel_rfl) (by simp) (AllReadyH.cons (o := ⟨some 29, .call { callee := .value (.func 15), args := #[.tmp 21, .tmp 22, .tmp 28], argTypes := #[24, 27, 3] }, _, _, _, none⟩) rfl (fun K' hK => ?_) AllReadyH.nil)
      go_simp
      (with_reducible refine (KTK.out _ (Later.trans_ lw lx)).mono ?_)
      rintro e u7 ⟨g, c1, AP, mp, cp, rfl, _, _, _, dX, hmc, _, sP, hpl, l7⟩
      replace b3 := b3.keep l7
      replace b4 := b4.keep l7
      replace b7 := b7.keep l7
      replace lx := Later.trans_ lx l7
      refine hK.out _ _ ⟨b3.range 0 1, b4.range 0 2⟩ (fun hHeld => ?_)
      clear hK K'
      try simp only [Act.put, List.setIfInBounds_toArray, List.set_cons_zero, List.set_cons_succ]
      refine wpAnyH_take (i := 9) (oi := ⟨some 20, .move (.tmp 29), _, _, _, none⟩) (v := .tuple #[.agg #[.slice (some ⟨g, 0, none⟩) n c1], .slice AP mp cp, .int .i64 E1]) rfl (by kernel_rfl) (by kernel_rfl) (by kernel_rfl) (fun _ _ _ h => h) (Or.inl ⟨by rfl, fun _ _ => rfl⟩) hHeld ?_
      simp only [Act.put, List.setIfInBounds_toArray, List.set_cons_zero, List.set_cons_succ]
      refine wpAnyH_take (i := 10) (oi := ⟨some 30, .extract (.tmp 20) 0, _, _, _, none⟩) (v := .agg #[.slice (some ⟨g, 0, none⟩) n c1]) rfl (by kernel_rfl) (by kernel_rfl) (by kernel_rfl) (fun _ _ _ h => h) (Or.inl ⟨by rfl, fun w _ => by go_simp⟩) hHeld ?_
      simp only [Act.put, List.setIfInBounds_toArray, List.set_cons_zero, List.set_cons_succ]
      refine wpAnyH_take (i := 11) (oi := ⟨some 31, .extract (.tmp 20) 1, _, _, _, none⟩) (v := .slice AP mp cp) rfl (by kernel_rfl) (by kernel_rfl) (by kernel_rfl) (fun _ _ _ h => h) (Or.inl ⟨by rfl, fun w _ => by go_simp⟩) hHeld ?_
      simp only [Act.put, List.setIfInBounds_toArray, List.set_cons_zero, List.set_cons_succ]
      refine wpAnyH_take (i := 12) (oi := ⟨some 32, .extract (.tmp 20) 2, _, _, _, none⟩) (v := .int .i64 E1) rfl (by kernel_rfl) (by kernel_rfl) (by kernel_rfl) (fun _ _ _ h => h) (Or.inl ⟨by rfl, fun w _ => by go_simp⟩) hHeld ?_
      simp only [Act.put, List.setIfInBounds_toArray, List.set_cons_zero, List.set_cons_succ]
      refine wpAnyH_ready (rs := [14]) (by kernel_rfl) (by simp) (AllReadyH.cons (o := ⟨none, .store 24 (.tmp 7) (.tmp 30), _, _, _, none⟩) rfl (fun K' hK => ?_) AllReadyH.nil)
      refine wp_store_blk 24 _ _ rfl G7 24 [.slice none 0 0] ([.slice (some ⟨g, 0, none⟩) n c1]) rfl rfl b7 memS rfl (one1 rfl) ?_
      intro wq bq oq
      replace b4 := b4.only oq (blk_ne b4 b7 (by decide))
      replace b3 := b3.only oq hb37
      replace sP := sP.lx (Lx.only oq) (fun hm ad e => by subst e; exact sl_ne sP hm b7 (Nat.succ_pos _) (show 1 < 4 from by decide))
      replace lx := Below.only lx oq f7
      clear b7 bq oq
      refine hK.out _ _ ⟨b3.range 0 1, b4.range 0 2⟩ (fun hHeld => ?_)
      clear hK K'
      try simp only [Act.put]
      refine wpAnyH_take (i := 15) (oi := ⟨some 8, .assign (.tmp 31), _, _, _, none⟩) (v := .slice AP mp cp) rfl (by kernel_rfl) (by kernel_rfl) (by kernel_rfl) (fun _ _ _ h => h) (Or.inl ⟨by rfl, fun _ _ => rfl⟩) hHeld ?_
      simp only [Act.put, List.setIfInBounds_toArray, List.set_cons_zero, List.set_cons_succ]
      refine wpAnyH_take (i := 16) (oi := ⟨some 9, .assign (.tmp 32), _, _, _, none⟩) (v := .int .i64 E1) rfl (by kernel_rfl) (by kernel_rfl) (by kernel_rfl) (fun _ _ _ h => h) (Or.inl ⟨by rfl, fun _ _ => rfl⟩) hHeld ?_
      simp only [Act.put, List.setIfInBounds_toArray, List.set_cons_zero, List.set_cons_succ]
      refine wpAnyH_done (by kernel_rfl) ?_ _
      clear hHeld
      go_wp2
      go_meet
      exact ⟨AP, mp, cp, rfl, sP, Lib.hid hpl, Lib.hid hmc, lx⟩
  case rest =>
    obtain ⟨AP, mp, cp, rfl, sP, hpl, hmc, lx⟩ := hcut
    replace b3 := b3.keep lx
    replace b4 := b4.keep lx
    replace lw := Later.trans_ lw lx
    clear lx hw3
    clear ht hqs cS ci hq2 hz0
    have hm4 : mp ≤ 4 := by rw [← hpl.out]; exact hl4
    go_upto_region 5 with fail
    go_wp2
    go_loopw [10, 35] (fun t v wr => ∃ k : Nat, k ≤ mp ∧ v = .int .i64 (k : Int) ∧ t = .int .i64 (tot (l.take k)) ∧ Blk wr w.heap.size 24 [.slice A n c] ∧ Blk wr (w.heap.size + 1) 27 [.int .u32 B, .int .u32 (s : Int)] ∧ Sl wr 4 AP mp (Ps l) ∧ Later w wr) (fun _ v _ => mp - (intOf v).toNat)
    case atStart => exact ⟨0, Nat.zero_le _, rfl, rfl, b3, b4, sP, lw⟩
    case round =>
      clear sP b3 b4 lw
      rename_i wr
      obtain ⟨k, hk, rfl, rfl, b3, b4, hs, lr⟩ := hrel
      obtain ⟨t0, t1⟩ := HT.out k
      by_cases hlt : k < mp
      · have hkl : k < l.length := by rw [hpl.out]; exact hlt
        have hkt : (l.take k).length ≤ 4 := by rw [List.length_take]; omega
        have hk4 : k < 4 := by omega
        obtain ⟨ad, hA⟩ := hs.addr (by omega)
        subst hA
        have HC := Lib.hid fun w' (h : Sl w' 4 (some ad) mp (Ps l)) => h.ptAt hkl hpl.out
        have HX := Lib.hid (tot_succ l hkl)
        obtain ⟨s1, s2, s3, s4, s5, s6⟩ := HE.out _ (List.getElem_mem hkl)
        have HD := Lib.hid fun j (hj : j < k) (hjl : j < l.length) => HP.out j k hjl hkl hj
        have kn : (k : Int) < (mp : Int) := by omega
        obtain ⟨q, hq⟩ : ∃ q, q = l[k] := ⟨_, rfl⟩
        rw [← hq] at HC HX HD s1 s2 s3 s4 s5 s6
        clear hq
        obtain ⟨T0, hT0⟩ : ∃ z, z = tot (l.take k) := ⟨_, rfl⟩
        rw [← hT0] at HX t0 t1 ⊢
        clear hT0
        obtain ⟨NN, hNN⟩ : ∃ z, z = ((n * 128 : Nat) : Int) := ⟨_, rfl⟩
        have KZ := Lib.hid fun w' => size_any A n c w' h1.2
        rw [← hNN] at KZ s6
        obtain ⟨E0, hE0⟩ : ∃ z, z = q.2.1 + q.2.2.1 := ⟨_, rfl⟩
        have cE : IntKind.i64.wrap (q.2.1 + q.2.2.1) = E0 := by rw [hE0]; exact wrap64 _ (by omega) (by omega)
        have hcs := wrap64 (s : Int) (by omega) (by omega)
        have p1 : ¬ (q.1 < 0) := by omega
        have p2 : ¬ ((s : Int) ≤ q.1) := by omega
        have p3 : ¬ (q.2.2.1 < 1) := by omega
        have p4 : ¬ (512 < q.2.2.1) := by omega
        have p5 : ¬ (q.2.1 < 0) := by omega
        have p6 : ¬ (NN < E0) := by omega
        have u1 : T0 ≤ 2048 := by omega
        have kc : k ≤ cp := Nat.le_trans (Nat.le_of_lt hlt) hmc.out
        have kc0 : ¬ cp = 0 := by have := hmc.out; omega
        have kc2 : (k : Int) ≤ (cp : Int) := by omega
        clear hNN hE0 t1 hkt
        go_upto_region 8 with (first
      | ((with_reducible refine wpList_load_addr (o := ⟨some 39, .load 59 (.tmp 38), _, _, _, none⟩) rfl _ _ rfl (ad.add (k * 4)) (Pc q) _ ?_ (HC.out _ hs) Try.underlying59 rfl (pt_sz _) ?_); rfl)
      | ((with_reducible refine wpList_store_abs (o := ⟨none, .store 59 (.tmp 12) (.tmp 39), _, _, _, none⟩) rfl _ _ _ rfl wr.heap.size 59 ([.int .i64 0, .int .i64 0, .int .i64 0, .bool false]) (Pc q) ?_ ?_ ?_ ?_ ?_ ?_ ?_); rfl; rfl; exact (Blk.new _ _ _ _ rfl); exact (pt_sz _); rfl; exact (pt_one _); intro w2 b12 o12; have l2 := Below.only (later1 wr (.cells #[.int .i64 0, .int .i64 0, .int .i64 0, .bool false] 59)) o12 (Nat.le_refl _); replace b3 := b3.keep l2; replace b4 := b4.keep l2; replace hs := hs.keep l2; replace lr := Later.trans_ lr l2; clear l2 o12))
        replace b3 := b3.drew
        replace b4 := b4.drew
        replace b12 := b12.drew
        replace hs : Sl w2.drew 4 (some ad) mp (Ps l) := hs
        replace lr := lr.drew
        refine wp_region_held_drew (S := fun w' => World.rangeAt w' w.heap.size 0 [.slice A n c] ∧ World.rangeAt w' (w.heap.size + 1) 0 [.int .u32 B, .int .u32 (s : Int)] ∧ World.rangeAt w' wr.heap.size 0 (Pc q)) (by kernel_rfl) ⟨b3.range 0 1, b4.range 0 2, b12.range 0 4⟩ (fun hHeld => ?_)
        refine wpAnyH_take (i := 0) (oi := ⟨some 40, .fieldAddr 59 (.tmp 12) 0, _, _, _, none⟩) (v := .pointer (some ⟨wr.heap.size, 0, none⟩)) rfl (by kernel_rfl) (by kernel_rfl) (by kernel_rfl) (fun _ _ _ h => h) (Or.inl ⟨by rfl, fun w _ => by go_simp⟩) hHeld ?_
        simp only [Act.put, List.setIfInBounds_toArray, List.set_cons_zero, List.set_cons_succ]
        refine wpAnyH_take (i := 1) (oi := ⟨some 41, .load 3 (.tmp 40), _, _, _, none⟩) (v := .int .i64 q.1) rfl (by kernel_rfl) (by kernel_rfl) (by kernel_rfl) (fun _ _ _ h => h) (Or.inl ⟨by rfl, fun wz hSw => by have e1 : wz.cell? ⟨wr.heap.size, 0, none⟩ = some (.int .i64 q.1) := hSw.2.2 0 _ rfl; clear hSw; go_simp⟩) hHeld ?_
        simp only [Act.put, List.setIfInBounds_toArray, List.set_cons_zero, List.set_cons_succ]
        refine wpAnyH_take (i := 2) (oi := ⟨some 42, .binOp .lss 3 (.tmp 41) (.const (.int .i64 0)) 3, _, _, _, none⟩) (v := .bool false) rfl (by kernel_rfl) (by kernel_rfl) (by kernel_rfl) (fun _ _ _ h => h) (Or.inl ⟨by rfl, fun w _ => by go_simp⟩) hHeld ?_
        simp only [Act.put, List.setIfInBounds_toArray, List.set_cons_zero, List.set_cons_succ]
        refine wpAnyH_take (i := 3) (oi := ⟨some 43, .move (.tmp 42), _, _, _, none⟩) (v := .bool false) rfl (by kernel_rfl) (by kernel_rfl) (by kernel_rfl) (fun _ _ _ h => h) (Or.inl ⟨by rfl, fun _ _ => rfl⟩) hHeld ?_
        simp only [Act.put, List.setIfInBounds_toArray, List.set_cons_zero, List.set_cons_succ]
        refine wpAnyH_take (i := 4) (oi := ⟨some 44, .fieldAddr 59 (.tmp 12) 0, _, _, _, _⟩) (v := .pointer (some ⟨wr.heap.size, 0, none⟩)) rfl (by kernel_rfl) (by kernel_rfl) (by kernel_rfl) (fun _ _ _ h => h) (Or.inl ⟨by rfl, fun w _ => by go_simp⟩) hHeld ?_
        simp only [Act.put, List.setIfInBounds_toArray, List.set_cons_zero, List.set_cons_succ]
        refine wpAnyH_take (i := 5) (oi := ⟨some 45, .load 3 (.tmp 44), _, _, _, _⟩) (v := .int .i64 q.1) rfl (by kernel_rfl) (by kernel_rfl) (by kernel_rfl) (fun _ _ _ h => h) (Or.inl ⟨by rfl, fun wz hSw => by have e1 : wz.cell? ⟨wr.heap.size, 0, none⟩ = some (.int .i64 q.1) := hSw.2.2 0 _ rfl; clear hSw; go_simp⟩) hHeld ?_
        simp only [Act.put, List.setIfInBounds_toArray, List.set_cons_zero, List.set_cons_succ]
        refine wpAnyH_take (i := 6) (oi := ⟨some 46, .fieldAddr 27 (.tmp 4) 1, _, _, _, _⟩) (v := .pointer (some ⟨(w.heap.size + 1), 1, none⟩)) rfl (by kernel_rfl) (by kernel_rfl) (by kernel_rfl) (fun _ _ _ h => h) (Or.inl ⟨by rfl, fun w _ => by go_simp⟩) hHeld ?_
        simp only [Act.put, List.setIfInBounds_toArray, List.set_cons_zero, List.set_cons_succ]
        refine wpAnyH_take (i := 7) (oi := ⟨some 47, .load 25 (.tmp 46), _, _, _, _⟩) (v := .int .u32 (s : Int)) rfl (by kernel_rfl) (by kernel_rfl) (by kernel_rfl) (fun _ _ _ h => h) (Or.inl ⟨by rfl, fun wz hSw => by have e1 : wz.cell? ⟨(w.heap.size + 1), 1, none⟩ = some (.int .u32 (s : Int)) := hSw.2.1 1 _ rfl; clear hSw; go_simp⟩) hHeld ?_
        simp only [Act.put, List.setIfInBounds_toArray, List.set_cons_zero, List.set_cons_succ]
        refine wpAnyH_take (i := 8) (oi := ⟨some 48, .convert 25 3 (.tmp 47), _, _, _, _⟩) (v := .int .i64 (s : Int)) rfl (by kernel_rfl) (by kernel_rfl) (by kernel_rfl) (fun _ _ _ h => h) (Or.inl ⟨by rfl, fun w _ => by go_simp⟩) hHeld ?_
        simp only [Act.put, List.setIfInBounds_toArray, List.set_cons_zero, List.set_cons_succ]
        refine wpAnyH_take (i := 9) (oi := ⟨some 49, .binOp .geq 3 (.tmp 45) (.tmp 48) 3, _, _, _, _⟩) (v := .bool false) rfl (by kernel_rfl) (by kernel_rfl) (by kernel_rfl) (fun _ _ _ h => h) (Or.inl ⟨by rfl, fun w _ => by go_simp⟩) hHeld ?_
        simp only [Act.put, List.setIfInBounds_toArray, List.set_cons_zero, List.set_cons_succ]
        refine wpAnyH_take (i := 10) (oi := ⟨some 50, .pick (.tmp 43) (.const (.bool true)) (.tmp 49), _, _, _, none⟩) (v := .bool false) rfl (by kernel_rfl) (by kernel_rfl) (by kernel_rfl) (fun _ _ _ h => h) (Or.inl ⟨by rfl, fun w _ => by go_simp⟩) hHeld ?_
        simp only [Act.put, List.setIfInBounds_toArray, List.set_cons_zero, List.set_cons_succ]
        refine wpAnyH_take (i := 11) (oi := ⟨some 51, .move (.tmp 50), _, _, _, none⟩) (v := .bool false) rfl (by kernel_rfl) (by kernel_rfl) (by kernel_rfl) (fun _ _ _ h => h) (Or.inl ⟨by rfl, fun _ _ => rfl⟩) hHeld ?_
        simp only [Act.put, List.setIfInBounds_toArray, List.set_cons_zero, List.set_cons_succ]
        refine wpAnyH_take (i := 12) (oi := ⟨some 52, .fieldAddr 59 (.tmp 12) 2, _, _, _, _⟩) (v := .pointer (some ⟨wr.heap.size, 2, none⟩)) rfl (by kernel_rfl) (by kernel_rfl) (by kernel_rfl) (fun _ _ _ h => h) (Or.inl ⟨by rfl, fun w _ => by go_simp⟩) hHeld ?_
        simp only [Act.put, List.setIfInBounds_toArray, List.set_cons_zero, List.set_cons_succ]
        refine wpAnyH_take (i := 13) (oi := ⟨some 53, .load 3 (.tmp 52), _, _, _, _⟩) (v := .int .i64 q.2.2.1) rfl (by kernel_rfl) (by kernel_rfl) (by kernel_rfl) (fun _ _ _ h => h) (Or.inl ⟨by rfl, fun wz hSw => by have e1 : wz.cell? ⟨wr.heap.size, 2, none⟩ = some (.int .i64 q.2.2.1) := hSw.2.2 2 _ rfl; clear hSw; go_simp⟩) hHeld ?_
        simp only [Act.put, List.setIfInBounds_toArray, List.set_cons_zero, List.set_cons_succ]
        refine wpAnyH_take (i := 14) (oi := ⟨some 54, .binOp .lss 3 (.tmp 53) (.const (.int .i64 1)) 3, _, _, _, _⟩) (v := .bool false) rfl (by kernel_rfl) (by kernel_rfl) (by kernel_rfl) (fun _ _ _ h => h) (Or.inl ⟨by rfl, fun w _ => by go_simp⟩) hHeld ?_
        simp only [Act.put, List.setIfInBounds_toArray, List.set_cons_zero, List.set_cons_succ]
        refine wpAnyH_take (i := 15) (oi := ⟨some 55, .pick (.tmp 51) (.const (.bool true)) (.tmp 54), _, _, _, none⟩) (v := .bool false) rfl (by kernel_rfl) (by kernel_rfl) (by kernel_rfl) (fun _ _ _ h => h) (Or.inl ⟨by rfl, fun w _ => by go_simp⟩) hHeld ?_
        simp only [Act.put, List.setIfInBounds_toArray, List.set_cons_zero, List.set_cons_succ]
        refine wpAnyH_take (i := 16) (oi := ⟨some 56, .move (.tmp 55), _, _, _, none⟩) (v := .bool false) rfl (by kernel_rfl) (by kernel_rfl) (by kernel_rfl) (fun _ _ _ h => h) (Or.inl ⟨by rfl, fun _ _ => rfl⟩) hHeld ?_
        simp only [Act.put, List.setIfInBounds_toArray, List.set_cons_zero, List.set_cons_succ]
        refine wpAnyH_take (i := 17) (oi := ⟨some 57, .fieldAddr 59 (.tmp 12) 2, _, _, _, _⟩) (v := .pointer (some ⟨wr.heap.size, 2, none⟩)) rfl (by kernel_rfl) (by kernel_rfl) (by kernel_rfl) (fun _ _ _ h => h) (Or.inl ⟨by rfl, fun w _ => by go_simp⟩) hHeld ?_
        simp only [Act.put, List.setIfInBounds_toArray, List.set_cons_zero, List.set_cons_succ]
        refine wpAnyH_take (i := 18) (oi := ⟨some 58, .load 3 (.tmp 57), _, _, _, _⟩) (v := .int .i64 q.2.2.1) rfl (by kernel_rfl) (by kernel_rfl) (by kernel_rfl) (fun _ _ _ h => h) (Or.inl ⟨by rfl, fun wz hSw => by have e1 : wz.cell? ⟨wr.heap.size, 2, none⟩ = some (.int .i64 q.2.2.1) := hSw.2.2 2 _ rfl; clear hSw; go_simp⟩) hHeld ?_
        simp only [Act.put, List.setIfInBounds_toArray, List.set_cons_zero, List.set_cons_succ]
        refine wpAnyH_take (i := 19) (oi := ⟨some 59, .binOp .gtr 3 (.tmp 58) (.const (.int .i64 512)) 3, _, _, _, _⟩) (v := .bool false) rfl (by kernel_rfl) (by kernel_rfl) (by kernel_rfl) (fun _ _ _ h => h) (Or.inl ⟨by rfl, fun w _ => by go_simp⟩) hHeld ?_
        simp only [Act.put, List.setIfInBounds_toArray, List.set_cons_zero, List.set_cons_succ]
        refine wpAnyH_take (i := 20) (oi := ⟨some 60, .pick (.tmp 56) (.const (.bool true)) (.tmp 59), _, _, _, none⟩) (v := .bool false) rfl (by kernel_rfl) (by kernel_rfl) (by kernel_rfl) (fun _ _ _ h => h) (Or.inl ⟨by rfl, fun w _ => by go_simp⟩) hHeld ?_
        simp only [Act.put, List.setIfInBounds_toArray, List.set_cons_zero, List.set_cons_succ]
        refine wpAnyH_take (i := 21) (oi := ⟨some 61, .move (.tmp 60), _, _, _, none⟩) (v := .bool false) rfl (by kernel_rfl) (by kernel_rfl) (by kernel_rfl) (fun _ _ _ h => h) (Or.inl ⟨by rfl, fun _ _ => rfl⟩) hHeld ?_
        simp only [Act.put, List.setIfInBounds_toArray, List.set_cons_zero, List.set_cons_succ]
        refine wpAnyH_take (i := 22) (oi := ⟨some 62, .fieldAddr 59 (.tmp 12) 1, _, _, _, _⟩) (v := .pointer (some ⟨wr.heap.size, 1, none⟩)) rfl (by kernel_rfl) (by kernel_rfl) (by kernel_rfl) (fun _ _ _ h => h) (Or.inl ⟨by rfl, fun w _ => by go_simp⟩) hHeld ?_
        simp only [Act.put, List.setIfInBounds_toArray, List.set_cons_zero, List.set_cons_succ]
        refine wpAnyH_take (i := 23) (oi := ⟨some 63, .load 3 (.tmp 62), _, _, _, _⟩) (v := .int .i64 q.2.1) rfl (by kernel_rfl) (by kernel_rfl) (by kernel_rfl) (fun _ _ _ h => h) (Or.inl ⟨by rfl, fun wz hSw => by have e1 : wz.cell? ⟨wr.heap.size, 1, none⟩ = some (.int .i64 q.2.1) := hSw.2.2 1 _ rfl; clear hSw; go_simp⟩) hHeld ?_
        simp only [Act.put, List.setIfInBounds_toArray, List.set_cons_zero, List.set_cons_succ]
        refine wpAnyH_take (i := 24) (oi := ⟨some 64, .binOp .lss 3 (.tmp 63) (.const (.int .i64 0)) 3, _, _, _, _⟩) (v := .bool false) rfl (by kernel_rfl) (by kernel_rfl) (by kernel_rfl) (fun _ _ _ h => h) (Or.inl ⟨by rfl, fun w _ => by go_simp⟩) hHeld ?_
        simp only [Act.put, List.setIfInBounds_toArray, List.set_cons_zero, List.set_cons_succ]
        refine wpAnyH_take (i := 25) (oi := ⟨some 65, .pick (.tmp 61) (.const (.bool true)) (.tmp 64), _, _, _, none⟩) (v := .bool false) rfl (by kernel_rfl) (by kernel_rfl) (by kernel_rfl) (fun _ _ _ h => h) (Or.inl ⟨by rfl, fun w _ => by go_simp⟩) hHeld ?_
        simp only [Act.put, List.setIfInBounds_toArray, List.set_cons_zero, List.set_cons_succ]
        refine wpAnyH_take (i := 26) (oi := ⟨some 66, .move (.tmp 65), _, _, _, none⟩) (v := .bool false) rfl (by kernel_rfl) (by kernel_rfl) (by kernel_rfl) (fun _ _ _ h => h) (Or.inl ⟨by rfl, fun _ _ => rfl⟩) hHeld ?_
        simp only [Act.put, List.setIfInBounds_toArray, List.set_cons_zero, List.set_cons_succ]
        refine wpAnyH_take (i := 27) (oi := ⟨some 67, .fieldAddr 59 (.tmp 12) 1, _, _, _, _⟩) (v := .pointer (some ⟨wr.heap.size, 1, none⟩)) rfl (by kernel_rfl) (by kernel_rfl) (by kernel_rfl) (fun _ _ _ h => h) (Or.inl ⟨by rfl, fun w _ => by go_simp⟩) hHeld ?_
        simp only [Act.put, List.setIfInBounds_toArray, List.set_cons_zero, List.set_cons_succ]
        refine wpAnyH_take (i := 28) (oi := ⟨some 68, .load 3 (.tmp 67), _, _, _, _⟩) (v := .int .i64 q.2.1) rfl (by kernel_rfl) (by kernel_rfl) (by kernel_rfl) (fun _ _ _ h => h) (Or.inl ⟨by rfl, fun wz hSw => by have e1 : wz.cell? ⟨wr.heap.size, 1, none⟩ = some (.int .i64 q.2.1) := hSw.2.2 1 _ rfl; clear hSw; go_simp⟩) hHeld ?_
        simp only [Act.put, List.setIfInBounds_toArray, List.set_cons_zero, List.set_cons_succ]
        refine wpAnyH_take (i := 29) (oi := ⟨some 69, .fieldAddr 59 (.tmp 12) 2, _, _, _, _⟩) (v := .pointer (some ⟨wr.heap.size, 2, none⟩)) rfl (by kernel_rfl) (by kernel_rfl) (by kernel_rfl) (fun _ _ _ h => h) (Or.inl ⟨by rfl, fun w _ => by go_simp⟩) hHeld ?_
        simp only [Act.put, List.setIfInBounds_toArray, List.set_cons_zero, List.set_cons_succ]
        refine wpAnyH_take (i := 30) (oi := ⟨some 70, .load 3 (.tmp 69), _, _, _, _⟩) (v := .int .i64 q.2.2.1) rfl (by kernel_rfl) (by kernel_rfl) (by kernel_rfl) (fun _ _ _ h => h) (Or.inl ⟨by rfl, fun wz hSw => by have e1 : wz.cell? ⟨wr.heap.size, 2, none⟩ = some (.int .i64 q.2.2.1) := hSw.2.2 2 _ rfl; clear hSw; go_simp⟩) hHeld ?_
        simp only [Act.put, List.setIfInBounds_toArray, List.set_cons_zero, List.set_cons_succ]
        refine wpAnyH_take (i := 31) (oi := ⟨some 71, .binOp .add 3 (.tmp 68) (.tmp 70) 3, _, _, _, _⟩) (v := .int .i64 E0) rfl (by kernel_rfl) (by kernel_rfl) (by kernel_rfl) (fun _ _ _ h => h) (Or.inl ⟨by rfl, fun w _ => by go_simp⟩) hHeld ?_
        simp only [Act.put, List.setIfInBounds_toArray, List.set_cons_zero, List.set_cons_succ]
        refine wpAnyH_take (i := 32) (oi := ⟨some 72, .load 24 (.tmp 3), _, _, _, _⟩) (v := .agg ([.slice A n c]).toArray) rfl (by kernel_rfl) (by kernel_rfl) (by kernel_rfl) (fun _ _ _ h => h) (yieldsIf_load_mid (by rfl) _ _ rfl w.heap.size 0 rfl ([.slice A n c]) _ (fun wz hSw => hSw.1) Try.underlying24 rfl memS) hHeld ?_
        simp only [Act.put, List.setIfInBounds_toArray, List.set_cons_zero, List.set_cons_succ]
        refine wpAnyH_ready (rs := [33]) (by kernel_rfl) (by simp) (AllReadyH.cons (o := ⟨some 73, .call { callee := .value (.func 34), args := #[.tmp 72], argTypes := #[24] }, _, _, _, _⟩) rfl (fun K' hK => ?_) (AllReadyH.nil))
        go_simp
        (with_reducible refine (KZ.out _).mono ?_)
        rintro e w3 ⟨rfl, l3⟩
        replace b3 := b3.keep l3
        replace b4 := b4.keep l3
        replace hs := hs.keep l3
        replace b12 := b12.keep l3
        replace lr := Later.trans_ lr l3
        refine hK.out _ _ ⟨b3.range 0 1, b4.range 0 2, b12.range 0 4⟩ (fun hHeld => ?_)
        clear hK K'
        try simp only [Act.put, List.setIfInBounds_toArray, List.set_cons_zero, List.set_cons_succ]
        refine wpAnyH_take (i := 34) (oi := ⟨some 74, .binOp .gtr 3 (.tmp 71) (.tmp 73) 3, _, _, _, _⟩) (v := .bool false) rfl (by kernel_rfl) (by kernel_rfl) (by kernel_rfl) (fun _ _ _ h => h) (Or.inl ⟨by rfl, fun w _ => by go_simp⟩) hHeld ?_
        simp only [Act.put, List.setIfInBounds_toArray, List.set_cons_zero, List.set_cons_succ]
        refine wpAnyH_take (i := 35) (oi := ⟨some 75, .pick (.tmp 66) (.const (.bool true)) (.tmp 74), _, _, _, none⟩) (v := .bool false) rfl (by kernel_rfl) (by kernel_rfl) (by kernel_rfl) (fun _ _ _ h => h) (Or.inl ⟨by rfl, fun w _ => by go_simp⟩) hHeld ?_
        simp only [Act.put, List.setIfInBounds_toArray, List.set_cons_zero, List.set_cons_succ]
        refine wpAnyH_done (by kernel_rfl) ?_ _
        clear hHeld
        clear p1 p2 p3 p4 p5 p6 cE
        obtain ⟨G12, hG12⟩ : ∃ g, g = wr.heap.size := ⟨_, rfl⟩
        rw [← hG12] at b12 ⊢
        clear hG12
        go_upto_region 10 with fail
        go_wp2
        go_loopw [80] (fun v wi => ∃ j : Nat, j ≤ k ∧ v = .int .i64 (j : Int) ∧ Blk wi w.heap.size 24 [.slice A n c] ∧ Blk wi (w.heap.size + 1) 27 [.int .u32 B, .int .u32 (s : Int)] ∧ Sl wi 4 (some ad) mp (Ps l) ∧ Blk wi G12 59 (Pc q) ∧ Later w wi) (fun v _ => k - (intOf v).toNat)
        case atStart => exact ⟨0, Nat.zero_le _, rfl, b3, b4, hs, b12, lr⟩
        case round =>
          clear b3 b4 hs b12 lr
          obtain ⟨j, hj, rfl, b3, b4, hs, b12, lr⟩ := hrel
          by_cases hjk : j < k
          · have hjl : j < l.length := by omega
            have HCj := Lib.hid (hs.ptAt hjl hpl.out)
            obtain ⟨d1, d2⟩ := HD.out j hjk hjl
            have jn : (j : Int) < (k : Int) := by omega
            obtain ⟨p, hp'⟩ : ∃ p, p = l[j] := ⟨_, rfl⟩
            rw [← hp'] at HCj d1 d2
            clear hp'
            cases hp : p.2.2.2
            · obtain ⟨wq, hqw⟩ : ∃ z, q.2.2.2 = z := ⟨_, rfl⟩
              clear d2
              go_wp2_with (first
                | ((with_reducible refine wpList_load_addr (o := ⟨some 83, .load 59 (.tmp 82), _, _, _, none⟩) rfl _ _ rfl (ad.add (j * 4)) (Pc p) _ ?_ HCj.out Try.underlying59 rfl (pt_sz _) ?_); rfl)
                | ((with_reducible refine wpList_store_abs (o := ⟨none, .store 59 (.tmp 14) (.tmp 83), _, _, _, none⟩) rfl _ _ _ rfl wr.heap.size 59 ([.int .i64 0, .int .i64 0, .int .i64 0, .bool false]) (Pc p) ?_ ?_ ?_ ?_ ?_ ?_ ?_); rfl; rfl; exact (Blk.new _ _ _ _ rfl); exact (pt_sz _); rfl; exact (pt_one _); intro w4 b14 o14; have l4 := Below.only (later1 wr (.cells #[.int .i64 0, .int .i64 0, .int .i64 0, .bool false] 59)) o14 (Nat.le_refl _); replace b3 := b3.keep l4; replace b4 := b4.keep l4; replace hs := hs.keep l4; replace b12 := b12.keep l4; replace lr := Later.trans_ lr l4; have z0 := b14.cell (j := 0) (v := .int .i64 p.1) rfl; have z3 := b14.cell (j := 3) (v := .bool p.2.2.2) rfl; rw [hp] at z3; have y0 := b12.cell (j := 0) (v := .int .i64 q.1) rfl; have y3 := b12.cell (j := 3) (v := .bool q.2.2.2) rfl; rw [hqw] at y3))
              go_roundw
              case rel => exact ⟨j + 1, by omega, by go_num, b3, b4, hs, b12, lr⟩
              case measure => simp [intOf]; omega
            · have hqw := d2 hp
              clear d2
              go_wp2_with (first
                | ((with_reducible refine wpList_load_addr (o := ⟨some 83, .load 59 (.tmp 82), _, _, _, none⟩) rfl _ _ rfl (ad.add (j * 4)) (Pc p) _ ?_ HCj.out Try.underlying59 rfl (pt_sz _) ?_); rfl)
                | ((with_reducible refine wpList_store_abs (o := ⟨none, .store 59 (.tmp 14) (.tmp 83), _, _, _, none⟩) rfl _ _ _ rfl wr.heap.size 59 ([.int .i64 0, .int .i64 0, .int .i64 0, .bool false]) (Pc p) ?_ ?_ ?_ ?_ ?_ ?_ ?_); rfl; rfl; exact (Blk.new _ _ _ _ rfl); exact (pt_sz _); rfl; exact (pt_one _); intro w4 b14 o14; have l4 := Below.only (later1 wr (.cells #[.int .i64 0, .int .i64 0, .int .i64 0, .bool false] 59)) o14 (Nat.le_refl _); replace b3 := b3.keep l4; replace b4 := b4.keep l4; replace hs := hs.keep l4; replace b12 := b12.keep l4; replace lr := Later.trans_ lr l4; have z0 := b14.cell (j := 0) (v := .int .i64 p.1) rfl; have z3 := b14.cell (j := 3) (v := .bool p.2.2.2) rfl; rw [hp] at z3; have y0 := b12.cell (j := 0) (v := .int .i64 q.1) rfl; have y3 := b12.cell (j := 3) (v := .bool q.2.2.2) rfl; rw [hqw] at y3))
              go_roundw
              case rel => exact ⟨j + 1, by omega, by go_num, b3, b4, hs, b12, lr⟩
              case measure => simp [intOf]; omega
          · obtain rfl : j = k := by omega
            have nlt : ¬ ((j : Int) < (j : Int)) := by omega
            have y2 := b12.cell (j := 2) (v := .int .i64 q.2.2.1) rfl
            have hwT := wrap64 (T0 + q.2.2.1) (by omega) (by omega)
            go_wp2
            go_roundw
            case rel => exact ⟨j + 1, by omega, by go_num, by rw [HX.out], b3, b4, hs, lr⟩
            case measure => simp [intOf]; omega
      · obtain rfl : k = mp := by omega
        have nlt : ¬ ((k : Int) < (k : Int)) := by omega
        have hk4 : (k : Int) ≤ 4 := by omega
        have HTL : tot (l.take k) = TT := by rw [List.take_of_length_le (by rw [hpl.out]; exact Nat.le_refl _), ← hTT.out]
        rw [HTL]
        clear HTL t0 t1
        have KG := Lib.hid fun w' (kk : Later w w') (h : Sl w' 4 AP k (Ps l)) => KG0.out AP k cp w' kk h hpl.out
        have KO := Lib.hid fun w' (h : Sl w' 4 AP k (Ps l)) => KO0.out AP k cp w' h hpl.out
        go_wp2_with (first
      | (go_at_call 10; (with_reducible refine (KN.out _).mono ?_); rintro e v1 ⟨rfl, m1⟩; replace b3 := b3.keep m1; replace b4 := b4.keep m1; replace hs := hs.keep m1; replace lr := Later.trans_ lr m1)
      | ((with_reducible refine wpList_load_g (o := ⟨some 111, .load 24 (.tmp 3), _, _, _, _⟩) _ _ rfl w.heap.size 24 ([.slice A n c]) _ ?_ ?_ ?_ Try.underlying24 ?_ memS ?_); rfl; rfl; exact b3; rfl)
      | (go_at_call 26; (with_reducible refine (KG.out _ lr hs).mono ?_); rintro e v2 ⟨rfl, m2⟩; replace b3 := b3.keep m2; replace b4 := b4.keep m2; replace hs := hs.keep m2; replace lr := Later.trans_ lr m2)
      | (go_at_call 28; (with_reducible refine (KO.out _ hs).mono ?_); rintro e v3 ⟨rfl, m3⟩; replace b3 := b3.keep m3; replace b4 := b4.keep m3; replace hs := hs.keep m3; replace lr := Later.trans_ lr m3))
        go_ret
        exact ⟨rfl, lr⟩
theorem fit_all (A : Option Addr) (n c : Nat) (b : Wm.Bs) (B S : Int)  (i : Int) (w : World) (hs : Sl w 128 A n (U b)) (hb : Wm.isBs b) (hB : Tm.isE B) (hS : Tm.isE S) (hi0 : 0 ≤ i) (hi1 : i ≤ 255) : Calls Try.prog 7 #[.agg #[.slice A n c], .agg #[.int .u32 B, .int .u32 S], .int .u8 i] w fun e w' => e = .returned (.bool true) ∧ Later w w' := by
  obtain ⟨s, rfl⟩ := Int.eq_ofNat_of_zero_le hS.1
  by_cases h1 : 1 ≤ n ∧ n ≤ 64
  · by_cases h2 : Rg.Ok (n * 128) B s
    · exact fit_yes A n c b B s i w hs hb hB hS hi0 hi1 h1 h2
    · exact fit_no A n c B s i w hB hS (by rw [decide_eq_false h2, Bool.and_false])
  · exact fit_no A n c B s i w hB hS (by rw [decide_eq_false h1, Bool.false_and])

set_option maxRecDepth 100000 in
theorem ringPartsFit_lifted (os : Os) (started : os.Started) (H : Type) (enc : TypeId × Value → H) :
    ReturnsInHanded {} Try.checked os 7 .any (Rows.ringPartsFitSpec.pre6 enc Try.prog Try.f7 Rows.ringPartsFitRow.domain false) (Rows.ringPartsFitSpec.post enc Try.prog Try.f7 false true false false) := by
  refine returnsInHanded_of_change (C := Try.checked) ownK started (by kernel_rfl) Try.func7
    (ChangeSpec.witness6 (enc := enc) (C := Try.checked) false ⟨#[], #[.agg #[.slice none 0 0], .agg #[.int .u32 0, .int .u32 0], .int .u8 0], []⟩ 8 (by kernel_rfl) (by kernel_rfl) (by kernel_rfl) (by kernel_rfl)) ?_
  intro W base args ds gs before hval0 hW hcnd _
  have hval : ∀ (j : Nat) t v, Try.f7.params[j]? = some t → args[j]? = some v → Value.okWide Try.prog W .any base t v := hval0
  have hW' := hW
  obtain ⟨p, q, hA0, hV, rfl, hfz, hnd⟩ := hW
  have hA : DataW.TrodAll enc Try.prog W 0 (fun _ => true) true Try.f7.params.toList args.toList ds p := hA0
  rw [Try.params7] at hA hval
  obtain ⟨v0, vs0, d0, ds0, p0, q0, hargs, rfl, rfl, h0, r0⟩ := trodAll_cons hA
  obtain ⟨v1, vs1, d1, ds1, p1, q1, rfl, rfl, rfl, h1, r1⟩ := trodAll_cons r0
  obtain ⟨v2, vs2, d2, ds2, p2, q2, rfl, rfl, rfl, h2, r2⟩ := trodAll_cons r1
  obtain ⟨rfl, rfl, rfl⟩ := trodAll_nil r2
  obtain rfl : args = #[v0, v1, v2] := by cases args; simp_all
  obtain ⟨rfl, rfl⟩ := trodVars_none hV
  obtain ⟨A0, n0, c0, b0, rfl, x0, y0, s0, z0⟩ := mem_arg (K := 128) (by omega) Try.underlying24 rfl Try.underlying22 Try.underlying106 Try.underlying5 (by kernel_rfl) (by kernel_rfl) (by kernel_rfl) (by kernel_rfl) (hval 0 24 v0 rfl rfl) h0
  obtain ⟨B1, S1, rfl, zB1, zS1⟩ := ring_open (hval 1 27 v1 rfl rfl) h1
  obtain ⟨a2, rfl, _, _, w2⟩ := open_int Try.underlying5 (hval 2 5 v2 rfl rfl) h2
  have z2 : 0 ≤ a2 ∧ a2 ≤ 255 := by
    have e1 : IntKind.u8.min = 0 := rfl
    have e2 : IntKind.u8.max = 255 := rfl
    simp only [Lit.wf, Bool.and_eq_true, decide_eq_true_eq] at w2
    omega
  clear hA0 hval0
  simp only [List.append_nil] at hW'
  refine (fit_all A0 n0 c0 b0 B1 S1 a2 W s0 z0 zB1 zS1 z2.1 z2.2).mono fun e W' ⟨he, hw⟩ => ?_
  subst he
  exact ⟨_, rfl, law_post laidK rfl (by kernel_rfl) (by kernel_rfl) Try.underlying4 (by kernel_rfl) hW' rfl hw⟩
set_option maxRecDepth 100000 in
/-- The statement. -/
theorem ringPartsFit_said : Rows.RingPartsFitSaid :=
  OpenClaim.holds_of_wide 7 Try.f7 rfl rfl rfl rfl rfl rfl rfl ⟨rfl, rfl, rfl, rfl, rfl⟩ rfl rfl rfl rfl rfl (by kernel_rfl) Try.func7 (by kernel_rfl)
    (of_decide_eq_true (by kernel_rfl)) (by unfold Func.isWrapper; first | (rw [if_pos (by decide +kernel)]; kernel_rfl) | (rw [if_neg (by decide +kernel)]; exact ⟨rfl, rfl⟩))
    (fun os started H enc _ => ringPartsFit_lifted os started H enc)
#print axioms ringPartsFit_said
end Go.Proofs.Ytffgbbfcbobecaa
