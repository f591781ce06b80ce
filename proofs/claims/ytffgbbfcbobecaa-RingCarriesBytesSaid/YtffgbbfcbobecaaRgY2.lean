/-
  A RING: apart of the law package, where it holds; and what requests leave as it was.
-/
import Derived.Test.YtffgbbfcbobecaaRgY
namespace Go.Proofs.Ytffgbbfcbobecaa
open Go.RowKit Go.ChangeShapes Go.WideShapes Go.ChangeAt

/-- A byte lies at a part. -/
def hit (i : Nat) (p : Rg.Pt) : Bool := decide (p.2.1 ≤ (i : Int)) && decide ((i : Int) < p.2.1 + p.2.2.1)
/-- Two memories are the same but for some places. -/
def Apart (a b : Wm.Bs) (l : List Rg.Pt) : Prop := ∀ i, i < a.length → a[i]? = b[i]? ∨ l.any (hit i) = true
theorem any_succ (f : Rg.Pt → Bool) (l : List Rg.Pt) {k : Nat} (hk : k < l.length) : (l.take (k + 1)).any f = ((l.take k).any f || f l[k]) := by
  rw [List.take_succ_eq_append_getElem hk, List.any_append]
  simp
theorem st_get {m : Wm.Bs} {a s v : Int} {i : Nat} (hi : hit i (0, a, s, false) = false) : (Mm.st m a s v)[i]? = m[i]? := by
  unfold Mm.st
  split
  · rename_i h
    obtain ⟨h1, h2, h3⟩ := h
    rw [Mm.put_get (by rw [Mm.el_len]; omega), Mm.el_len]
    have : ¬ (a ≤ (i : Int) ∧ (i : Int) < a + s) := by
      intro ⟨c1, c2⟩
      unfold hit at hi
      rw [decide_eq_true (show (0, a, s, false).2.1 ≤ (i : Int) from c1), decide_eq_true (show (i : Int) < (0, a, s, false).2.1 + (0, a, s, false).2.2.1 from c2)] at hi
      cases hi
    by_cases c : i < a.toNat
    · rw [if_pos c]
    · rw [if_neg c, if_neg (by omega)]
  · rfl
theorem wr_get {m d : Wm.Bs} {p : Rg.Pt} {i : Nat} (h0 : 0 ≤ p.2.1) (hd : (d.length : Int) ≤ p.2.2.1) (hi : hit i p = false) : (Mm.wr m p.2.1 d)[i]? = m[i]? := by
  unfold Mm.wr
  split
  · rename_i h
    obtain ⟨h1, h2, h3⟩ := h
    rw [Mm.put_get (by omega)]
    have : ¬ (p.2.1 ≤ (i : Int) ∧ (i : Int) < p.2.1 + p.2.2.1) := by
      intro ⟨c1, c2⟩
      unfold hit at hi
      rw [decide_eq_true c1, decide_eq_true c2] at hi
      cases hi
    by_cases c : i < p.2.1.toNat
    · rw [if_pos c]
    · rw [if_neg c, if_neg (by omega)]
  · rfl
/-- The status of a descriptor, as a place. -/
theorem stat_get {b : Wm.Bs} {B j v : Int} {i : Nat} (hi : hit i (stP B j) = false) : (Rg.stat b B j v)[i]? = b[i]? := st_get hi
theorem mark_get {B v : Int} {i : Nat} : ∀ (l : List Rg.Pt) (b : Wm.Bs), (l.map fun p => stP B p.1).any (hit i) = false → (Rg.mark b B l v)[i]? = b[i]? := by
  intro l
  induction l with
  | nil => intro b _; rfl
  | cons p r ih =>
    intro b h
    rw [List.map_cons, List.any_cons, Bool.or_eq_false_iff] at h
    show (Rg.mark (Rg.stat b B p.1 v) B r v)[i]? = _
    rw [ih _ h.2, stat_get h.1]
theorem apart_mark (b : Wm.Bs) (B v : Int) (l : List Rg.Pt) : Apart b (Rg.mark b B l v) (l.map fun p => stP B p.1) := by
  intro i _
  cases h : (l.map fun p => stP B p.1).any (hit i)
  · left; rw [mark_get l b h]
  · exact .inr rfl
theorem apart_err {L : Nat} {b : Wm.Bs} {B S i : Int} (h : Rg.takE L b B S i ≠ 0) : Apart b (Rg.takM L b B S i) [stP B i] := by
  intro j _
  unfold Rg.takM
  rw [if_neg h]
  split
  · cases h : hit j (stP B i)
    · left; rw [stat_get h]
    · right; simp [h]
  · exact .inl rfl
theorem apart_scat (D : Wm.Bs) {l : List Rg.Pt} {b : Wm.Bs} (h : ∀ p ∈ l, 0 ≤ p.2.1 ∧ 1 ≤ p.2.2.1) : Apart b (scF b D l).1 (l.filter fun p => p.2.2.2) := by
  intro i _
  cases hh : (l.filter fun p => p.2.2.2).any (hit i)
  · left
    unfold scF
    have : ∀ (l : List Rg.Pt) (s : Wm.Bs × Nat), (∀ p ∈ l, 0 ≤ p.2.1 ∧ 1 ≤ p.2.2.1) → (l.filter fun p => p.2.2.2).any (hit i) = false → s.1[i]? = (l.foldl (scStep D) s).1[i]? := by
      intro l
      induction l with
      | nil => intro s _ _; rfl
      | cons p r ih =>
        intro s h hh
        obtain ⟨h1, h2⟩ := h p List.mem_cons_self
        rw [List.foldl_cons]
        rw [List.filter_cons] at hh
        cases hw : p.2.2.2
        · rw [hw] at hh
          rw [← ih _ (fun q hq => h q (List.mem_cons_of_mem _ hq)) hh]
          unfold scStep
          rw [if_neg (by rw [hw]; decide)]
        · rw [hw] at hh
          rw [if_pos rfl, List.any_cons, Bool.or_eq_false_iff] at hh
          rw [← ih _ (fun q hq => h q (List.mem_cons_of_mem _ hq)) hh.2]
          unfold scStep
          rw [if_pos hw]
          exact (wr_get h1 (by rw [List.length_take]; omega) hh.1).symm
    exact this l (b, 0) h hh
  · exact .inr rfl
set_option maxRecDepth 100000 in
set_option maxHeartbeats 8000000 in
theorem apart_any (A : Option Addr) (n c : Nat) (a : Wm.Bs) (A2 : Option Addr) (c2 : Nat) (b : Wm.Bs) (AP : Option Addr) (mp cp : Nat) (l : List Rg.Pt) (w : World) (hs : Sl w 128 A n (U a)) (hs2 : Sl w 128 A2 n (U b)) (hn : n ≤ 64) (hp : Sl w 4 AP mp (Ps l)) (hl : l.length = mp) (hm : mp ≤ 1000) (hE : ∀ p ∈ l, 0 ≤ p.2.1 ∧ p.2.1 ≤ 1000000 ∧ 0 ≤ p.2.2.1 ∧ p.2.2.1 ≤ 1000000) (hab : Apart a b l) :
    Calls Try.prog 30 #[.agg #[.slice A n c], .agg #[.slice A2 n c2], .slice AP mp cp] w fun e w' => e = .returned (.bool true) ∧ Later w w' := by
  have hal : a.length = n * 128 := by have := hs.1; rwa [U_length] at this
  have hbl : b.length = n * 128 := by have := hs2.1; rwa [U_length] at this
  have HLL := Lib.hid hl
  have HE := Lib.hid hE
  have HAB := Lib.hid fun i (h : i < n * 128) => hab i (by rw [hal]; exact h)
  have KZ := Lib.hid fun w' => size_any A n c w' hn
  obtain ⟨NN, hNN⟩ : ∃ z, z = n * 128 := ⟨_, rfl⟩
  rw [← hNN] at KZ HAB
  have hNb : NN ≤ 8192 := by omega
  have HNN := Lib.hid hNN
  have HAL := Lib.hid hal
  have HBL := Lib.hid hbl
  clear hl hE hab hNN hal hbl
  have b3 : Blk _ w.heap.size 24 ([.slice A n c]) := ((Blk.new' w w.heap.size 24 ([.slice A n c]).toArray ([.slice A n c]) (by simp) rfl).alloc (.cells ([.slice A2 n c2]).toArray 24))
  have b4 : Blk _ (w.heap.size + 1) 24 ([.slice A2 n c2]) := (Blk.new' (w.alloc (.cells ([.slice A n c]).toArray 24)) (w.heap.size + 1) 24 ([.slice A2 n c2]).toArray ([.slice A2 n c2]) (by simp) rfl)
  have lw := ((later1 w (.cells ([.slice A n c]).toArray 24)).alloc (by simp; try omega) (.cells ([.slice A2 n c2]).toArray 24))
  obtain ⟨u0, hu⟩ : ∃ u, ((w.alloc (.cells ([.slice A n c]).toArray 24)).alloc (.cells ([.slice A2 n c2]).toArray 24)) = u := ⟨_, rfl⟩
  rw [hu] at b3 b4 lw
  replace hs := hs.keep lw
  replace hs2 := hs2.keep lw
  replace hp := hp.keep lw
  go_enter Try.func30, Try.ntmps30
  go_upto_region 1 with fail
  have hu2 : ((w.alloc (.cells #[.slice A n c] 24)).alloc (.cells #[.slice A2 n c2] 24)) = u0 := hu
  try rw [hu2]
  clear hu hu2
  have e1 := b3.cell (j := 0) (v := .slice A n c) rfl
  have e2 := b4.cell (j := 0) (v := .slice A2 n c2) rfl
  go_upto_region 3 with fail
  clear e1 e2
  go_upto_region 4 with (first
    | ((with_reducible refine wpList_load_blk (o := ⟨some 18, .load 24 (.tmp 3), _, _, _, none⟩) rfl _ _ rfl w.heap.size 24 ([.slice A n c]) _ ?_ ?_ Try.underlying24 rfl memS ?_); rfl; exact b3)
    | (go_at_call 34; (with_reducible refine (KZ.out _).mono ?_); rintro e w1 ⟨rfl, l1⟩; replace b3 := b3.keep l1; replace b4 := b4.keep l1; replace hs := hs.keep l1; replace hs2 := hs2.keep l1; replace hp := hp.keep l1; replace lw := Later.trans_ lw l1))
  go_loopw [20] (fun v wr => ∃ i : Nat, i ≤ NN ∧ v = .int .i64 (i : Int) ∧ Blk wr w.heap.size 24 [.slice A n c] ∧ Blk wr (w.heap.size + 1) 24 [.slice A2 n c2] ∧ Sl wr 128 A n (U a) ∧ Sl wr 128 A2 n (U b) ∧ Sl wr 4 AP mp (Ps l) ∧ Later w wr) (fun v _ => NN - (intOf v).toNat)
  case atStart => exact ⟨0, Nat.zero_le _, rfl, b3, b4, hs, hs2, hp, lw⟩
  case round =>
    clear b3 b4 hs hs2 hp lw
    rename_i wr
    obtain ⟨i, hi, rfl, b3, b4, hs, hs2, hp, lr⟩ := hrel
    by_cases hlt : i < NN
    · have hNN := HNN.out
      have hal := HAL.out
      have hbl := HBL.out
      obtain ⟨ad, hA⟩ := hs.addr (by omega)
      subst hA
      obtain ⟨ad2, hA⟩ := hs2.addr (by omega)
      subst hA
      obtain ⟨x, hx⟩ : ∃ x, a[i]? = some x := ⟨_, List.getElem?_eq_getElem (by omega)⟩
      obtain ⟨y, hy⟩ : ∃ y, b[i]? = some y := ⟨_, List.getElem?_eq_getElem (by omega)⟩
      have HB := HAB.out i hlt
      rw [hx, hy] at HB
      obtain ⟨pq, hpq⟩ : ∃ z, z = i / 128 := ⟨_, rfl⟩
      obtain ⟨pr, hpr⟩ : ∃ z, z = i % 128 := ⟨_, rfl⟩
      have hqr : pq * 128 + pr = i := by omega
      have HX := Lib.hid fun w' (h : Sl w' 128 (some ad) n (U a)) => (show w'.cell? ((ad.add (pq * 128)).add pr) = some (.int .u8 x) from by
        obtain ⟨_, e, _, hcell⟩ := h.2 (by omega)
        cases e
        rw [addr_add_add, hqr]
        have := U_get a i (by omega)
        rw [List.getD_eq_getElem?_getD, hx] at this
        exact hcell i _ this)
      have HY := Lib.hid fun w' (h : Sl w' 128 (some ad2) n (U b)) => (show w'.cell? ((ad2.add (pq * 128)).add pr) = some (.int .u8 y) from by
        obtain ⟨_, e, _, hcell⟩ := h.2 (by omega)
        cases e
        rw [addr_add_add, hqr]
        have := U_get b i (by omega)
        rw [List.getD_eq_getElem?_getD, hy] at this
        exact hcell i _ this)
      have kn : (i : Int) < (NN : Int) := by omega
      have t1 : ((i : Int).tdiv 128) = (pq : Int) := by rw [Int.tdiv_eq_ediv_of_nonneg (by omega), hpq]; rfl
      have t2 : ((i : Int).tmod 128) = (pr : Int) := by rw [Int.tmod_eq_emod_of_nonneg (by omega), hpr]; rfl
      have t3 : (i : Int) / 128 = (pq : Int) := by rw [hpq]; rfl
      have t4 : (i : Int) % 128 = (pr : Int) := by rw [hpr]; rfl
      have b1' : (pq : Int) < (n : Int) := by omega
      have b2' : (pr : Int) < 128 := by omega
      have cq := wrap64 (pq : Int) (by omega) (by omega)
      have cr := wrap64 (pr : Int) (by omega) (by omega)
      clear hx hy hpq hpr hqr hNN hal hbl
      by_cases hxy : x = y
      · subst hxy
        clear HB
        go_upto_region 6 with fail
        replace b3 := b3.drew
        replace b4 := b4.drew
        replace lr := lr.drew
        replace hs : Sl wr.drew 128 (some ad) n (U a) := hs
        replace hs2 : Sl wr.drew 128 (some ad2) n (U b) := hs2
        replace hp : Sl wr.drew 4 AP mp (Ps l) := hp
        refine wp_region_held_drew (S := fun w' => World.rangeAt w' w.heap.size 0 [.slice (some ad) n c] ∧ World.rangeAt w' (w.heap.size + 1) 0 [.slice (some ad2) n c2] ∧ w'.cell? ((ad.add (pq * 128)).add pr) = some (.int .u8 x) ∧ w'.cell? ((ad2.add (pq * 128)).add pr) = some (.int .u8 x)) (by kernel_rfl) ⟨b3.range 0 1, b4.range 0 1, HX.out _ hs, HY.out _ hs2⟩ (fun hHeld => ?_)
        refine wpAnyH_take (i := 0) (oi := ⟨some 23, .fieldAddr 24 (.tmp 3) 0, _, _, _, none⟩) (v := .pointer (some ⟨w.heap.size, 0, none⟩)) rfl (by kernel_rfl) (by kernel_rfl) (by kernel_rfl) (fun _ _ _ h => h) (Or.inl ⟨by rfl, fun w _ => by go_simp⟩) hHeld ?_
        simp only [Act.put, List.setIfInBounds_toArray, List.set_cons_zero, List.set_cons_succ]
        refine wpAnyH_take (i := 1) (oi := ⟨some 24, .load 22 (.tmp 23), _, _, _, none⟩) (v := .slice (some ad) n c) rfl (by kernel_rfl) (by kernel_rfl) (by kernel_rfl) (fun _ _ _ h => h) (Or.inl ⟨by rfl, fun wz hSw => by have e1 : wz.cell? ⟨w.heap.size, 0, none⟩ = some (.slice (some ad) n c) := hSw.1 0 _ rfl; clear hSw; go_simp⟩) hHeld ?_
        simp only [Act.put, List.setIfInBounds_toArray, List.set_cons_zero, List.set_cons_succ]
        refine wpAnyH_take (i := 2) (oi := ⟨some 25, .move (.tmp 7), _, _, _, none⟩) (v := .int .i64 (i : Int)) rfl (by kernel_rfl) (by kernel_rfl) (by kernel_rfl) (fun _ _ _ h => h) (Or.inl ⟨by rfl, fun _ _ => rfl⟩) hHeld ?_
        simp only [Act.put, List.setIfInBounds_toArray, List.set_cons_zero, List.set_cons_succ]
        refine wpAnyH_take (i := 3) (oi := ⟨some 26, .binOp .quo 3 (.tmp 25) (.const (.int .i64 128)) 3, _, _, _, none⟩) (v := .int .i64 (pq : Int)) rfl (by kernel_rfl) (by kernel_rfl) (by kernel_rfl) (fun _ _ _ h => h) (Or.inl ⟨by rfl, fun w _ => by go_simp⟩) hHeld ?_
        simp only [Act.put, List.setIfInBounds_toArray, List.set_cons_zero, List.set_cons_succ]
        refine wpAnyH_take (i := 4) (oi := ⟨some 27, .move (.tmp 7), _, _, _, none⟩) (v := .int .i64 (i : Int)) rfl (by kernel_rfl) (by kernel_rfl) (by kernel_rfl) (fun _ _ _ h => h) (Or.inl ⟨by rfl, fun _ _ => rfl⟩) hHeld ?_
        simp only [Act.put, List.setIfInBounds_toArray, List.set_cons_zero, List.set_cons_succ]
        refine wpAnyH_take (i := 5) (oi := ⟨some 28, .binOp .rem 3 (.tmp 27) (.const (.int .i64 128)) 3, _, _, _, none⟩) (v := .int .i64 (pr : Int)) rfl (by kernel_rfl) (by kernel_rfl) (by kernel_rfl) (fun _ _ _ h => h) (Or.inl ⟨by rfl, fun w _ => by go_simp⟩) hHeld ?_
        simp only [Act.put, List.setIfInBounds_toArray, List.set_cons_zero, List.set_cons_succ]
        refine wpAnyH_take (i := 6) (oi := ⟨some 29, .indexAddr 22 (.tmp 24) (.tmp 26), _, _, _, none⟩) (v := .pointer (some (ad.add (pq * 128)))) rfl (by kernel_rfl) (by kernel_rfl) (by kernel_rfl) (fun _ _ _ h => h) (Or.inl ⟨by rfl, fun w _ => by go_simp⟩) hHeld ?_
        simp only [Act.put, List.setIfInBounds_toArray, List.set_cons_zero, List.set_cons_succ]
        refine wpAnyH_take (i := 7) (oi := ⟨some 30, .indexAddr 106 (.tmp 29) (.tmp 28), _, _, _, none⟩) (v := .pointer (some ((ad.add (pq * 128)).add pr))) rfl (by kernel_rfl) (by kernel_rfl) (by kernel_rfl) (fun _ _ _ h => h) (Or.inl ⟨by rfl, fun w _ => by go_simp⟩) hHeld ?_
        simp only [Act.put, List.setIfInBounds_toArray, List.set_cons_zero, List.set_cons_succ]
        refine wpAnyH_take (i := 8) (oi := ⟨some 31, .load 5 (.tmp 30), _, _, _, none⟩) (v := .int .u8 x) rfl (by kernel_rfl) (by kernel_rfl) (by kernel_rfl) (fun _ _ _ h => h) (Or.inl ⟨by rfl, fun wz hSw => by have e1 := hSw.2.2.1; clear hSw; go_simp⟩) hHeld ?_
        simp only [Act.put, List.setIfInBounds_toArray, List.set_cons_zero, List.set_cons_succ]
        refine wpAnyH_take (i := 9) (oi := ⟨some 32, .fieldAddr 24 (.tmp 4) 0, _, _, _, none⟩) (v := .pointer (some ⟨(w.heap.size + 1), 0, none⟩)) rfl (by kernel_rfl) (by kernel_rfl) (by kernel_rfl) (fun _ _ _ h => h) (Or.inl ⟨by rfl, fun w _ => by go_simp⟩) hHeld ?_
        simp only [Act.put, List.setIfInBounds_toArray, List.set_cons_zero, List.set_cons_succ]
        refine wpAnyH_take (i := 10) (oi := ⟨some 33, .load 22 (.tmp 32), _, _, _, none⟩) (v := .slice (some ad2) n c2) rfl (by kernel_rfl) (by kernel_rfl) (by kernel_rfl) (fun _ _ _ h => h) (Or.inl ⟨by rfl, fun wz hSw => by have e1 : wz.cell? ⟨(w.heap.size + 1), 0, none⟩ = some (.slice (some ad2) n c2) := hSw.2.1 0 _ rfl; clear hSw; go_simp⟩) hHeld ?_
        simp only [Act.put, List.setIfInBounds_toArray, List.set_cons_zero, List.set_cons_succ]
        refine wpAnyH_take (i := 11) (oi := ⟨some 34, .move (.tmp 7), _, _, _, none⟩) (v := .int .i64 (i : Int)) rfl (by kernel_rfl) (by kernel_rfl) (by kernel_rfl) (fun _ _ _ h => h) (Or.inl ⟨by rfl, fun _ _ => rfl⟩) hHeld ?_
        simp only [Act.put, List.setIfInBounds_toArray, List.set_cons_zero, List.set_cons_succ]
        refine wpAnyH_take (i := 12) (oi := ⟨some 35, .binOp .quo 3 (.tmp 34) (.const (.int .i64 128)) 3, _, _, _, none⟩) (v := .int .i64 (pq : Int)) rfl (by kernel_rfl) (by kernel_rfl) (by kernel_rfl) (fun _ _ _ h => h) (Or.inl ⟨by rfl, fun w _ => by go_simp⟩) hHeld ?_
        simp only [Act.put, List.setIfInBounds_toArray, List.set_cons_zero, List.set_cons_succ]
        refine wpAnyH_take (i := 13) (oi := ⟨some 36, .move (.tmp 7), _, _, _, none⟩) (v := .int .i64 (i : Int)) rfl (by kernel_rfl) (by kernel_rfl) (by kernel_rfl) (fun _ _ _ h => h) (Or.inl ⟨by rfl, fun _ _ => rfl⟩) hHeld ?_
        simp only [Act.put, List.setIfInBounds_toArray, List.set_cons_zero, List.set_cons_succ]
        refine wpAnyH_take (i := 14) (oi := ⟨some 37, .binOp .rem 3 (.tmp 36) (.const (.int .i64 128)) 3, _, _, _, none⟩) (v := .int .i64 (pr : Int)) rfl (by kernel_rfl) (by kernel_rfl) (by kernel_rfl) (fun _ _ _ h => h) (Or.inl ⟨by rfl, fun w _ => by go_simp⟩) hHeld ?_
        simp only [Act.put, List.setIfInBounds_toArray, List.set_cons_zero, List.set_cons_succ]
        refine wpAnyH_take (i := 15) (oi := ⟨some 38, .indexAddr 22 (.tmp 33) (.tmp 35), _, _, _, none⟩) (v := .pointer (some (ad2.add (pq * 128)))) rfl (by kernel_rfl) (by kernel_rfl) (by kernel_rfl) (fun _ _ _ h => h) (Or.inl ⟨by rfl, fun w _ => by go_simp⟩) hHeld ?_
        simp only [Act.put, List.setIfInBounds_toArray, List.set_cons_zero, List.set_cons_succ]
        refine wpAnyH_take (i := 16) (oi := ⟨some 39, .indexAddr 106 (.tmp 38) (.tmp 37), _, _, _, none⟩) (v := .pointer (some ((ad2.add (pq * 128)).add pr))) rfl (by kernel_rfl) (by kernel_rfl) (by kernel_rfl) (fun _ _ _ h => h) (Or.inl ⟨by rfl, fun w _ => by go_simp⟩) hHeld ?_
        simp only [Act.put, List.setIfInBounds_toArray, List.set_cons_zero, List.set_cons_succ]
        refine wpAnyH_take (i := 17) (oi := ⟨some 40, .load 5 (.tmp 39), _, _, _, none⟩) (v := .int .u8 x) rfl (by kernel_rfl) (by kernel_rfl) (by kernel_rfl) (fun _ _ _ h => h) (Or.inl ⟨by rfl, fun wz hSw => by have e1 := hSw.2.2.2; clear hSw; go_simp⟩) hHeld ?_
        simp only [Act.put, List.setIfInBounds_toArray, List.set_cons_zero, List.set_cons_succ]
        refine wpAnyH_take (i := 18) (oi := ⟨some 41, .binOp .eql 5 (.tmp 31) (.tmp 40) 5, _, _, _, none⟩) (v := .bool true) rfl (by kernel_rfl) (by kernel_rfl) (by kernel_rfl) (fun _ _ _ h => h) (Or.inl ⟨by rfl, fun w _ => by go_simp⟩) hHeld ?_
        simp only [Act.put, List.setIfInBounds_toArray, List.set_cons_zero, List.set_cons_succ]
        refine wpAnyH_done (by kernel_rfl) ?_ _
        clear hHeld
        go_wp2
        go_roundw
        case rel => exact ⟨i + 1, by omega, by go_num, b3, b4, hs, hs2, hp, lr⟩
        case measure => simp [intOf]; omega
      · have hany : l.any (hit i) = true := by
          rcases HB with h | h
          · injection h with h; exact absurd h hxy
          · exact h
        have hxy2 : (x == y) = false := beq_false_of_ne hxy
        clear HB
        go_upto_region 6 with fail
        replace b3 := b3.drew
        replace b4 := b4.drew
        replace lr := lr.drew
        replace hs : Sl wr.drew 128 (some ad) n (U a) := hs
        replace hs2 : Sl wr.drew 128 (some ad2) n (U b) := hs2
        replace hp : Sl wr.drew 4 AP mp (Ps l) := hp
        refine wp_region_held_drew (S := fun w' => World.rangeAt w' w.heap.size 0 [.slice (some ad) n c] ∧ World.rangeAt w' (w.heap.size + 1) 0 [.slice (some ad2) n c2] ∧ w'.cell? ((ad.add (pq * 128)).add pr) = some (.int .u8 x) ∧ w'.cell? ((ad2.add (pq * 128)).add pr) = some (.int .u8 y)) (by kernel_rfl) ⟨b3.range 0 1, b4.range 0 1, HX.out _ hs, HY.out _ hs2⟩ (fun hHeld => ?_)
        refine wpAnyH_take (i := 0) (oi := ⟨some 23, .fieldAddr 24 (.tmp 3) 0, _, _, _, none⟩) (v := .pointer (some ⟨w.heap.size, 0, none⟩)) rfl (by kernel_rfl) (by kernel_rfl) (by kernel_rfl) (fun _ _ _ h => h) (Or.inl ⟨by rfl, fun w _ => by go_simp⟩) hHeld ?_
        simp only [Act.put, List.setIfInBounds_toArray, List.set_cons_zero, List.set_cons_succ]
        refine wpAnyH_take (i := 1) (oi := ⟨some 24, .load 22 (.tmp 23), _, _, _, none⟩) (v := .slice (some ad) n c) rfl (by kernel_rfl) (by kernel_rfl) (by kernel_rfl) (fun _ _ _ h => h) (Or.inl ⟨by rfl, fun wz hSw => by have e1 : wz.cell? ⟨w.heap.size, 0, none⟩ = some (.slice (some ad) n c) := hSw.1 0 _ rfl; clear hSw; go_simp⟩) hHeld ?_
        simp only [Act.put, List.setIfInBounds_toArray, List.set_cons_zero, List.set_cons_succ]
        refine wpAnyH_take (i := 2) (oi := ⟨some 25, .move (.tmp 7), _, _, _, none⟩) (v := .int .i64 (i : Int)) rfl (by kernel_rfl) (by kernel_rfl) (by kernel_rfl) (fun _ _ _ h => h) (Or.inl ⟨by rfl, fun _ _ => rfl⟩) hHeld ?_
        simp only [Act.put, List.setIfInBounds_toArray, List.set_cons_zero, List.set_cons_succ]
        refine wpAnyH_take (i := 3) (oi := ⟨some 26, .binOp .quo 3 (.tmp 25) (.const (.int .i64 128)) 3, _, _, _, none⟩) (v := .int .i64 (pq : Int)) rfl (by kernel_rfl) (by kernel_rfl) (by kernel_rfl) (fun _ _ _ h => h) (Or.inl ⟨by rfl, fun w _ => by go_simp⟩) hHeld ?_
        simp only [Act.put, List.setIfInBounds_toArray, List.set_cons_zero, List.set_cons_succ]
        refine wpAnyH_take (i := 4) (oi := ⟨some 27, .move (.tmp 7), _, _, _, none⟩) (v := .int .i64 (i : Int)) rfl (by kernel_rfl) (by kernel_rfl) (by kernel_rfl) (fun _ _ _ h => h) (Or.inl ⟨by rfl, fun _ _ => rfl⟩) hHeld ?_
        simp only [Act.put, List.setIfInBounds_toArray, List.set_cons_zero, List.set_cons_succ]
        refine wpAnyH_take (i := 5) (oi := ⟨some 28, .binOp .rem 3 (.tmp 27) (.const (.int .i64 128)) 3, _, _, _, none⟩) (v := .int .i64 (pr : Int)) rfl (by kernel_rfl) (by kernel_rfl) (by kernel_rfl) (fun _ _ _ h => h) (Or.inl ⟨by rfl, fun w _ => by go_simp⟩) hHeld ?_
        simp only [Act.put, List.setIfInBounds_toArray, List.set_cons_zero, List.set_cons_succ]
        refine wpAnyH_take (i := 6) (oi := ⟨some 29, .indexAddr 22 (.tmp 24) (.tmp 26), _, _, _, none⟩) (v := .pointer (some (ad.add (pq * 128)))) rfl (by kernel_rfl) (by kernel_rfl) (by kernel_rfl) (fun _ _ _ h => h) (Or.inl ⟨by rfl, fun w _ => by go_simp⟩) hHeld ?_
        simp only [Act.put, List.setIfInBounds_toArray, List.set_cons_zero, List.set_cons_succ]
        refine wpAnyH_take (i := 7) (oi := ⟨some 30, .indexAddr 106 (.tmp 29) (.tmp 28), _, _, _, none⟩) (v := .pointer (some ((ad.add (pq * 128)).add pr))) rfl (by kernel_rfl) (by kernel_rfl) (by kernel_rfl) (fun _ _ _ h => h) (Or.inl ⟨by rfl, fun w _ => by go_simp⟩) hHeld ?_
        simp only [Act.put, List.setIfInBounds_toArray, List.set_cons_zero, List.set_cons_succ]
        refine wpAnyH_take (i := 8) (oi := ⟨some 31, .load 5 (.tmp 30), _, _, _, none⟩) (v := .int .u8 x) rfl (by kernel_rfl) (by kernel_rfl) (by kernel_rfl) (fun _ _ _ h => h) (Or.inl ⟨by rfl, fun wz hSw => by have e1 := hSw.2.2.1; clear hSw; go_simp⟩) hHeld ?_
        simp only [Act.put, List.setIfInBounds_toArray, List.set_cons_zero, List.set_cons_succ]
        refine wpAnyH_take (i := 9) (oi := ⟨some 32, .fieldAddr 24 (.tmp 4) 0, _, _, _, none⟩) (v := .pointer (some ⟨(w.heap.size + 1), 0, none⟩)) rfl (by kernel_rfl) (by kernel_rfl) (by kernel_rfl) (fun _ _ _ h => h) (Or.inl ⟨by rfl, fun w _ => by go_simp⟩) hHeld ?_
        simp only [Act.put, List.setIfInBounds_toArray, List.set_cons_zero, List.set_cons_succ]
        refine wpAnyH_take (i := 10) (oi := ⟨some 33, .load 22 (.tmp 32), _, _, _, none⟩) (v := .slice (some ad2) n c2) rfl (by kernel_rfl) (by kernel_rfl) (by kernel_rfl) (fun _ _ _ h => h) (Or.inl ⟨by rfl, fun wz hSw => by have e1 : wz.cell? ⟨(w.heap.size + 1), 0, none⟩ = some (.slice (some ad2) n c2) := hSw.2.1 0 _ rfl; clear hSw; go_simp⟩) hHeld ?_
        simp only [Act.put, List.setIfInBounds_toArray, List.set_cons_zero, List.set_cons_succ]
        refine wpAnyH_take (i := 11) (oi := ⟨some 34, .move (.tmp 7), _, _, _, none⟩) (v := .int .i64 (i : Int)) rfl (by kernel_rfl) (by kernel_rfl) (by kernel_rfl) (fun _ _ _ h => h) (Or.inl ⟨by rfl, fun _ _ => rfl⟩) hHeld ?_
        simp only [Act.put, List.setIfInBounds_toArray, List.set_cons_zero, List.set_cons_succ]
        refine wpAnyH_take (i := 12) (oi := ⟨some 35, .binOp .quo 3 (.tmp 34) (.const (.int .i64 128)) 3, _, _, _, none⟩) (v := .int .i64 (pq : Int)) rfl (by kernel_rfl) (by kernel_rfl) (by kernel_rfl) (fun _ _ _ h => h) (Or.inl ⟨by rfl, fun w _ => by go_simp⟩) hHeld ?_
        simp only [Act.put, List.setIfInBounds_toArray, List.set_cons_zero, List.set_cons_succ]
        refine wpAnyH_take (i := 13) (oi := ⟨some 36, .move (.tmp 7), _, _, _, none⟩) (v := .int .i64 (i : Int)) rfl (by kernel_rfl) (by kernel_rfl) (by kernel_rfl) (fun _ _ _ h => h) (Or.inl ⟨by rfl, fun _ _ => rfl⟩) hHeld ?_
        simp only [Act.put, List.setIfInBounds_toArray, List.set_cons_zero, List.set_cons_succ]
        refine wpAnyH_take (i := 14) (oi := ⟨some 37, .binOp .rem 3 (.tmp 36) (.const (.int .i64 128)) 3, _, _, _, none⟩) (v := .int .i64 (pr : Int)) rfl (by kernel_rfl) (by kernel_rfl) (by kernel_rfl) (fun _ _ _ h => h) (Or.inl ⟨by rfl, fun w _ => by go_simp⟩) hHeld ?_
        simp only [Act.put, List.setIfInBounds_toArray, List.set_cons_zero, List.set_cons_succ]
        refine wpAnyH_take (i := 15) (oi := ⟨some 38, .indexAddr 22 (.tmp 33) (.tmp 35), _, _, _, none⟩) (v := .pointer (some (ad2.add (pq * 128)))) rfl (by kernel_rfl) (by kernel_rfl) (by kernel_rfl) (fun _ _ _ h => h) (Or.inl ⟨by rfl, fun w _ => by go_simp⟩) hHeld ?_
        simp only [Act.put, List.setIfInBounds_toArray, List.set_cons_zero, List.set_cons_succ]
        refine wpAnyH_take (i := 16) (oi := ⟨some 39, .indexAddr 106 (.tmp 38) (.tmp 37), _, _, _, none⟩) (v := .pointer (some ((ad2.add (pq * 128)).add pr))) rfl (by kernel_rfl) (by kernel_rfl) (by kernel_rfl) (fun _ _ _ h => h) (Or.inl ⟨by rfl, fun w _ => by go_simp⟩) hHeld ?_
        simp only [Act.put, List.setIfInBounds_toArray, List.set_cons_zero, List.set_cons_succ]
        refine wpAnyH_take (i := 17) (oi := ⟨some 40, .load 5 (.tmp 39), _, _, _, none⟩) (v := .int .u8 y) rfl (by kernel_rfl) (by kernel_rfl) (by kernel_rfl) (fun _ _ _ h => h) (Or.inl ⟨by rfl, fun wz hSw => by have e1 := hSw.2.2.2; clear hSw; go_simp⟩) hHeld ?_
        simp only [Act.put, List.setIfInBounds_toArray, List.set_cons_zero, List.set_cons_succ]
        refine wpAnyH_take (i := 18) (oi := ⟨some 41, .binOp .eql 5 (.tmp 31) (.tmp 40) 5, _, _, _, none⟩) (v := .bool false) rfl (by kernel_rfl) (by kernel_rfl) (by kernel_rfl) (fun _ _ _ h => h) (Or.inl ⟨by rfl, fun w _ => by go_simp⟩) hHeld ?_
        simp only [Act.put, List.setIfInBounds_toArray, List.set_cons_zero, List.set_cons_succ]
        refine wpAnyH_done (by kernel_rfl) ?_ _
        clear hHeld
        clear HX HY hxy2 hxy t1 t2 t3 t4 b1' b2' cq cr
        go_upto_region 8 with fail
        go_wp2
        go_loopw [8, 44] (fun t v wr => ∃ j : Nat, j ≤ mp ∧ v = .int .i64 (j : Int) ∧ t = .bool ((l.take j).any (hit i)) ∧ Blk wr w.heap.size 24 [.slice (some ad) n c] ∧ Blk wr (w.heap.size + 1) 24 [.slice (some ad2) n c2] ∧ Sl wr 128 (some ad) n (U a) ∧ Sl wr 128 (some ad2) n (U b) ∧ Sl wr 4 AP mp (Ps l) ∧ Later w wr) (fun _ v _ => mp - (intOf v).toNat)
        case atStart => exact ⟨0, Nat.zero_le _, rfl, rfl, b3, b4, hs, hs2, hp, lr⟩
        case round =>
          clear b3 b4 hs hs2 hp lr
          obtain ⟨j, hj, rfl, rfl, b3, b4, hs, hs2, hp, lr⟩ := hrel
          by_cases hjm : j < mp
          · have hjl : j < l.length := by rw [HLL.out]; exact hjm
            obtain ⟨ap, hA⟩ := hp.addr (by omega)
            subst hA
            have HC := Lib.hid fun w' (h : Sl w' 4 (some ap) mp (Ps l)) => h.ptAt hjl HLL.out
            have HZ0 := any_succ (hit i) l hjl
            obtain ⟨s1, s2, s3, s4⟩ := HE.out _ (List.getElem_mem hjl)
            obtain ⟨p, hp'⟩ : ∃ p, p = l[j] := ⟨_, rfl⟩
            rw [← hp'] at HC HZ0 s1 s2 s3 s4
            clear hp'
            obtain ⟨t0, ht0⟩ : ∃ t, t = (l.take j).any (hit i) := ⟨_, rfl⟩
            rw [← ht0] at HZ0 ⊢
            clear ht0
            have HZ := Lib.hid HZ0
            clear HZ0
            have jn : (j : Int) < (mp : Int) := by omega
            have cw : IntKind.i64.wrap (p.2.1 + p.2.2.1) = p.2.1 + p.2.2.1 := wrap64 _ (by omega) (by omega)
            cases t0
            · by_cases c1 : p.2.1 ≤ (i : Int)
              · by_cases c2 : (i : Int) < p.2.1 + p.2.2.1
                · have hh : hit i p = true := by unfold hit; rw [decide_eq_true c1, decide_eq_true c2]; rfl
                  have HW : (l.take (j + 1)).any (hit i) = true := by simp [HZ.out, hh]
                  go_wp2_with (first
                    | ((with_reducible refine wpList_load_addr (o := ⟨some 47, .load 59 (.tmp 46), _, _, _, none⟩) rfl _ _ rfl (ap.add (j * 4)) (Pc p) _ ?_ (HC.out _ hp) Try.underlying59 rfl (pt_sz _) ?_); rfl)
                    | ((with_reducible refine wpList_store_abs (o := ⟨none, .store 59 (.tmp 10) (.tmp 47), _, _, _, none⟩) rfl _ _ _ rfl wr.heap.size 59 ([.int .i64 0, .int .i64 0, .int .i64 0, .bool false]) (Pc p) ?_ ?_ ?_ ?_ ?_ ?_ ?_); rfl; rfl; exact (Blk.new _ _ _ _ rfl); exact (pt_sz _); rfl; exact (pt_one _); intro w2 b10 o10; have l2 := Below.only (later1 wr (.cells #[.int .i64 0, .int .i64 0, .int .i64 0, .bool false] 59)) o10 (Nat.le_refl _); replace b3 := b3.keep l2; replace b4 := b4.keep l2; replace hs := hs.keep l2; replace hs2 := hs2.keep l2; replace hp := hp.keep l2; replace lr := Later.trans_ lr l2; clear l2 o10; have e1 := b10.cell (j := 1) (v := .int .i64 p.2.1) rfl; have e2 := b10.cell (j := 2) (v := .int .i64 p.2.2.1) rfl))
                  go_roundw
                  case rel => exact ⟨j + 1, by omega, by go_num, by rw [HW], b3, b4, hs, hs2, hp, lr⟩
                  case measure => simp [intOf]; omega
                · have hh : hit i p = false := by unfold hit; rw [decide_eq_false c2, Bool.and_false]
                  have HW : (l.take (j + 1)).any (hit i) = false := by simp [HZ.out, hh]
                  go_wp2_with (first
                    | ((with_reducible refine wpList_load_addr (o := ⟨some 47, .load 59 (.tmp 46), _, _, _, none⟩) rfl _ _ rfl (ap.add (j * 4)) (Pc p) _ ?_ (HC.out _ hp) Try.underlying59 rfl (pt_sz _) ?_); rfl)
                    | ((with_reducible refine wpList_store_abs (o := ⟨none, .store 59 (.tmp 10) (.tmp 47), _, _, _, none⟩) rfl _ _ _ rfl wr.heap.size 59 ([.int .i64 0, .int .i64 0, .int .i64 0, .bool false]) (Pc p) ?_ ?_ ?_ ?_ ?_ ?_ ?_); rfl; rfl; exact (Blk.new _ _ _ _ rfl); exact (pt_sz _); rfl; exact (pt_one _); intro w2 b10 o10; have l2 := Below.only (later1 wr (.cells #[.int .i64 0, .int .i64 0, .int .i64 0, .bool false] 59)) o10 (Nat.le_refl _); replace b3 := b3.keep l2; replace b4 := b4.keep l2; replace hs := hs.keep l2; replace hs2 := hs2.keep l2; replace hp := hp.keep l2; replace lr := Later.trans_ lr l2; clear l2 o10; have e1 := b10.cell (j := 1) (v := .int .i64 p.2.1) rfl; have e2 := b10.cell (j := 2) (v := .int .i64 p.2.2.1) rfl))
                  go_roundw
                  case rel => exact ⟨j + 1, by omega, by go_num, by rw [HW], b3, b4, hs, hs2, hp, lr⟩
                  case measure => simp [intOf]; omega
              · have hh : hit i p = false := by unfold hit; rw [decide_eq_false c1, Bool.false_and]
                have HW : (l.take (j + 1)).any (hit i) = false := by simp [HZ.out, hh]
                go_wp2_with (first
                  | ((with_reducible refine wpList_load_addr (o := ⟨some 47, .load 59 (.tmp 46), _, _, _, none⟩) rfl _ _ rfl (ap.add (j * 4)) (Pc p) _ ?_ (HC.out _ hp) Try.underlying59 rfl (pt_sz _) ?_); rfl)
                  | ((with_reducible refine wpList_store_abs (o := ⟨none, .store 59 (.tmp 10) (.tmp 47), _, _, _, none⟩) rfl _ _ _ rfl wr.heap.size 59 ([.int .i64 0, .int .i64 0, .int .i64 0, .bool false]) (Pc p) ?_ ?_ ?_ ?_ ?_ ?_ ?_); rfl; rfl; exact (Blk.new _ _ _ _ rfl); exact (pt_sz _); rfl; exact (pt_one _); intro w2 b10 o10; have l2 := Below.only (later1 wr (.cells #[.int .i64 0, .int .i64 0, .int .i64 0, .bool false] 59)) o10 (Nat.le_refl _); replace b3 := b3.keep l2; replace b4 := b4.keep l2; replace hs := hs.keep l2; replace hs2 := hs2.keep l2; replace hp := hp.keep l2; replace lr := Later.trans_ lr l2; clear l2 o10; have e1 := b10.cell (j := 1) (v := .int .i64 p.2.1) rfl; have e2 := b10.cell (j := 2) (v := .int .i64 p.2.2.1) rfl))
                go_roundw
                case rel => exact ⟨j + 1, by omega, by go_num, by rw [HW], b3, b4, hs, hs2, hp, lr⟩
                case measure => simp [intOf]; omega
            · have HW : (l.take (j + 1)).any (hit i) = true := by simp [HZ.out]
              go_wp2_with (first
                | ((with_reducible refine wpList_load_addr (o := ⟨some 47, .load 59 (.tmp 46), _, _, _, none⟩) rfl _ _ rfl (ap.add (j * 4)) (Pc p) _ ?_ (HC.out _ hp) Try.underlying59 rfl (pt_sz _) ?_); rfl)
                | ((with_reducible refine wpList_store_abs (o := ⟨none, .store 59 (.tmp 10) (.tmp 47), _, _, _, none⟩) rfl _ _ _ rfl wr.heap.size 59 ([.int .i64 0, .int .i64 0, .int .i64 0, .bool false]) (Pc p) ?_ ?_ ?_ ?_ ?_ ?_ ?_); rfl; rfl; exact (Blk.new _ _ _ _ rfl); exact (pt_sz _); rfl; exact (pt_one _); intro w2 b10 o10; have l2 := Below.only (later1 wr (.cells #[.int .i64 0, .int .i64 0, .int .i64 0, .bool false] 59)) o10 (Nat.le_refl _); replace b3 := b3.keep l2; replace b4 := b4.keep l2; replace hs := hs.keep l2; replace hs2 := hs2.keep l2; replace hp := hp.keep l2; replace lr := Later.trans_ lr l2; clear l2 o10; have e1 := b10.cell (j := 1) (v := .int .i64 p.2.1) rfl; have e2 := b10.cell (j := 2) (v := .int .i64 p.2.2.1) rfl))
              go_roundw
              case rel => exact ⟨j + 1, by omega, by go_num, by rw [HW], b3, b4, hs, hs2, hp, lr⟩
              case measure => simp [intOf]; omega
          · obtain rfl : j = mp := by omega
            have nlt : ¬ ((j : Int) < (j : Int)) := by omega
            have hall : (l.take j).any (hit i) = true := by rw [List.take_of_length_le (by rw [HLL.out]; exact Nat.le_refl _)]; exact hany
            rw [hall]
            go_wp2
            go_roundw
            case rel => exact ⟨i + 1, by omega, by go_num, b3, b4, hs, hs2, hp, lr⟩
            case measure => simp [intOf]; omega
    · obtain rfl : i = NN := by omega
      have nlt : ¬ ((i : Int) < (i : Int)) := by omega
      go_wp2
      go_ret
      exact ⟨rfl, lr⟩
end Go.Proofs.Ytffgbbfcbobecaa
