/-
  A RING: the reference's status, mark, Finish, Fail; there, written.
-/
import Derived.Test.YtffgbbfcbobecaaRgL
namespace Go.Proofs.Ytffgbbfcbobecaa
open Go.RowKit Go.ChangeShapes Go.WideShapes Go.ChangeAt

set_option maxRecDepth 100000 in
set_option maxHeartbeats 2000000 in
theorem rstatus_any (A : Option Addr) (n c : Nat) (b : Wm.Bs) (B S i v : Int) (w : World) (hs : Sl w 128 A n (U b)) (_hb : Wm.isBs b) (hn1 : 1 ≤ n) (hn : n ≤ 64) (hok : Rg.Ok (n * 128) B S) (i0 : 0 ≤ i) (i1 : i < S) (v0 : 0 ≤ v) (v1 : v < 4294967296) :
    Calls Try.prog 47 #[.agg #[.slice A n c], .agg #[.int .u32 B, .int .u32 S], .int .i64 i, .int .i64 v] w (GotM n (Rg.stat b B i v) w) := by
  have hB := hok.2.2.1
  have hB2 := hok.2.2.2
  obtain ⟨hS, hS2⟩ := hok.s
  have ht := hok.there3 i0 i1
  have hbl : b.length = n * 128 := by have := hs.1; rwa [U_length] at this
  have KS := Lib.hid fun w' (k : Later w w') => by
    have h := rstore_there A n c (B + 16 * i + 12).toNat 4 v b w' (hs.keep k) hn1 hn (by rw [Int.toNat_of_nonneg (by omega)]; exact ht) v0 v1
    rw [Int.toNat_of_nonneg (by omega)] at h
    exact (show Calls Try.prog 70 #[.agg #[.slice A n c], .agg (Wc (B + 16 * i + 12, 4, v)).toArray] w' fun e w'' => ∃ g c', e = .returned (.agg #[.slice (some ⟨g, 0, none⟩) n c', .bool true]) ∧ w'.heap.size ≤ g ∧ n ≤ c' ∧ c' ≤ maxLen ∧ Draft w'' g n (Mm.put b (B + 16 * i + 12).toNat (Mm.el 4 v)) ∧ Later w' w'' from h)
  have e1 : Mm.put b (B + 16 * i + 12).toNat (Mm.el 4 v) = Rg.stat b B i v := by unfold Rg.stat Mm.st; rw [if_pos (by rw [hbl]; exact ht)]; rfl
  rw [e1] at KS
  obtain ⟨X, hX⟩ : ∃ X, X = Rg.stat b B i v := ⟨_, rfl⟩
  rw [← hX] at KS ⊢
  have a2 : IntKind.u32.wrap v = v := by rw [IntKind.wrap_u32]; omega
  have a3 : v % 4294967296 = v := by omega
  clear hX e1 hbl hs hok ht
  have b4 : Blk _ w.heap.size 24 ([.slice A n c]) := (((Blk.new' w w.heap.size 24 ([.slice A n c]).toArray ([.slice A n c]) (by simp) rfl).alloc (.cells ([.int .u32 B, .int .u32 S]).toArray 27)).alloc (.cells ([.slice none 0 0]).toArray 24))
  have b5 : Blk _ (w.heap.size + 1) 27 ([.int .u32 B, .int .u32 S]) := ((Blk.new' (w.alloc (.cells ([.slice A n c]).toArray 24)) (w.heap.size + 1) 27 ([.int .u32 B, .int .u32 S]).toArray ([.int .u32 B, .int .u32 S]) (by simp) rfl).alloc (.cells ([.slice none 0 0]).toArray 24))
  have b8 : Blk _ (w.heap.size + 1 + 1) 24 ([.slice none 0 0]) := (Blk.new' ((w.alloc (.cells ([.slice A n c]).toArray 24)).alloc (.cells ([.int .u32 B, .int .u32 S]).toArray 27)) (w.heap.size + 1 + 1) 24 ([.slice none 0 0]).toArray ([.slice none 0 0]) (by simp) rfl)
  have lw := (((later1 w (.cells ([.slice A n c]).toArray 24)).alloc (by simp; try omega) (.cells ([.int .u32 B, .int .u32 S]).toArray 27)).alloc (by simp; try omega) (.cells ([.slice none 0 0]).toArray 24))
  obtain ⟨u0, hu⟩ : ∃ u, (((w.alloc (.cells ([.slice A n c]).toArray 24)).alloc (.cells ([.int .u32 B, .int .u32 S]).toArray 27)).alloc (.cells ([.slice none 0 0]).toArray 24)) = u := ⟨_, rfl⟩
  rw [hu] at b4 b5 b8 lw
  go_enter Try.func47, Try.ntmps47
  go_upto_region 1 with fail
  have hu2 : (((w.alloc (.cells #[.slice A n c] 24)).alloc (.cells #[.int .u32 B, .int .u32 S] 27)).alloc (.cells #[.slice none 0 0] 24)) = u0 := hu
  try rw [hu2]
  clear hu hu2
  have e0 := b5.cell (j := 0) (v := .int .u32 B) rfl
  have hfl := fld_s
  go_wp2_with (first
    | ((with_reducible refine wpList_load_blk (o := ⟨some 9, .load 24 (.tmp 4), _, _, _, none⟩) rfl _ _ rfl w.heap.size 24 ([.slice A n c]) _ ?_ ?_ Try.underlying24 rfl memS ?_); rfl; exact b4)
    | ((with_reducible refine wpList_bld (o := ⟨some 19, .build 85 #[(0, .tmp 16), (1, .const (.int .i64 4)), (2, .tmp 18)], _, _, _, none⟩) rfl _ #[(0, .tmp 16), (1, .const (.int .i64 4)), (2, .tmp 18)] #[(0, .int .i64 (B + 16 * i + 12)), (1, .int .i64 4), (2, .int .u32 v)] (Wc (B + 16 * i + 12, 4, v)).toArray rfl ?_ (run_wt _ _ _) ?_); rfl)
    | (go_at_call 70; (with_reducible refine (KS.out _ lw).mono ?_); rintro e w1 ⟨g, c1, rfl, g1, g2, g3, dx, l1⟩; clear e0; have hg := Nat.le_trans lw.size g1; have hgu := Nat.lt_of_lt_of_le b8.lt g1; replace b8 := b8.keep l1; replace lw := Later.trans_ lw l1)
    | ((with_reducible refine wpList_store_abs (o := ⟨none, .store 24 (.tmp 8) (.tmp 21), _, _, _, none⟩) rfl _ _ _ rfl (w.heap.size + 1 + 1) 24 ([.slice none 0 0]) ([.slice (some ⟨g, 0, none⟩) n c1]) ?_ ?_ ?_ ?_ ?_ ?_ ?_); rfl; rfl; exact b8; exact memS; rfl; exact (one1 rfl); intro w9 b9 o9))
  exact bodyPost_ret (results_blk Try.results47 _ _ (w.heap.size + 1 + 1) 24 _ _ rfl b9 Try.underlying24 rfl memS) rfl ⟨g, c1, rfl, hg, g2, g3, dx.only o9 (Nat.ne_of_gt hgu), Below.only lw o9 (by omega)⟩
/-- What the reference answers for a memory: new memory, or the one that it was given. -/
def GotR (n : Nat) (A : Option Addr) (X : Wm.Bs) (w : World) (e : Ending) (w' : World) : Prop := ∃ A1 c1, e = .returned (.agg #[.slice A1 n c1]) ∧ n ≤ c1 ∧ c1 ≤ maxLen ∧ Sl w' 128 A1 n (U X) ∧ (∀ ad, A1 = some ad → A = some ad ∨ w.heap.size ≤ ad.block) ∧ Later w w'
theorem GotR.of {n : Nat} {A : Option Addr} {X : Wm.Bs} {w w' : World} {e : Ending} (h : GotM n X w e w') : GotR n A X w e w' := by
  obtain ⟨g, c1, rfl, h1, h2, h3, h4, h5⟩ := h
  exact ⟨_, c1, rfl, h2, h3, h4.sl, fun ad e => by cases e; exact .inr h1, h5⟩
theorem mark_succ (b : Wm.Bs) (B v : Int) (l : List Rg.Pt) {k : Nat} (hk : k < l.length) : Rg.mark b B (l.take (k + 1)) v = Rg.stat (Rg.mark b B (l.take k) v) B l[k].1 v := by
  rw [List.take_succ_eq_append_getElem hk, Rg.mark_snoc]
theorem Sl.ptF {w : World} {m : Nat} {ad : Addr} {l : List Rg.Pt} (h : Sl w 4 (some ad) m (Ps l)) {k : Nat} (hk : k < l.length) (hm : l.length = m) : w.cell? (ad.add (k * 4)) = some (.int .i64 l[k].1) ∧ w.cell? ⟨(ad.add (k * 4)).block, (ad.add (k * 4)).off + 1, none⟩ = some (.int .i64 l[k].2.1) ∧ w.cell? ⟨(ad.add (k * 4)).block, (ad.add (k * 4)).off + 2, none⟩ = some (.int .i64 l[k].2.2.1) ∧ w.cell? ⟨(ad.add (k * 4)).block, (ad.add (k * 4)).off + 3, none⟩ = some (.bool l[k].2.2.2) :=
  ⟨h.ptAt hk hm 0 _ rfl, h.ptAt hk hm 1 _ rfl, h.ptAt hk hm 2 _ rfl, h.ptAt hk hm 3 _ rfl⟩
set_option maxRecDepth 100000 in
set_option maxHeartbeats 4000000 in
theorem mark_any (A : Option Addr) (n c : Nat) (b : Wm.Bs) (B S v : Int) (A' : Option Addr) (m c' : Nat) (l : List Rg.Pt) (w : World) (hs : Sl w 128 A n (U b)) (hb : Wm.isBs b) (hn1 : 1 ≤ n) (hn : n ≤ 64) (hnc : n ≤ c) (hc : c ≤ maxLen) (hok : Rg.Ok (n * 128) B S) (hsl : Sl w 4 A' m (Ps l)) (hl : l.length = m) (hm : m ≤ 4) (hi : Rg.Inr S l) (v0 : 0 ≤ v) (v1 : v < 4294967296) :
    Calls Try.prog 48 #[.agg #[.slice A n c], .agg #[.int .u32 B, .int .u32 S], .slice A' m c', .int .i64 v] w (GotR n A (Rg.mark b B l v) w) := by
  have hB := hok.2.2.1
  have HL := Lib.hid hl
  have HI := Lib.hid (show (∀ p ∈ l, 0 ≤ p.1 ∧ p.1 < S) from hi)
  have KS0 := Lib.hid fun (x : Wm.Bs) (hx : Wm.isBs x) (A1 : Option Addr) (c1 : Nat) (q : Int) (q0 : 0 ≤ q) (q1 : q < S) w' (h : Sl w' 128 A1 n (U x)) => rstatus_any A1 n c1 x B S q v w' h hx hn1 hn hok q0 q1 v0 v1
  have HXB := Lib.hid fun k => Rg.mark_bs B v (l.take k) hb
  have HAL := Lib.hid (show (∀ ad, A = some ad → ad.block < w.heap.size) ∧ (0 < m → ∀ ad, A' = some ad → ad.block < w.heap.size) from ⟨fun ad e => by obtain ⟨_, e', h, _⟩ := hs.2 (by omega); rw [e'] at e; cases e; exact h, fun hm ad e => by obtain ⟨_, e', h, _⟩ := hsl.2 hm; rw [e'] at e; cases e; exact h⟩)
  have b4 : Blk _ w.heap.size 24 ([.slice A n c]) := (((Blk.new' w w.heap.size 24 ([.slice A n c]).toArray ([.slice A n c]) (by simp) rfl).alloc (.cells ([.int .u32 B, .int .u32 S]).toArray 27)).alloc (.cells ([.slice none 0 0]).toArray 24))
  have b5 : Blk _ (w.heap.size + 1) 27 ([.int .u32 B, .int .u32 S]) := ((Blk.new' (w.alloc (.cells ([.slice A n c]).toArray 24)) (w.heap.size + 1) 27 ([.int .u32 B, .int .u32 S]).toArray ([.int .u32 B, .int .u32 S]) (by simp) rfl).alloc (.cells ([.slice none 0 0]).toArray 24))
  have b8 : Blk _ (w.heap.size + 1 + 1) 24 ([.slice none 0 0]) := (Blk.new' ((w.alloc (.cells ([.slice A n c]).toArray 24)).alloc (.cells ([.int .u32 B, .int .u32 S]).toArray 27)) (w.heap.size + 1 + 1) 24 ([.slice none 0 0]).toArray ([.slice none 0 0]) (by simp) rfl)
  have lw := (((later1 w (.cells ([.slice A n c]).toArray 24)).alloc (by simp; try omega) (.cells ([.int .u32 B, .int .u32 S]).toArray 27)).alloc (by simp; try omega) (.cells ([.slice none 0 0]).toArray 24))
  obtain ⟨u0, hu⟩ : ∃ u, (((w.alloc (.cells ([.slice A n c]).toArray 24)).alloc (.cells ([.int .u32 B, .int .u32 S]).toArray 27)).alloc (.cells ([.slice none 0 0]).toArray 24)) = u := ⟨_, rfl⟩
  rw [hu] at b4 b5 b8 lw
  replace hs := hs.keep lw
  replace hsl := hsl.keep lw
  clear hl hi hb hok
  go_enter Try.func48, Try.ntmps48
  go_upto_region 1 with fail
  have hu2 : (((w.alloc (.cells #[.slice A n c] 24)).alloc (.cells #[.int .u32 B, .int .u32 S] 27)).alloc (.cells #[.slice none 0 0] 24)) = u0 := hu
  try rw [hu2]
  clear hu hu2
  go_wp2
  go_loopw [9] (fun i wr => ∃ (k : Nat) (x : Wm.Bs) (A1 : Option Addr) (c1 : Nat), k ≤ m ∧ i = .int .i64 (k : Int) ∧ Hid (Rg.mark b B (l.take k) v = x) ∧ Sl wr 128 A1 n (U x) ∧ Hid (n ≤ c1 ∧ c1 ≤ maxLen ∧ ∀ ad, A1 = some ad → A = some ad ∨ (w.heap.size + 1 + 1) < ad.block) ∧ Blk wr w.heap.size 24 [.slice A1 n c1] ∧ Blk wr (w.heap.size + 1) 27 [.int .u32 B, .int .u32 S] ∧ Blk wr (w.heap.size + 1 + 1) 24 [.slice none 0 0] ∧ Sl wr 4 A' m (Ps l) ∧ Later w wr) (fun i _ => m - (intOf i).toNat)
  case atStart => exact ⟨0, b, A, c, Nat.zero_le _, rfl, Lib.hid rfl, hs, Lib.hid ⟨hnc, hc, fun ad e => .inl e⟩, b4, b5, b8, hsl, lw⟩
  case round =>
    clear hs hsl b4 b5 b8 lw
    rename_i wr
    obtain ⟨k, x, A1, c1, hk, rfl, HA, sl1, HN, b4, b5, b8, hsl, lr⟩ := hrel
    by_cases hlt : k < m
    · have hkl : k < l.length := by rw [HL.out]; exact hlt
      obtain ⟨ad, hA⟩ := hsl.addr (by omega)
      subst hA
      have hadb := HAL.out.2 (by omega) ad rfl
      have HQQ := Lib.hid fun (w' : World) (h : Sl w' 4 (some ad) m (Ps l)) => (h.ptF hkl HL.out).1
      have hqr := HI.out _ (List.getElem_mem hkl)
      have HST := Lib.hid (mark_succ b B v l hkl)
      rw [HA.out] at HST
      have hxb := HXB.out k
      rw [HA.out] at hxb
      have KS := Lib.hid (KS0.out x hxb A1 c1 _ hqr.1 hqr.2)
      obtain ⟨q, hq⟩ : ∃ q, q = l[k].1 := ⟨_, rfl⟩
      rw [← hq] at HQQ HST KS
      obtain ⟨x2, hx2⟩ : ∃ x2, x2 = Rg.stat x B q v := ⟨_, rfl⟩
      rw [← hx2] at HST KS
      clear hq hqr hxb hx2
      have kn : (k : Int) < (m : Int) := by omega
      go_upto_region 4 with fail
      replace b4 := b4.drew
      replace b5 := b5.drew
      replace b8 := b8.drew
      replace lr := lr.drew
      replace sl1 : Sl wr.drew 128 A1 n (U x) := sl1
      replace hsl : Sl wr.drew 4 (some ad) m (Ps l) := hsl
      have hq0 := HQQ.out _ hsl
      have e4 := b4.cell (j := 0) (v := .slice A1 n c1) rfl
      refine wp_region_held_drew (S := fun w' => World.rangeAt w' (w.heap.size + 1) 0 [.int .u32 B, .int .u32 S] ∧ w'.cell? (ad.add (k * 4)) = some (.int .i64 q)) (by kernel_rfl) ⟨b5.range 0 2, hq0⟩ (fun hHeld => ?_)
      refine wpAnyH_take (i := 1) (oi := ⟨some 17, .load 27 (.tmp 5), _, _, _, none⟩) (v := .agg ([.int .u32 B, .int .u32 S]).toArray) rfl (by kernel_rfl) (by kernel_rfl) (by kernel_rfl) (fun _ _ _ h => h) (yieldsIf_load_mid (by rfl) _ _ rfl (w.heap.size + 1) 0 rfl ([.int .u32 B, .int .u32 S]) _ (fun wz hSw => hSw.1) Try.underlying27 rfl ring_sz) hHeld ?_
      simp only [Act.put, List.setIfInBounds_toArray, List.set_cons_zero, List.set_cons_succ]
      refine wpAnyH_take (i := 2) (oi := ⟨some 18, .move (.tmp 2), _, _, _, none⟩) (v := (.slice (some ad) m c')) rfl (by kernel_rfl) (by kernel_rfl) (by kernel_rfl) (fun _ _ _ h => h) (Or.inl ⟨by rfl, fun _ _ => rfl⟩) hHeld ?_
      simp only [Act.put, List.setIfInBounds_toArray, List.set_cons_zero, List.set_cons_succ]
      refine wpAnyH_take (i := 3) (oi := ⟨some 19, .move (.tmp 9), _, _, _, none⟩) (v := .int .i64 (k : Int)) rfl (by kernel_rfl) (by kernel_rfl) (by kernel_rfl) (fun _ _ _ h => h) (Or.inl ⟨by rfl, fun _ _ => rfl⟩) hHeld ?_
      simp only [Act.put, List.setIfInBounds_toArray, List.set_cons_zero, List.set_cons_succ]
      refine wpAnyH_take (i := 4) (oi := ⟨some 20, .indexAddr 35 (.tmp 18) (.tmp 19), _, _, _, none⟩) (v := .pointer (some (ad.add (k * 4)))) rfl (by kernel_rfl) (by kernel_rfl) (by kernel_rfl) (fun _ _ _ h => h) (Or.inl ⟨by rfl, fun w _ => by go_simp⟩) hHeld ?_
      simp only [Act.put, List.setIfInBounds_toArray, List.set_cons_zero, List.set_cons_succ]
      refine wpAnyH_take (i := 5) (oi := ⟨some 21, .fieldAddr 59 (.tmp 20) 0, _, _, _, none⟩) (v := .pointer (some (ad.add (k * 4)))) rfl (by kernel_rfl) (by kernel_rfl) (by kernel_rfl) (fun _ _ _ h => h) (Or.inl ⟨by rfl, fun w _ => by go_simp⟩) hHeld ?_
      simp only [Act.put, List.setIfInBounds_toArray, List.set_cons_zero, List.set_cons_succ]
      refine wpAnyH_take (i := 6) (oi := ⟨some 22, .load 3 (.tmp 21), _, _, _, none⟩) (v := .int .i64 q) rfl (by kernel_rfl) (by kernel_rfl) (by kernel_rfl) (fun _ _ _ h => h) (Or.inl ⟨by rfl, fun wz hSw => by have e1 := hSw.2; clear hSw; go_simp⟩) hHeld ?_
      simp only [Act.put, List.setIfInBounds_toArray, List.set_cons_zero, List.set_cons_succ]
      refine wpAnyH_take (i := 7) (oi := ⟨some 23, .move (.tmp 3), _, _, _, none⟩) (v := .int .i64 v) rfl (by kernel_rfl) (by kernel_rfl) (by kernel_rfl) (fun _ _ _ h => h) (Or.inl ⟨by rfl, fun _ _ => rfl⟩) hHeld ?_
      simp only [Act.put, List.setIfInBounds_toArray, List.set_cons_zero, List.set_cons_succ]
      refine wpAnyH_ready (rs := [0]) (by kernel_rfl) (by simp) (AllReadyH.cons (o := ⟨some 16, .load 24 (.tmp 4), _, _, _, none⟩) rfl (fun K' hK => ?_) AllReadyH.nil)
      go_simp
      refine hK.out _ _ ⟨b5.range 0 2, hq0⟩ (fun hHeld => ?_)
      clear hK K'
      try simp only [Act.put, List.setIfInBounds_toArray, List.set_cons_zero, List.set_cons_succ]
      refine wpAnyH_ready (rs := [8]) (by kernel_rfl) (by simp) (AllReadyH.cons (o := ⟨some 24, .call { callee := .value (.func 47), args := #[.tmp 16, .tmp 17, .tmp 22, .tmp 23], argTypes := #[24, 27, 3, 3] }, _, _, _, none⟩) rfl (fun K' hK => ?_) AllReadyH.nil)
      go_simp
      (with_reducible refine (KS.out _ sl1).mono ?_)
      rintro e1 w1 ⟨g, c2, rfl, g1, g2, g3, dx, l1⟩
      have hgu := Nat.lt_of_lt_of_le b8.lt g1
      clear e4
      replace b4 := b4.keep l1
      replace b5 := b5.keep l1
      replace b8 := b8.keep l1
      replace hsl := hsl.keep l1
      replace lr := Later.trans_ lr l1
      clear hq0
      have hq0 := HQQ.out _ hsl
      refine hK.out _ _ ⟨b5.range 0 2, hq0⟩ (fun hHeld => ?_)
      clear hK K'
      try simp only [Act.put, List.setIfInBounds_toArray, List.set_cons_zero, List.set_cons_succ]
      refine wpAnyH_ready (rs := [9]) (by kernel_rfl) (by simp) (AllReadyH.cons (o := ⟨none, .store 24 (.tmp 4) (.tmp 24), _, _, _, none⟩) rfl (fun K' hK => ?_) AllReadyH.nil)
      refine wp_store_blk 24 _ _ rfl w.heap.size 24 [.slice A1 n c1] [.slice (some ⟨g, 0, none⟩) n c2] rfl rfl b4 memS rfl (one1 rfl) ?_
      intro w9 b9 o9
      replace b5 := b5.only o9 (by omega)
      replace b8 := b8.only o9 (by omega)
      replace dx := dx.only o9 (by omega)
      replace hsl := hsl.only_ne o9 (fun ad' e => (by cases e; omega))
      replace lr := Below.only lr o9 (by omega)
      clear hq0
      have hq0 := HQQ.out _ hsl
      refine hK.out _ _ ⟨b5.range 0 2, hq0⟩ (fun hHeld => ?_)
      clear hK K'
      try simp only [Act.put]
      refine wpAnyH_done (by kernel_rfl) ?_ _
      clear hHeld
      go_wp2
      go_roundw
      case rel => exact ⟨k + 1, x2, some ⟨g, 0, none⟩, c2, by omega, by go_num, HST, dx.sl, Lib.hid ⟨g2, g3, fun ad' e => by cases e; exact .inr hgu⟩, b9, b5, b8, hsl, lr⟩
      case measure => simp [intOf]; omega
    · obtain rfl : k = m := by omega
      have nlt : ¬ ((k : Int) < (k : Int)) := by omega
      have HE := Lib.hid (show Rg.mark b B l v = x from by rw [← HA.out, List.take_of_length_le (by rw [HL.out]; exact Nat.le_refl _)])
      go_wp2_with (first
    | ((with_reducible refine wpList_load_blk (o := ⟨some 25, .load 24 (.tmp 4), _, _, _, none⟩) rfl _ _ rfl w.heap.size 24 ([.slice A1 n c1]) _ ?_ ?_ Try.underlying24 rfl memS ?_); rfl; exact b4)
    | ((with_reducible refine wpList_store_abs (o := ⟨none, .store 24 (.tmp 8) (.tmp 25), _, _, _, none⟩) rfl _ _ _ rfl (w.heap.size + 1 + 1) 24 ([.slice none 0 0]) ([.slice A1 n c1]) ?_ ?_ ?_ ?_ ?_ ?_ ?_); rfl; rfl; exact b8; exact memS; rfl; exact (one1 rfl); intro w9 b9 o9))
      rw [HE.out]
      exact bodyPost_ret (results_blk Try.results48 _ _ (w.heap.size + 1 + 1) 24 _ _ rfl b9 Try.underlying24 rfl memS) rfl ⟨A1, c1, rfl, HN.out.1, HN.out.2.1, sl1.only_ne o9 (fun ad e => by rcases HN.out.2.2 ad e with h | h; exact Nat.ne_of_lt (Nat.lt_of_lt_of_le (HAL.out.1 ad h) (by omega)); exact Nat.ne_of_gt h), fun ad e => (HN.out.2.2 ad e).imp id (fun h => by omega), Below.only lr o9 (by omega)⟩
end Go.Proofs.Ytffgbbfcbobecaa
