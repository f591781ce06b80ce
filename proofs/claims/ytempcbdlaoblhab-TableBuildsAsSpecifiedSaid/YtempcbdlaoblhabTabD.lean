/-
  THE WALK OF MapLarge.
-/
import Derived.Test.YtempcbdlaoblhabTabC
namespace Go.Proofs.Ytempcbdlaoblhab
open Go.RowKit Go.ChangeShapes Go.WideShapes Go.ChangeAt

/-- What hands back a memory of the call's own, and an error. -/
def GotME (n : Nat) (b : Wm.Bs) (E : Int) (w : World) (e : Ending) (w' : World) : Prop := ∃ g c', e = .returned (.tuple #[.agg #[.slice (some ⟨g, 0, none⟩) n c'], .int .i64 E]) ∧ w.heap.size ≤ g ∧ n ≤ c' ∧ c' ≤ maxLen ∧ Draft w' g n b ∧ Later w w'
theorem with0_any (A : Option Addr) (n c : Nat) (b : Wm.Bs) (w : World) (hs : Sl w 128 A n (U b)) (hb : Wm.isBs b) (hn1 : 1 ≤ n) (hn : n ≤ 64) :
    Calls Try.prog 39 #[.agg #[.slice A n c], .slice none 0 0] w (GotM n b w) :=
  with_any A n c 0 0 none [] b w hs hb hn1 hn ⟨rfl, fun h => absurd h (by decide)⟩ rfl (fun x hx => by cases hx) (by omega)
theorem sl_wr {w : World} {B : Nat} {t : TypeId} {a s v : Int} (h : Blk w B t [.int .i64 a, .int .i64 s, .int .u32 v]) : Sl w 3 (some ⟨B, 0, none⟩) 1 (Ws [(a, s, v)]) := sl_w1 h
theorem with1_any (A : Option Addr) (n c B : Nat) (t : TypeId) (a v : Int) (b : Wm.Bs) (w : World) (hs : Sl w 128 A n (U b)) (hb : Wm.isBs b) (hn1 : 1 ≤ n) (hn : n ≤ 64) (h : Blk w B t [.int .i64 a, .int .i64 4, .int .u32 v]) (hw : isW (a, 4, v)) :
    Calls Try.prog 39 #[.agg #[.slice A n c], .slice (some ⟨B, 0, none⟩) 1 1] w (GotM n (Mm.st b a 4 v) w) := by
  have h1 := with_any A n c 1 1 (some ⟨B, 0, none⟩) [(a, 4, v)] b w hs hb hn1 hn (sl_w1 h) rfl (fun x hx => by
    obtain rfl : x = (a, 4, v) := by simpa using hx
    exact hw) (by omega)
  rw [(ap_one b a 4 v).1] at h1
  exact h1
theorem or_flags {p : Int} (hp : Tm.isE p) (h2 : p % 128 = 0) (a m s : Nat) (ha : a < 128) (hm : m < 128) (hs : a ||| m = s) (_hs2 : s < 128) : bits .or .u32 (p + a) m = p + s := by
  obtain ⟨x, rfl⟩ := Int.eq_ofNat_of_zero_le hp.1
  have hx : x < 4294967296 := by have := hp.2; omega
  rw [show ((x : Int) + (a : Int)) = ((x + a : Nat) : Int) by omega, or32 (x + a) m (by omega) (by omega), or_low (x + a) m hm, show (x + a) % 128 = a by omega, hs, show (x + a) / 128 * 128 = x by omega]
  omega
theorem or_rights {p r : Int} (hp : Tm.isE p) (h2 : p % 128 = 0) (a : Nat) (ha : a = 1 ∨ a = 65) (hr : 0 ≤ r ∧ r % 2 = 0 ∧ r ≤ 14) : bits .or .u32 (p + a) r = p + a + r := by
  obtain ⟨y, rfl⟩ := Int.eq_ofNat_of_zero_le hr.1
  have h := or_flags hp h2 a y (a + y) (by rcases ha with h | h <;> omega) (by omega) (by
    have h1 : ∀ y : Fin 15, y.1 % 2 = 0 → (1 ||| y.1) = 1 + y.1 := by decide +kernel
    have h65 : ∀ y : Fin 15, y.1 % 2 = 0 → (65 ||| y.1) = 65 + y.1 := by decide +kernel
    rcases ha with h | h
    · subst h; exact h1 ⟨y, by omega⟩ (by show y % 2 = 0; omega)
    · subst h; exact h65 ⟨y, by omega⟩ (by show y % 2 = 0; omega)) (by rcases ha with h | h <;> omega)
  rw [h]
  omega
namespace Tm
def errL (bm v : Bool) : Int := if !bm then 1 else if v then 6 else 0
def largeE (n : Nat) (b : Wm.Bs) (root va pa r : Int) : Int := errL (mapB n root va pa r 4096) (has (wd b (fA root va)) 1)
def largeM (n : Nat) (b : Wm.Bs) (root va pa r : Int) : Wm.Bs := if largeE n b root va pa r = 0 then Mm.st b (fA root va) 4 (pa + 65 + r) else b
end Tm
set_option maxRecDepth 100000 in
set_option maxHeartbeats 4000000 in
theorem mapLarge_any (A : Option Addr) (n c : Nat) (root va pa r : Int) (b : Wm.Bs) (w : World) (hs : Sl w 128 A n (U b)) (hb : Wm.isBs b) (hn1 : 1 ≤ n) (hn : n ≤ 64) (hr : 0 ≤ root ∧ root < 4294967296) (hv : 0 ≤ va ∧ va < 4294967296) (hp : 0 ≤ pa ∧ pa < 4294967296) (hq : -9223372036854775808 ≤ r ∧ r ≤ 9223372036854775807) :
    Calls Try.prog 15 #[.agg #[.slice A n c], .int .u32 root, .int .u32 va, .int .u32 pa, .int .i64 r] w (GotME n (Tm.largeM n b root va pa r) (Tm.largeE n b root va pa r) w) := by
  have HM := Lib.hid fun w' => areMappable4096_any A n c root va pa r w' hn hr hv hp hq
  have HW := Lib.hid fun w' (hl : Later w w') => with0_any A n c b w' (hs.keep hl) hb hn1 hn
  obtain ⟨bm, hbm⟩ : ∃ bm, bm = Tm.mapB n root va pa r 4096 := ⟨_, rfl⟩
  unfold Tm.largeM Tm.largeE
  rw [← hbm] at HM ⊢
  cases bm with
  | false =>
    rw [show Tm.errL false (Tm.has (Tm.wd b (Tm.fA root va)) 1) = 1 from rfl, if_neg (by decide)]
    clear hbm hs hb hn hr hv hp hq
    go_enter Try.func15, Try.ntmps15
    go_wp2_with (first
      | (go_at_call 47; refine (HM.out _).mono ?_; rintro e w1 ⟨rfl, l1⟩; have b5 := ((Blk.new w 24 #[.slice A n c] [.slice A n c] rfl).alloc (.cells #[.slice none 0 0] 24)).keep l1; have bR := (Blk.new' (w.alloc (.cells #[.slice A n c] 24)) (w.heap.size + 1) 24 #[.slice none 0 0] [.slice none 0 0] (by simp) rfl).keep l1; have lw := Later.trans_ ((later1 w (.cells #[.slice A n c] 24)).alloc (by simp) (.cells #[.slice none 0 0] 24)) l1; have c5 := b5.cell (j := 0) (v := .slice A n c) rfl)
      | (go_at_call 39; refine (HW.out _ lw).mono ?_; rintro e w2 ⟨g, c', rfl, hg, hc, hc2, hd, l2⟩; replace bR := bR.keep l2; have cR := bR.cell (j := 0) (v := .slice none 0 0) rfl; have fR := bR.frz 0; have hRl := bR.lt))
    have hsz := l1.size
    have hsz2 := lw.size
    have hgz : w.heap.size + 1 < g := by simp at hsz; omega
    exact bodyPost_ret (v := .tuple #[.agg #[.slice (some ⟨g, 0, none⟩) n c'], .int .i64 1]) (results_cell_tmp Try.results15 _ _ (w.heap.size + 1) 24 _ _ _ rfl rfl (bR.set 0 (.slice (some ⟨g, 0, none⟩) n c')) Try.underlying24 rfl mem_sz) rfl
      ⟨g, c', rfl, by omega, hc, hc2, hd.only (Only.set _ _ _ _) (by omega), (Later.trans_ lw l2).setCell (by simp) _⟩
  | true =>
    obtain ⟨v1, _, hpp, hpa, hrr, hroot⟩ := Tm.mapB_lt hbm.symm
    obtain ⟨rn0, rn1, rn2⟩ := Tm.rootB_lt hroot
    have hfA : 0 ≤ Tm.fA root va ∧ Tm.fA root va < 4294967296 := by unfold Tm.fA; omega
    have HF := Lib.hid fun w' => inFirst_any root va w' (by omega) hv
    have HL := Lib.hid fun w' (hl : Later w w') => tload_any A n c (Tm.fA root va) b w' (hs.keep hl) hb hn1 hn hfA
    have hx := Tm.wd_e hb (Tm.fA root va)
    obtain ⟨f, hf⟩ : ∃ f, f = Tm.fA root va := ⟨_, rfl⟩
    rw [← hf] at HF HL hx hfA ⊢
    obtain ⟨x, hX⟩ : ∃ x, x = Tm.wd b f := ⟨_, rfl⟩
    rw [← hX] at HL hx ⊢
    have HV := Lib.hid fun w' => isValid_any x w' hx
    obtain ⟨v, hve⟩ : ∃ v, v = Tm.has x 1 := ⟨_, rfl⟩
    rw [← hve] at HV ⊢
    obtain ⟨hpp1, hpp2⟩ := Tm.pageB_lt hpp
    have o1 := or_page hp hpp1 (m := 1) (by omega) (by omega)
    have o2 := or_flags hp hpp1 1 64 65 (by omega) (by omega) (by rfl) (by omega)
    have o3 := or_rights hp hpp1 65 (Or.inr rfl) hrr
    have O1 := Lib.hid o1
    have O2 := Lib.hid (show bits .or .u32 (bits .or .u32 pa 1) 64 = pa + 65 by rw [o1]; exact o2)
    have O3 := Lib.hid (show bits .or .u32 (pa + 65) r = pa + 65 + r from o3)
    obtain ⟨lf, hlf⟩ : ∃ lf, lf = pa + 65 + r := ⟨_, rfl⟩
    rw [← hlf] at O3 ⊢
    have hlfE : 0 ≤ lf ∧ lf < 4294967296 := by omega
    have HS := Lib.hid fun w' => estore_any lf f w' hfA
    have HW1 := Lib.hid fun w' B t (hl : Later w w') (h : Blk w' B t [.int .i64 f, .int .i64 4, .int .u32 lf]) => with1_any A n c B t f lf b w' (hs.keep hl) hb hn1 hn h (by simp only [isW]; omega)
    obtain ⟨X, hXX⟩ : ∃ X, X = Mm.st b f 4 lf := ⟨_, rfl⟩
    rw [← hXX] at HW1 ⊢
    have hrr0 : 0 ≤ r := hrr.1
    have hrr1 : r ≤ 14 := hrr.2.2
    have hf0 := hfA.1
    have hf1 := hfA.2
    clear hXX hlf hf hX hbm hs hb hn hr hv hp hq hroot hpp hpa o1 o2 o3 hrr hfA
    cases v with
    | true =>
      rw [show Tm.errL true true = 6 from rfl, if_neg (by decide)]
      clear hve
      go_enter Try.func15, Try.ntmps15
      go_wp2_with (first
        | (go_at_call 47; refine (HM.out _).mono ?_; rintro e w1 ⟨rfl, l1⟩; have b5 := ((Blk.new w 24 #[.slice A n c] [.slice A n c] rfl).alloc (.cells #[.slice none 0 0] 24)).keep l1; have bR := (Blk.new' (w.alloc (.cells #[.slice A n c] 24)) (w.heap.size + 1) 24 #[.slice none 0 0] [.slice none 0 0] (by simp) rfl).keep l1; have lw := Later.trans_ ((later1 w (.cells #[.slice A n c] 24)).alloc (by simp) (.cells #[.slice none 0 0] 24)) l1; have c5 := b5.cell (j := 0) (v := .slice A n c) rfl)
        | (go_at_call 40; refine (HF.out _).mono ?_; rintro e w' ⟨rfl, rfl⟩)
        | (go_at_call 41; refine (HL.out _ lw).mono ?_; rintro e w3 ⟨rfl, l3⟩; replace b5 := b5.keep l3; replace bR := bR.keep l3; have lw0 := lw; replace lw := Later.trans_ lw l3; clear c5; have c5 := b5.cell (j := 0) (v := .slice A n c) rfl)
        | (go_at_call 42; refine (HV.out _).mono ?_; rintro e w' ⟨rfl, rfl⟩)
        | (go_at_call 39; refine (HW.out _ lw).mono ?_; rintro e w2 ⟨g, c', rfl, hg, hc, hc2, hd, l2⟩; have hRl := bR.lt; replace bR := bR.keep l2; have cR := bR.cell (j := 0) (v := .slice none 0 0) rfl; have fR := bR.frz 0))
      have hsz2 := lw.size
      have hgz : w.heap.size + 1 < g := by omega
      exact bodyPost_ret (v := .tuple #[.agg #[.slice (some ⟨g, 0, none⟩) n c'], .int .i64 6]) (results_cell_tmp Try.results15 _ _ (w.heap.size + 1) 24 _ _ _ rfl rfl (bR.set 0 (.slice (some ⟨g, 0, none⟩) n c')) Try.underlying24 rfl mem_sz) rfl
        ⟨g, c', rfl, by omega, hc, hc2, hd.only (Only.set _ _ _ _) (by omega), (Later.trans_ lw l2).setCell (by simp) _⟩
    | false =>
      rw [show Tm.errL true false = 0 from rfl, if_pos rfl]
      clear hve
      go_enter Try.func15, Try.ntmps15
      go_wp2_with (first
        | (go_at_call 47; refine (HM.out _).mono ?_; rintro e w1 ⟨rfl, l1⟩; have b5 := ((Blk.new w 24 #[.slice A n c] [.slice A n c] rfl).alloc (.cells #[.slice none 0 0] 24)).keep l1; have bR := (Blk.new' (w.alloc (.cells #[.slice A n c] 24)) (w.heap.size + 1) 24 #[.slice none 0 0] [.slice none 0 0] (by simp) rfl).keep l1; have lw := Later.trans_ ((later1 w (.cells #[.slice A n c] 24)).alloc (by simp) (.cells #[.slice none 0 0] 24)) l1; have c5 := b5.cell (j := 0) (v := .slice A n c) rfl)
        | (go_at_call 40; refine (HF.out _).mono ?_; rintro e w' ⟨rfl, rfl⟩)
        | (go_at_call 41; refine (HL.out _ lw).mono ?_; rintro e w3 ⟨rfl, l3⟩; replace b5 := b5.keep l3; replace bR := bR.keep l3; have lw0 := lw; replace lw := Later.trans_ lw l3; clear c5; have c5 := b5.cell (j := 0) (v := .slice A n c) rfl)
        | (go_at_call 42; refine (HV.out _).mono ?_; rintro e w' ⟨rfl, rfl⟩))
      rw [O2.out, O3.out]
      clear c5
      have hsz2 := lw.size
      have hRl := bR.lt
      replace b5 := b5.drew; replace bR := bR.drew; replace lw : Later w w3.drew := lw.drew
      refine wp_region_held_drew (S := fun w' => w'.cell? ⟨w.heap.size, 0, none⟩ = some (.slice A n c)) (by kernel_rfl) (b5.cell (j := 0) rfl) (fun hHeld => ?_)
      refine wpAnyH_take (i := 0) (oi := ⟨some 38, .load 24 (.tmp 5), _, _, _, none⟩) (v := .agg #[.slice A n c]) rfl (by kernel_rfl) (by kernel_rfl) (by kernel_rfl) (fun _ _ _ h => h) (Or.inl ⟨by rfl, fun w hS => by have h0 := hS; go_simp⟩) hHeld ?_
      simp only [Act.put, List.setIfInBounds_toArray, List.set_cons_zero, List.set_cons_succ]
      refine wpAnyH_take (i := 1) (oi := ⟨some 39, .move (.tmp 13), _, _, _, none⟩) (v := .int .u32 lf) rfl (by kernel_rfl) (by kernel_rfl) (by kernel_rfl) (fun _ _ _ h => h) (Or.inl ⟨by rfl, fun _ _ => rfl⟩) hHeld ?_
      simp only [Act.put, List.setIfInBounds_toArray, List.set_cons_zero, List.set_cons_succ]
      refine wpAnyH_take (i := 2) (oi := ⟨some 40, .move (.tmp 12), _, _, _, none⟩) (v := .int .u32 f) rfl (by kernel_rfl) (by kernel_rfl) (by kernel_rfl) (fun _ _ _ h => h) (Or.inl ⟨by rfl, fun _ _ => rfl⟩) hHeld ?_
      simp only [Act.put, List.setIfInBounds_toArray, List.set_cons_zero, List.set_cons_succ]
      refine wpAnyH_ready (rs := [3]) (by kernel_rfl) (by simp) (AllReadyH.cons (o := ⟨some 41, .call { callee := .value (.func 45), args := #[.tmp 39, .tmp 40], argTypes := #[81, 25] }, _, _, _, none⟩) rfl (fun K' hK => ?_) (AllReadyH.nil))
      go_simp
      refine (HS.out _).mono ?_
      rintro e w4 ⟨rfl, l4⟩
      replace b5 := b5.keep l4
      replace bR := bR.keep l4
      replace lw := Later.trans_ lw l4
      refine hK.out _ _ (b5.cell (j := 0) rfl) (fun hHeld => ?_)
      clear hK K'
      try simp only [Act.put, List.setIfInBounds_toArray, List.set_cons_zero, List.set_cons_succ]
      refine wpAnyH_ready (rs := [4]) (by kernel_rfl) (by simp) (AllReadyH.cons (o := ⟨some 42, .buildSlice 29 1 #[(0, .tmp 41)], _, _, _, none⟩) rfl (fun K' hK => ?_) (AllReadyH.nil))
      go_simp
      have bW := Blk.new w4 57 #[.int .i64 f, .int .i64 4, .int .u32 lf] [.int .i64 f, .int .i64 4, .int .u32 lf] rfl
      replace b5 := b5.alloc (.cells #[.int .i64 f, .int .i64 4, .int .u32 lf] 57)
      replace bR := bR.alloc (.cells #[.int .i64 f, .int .i64 4, .int .u32 lf] 57)
      replace lw := lw.alloc lw.size (.cells #[.int .i64 f, .int .i64 4, .int .u32 lf] 57)
      refine hK.out _ _ (b5.cell (j := 0) rfl) (fun hHeld => ?_)
      clear hK K'
      try simp only [Act.put, List.setIfInBounds_toArray, List.set_cons_zero, List.set_cons_succ]
      refine wpAnyH_ready (rs := [5]) (by kernel_rfl) (by simp) (AllReadyH.cons (o := ⟨some 43, .call { callee := .value (.func 39), args := #[.tmp 38, .tmp 42], argTypes := #[24, 29] }, _, _, _, none⟩) rfl (fun K' hK => ?_) (AllReadyH.nil))
      go_simp
      have hRl := bR.lt
      have hz5 := lw.size
      refine (HW1.out _ _ _ lw bW).mono ?_
      rintro e w5 ⟨g, c', rfl, hg, hc, hc2, hd, l5⟩
      replace b5 := b5.keep l5
      replace bR := bR.keep l5
      replace lw := Later.trans_ lw l5
      have cR := bR.cell (j := 0) (v := .slice none 0 0) rfl
      have fR := bR.frz 0
      refine hK.out _ _ (b5.cell (j := 0) rfl) (fun hHeld => ?_)
      clear hK K'
      try simp only [Act.put, List.setIfInBounds_toArray, List.set_cons_zero, List.set_cons_succ]
      refine wpAnyH_ready (rs := [6]) (by kernel_rfl) (by simp) (AllReadyH.cons (o := ⟨none, .store 24 (.tmp 10) (.tmp 43), _, _, _, none⟩) rfl (fun K' hK => ?_) (AllReadyH.nil))
      go_simp
      replace b5 := b5.set_other ⟨w.heap.size + 1, 0, none⟩ (.slice (some ⟨g, 0, none⟩) n c') (by show w.heap.size ≠ w.heap.size + 1; omega)
      refine hK.out _ _ (b5.cell (j := 0) rfl) (fun hHeld => ?_)
      clear hK K'
      try simp only [Act.put, List.setIfInBounds_toArray, List.set_cons_zero, List.set_cons_succ]
      refine wpAnyH_take (i := 7) (oi := ⟨some 11, .assign (.const (.int .i64 0)), _, _, _, none⟩) (v := .int .i64 0) rfl (by kernel_rfl) (by kernel_rfl) (by kernel_rfl) (fun _ _ _ h => h) (Or.inl ⟨by rfl, fun _ _ => rfl⟩) hHeld ?_
      simp only [Act.put, List.setIfInBounds_toArray, List.set_cons_zero, List.set_cons_succ]
      refine wpAnyH_done (by kernel_rfl) ?_ _
      clear hHeld
      go_wp2
      exact bodyPost_ret (v := .tuple #[.agg #[.slice (some ⟨g, 0, none⟩) n c'], .int .i64 0]) (results_cell_tmp Try.results15 _ _ (w.heap.size + 1) 24 _ _ _ rfl rfl (bR.set 0 (.slice (some ⟨g, 0, none⟩) n c')) Try.underlying24 rfl mem_sz) rfl
        ⟨g, c', rfl, by omega, hc, hc2, hd.only (Only.set _ _ _ _) (by omega), lw.setCell (by simp) _⟩
end Go.Proofs.Ytempcbdlaoblhab
