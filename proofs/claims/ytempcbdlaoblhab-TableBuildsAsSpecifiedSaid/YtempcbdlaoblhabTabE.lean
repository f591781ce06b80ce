/-
  THE WALK OF Unmap.
-/
import Derived.Test.YtempcbdlaoblhabTabD
namespace Go.Proofs.Ytempcbdlaoblhab
open Go.RowKit Go.ChangeShapes Go.WideShapes Go.ChangeAt

namespace Tm
/-- Unmap's error: is the address one, the root; is the first entry valid, right, large; is the second one valid. -/
def errU (lt rt v rf lg v2 : Bool) : Int := if !(lt && rt) then 1 else if v && !rf then 3 else if !v then 5 else if lg then 0 else if v2 then 0 else 5
def unmapE (n : Nat) (b : Wm.Bs) (root va : Int) : Int :=
  errU (decide (va < 131072)) (rootB n root) (has (wd b (fA root va)) 1) (rF n (wd b (fA root va))) (has (wd b (fA root va)) 64) (has (wd b (sA (adr (wd b (fA root va))) va)) 1)
def unmapM (n : Nat) (b : Wm.Bs) (root va : Int) : Wm.Bs :=
  if unmapE n b root va = 0 then Mm.st b (if has (wd b (fA root va)) 64 then fA root va else sA (adr (wd b (fA root va))) va) 4 0 else b
end Tm
set_option maxRecDepth 100000 in
set_option maxHeartbeats 4000000 in
theorem unmap_any (A : Option Addr) (n c : Nat) (root va : Int) (b : Wm.Bs) (w : World) (hs : Sl w 128 A n (U b)) (hb : Wm.isBs b) (hn1 : 1 ≤ n) (hn : n ≤ 64) (hr : 0 ≤ root ∧ root < 4294967296) (hv : 0 ≤ va ∧ va < 4294967296) :
    Calls Try.prog 16 #[.agg #[.slice A n c], .int .u32 root, .int .u32 va] w (GotME n (Tm.unmapM n b root va) (Tm.unmapE n b root va) w) := by
  have HW := Lib.hid fun w' (hl : Later w w') => with0_any A n c b w' (hs.keep hl) hb hn1 hn
  have HR := Lib.hid fun w' => isRoot_any A n c root w' hn hr
  unfold Tm.unmapM Tm.unmapE
  by_cases hlt : va < 131072
  rotate_left
  · rw [decide_eq_false hlt, show ∀ rt v rf lg v2, Tm.errU false rt v rf lg v2 = 1 from fun _ _ _ _ _ => rfl, if_neg (by decide)]
    have d1 : decide (131072 ≤ va) = true := decide_eq_true (by omega)
    clear hlt hs hb hn hr hv
    have b5 := ((Blk.new w 24 #[.slice A n c] [.slice A n c] rfl).alloc (.cells #[.slice none 0 0] 24))
    have bR := (Blk.new' (w.alloc (.cells #[.slice A n c] 24)) (w.heap.size + 1) 24 #[.slice none 0 0] [.slice none 0 0] (by simp) rfl)
    have lw := (later1 w (.cells #[.slice A n c] 24)).alloc (by simp) (.cells #[.slice none 0 0] 24)
    have c5 := b5.cell (j := 0) (v := .slice A n c) rfl
    have hw0 : w.heap.size + 1 < ((w.alloc (.cells #[.slice A n c] 24)).alloc (.cells #[.slice none 0 0] 24)).heap.size := by simp
    clear hw0
    go_enter Try.func16, Try.ntmps16
    go_wp2_with (first
      | (go_at_call 48; refine (HR.out _).mono ?_; rintro e w1 ⟨rfl, l1⟩; replace b5 := b5.keep l1; replace bR := bR.keep l1; replace lw := Later.trans_ lw l1; clear c5; have c5 := b5.cell (j := 0) (v := .slice A n c) rfl)
      | (go_at_call 39; refine (HW.out _ lw).mono ?_; rintro e w2 ⟨g, c', rfl, hg, hc, hc2, hd, l2⟩; have hRl := bR.lt; have hsz2 := lw.size; replace bR := bR.keep l2; have cR := bR.cell (j := 0) (v := .slice none 0 0) rfl; have fR := bR.frz 0))
    exact bodyPost_ret (v := .tuple #[.agg #[.slice (some ⟨g, 0, none⟩) n c'], .int .i64 1]) (results_cell_tmp Try.results16 _ _ (w.heap.size + 1) 24 _ _ _ rfl rfl (bR.set 0 (.slice (some ⟨g, 0, none⟩) n c')) Try.underlying24 rfl mem_sz) rfl
      ⟨g, c', rfl, by omega, hc, hc2, hd.only (Only.set _ _ _ _) (by omega), (Later.trans_ lw l2).setCell (by simp) _⟩
  have d1 : decide (131072 ≤ va) = false := decide_eq_false (by omega)
  obtain ⟨rt, hrt⟩ : ∃ rt, rt = Tm.rootB n root := ⟨_, rfl⟩
  rw [← hrt] at HR ⊢
  rw [decide_eq_true hlt]
  cases rt with
  | false =>
    rw [show ∀ v rf lg v2, Tm.errU true false v rf lg v2 = 1 from fun _ _ _ _ => rfl, if_neg (by decide)]
    clear hlt hrt hs hb hn hr hv
    have b5 := ((Blk.new w 24 #[.slice A n c] [.slice A n c] rfl).alloc (.cells #[.slice none 0 0] 24))
    have bR := (Blk.new' (w.alloc (.cells #[.slice A n c] 24)) (w.heap.size + 1) 24 #[.slice none 0 0] [.slice none 0 0] (by simp) rfl)
    have lw := (later1 w (.cells #[.slice A n c] 24)).alloc (by simp) (.cells #[.slice none 0 0] 24)
    have c5 := b5.cell (j := 0) (v := .slice A n c) rfl
    have hw0 : w.heap.size + 1 < ((w.alloc (.cells #[.slice A n c] 24)).alloc (.cells #[.slice none 0 0] 24)).heap.size := by simp
    clear hw0
    go_enter Try.func16, Try.ntmps16
    go_wp2_with (first
      | (go_at_call 48; refine (HR.out _).mono ?_; rintro e w1 ⟨rfl, l1⟩; replace b5 := b5.keep l1; replace bR := bR.keep l1; replace lw := Later.trans_ lw l1; clear c5; have c5 := b5.cell (j := 0) (v := .slice A n c) rfl)
      | (go_at_call 39; refine (HW.out _ lw).mono ?_; rintro e w2 ⟨g, c', rfl, hg, hc, hc2, hd, l2⟩; have hRl := bR.lt; have hsz2 := lw.size; replace bR := bR.keep l2; have cR := bR.cell (j := 0) (v := .slice none 0 0) rfl; have fR := bR.frz 0))
    exact bodyPost_ret (v := .tuple #[.agg #[.slice (some ⟨g, 0, none⟩) n c'], .int .i64 1]) (results_cell_tmp Try.results16 _ _ (w.heap.size + 1) 24 _ _ _ rfl rfl (bR.set 0 (.slice (some ⟨g, 0, none⟩) n c')) Try.underlying24 rfl mem_sz) rfl
      ⟨g, c', rfl, by omega, hc, hc2, hd.only (Only.set _ _ _ _) (by omega), (Later.trans_ lw l2).setCell (by simp) _⟩
  | true =>
    obtain ⟨rn0, rn1, rn2⟩ := Tm.rootB_lt hrt.symm
    have hfA : 0 ≤ Tm.fA root va ∧ Tm.fA root va < 4294967296 := by unfold Tm.fA; omega
    have HF := Lib.hid fun w' => inFirst_any root va w' (by omega) hv
    have HL := Lib.hid fun w' (hl : Later w w') => tload_any A n c (Tm.fA root va) b w' (hs.keep hl) hb hn1 hn hfA
    have hx := Tm.wd_e hb (Tm.fA root va)
    obtain ⟨f, hf⟩ : ∃ f, f = Tm.fA root va := ⟨_, rfl⟩
    rw [← hf] at HF HL hx hfA ⊢
    obtain ⟨x, hX⟩ : ∃ x, x = Tm.wd b f := ⟨_, rfl⟩
    rw [← hX] at HL hx ⊢
    have HV := Lib.hid fun w' => isValid_any x w' hx
    have HG := Lib.hid fun w' => isLarge_any x w' hx
    have HA := Lib.hid fun w' => address_any x w' hx
    have HRF := Lib.hid fun w' => isRightFirst_any x A n c w' hx hn
    have hrl := fun (h1 : Tm.rF n x = true) (h2 : Tm.has x 64 = false) => Tm.pageB_lt (rF_page h1 h2)
    have hxa := Tm.adr_e hx
    have HIS := Lib.hid fun w' (h1 : Tm.rF n x = true) (h2 : Tm.has x 64 = false) => inSecond_any (Tm.adr x) va w' ⟨hxa.1, by have := hrl h1 h2; omega⟩ hv
    have hsA := fun (h1 : Tm.rF n x = true) (h2 : Tm.has x 64 = false) => (show 0 ≤ Tm.sA (Tm.adr x) va ∧ Tm.sA (Tm.adr x) va < 4294967296 by have := hrl h1 h2; have := hxa.1; unfold Tm.sA; omega)
    have HL2 := Lib.hid fun w' (hl : Later w w') (h1 : Tm.rF n x = true) (h2 : Tm.has x 64 = false) => tload_any A n c (Tm.sA (Tm.adr x) va) b w' (hs.keep hl) hb hn1 hn (hsA h1 h2)
    have HS1 := Lib.hid fun w' => estore_any 0 f w' hfA
    have HW1 := Lib.hid fun w' B t (hl : Later w w') (h : Blk w' B t [.int .i64 f, .int .i64 4, .int .u32 0]) => with1_any A n c B t f 0 b w' (hs.keep hl) hb hn1 hn h (by simp only [isW]; omega)
    have HS2 := Lib.hid fun w' (h1 : Tm.rF n x = true) (h2 : Tm.has x 64 = false) => estore_any 0 (Tm.sA (Tm.adr x) va) w' (hsA h1 h2)
    have HW2 := Lib.hid fun w' B t (hl : Later w w') (h1 : Tm.rF n x = true) (h2 : Tm.has x 64 = false) (h : Blk w' B t [.int .i64 (Tm.sA (Tm.adr x) va), .int .i64 4, .int .u32 0]) => with1_any A n c B t (Tm.sA (Tm.adr x) va) 0 b w' (hs.keep hl) hb hn1 hn h (by have := hsA h1 h2; simp only [isW]; omega)
    have hsB := fun (h1 : Tm.rF n x = true) (h2 : Tm.has x 64 = false) => hsA h1 h2
    obtain ⟨y, hY⟩ : ∃ y, y = Tm.wd b (Tm.sA (Tm.adr x) va) := ⟨_, rfl⟩
    have hy := Tm.wd_e hb (Tm.sA (Tm.adr x) va)
    rw [← hY] at HL2 hy ⊢
    have HV2 := Lib.hid fun w' => isValid_any y w' hy
    obtain ⟨v, hve⟩ : ∃ v, v = Tm.has x 1 := ⟨_, rfl⟩
    obtain ⟨rf, hrf⟩ : ∃ rf, rf = Tm.rF n x := ⟨_, rfl⟩
    obtain ⟨lg, hlg⟩ : ∃ lg, lg = Tm.has x 64 := ⟨_, rfl⟩
    obtain ⟨v2, hv2⟩ : ∃ v2, v2 = Tm.has y 1 := ⟨_, rfl⟩
    rw [← hve] at HV ⊢
    rw [← hrf] at HRF HIS HL2 HS2 HW2 hsB ⊢
    rw [← hlg] at HG HIS HL2 HS2 HW2 hsB ⊢
    rw [← hv2] at HV2 ⊢
    obtain ⟨ax, hax⟩ : ∃ ax, ax = Tm.adr x := ⟨_, rfl⟩
    rw [← hax] at HA HIS HL2 HS2 HW2 hsB ⊢
    obtain ⟨s2, hs2⟩ : ∃ s2, s2 = Tm.sA ax va := ⟨_, rfl⟩
    rw [← hs2] at HIS HL2 HS2 HW2 hsB ⊢
    have hf0 := hfA.1
    have hf1 := hfA.2
    clear hf hX hve hrf hlg hv2 hrt hrl hsA hY hxa hax hs2 hs hb hr hv hfA hx hy
    cases v with
    | false =>
      rw [show ∀ rf lg v2, Tm.errU true true false rf lg v2 = 5 from fun _ _ _ => rfl, if_neg (by decide)]
      have b5 := ((Blk.new w 24 #[.slice A n c] [.slice A n c] rfl).alloc (.cells #[.slice none 0 0] 24))
      have bR := (Blk.new' (w.alloc (.cells #[.slice A n c] 24)) (w.heap.size + 1) 24 #[.slice none 0 0] [.slice none 0 0] (by simp) rfl)
      have lw := (later1 w (.cells #[.slice A n c] 24)).alloc (by simp) (.cells #[.slice none 0 0] 24)
      have c5 := b5.cell (j := 0) (v := .slice A n c) rfl
      have hw0 : w.heap.size + 1 < ((w.alloc (.cells #[.slice A n c] 24)).alloc (.cells #[.slice none 0 0] 24)).heap.size := by simp
      clear hw0
      go_enter Try.func16, Try.ntmps16
      go_wp2_with (first
        | (go_at_call 48; refine (HR.out _).mono ?_; rintro e w1 ⟨rfl, l1⟩; replace b5 := b5.keep l1; replace bR := bR.keep l1; replace lw := Later.trans_ lw l1; clear c5; have c5 := b5.cell (j := 0) (v := .slice A n c) rfl)
        | (go_at_call 40; refine (HF.out _).mono ?_; rintro e w' ⟨rfl, rfl⟩)
        | (go_at_call 46; refine (HIS.out _ (by simp) (by simp)).mono ?_; rintro e w' ⟨rfl, rfl⟩)
        | (go_at_call 41; (with_reducible refine (HL.out _ lw).mono ?_); rintro e w3 ⟨rfl, l3⟩; replace b5 := b5.keep l3; replace bR := bR.keep l3; replace lw := Later.trans_ lw l3; clear c5; have c5 := b5.cell (j := 0) (v := .slice A n c) rfl)
        | (go_at_call 41; (with_reducible refine (HL2.out _ lw (by simp) (by simp)).mono ?_); rintro e w4 ⟨rfl, l4⟩; replace b5 := b5.keep l4; replace bR := bR.keep l4; replace lw := Later.trans_ lw l4; clear c5; have c5 := b5.cell (j := 0) (v := .slice A n c) rfl)
        | (go_at_call 42; (with_reducible refine (HV.out _).mono ?_); rintro e w' ⟨rfl, rfl⟩)
        | (go_at_call 42; (with_reducible refine (HV2.out _).mono ?_); rintro e w' ⟨rfl, rfl⟩)
        | (go_at_call 50; refine (HG.out _).mono ?_; rintro e w' ⟨rfl, rfl⟩)
        | (go_at_call 43; refine (HA.out _).mono ?_; rintro e w' ⟨rfl, rfl⟩)
        | (go_at_call 49; refine (HRF.out _).mono ?_; rintro e w5 ⟨rfl, l5⟩; replace b5 := b5.keep l5; replace bR := bR.keep l5; replace lw := Later.trans_ lw l5; clear c5; have c5 := b5.cell (j := 0) (v := .slice A n c) rfl)
        | (go_at_call 39; refine (HW.out _ lw).mono ?_; rintro e w2 ⟨g, c', rfl, hg, hc, hc2, hd, l2⟩; have hRl := bR.lt; have hsz2 := lw.size; replace bR := bR.keep l2; have cR := bR.cell (j := 0) (v := .slice none 0 0) rfl; have fR := bR.frz 0))
      exact bodyPost_ret (v := .tuple #[.agg #[.slice (some ⟨g, 0, none⟩) n c'], .int .i64 5]) (results_cell_tmp Try.results16 _ _ (w.heap.size + 1) 24 _ _ _ rfl rfl (bR.set 0 (.slice (some ⟨g, 0, none⟩) n c')) Try.underlying24 rfl mem_sz) rfl
        ⟨g, c', rfl, by omega, hc, hc2, hd.only (Only.set _ _ _ _) (by omega), (Later.trans_ lw l2).setCell (by simp) _⟩
    | true =>
      cases rf with
      | false =>
        rw [show ∀ lg v2, Tm.errU true true true false lg v2 = 3 from fun _ _ => rfl, if_neg (by decide)]
        have b5 := ((Blk.new w 24 #[.slice A n c] [.slice A n c] rfl).alloc (.cells #[.slice none 0 0] 24))
        have bR := (Blk.new' (w.alloc (.cells #[.slice A n c] 24)) (w.heap.size + 1) 24 #[.slice none 0 0] [.slice none 0 0] (by simp) rfl)
        have lw := (later1 w (.cells #[.slice A n c] 24)).alloc (by simp) (.cells #[.slice none 0 0] 24)
        have c5 := b5.cell (j := 0) (v := .slice A n c) rfl
        have hw0 : w.heap.size + 1 < ((w.alloc (.cells #[.slice A n c] 24)).alloc (.cells #[.slice none 0 0] 24)).heap.size := by simp
        clear hw0
        go_enter Try.func16, Try.ntmps16
        go_wp2_with (first
          | (go_at_call 48; refine (HR.out _).mono ?_; rintro e w1 ⟨rfl, l1⟩; replace b5 := b5.keep l1; replace bR := bR.keep l1; replace lw := Later.trans_ lw l1; clear c5; have c5 := b5.cell (j := 0) (v := .slice A n c) rfl)
          | (go_at_call 40; refine (HF.out _).mono ?_; rintro e w' ⟨rfl, rfl⟩)
          | (go_at_call 46; refine (HIS.out _ (by simp) (by simp)).mono ?_; rintro e w' ⟨rfl, rfl⟩)
          | (go_at_call 41; (with_reducible refine (HL.out _ lw).mono ?_); rintro e w3 ⟨rfl, l3⟩; replace b5 := b5.keep l3; replace bR := bR.keep l3; replace lw := Later.trans_ lw l3; clear c5; have c5 := b5.cell (j := 0) (v := .slice A n c) rfl)
          | (go_at_call 41; (with_reducible refine (HL2.out _ lw (by simp) (by simp)).mono ?_); rintro e w4 ⟨rfl, l4⟩; replace b5 := b5.keep l4; replace bR := bR.keep l4; replace lw := Later.trans_ lw l4; clear c5; have c5 := b5.cell (j := 0) (v := .slice A n c) rfl)
          | (go_at_call 42; (with_reducible refine (HV.out _).mono ?_); rintro e w' ⟨rfl, rfl⟩)
          | (go_at_call 42; (with_reducible refine (HV2.out _).mono ?_); rintro e w' ⟨rfl, rfl⟩)
          | (go_at_call 50; refine (HG.out _).mono ?_; rintro e w' ⟨rfl, rfl⟩)
          | (go_at_call 43; refine (HA.out _).mono ?_; rintro e w' ⟨rfl, rfl⟩)
          | (go_at_call 49; refine (HRF.out _).mono ?_; rintro e w5 ⟨rfl, l5⟩; replace b5 := b5.keep l5; replace bR := bR.keep l5; replace lw := Later.trans_ lw l5; clear c5; have c5 := b5.cell (j := 0) (v := .slice A n c) rfl)
          | (go_at_call 39; refine (HW.out _ lw).mono ?_; rintro e w2 ⟨g, c', rfl, hg, hc, hc2, hd, l2⟩; have hRl := bR.lt; have hsz2 := lw.size; replace bR := bR.keep l2; have cR := bR.cell (j := 0) (v := .slice none 0 0) rfl; have fR := bR.frz 0))
        exact bodyPost_ret (v := .tuple #[.agg #[.slice (some ⟨g, 0, none⟩) n c'], .int .i64 3]) (results_cell_tmp Try.results16 _ _ (w.heap.size + 1) 24 _ _ _ rfl rfl (bR.set 0 (.slice (some ⟨g, 0, none⟩) n c')) Try.underlying24 rfl mem_sz) rfl
          ⟨g, c', rfl, by omega, hc, hc2, hd.only (Only.set _ _ _ _) (by omega), (Later.trans_ lw l2).setCell (by simp) _⟩
      | true =>
        cases lg with
        | false =>
          cases v2 with
          | false =>
            rw [show Tm.errU true true true true false false = 5 from rfl, if_neg (by decide)]
            have b5 := ((Blk.new w 24 #[.slice A n c] [.slice A n c] rfl).alloc (.cells #[.slice none 0 0] 24))
            have bR := (Blk.new' (w.alloc (.cells #[.slice A n c] 24)) (w.heap.size + 1) 24 #[.slice none 0 0] [.slice none 0 0] (by simp) rfl)
            have lw := (later1 w (.cells #[.slice A n c] 24)).alloc (by simp) (.cells #[.slice none 0 0] 24)
            have c5 := b5.cell (j := 0) (v := .slice A n c) rfl
            have hw0 : w.heap.size + 1 < ((w.alloc (.cells #[.slice A n c] 24)).alloc (.cells #[.slice none 0 0] 24)).heap.size := by simp
            clear hw0
            go_enter Try.func16, Try.ntmps16
            go_wp2_with (first
              | (go_at_call 48; refine (HR.out _).mono ?_; rintro e w1 ⟨rfl, l1⟩; replace b5 := b5.keep l1; replace bR := bR.keep l1; replace lw := Later.trans_ lw l1; clear c5; have c5 := b5.cell (j := 0) (v := .slice A n c) rfl)
              | (go_at_call 40; refine (HF.out _).mono ?_; rintro e w' ⟨rfl, rfl⟩)
              | (go_at_call 46; refine (HIS.out _ (by simp) (by simp)).mono ?_; rintro e w' ⟨rfl, rfl⟩)
              | (go_at_call 41; (with_reducible refine (HL.out _ lw).mono ?_); rintro e w3 ⟨rfl, l3⟩; replace b5 := b5.keep l3; replace bR := bR.keep l3; replace lw := Later.trans_ lw l3; clear c5; have c5 := b5.cell (j := 0) (v := .slice A n c) rfl)
              | (go_at_call 41; (with_reducible refine (HL2.out _ lw (by simp) (by simp)).mono ?_); rintro e w4 ⟨rfl, l4⟩; replace b5 := b5.keep l4; replace bR := bR.keep l4; replace lw := Later.trans_ lw l4; clear c5; have c5 := b5.cell (j := 0) (v := .slice A n c) rfl)
              | (go_at_call 42; (with_reducible refine (HV.out _).mono ?_); rintro e w' ⟨rfl, rfl⟩)
              | (go_at_call 42; (with_reducible refine (HV2.out _).mono ?_); rintro e w' ⟨rfl, rfl⟩)
              | (go_at_call 50; refine (HG.out _).mono ?_; rintro e w' ⟨rfl, rfl⟩)
              | (go_at_call 43; refine (HA.out _).mono ?_; rintro e w' ⟨rfl, rfl⟩)
              | (go_at_call 49; refine (HRF.out _).mono ?_; rintro e w5 ⟨rfl, l5⟩; replace b5 := b5.keep l5; replace bR := bR.keep l5; replace lw := Later.trans_ lw l5; clear c5; have c5 := b5.cell (j := 0) (v := .slice A n c) rfl)
              | (go_at_call 39; refine (HW.out _ lw).mono ?_; rintro e w2 ⟨g, c', rfl, hg, hc, hc2, hd, l2⟩; have hRl := bR.lt; have hsz2 := lw.size; replace bR := bR.keep l2; have cR := bR.cell (j := 0) (v := .slice none 0 0) rfl; have fR := bR.frz 0))
            exact bodyPost_ret (v := .tuple #[.agg #[.slice (some ⟨g, 0, none⟩) n c'], .int .i64 5]) (results_cell_tmp Try.results16 _ _ (w.heap.size + 1) 24 _ _ _ rfl rfl (bR.set 0 (.slice (some ⟨g, 0, none⟩) n c')) Try.underlying24 rfl mem_sz) rfl
              ⟨g, c', rfl, by omega, hc, hc2, hd.only (Only.set _ _ _ _) (by omega), (Later.trans_ lw l2).setCell (by simp) _⟩
          | true =>
            rw [show Tm.errU true true true true false true = 0 from rfl, if_pos rfl]
            rw [if_neg (by decide)]
            obtain ⟨hs0, hs1⟩ := hsB (by simp) (by simp)
            clear hsB
            have b5 := ((Blk.new w 24 #[.slice A n c] [.slice A n c] rfl).alloc (.cells #[.slice none 0 0] 24))
            have bR := (Blk.new' (w.alloc (.cells #[.slice A n c] 24)) (w.heap.size + 1) 24 #[.slice none 0 0] [.slice none 0 0] (by simp) rfl)
            have lw := (later1 w (.cells #[.slice A n c] 24)).alloc (by simp) (.cells #[.slice none 0 0] 24)
            have c5 := b5.cell (j := 0) (v := .slice A n c) rfl
            have hw0 : w.heap.size + 1 < ((w.alloc (.cells #[.slice A n c] 24)).alloc (.cells #[.slice none 0 0] 24)).heap.size := by simp
            clear hw0
            go_enter Try.func16, Try.ntmps16
            go_wp2_with (first
              | (go_at_call 48; refine (HR.out _).mono ?_; rintro e w1 ⟨rfl, l1⟩; replace b5 := b5.keep l1; replace bR := bR.keep l1; replace lw := Later.trans_ lw l1; clear c5; have c5 := b5.cell (j := 0) (v := .slice A n c) rfl)
              | (go_at_call 40; refine (HF.out _).mono ?_; rintro e w' ⟨rfl, rfl⟩)
              | (go_at_call 46; refine (HIS.out _ (by simp) (by simp)).mono ?_; rintro e w' ⟨rfl, rfl⟩)
              | (go_at_call 41; (with_reducible refine (HL.out _ lw).mono ?_); rintro e w3 ⟨rfl, l3⟩; replace b5 := b5.keep l3; replace bR := bR.keep l3; replace lw := Later.trans_ lw l3; clear c5; have c5 := b5.cell (j := 0) (v := .slice A n c) rfl)
              | (go_at_call 41; (with_reducible refine (HL2.out _ lw (by simp) (by simp)).mono ?_); rintro e w4 ⟨rfl, l4⟩; replace b5 := b5.keep l4; replace bR := bR.keep l4; replace lw := Later.trans_ lw l4; clear c5; have c5 := b5.cell (j := 0) (v := .slice A n c) rfl)
              | (go_at_call 42; (with_reducible refine (HV.out _).mono ?_); rintro e w' ⟨rfl, rfl⟩)
              | (go_at_call 42; (with_reducible refine (HV2.out _).mono ?_); rintro e w' ⟨rfl, rfl⟩)
              | (go_at_call 50; refine (HG.out _).mono ?_; rintro e w' ⟨rfl, rfl⟩)
              | (go_at_call 43; refine (HA.out _).mono ?_; rintro e w' ⟨rfl, rfl⟩)
              | (go_at_call 49; refine (HRF.out _).mono ?_; rintro e w5 ⟨rfl, l5⟩; replace b5 := b5.keep l5; replace bR := bR.keep l5; replace lw := Later.trans_ lw l5; clear c5; have c5 := b5.cell (j := 0) (v := .slice A n c) rfl)
              | (go_at_call 39; refine (HW.out _ lw).mono ?_; rintro e w2 ⟨g, c', rfl, hg, hc, hc2, hd, l2⟩; have hRl := bR.lt; have hsz2 := lw.size; replace bR := bR.keep l2; have cR := bR.cell (j := 0) (v := .slice none 0 0) rfl; have fR := bR.frz 0))
            clear c5
            replace b5 := b5.drew; replace bR := bR.drew; replace lw : Later w w4.drew := lw.drew
            refine wp_region_held_drew (S := fun w' => w'.cell? ⟨w.heap.size, 0, none⟩ = some (.slice A n c)) (by kernel_rfl) (b5.cell (j := 0) rfl) (fun hHeld => ?_)
            refine wpAnyH_take (i := 0) (oi := ⟨some 55, .load 24 (.tmp 3), _, _, _, none⟩) (v := .agg #[.slice A n c]) rfl (by kernel_rfl) (by kernel_rfl) (by kernel_rfl) (fun _ _ _ h => h) (Or.inl ⟨by rfl, fun w hS => by have h0 := hS; go_simp⟩) hHeld ?_
            simp only [Act.put, List.setIfInBounds_toArray, List.set_cons_zero, List.set_cons_succ]
            refine wpAnyH_take (i := 1) (oi := ⟨some 56, .move (.tmp 8), _, _, _, none⟩) (v := .int .u32 s2) rfl (by kernel_rfl) (by kernel_rfl) (by kernel_rfl) (fun _ _ _ h => h) (Or.inl ⟨by rfl, fun _ _ => rfl⟩) hHeld ?_
            simp only [Act.put, List.setIfInBounds_toArray, List.set_cons_zero, List.set_cons_succ]
            refine wpAnyH_ready (rs := [2]) (by kernel_rfl) (by simp) (AllReadyH.cons (o := ⟨some 57, .call { callee := .value (.func 45), args := #[.const (.int .u32 0), .tmp 56], argTypes := #[81, 25] }, _, _, _, none⟩) rfl (fun K' hK => ?_) (AllReadyH.nil))
            go_simp
            refine (HS2.out _ (by simp) (by simp)).mono ?_
            rintro e w6 ⟨rfl, l6⟩
            replace b5 := b5.keep l6
            replace bR := bR.keep l6
            replace lw := Later.trans_ lw l6
            refine hK.out _ _ (b5.cell (j := 0) rfl) (fun hHeld => ?_)
            clear hK K'
            try simp only [Act.put, List.setIfInBounds_toArray, List.set_cons_zero, List.set_cons_succ]
            refine wpAnyH_ready (rs := [3]) (by kernel_rfl) (by simp) (AllReadyH.cons (o := ⟨some 58, .buildSlice 29 1 #[(0, .tmp 57)], _, _, _, none⟩) rfl (fun K' hK => ?_) (AllReadyH.nil))
            go_simp
            have bW := Blk.new w6 57 #[.int .i64 s2, .int .i64 4, .int .u32 0] [.int .i64 s2, .int .i64 4, .int .u32 0] rfl
            replace b5 := b5.alloc (.cells #[.int .i64 s2, .int .i64 4, .int .u32 0] 57)
            replace bR := bR.alloc (.cells #[.int .i64 s2, .int .i64 4, .int .u32 0] 57)
            replace lw := lw.alloc lw.size (.cells #[.int .i64 s2, .int .i64 4, .int .u32 0] 57)
            refine hK.out _ _ (b5.cell (j := 0) rfl) (fun hHeld => ?_)
            clear hK K'
            try simp only [Act.put, List.setIfInBounds_toArray, List.set_cons_zero, List.set_cons_succ]
            refine wpAnyH_ready (rs := [4]) (by kernel_rfl) (by simp) (AllReadyH.cons (o := ⟨some 59, .call { callee := .value (.func 39), args := #[.tmp 55, .tmp 58], argTypes := #[24, 29] }, _, _, _, none⟩) rfl (fun K' hK => ?_) (AllReadyH.nil))
            go_simp
            have hRl := bR.lt
            have hz5 := lw.size
            refine (HW2.out _ _ _ lw (by simp) (by simp) bW).mono ?_
            rintro e w7 ⟨g, c', rfl, hg, hc, hc2, hd, l7⟩
            replace b5 := b5.keep l7
            replace bR := bR.keep l7
            replace lw := Later.trans_ lw l7
            have cR := bR.cell (j := 0) (v := .slice none 0 0) rfl
            have fR := bR.frz 0
            refine hK.out _ _ (b5.cell (j := 0) rfl) (fun hHeld => ?_)
            clear hK K'
            try simp only [Act.put, List.setIfInBounds_toArray, List.set_cons_zero, List.set_cons_succ]
            refine wpAnyH_ready (rs := [5]) (by kernel_rfl) (by simp) (AllReadyH.cons (o := ⟨none, .store 24 (.tmp 6) (.tmp 59), _, _, _, none⟩) rfl (fun K' hK => ?_) (AllReadyH.nil))
            go_simp
            replace b5 := b5.set_other ⟨w.heap.size + 1, 0, none⟩ (.slice (some ⟨g, 0, none⟩) n c') (by show w.heap.size ≠ w.heap.size + 1; omega)
            refine hK.out _ _ (b5.cell (j := 0) rfl) (fun hHeld => ?_)
            clear hK K'
            try simp only [Act.put, List.setIfInBounds_toArray, List.set_cons_zero, List.set_cons_succ]
            refine wpAnyH_take (i := 6) (oi := ⟨some 7, .assign (.const (.int .i64 0)), _, _, _, none⟩) (v := .int .i64 0) rfl (by kernel_rfl) (by kernel_rfl) (by kernel_rfl) (fun _ _ _ h => h) (Or.inl ⟨by rfl, fun _ _ => rfl⟩) hHeld ?_
            simp only [Act.put, List.setIfInBounds_toArray, List.set_cons_zero, List.set_cons_succ]
            refine wpAnyH_done (by kernel_rfl) ?_ _
            clear hHeld
            go_wp2
            exact bodyPost_ret (v := .tuple #[.agg #[.slice (some ⟨g, 0, none⟩) n c'], .int .i64 0]) (results_cell_tmp Try.results16 _ _ (w.heap.size + 1) 24 _ _ _ rfl rfl (bR.set 0 (.slice (some ⟨g, 0, none⟩) n c')) Try.underlying24 rfl mem_sz) rfl
              ⟨g, c', rfl, by omega, hc, hc2, hd.only (Only.set _ _ _ _) (by omega), lw.setCell (by simp) _⟩
        | true =>
          rw [show ∀ v2, Tm.errU true true true true true v2 = 0 from fun _ => rfl, if_pos rfl, if_pos rfl]
          have b5 := ((Blk.new w 24 #[.slice A n c] [.slice A n c] rfl).alloc (.cells #[.slice none 0 0] 24))
          have bR := (Blk.new' (w.alloc (.cells #[.slice A n c] 24)) (w.heap.size + 1) 24 #[.slice none 0 0] [.slice none 0 0] (by simp) rfl)
          have lw := (later1 w (.cells #[.slice A n c] 24)).alloc (by simp) (.cells #[.slice none 0 0] 24)
          have c5 := b5.cell (j := 0) (v := .slice A n c) rfl
          have hw0 : w.heap.size + 1 < ((w.alloc (.cells #[.slice A n c] 24)).alloc (.cells #[.slice none 0 0] 24)).heap.size := by simp
          clear hw0
          go_enter Try.func16, Try.ntmps16
          go_wp2_with (first
            | (go_at_call 48; refine (HR.out _).mono ?_; rintro e w1 ⟨rfl, l1⟩; replace b5 := b5.keep l1; replace bR := bR.keep l1; replace lw := Later.trans_ lw l1; clear c5; have c5 := b5.cell (j := 0) (v := .slice A n c) rfl)
            | (go_at_call 40; refine (HF.out _).mono ?_; rintro e w' ⟨rfl, rfl⟩)
            | (go_at_call 46; refine (HIS.out _ (by simp) (by simp)).mono ?_; rintro e w' ⟨rfl, rfl⟩)
            | (go_at_call 41; (with_reducible refine (HL.out _ lw).mono ?_); rintro e w3 ⟨rfl, l3⟩; replace b5 := b5.keep l3; replace bR := bR.keep l3; replace lw := Later.trans_ lw l3; clear c5; have c5 := b5.cell (j := 0) (v := .slice A n c) rfl)
            | (go_at_call 41; (with_reducible refine (HL2.out _ lw (by simp) (by simp)).mono ?_); rintro e w4 ⟨rfl, l4⟩; replace b5 := b5.keep l4; replace bR := bR.keep l4; replace lw := Later.trans_ lw l4; clear c5; have c5 := b5.cell (j := 0) (v := .slice A n c) rfl)
            | (go_at_call 42; (with_reducible refine (HV.out _).mono ?_); rintro e w' ⟨rfl, rfl⟩)
            | (go_at_call 42; (with_reducible refine (HV2.out _).mono ?_); rintro e w' ⟨rfl, rfl⟩)
            | (go_at_call 50; refine (HG.out _).mono ?_; rintro e w' ⟨rfl, rfl⟩)
            | (go_at_call 43; refine (HA.out _).mono ?_; rintro e w' ⟨rfl, rfl⟩)
            | (go_at_call 49; refine (HRF.out _).mono ?_; rintro e w5 ⟨rfl, l5⟩; replace b5 := b5.keep l5; replace bR := bR.keep l5; replace lw := Later.trans_ lw l5; clear c5; have c5 := b5.cell (j := 0) (v := .slice A n c) rfl)
            | (go_at_call 39; refine (HW.out _ lw).mono ?_; rintro e w2 ⟨g, c', rfl, hg, hc, hc2, hd, l2⟩; have hRl := bR.lt; have hsz2 := lw.size; replace bR := bR.keep l2; have cR := bR.cell (j := 0) (v := .slice none 0 0) rfl; have fR := bR.frz 0))
          clear c5
          replace b5 := b5.drew; replace bR := bR.drew; replace lw : Later w w5.drew := lw.drew
          refine wp_region_held_drew (S := fun w' => w'.cell? ⟨w.heap.size, 0, none⟩ = some (.slice A n c)) (by kernel_rfl) (b5.cell (j := 0) rfl) (fun hHeld => ?_)
          refine wpAnyH_take (i := 0) (oi := ⟨some 55, .load 24 (.tmp 3), _, _, _, none⟩) (v := .agg #[.slice A n c]) rfl (by kernel_rfl) (by kernel_rfl) (by kernel_rfl) (fun _ _ _ h => h) (Or.inl ⟨by rfl, fun w hS => by have h0 := hS; go_simp⟩) hHeld ?_
          simp only [Act.put, List.setIfInBounds_toArray, List.set_cons_zero, List.set_cons_succ]
          refine wpAnyH_take (i := 1) (oi := ⟨some 56, .move (.tmp 8), _, _, _, none⟩) (v := .int .u32 f) rfl (by kernel_rfl) (by kernel_rfl) (by kernel_rfl) (fun _ _ _ h => h) (Or.inl ⟨by rfl, fun _ _ => rfl⟩) hHeld ?_
          simp only [Act.put, List.setIfInBounds_toArray, List.set_cons_zero, List.set_cons_succ]
          refine wpAnyH_ready (rs := [2]) (by kernel_rfl) (by simp) (AllReadyH.cons (o := ⟨some 57, .call { callee := .value (.func 45), args := #[.const (.int .u32 0), .tmp 56], argTypes := #[81, 25] }, _, _, _, none⟩) rfl (fun K' hK => ?_) (AllReadyH.nil))
          go_simp
          refine (HS1.out _ ).mono ?_
          rintro e w6 ⟨rfl, l6⟩
          replace b5 := b5.keep l6
          replace bR := bR.keep l6
          replace lw := Later.trans_ lw l6
          refine hK.out _ _ (b5.cell (j := 0) rfl) (fun hHeld => ?_)
          clear hK K'
          try simp only [Act.put, List.setIfInBounds_toArray, List.set_cons_zero, List.set_cons_succ]
          refine wpAnyH_ready (rs := [3]) (by kernel_rfl) (by simp) (AllReadyH.cons (o := ⟨some 58, .buildSlice 29 1 #[(0, .tmp 57)], _, _, _, none⟩) rfl (fun K' hK => ?_) (AllReadyH.nil))
          go_simp
          have bW := Blk.new w6 57 #[.int .i64 f, .int .i64 4, .int .u32 0] [.int .i64 f, .int .i64 4, .int .u32 0] rfl
          replace b5 := b5.alloc (.cells #[.int .i64 f, .int .i64 4, .int .u32 0] 57)
          replace bR := bR.alloc (.cells #[.int .i64 f, .int .i64 4, .int .u32 0] 57)
          replace lw := lw.alloc lw.size (.cells #[.int .i64 f, .int .i64 4, .int .u32 0] 57)
          refine hK.out _ _ (b5.cell (j := 0) rfl) (fun hHeld => ?_)
          clear hK K'
          try simp only [Act.put, List.setIfInBounds_toArray, List.set_cons_zero, List.set_cons_succ]
          refine wpAnyH_ready (rs := [4]) (by kernel_rfl) (by simp) (AllReadyH.cons (o := ⟨some 59, .call { callee := .value (.func 39), args := #[.tmp 55, .tmp 58], argTypes := #[24, 29] }, _, _, _, none⟩) rfl (fun K' hK => ?_) (AllReadyH.nil))
          go_simp
          have hRl := bR.lt
          have hz5 := lw.size
          refine (HW1.out _ _ _ lw  bW).mono ?_
          rintro e w7 ⟨g, c', rfl, hg, hc, hc2, hd, l7⟩
          replace b5 := b5.keep l7
          replace bR := bR.keep l7
          replace lw := Later.trans_ lw l7
          have cR := bR.cell (j := 0) (v := .slice none 0 0) rfl
          have fR := bR.frz 0
          refine hK.out _ _ (b5.cell (j := 0) rfl) (fun hHeld => ?_)
          clear hK K'
          try simp only [Act.put, List.setIfInBounds_toArray, List.set_cons_zero, List.set_cons_succ]
          refine wpAnyH_ready (rs := [5]) (by kernel_rfl) (by simp) (AllReadyH.cons (o := ⟨none, .store 24 (.tmp 6) (.tmp 59), _, _, _, none⟩) rfl (fun K' hK => ?_) (AllReadyH.nil))
          go_simp
          replace b5 := b5.set_other ⟨w.heap.size + 1, 0, none⟩ (.slice (some ⟨g, 0, none⟩) n c') (by show w.heap.size ≠ w.heap.size + 1; omega)
          refine hK.out _ _ (b5.cell (j := 0) rfl) (fun hHeld => ?_)
          clear hK K'
          try simp only [Act.put, List.setIfInBounds_toArray, List.set_cons_zero, List.set_cons_succ]
          refine wpAnyH_take (i := 6) (oi := ⟨some 7, .assign (.const (.int .i64 0)), _, _, _, none⟩) (v := .int .i64 0) rfl (by kernel_rfl) (by kernel_rfl) (by kernel_rfl) (fun _ _ _ h => h) (Or.inl ⟨by rfl, fun _ _ => rfl⟩) hHeld ?_
          simp only [Act.put, List.setIfInBounds_toArray, List.set_cons_zero, List.set_cons_succ]
          refine wpAnyH_done (by kernel_rfl) ?_ _
          clear hHeld
          go_wp2
          exact bodyPost_ret (v := .tuple #[.agg #[.slice (some ⟨g, 0, none⟩) n c'], .int .i64 0]) (results_cell_tmp Try.results16 _ _ (w.heap.size + 1) 24 _ _ _ rfl rfl (bR.set 0 (.slice (some ⟨g, 0, none⟩) n c')) Try.underlying24 rfl mem_sz) rfl
            ⟨g, c', rfl, by omega, hc, hc2, hd.only (Only.set _ _ _ _) (by omega), lw.setCell (by simp) _⟩
end Go.Proofs.Ytempcbdlaoblhab
