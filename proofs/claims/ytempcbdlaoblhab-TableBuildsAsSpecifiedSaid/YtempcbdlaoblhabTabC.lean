/-
  THE WALK OF mapError.
-/
import Derived.Test.YtempcbdlaoblhabTabB2
namespace Go.Proofs.Ytempcbdlaoblhab
open Go.RowKit Go.ChangeShapes Go.WideShapes Go.ChangeAt

namespace Tm
theorem wd_e {b : Wm.Bs} (h : Wm.isBs b) (a : Int) : isE (wd b a) := by
  unfold wd Mm.ld
  split
  · have hb : Wm.isBs ((b.drop a.toNat).take (4 : Int).toNat) := isBs_take (isBs_drop h _) _
    refine ⟨Mm.le_nn hb, ?_⟩
    have h1 := Mm.le_lt hb
    have h2 : ((b.drop a.toNat).take (4 : Int).toNat).length ≤ 4 := List.length_take_le _ _
    have h3 : (256 : Int) ^ ((b.drop a.toNat).take (4 : Int).toNat).length ≤ 256 ^ 4 := by
      rcases (show ((b.drop a.toNat).take (4 : Int).toNat).length = 0 ∨ ((b.drop a.toNat).take (4 : Int).toNat).length = 1 ∨ ((b.drop a.toNat).take (4 : Int).toNat).length = 2 ∨ ((b.drop a.toNat).take (4 : Int).toNat).length = 3 ∨ ((b.drop a.toNat).take (4 : Int).toNat).length = 4 by omega) with e | e | e | e | e <;> rw [e] <;> decide
    exact Int.lt_of_lt_of_le h1 h3
  · exact ⟨by omega, by omega⟩
theorem pageB_lt {n : Nat} {a : Int} (h : pageB n a = true) : a % 128 = 0 ∧ a < (n : Int) * 128 := by
  unfold pageB at h
  rw [Bool.and_eq_true] at h
  exact ⟨of_decide_eq_true h.1, of_decide_eq_true h.2⟩
theorem rootB_lt {n : Nat} {a : Int} (h : rootB n a = true) : a ≠ 0 ∧ a % 128 = 0 ∧ a < (n : Int) * 128 := by
  unfold rootB at h
  rw [Bool.and_eq_true] at h
  exact ⟨by simpa using h.1, pageB_lt h.2⟩
theorem mapB_lt {n : Nat} {root va pa r s : Int} (h : mapB n root va pa r s = true) : va < 131072 ∧ va % s = 0 ∧ pageB n pa = true ∧ pa % s = 0 ∧ (0 ≤ r ∧ r % 2 = 0 ∧ r ≤ 14) ∧ rootB n root = true := by
  unfold mapB at h
  simp only [Bool.and_eq_true] at h
  exact ⟨of_decide_eq_true h.1, of_decide_eq_true h.2.1, h.2.2.1, of_decide_eq_true h.2.2.2.1, of_decide_eq_true h.2.2.2.2.1, h.2.2.2.2.2⟩
/-- The first error of Map, out of what is asked: may it be mapped; is the first entry valid, right, large; is table the root, can it be one; is the second entry valid. -/
def errB (bm v eq rt rf lg v2 : Bool) : Int :=
  if !bm then 1 else if !v && (eq || !rt) then 1 else if !v then 0 else if !rf then 3 else if lg || v2 then 6 else 0
def mapE (n : Nat) (b : Wm.Bs) (root va pa r tb : Int) : Int :=
  errB (mapB n root va pa r 128) (has (wd b (fA root va)) 1) (tb == root) (rootB n tb) (rF n (wd b (fA root va))) (has (wd b (fA root va)) 64) (has (wd b (sA (adr (wd b (fA root va))) va)) 1)
end Tm
theorem rF_page {n : Nat} {e : Int} (h : Tm.rF n e = true) (hl : Tm.has e 64 = false) : Tm.pageB n (Tm.adr e) = true := by
  unfold Tm.rF at h
  rw [hl, if_neg (by decide), Bool.and_eq_true] at h
  exact h.2
set_option maxRecDepth 100000 in
set_option maxHeartbeats 4000000 in
theorem mapError_any (A : Option Addr) (n c : Nat) (root va pa r tb : Int) (b : Wm.Bs) (w : World) (hs : Sl w 128 A n (U b)) (hb : Wm.isBs b) (hn1 : 1 ≤ n) (hn : n ≤ 64) (hr : 0 ≤ root ∧ root < 4294967296) (hv : 0 ≤ va ∧ va < 4294967296) (hp : 0 ≤ pa ∧ pa < 4294967296) (hq : -9223372036854775808 ≤ r ∧ r ≤ 9223372036854775807) (ht : 0 ≤ tb ∧ tb < 4294967296) :
    Calls Try.prog 38 #[.agg #[.slice A n c], .int .u32 root, .int .u32 va, .int .u32 pa, .int .i64 r, .int .u32 tb] w fun e w' => e = .returned (.int .i64 (Tm.mapE n b root va pa r tb)) ∧ Later w w' := by
  have HM := Lib.hid fun w' => areMappable128_any A n c root va pa r w' hn hr hv hp hq
  have HRT := Lib.hid fun w' => isRoot_any A n c tb w' hn ht
  obtain ⟨bm, hbm⟩ : ∃ bm, bm = Tm.mapB n root va pa r 128 := ⟨_, rfl⟩
  unfold Tm.mapE
  rw [← hbm] at HM ⊢
  cases bm with
  | false =>
    clear hbm
    go_enter Try.func38, Try.ntmps38
    go_wp2_with (go_at_call 47; refine (HM.out _).mono ?_; rintro e w1 ⟨rfl, l1⟩)
    go_ret
    exact ⟨rfl, Later.trans_ (later1 _ _) l1⟩
  | true =>
    obtain ⟨v1, _, _, _, _, hroot⟩ := Tm.mapB_lt hbm.symm
    obtain ⟨rn0, rn1, rn2⟩ := Tm.rootB_lt hroot
    have hfA : 0 ≤ Tm.fA root va ∧ Tm.fA root va < 4294967296 := by unfold Tm.fA; omega
    have HF := Lib.hid fun w' => inFirst_any root va w' (by omega) hv
    have HL := Lib.hid fun w' (hl : Later w w') => tload_any A n c (Tm.fA root va) b w' (hs.keep hl) hb hn1 hn hfA
    have hx := Tm.wd_e hb (Tm.fA root va)
    obtain ⟨f, hf⟩ : ∃ f, f = Tm.fA root va := ⟨_, rfl⟩
    rw [← hf] at HF HL hx ⊢
    obtain ⟨x, hX⟩ : ∃ x, x = Tm.wd b f := ⟨_, rfl⟩
    rw [← hX] at HL hx ⊢
    have HV := Lib.hid fun w' => isValid_any x w' hx
    have HG := Lib.hid fun w' => isLarge_any x w' hx
    have HA := Lib.hid fun w' => address_any x w' hx
    have HRF := Lib.hid fun w' => isRightFirst_any x A n c w' hx hn
    have hrl := fun (h1 : Tm.rF n x = true) (h2 : Tm.has x 64 = false) => Tm.pageB_lt (rF_page h1 h2)
    have hxa := Tm.adr_e hx
    have HIS := Lib.hid fun w' (h1 : Tm.rF n x = true) (h2 : Tm.has x 64 = false) => inSecond_any (Tm.adr x) va w' ⟨hxa.1, by have := hrl h1 h2; omega⟩ hv
    have hsA := fun (h1 : Tm.rF n x = true) (h2 : Tm.has x 64 = false) => (show 0 ≤ Tm.sA (Tm.adr x) va ∧ Tm.sA (Tm.adr x) va < 4294967296 by have := hrl h1 h2; have := hxa.1; unfold Tm.sA; omega)
    have HL2 := Lib.hid fun w' (hl : Later w w') (h1 : Tm.rF n x = true) (h2 : Tm.has x 64 = false) => tload_any A n c (Tm.sA (Tm.adr x) va) b w' (hs.keep hl) hb hn1 hn (hsA h1 h2)
    obtain ⟨y, hY⟩ : ∃ y, y = Tm.wd b (Tm.sA (Tm.adr x) va) := ⟨_, rfl⟩
    have hy := Tm.wd_e hb (Tm.sA (Tm.adr x) va)
    rw [← hY] at HL2 hy ⊢
    have HV2 := Lib.hid fun w' => isValid_any y w' hy
    obtain ⟨v, hve⟩ : ∃ v, v = Tm.has x 1 := ⟨_, rfl⟩
    obtain ⟨eq, heq⟩ : ∃ eq, eq = (tb == root) := ⟨_, rfl⟩
    obtain ⟨rt, hrt⟩ : ∃ rt, rt = Tm.rootB n tb := ⟨_, rfl⟩
    obtain ⟨rf, hrf⟩ : ∃ rf, rf = Tm.rF n x := ⟨_, rfl⟩
    obtain ⟨lg, hlg⟩ : ∃ lg, lg = Tm.has x 64 := ⟨_, rfl⟩
    obtain ⟨v2, hv2⟩ : ∃ v2, v2 = Tm.has y 1 := ⟨_, rfl⟩
    rw [← hve] at HV ⊢
    rw [← heq]
    rw [← hrt] at HRT ⊢
    rw [← hrf] at HRF HIS HL2 ⊢
    rw [← hlg] at HG HIS HL2 ⊢
    rw [← hv2] at HV2 ⊢
    replace heq := heq.symm
    obtain ⟨ax, hax⟩ : ∃ ax, ax = Tm.adr x := ⟨_, rfl⟩
    obtain ⟨s2, hs2⟩ : ∃ s2, s2 = Tm.sA (Tm.adr x) va := ⟨_, rfl⟩
    rw [← hs2] at HIS HL2
    rw [← hax] at HA HIS
    clear hf hX hve hrt hrf hlg hv2 hbm hroot hrl hsA hY hxa hax hs2 hs hb hq hfA
    cases v with
    | false =>
      cases eq with
      | false =>
        cases rt with
        | false =>
          go_enter Try.func38, Try.ntmps38
          go_wp2_with (go_at_call 47; refine (HM.out _).mono ?_; rintro e w1 ⟨rfl, l1⟩)
          have b6 := (Blk.new w 24 #[.slice A n c] [.slice A n c] rfl).keep l1
          have lw := Later.trans_ (later1 w _) l1
          have k0 := cell_regrown (b6.cell (j := 0) (v := .slice A n c) rfl)
          have KF := reM (w := w1) (fun w' _ => laterEq (HF.out w'))
          have KL := reM (w := w1) (fun w' h => HL.out w' (Later.trans_ lw h))
          refine wp_region_quiet_below (by kernel_rfl) (by kernel_rfl) ?_
          repeat (go_big_quiet_step (first | with_reducible exact KF _ _ | with_reducible exact KL _ _))
          refine wpQuiet_nil ?_
          rintro _ ⟨⟨dq, osq⟩, rfl⟩
          have l2 := below_regrown w1 dq osq
          generalize Sort.grow (redrawn w1 dq) osq = w2 at l2 ⊢
          clear k0 KF KL
          replace b6 := b6.keep l2
          replace lw := Later.trans_ lw l2
          have c6 := b6.cell (j := 0) (v := .slice A n c) rfl
          go_wp2_with (first
            | (go_at_call 42; refine (HV.out _).mono ?_; rintro e w' ⟨rfl, rfl⟩)
            | (go_at_call 48; refine (HRT.out _).mono ?_; rintro e w3 ⟨rfl, l3⟩; replace b6 := b6.keep l3; replace lw := Later.trans_ lw l3; clear c6; have c6 := b6.cell (j := 0) (v := .slice A n c) rfl)
            | (go_at_call 49; refine (HRF.out _).mono ?_; rintro e w4 ⟨rfl, l4⟩; replace b6 := b6.keep l4; replace lw := Later.trans_ lw l4; clear c6; have c6 := b6.cell (j := 0) (v := .slice A n c) rfl))
          go_ret
          exact ⟨rfl, lw⟩
        | true =>
          go_enter Try.func38, Try.ntmps38
          go_wp2_with (go_at_call 47; refine (HM.out _).mono ?_; rintro e w1 ⟨rfl, l1⟩)
          have b6 := (Blk.new w 24 #[.slice A n c] [.slice A n c] rfl).keep l1
          have lw := Later.trans_ (later1 w _) l1
          have k0 := cell_regrown (b6.cell (j := 0) (v := .slice A n c) rfl)
          have KF := reM (w := w1) (fun w' _ => laterEq (HF.out w'))
          have KL := reM (w := w1) (fun w' h => HL.out w' (Later.trans_ lw h))
          refine wp_region_quiet_below (by kernel_rfl) (by kernel_rfl) ?_
          repeat (go_big_quiet_step (first | with_reducible exact KF _ _ | with_reducible exact KL _ _))
          refine wpQuiet_nil ?_
          rintro _ ⟨⟨dq, osq⟩, rfl⟩
          have l2 := below_regrown w1 dq osq
          generalize Sort.grow (redrawn w1 dq) osq = w2 at l2 ⊢
          clear k0 KF KL
          replace b6 := b6.keep l2
          replace lw := Later.trans_ lw l2
          have c6 := b6.cell (j := 0) (v := .slice A n c) rfl
          go_wp2_with (first
            | (go_at_call 42; refine (HV.out _).mono ?_; rintro e w' ⟨rfl, rfl⟩)
            | (go_at_call 48; refine (HRT.out _).mono ?_; rintro e w3 ⟨rfl, l3⟩; replace b6 := b6.keep l3; replace lw := Later.trans_ lw l3; clear c6; have c6 := b6.cell (j := 0) (v := .slice A n c) rfl)
            | (go_at_call 49; refine (HRF.out _).mono ?_; rintro e w4 ⟨rfl, l4⟩; replace b6 := b6.keep l4; replace lw := Later.trans_ lw l4; clear c6; have c6 := b6.cell (j := 0) (v := .slice A n c) rfl))
          go_ret
          exact ⟨rfl, lw⟩
      | true =>
        go_enter Try.func38, Try.ntmps38
        go_wp2_with (go_at_call 47; refine (HM.out _).mono ?_; rintro e w1 ⟨rfl, l1⟩)
        have b6 := (Blk.new w 24 #[.slice A n c] [.slice A n c] rfl).keep l1
        have lw := Later.trans_ (later1 w _) l1
        have k0 := cell_regrown (b6.cell (j := 0) (v := .slice A n c) rfl)
        have KF := reM (w := w1) (fun w' _ => laterEq (HF.out w'))
        have KL := reM (w := w1) (fun w' h => HL.out w' (Later.trans_ lw h))
        refine wp_region_quiet_below (by kernel_rfl) (by kernel_rfl) ?_
        repeat (go_big_quiet_step (first | with_reducible exact KF _ _ | with_reducible exact KL _ _))
        refine wpQuiet_nil ?_
        rintro _ ⟨⟨dq, osq⟩, rfl⟩
        have l2 := below_regrown w1 dq osq
        generalize Sort.grow (redrawn w1 dq) osq = w2 at l2 ⊢
        clear k0 KF KL
        replace b6 := b6.keep l2
        replace lw := Later.trans_ lw l2
        have c6 := b6.cell (j := 0) (v := .slice A n c) rfl
        go_wp2_with (first
          | (go_at_call 42; refine (HV.out _).mono ?_; rintro e w' ⟨rfl, rfl⟩)
          | (go_at_call 48; refine (HRT.out _).mono ?_; rintro e w3 ⟨rfl, l3⟩; replace b6 := b6.keep l3; replace lw := Later.trans_ lw l3; clear c6; have c6 := b6.cell (j := 0) (v := .slice A n c) rfl)
          | (go_at_call 49; refine (HRF.out _).mono ?_; rintro e w4 ⟨rfl, l4⟩; replace b6 := b6.keep l4; replace lw := Later.trans_ lw l4; clear c6; have c6 := b6.cell (j := 0) (v := .slice A n c) rfl))
        go_ret
        exact ⟨rfl, lw⟩
    | true =>
      cases rf with
      | false =>
        go_enter Try.func38, Try.ntmps38
        go_wp2_with (go_at_call 47; refine (HM.out _).mono ?_; rintro e w1 ⟨rfl, l1⟩)
        have b6 := (Blk.new w 24 #[.slice A n c] [.slice A n c] rfl).keep l1
        have lw := Later.trans_ (later1 w _) l1
        have k0 := cell_regrown (b6.cell (j := 0) (v := .slice A n c) rfl)
        have KF := reM (w := w1) (fun w' _ => laterEq (HF.out w'))
        have KL := reM (w := w1) (fun w' h => HL.out w' (Later.trans_ lw h))
        refine wp_region_quiet_below (by kernel_rfl) (by kernel_rfl) ?_
        repeat (go_big_quiet_step (first | with_reducible exact KF _ _ | with_reducible exact KL _ _))
        refine wpQuiet_nil ?_
        rintro _ ⟨⟨dq, osq⟩, rfl⟩
        have l2 := below_regrown w1 dq osq
        generalize Sort.grow (redrawn w1 dq) osq = w2 at l2 ⊢
        clear k0 KF KL
        replace b6 := b6.keep l2
        replace lw := Later.trans_ lw l2
        have c6 := b6.cell (j := 0) (v := .slice A n c) rfl
        go_wp2_with (first
          | (go_at_call 42; refine (HV.out _).mono ?_; rintro e w' ⟨rfl, rfl⟩)
          | (go_at_call 48; refine (HRT.out _).mono ?_; rintro e w3 ⟨rfl, l3⟩; replace b6 := b6.keep l3; replace lw := Later.trans_ lw l3; clear c6; have c6 := b6.cell (j := 0) (v := .slice A n c) rfl)
          | (go_at_call 49; refine (HRF.out _).mono ?_; rintro e w4 ⟨rfl, l4⟩; replace b6 := b6.keep l4; replace lw := Later.trans_ lw l4; clear c6; have c6 := b6.cell (j := 0) (v := .slice A n c) rfl))
        go_ret
        exact ⟨rfl, lw⟩
      | true =>
        cases lg with
        | false =>
          cases v2 with
          | false =>
            go_enter Try.func38, Try.ntmps38
            go_wp2_with (go_at_call 47; refine (HM.out _).mono ?_; rintro e w1 ⟨rfl, l1⟩)
            have b6 := (Blk.new w 24 #[.slice A n c] [.slice A n c] rfl).keep l1
            have lw := Later.trans_ (later1 w _) l1
            have k0 := cell_regrown (b6.cell (j := 0) (v := .slice A n c) rfl)
            have KF := reM (w := w1) (fun w' _ => laterEq (HF.out w'))
            have KL := reM (w := w1) (fun w' h => HL.out w' (Later.trans_ lw h))
            refine wp_region_quiet_below (by kernel_rfl) (by kernel_rfl) ?_
            repeat (go_big_quiet_step (first | with_reducible exact KF _ _ | with_reducible exact KL _ _))
            refine wpQuiet_nil ?_
            rintro _ ⟨⟨dq, osq⟩, rfl⟩
            have l2 := below_regrown w1 dq osq
            generalize Sort.grow (redrawn w1 dq) osq = w2 at l2 ⊢
            clear k0 KF KL
            replace b6 := b6.keep l2
            replace lw := Later.trans_ lw l2
            have c6 := b6.cell (j := 0) (v := .slice A n c) rfl
            go_wp2_with (first
              | (go_at_call 42; refine (HV.out _).mono ?_; rintro e w' ⟨rfl, rfl⟩)
              | (go_at_call 48; refine (HRT.out _).mono ?_; rintro e w3 ⟨rfl, l3⟩; replace b6 := b6.keep l3; replace lw := Later.trans_ lw l3; clear c6; have c6 := b6.cell (j := 0) (v := .slice A n c) rfl)
              | (go_at_call 49; refine (HRF.out _).mono ?_; rintro e w4 ⟨rfl, l4⟩; replace b6 := b6.keep l4; replace lw := Later.trans_ lw l4; clear c6; have c6 := b6.cell (j := 0) (v := .slice A n c) rfl))
            have k0 := cell_regrown c6
            have KG := reM (w := w4) (fun w' _ => laterEq (HG.out w'))
            have KA := reM (w := w4) (fun w' _ => laterEq (HA.out w'))
            have KS := reM (w := w4) (fun w' _ => laterEq (HIS.out w' (by simp) (by simp)))
            have KL2 := reM (w := w4) (fun w' h => HL2.out w' (Later.trans_ lw h) (by simp) (by simp))
            have KV2 := reM (w := w4) (fun w' _ => laterEq (HV2.out w'))
            refine wp_region_quiet_below (by kernel_rfl) (by kernel_rfl) ?_
            repeat (go_big_quiet_step (first | with_reducible exact KG _ _ | with_reducible exact KA _ _ | with_reducible exact KS _ _ | with_reducible exact KL2 _ _ | with_reducible exact KV2 _ _))
            refine wpQuiet_nil ?_
            rintro _ ⟨⟨dr, osr⟩, rfl⟩
            have l5 := below_regrown w4 dr osr
            generalize Sort.grow (redrawn w4 dr) osr = w5 at l5 ⊢
            replace lw := Later.trans_ lw l5
            go_wp2
            go_ret
            exact ⟨rfl, lw⟩
          | true =>
            go_enter Try.func38, Try.ntmps38
            go_wp2_with (go_at_call 47; refine (HM.out _).mono ?_; rintro e w1 ⟨rfl, l1⟩)
            have b6 := (Blk.new w 24 #[.slice A n c] [.slice A n c] rfl).keep l1
            have lw := Later.trans_ (later1 w _) l1
            have k0 := cell_regrown (b6.cell (j := 0) (v := .slice A n c) rfl)
            have KF := reM (w := w1) (fun w' _ => laterEq (HF.out w'))
            have KL := reM (w := w1) (fun w' h => HL.out w' (Later.trans_ lw h))
            refine wp_region_quiet_below (by kernel_rfl) (by kernel_rfl) ?_
            repeat (go_big_quiet_step (first | with_reducible exact KF _ _ | with_reducible exact KL _ _))
            refine wpQuiet_nil ?_
            rintro _ ⟨⟨dq, osq⟩, rfl⟩
            have l2 := below_regrown w1 dq osq
            generalize Sort.grow (redrawn w1 dq) osq = w2 at l2 ⊢
            clear k0 KF KL
            replace b6 := b6.keep l2
            replace lw := Later.trans_ lw l2
            have c6 := b6.cell (j := 0) (v := .slice A n c) rfl
            go_wp2_with (first
              | (go_at_call 42; refine (HV.out _).mono ?_; rintro e w' ⟨rfl, rfl⟩)
              | (go_at_call 48; refine (HRT.out _).mono ?_; rintro e w3 ⟨rfl, l3⟩; replace b6 := b6.keep l3; replace lw := Later.trans_ lw l3; clear c6; have c6 := b6.cell (j := 0) (v := .slice A n c) rfl)
              | (go_at_call 49; refine (HRF.out _).mono ?_; rintro e w4 ⟨rfl, l4⟩; replace b6 := b6.keep l4; replace lw := Later.trans_ lw l4; clear c6; have c6 := b6.cell (j := 0) (v := .slice A n c) rfl))
            have k0 := cell_regrown c6
            have KG := reM (w := w4) (fun w' _ => laterEq (HG.out w'))
            have KA := reM (w := w4) (fun w' _ => laterEq (HA.out w'))
            have KS := reM (w := w4) (fun w' _ => laterEq (HIS.out w' (by simp) (by simp)))
            have KL2 := reM (w := w4) (fun w' h => HL2.out w' (Later.trans_ lw h) (by simp) (by simp))
            have KV2 := reM (w := w4) (fun w' _ => laterEq (HV2.out w'))
            refine wp_region_quiet_below (by kernel_rfl) (by kernel_rfl) ?_
            repeat (go_big_quiet_step (first | with_reducible exact KG _ _ | with_reducible exact KA _ _ | with_reducible exact KS _ _ | with_reducible exact KL2 _ _ | with_reducible exact KV2 _ _))
            refine wpQuiet_nil ?_
            rintro _ ⟨⟨dr, osr⟩, rfl⟩
            have l5 := below_regrown w4 dr osr
            generalize Sort.grow (redrawn w4 dr) osr = w5 at l5 ⊢
            replace lw := Later.trans_ lw l5
            go_wp2
            go_ret
            exact ⟨rfl, lw⟩
        | true =>
          go_enter Try.func38, Try.ntmps38
          go_wp2_with (go_at_call 47; refine (HM.out _).mono ?_; rintro e w1 ⟨rfl, l1⟩)
          have b6 := (Blk.new w 24 #[.slice A n c] [.slice A n c] rfl).keep l1
          have lw := Later.trans_ (later1 w _) l1
          have k0 := cell_regrown (b6.cell (j := 0) (v := .slice A n c) rfl)
          have KF := reM (w := w1) (fun w' _ => laterEq (HF.out w'))
          have KL := reM (w := w1) (fun w' h => HL.out w' (Later.trans_ lw h))
          refine wp_region_quiet_below (by kernel_rfl) (by kernel_rfl) ?_
          repeat (go_big_quiet_step (first | with_reducible exact KF _ _ | with_reducible exact KL _ _))
          refine wpQuiet_nil ?_
          rintro _ ⟨⟨dq, osq⟩, rfl⟩
          have l2 := below_regrown w1 dq osq
          generalize Sort.grow (redrawn w1 dq) osq = w2 at l2 ⊢
          clear k0 KF KL
          replace b6 := b6.keep l2
          replace lw := Later.trans_ lw l2
          have c6 := b6.cell (j := 0) (v := .slice A n c) rfl
          go_wp2_with (first
            | (go_at_call 42; refine (HV.out _).mono ?_; rintro e w' ⟨rfl, rfl⟩)
            | (go_at_call 48; refine (HRT.out _).mono ?_; rintro e w3 ⟨rfl, l3⟩; replace b6 := b6.keep l3; replace lw := Later.trans_ lw l3; clear c6; have c6 := b6.cell (j := 0) (v := .slice A n c) rfl)
            | (go_at_call 49; refine (HRF.out _).mono ?_; rintro e w4 ⟨rfl, l4⟩; replace b6 := b6.keep l4; replace lw := Later.trans_ lw l4; clear c6; have c6 := b6.cell (j := 0) (v := .slice A n c) rfl))
          have k0 := cell_regrown c6
          have KG := reM (w := w4) (fun w' _ => laterEq (HG.out w'))
          have KA := reM (w := w4) (fun w' _ => laterEq (HA.out w'))
          refine wp_region_quiet_below (by kernel_rfl) (by kernel_rfl) ?_
          repeat (go_big_quiet_step (first | with_reducible exact KG _ _))
          refine wpQuiet_nil ?_
          rintro _ ⟨⟨dr, osr⟩, rfl⟩
          have l5 := below_regrown w4 dr osr
          generalize Sort.grow (redrawn w4 dr) osr = w5 at l5 ⊢
          replace lw := Later.trans_ lw l5
          go_wp2
          go_ret
          exact ⟨rfl, lw⟩
end Go.Proofs.Ytempcbdlaoblhab
