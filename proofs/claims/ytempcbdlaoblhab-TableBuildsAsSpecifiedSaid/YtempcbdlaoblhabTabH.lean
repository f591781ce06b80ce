/-
  THE WALKS OF leaf.
-/
import Derived.Test.YtempcbdlaoblhabTabG
namespace Go.Proofs.Ytempcbdlaoblhab
open Go.RowKit Go.ChangeShapes Go.WideShapes Go.ChangeAt

namespace Tm
/-- A leaf found: its address, its word, what was read, and whether there is one. -/
structure Lf where
  a : Int
  e : Int
  r : List Int
  ok : Bool
def find (n : Nat) (b : Wm.Bs) (root va : Int) : Lf :=
  if has (wd b (fA root va)) 1 && rF n (wd b (fA root va)) then
    (if has (wd b (fA root va)) 64 then ⟨fA root va, wd b (fA root va), [fA root va], true⟩
     else ⟨sA (adr (wd b (fA root va))) va, wd b (sA (adr (wd b (fA root va))) va), [fA root va, sA (adr (wd b (fA root va))) va], has (wd b (sA (adr (wd b (fA root va))) va)) 1 && !has (wd b (sA (adr (wd b (fA root va))) va)) 64⟩)
  else ⟨0, 0, [fA root va], false⟩
end Tm
def lfEnd (l : Tm.Lf) : Ending := if l.ok then .returned (.tuple #[.int .u32 l.a, .int .u32 l.e]) else .panicked Flt
set_option maxRecDepth 100000 in
set_option maxHeartbeats 4000000 in
theorem leaf_any (A : Option Addr) (n c : Nat) (root va : Int) (b : Wm.Bs) (base tB : Nat) (w0 w : World) (hb0 : base = w0.heap.size) (hs : Sl w0 128 A n (U b)) (hb : Wm.isBs b) (hn1 : 1 ≤ n) (hn : n ≤ 64) (hr0 : 0 ≤ root) (hr : root < 8192) (hv0 : 0 ≤ va) (hv : va < 131072) (hW0 : Wk0 w base tB A n c) (hl : Later w0 w) :
    Calls Try.prog 70 #[.pointer (some ⟨tB, 0, none⟩), .int .u32 root, .int .u32 va] w fun e w' => e = lfEnd (Tm.find n b root va) ∧ Wkr w' base w.heap.size tB A n c (Tm.find n b root va).r ∧ Later w0 w' ∧ Kept w.heap.size tB w w' := by
  have hbw : base ≤ w.heap.size := by rw [hb0]; exact hl.size
  have hW := hW0.wkr w.heap.size hbw
  obtain ⟨lo, hlo⟩ : ∃ lo, lo = w.heap.size := ⟨_, rfl⟩
  rw [← hlo] at hW ⊢
  have hlo1 : lo ≤ w.heap.size := by omega
  clear hlo hbw hW0
  have hfA : 0 ≤ Tm.fA root va ∧ Tm.fA root va < 4294967296 := by unfold Tm.fA; omega
  have HF := Lib.hid fun w' => inFirst_any root va w' (by omega) (by omega)
  have HR1 := Lib.hid fun w' (h : Wkr w' base lo tB A n c []) (hlo : lo ≤ w'.heap.size) (hl : Later w0 w') => read_any A n c (Tm.fA root va) b base lo tB [] w0 w' hb0 hs hb hn1 hn hfA h (by simp) hlo hl
  have hx := Tm.wd_e hb (Tm.fA root va)
  unfold Tm.find
  obtain ⟨f, hf⟩ : ∃ f, f = Tm.fA root va := ⟨_, rfl⟩
  rw [← hf] at HF HR1 hx ⊢
  obtain ⟨x, hX⟩ : ∃ x, x = Tm.wd b f := ⟨_, rfl⟩
  rw [← hX] at HR1 hx ⊢
  have HV := Lib.hid fun w' => isValid_any x w' hx
  have HG := Lib.hid fun w' => isLarge_any x w' hx
  have HA := Lib.hid fun w' => address_any x w' hx
  have HRF := Lib.hid fun w' => isRightFirst_any x A n c w' hx hn
  have hrl := fun (h1 : Tm.rF n x = true) (h2 : Tm.has x 64 = false) => Tm.pageB_lt (rF_page h1 h2)
  have hxa := Tm.adr_e hx
  have HIS := Lib.hid fun w' (h1 : Tm.rF n x = true) (h2 : Tm.has x 64 = false) => inSecond_any (Tm.adr x) va w' ⟨hxa.1, by have := hrl h1 h2; omega⟩ (by omega)
  have hsA := fun (h1 : Tm.rF n x = true) (h2 : Tm.has x 64 = false) => (show 0 ≤ Tm.sA (Tm.adr x) va ∧ Tm.sA (Tm.adr x) va < 4294967296 by have := hrl h1 h2; have := hxa.1; unfold Tm.sA; omega)
  have HR2 := Lib.hid fun w' (h1 : Tm.rF n x = true) (h2 : Tm.has x 64 = false) (h : Wkr w' base lo tB A n c [f]) (hlo : lo ≤ w'.heap.size) (hl : Later w0 w') => read_any A n c (Tm.sA (Tm.adr x) va) b base lo tB [f] w0 w' hb0 hs hb hn1 hn (hsA h1 h2) h (by simp) hlo hl
  obtain ⟨y, hY⟩ : ∃ y, y = Tm.wd b (Tm.sA (Tm.adr x) va) := ⟨_, rfl⟩
  have hy := Tm.wd_e hb (Tm.sA (Tm.adr x) va)
  rw [← hY] at HR2 hy ⊢
  have HV2 := Lib.hid fun w' => isValid_any y w' hy
  have HS2 := Lib.hid fun w' => isRightSecond_any y w' hy
  have NY := Lib.hid need_yes
  have NN := Lib.hid need_no
  obtain ⟨v, hve⟩ : ∃ v, v = Tm.has x 1 := ⟨_, rfl⟩
  obtain ⟨rf, hrf⟩ : ∃ rf, rf = Tm.rF n x := ⟨_, rfl⟩
  obtain ⟨lg, hlg⟩ : ∃ lg, lg = Tm.has x 64 := ⟨_, rfl⟩
  obtain ⟨v2, hv2⟩ : ∃ v2, v2 = Tm.has y 1 := ⟨_, rfl⟩
  obtain ⟨g2, hg2⟩ : ∃ g2, g2 = Tm.has y 64 := ⟨_, rfl⟩
  rw [← hve] at HV ⊢
  rw [← hrf] at HRF HIS HR2 ⊢
  rw [← hlg] at HG HIS HR2 ⊢
  rw [← hv2] at HV2 ⊢
  rw [← hg2] at HS2 ⊢
  obtain ⟨ax, hax⟩ : ∃ ax, ax = Tm.adr x := ⟨_, rfl⟩
  rw [← hax] at HA HIS HR2 ⊢
  obtain ⟨s2, hs2⟩ : ∃ s2, s2 = Tm.sA ax va := ⟨_, rfl⟩
  rw [← hs2] at HIS HR2 ⊢
  clear hf hX hve hrf hlg hv2 hg2 hrl hsA hY hxa hax hs2 hs hb hfA hx hy hb0
  cases v with
  | false =>
    rw [if_neg (by simp)]
    go_enter Try.func70, Try.ntmps70
    go_wp2_with (first
      | (go_at_call 40; refine (HF.out _).mono ?_; rintro e w' ⟨rfl, rfl⟩)
      | (go_at_call 84; (with_reducible refine (HR1.out _ hW hlo1 hl).mono ?_); rintro e w1 ⟨rfl, hW1, hl1, kp⟩; have hW1' := hW1; obtain ⟨_, _, R1, k1, b1, _, _⟩ := hW1'; have hlo2 := Nat.le_trans hlo1 kp.1; have c1 := b1.cell (j := 0) (v := .slice A n c) rfl; clear b1 hW)
      | (go_at_call 84; (with_reducible refine (HR2.out _ (by simp) (by simp) hW1 hlo2 hl1).mono ?_); rintro e w3 ⟨rfl, hW3, hl3, kq⟩; replace kp := kp.trans kq)
      | (go_at_call 42; (with_reducible refine (HV.out _).mono ?_); rintro e w' ⟨rfl, rfl⟩)
      | (go_at_call 42; (with_reducible refine (HV2.out _).mono ?_); rintro e w' ⟨rfl, rfl⟩)
      | (go_at_call 49; refine (HRF.out _).mono ?_; rintro e w2 ⟨rfl, l2⟩; replace hW1 := hW1.later l2; replace hlo2 := Nat.le_trans hlo2 l2.size; replace hl1 := Later.trans_ hl1 l2; replace kp := kp.later l2; clear c1)
      | (go_at_call 50; refine (HG.out _).mono ?_; rintro e w' ⟨rfl, rfl⟩)
      | (go_at_call 43; refine (HA.out _).mono ?_; rintro e w' ⟨rfl, rfl⟩)
      | (go_at_call 46; refine (HIS.out _ (by simp) (by simp)).mono ?_; rintro e w' ⟨rfl, rfl⟩)
      | (go_at_call 85; refine (HS2.out _).mono ?_; rintro e w' ⟨rfl, rfl⟩)
      | (go_at_call 68; (with_reducible refine (NY.out _).mono ?_); rintro e w' ⟨rfl, rfl⟩)
      | (go_at_call 68; (with_reducible refine (NN.out _).mono ?_); rintro e w' ⟨rfl, rfl⟩))
    exact ⟨rfl, rfl, hW1, hl1, kp⟩
  | true =>
    cases rf with
    | false =>
      rw [if_neg (by simp)]
      go_enter Try.func70, Try.ntmps70
      go_wp2_with (first
        | (go_at_call 40; refine (HF.out _).mono ?_; rintro e w' ⟨rfl, rfl⟩)
        | (go_at_call 84; (with_reducible refine (HR1.out _ hW hlo1 hl).mono ?_); rintro e w1 ⟨rfl, hW1, hl1, kp⟩; have hW1' := hW1; obtain ⟨_, _, R1, k1, b1, _, _⟩ := hW1'; have hlo2 := Nat.le_trans hlo1 kp.1; have c1 := b1.cell (j := 0) (v := .slice A n c) rfl; clear b1 hW)
        | (go_at_call 84; (with_reducible refine (HR2.out _ (by simp) (by simp) hW1 hlo2 hl1).mono ?_); rintro e w3 ⟨rfl, hW3, hl3, kq⟩; replace kp := kp.trans kq)
        | (go_at_call 42; (with_reducible refine (HV.out _).mono ?_); rintro e w' ⟨rfl, rfl⟩)
        | (go_at_call 42; (with_reducible refine (HV2.out _).mono ?_); rintro e w' ⟨rfl, rfl⟩)
        | (go_at_call 49; refine (HRF.out _).mono ?_; rintro e w2 ⟨rfl, l2⟩; replace hW1 := hW1.later l2; replace hlo2 := Nat.le_trans hlo2 l2.size; replace hl1 := Later.trans_ hl1 l2; replace kp := kp.later l2; clear c1)
        | (go_at_call 50; refine (HG.out _).mono ?_; rintro e w' ⟨rfl, rfl⟩)
        | (go_at_call 43; refine (HA.out _).mono ?_; rintro e w' ⟨rfl, rfl⟩)
        | (go_at_call 46; refine (HIS.out _ (by simp) (by simp)).mono ?_; rintro e w' ⟨rfl, rfl⟩)
        | (go_at_call 85; refine (HS2.out _).mono ?_; rintro e w' ⟨rfl, rfl⟩)
        | (go_at_call 68; (with_reducible refine (NY.out _).mono ?_); rintro e w' ⟨rfl, rfl⟩)
        | (go_at_call 68; (with_reducible refine (NN.out _).mono ?_); rintro e w' ⟨rfl, rfl⟩))
      exact ⟨rfl, rfl, hW1, hl1, kp⟩
    | true =>
      cases lg with
      | false =>
        rw [if_pos (by simp), if_neg (by decide)]
        cases v2 with
        | false =>
          go_enter Try.func70, Try.ntmps70
          go_wp2_with (first
            | (go_at_call 40; refine (HF.out _).mono ?_; rintro e w' ⟨rfl, rfl⟩)
            | (go_at_call 84; (with_reducible refine (HR1.out _ hW hlo1 hl).mono ?_); rintro e w1 ⟨rfl, hW1, hl1, kp⟩; have hW1' := hW1; obtain ⟨_, _, R1, k1, b1, _, _⟩ := hW1'; have hlo2 := Nat.le_trans hlo1 kp.1; have c1 := b1.cell (j := 0) (v := .slice A n c) rfl; clear b1 hW)
            | (go_at_call 84; (with_reducible refine (HR2.out _ (by simp) (by simp) hW1 hlo2 hl1).mono ?_); rintro e w3 ⟨rfl, hW3, hl3, kq⟩; replace kp := kp.trans kq)
            | (go_at_call 42; (with_reducible refine (HV.out _).mono ?_); rintro e w' ⟨rfl, rfl⟩)
            | (go_at_call 42; (with_reducible refine (HV2.out _).mono ?_); rintro e w' ⟨rfl, rfl⟩)
            | (go_at_call 49; refine (HRF.out _).mono ?_; rintro e w2 ⟨rfl, l2⟩; replace hW1 := hW1.later l2; replace hlo2 := Nat.le_trans hlo2 l2.size; replace hl1 := Later.trans_ hl1 l2; replace kp := kp.later l2; clear c1)
            | (go_at_call 50; refine (HG.out _).mono ?_; rintro e w' ⟨rfl, rfl⟩)
            | (go_at_call 43; refine (HA.out _).mono ?_; rintro e w' ⟨rfl, rfl⟩)
            | (go_at_call 46; refine (HIS.out _ (by simp) (by simp)).mono ?_; rintro e w' ⟨rfl, rfl⟩)
            | (go_at_call 85; refine (HS2.out _).mono ?_; rintro e w' ⟨rfl, rfl⟩)
            | (go_at_call 68; (with_reducible refine (NY.out _).mono ?_); rintro e w' ⟨rfl, rfl⟩)
            | (go_at_call 68; (with_reducible refine (NN.out _).mono ?_); rintro e w' ⟨rfl, rfl⟩))
          exact ⟨rfl, rfl, hW3, hl3, kp⟩
        | true =>
          cases g2 with
          | false =>
            go_enter Try.func70, Try.ntmps70
            go_wp2_with (first
              | (go_at_call 40; refine (HF.out _).mono ?_; rintro e w' ⟨rfl, rfl⟩)
              | (go_at_call 84; (with_reducible refine (HR1.out _ hW hlo1 hl).mono ?_); rintro e w1 ⟨rfl, hW1, hl1, kp⟩; have hW1' := hW1; obtain ⟨_, _, R1, k1, b1, _, _⟩ := hW1'; have hlo2 := Nat.le_trans hlo1 kp.1; have c1 := b1.cell (j := 0) (v := .slice A n c) rfl; clear b1 hW)
              | (go_at_call 84; (with_reducible refine (HR2.out _ (by simp) (by simp) hW1 hlo2 hl1).mono ?_); rintro e w3 ⟨rfl, hW3, hl3, kq⟩; replace kp := kp.trans kq)
              | (go_at_call 42; (with_reducible refine (HV.out _).mono ?_); rintro e w' ⟨rfl, rfl⟩)
              | (go_at_call 42; (with_reducible refine (HV2.out _).mono ?_); rintro e w' ⟨rfl, rfl⟩)
              | (go_at_call 49; refine (HRF.out _).mono ?_; rintro e w2 ⟨rfl, l2⟩; replace hW1 := hW1.later l2; replace hlo2 := Nat.le_trans hlo2 l2.size; replace hl1 := Later.trans_ hl1 l2; replace kp := kp.later l2; clear c1)
              | (go_at_call 50; refine (HG.out _).mono ?_; rintro e w' ⟨rfl, rfl⟩)
              | (go_at_call 43; refine (HA.out _).mono ?_; rintro e w' ⟨rfl, rfl⟩)
              | (go_at_call 46; refine (HIS.out _ (by simp) (by simp)).mono ?_; rintro e w' ⟨rfl, rfl⟩)
              | (go_at_call 85; refine (HS2.out _).mono ?_; rintro e w' ⟨rfl, rfl⟩)
              | (go_at_call 68; (with_reducible refine (NY.out _).mono ?_); rintro e w' ⟨rfl, rfl⟩)
              | (go_at_call 68; (with_reducible refine (NN.out _).mono ?_); rintro e w' ⟨rfl, rfl⟩))
            go_ret2
            exact ⟨rfl, hW3, hl3, kp⟩
          | true =>
            go_enter Try.func70, Try.ntmps70
            go_wp2_with (first
              | (go_at_call 40; refine (HF.out _).mono ?_; rintro e w' ⟨rfl, rfl⟩)
              | (go_at_call 84; (with_reducible refine (HR1.out _ hW hlo1 hl).mono ?_); rintro e w1 ⟨rfl, hW1, hl1, kp⟩; have hW1' := hW1; obtain ⟨_, _, R1, k1, b1, _, _⟩ := hW1'; have hlo2 := Nat.le_trans hlo1 kp.1; have c1 := b1.cell (j := 0) (v := .slice A n c) rfl; clear b1 hW)
              | (go_at_call 84; (with_reducible refine (HR2.out _ (by simp) (by simp) hW1 hlo2 hl1).mono ?_); rintro e w3 ⟨rfl, hW3, hl3, kq⟩; replace kp := kp.trans kq)
              | (go_at_call 42; (with_reducible refine (HV.out _).mono ?_); rintro e w' ⟨rfl, rfl⟩)
              | (go_at_call 42; (with_reducible refine (HV2.out _).mono ?_); rintro e w' ⟨rfl, rfl⟩)
              | (go_at_call 49; refine (HRF.out _).mono ?_; rintro e w2 ⟨rfl, l2⟩; replace hW1 := hW1.later l2; replace hlo2 := Nat.le_trans hlo2 l2.size; replace hl1 := Later.trans_ hl1 l2; replace kp := kp.later l2; clear c1)
              | (go_at_call 50; refine (HG.out _).mono ?_; rintro e w' ⟨rfl, rfl⟩)
              | (go_at_call 43; refine (HA.out _).mono ?_; rintro e w' ⟨rfl, rfl⟩)
              | (go_at_call 46; refine (HIS.out _ (by simp) (by simp)).mono ?_; rintro e w' ⟨rfl, rfl⟩)
              | (go_at_call 85; refine (HS2.out _).mono ?_; rintro e w' ⟨rfl, rfl⟩)
              | (go_at_call 68; (with_reducible refine (NY.out _).mono ?_); rintro e w' ⟨rfl, rfl⟩)
              | (go_at_call 68; (with_reducible refine (NN.out _).mono ?_); rintro e w' ⟨rfl, rfl⟩))
            exact ⟨rfl, rfl, hW3, hl3, kp⟩
      | true =>
        rw [if_pos (by simp), if_pos rfl]
        go_enter Try.func70, Try.ntmps70
        go_wp2_with (first
          | (go_at_call 40; refine (HF.out _).mono ?_; rintro e w' ⟨rfl, rfl⟩)
          | (go_at_call 84; (with_reducible refine (HR1.out _ hW hlo1 hl).mono ?_); rintro e w1 ⟨rfl, hW1, hl1, kp⟩; have hW1' := hW1; obtain ⟨_, _, R1, k1, b1, _, _⟩ := hW1'; have hlo2 := Nat.le_trans hlo1 kp.1; have c1 := b1.cell (j := 0) (v := .slice A n c) rfl; clear b1 hW)
          | (go_at_call 84; (with_reducible refine (HR2.out _ (by simp) (by simp) hW1 hlo2 hl1).mono ?_); rintro e w3 ⟨rfl, hW3, hl3, kq⟩; replace kp := kp.trans kq)
          | (go_at_call 42; (with_reducible refine (HV.out _).mono ?_); rintro e w' ⟨rfl, rfl⟩)
          | (go_at_call 42; (with_reducible refine (HV2.out _).mono ?_); rintro e w' ⟨rfl, rfl⟩)
          | (go_at_call 49; refine (HRF.out _).mono ?_; rintro e w2 ⟨rfl, l2⟩; replace hW1 := hW1.later l2; replace hlo2 := Nat.le_trans hlo2 l2.size; replace hl1 := Later.trans_ hl1 l2; replace kp := kp.later l2; clear c1)
          | (go_at_call 50; refine (HG.out _).mono ?_; rintro e w' ⟨rfl, rfl⟩)
          | (go_at_call 43; refine (HA.out _).mono ?_; rintro e w' ⟨rfl, rfl⟩)
          | (go_at_call 46; refine (HIS.out _ (by simp) (by simp)).mono ?_; rintro e w' ⟨rfl, rfl⟩)
          | (go_at_call 85; refine (HS2.out _).mono ?_; rintro e w' ⟨rfl, rfl⟩)
          | (go_at_call 68; (with_reducible refine (NY.out _).mono ?_); rintro e w' ⟨rfl, rfl⟩)
          | (go_at_call 68; (with_reducible refine (NN.out _).mono ?_); rintro e w' ⟨rfl, rfl⟩))
        go_ret2
        exact ⟨rfl, hW1, hl1, kp⟩
end Go.Proofs.Ytempcbdlaoblhab
