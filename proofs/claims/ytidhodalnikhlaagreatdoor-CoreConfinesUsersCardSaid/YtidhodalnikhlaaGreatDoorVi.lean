/-
  THE WALKS OF leaf.
-/
import Derived.Test.YtidhodalnikhlaaGreatDoorVh
namespace Go.Proofs.YtidhodalnikhlaaGreatDoor
open Go.RowKit Go.ChangeShapes Go.WideShapes Go.ChangeAt

namespace Tm
set_option maxRecDepth 100000 in
/-- A leaf found: its address, its word, what was read, and whether there is one. -/
structure Lf where
  a : Int
  e : Int
  r : List Int
  ok : Bool
set_option maxRecDepth 100000 in
def find (n : Nat) (b : Wm.Bs) (root va : Int) : Lf :=
  if has (wd b (fA root va)) 1 && rF n (wd b (fA root va)) then
    (if has (wd b (fA root va)) 64 then ⟨fA root va, wd b (fA root va), [fA root va], true⟩
     else ⟨sA (adr (wd b (fA root va))) va, wd b (sA (adr (wd b (fA root va))) va), [fA root va, sA (adr (wd b (fA root va))) va], has (wd b (sA (adr (wd b (fA root va))) va)) 1 && !has (wd b (sA (adr (wd b (fA root va))) va)) 64⟩)
  else ⟨0, 0, [fA root va], false⟩
end Tm
set_option maxRecDepth 100000 in
def lfEnd (l : Tm.Lf) : Ending := if l.ok then .returned (.tuple #[.int .u32 l.a, .int .u32 l.e]) else .panicked Flt
set_option maxRecDepth 100000 in
set_option maxHeartbeats 4000000 in
theorem leaf_any (A : Option Addr) (n c : Nat) (root va : Int) (b : Wm.Bs) (base tB : Nat) (w0 w : World) (hb0 : base = w0.heap.size) (hs : Sl w0 128 A n (U b)) (hb : Wm.isBs b) (hn1 : 1 ≤ n) (hn : n ≤ 64) (hr0 : 0 ≤ root) (hr : root < 8192) (hv0 : 0 ≤ va) (hv : va < 131072) (hW0 : Wk0 w base tB A n c) (hl : Later w0 w) :
    Calls Tryz.prog 178 #[.pointer (some ⟨tB, 0, none⟩), .int .u32 root, .int .u32 va] w fun e w' => e = lfEnd (Tm.find n b root va) ∧ Wkr w' base w.heap.size tB A n c (Tm.find n b root va).r ∧ Later w0 w' ∧ Kept w.heap.size tB w w' := by
  have hbw : base ≤ w.heap.size := by rw [hb0]; exact hl.size
  have hW := hW0.wkr w.heap.size hbw
  obtain ⟨lo, hlo⟩ : ∃ lo, lo = w.heap.size := ⟨_, rfl⟩
  rw [← hlo] at hW ⊢
  have hlo1 : lo ≤ w.heap.size := by omega
  clear hlo hbw hW0
  have hfA : 0 ≤ Tm.fA root va ∧ Tm.fA root va < 4294967296 := by unfold Tm.fA; omega
  have HF := Lib.hid fun w' => inFirst_any root va w' (by omega) (by omega)
  have HR1 := Lib.hid fun w' (h : Wkr w' base lo tB A n c []) (hlo : lo ≤ w'.heap.size) (hl : Later w0 w') => read_any A n c (Tm.fA root va) b base lo tB [] w0 w' hb0 hs hb hn1 hn hfA h (by simp) hlo hl
  have hx := Tm.wd_e hb (Tm.fA root va)
  unfold Tm.find
  obtain ⟨f, hf⟩ : ∃ f, f = Tm.fA root va := ⟨_, rfl⟩
  rw [← hf] at HF HR1 hx ⊢
  obtain ⟨x, hX⟩ : ∃ x, x = Tm.wd b f := ⟨_, rfl⟩
  rw [← hX] at HR1 hx ⊢
  have HV := Lib.hid fun w' => isValid_any x w' hx
  have HG := Lib.hid fun w' => isLarge_any x w' hx
  have HA := Lib.hid fun w' => address_any x w' hx
  have HRF := Lib.hid fun w' => isRightFirst_any x A n c w' hx hn
  have hrl := fun (h1 : Tm.rF n x = true) (h2 : Tm.has x 64 = false) => Tm.pageB_lt (rF_page h1 h2)
  have hxa := Tm.adr_e hx
  have HIS := Lib.hid fun w' (h1 : Tm.rF n x = true) (h2 : Tm.has x 64 = false) => inSecond_any (Tm.adr x) va w' ⟨hxa.1, by have := hrl h1 h2; omega⟩ (by omega)
  have hsA := fun (h1 : Tm.rF n x = true) (h2 : Tm.has x 64 = false) => (show 0 ≤ Tm.sA (Tm.adr x) va ∧ Tm.sA (Tm.adr x) va < 4294967296 by have := hrl h1 h2; have := hxa.1; unfold Tm.sA; omega)
  have HR2 := Lib.hid fun w' (h1 : Tm.rF n x = true) (h2 : Tm.has x 64 = false) (h : Wkr w' base lo tB A n c [f]) (hlo : lo ≤ w'.heap.size) (hl : Later w0 w') => read_any A n c (Tm.sA (Tm.adr x) va) b base lo tB [f] w0 w' hb0 hs hb hn1 hn (hsA h1 h2) h (by simp) hlo hl
  obtain ⟨y, hY⟩ : ∃ y, y = Tm.wd b (Tm.sA (Tm.adr x) va) := ⟨_, rfl⟩
  have hy := Tm.wd_e hb (Tm.sA (Tm.adr x) va)
  rw [← hY] at HR2 hy ⊢
  have HV2 := Lib.hid fun w' => isValid_any y w' hy
  have HS2 := Lib.hid fun w' => isRightSecond_any y w' hy
  have NY := Lib.hid need_yes
  have NN := Lib.hid need_no
  obtain ⟨v, hve⟩ : ∃ v, v = Tm.has x 1 := ⟨_, rfl⟩
  obtain ⟨rf, hrf⟩ : ∃ rf, rf = Tm.rF n x := ⟨_, rfl⟩
  obtain ⟨lg, hlg⟩ : ∃ lg, lg = Tm.has x 64 := ⟨_, rfl⟩
  obtain ⟨v2, hv2⟩ : ∃ v2, v2 = Tm.has y 1 := ⟨_, rfl⟩
  obtain ⟨g2, hg2⟩ : ∃ g2, g2 = Tm.has y 64 := ⟨_, rfl⟩
  rw [← hve] at HV ⊢
  rw [← hrf] at HRF HIS HR2 ⊢
  rw [← hlg] at HG HIS HR2 ⊢
  rw [← hv2] at HV2 ⊢
  rw [← hg2] at HS2 ⊢
  obtain ⟨ax, hax⟩ : ∃ ax, ax = Tm.adr x := ⟨_, rfl⟩
  rw [← hax] at HA HIS HR2 ⊢
  obtain ⟨s2, hs2⟩ : ∃ s2, s2 = Tm.sA ax va := ⟨_, rfl⟩
  rw [← hs2] at HIS HR2 ⊢
  clear hf hX hve hrf hlg hv2 hg2 hrl hsA hY hxa hax hs2 hs hb hfA hx hy hb0
  cases v with
  | false =>
    rw [if_neg (by simp)]
    go_enter Tryz.func178, Tryz.ntmps178
    go_wp2_with (first
      | (go_at_call 187; refine (HF.out _).mono ?_; rintro e w' ⟨rfl, rfl⟩)
      | (go_at_call 188; (with_reducible refine (HR1.out _ hW hlo1 hl).mono ?_); rintro e w1 ⟨rfl, hW1, hl1, kp⟩; have hW1' := hW1; obtain ⟨_, _, R1, k1, b1, _, _⟩ := hW1'; have hlo2 := Nat.le_trans hlo1 kp.1; have c1 := b1.cell (j := 0) (v := .slice A n c) rfl; clear b1 hW)
      | (go_at_call 188; (with_reducible refine (HR2.out _ (by simp) (by simp) hW1 hlo2 hl1).mono ?_); rintro e w3 ⟨rfl, hW3, hl3, kq⟩; replace kp := kp.trans kq)
      | (go_at_call 189; (with_reducible refine (HV.out _).mono ?_); rintro e w' ⟨rfl, rfl⟩)
      | (go_at_call 189; (with_reducible refine (HV2.out _).mono ?_); rintro e w' ⟨rfl, rfl⟩)
      | (go_at_call 190; refine (HRF.out _).mono ?_; rintro e w2 ⟨rfl, l2⟩; replace hW1 := hW1.later l2; replace hlo2 := Nat.le_trans hlo2 l2.size; replace hl1 := Later.trans_ hl1 l2; replace kp := kp.later l2; clear c1)
      | (go_at_call 191; refine (HG.out _).mono ?_; rintro e w' ⟨rfl, rfl⟩)
      | (go_at_call 193; refine (HA.out _).mono ?_; rintro e w' ⟨rfl, rfl⟩)
      | (go_at_call 192; refine (HIS.out _ (by simp) (by simp)).mono ?_; rintro e w' ⟨rfl, rfl⟩)
      | (go_at_call 194; refine (HS2.out _).mono ?_; rintro e w' ⟨rfl, rfl⟩)
      | (go_at_call 176; (with_reducible refine (NY.out _).mono ?_); rintro e w' ⟨rfl, rfl⟩)
      | (go_at_call 176; (with_reducible refine (NN.out _).mono ?_); rintro e w' ⟨rfl, rfl⟩))
    exact ⟨rfl, rfl, hW1, hl1, kp⟩
  | true =>
    cases rf with
    | false =>
      rw [if_neg (by simp)]
      go_enter Tryz.func178, Tryz.ntmps178
      go_wp2_with (first
        | (go_at_call 187; refine (HF.out _).mono ?_; rintro e w' ⟨rfl, rfl⟩)
        | (go_at_call 188; (with_reducible refine (HR1.out _ hW hlo1 hl).mono ?_); rintro e w1 ⟨rfl, hW1, hl1, kp⟩; have hW1' := hW1; obtain ⟨_, _, R1, k1, b1, _, _⟩ := hW1'; have hlo2 := Nat.le_trans hlo1 kp.1; have c1 := b1.cell (j := 0) (v := .slice A n c) rfl; clear b1 hW)
        | (go_at_call 188; (with_reducible refine (HR2.out _ (by simp) (by simp) hW1 hlo2 hl1).mono ?_); rintro e w3 ⟨rfl, hW3, hl3, kq⟩; replace kp := kp.trans kq)
        | (go_at_call 189; (with_reducible refine (HV.out _).mono ?_); rintro e w' ⟨rfl, rfl⟩)
        | (go_at_call 189; (with_reducible refine (HV2.out _).mono ?_); rintro e w' ⟨rfl, rfl⟩)
        | (go_at_call 190; refine (HRF.out _).mono ?_; rintro e w2 ⟨rfl, l2⟩; replace hW1 := hW1.later l2; replace hlo2 := Nat.le_trans hlo2 l2.size; replace hl1 := Later.trans_ hl1 l2; replace kp := kp.later l2; clear c1)
        | (go_at_call 191; refine (HG.out _).mono ?_; rintro e w' ⟨rfl, rfl⟩)
        | (go_at_call 193; refine (HA.out _).mono ?_; rintro e w' ⟨rfl, rfl⟩)
        | (go_at_call 192; refine (HIS.out _ (by simp) (by simp)).mono ?_; rintro e w' ⟨rfl, rfl⟩)
        | (go_at_call 194; refine (HS2.out _).mono ?_; rintro e w' ⟨rfl, rfl⟩)
        | (go_at_call 176; (with_reducible refine (NY.out _).mono ?_); rintro e w' ⟨rfl, rfl⟩)
        | (go_at_call 176; (with_reducible refine (NN.out _).mono ?_); rintro e w' ⟨rfl, rfl⟩))
      exact ⟨rfl, rfl, hW1, hl1, kp⟩
    | true =>
      cases lg with
      | false =>
        rw [if_pos (by simp), if_neg (by decide)]
        cases v2 with
        | false =>
          go_enter Tryz.func178, Tryz.ntmps178
          go_wp2_with (first
            | (go_at_call 187; refine (HF.out _).mono ?_; rintro e w' ⟨rfl, rfl⟩)
            | (go_at_call 188; (with_reducible refine (HR1.out _ hW hlo1 hl).mono ?_); rintro e w1 ⟨rfl, hW1, hl1, kp⟩; have hW1' := hW1; obtain ⟨_, _, R1, k1, b1, _, _⟩ := hW1'; have hlo2 := Nat.le_trans hlo1 kp.1; have c1 := b1.cell (j := 0) (v := .slice A n c) rfl; clear b1 hW)
            | (go_at_call 188; (with_reducible refine (HR2.out _ (by simp) (by simp) hW1 hlo2 hl1).mono ?_); rintro e w3 ⟨rfl, hW3, hl3, kq⟩; replace kp := kp.trans kq)
            | (go_at_call 189; (with_reducible refine (HV.out _).mono ?_); rintro e w' ⟨rfl, rfl⟩)
            | (go_at_call 189; (with_reducible refine (HV2.out _).mono ?_); rintro e w' ⟨rfl, rfl⟩)
            | (go_at_call 190; refine (HRF.out _).mono ?_; rintro e w2 ⟨rfl, l2⟩; replace hW1 := hW1.later l2; replace hlo2 := Nat.le_trans hlo2 l2.size; replace hl1 := Later.trans_ hl1 l2; replace kp := kp.later l2; clear c1)
            | (go_at_call 191; refine (HG.out _).mono ?_; rintro e w' ⟨rfl, rfl⟩)
            | (go_at_call 193; refine (HA.out _).mono ?_; rintro e w' ⟨rfl, rfl⟩)
            | (go_at_call 192; refine (HIS.out _ (by simp) (by simp)).mono ?_; rintro e w' ⟨rfl, rfl⟩)
            | (go_at_call 194; refine (HS2.out _).mono ?_; rintro e w' ⟨rfl, rfl⟩)
            | (go_at_call 176; (with_reducible refine (NY.out _).mono ?_); rintro e w' ⟨rfl, rfl⟩)
            | (go_at_call 176; (with_reducible refine (NN.out _).mono ?_); rintro e w' ⟨rfl, rfl⟩))
          exact ⟨rfl, rfl, hW3, hl3, kp⟩
        | true =>
          cases g2 with
          | false =>
            go_enter Tryz.func178, Tryz.ntmps178
            go_wp2_with (first
              | (go_at_call 187; refine (HF.out _).mono ?_; rintro e w' ⟨rfl, rfl⟩)
              | (go_at_call 188; (with_reducible refine (HR1.out _ hW hlo1 hl).mono ?_); rintro e w1 ⟨rfl, hW1, hl1, kp⟩; have hW1' := hW1; obtain ⟨_, _, R1, k1, b1, _, _⟩ := hW1'; have hlo2 := Nat.le_trans hlo1 kp.1; have c1 := b1.cell (j := 0) (v := .slice A n c) rfl; clear b1 hW)
              | (go_at_call 188; (with_reducible refine (HR2.out _ (by simp) (by simp) hW1 hlo2 hl1).mono ?_); rintro e w3 ⟨rfl, hW3, hl3, kq⟩; replace kp := kp.trans kq)
              | (go_at_call 189; (with_reducible refine (HV.out _).mono ?_); rintro e w' ⟨rfl, rfl⟩)
              | (go_at_call 189; (with_reducible refine (HV2.out _).mono ?_); rintro e w' ⟨rfl, rfl⟩)
              | (go_at_call 190; refine (HRF.out _).mono ?_; rintro e w2 ⟨rfl, l2⟩; replace hW1 := hW1.later l2; replace hlo2 := Nat.le_trans hlo2 l2.size; replace hl1 := Later.trans_ hl1 l2; replace kp := kp.later l2; clear c1)
              | (go_at_call 191; refine (HG.out _).mono ?_; rintro e w' ⟨rfl, rfl⟩)
              | (go_at_call 193; refine (HA.out _).mono ?_; rintro e w' ⟨rfl, rfl⟩)
              | (go_at_call 192; refine (HIS.out _ (by simp) (by simp)).mono ?_; rintro e w' ⟨rfl, rfl⟩)
              | (go_at_call 194; refine (HS2.out _).mono ?_; rintro e w' ⟨rfl, rfl⟩)
              | (go_at_call 176; (with_reducible refine (NY.out _).mono ?_); rintro e w' ⟨rfl, rfl⟩)
              | (go_at_call 176; (with_reducible refine (NN.out _).mono ?_); rintro e w' ⟨rfl, rfl⟩))
            go_ret2
            exact ⟨rfl, hW3, hl3, kp⟩
          | true =>
            go_enter Tryz.func178, Tryz.ntmps178
            go_wp2_with (first
              | (go_at_call 187; refine (HF.out _).mono ?_; rintro e w' ⟨rfl, rfl⟩)
              | (go_at_call 188; (with_reducible refine (HR1.out _ hW hlo1 hl).mono ?_); rintro e w1 ⟨rfl, hW1, hl1, kp⟩; have hW1' := hW1; obtain ⟨_, _, R1, k1, b1, _, _⟩ := hW1'; have hlo2 := Nat.le_trans hlo1 kp.1; have c1 := b1.cell (j := 0) (v := .slice A n c) rfl; clear b1 hW)
              | (go_at_call 188; (with_reducible refine (HR2.out _ (by simp) (by simp) hW1 hlo2 hl1).mono ?_); rintro e w3 ⟨rfl, hW3, hl3, kq⟩; replace kp := kp.trans kq)
              | (go_at_call 189; (with_reducible refine (HV.out _).mono ?_); rintro e w' ⟨rfl, rfl⟩)
              | (go_at_call 189; (with_reducible refine (HV2.out _).mono ?_); rintro e w' ⟨rfl, rfl⟩)
              | (go_at_call 190; refine (HRF.out _).mono ?_; rintro e w2 ⟨rfl, l2⟩; replace hW1 := hW1.later l2; replace hlo2 := Nat.le_trans hlo2 l2.size; replace hl1 := Later.trans_ hl1 l2; replace kp := kp.later l2; clear c1)
              | (go_at_call 191; refine (HG.out _).mono ?_; rintro e w' ⟨rfl, rfl⟩)
              | (go_at_call 193; refine (HA.out _).mono ?_; rintro e w' ⟨rfl, rfl⟩)
              | (go_at_call 192; refine (HIS.out _ (by simp) (by simp)).mono ?_; rintro e w' ⟨rfl, rfl⟩)
              | (go_at_call 194; refine (HS2.out _).mono ?_; rintro e w' ⟨rfl, rfl⟩)
              | (go_at_call 176; (with_reducible refine (NY.out _).mono ?_); rintro e w' ⟨rfl, rfl⟩)
              | (go_at_call 176; (with_reducible refine (NN.out _).mono ?_); rintro e w' ⟨rfl, rfl⟩))
            exact ⟨rfl, rfl, hW3, hl3, kp⟩
      | true =>
        rw [if_pos (by simp), if_pos rfl]
        go_enter Tryz.func178, Tryz.ntmps178
        go_wp2_with (first
          | (go_at_call 187; refine (HF.out _).mono ?_; rintro e w' ⟨rfl, rfl⟩)
          | (go_at_call 188; (with_reducible refine (HR1.out _ hW hlo1 hl).mono ?_); rintro e w1 ⟨rfl, hW1, hl1, kp⟩; have hW1' := hW1; obtain ⟨_, _, R1, k1, b1, _, _⟩ := hW1'; have hlo2 := Nat.le_trans hlo1 kp.1; have c1 := b1.cell (j := 0) (v := .slice A n c) rfl; clear b1 hW)
          | (go_at_call 188; (with_reducible refine (HR2.out _ (by simp) (by simp) hW1 hlo2 hl1).mono ?_); rintro e w3 ⟨rfl, hW3, hl3, kq⟩; replace kp := kp.trans kq)
          | (go_at_call 189; (with_reducible refine (HV.out _).mono ?_); rintro e w' ⟨rfl, rfl⟩)
          | (go_at_call 189; (with_reducible refine (HV2.out _).mono ?_); rintro e w' ⟨rfl, rfl⟩)
          | (go_at_call 190; refine (HRF.out _).mono ?_; rintro e w2 ⟨rfl, l2⟩; replace hW1 := hW1.later l2; replace hlo2 := Nat.le_trans hlo2 l2.size; replace hl1 := Later.trans_ hl1 l2; replace kp := kp.later l2; clear c1)
          | (go_at_call 191; refine (HG.out _).mono ?_; rintro e w' ⟨rfl, rfl⟩)
          | (go_at_call 193; refine (HA.out _).mono ?_; rintro e w' ⟨rfl, rfl⟩)
          | (go_at_call 192; refine (HIS.out _ (by simp) (by simp)).mono ?_; rintro e w' ⟨rfl, rfl⟩)
          | (go_at_call 194; refine (HS2.out _).mono ?_; rintro e w' ⟨rfl, rfl⟩)
          | (go_at_call 176; (with_reducible refine (NY.out _).mono ?_); rintro e w' ⟨rfl, rfl⟩)
          | (go_at_call 176; (with_reducible refine (NN.out _).mono ?_); rintro e w' ⟨rfl, rfl⟩))
        go_ret2
        exact ⟨rfl, hW1, hl1, kp⟩
end Go.Proofs.YtidhodalnikhlaaGreatDoor

/-
  THE WALKS OF untranslated, translated.
-/
namespace Go.Proofs.YtidhodalnikhlaaGreatDoor
open Go.RowKit Go.ChangeShapes Go.WideShapes Go.ChangeAt

namespace Tm
set_option maxRecDepth 100000 in
/-- A walk: whether it leads anywhere, and where. -/
structure Wk where
  ok : Bool
  a : Int
  l : Int
  s : List (Int × Int × Int)
  r : List Int
set_option maxRecDepth 100000 in
def unt (n : Nat) (va : Int) : Wk := if va < (n : Int) * 128 then ⟨true, va, -1, [], []⟩ else ⟨false, 0, 0, [], []⟩
set_option maxRecDepth 100000 in
def wkOf (l : Lf) (va acc : Int) : Wk := ⟨true, pgOf l.e va + va % 128, l.a, if after l.e acc = l.e then [] else [(l.a, 4, after l.e acc)], l.r⟩
set_option maxRecDepth 100000 in
def trans (n : Nat) (b : Wm.Bs) (root va acc : Int) (u : Bool) : Wk :=
  if decide (va < 131072) && pageB n root then
    (if (find n b root va).ok && (pageB n (pgOf (find n b root va).e va) && allows (find n b root va).e acc u) then wkOf (find n b root va) va acc else ⟨false, 0, 0, [], (find n b root va).r⟩)
  else ⟨false, 0, 0, [], []⟩
set_option maxRecDepth 100000 in
def walk (n : Nat) (b : Wm.Bs) (root va acc : Int) (u : Bool) : Wk := if root = 0 then unt n va else trans n b root va acc u
set_option maxRecDepth 100000 in
theorem unt_no {n : Nat} {va : Int} (h : (unt n va).ok = false) : unt n va = ⟨false, 0, 0, [], []⟩ := by
  unfold unt at h ⊢
  split
  · rename_i h1
    rw [if_pos h1] at h
    cases h
  · rfl
set_option maxRecDepth 100000 in
theorem trans_no {n : Nat} {b : Wm.Bs} {root va acc : Int} {u : Bool} (h : (trans n b root va acc u).ok = false) : trans n b root va acc u = ⟨false, 0, 0, [], (trans n b root va acc u).r⟩ := by
  unfold trans at h ⊢
  split
  · rename_i h1
    rw [if_pos h1] at h
    split
    · rename_i h2
      rw [if_pos h2] at h
      cases h
    · rfl
  · rfl
set_option maxRecDepth 100000 in
theorem rF_large {n : Nat} {e : Int} (h : rF n e = true) (hl : has e 64 = true) : adr e % 4096 = 0 := by
  unfold rF at h
  rw [hl, if_pos rfl] at h
  exact of_decide_eq_true h
set_option maxRecDepth 100000 in
theorem find_ok {n : Nat} {b : Wm.Bs} {root va : Int} (hb : Wm.isBs b) (hr0 : 0 ≤ root) (hr : root < 8192) (hv0 : 0 ≤ va) (hv : va < 131072) (hn : n ≤ 64) (h : (find n b root va).ok = true) :
    isE (find n b root va).e ∧ (has (find n b root va).e 64 = true → adr (find n b root va).e % 4096 = 0) ∧ 0 ≤ (find n b root va).a ∧ (find n b root va).a < 4294967296 := by
  unfold find at h ⊢
  have hx := wd_e hb (fA root va)
  have hy := wd_e hb (sA (adr (wd b (fA root va))) va)
  have hxa := adr_e hx
  by_cases h1 : (has (wd b (fA root va)) 1 && rF n (wd b (fA root va))) = true
  · rw [if_pos h1] at h ⊢
    rw [Bool.and_eq_true] at h1
    by_cases h2 : has (wd b (fA root va)) 64 = true
    · rw [if_pos h2]
      exact ⟨hx, fun _ => rF_large h1.2 h2, by show 0 ≤ fA root va; unfold fA; omega, by show fA root va < 4294967296; unfold fA; omega⟩
    · rw [if_neg h2] at h ⊢
      have h3 : has (wd b (fA root va)) 64 = false := by simpa using h2
      have hp := pageB_lt (rF_page h1.2 h3)
      have h4 : (has (wd b (sA (adr (wd b (fA root va))) va)) 1 && !has (wd b (sA (adr (wd b (fA root va))) va)) 64) = true := h
      rw [Bool.and_eq_true] at h4
      have hz : 0 ≤ sA (adr (wd b (fA root va))) va ∧ sA (adr (wd b (fA root va))) va < 4294967296 := by have := hxa.1; unfold sA; omega
      exact ⟨hy, fun h5 => by have h6 := h4.2; rw [show has (wd b (sA (adr (wd b (fA root va))) va)) 64 = true from h5] at h6; exact absurd h6 (by decide), hz⟩
  · rw [if_neg h1] at h
    exact absurd h (by simp)
set_option maxRecDepth 100000 in
theorem pgOf_nn {e va : Int} (h : isE e) (_hv : 0 ≤ va) : 0 ≤ pgOf e va := by
  have := (adr_e h).1
  unfold pgOf
  split <;> omega
end Tm
set_option maxRecDepth 100000 in
/-- Where a walk by a walker ends. -/
def GotT (x : Tm.Wk) (base tB : Nat) (A : Option Addr) (n c : Nat) (w0 wc : World) (e : Ending) (w' : World) : Prop :=
  if x.ok then ∃ AS AR sc rc, e = .returned (.agg #[.int .i64 x.a, .int .i64 x.l, .slice AS x.s.length sc, .slice AR x.r.length rc]) ∧ Sl w' 3 AS x.s.length (Ws x.s) ∧ Sl w' 1 AR x.r.length (N64 x.r) ∧ (∀ ad, AS = some ad → wc.heap.size ≤ ad.block) ∧ (∀ ad, AR = some ad → wc.heap.size ≤ ad.block) ∧ Later w0 w' ∧ Kept wc.heap.size tB wc w'
  else e = .panicked Flt ∧ (∃ lo, wc.heap.size ≤ lo ∧ Wkr w' base lo tB A n c x.r) ∧ Later w0 w' ∧ Kept wc.heap.size tB wc w'
set_option maxRecDepth 100000 in
theorem walk_sz (x y z v : Value) : (Tryz.prog.info? 159).map (·.size) = some [x, y, z, v].length := by
  rw [show [x, y, z, v].length = 4 from rfl]; kernel_rfl
set_option maxRecDepth 100000 in
theorem img_one (a b : Int) (A : Option Addr) (n c : Nat) (B : Option Addr) (m d : Nat) : ∀ v ∈ [Value.int .i64 a, .int .i64 b, .slice A n c, .slice B m d], v.oneCell' = true := by
  intro v hv
  simp only [List.mem_cons, List.not_mem_nil, or_false] at hv
  rcases hv with rfl | rfl | rfl | rfl <;> rfl
set_option maxRecDepth 100000 in
theorem sl_nil (w : World) (k : Nat) : Sl w k none 0 [] := ⟨by simp, fun h => absurd h (by decide)⟩
set_option maxRecDepth 100000 in
theorem untranslated_any (A : Option Addr) (n c : Nat) (va : Int) (base tB : Nat) (w0 w : World) (hn : n ≤ 64) (hv0 : 0 ≤ va) (hv : va < 4294967296) (hW : Wk0 w base tB A n c) (hl : Later w0 w) :
    Calls Tryz.prog 164 #[.pointer (some ⟨tB, 0, none⟩), .int .u32 va] w (GotT (Tm.unt n va) base tB A n c w0 w) := by
  have H := Lib.hid fun w' => size_any A n c w' hn
  have NY := Lib.hid need_yes
  have NN := Lib.hid need_no
  have hW' := hW
  obtain ⟨_, b1⟩ := hW'
  have hlt := b1.lt
  have c1 := b1.cell (j := 0) (v := .slice A n c) rfl
  unfold Tm.unt
  by_cases h : va < (n : Int) * 128
  · have d : decide (va < (n : Int) * 128) = true := decide_eq_true h
    rw [if_pos h]
    have kk := Kept.of (lo := w.heap.size) (tB := tB) (later1 w (.cells #[.int .i64 0, .int .i64 0, .slice none 0 0, .slice none 0 0] 159))
    have lw := hl.alloc hl.size (.cells #[.int .i64 0, .int .i64 0, .slice none 0 0, .slice none 0 0] 159)
    have bR := Blk.new w 159 #[.int .i64 0, .int .i64 0, .slice none 0 0, .slice none 0 0] [.int .i64 0, .int .i64 0, .slice none 0 0, .slice none 0 0] rfl
    clear h b1
    go_enter Tryz.func164, Tryz.ntmps164
    go_wp2_with (first
      | (go_at_call 137; refine (H.out _).mono ?_; rintro r w1 ⟨rfl, l1⟩; replace bR := bR.keep l1; replace lw := Later.trans_ lw l1; replace kk := kk.later l1)
      | (go_at_call 176; (with_reducible refine (NY.out _).mono ?_); rintro e w' ⟨rfl, rfl⟩)
      | ((refine wpList_store_abs (o := ⟨none, .store 159 (.tmp 4) (.tmp 16), _, _, _, none⟩) rfl _ _ _ rfl w.heap.size 159 [.int .i64 0, .int .i64 0, .slice none 0 0, .slice none 0 0] [.int .i64 va, .int .i64 (-1), .slice none 0 0, .slice none 0 0] ?_ ?_ bR (walk_sz _ _ _ _) rfl (img_one _ _ _ _ _ _ _ _) ?_); rfl; rfl; intro w2 b2 o2))
    exact bodyPost_ret (v := .agg #[.int .i64 va, .int .i64 (-1), .slice none 0 0, .slice none 0 0]) (results_blk Tryz.results164 _ _ w.heap.size 159 [.int .i64 va, .int .i64 (-1), .slice none 0 0, .slice none 0 0] _ rfl b2 Tryz.underlying159 rfl (walk_sz _ _ _ _)) rfl
      ⟨none, none, 0, 0, rfl, sl_nil _ _, sl_nil _ _, (fun _ e => by cases e), (fun _ e => by cases e), Below.only lw o2 hl.size, kk.only o2 (Nat.le_refl _)⟩
  · have d : decide (va < (n : Int) * 128) = false := decide_eq_false h
    rw [if_neg h]
    have hW2 := hW.later (later1 w (.cells #[.int .i64 0, .int .i64 0, .slice none 0 0, .slice none 0 0] 159))
    have kk := Kept.of (lo := w.heap.size) (tB := tB) (later1 w (.cells #[.int .i64 0, .int .i64 0, .slice none 0 0, .slice none 0 0] 159))
    have lw := hl.alloc hl.size (.cells #[.int .i64 0, .int .i64 0, .slice none 0 0, .slice none 0 0] 159)
    clear h b1 hW
    go_enter Tryz.func164, Tryz.ntmps164
    go_wp2_with (first
      | (go_at_call 137; refine (H.out _).mono ?_; rintro r w1 ⟨rfl, l1⟩; replace hW2 := hW2.later l1; replace lw := Later.trans_ lw l1; replace kk := kk.later l1)
      | (go_at_call 176; (with_reducible refine (NN.out _).mono ?_); rintro e w' ⟨rfl, rfl⟩))
    exact ⟨rfl, rfl, ⟨w.heap.size, Nat.le_refl _, hW2.wkr w.heap.size (by have := hW2.1; omega)⟩, lw, kk⟩
end Go.Proofs.YtidhodalnikhlaaGreatDoor

/-
  THE WALK OF translated.
-/
namespace Go.Proofs.YtidhodalnikhlaaGreatDoor
open Go.RowKit Go.ChangeShapes Go.WideShapes Go.ChangeAt

set_option maxRecDepth 100000 in
set_option maxHeartbeats 4000000 in
theorem translated_any (A : Option Addr) (n c : Nat) (root va acc : Int) (u : Bool) (b : Wm.Bs) (base tB : Nat) (w0 w : World) (hb0 : base = w0.heap.size) (hs : Sl w0 128 A n (U b)) (hb : Wm.isBs b) (hn1 : 1 ≤ n) (hn : n ≤ 64) (hr0 : 0 ≤ root) (hr : root < 4294967296) (hv0 : 0 ≤ va) (hv : va < 4294967296) (hW : Wk0 w base tB A n c) (hl : Later w0 w) :
    Calls Tryz.prog 165 #[.pointer (some ⟨tB, 0, none⟩), .int .u32 root, .int .u32 va, .int .i64 acc, .bool u] w (GotT (Tm.trans n b root va acc u) base tB A n c w0 w) := by
  have NY := Lib.hid need_yes
  have NN := Lib.hid need_no
  have HP1 := Lib.hid fun w' => isPage_any A n c root w' hn ⟨hr0, hr⟩
  obtain ⟨_, b1⟩ := id hW
  have hlt := b1.lt
  have c1 := (b1.alloc (.cells #[.int .i64 0, .int .i64 0, .slice none 0 0, .slice none 0 0] 159)).cell (j := 0) (v := .slice A n c) rfl
  have hWa := hW.later (later1 w (.cells #[.int .i64 0, .int .i64 0, .slice none 0 0, .slice none 0 0] 159))
  have lw := hl.alloc hl.size (.cells #[.int .i64 0, .int .i64 0, .slice none 0 0, .slice none 0 0] 159)
  have bR := Blk.new w 159 #[.int .i64 0, .int .i64 0, .slice none 0 0, .slice none 0 0] [.int .i64 0, .int .i64 0, .slice none 0 0, .slice none 0 0] rfl
  have kk := Kept.of (lo := w.heap.size) (tB := tB) (later1 w (.cells #[.int .i64 0, .int .i64 0, .slice none 0 0, .slice none 0 0] 159))
  have htBR : w.heap.size ≠ tB := by omega
  clear b1
  unfold Tm.trans
  by_cases hvv : va < 131072
  rotate_left
  · have d : decide (va < 131072) = false := decide_eq_false hvv
    rw [d, if_neg (by simp)]
    clear hs hb hvv hb0
    go_enter Tryz.func165, Tryz.ntmps165
    go_wp2_with (first
      | (go_at_call 177; (with_reducible refine (HP1.out _).mono ?_); rintro e w1 ⟨rfl, l1⟩; replace hWa := hWa.later l1; replace lw := Later.trans_ lw l1; replace bR := bR.keep l1; replace kk := kk.later l1; clear c1)
      | (go_at_call 178; refine (HLF.out _ hWa lw).mono ?_; have hRl := bR.lt; have hzR := lw.size; rintro e w2 ⟨rfl, hWb, lb, kp⟩; replace bR := kp.2 _ _ _ hRl htBR bR; replace kk := kk.trans (kp.down (Nat.le_of_lt hRl)); have hWc := hWb; obtain ⟨_, _, R2, k2, b2, o2, n2⟩ := hWc; have c2 := b2.cell (j := 0) (v := .slice A n c) rfl)
      | (go_at_call 179; refine (HPG.out _).mono ?_; rintro e w' ⟨rfl, rfl⟩)
      | (go_at_call 177; (with_reducible refine (HP2.out _).mono ?_); rintro e w3 ⟨rfl, l3⟩; replace hWb := hWb.later l3; replace lb := Later.trans_ lb l3; replace b2 := b2.keep l3; replace bR := bR.keep l3; replace kk := kk.later l3; replace o2 := own_below o2 l3; clear c2; have c2 := b2.cell (j := 1) (v := .slice R2 lr.length k2) rfl)
      | (go_at_call 180; refine (HAL.out _).mono ?_; rintro e w' ⟨rfl, rfl⟩)
      | (go_at_call 181; refine (HAF.out _).mono ?_; rintro e w' ⟨rfl, rfl⟩)
      | (go_at_call 176; (with_reducible refine (NY.out _).mono ?_); rintro e w' ⟨rfl, rfl⟩)
      | (go_at_call 176; (with_reducible refine (NN.out _).mono ?_); rintro e w' ⟨rfl, rfl⟩))
    exact ⟨rfl, rfl, ⟨w.heap.size, Nat.le_refl _, hWa.wkr w.heap.size (by have := hWa.1; omega)⟩, lw, kk⟩
  have d : decide (va < 131072) = true := decide_eq_true hvv
  rw [d]
  obtain ⟨bp, hbp⟩ : ∃ bp, bp = Tm.pageB n root := ⟨_, rfl⟩
  rw [← hbp] at HP1 ⊢
  cases bp with
  | false =>
    rw [if_neg (by simp)]
    clear hs hb hbp hb0
    go_enter Tryz.func165, Tryz.ntmps165
    go_wp2_with (first
      | (go_at_call 177; (with_reducible refine (HP1.out _).mono ?_); rintro e w1 ⟨rfl, l1⟩; replace hWa := hWa.later l1; replace lw := Later.trans_ lw l1; replace bR := bR.keep l1; replace kk := kk.later l1; clear c1)
      | (go_at_call 178; refine (HLF.out _ hWa lw).mono ?_; have hRl := bR.lt; have hzR := lw.size; rintro e w2 ⟨rfl, hWb, lb, kp⟩; replace bR := kp.2 _ _ _ hRl htBR bR; replace kk := kk.trans (kp.down (Nat.le_of_lt hRl)); have hWc := hWb; obtain ⟨_, _, R2, k2, b2, o2, n2⟩ := hWc; have c2 := b2.cell (j := 0) (v := .slice A n c) rfl)
      | (go_at_call 179; refine (HPG.out _).mono ?_; rintro e w' ⟨rfl, rfl⟩)
      | (go_at_call 177; (with_reducible refine (HP2.out _).mono ?_); rintro e w3 ⟨rfl, l3⟩; replace hWb := hWb.later l3; replace lb := Later.trans_ lb l3; replace b2 := b2.keep l3; replace bR := bR.keep l3; replace kk := kk.later l3; replace o2 := own_below o2 l3; clear c2; have c2 := b2.cell (j := 1) (v := .slice R2 lr.length k2) rfl)
      | (go_at_call 180; refine (HAL.out _).mono ?_; rintro e w' ⟨rfl, rfl⟩)
      | (go_at_call 181; refine (HAF.out _).mono ?_; rintro e w' ⟨rfl, rfl⟩)
      | (go_at_call 176; (with_reducible refine (NY.out _).mono ?_); rintro e w' ⟨rfl, rfl⟩)
      | (go_at_call 176; (with_reducible refine (NN.out _).mono ?_); rintro e w' ⟨rfl, rfl⟩))
    exact ⟨rfl, rfl, ⟨w.heap.size, Nat.le_refl _, hWa.wkr w.heap.size (by have := hWa.1; omega)⟩, lw, kk⟩
  | true =>
    rw [if_pos (by simp)]
    obtain ⟨rp1, rp2⟩ := Tm.pageB_lt hbp.symm
    have HLF := Lib.hid fun w' (h : Wk0 w' base tB A n c) (hl : Later w0 w') => leaf_any A n c root va b base tB w0 w' hb0 hs hb hn1 hn hr0 (by omega) hv0 hvv h hl
    have hfo := Tm.find_ok (n := n) (b := b) (root := root) (va := va) hb hr0 (by omega) hv0 hvv hn
    obtain ⟨L, hL⟩ : ∃ L, L = Tm.find n b root va := ⟨_, rfl⟩
    rw [← hL] at HLF hfo ⊢
    obtain ⟨la, le, lr, ok⟩ := L
    unfold lfEnd at HLF
    clear hL hs hb hbp hb0
    cases ok with
    | false =>
      rw [if_neg (by simp)]
      rw [if_neg (by simp)] at HLF
      clear hfo
      go_enter Tryz.func165, Tryz.ntmps165
      go_wp2_with (first
        | (go_at_call 177; (with_reducible refine (HP1.out _).mono ?_); rintro e w1 ⟨rfl, l1⟩; replace hWa := hWa.later l1; replace lw := Later.trans_ lw l1; replace bR := bR.keep l1; replace kk := kk.later l1; clear c1)
        | (go_at_call 178; refine (HLF.out _ hWa lw).mono ?_; have hRl := bR.lt; have hzR := lw.size; rintro e w2 ⟨rfl, hWb, lb, kp⟩; replace bR := kp.2 _ _ _ hRl htBR bR; replace kk := kk.trans (kp.down (Nat.le_of_lt hRl)); have hWc := hWb; obtain ⟨_, _, R2, k2, b2, o2, n2⟩ := hWc; have c2 := b2.cell (j := 0) (v := .slice A n c) rfl)
        | (go_at_call 179; refine (HPG.out _).mono ?_; rintro e w' ⟨rfl, rfl⟩)
        | (go_at_call 177; (with_reducible refine (HP2.out _).mono ?_); rintro e w3 ⟨rfl, l3⟩; replace hWb := hWb.later l3; replace lb := Later.trans_ lb l3; replace b2 := b2.keep l3; replace bR := bR.keep l3; replace kk := kk.later l3; replace o2 := own_below o2 l3; clear c2; have c2 := b2.cell (j := 1) (v := .slice R2 lr.length k2) rfl)
        | (go_at_call 180; refine (HAL.out _).mono ?_; rintro e w' ⟨rfl, rfl⟩)
        | (go_at_call 181; refine (HAF.out _).mono ?_; rintro e w' ⟨rfl, rfl⟩)
        | (go_at_call 176; (with_reducible refine (NY.out _).mono ?_); rintro e w' ⟨rfl, rfl⟩)
        | (go_at_call 176; (with_reducible refine (NN.out _).mono ?_); rintro e w' ⟨rfl, rfl⟩))
      exact ⟨rfl, rfl, ⟨_, Nat.le_of_lt hRl, hWb⟩, lb, kk⟩
    | true =>
      rw [if_pos rfl] at HLF
      obtain ⟨he, h46, ha0, ha1⟩ := hfo rfl
      simp only at he h46 ha0 ha1 HLF
      simp only [Bool.true_and]
      have HPG := Lib.hid fun w' => page_any le va w' he ⟨hv0, hv⟩ h46
      have hp0 := Tm.pgOf_nn he hv0
      have hal := allows_any le acc u
      have HAL := Lib.hid fun w' => hal w' he
      have HAF := Lib.hid fun w' => after_any le acc w' he
      have hpL : Tm.pgOf le va < 4294967296 := by
        have h1 := Tm.adr_e he
        have h2 := h1.2
        unfold Tm.pgOf
        split
        · rename_i h3
          have h4 := h46 h3
          omega
        · exact h2
      have HP2 := Lib.hid fun w' => isPage_any A n c (Tm.pgOf le va) w' hn ⟨hp0, hpL⟩
      unfold Tm.wkOf
      obtain ⟨p, hp⟩ : ∃ p, p = Tm.pgOf le va := ⟨_, rfl⟩
      simp only [← hp] at HPG hp0 hpL HP2 ⊢
      obtain ⟨al, hal2⟩ : ∃ al, al = Tm.allows le acc u := ⟨_, rfl⟩
      rw [← hal2] at HAL ⊢
      obtain ⟨nx, hnx⟩ : ∃ nx, nx = Tm.after le acc := ⟨_, rfl⟩
      rw [← hnx] at HAF ⊢
      have HES := Lib.hid fun w' => estore_any nx la w' ⟨ha0, ha1⟩
      obtain ⟨pg, hpg⟩ : ∃ pg, pg = Tm.pageB n p := ⟨_, rfl⟩
      rw [← hpg] at HP2 ⊢
      clear hp hal hal2 hnx he h46 hfo
      cases pg with
      | false =>
        rw [if_neg (by simp)]
        clear hpg
        go_enter Tryz.func165, Tryz.ntmps165
        go_wp2_with (first
          | (go_at_call 177; (with_reducible refine (HP1.out _).mono ?_); rintro e w1 ⟨rfl, l1⟩; replace hWa := hWa.later l1; replace lw := Later.trans_ lw l1; replace bR := bR.keep l1; replace kk := kk.later l1; clear c1)
          | (go_at_call 178; refine (HLF.out _ hWa lw).mono ?_; have hRl := bR.lt; have hzR := lw.size; rintro e w2 ⟨rfl, hWb, lb, kp⟩; replace bR := kp.2 _ _ _ hRl htBR bR; replace kk := kk.trans (kp.down (Nat.le_of_lt hRl)); have hWc := hWb; obtain ⟨_, _, R2, k2, b2, o2, n2⟩ := hWc; have c2 := b2.cell (j := 0) (v := .slice A n c) rfl)
          | (go_at_call 179; refine (HPG.out _).mono ?_; rintro e w' ⟨rfl, rfl⟩)
          | (go_at_call 177; (with_reducible refine (HP2.out _).mono ?_); rintro e w3 ⟨rfl, l3⟩; replace hWb := hWb.later l3; replace lb := Later.trans_ lb l3; replace b2 := b2.keep l3; replace bR := bR.keep l3; replace kk := kk.later l3; replace o2 := own_below o2 l3; clear c2; have c2 := b2.cell (j := 1) (v := .slice R2 lr.length k2) rfl)
          | (go_at_call 180; refine (HAL.out _).mono ?_; rintro e w' ⟨rfl, rfl⟩)
          | (go_at_call 181; refine (HAF.out _).mono ?_; rintro e w' ⟨rfl, rfl⟩)
          | (go_at_call 176; (with_reducible refine (NY.out _).mono ?_); rintro e w' ⟨rfl, rfl⟩)
          | (go_at_call 176; (with_reducible refine (NN.out _).mono ?_); rintro e w' ⟨rfl, rfl⟩))
        exact ⟨rfl, rfl, ⟨_, Nat.le_of_lt hRl, hWb⟩, lb, kk⟩
      | true =>
        obtain ⟨pp1, pp2⟩ := Tm.pageB_lt hpg.symm
        clear hpg
        cases al with
        | false =>
          rw [if_neg (by simp)]
          go_enter Tryz.func165, Tryz.ntmps165
          go_wp2_with (first
            | (go_at_call 177; (with_reducible refine (HP1.out _).mono ?_); rintro e w1 ⟨rfl, l1⟩; replace hWa := hWa.later l1; replace lw := Later.trans_ lw l1; replace bR := bR.keep l1; replace kk := kk.later l1; clear c1)
            | (go_at_call 178; refine (HLF.out _ hWa lw).mono ?_; have hRl := bR.lt; have hzR := lw.size; rintro e w2 ⟨rfl, hWb, lb, kp⟩; replace bR := kp.2 _ _ _ hRl htBR bR; replace kk := kk.trans (kp.down (Nat.le_of_lt hRl)); have hWc := hWb; obtain ⟨_, _, R2, k2, b2, o2, n2⟩ := hWc; have c2 := b2.cell (j := 0) (v := .slice A n c) rfl)
            | (go_at_call 179; refine (HPG.out _).mono ?_; rintro e w' ⟨rfl, rfl⟩)
            | (go_at_call 177; (with_reducible refine (HP2.out _).mono ?_); rintro e w3 ⟨rfl, l3⟩; replace hWb := hWb.later l3; replace lb := Later.trans_ lb l3; replace b2 := b2.keep l3; replace bR := bR.keep l3; replace kk := kk.later l3; replace o2 := own_below o2 l3; clear c2; have c2 := b2.cell (j := 1) (v := .slice R2 lr.length k2) rfl)
            | (go_at_call 180; refine (HAL.out _).mono ?_; rintro e w' ⟨rfl, rfl⟩)
            | (go_at_call 181; refine (HAF.out _).mono ?_; rintro e w' ⟨rfl, rfl⟩)
            | (go_at_call 176; (with_reducible refine (NY.out _).mono ?_); rintro e w' ⟨rfl, rfl⟩)
            | (go_at_call 176; (with_reducible refine (NN.out _).mono ?_); rintro e w' ⟨rfl, rfl⟩))
          exact ⟨rfl, rfl, ⟨_, Nat.le_of_lt hRl, hWb⟩, lb, kk⟩
        | true =>
          rw [if_pos (by simp)]
          by_cases hne : nx = le
          · have e1 : (nx != le) = false := by simpa using hne
            rw [if_pos hne]
            clear hne
            go_enter Tryz.func165, Tryz.ntmps165
            go_wp2_with (first
              | (go_at_call 177; (with_reducible refine (HP1.out _).mono ?_); rintro e w1 ⟨rfl, l1⟩; replace hWa := hWa.later l1; replace lw := Later.trans_ lw l1; replace bR := bR.keep l1; replace kk := kk.later l1; clear c1)
              | (go_at_call 178; refine (HLF.out _ hWa lw).mono ?_; have hRl := bR.lt; have hzR := lw.size; rintro e w2 ⟨rfl, hWb, lb, kp⟩; replace bR := kp.2 _ _ _ hRl htBR bR; replace kk := kk.trans (kp.down (Nat.le_of_lt hRl)); have hWc := hWb; obtain ⟨_, _, R2, k2, b2, o2, n2⟩ := hWc; have c2 := b2.cell (j := 0) (v := .slice A n c) rfl)
              | (go_at_call 179; refine (HPG.out _).mono ?_; rintro e w' ⟨rfl, rfl⟩)
              | (go_at_call 177; (with_reducible refine (HP2.out _).mono ?_); rintro e w3 ⟨rfl, l3⟩; replace hWb := hWb.later l3; replace lb := Later.trans_ lb l3; replace b2 := b2.keep l3; replace bR := bR.keep l3; replace kk := kk.later l3; replace o2 := own_below o2 l3; clear c2; have c2 := b2.cell (j := 1) (v := .slice R2 lr.length k2) rfl)
              | (go_at_call 180; refine (HAL.out _).mono ?_; rintro e w' ⟨rfl, rfl⟩)
              | (go_at_call 181; refine (HAF.out _).mono ?_; rintro e w' ⟨rfl, rfl⟩)
              | ((with_reducible refine wpList_store_abs (o := ⟨none, .store 159 (.tmp 10) (.tmp 72), _, _, _, none⟩) rfl _ _ _ rfl w.heap.size 159 [.int .i64 0, .int .i64 0, .slice none 0 0, .slice none 0 0] [.int .i64 (p + va % 128), .int .i64 la, .slice none 0 0, .slice R2 lr.length k2] ?_ ?_ (bR.alloc _) (walk_sz _ _ _ _) rfl (img_one _ _ _ _ _ _ _ _) ?_); rfl; rfl; intro w7 b7 o7)
              | (go_at_call 176; (with_reducible refine (NY.out _).mono ?_); rintro e w' ⟨rfl, rfl⟩)
              | (go_at_call 176; (with_reducible refine (NN.out _).mono ?_); rintro e w' ⟨rfl, rfl⟩))
            have NQ : ∀ ad, R2 = some ad → w.heap.size ≤ ad.block := (fun ad e => (by have h9 := (o2.lt ad.block (by rw [e]; rfl)).1; omega))
            have NO : ∀ ad, R2 = some ad → ad.block ≠ w.heap.size := (fun ad e => (by have h9 := (o2.lt ad.block (by rw [e]; rfl)).1; omega))
            exact bodyPost_ret (v := .agg #[.int .i64 (p + va % 128), .int .i64 la, .slice none 0 0, .slice R2 lr.length k2]) (results_blk Tryz.results165 _ _ w.heap.size 159 [.int .i64 (p + va % 128), .int .i64 la, .slice none 0 0, .slice R2 lr.length k2] _ rfl b7 Tryz.underlying159 rfl (walk_sz _ _ _ _)) rfl
              ⟨none, R2, 0, k2, rfl, sl_nil _ _, (Sl.own (o2.alloc _)).only_ne o7 NO, (fun _ e => by cases e), NQ, Below.only (lb.alloc lb.size _) o7 hl.size, (kk.later (later1 _ _)).only o7 (Nat.le_refl _)⟩
          · have e1 : (nx != le) = true := by simpa using hne
            rw [if_neg hne]
            clear hne
            go_enter Tryz.func165, Tryz.ntmps165
            go_wp2_with (first
              | (go_at_call 177; (with_reducible refine (HP1.out _).mono ?_); rintro e w1 ⟨rfl, l1⟩; replace hWa := hWa.later l1; replace lw := Later.trans_ lw l1; replace bR := bR.keep l1; replace kk := kk.later l1; clear c1)
              | (go_at_call 178; refine (HLF.out _ hWa lw).mono ?_; have hRl := bR.lt; have hzR := lw.size; rintro e w2 ⟨rfl, hWb, lb, kp⟩; replace bR := kp.2 _ _ _ hRl htBR bR; replace kk := kk.trans (kp.down (Nat.le_of_lt hRl)); have hWc := hWb; obtain ⟨_, _, R2, k2, b2, o2, n2⟩ := hWc; have c2 := b2.cell (j := 0) (v := .slice A n c) rfl)
              | (go_at_call 179; refine (HPG.out _).mono ?_; rintro e w' ⟨rfl, rfl⟩)
              | (go_at_call 177; (with_reducible refine (HP2.out _).mono ?_); rintro e w3 ⟨rfl, l3⟩; replace hWb := hWb.later l3; replace lb := Later.trans_ lb l3; replace b2 := b2.keep l3; replace bR := bR.keep l3; replace kk := kk.later l3; replace o2 := own_below o2 l3; clear c2; have c2 := b2.cell (j := 1) (v := .slice R2 lr.length k2) rfl)
              | (go_at_call 180; refine (HAL.out _).mono ?_; rintro e w' ⟨rfl, rfl⟩)
              | (go_at_call 181; refine (HAF.out _).mono ?_; rintro e w' ⟨rfl, rfl⟩)
              | (go_at_call 182; refine (HES.out _).mono ?_; have hR3 := bR.lt; rintro e w4 ⟨rfl, l4⟩; have b14 := ((Blk.new w3 159 #[.int .i64 (p + va % 128), .int .i64 la, .slice none 0 0, .slice R2 lr.length k2] [.int .i64 (p + va % 128), .int .i64 la, .slice none 0 0, .slice R2 lr.length k2] rfl).keep l4).alloc (.cells #[.int .i64 la, .int .i64 4, .int .u32 nx] 64); have h14 := (Blk.new w3 159 #[.int .i64 (p + va % 128), .int .i64 la, .slice none 0 0, .slice R2 lr.length k2] [.int .i64 (p + va % 128), .int .i64 la, .slice none 0 0, .slice R2 lr.length k2] rfl).lt; have h4z := l4.size; have bS := Blk.new w4 64 #[.int .i64 la, .int .i64 4, .int .u32 nx] [.int .i64 la, .int .i64 4, .int .u32 nx] rfl; have b15 := (show Blk ((w4.alloc (.cells #[.int .i64 la, .int .i64 4, .int .u32 nx] 64)).setCell ⟨w3.heap.size, 2, none⟩ (.slice (some ⟨w4.heap.size, 0, none⟩) 1 1)) w3.heap.size 159 [.int .i64 (p + va % 128), .int .i64 la, .slice (some ⟨w4.heap.size, 0, none⟩) 1 1, .slice R2 lr.length k2] from b14.set 2 (.slice (some ⟨w4.heap.size, 0, none⟩) 1 1)); have c14 := b14.cell (j := 2) (v := .slice none 0 0) rfl; have f14 := b14.frz 2; have o4 := (own_below (o2.alloc (.cells #[.int .i64 (p + va % 128), .int .i64 la, .slice none 0 0, .slice R2 lr.length k2] 159)) l4).alloc (.cells #[.int .i64 la, .int .i64 4, .int .u32 nx] 64); have lb4 := Later.trans_ (lb.alloc lb.size (.cells #[.int .i64 (p + va % 128), .int .i64 la, .slice none 0 0, .slice R2 lr.length k2] 159)) l4; replace lb4 := lb4.alloc lb4.size (.cells #[.int .i64 la, .int .i64 4, .int .u32 nx] 64); replace bR := ((bR.alloc (.cells #[.int .i64 (p + va % 128), .int .i64 la, .slice none 0 0, .slice R2 lr.length k2] 159)).keep l4).alloc (.cells #[.int .i64 la, .int .i64 4, .int .u32 nx] 64))
              | ((with_reducible refine wpList_load_blk (o := ⟨some 72, .load 159 (.tmp 14), _, _, _, none⟩) rfl _ _ rfl w3.heap.size 159 [.int .i64 (p + va % 128), .int .i64 la, .slice (some ⟨w4.heap.size, 0, none⟩) 1 1, .slice R2 lr.length k2] _ ?_ b15 Tryz.underlying159 rfl (walk_sz _ _ _ _) ?_); rfl)
              | ((with_reducible refine wpList_store_abs (o := ⟨none, .store 159 (.tmp 10) (.tmp 72), _, _, _, none⟩) rfl _ _ _ rfl w.heap.size 159 [.int .i64 0, .int .i64 0, .slice none 0 0, .slice none 0 0] [.int .i64 (p + va % 128), .int .i64 la, .slice (some ⟨w4.heap.size, 0, none⟩) 1 1, .slice R2 lr.length k2] ?_ ?_ (bR.set_other ⟨w3.heap.size, 2, none⟩ (.slice (some ⟨w4.heap.size, 0, none⟩) 1 1) (by show w.heap.size ≠ w3.heap.size; omega)) (walk_sz _ _ _ _) rfl (img_one _ _ _ _ _ _ _ _) ?_); rfl; rfl; intro w7 b7 o7)
              | (go_at_call 176; (with_reducible refine (NY.out _).mono ?_); rintro e w' ⟨rfl, rfl⟩)
              | (go_at_call 176; (with_reducible refine (NN.out _).mono ?_); rintro e w' ⟨rfl, rfl⟩))
            have NQ : ∀ ad, R2 = some ad → w.heap.size ≤ ad.block := (fun ad e => (by have h9 := (o2.lt ad.block (by rw [e]; rfl)).1; omega))
            have NO : ∀ ad, R2 = some ad → ad.block ≠ w.heap.size := (fun ad e => (by have h9 := (o2.lt ad.block (by rw [e]; rfl)).1; omega))
            have NO3 : ∀ ad, R2 = some ad → ad.block ≠ w3.heap.size := (fun ad e => (by have h9 := (o2.lt ad.block (by rw [e]; rfl)).2; omega))
            exact bodyPost_ret (v := .agg #[.int .i64 (p + va % 128), .int .i64 la, .slice (some ⟨w4.heap.size, 0, none⟩) 1 1, .slice R2 lr.length k2]) (results_blk Tryz.results165 _ _ w.heap.size 159 [.int .i64 (p + va % 128), .int .i64 la, .slice (some ⟨w4.heap.size, 0, none⟩) 1 1, .slice R2 lr.length k2] _ rfl b7 Tryz.underlying159 rfl (walk_sz _ _ _ _)) rfl
              ⟨some ⟨w4.heap.size, 0, none⟩, R2, 1, k2, rfl, sl_w1 ((bS.only (Only.set _ w3.heap.size 2 (.slice (some ⟨w4.heap.size, 0, none⟩) 1 1)) (by omega)).only o7 (by omega)), ((Sl.own o4).only_ne (Only.set _ w3.heap.size 2 (.slice (some ⟨w4.heap.size, 0, none⟩) 1 1)) NO3).only_ne o7 NO, (fun _ e => by cases e; show w.heap.size ≤ w4.heap.size; omega), NQ, Below.only (Below.only lb4 (Only.set _ w3.heap.size 2 (.slice (some ⟨w4.heap.size, 0, none⟩) 1 1)) (by have := lb.size; omega)) o7 hl.size, ((((kk.later (later1 w3 (.cells #[.int .i64 (p + va % 128), .int .i64 la, .slice none 0 0, .slice R2 lr.length k2] 159))).later l4).later (later1 w4 (.cells #[.int .i64 la, .int .i64 4, .int .u32 nx] 64))).only (Only.set _ w3.heap.size 2 (.slice (some ⟨w4.heap.size, 0, none⟩) 1 1)) (by omega)).only o7 (Nat.le_refl _)⟩
end Go.Proofs.YtidhodalnikhlaaGreatDoor

/-
  THE WALK OF Walk: the deferred closure in its two modes, and the four ways.
-/
namespace Go.Proofs.YtidhodalnikhlaaGreatDoor
open Go.RowKit Go.ChangeShapes Go.WideShapes Go.ChangeAt

set_option maxRecDepth 100000 in
/-- What hands back a walk, and a cause. -/
def GotW (x : Tm.Wk) (acc : Int) (w : World) (e : Ending) (w' : World) : Prop :=
  ∃ AS AR sc rc, e = .returned (.tuple #[.agg #[.int .i64 x.a, .int .i64 x.l, .slice AS x.s.length sc, .slice AR x.r.length rc], .int .i64 (if x.ok then 0 else Tm.cause acc)]) ∧ Sl w' 3 AS x.s.length (Ws x.s) ∧ Sl w' 1 AR x.r.length (N64 x.r) ∧ (∀ ad, AS = some ad → w.heap.size ≤ ad.block) ∧ (∀ ad, AR = some ad → w.heap.size ≤ ad.block) ∧ Later w w'
set_option maxRecDepth 100000 in
theorem wp_store_abs {P : Program} {o : Oper} {a : Act} {w : World} {K : Act → World → Prop} {Q : Exit → Act → World → Prop} (ty : TypeId) (x y : Operand) (ho : o.op = .store ty x y)
    (g : Nat) (t : TypeId) (old cs : List Value) (hx : a.eval x = .pointer (some ⟨g, 0, none⟩)) (hy : a.eval y = .agg cs.toArray) (hg : Blk w g t old)
    (hi : (P.info? ty).map (·.size) = some cs.length) (hold : old.length = cs.length) (h1 : ∀ v ∈ cs, v.oneCell' = true)
    (h : ∀ w', Blk w' g t cs → Only g w w' → K (a.put o.dst undef) w') : o.wp P a w K Q :=
  wp_store_row ty x y ho g cs.toArray hx hy t old.toArray hg (by rw [List.size_toArray]; exact hi) (by simpa using hold) (all_oneCell_toArray h1) (h _ (hg.row cs) (Only.row _ _ _))
set_option maxRecDepth 100000 in
theorem catch_idle (p0 p1 p2 p3 : Addr) (w : World) :
    CallsD Tryz.prog 162 #[.pointer (some p0), .pointer (some p1), .pointer (some p2), .pointer (some p3)] .returning w fun e u' w' => e = .returned (.tuple #[]) ∧ u' = .returning ∧ w' = w := by
  refine callsD_of_wpS Tryz.func162 rfl fun c₀ cs hu => ?_
  apply wpS_seq
  apply wpS_region
  simp [wpOpsS, go_sem, recoverD, hu, Tryz.ntmps162, Exit.thenS]
  refine wpS_cond (t := false) (by simp [Act.eval, Array.replicate]) ?_
  simp only [Bool.false_eq_true, if_false]
  refine wpS_of_wp (wp_skip ?_)
  cases c₀
  simp_all [bodyPostS, results, Tryz.results162]
set_option maxRecDepth 100000 in
set_option maxHeartbeats 4000000 in
theorem catch_fault (tB pB wB cB : Nat) (acc : Int) (R : Option Addr) (m k : Nat) (A : Option Addr) (n c : Nat) (w : World) (hT : Blk w tB 209 [.slice A n c, .slice R m k]) (hA : Blk w pB 3 [.int .i64 acc])
    (hW : Blk w wB 159 [.int .i64 0, .int .i64 0, .slice none 0 0, .slice none 0 0]) (hC : Blk w cB 3 [.int .i64 0]) (n1 : tB ≠ wB) (n2 : pB ≠ wB) (n3 : cB ≠ wB) (n4 : wB ≠ cB) (n5 : tB ≠ cB) (n6 : pB ≠ cB) :
    CallsD Tryz.prog 162 #[.pointer (some ⟨tB, 0, none⟩), .pointer (some ⟨pB, 0, none⟩), .pointer (some ⟨wB, 0, none⟩), .pointer (some ⟨cB, 0, none⟩)] (.panicking Flt) w fun e u' w' =>
      e = .returned (.tuple #[]) ∧ u' = .panicking [{ v := .iface 232 (.agg #[]), recovered := true }] ∧ Blk w' wB 159 [.int .i64 0, .int .i64 0, .slice none 0 0, .slice R m k] ∧ Blk w' cB 3 [.int .i64 (Tm.cause acc)] ∧
      ∃ w2, Only wB w.drew w2 ∧ Only cB w2 w' := by
  have HC := Lib.hid fun w' => causeOf_any acc w'
  refine callsD_of_wpS Tryz.func162 rfl fun c₀ cs hu => ?_
  apply wpS_seq
  apply wpS_region
  simp [wpOpsS, go_sem, recoverD, hu, Flt, Tryz.ntmps162, Exit.thenS]
  refine wpS_cond (t := true) (by simp [Act.eval, Array.replicate]) ?_
  simp only [if_true]
  refine wpS_of_wp ?_
  replace hT := hT.drew; replace hA := hA.drew; replace hW := hW.drew; replace hC := hC.drew
  simp only [Array.replicate_succ, Array.replicate_zero, List.push_toArray, List.nil_append, List.cons_append, List.append_toArray, List.setIfInBounds_toArray, List.set_cons_zero, List.set_cons_succ]
  refine wp_region_held_drew (S := fun w' => w'.cell? ⟨tB, 1, none⟩ = some (.slice R m k) ∧ w'.cell? ⟨pB, 0, none⟩ = some (.int .i64 acc)) (by kernel_rfl) ⟨hT.cell (j := 1) rfl, hA.cell (j := 0) rfl⟩ (fun hHeld => ?_)
  refine wpAnyH_take (i := 0) (oi := ⟨some 6, .fieldAddr 209 (.tmp 0) 1, _, _, _, none⟩) (v := .pointer (some ⟨tB, 1, none⟩)) rfl (by kernel_rfl) (by kernel_rfl) (by kernel_rfl) (fun _ _ _ h => h) (Or.inl ⟨by rfl, fun w _ => by go_simp⟩) hHeld ?_
  simp only [Act.put, List.setIfInBounds_toArray, List.set_cons_zero, List.set_cons_succ]
  refine wpAnyH_take (i := 1) (oi := ⟨some 7, .load 120 (.tmp 6), _, _, _, none⟩) (v := .slice R m k) rfl (by kernel_rfl) (by kernel_rfl) (by kernel_rfl) (fun _ _ _ h => h) (Or.inl ⟨by rfl, fun w hS => by have h0 := hS.1; go_simp⟩) hHeld ?_
  simp only [Act.put, List.setIfInBounds_toArray, List.set_cons_zero, List.set_cons_succ]
  refine wpAnyH_take (i := 2) (oi := ⟨some 8, .build 159 #[(3, .tmp 7)], _, _, _, none⟩) (v := .agg #[.int .i64 0, .int .i64 0, .slice none 0 0, .slice R m k]) rfl (by kernel_rfl) (by kernel_rfl) (by kernel_rfl) (fun _ _ _ h => h) (Or.inl ⟨by rfl, fun w _ => by go_simp⟩) hHeld ?_
  simp only [Act.put, List.setIfInBounds_toArray, List.set_cons_zero, List.set_cons_succ]
  refine wpAnyH_take (i := 3) (oi := ⟨some 9, .load 3 (.tmp 1), _, _, _, none⟩) (v := .int .i64 acc) rfl (by kernel_rfl) (by kernel_rfl) (by kernel_rfl) (fun _ _ _ h => h) (Or.inl ⟨by rfl, fun w hS => by have h0 := hS.2; go_simp⟩) hHeld ?_
  simp only [Act.put, List.setIfInBounds_toArray, List.set_cons_zero, List.set_cons_succ]
  refine wpAnyH_ready (rs := [4]) (by kernel_rfl) (by simp) (AllReadyH.cons (o := ⟨some 10, .call { callee := .value (.func 163), args := #[.tmp 9], argTypes := #[3] }, _, _, _, none⟩) rfl (fun K' hK => ?_) (AllReadyH.nil))
  go_simp
  refine (HC.out _).mono ?_
  rintro e w' ⟨rfl, rfl⟩
  refine hK.out _ _ ⟨hT.cell (j := 1) rfl, hA.cell (j := 0) rfl⟩ (fun hHeld => ?_)
  clear hK K'
  try simp only [Act.put, List.setIfInBounds_toArray, List.set_cons_zero, List.set_cons_succ]
  refine wpAnyH_ready (rs := [5]) (by kernel_rfl) (by simp) (AllReadyH.cons (o := ⟨none, .store 159 (.tmp 2) (.tmp 8), _, _, _, none⟩) rfl (fun K' hK => ?_) (AllReadyH.nil))
  refine wp_store_abs 159 _ _ rfl wB 159 [.int .i64 0, .int .i64 0, .slice none 0 0, .slice none 0 0] [.int .i64 0, .int .i64 0, .slice none 0 0, .slice R m k] rfl rfl hW (walk_sz _ _ _ _) rfl (img_one _ _ _ _ _ _ _ _) ?_
  intro w2 b2 o2
  replace hT := hT.only o2 n1
  replace hA := hA.only o2 n2
  replace hC := hC.only o2 n3
  have cC := hC.cell (j := 0) (v := .int .i64 0) rfl
  have fC := hC.frz 0
  have b3 := b2.set_other ⟨cB, 0, none⟩ (.int .i64 (Tm.cause acc)) n4
  have b4 := hC.set 0 (.int .i64 (Tm.cause acc))
  refine hK.out _ _ ⟨hT.cell (j := 1) rfl, hA.cell (j := 0) rfl⟩ (fun hHeld => ?_)
  clear hK K'
  try simp only [Act.put]
  refine wpAnyH_ready (rs := [6]) (by kernel_rfl) (by simp) (AllReadyH.cons (o := ⟨none, .store 3 (.tmp 3) (.tmp 10), _, _, _, none⟩) rfl (fun K' hK => ?_) (AllReadyH.nil))
  go_simp
  replace hT := hT.set_other ⟨cB, 0, none⟩ (.int .i64 (Tm.cause acc)) n5
  replace hA := hA.set_other ⟨cB, 0, none⟩ (.int .i64 (Tm.cause acc)) n6
  refine hK.out _ _ ⟨hT.cell (j := 1) rfl, hA.cell (j := 0) rfl⟩ (fun hHeld => ?_)
  clear hK K'
  try simp only [Act.put, List.setIfInBounds_toArray, List.set_cons_zero, List.set_cons_succ]
  refine wpAnyH_done (by kernel_rfl) ?_ _
  clear hHeld
  exact ⟨rfl, _, rfl, _, by simp [results, Tryz.results162], rfl, rfl, b3, b4, w2, o2, Only.set _ _ _ _⟩
end Go.Proofs.YtidhodalnikhlaaGreatDoor

/-
  THE WALK OF Walk: the four ways.
-/
namespace Go.Proofs.YtidhodalnikhlaaGreatDoor
open Go.RowKit Go.ChangeShapes Go.WideShapes Go.ChangeAt

set_option maxRecDepth 100000 in
theorem results_ci {fn : Func} {p q : Tmp} (h : fn.results = #[.cell p 159, .cell q 3]) (tmps : Array Value) (w : World) (g k : Nat) (cs : List Value) (v : Int)
    (hp : tmps.getD p undef = .pointer (some ⟨g, 0, none⟩)) (hq : tmps.getD q undef = .pointer (some ⟨k, 0, none⟩)) (hg : Blk w g 159 cs) (hk : Blk w k 3 [.int .i64 v])
    (hi : (Tryz.prog.info? 159).map (·.size) = some cs.length) :
    (results fn tmps).run Tryz.prog w = .ok (.tuple #[.agg cs.toArray, .int .i64 v]) w := by
  have hp' : tmps[p]?.getD undef = .pointer (some ⟨g, 0, none⟩) := by simpa using hp
  have hq' : tmps[q]?.getD undef = .pointer (some ⟨k, 0, none⟩) := by simpa using hq
  have hc := hk.cell (j := 0) (v := .int .i64 v) rfl
  simp [results, h, hp', hq', asAddr, run_loadVar_row w g 159 159 cs.toArray (0, 0) _ hg Tryz.underlying159 rfl (by rw [List.size_toArray]; exact hi)]
  simp [go_sem, hc]
set_option maxRecDepth 100000 in
/-- .. where it leads somewhere. -/
def GotOk (x : Tm.Wk) (tB : Nat) (w0 wc : World) (e : Ending) (w' : World) : Prop :=
  ∃ AS AR sc rc, e = .returned (.agg #[.int .i64 x.a, .int .i64 x.l, .slice AS x.s.length sc, .slice AR x.r.length rc]) ∧ Sl w' 3 AS x.s.length (Ws x.s) ∧ Sl w' 1 AR x.r.length (N64 x.r) ∧ (∀ ad, AS = some ad → wc.heap.size ≤ ad.block) ∧ (∀ ad, AR = some ad → wc.heap.size ≤ ad.block) ∧ Later w0 w' ∧ Kept wc.heap.size tB wc w'
set_option maxRecDepth 100000 in
/-- .. where it faults. -/
def GotNo (x : Tm.Wk) (base tB : Nat) (A : Option Addr) (n c : Nat) (w0 wc : World) (e : Ending) (w' : World) : Prop :=
  e = .panicked Flt ∧ (∃ lo, wc.heap.size ≤ lo ∧ Wkr w' base lo tB A n c x.r) ∧ Later w0 w' ∧ Kept wc.heap.size tB wc w'
set_option maxRecDepth 100000 in
theorem GotT.yes {x : Tm.Wk} {base tB : Nat} {A : Option Addr} {n c : Nat} {w0 wc w' : World} {e : Ending} (h : GotT x base tB A n c w0 wc e w') (ho : x.ok = true) : GotOk x tB w0 wc e w' := by
  unfold GotT at h
  rw [if_pos ho] at h
  exact h
set_option maxRecDepth 100000 in
theorem GotT.no {x : Tm.Wk} {base tB : Nat} {A : Option Addr} {n c : Nat} {w0 wc w' : World} {e : Ending} (h : GotT x base tB A n c w0 wc e w') (ho : x.ok = false) : GotNo x base tB A n c w0 wc e w' := by
  unfold GotT at h
  rw [if_neg (by rw [ho]; decide)] at h
  exact h
set_option maxRecDepth 100000 in
set_option maxHeartbeats 4000000 in
theorem twalk_any (A : Option Addr) (n c : Nat) (root va acc : Int) (u : Bool) (b : Wm.Bs) (w : World) (hs : Sl w 128 A n (U b)) (hb : Wm.isBs b) (hn1 : 1 ≤ n) (hn : n ≤ 64) (hr0 : 0 ≤ root) (hr : root < 4294967296) (hv0 : 0 ≤ va) (hv : va < 4294967296) :
    Calls Tryz.prog 138 #[.agg #[.slice A n c], .int .u32 root, .int .u32 va, .int .i64 acc, .bool u] w (GotW (Tm.walk n b root va acc u) acc w) := by
  have hmf : ∀ (fn : Fn) (first cap : Array Value) (w : World), (Instr.makeFunc fn first cap).run Tryz.prog w = .ok (.func fn first cap) w := fun _ _ _ _ => rfl
  obtain ⟨W5, hW5⟩ : ∃ W5, W5 = (((((w.alloc (.cells #[.slice A n c] 29)).alloc (.cells #[.int .i64 acc] 3)).alloc (.cells #[.int .i64 0, .int .i64 0, .slice none 0 0, .slice none 0 0] 159)).alloc (.cells #[.int .i64 0] 3)).alloc (.cells #[.slice A n c, .slice none 0 0] 209)) := ⟨_, rfl⟩
  have l5 : Later w W5 := by rw [hW5]; exact ((((later1 w _).alloc (by simp) _).alloc (by simp; omega) _).alloc (by simp; omega) _).alloc (by simp; omega) _
  have z5 : W5.heap.size = w.heap.size + 5 := by rw [hW5]; simp
  have bA : Blk W5 (w.heap.size + 1) 3 [.int .i64 acc] := by rw [hW5]; exact (((Blk.new' (w.alloc (.cells #[.slice A n c] 29)) (w.heap.size + 1) _ _ _ (by simp) rfl).alloc _).alloc _).alloc _
  have bW : Blk W5 (w.heap.size + 2) 159 [.int .i64 0, .int .i64 0, .slice none 0 0, .slice none 0 0] := by rw [hW5]; exact ((Blk.new' ((w.alloc (.cells #[.slice A n c] 29)).alloc (.cells #[.int .i64 acc] 3)) (w.heap.size + 2) _ _ _ (by simp) rfl).alloc _).alloc _
  have bC : Blk W5 (w.heap.size + 3) 3 [.int .i64 0] := by rw [hW5]; exact (Blk.new' (((w.alloc (.cells #[.slice A n c] 29)).alloc (.cells #[.int .i64 acc] 3)).alloc (.cells #[.int .i64 0, .int .i64 0, .slice none 0 0, .slice none 0 0] 159)) (w.heap.size + 3) _ _ _ (by simp) rfl).alloc _
  have bT : Blk W5 (w.heap.size + 4) 209 [.slice A n c, .slice none 0 0] := by rw [hW5]; exact Blk.new' ((((w.alloc (.cells #[.slice A n c] 29)).alloc (.cells #[.int .i64 acc] 3)).alloc (.cells #[.int .i64 0, .int .i64 0, .slice none 0 0, .slice none 0 0] 159)).alloc (.cells #[.int .i64 0] 3)) (w.heap.size + 4) _ _ _ (by simp) rfl
  have cA5 := bA.cell (j := 0) (v := .int .i64 acc) rfl
  have hT0 : Wk0 W5 w.heap.size (w.heap.size + 4) A n c := ⟨by omega, bT⟩
  have HU := Lib.hid (untranslated_any A n c va w.heap.size (w.heap.size + 4) w W5 hn hv0 hv hT0 l5)
  have HT := Lib.hid (translated_any A n c root va acc u b w.heap.size (w.heap.size + 4) w W5 rfl hs hb hn1 hn hr0 hr hv0 hv hT0 l5)
  unfold Tm.walk
  have HW := Lib.hid hW5
  clear hW5 hs hb cA5
  by_cases h0 : root = 0
  · rw [if_pos h0]
    obtain ⟨X, hX⟩ : ∃ X, X = Tm.unt n va := ⟨_, rfl⟩
    rw [← hX] at HU ⊢
    have hno := fun h => Tm.unt_no (n := n) (va := va) h
    rw [← hX] at hno
    obtain ⟨ok, xa, xl, xs, xr⟩ := X
    have e0 : (root == 0) = true := by simpa using h0
    clear hX h0 HT
    cases ok with
    | true =>
      clear hno
      have HUo := Lib.hid (HU.out.mono (R' := GotOk ⟨true, xa, xl, xs, xr⟩ (w.heap.size + 4) w W5) fun e w' h => GotT.yes h rfl)
      clear HU
      go_enter_defers Tryz.func138, Tryz.ntmps138
      go_wp2_with (first
        | (go_at_call 164; rw [← HW.out]; refine HUo.out.mono ?_; rintro e w6 ⟨AS, AR, sc, rc, rfl, s1, s2, q1, q2, l6, k6⟩; have b6 := k6.2 _ _ _ (by omega) (by omega) bW; have d6 := k6.2 _ _ _ (by omega) (by omega) bC)
        | ((with_reducible refine wpList_store_abs (o := ⟨none, .store 159 (.tmp 10) (.tmp 19), _, _, _, none⟩) rfl _ _ _ rfl (w.heap.size + 2) 159 [.int .i64 0, .int .i64 0, .slice none 0 0, .slice none 0 0] [.int .i64 xa, .int .i64 xl, .slice AS xs.length sc, .slice AR xr.length rc] ?_ ?_ b6 (walk_sz _ _ _ _) rfl (img_one _ _ _ _ _ _ _ _) ?_); rfl; rfl; intro w7 b7 o7; have d7 := d6.only o7 (by omega); have c7 := d7.cell (j := 0) (v := .int .i64 0) rfl; have f7 := d7.frz 0))
      have z8 := o7.size
      have z6 := k6.1
      have ne1 : ∀ (X : Option Addr), (∀ ad, X = some ad → W5.heap.size ≤ ad.block) → ∀ (g : Nat), g < w.heap.size + 5 → ∀ ad, X = some ad → ad.block ≠ g := fun X hX g hg ad e => by have := hX ad e; omega
      have b8 := b7.set_other ⟨w.heap.size + 3, 0, none⟩ (.int .i64 0) (by show w.heap.size + 2 ≠ w.heap.size + 3; omega)
      have d8 : Blk (w7.setCell ⟨w.heap.size + 3, 0, none⟩ (.int .i64 0)) (w.heap.size + 3) 3 [.int .i64 0] := d7.set 0 (.int .i64 0)
      have o8 := Only.set w7 (w.heap.size + 3) 0 (.int .i64 0)
      refine leaves_cons (f := 162) (args := #[.pointer (some ⟨w.heap.size + 4, 0, none⟩), .pointer (some ⟨w.heap.size + 1, 0, none⟩), .pointer (some ⟨w.heap.size + 2, 0, none⟩), .pointer (some ⟨w.heap.size + 3, 0, none⟩)]) (by simp) (by simp [go_sem]) ?_
      refine (catch_idle ⟨w.heap.size + 4, 0, none⟩ ⟨w.heap.size + 1, 0, none⟩ ⟨w.heap.size + 2, 0, none⟩ ⟨w.heap.size + 3, 0, none⟩ _).mono ?_
      rintro e u' w'' ⟨rfl, rfl, rfl⟩
      refine ⟨_, results_ci Tryz.results138 _ _ (w.heap.size + 2) (w.heap.size + 3) _ 0 rfl rfl b8 d8 (walk_sz _ _ _ _), ⟨AS, AR, sc, rc, rfl, (s1.only_ne o7 (ne1 _ q1 _ (by omega))).only_ne o8 (ne1 _ q1 _ (by omega)), (s2.only_ne o7 (ne1 _ q2 _ (by omega))).only_ne o8 (ne1 _ q2 _ (by omega)), (fun ad e => by have := q1 ad e; omega), (fun ad e => by have := q2 ad e; omega), Below.only (Below.only l6 o7 (by omega)) o8 (by omega)⟩⟩
    | false =>
      have HUo := Lib.hid (HU.out.mono (R' := GotNo ⟨false, xa, xl, xs, xr⟩ w.heap.size (w.heap.size + 4) A n c w W5) fun e w' h => GotT.no h rfl)
      clear HU
      obtain ⟨rfl, rfl, rfl⟩ : xa = 0 ∧ xl = 0 ∧ xs = [] := by have := hno rfl; simp at this; exact ⟨this.1, this.2.1, this.2.2.1⟩
      clear hno
      go_enter_defers Tryz.func138, Tryz.ntmps138
      go_wp2_with (go_at_call 164; rw [← HW.out]; refine HUo.out.mono ?_; rintro e w6 ⟨rfl, ⟨lo, hlo2, _, _, R, k, t6, o6, _⟩, l6, k6⟩)
      have a6 := k6.2 _ _ _ (by omega) (by omega) bA
      have b6 := k6.2 _ _ _ (by omega) (by omega) bW
      have d6 := k6.2 _ _ _ (by omega) (by omega) bC
      refine leaves_cons (f := 162) (args := #[.pointer (some ⟨w.heap.size + 4, 0, none⟩), .pointer (some ⟨w.heap.size + 1, 0, none⟩), .pointer (some ⟨w.heap.size + 2, 0, none⟩), .pointer (some ⟨w.heap.size + 3, 0, none⟩)]) (by simp) (by simp [go_sem]) ?_
      refine (catch_fault (w.heap.size + 4) (w.heap.size + 1) (w.heap.size + 2) (w.heap.size + 3) acc R xr.length k A n c w6 t6 a6 b6 d6 (by omega) (by omega) (by omega) (by omega) (by omega) (by omega)).mono ?_
      rintro e u' w8 ⟨rfl, rfl, b8, d8, w7, o7, o8⟩
      refine ⟨_, results_ci Tryz.results138 _ _ (w.heap.size + 2) (w.heap.size + 3) _ _ rfl rfl b8 d8 (walk_sz _ _ _ _), ⟨none, R, 0, k, rfl, sl_nil _ _, ((Sl.own o6).drew.only_ne o7 (fun ad e => by have h9 := (o6.lt ad.block (by rw [e]; rfl)).1; omega)).only_ne o8 (fun ad e => by have h9 := (o6.lt ad.block (by rw [e]; rfl)).1; omega), (fun ad e => by cases e), (fun ad e => by have h9 := (o6.lt ad.block (by rw [e]; rfl)).1; omega), Below.only (Below.only l6.drew o7 (by omega)) o8 (by omega)⟩⟩
  · rw [if_neg h0]
    obtain ⟨X, hX⟩ : ∃ X, X = Tm.trans n b root va acc u := ⟨_, rfl⟩
    rw [← hX] at HT ⊢
    have hno := fun h => Tm.trans_no (n := n) (b := b) (root := root) (va := va) (acc := acc) (u := u) h
    rw [← hX] at hno
    obtain ⟨ok, xa, xl, xs, xr⟩ := X
    have e0 : (root == 0) = false := by simpa using h0
    clear hX h0 HU
    cases ok with
    | true =>
      clear hno
      have HUo := Lib.hid (HT.out.mono (R' := GotOk ⟨true, xa, xl, xs, xr⟩ (w.heap.size + 4) w W5) fun e w' h => GotT.yes h rfl)
      clear HT
      go_enter_defers Tryz.func138, Tryz.ntmps138
      go_wp2_with (first
        | (go_at_call 165; rw [← HW.out]; refine HUo.out.mono ?_; rintro e w6 ⟨AS, AR, sc, rc, rfl, s1, s2, q1, q2, l6, k6⟩; have b6 := k6.2 _ _ _ (by omega) (by omega) bW; have d6 := k6.2 _ _ _ (by omega) (by omega) bC)
        | ((with_reducible refine wpList_store_abs (o := ⟨none, .store 159 (.tmp 10) (.tmp 24), _, _, _, none⟩) rfl _ _ _ rfl (w.heap.size + 2) 159 [.int .i64 0, .int .i64 0, .slice none 0 0, .slice none 0 0] [.int .i64 xa, .int .i64 xl, .slice AS xs.length sc, .slice AR xr.length rc] ?_ ?_ b6 (walk_sz _ _ _ _) rfl (img_one _ _ _ _ _ _ _ _) ?_); rfl; rfl; intro w7 b7 o7; have d7 := d6.only o7 (by omega); have c7 := d7.cell (j := 0) (v := .int .i64 0) rfl; have f7 := d7.frz 0))
      have z8 := o7.size
      have z6 := k6.1
      have ne1 : ∀ (X : Option Addr), (∀ ad, X = some ad → W5.heap.size ≤ ad.block) → ∀ (g : Nat), g < w.heap.size + 5 → ∀ ad, X = some ad → ad.block ≠ g := fun X hX g hg ad e => by have := hX ad e; omega
      have b8 := b7.set_other ⟨w.heap.size + 3, 0, none⟩ (.int .i64 0) (by show w.heap.size + 2 ≠ w.heap.size + 3; omega)
      have d8 : Blk (w7.setCell ⟨w.heap.size + 3, 0, none⟩ (.int .i64 0)) (w.heap.size + 3) 3 [.int .i64 0] := d7.set 0 (.int .i64 0)
      have o8 := Only.set w7 (w.heap.size + 3) 0 (.int .i64 0)
      refine leaves_cons (f := 162) (args := #[.pointer (some ⟨w.heap.size + 4, 0, none⟩), .pointer (some ⟨w.heap.size + 1, 0, none⟩), .pointer (some ⟨w.heap.size + 2, 0, none⟩), .pointer (some ⟨w.heap.size + 3, 0, none⟩)]) (by simp) (by simp [go_sem]) ?_
      refine (catch_idle ⟨w.heap.size + 4, 0, none⟩ ⟨w.heap.size + 1, 0, none⟩ ⟨w.heap.size + 2, 0, none⟩ ⟨w.heap.size + 3, 0, none⟩ _).mono ?_
      rintro e u' w'' ⟨rfl, rfl, rfl⟩
      refine ⟨_, results_ci Tryz.results138 _ _ (w.heap.size + 2) (w.heap.size + 3) _ 0 rfl rfl b8 d8 (walk_sz _ _ _ _), ⟨AS, AR, sc, rc, rfl, (s1.only_ne o7 (ne1 _ q1 _ (by omega))).only_ne o8 (ne1 _ q1 _ (by omega)), (s2.only_ne o7 (ne1 _ q2 _ (by omega))).only_ne o8 (ne1 _ q2 _ (by omega)), (fun ad e => by have := q1 ad e; omega), (fun ad e => by have := q2 ad e; omega), Below.only (Below.only l6 o7 (by omega)) o8 (by omega)⟩⟩
    | false =>
      have HUo := Lib.hid (HT.out.mono (R' := GotNo ⟨false, xa, xl, xs, xr⟩ w.heap.size (w.heap.size + 4) A n c w W5) fun e w' h => GotT.no h rfl)
      clear HT
      obtain ⟨rfl, rfl, rfl⟩ : xa = 0 ∧ xl = 0 ∧ xs = [] := by have := hno rfl; simp at this; exact ⟨this.1, this.2.1, this.2.2⟩
      clear hno
      go_enter_defers Tryz.func138, Tryz.ntmps138
      go_wp2_with (go_at_call 165; rw [← HW.out]; refine HUo.out.mono ?_; rintro e w6 ⟨rfl, ⟨lo, hlo2, _, _, R, k, t6, o6, _⟩, l6, k6⟩)
      have a6 := k6.2 _ _ _ (by omega) (by omega) bA
      have b6 := k6.2 _ _ _ (by omega) (by omega) bW
      have d6 := k6.2 _ _ _ (by omega) (by omega) bC
      refine leaves_cons (f := 162) (args := #[.pointer (some ⟨w.heap.size + 4, 0, none⟩), .pointer (some ⟨w.heap.size + 1, 0, none⟩), .pointer (some ⟨w.heap.size + 2, 0, none⟩), .pointer (some ⟨w.heap.size + 3, 0, none⟩)]) (by simp) (by simp [go_sem]) ?_
      refine (catch_fault (w.heap.size + 4) (w.heap.size + 1) (w.heap.size + 2) (w.heap.size + 3) acc R xr.length k A n c w6 t6 a6 b6 d6 (by omega) (by omega) (by omega) (by omega) (by omega) (by omega)).mono ?_
      rintro e u' w8 ⟨rfl, rfl, b8, d8, w7, o7, o8⟩
      refine ⟨_, results_ci Tryz.results138 _ _ (w.heap.size + 2) (w.heap.size + 3) _ _ rfl rfl b8 d8 (walk_sz _ _ _ _), ⟨none, R, 0, k, rfl, sl_nil _ _, ((Sl.own o6).drew.only_ne o7 (fun ad e => by have h9 := (o6.lt ad.block (by rw [e]; rfl)).1; omega)).only_ne o8 (fun ad e => by have h9 := (o6.lt ad.block (by rw [e]; rfl)).1; omega), (fun ad e => by cases e), (fun ad e => by have h9 := (o6.lt ad.block (by rw [e]; rfl)).1; omega), Below.only (Below.only l6.drew o7 (by omega)) o8 (by omega)⟩⟩
end Go.Proofs.YtidhodalnikhlaaGreatDoor
