/-
  THE WALKS OF hash.Sum, and of wire.Bytes, which hash.Of calls.
-/
import Derived.Test.YtoigpokmlohhkaaDoorHashL
import Derived.Test.YtoigpokmlohhkaaDoorWireLaws
import Derived.Lib.Zigzag
namespace Go.Proofs.YtoigpokmlohhkaaDoor
open Go.RowKit

/-- The hash of bytes, as cells. -/
def shaC (b : Wm.Bs) : List Value := U (iv8 (Hs.sha (bv b)))
theorem shaC_len (b : Wm.Bs) : (shaC b).length = 32 := fresh_out _
theorem shaC_one (b : Wm.Bs) : ∀ v ∈ shaC b, v.oneCell' = true := U_one _

set_option maxRecDepth 100000 in
set_option maxHeartbeats 1000000 in
theorem hsum_any (A : Option Addr) (n c : Nat) (b : Wm.Bs) (w : World) (hs : Sl w 1 A n (U b)) (hb : Wm.isBs b) (hnc : n ≤ c) (hc : c ≤ 9223372036854775807) (hn : n ≤ 281474976710656) (tab : Tab w) :
    Calls Tryd.prog 21 #[.slice A n c] w fun e w' => e = .returned (.agg (shaC b).toArray) ∧ Later w w' := by
  have hbl := hs.blen
  have hA : ∀ w' cs, Later w w' → StrOf [] cs → Calls Tryd.prog 59 #[.agg cs.toArray, .slice A n c] w' (Added (bv b) w') := fun w' cs hl hS => by
    have h := addB_any [] cs A n c b w' hS (hs.keep hl) hb hnc hc (by simp; omega) (tab.keep hl)
    rwa [List.nil_append] at h
  have hM : ∀ w' cs, Later w w' → StrOf (bv b) cs → Calls Tryd.prog 25 #[.agg cs.toArray] w' fun e w'' => e = .returned (.agg (shaC b).toArray) ∧ Later w' w'' := fun w' cs hl hS =>
    strSum_any (bv b) cs w' hS (by rw [bv_len, hbl]; exact hn) (tab.keep hl)
  have HA := Lib.hid hA; have HM := Lib.hid hM
  have hsO : (Tryd.prog.info? 35).map (·.size) = some (shaC b).length := by rw [shaC_len]; kernel_rfl
  have hOl : (PartB [] 32).length = (shaC b).length := by rw [shaC_len]; rfl
  have HOL := Lib.hid hOl
  have hu32 := Tryd.underlying35
  have HU32 := Lib.hid hu32
  have HO1 := Lib.hid (shaC_one b)
  clear hA hM hOl hu32 hbl
  go_enter Tryd.func21, Tryd.ntmps21
  go_wp2_with (first
    | (go_at_call 23; refine (strBegin_any _).mono ?_; rintro e w1 ⟨cs1, rfl, hS1, hl1⟩; have hl1' : Later w w1 := ((Below.refl _ _).alloc (Nat.le_refl _) _).trans (hl1.mono (by simp)))
    | (go_at_call 59; refine (HA.out _ cs1 hl1' hS1).mono ?_; rintro e w2 ⟨cs2, rfl, hS2, hl2⟩)
    | (go_at_call 25; refine (HM.out _ cs2 (Later.trans_ hl1' hl2) hS2).mono ?_; rintro e w3 ⟨rfl, hl3⟩)
    | ((with_reducible refine wpList_store_abs (o := ⟨none, .store 35 (.tmp 2) (.tmp 6), _, _, _, none⟩) rfl _ _ _ rfl w.heap.size 35 (PartB [] 32) (shaC b) ?_ ?_ ?_ hsO HOL.out HO1.out ?_); rfl; rfl; exact (((Blk.new w _ _ _ rfl).keep hl1).keep hl2).keep hl3; intro wz z1 z2))
  exact bodyPost_ret (v := .agg (shaC b).toArray) (results_blk Tryd.results21 _ _ w.heap.size _ (shaC b) _ rfl z1 HU32.out rfl hsO) rfl ⟨rfl, Below.only (Later.trans_ (Later.trans_ hl1' hl2) hl3) z2 (by omega)⟩
end Go.Proofs.YtoigpokmlohhkaaDoor
