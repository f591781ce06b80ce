/-
  THE STATEMENT CoreComputes: its walk.
-/
import Derived.Test.YtbhhhpglljkcpaaGreatDoorWzb
import Derived.Test.YtbhhhpglljkcpaaGreatDoorWzc
import Derived.Test.YtbhhhpglljkcpaaGreatDoorWzd
namespace Go.Proofs.YtbhhhpglljkcpaaGreatDoor
open Go.RowKit Go.ChangeShapes Go.WideShapes Go.ChangeAt

theorem comp_any (x : Cpu) (A : Option Addr) (n c : Nat) (b : Wm.Bs) (i : Im.I) (w : World) (hrv : x.Rv) (hc0 : 0 ≤ x.c0 ∧ x.c0 ≤ 4294967295) (hpcr : 0 ≤ x.pc ∧ x.pc ≤ 4294967295) (hc5 : Tm.isE x.c5) (hs : Sl w 128 A n (U b)) (hb : Wm.isBs b) (tab : Tab w) (hS : ∀ w', Tab w' → Calls Tryz.prog 11 #[] w' fun e w'' => e = .returned (.bool true) ∧ Later w' w'') :
    Calls Tryz.prog 9 #[.agg x.cells.toArray, .agg #[.slice A n c], .agg #[.int .i64 i.op, .int .i64 i.a, .int .i64 i.b, .int .i64 i.c, .int .i64 i.imm]] w fun e w' => e = .returned (.bool true) ∧ Later w w' := by
  cases hR : RightB x n with
  | false => exact comp_r x A n c b i w hrv hc0 hpcr hc5 hs hb tab hS hR
  | true =>
    by_cases z0 : x.c0 = 0
    · by_cases hr4z : x.pc % 4 = 0
      · by_cases z2 : x.pc ≤ (n : Int) * 128 - 4
        · cases hwt : x.wt with
          | true => exact comp_n3 x A n c b i w hrv hc0 hpcr hc5 hs hb tab hS hR z0 hr4z z2 hwt
          | false =>
            cases hhl : x.hl with
            | true => exact comp_n4 x A n c b i w hrv hc0 hpcr hc5 hs hb tab hS hR z0 hr4z z2 hwt hhl
            | false =>
              by_cases o1 : 1 ≤ i.op
              · by_cases o2 : i.op ≤ 12
                · by_cases hRi : Im.Right i
                  · exact comp_3 x A n c b i w hrv hc0 hpcr hc5 hs hb tab hS hR z0 hr4z z2 hwt hhl hRi ⟨o1, o2⟩
                  · exact comp_n5 x A n c b i w hrv hc0 hpcr hc5 hs hb tab hS hR z0 hr4z z2 hwt hhl ⟨o1, o2⟩ hRi
                · by_cases o3 : i.op = 16
                  · by_cases hRi : Im.Right i
                    · exact comp_16 x A n c b i w hrv hc0 hpcr hc5 hs hb tab hS hR z0 hr4z z2 hwt hhl hRi o3
                    · exact comp_n6 x A n c b i w hrv hc0 hpcr hc5 hs hb tab hS hR z0 hr4z z2 hwt hhl o3 hRi
                  · exact comp_n7 x A n c b i w hrv hc0 hpcr hc5 hs hb tab hS hR z0 hr4z z2 hwt hhl o1 o2 o3
              · exact comp_n8 x A n c b i w hrv hc0 hpcr hc5 hs hb tab hS hR z0 hr4z z2 hwt hhl o1
        · exact comp_n2 x A n c b i w hrv hc0 hpcr hc5 hs hb tab hS hR z0 hr4z z2
      · exact comp_n1 x A n c b i w hrv hc0 hpcr hc5 hs hb tab hS hR z0 hr4z
    · exact comp_n0 x A n c b i w hrv hc0 hpcr hc5 hs hb tab hS hR z0
end Go.Proofs.YtbhhhpglljkcpaaGreatDoor
