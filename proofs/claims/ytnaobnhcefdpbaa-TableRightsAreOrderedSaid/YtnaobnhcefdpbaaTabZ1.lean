/-
  THE STATEMENT TableRightsAreOrdered: the walk.
-/
import Derived.Test.YtnaobnhcefdpbaaTabV
namespace Go.Proofs.Ytnaobnhcefdpbaa
open Go.RowKit Go.ChangeShapes Go.WideShapes Go.ChangeAt
set_option maxRecDepth 100000 in
set_option maxHeartbeats 40000000 in
theorem ordered_yes (A : Option Addr) (n c : Nat) (root va : Int) (b : Wm.Bs) (w : World) (hs : Sl w 128 A n (U b)) (hb : Wm.isBs b) (h1 : 1 ≤ n ∧ n ≤ 64) (hr : 0 ≤ root ∧ root ≤ 4294967295) (hv : 0 ≤ va ∧ va ≤ 4294967295) :
    Calls Try.prog 6 #[.agg #[.slice A n c], .int .u32 root, .int .u32 va] w fun e w' => e = .returned (.bool true) ∧ Later w w' := by
  have HV := Lib.hid fun w' => rvalid_any A n c w'
  rw [decide_eq_true h1] at HV
  have HN := Lib.hid fun w' => sanity_any w'
  have HW := Lib.hid fun (acc : Int) (u : Bool) X hX ca hc w' hl => walk_gets A n c root va acc u b w hs hb h1 hr hv X hX ca hc w' hl
  have HM := Lib.hid fun acc h => walk_mode (n := n) (b := b) (root := root) (va := va) (acc := acc) h
  have HLD := Lib.hid fun acc h => walk_load (n := n) (b := b) (root := root) (va := va) (acc := acc) (u := false) h
  have HSW := Lib.hid (walk_swap n b root va true)
  clear hs hb h1 hr hv
  go_enter Try.func6, Try.ntmps6
  go_wp2_with (first
    | (go_at_call 8; refine (HV.out _).mono ?_; rintro e w1 ⟨rfl, l1⟩; have b3 := (Blk.new w 24 #[.slice A n c] [.slice A n c] rfl).keep l1; have lw := Later.trans_ (later1 w (.cells #[.slice A n c] 24)) l1))
  go_loopw [7] (fun i wr => ∃ k : Int, 1 ≤ k ∧ k ≤ 5 ∧ i = .int .i64 k ∧ Later w1 wr) (fun i _ => 5 - (intOf i).toNat)
  case atStart => exact ⟨1, by omega, by omega, rfl, later0 _⟩
  case round =>
    rename_i wr
    obtain ⟨k, hk1, hk5, rfl, lr⟩ := hrel
    have lx := Later.trans_ lw lr
    replace b3 := b3.keep lr
    have c3 := b3.cell (j := 0) (v := .slice A n c) rfl
    rcases (show k = 1 ∨ k = 2 ∨ k = 3 ∨ k = 4 ∨ k = 5 by omega) with rfl | rfl | rfl | rfl | rfl
    · obtain ⟨XU, hXU⟩ : ∃ X, Tm.walk n b root va 1 true = X := ⟨_, rfl⟩
      obtain ⟨XK, hXK⟩ : ∃ X, Tm.walk n b root va 1 false = X := ⟨_, rfl⟩
      obtain ⟨XL, hXL⟩ : ∃ X, Tm.walk n b root va 1 false = X := ⟨_, rfl⟩
      have f1 := HM.out 1
      rw [hXU, hXK] at f1
      have f2 : XK.ok = true → XL.ok = true ∧ XL.a = XK.a ∧ XL.l = XK.l := fun h => by
        have e : XK = XL := hXK.symm.trans hXL
        subst e
        exact ⟨h, rfl, rfl⟩
      cases hu : XU.ok with
      | true =>
        obtain ⟨hk, ea, el⟩ := f1 hu
        obtain ⟨hok, ea2, el2⟩ := f2 hk
        have KU := Lib.hid fun w' hl => HW.out 1 true XU hXU 0 (by rw [hu]; rfl) w' hl
        have KK := Lib.hid fun w' hl => HW.out 1 false XK hXK 0 (by rw [hk]; rfl) w' hl
        have KL := Lib.hid fun w' hl => HW.out 1 false XL hXL 0 (by rw [hok]; rfl) w' hl
        rw [ea, el] at KU
        rw [ea2] at KL
        clear f1 f2 hu hk hok ea el ea2 el2
        clear hXU hXK hXL HW HM HLD HSW
        have hix := fun w' => run_index_agg (P := Try.prog) w' 62 3 5 #[.int .i64 0, .int .i64 5, .int .i64 6, .int .i64 6, .int .i64 4] .i64 .i64 1 Try.underlying62 Try.underlying3 (by kernel_rfl) (by omega) (by omega) (.int .i64 5) rfl
        go_wp2_with (first
          | (go_at_call 11; (with_reducible refine (KU.out _ lx).mono ?_); rintro e v1 ⟨AS1, AR1, sc1, rc1, rfl, _, _, z1⟩; clear KU c3; replace b3 := b3.keep z1; have p1 := Blk.new v1 32 #[.int .i64 XK.a, .int .i64 XK.l, .slice AS1 XU.s.length sc1, .slice AR1 XU.r.length rc1] [.int .i64 XK.a, .int .i64 XK.l, .slice AS1 XU.s.length sc1, .slice AR1 XU.r.length rc1] rfl; replace lr := Later.trans_ lr z1; replace lx := Later.trans_ lx z1; replace b3 := b3.keep (later1 v1 (.cells #[.int .i64 XK.a, .int .i64 XK.l, .slice AS1 XU.s.length sc1, .slice AR1 XU.r.length rc1] 32)); replace lr := Later.trans_ lr (later1 v1 (.cells #[.int .i64 XK.a, .int .i64 XK.l, .slice AS1 XU.s.length sc1, .slice AR1 XU.r.length rc1] 32)); replace lx := Later.trans_ lx (later1 v1 (.cells #[.int .i64 XK.a, .int .i64 XK.l, .slice AS1 XU.s.length sc1, .slice AR1 XU.r.length rc1] 32)); have c3 := b3.cell (j := 0) (v := .slice A n c) rfl)
          | (go_at_call 11; (with_reducible refine (KK.out _ lx).mono ?_); rintro e v2 ⟨AS2, AR2, sc2, rc2, rfl, _, _, z2⟩; clear KK c3; replace b3 := b3.keep z2; replace p1 := p1.keep z2; have p2 := Blk.new v2 32 #[.int .i64 XK.a, .int .i64 XK.l, .slice AS2 XK.s.length sc2, .slice AR2 XK.r.length rc2] [.int .i64 XK.a, .int .i64 XK.l, .slice AS2 XK.s.length sc2, .slice AR2 XK.r.length rc2] rfl; replace lr := Later.trans_ lr z2; replace lx := Later.trans_ lx z2; replace b3 := b3.keep (later1 v2 (.cells #[.int .i64 XK.a, .int .i64 XK.l, .slice AS2 XK.s.length sc2, .slice AR2 XK.r.length rc2] 32)); replace p1 := p1.keep (later1 v2 (.cells #[.int .i64 XK.a, .int .i64 XK.l, .slice AS2 XK.s.length sc2, .slice AR2 XK.r.length rc2] 32)); replace lr := Later.trans_ lr (later1 v2 (.cells #[.int .i64 XK.a, .int .i64 XK.l, .slice AS2 XK.s.length sc2, .slice AR2 XK.r.length rc2] 32)); replace lx := Later.trans_ lx (later1 v2 (.cells #[.int .i64 XK.a, .int .i64 XK.l, .slice AS2 XK.s.length sc2, .slice AR2 XK.r.length rc2] 32)); have c3 := b3.cell (j := 0) (v := .slice A n c) rfl)
          | (go_at_call 11; (with_reducible refine (KL.out _ lx).mono ?_); rintro e v3 ⟨AS3, AR3, sc3, rc3, rfl, _, _, z3⟩; clear KL c3; replace b3 := b3.keep z3; replace p1 := p1.keep z3; replace p2 := p2.keep z3; have p3 := Blk.new v3 32 #[.int .i64 XK.a, .int .i64 XL.l, .slice AS3 XL.s.length sc3, .slice AR3 XL.r.length rc3] [.int .i64 XK.a, .int .i64 XL.l, .slice AS3 XL.s.length sc3, .slice AR3 XL.r.length rc3] rfl; replace lr := Later.trans_ lr z3; replace lx := Later.trans_ lx z3; replace b3 := b3.keep (later1 v3 (.cells #[.int .i64 XK.a, .int .i64 XL.l, .slice AS3 XL.s.length sc3, .slice AR3 XL.r.length rc3] 32)); replace p1 := p1.keep (later1 v3 (.cells #[.int .i64 XK.a, .int .i64 XL.l, .slice AS3 XL.s.length sc3, .slice AR3 XL.r.length rc3] 32)); replace p2 := p2.keep (later1 v3 (.cells #[.int .i64 XK.a, .int .i64 XL.l, .slice AS3 XL.s.length sc3, .slice AR3 XL.r.length rc3] 32)); replace lr := Later.trans_ lr (later1 v3 (.cells #[.int .i64 XK.a, .int .i64 XL.l, .slice AS3 XL.s.length sc3, .slice AR3 XL.r.length rc3] 32)); replace lx := Later.trans_ lx (later1 v3 (.cells #[.int .i64 XK.a, .int .i64 XL.l, .slice AS3 XL.s.length sc3, .slice AR3 XL.r.length rc3] 32)); have c3 := b3.cell (j := 0) (v := .slice A n c) rfl; have cu0 := p1.cell (j := 0) (v := .int .i64 XK.a) rfl; have cu1 := p1.cell (j := 1) (v := .int .i64 XK.l) rfl; have ck0 := p2.cell (j := 0) (v := .int .i64 XK.a) rfl; have ck1 := p2.cell (j := 1) (v := .int .i64 XK.l) rfl; have cl0 := p3.cell (j := 0) (v := .int .i64 XK.a) rfl))
        go_roundw
        case rel => exact ⟨2, by omega, by omega, by first | rfl | go_num, lr⟩
        case measure => first | (simp [intOf]; done) | (simp [intOf]; omega)
      | false =>
        cases hk : XK.ok with
        | true =>
          obtain ⟨hok, ea2, el2⟩ := f2 hk
          have KU := Lib.hid fun w' hl => HW.out 1 true XU hXU 5 (by rw [hu]; rfl) w' hl
          have KK := Lib.hid fun w' hl => HW.out 1 false XK hXK 0 (by rw [hk]; rfl) w' hl
          have KL := Lib.hid fun w' hl => HW.out 1 false XL hXL 0 (by rw [hok]; rfl) w' hl
          rw [ea2] at KL
          clear f1 f2 hu hk hok ea2 el2
          clear hXU hXK hXL HW HM HLD HSW
          have hix := fun w' => run_index_agg (P := Try.prog) w' 62 3 5 #[.int .i64 0, .int .i64 5, .int .i64 6, .int .i64 6, .int .i64 4] .i64 .i64 1 Try.underlying62 Try.underlying3 (by kernel_rfl) (by omega) (by omega) (.int .i64 5) rfl
          go_wp2_with (first
            | (go_at_call 11; (with_reducible refine (KU.out _ lx).mono ?_); rintro e v1 ⟨AS1, AR1, sc1, rc1, rfl, _, _, z1⟩; clear KU c3; replace b3 := b3.keep z1; have p1 := Blk.new v1 32 #[.int .i64 XU.a, .int .i64 XU.l, .slice AS1 XU.s.length sc1, .slice AR1 XU.r.length rc1] [.int .i64 XU.a, .int .i64 XU.l, .slice AS1 XU.s.length sc1, .slice AR1 XU.r.length rc1] rfl; replace lr := Later.trans_ lr z1; replace lx := Later.trans_ lx z1; replace b3 := b3.keep (later1 v1 (.cells #[.int .i64 XU.a, .int .i64 XU.l, .slice AS1 XU.s.length sc1, .slice AR1 XU.r.length rc1] 32)); replace lr := Later.trans_ lr (later1 v1 (.cells #[.int .i64 XU.a, .int .i64 XU.l, .slice AS1 XU.s.length sc1, .slice AR1 XU.r.length rc1] 32)); replace lx := Later.trans_ lx (later1 v1 (.cells #[.int .i64 XU.a, .int .i64 XU.l, .slice AS1 XU.s.length sc1, .slice AR1 XU.r.length rc1] 32)); have c3 := b3.cell (j := 0) (v := .slice A n c) rfl)
            | (go_at_call 11; (with_reducible refine (KK.out _ lx).mono ?_); rintro e v2 ⟨AS2, AR2, sc2, rc2, rfl, _, _, z2⟩; clear KK c3; replace b3 := b3.keep z2; replace p1 := p1.keep z2; have p2 := Blk.new v2 32 #[.int .i64 XK.a, .int .i64 XK.l, .slice AS2 XK.s.length sc2, .slice AR2 XK.r.length rc2] [.int .i64 XK.a, .int .i64 XK.l, .slice AS2 XK.s.length sc2, .slice AR2 XK.r.length rc2] rfl; replace lr := Later.trans_ lr z2; replace lx := Later.trans_ lx z2; replace b3 := b3.keep (later1 v2 (.cells #[.int .i64 XK.a, .int .i64 XK.l, .slice AS2 XK.s.length sc2, .slice AR2 XK.r.length rc2] 32)); replace p1 := p1.keep (later1 v2 (.cells #[.int .i64 XK.a, .int .i64 XK.l, .slice AS2 XK.s.length sc2, .slice AR2 XK.r.length rc2] 32)); replace lr := Later.trans_ lr (later1 v2 (.cells #[.int .i64 XK.a, .int .i64 XK.l, .slice AS2 XK.s.length sc2, .slice AR2 XK.r.length rc2] 32)); replace lx := Later.trans_ lx (later1 v2 (.cells #[.int .i64 XK.a, .int .i64 XK.l, .slice AS2 XK.s.length sc2, .slice AR2 XK.r.length rc2] 32)); have c3 := b3.cell (j := 0) (v := .slice A n c) rfl)
            | (go_at_call 11; (with_reducible refine (KL.out _ lx).mono ?_); rintro e v3 ⟨AS3, AR3, sc3, rc3, rfl, _, _, z3⟩; clear KL c3; replace b3 := b3.keep z3; replace p1 := p1.keep z3; replace p2 := p2.keep z3; have p3 := Blk.new v3 32 #[.int .i64 XK.a, .int .i64 XL.l, .slice AS3 XL.s.length sc3, .slice AR3 XL.r.length rc3] [.int .i64 XK.a, .int .i64 XL.l, .slice AS3 XL.s.length sc3, .slice AR3 XL.r.length rc3] rfl; replace lr := Later.trans_ lr z3; replace lx := Later.trans_ lx z3; replace b3 := b3.keep (later1 v3 (.cells #[.int .i64 XK.a, .int .i64 XL.l, .slice AS3 XL.s.length sc3, .slice AR3 XL.r.length rc3] 32)); replace p1 := p1.keep (later1 v3 (.cells #[.int .i64 XK.a, .int .i64 XL.l, .slice AS3 XL.s.length sc3, .slice AR3 XL.r.length rc3] 32)); replace p2 := p2.keep (later1 v3 (.cells #[.int .i64 XK.a, .int .i64 XL.l, .slice AS3 XL.s.length sc3, .slice AR3 XL.r.length rc3] 32)); replace lr := Later.trans_ lr (later1 v3 (.cells #[.int .i64 XK.a, .int .i64 XL.l, .slice AS3 XL.s.length sc3, .slice AR3 XL.r.length rc3] 32)); replace lx := Later.trans_ lx (later1 v3 (.cells #[.int .i64 XK.a, .int .i64 XL.l, .slice AS3 XL.s.length sc3, .slice AR3 XL.r.length rc3] 32)); have c3 := b3.cell (j := 0) (v := .slice A n c) rfl; have cu0 := p1.cell (j := 0) (v := .int .i64 XU.a) rfl; have cu1 := p1.cell (j := 1) (v := .int .i64 XU.l) rfl; have ck0 := p2.cell (j := 0) (v := .int .i64 XK.a) rfl; have ck1 := p2.cell (j := 1) (v := .int .i64 XK.l) rfl; have cl0 := p3.cell (j := 0) (v := .int .i64 XK.a) rfl))
          go_roundw
          case rel => exact ⟨2, by omega, by omega, by first | rfl | go_num, lr⟩
          case measure => first | (simp [intOf]; done) | (simp [intOf]; omega)
        | false =>
          obtain ⟨cl, hcl⟩ : ∃ cl, (if XL.ok then 0 else Tm.cause 1) = cl := ⟨_, rfl⟩
          have KU := Lib.hid fun w' hl => HW.out 1 true XU hXU 5 (by rw [hu]; rfl) w' hl
          have KK := Lib.hid fun w' hl => HW.out 1 false XK hXK 5 (by rw [hk]; rfl) w' hl
          have KL := Lib.hid fun w' hl => HW.out 1 false XL hXL cl hcl w' hl
          clear f1 f2 hu hk hcl
          clear hXU hXK hXL HW HM HLD HSW
          have hix := fun w' => run_index_agg (P := Try.prog) w' 62 3 5 #[.int .i64 0, .int .i64 5, .int .i64 6, .int .i64 6, .int .i64 4] .i64 .i64 1 Try.underlying62 Try.underlying3 (by kernel_rfl) (by omega) (by omega) (.int .i64 5) rfl
          go_wp2_with (first
            | (go_at_call 11; (with_reducible refine (KU.out _ lx).mono ?_); rintro e v1 ⟨AS1, AR1, sc1, rc1, rfl, _, _, z1⟩; clear KU c3; replace b3 := b3.keep z1; have p1 := Blk.new v1 32 #[.int .i64 XU.a, .int .i64 XU.l, .slice AS1 XU.s.length sc1, .slice AR1 XU.r.length rc1] [.int .i64 XU.a, .int .i64 XU.l, .slice AS1 XU.s.length sc1, .slice AR1 XU.r.length rc1] rfl; replace lr := Later.trans_ lr z1; replace lx := Later.trans_ lx z1; replace b3 := b3.keep (later1 v1 (.cells #[.int .i64 XU.a, .int .i64 XU.l, .slice AS1 XU.s.length sc1, .slice AR1 XU.r.length rc1] 32)); replace lr := Later.trans_ lr (later1 v1 (.cells #[.int .i64 XU.a, .int .i64 XU.l, .slice AS1 XU.s.length sc1, .slice AR1 XU.r.length rc1] 32)); replace lx := Later.trans_ lx (later1 v1 (.cells #[.int .i64 XU.a, .int .i64 XU.l, .slice AS1 XU.s.length sc1, .slice AR1 XU.r.length rc1] 32)); have c3 := b3.cell (j := 0) (v := .slice A n c) rfl)
            | (go_at_call 11; (with_reducible refine (KK.out _ lx).mono ?_); rintro e v2 ⟨AS2, AR2, sc2, rc2, rfl, _, _, z2⟩; clear KK c3; replace b3 := b3.keep z2; replace p1 := p1.keep z2; have p2 := Blk.new v2 32 #[.int .i64 XK.a, .int .i64 XK.l, .slice AS2 XK.s.length sc2, .slice AR2 XK.r.length rc2] [.int .i64 XK.a, .int .i64 XK.l, .slice AS2 XK.s.length sc2, .slice AR2 XK.r.length rc2] rfl; replace lr := Later.trans_ lr z2; replace lx := Later.trans_ lx z2; replace b3 := b3.keep (later1 v2 (.cells #[.int .i64 XK.a, .int .i64 XK.l, .slice AS2 XK.s.length sc2, .slice AR2 XK.r.length rc2] 32)); replace p1 := p1.keep (later1 v2 (.cells #[.int .i64 XK.a, .int .i64 XK.l, .slice AS2 XK.s.length sc2, .slice AR2 XK.r.length rc2] 32)); replace lr := Later.trans_ lr (later1 v2 (.cells #[.int .i64 XK.a, .int .i64 XK.l, .slice AS2 XK.s.length sc2, .slice AR2 XK.r.length rc2] 32)); replace lx := Later.trans_ lx (later1 v2 (.cells #[.int .i64 XK.a, .int .i64 XK.l, .slice AS2 XK.s.length sc2, .slice AR2 XK.r.length rc2] 32)); have c3 := b3.cell (j := 0) (v := .slice A n c) rfl)
            | (go_at_call 11; (with_reducible refine (KL.out _ lx).mono ?_); rintro e v3 ⟨AS3, AR3, sc3, rc3, rfl, _, _, z3⟩; clear KL c3; replace b3 := b3.keep z3; replace p1 := p1.keep z3; replace p2 := p2.keep z3; have p3 := Blk.new v3 32 #[.int .i64 XL.a, .int .i64 XL.l, .slice AS3 XL.s.length sc3, .slice AR3 XL.r.length rc3] [.int .i64 XL.a, .int .i64 XL.l, .slice AS3 XL.s.length sc3, .slice AR3 XL.r.length rc3] rfl; replace lr := Later.trans_ lr z3; replace lx := Later.trans_ lx z3; replace b3 := b3.keep (later1 v3 (.cells #[.int .i64 XL.a, .int .i64 XL.l, .slice AS3 XL.s.length sc3, .slice AR3 XL.r.length rc3] 32)); replace p1 := p1.keep (later1 v3 (.cells #[.int .i64 XL.a, .int .i64 XL.l, .slice AS3 XL.s.length sc3, .slice AR3 XL.r.length rc3] 32)); replace p2 := p2.keep (later1 v3 (.cells #[.int .i64 XL.a, .int .i64 XL.l, .slice AS3 XL.s.length sc3, .slice AR3 XL.r.length rc3] 32)); replace lr := Later.trans_ lr (later1 v3 (.cells #[.int .i64 XL.a, .int .i64 XL.l, .slice AS3 XL.s.length sc3, .slice AR3 XL.r.length rc3] 32)); replace lx := Later.trans_ lx (later1 v3 (.cells #[.int .i64 XL.a, .int .i64 XL.l, .slice AS3 XL.s.length sc3, .slice AR3 XL.r.length rc3] 32)); have c3 := b3.cell (j := 0) (v := .slice A n c) rfl; have cu0 := p1.cell (j := 0) (v := .int .i64 XU.a) rfl; have cu1 := p1.cell (j := 1) (v := .int .i64 XU.l) rfl; have ck0 := p2.cell (j := 0) (v := .int .i64 XK.a) rfl; have ck1 := p2.cell (j := 1) (v := .int .i64 XK.l) rfl; have cl0 := p3.cell (j := 0) (v := .int .i64 XL.a) rfl))
          go_roundw
          case rel => exact ⟨2, by omega, by omega, by first | rfl | go_num, lr⟩
          case measure => first | (simp [intOf]; done) | (simp [intOf]; omega)
    · obtain ⟨XU, hXU⟩ : ∃ X, Tm.walk n b root va 2 true = X := ⟨_, rfl⟩
      obtain ⟨XK, hXK⟩ : ∃ X, Tm.walk n b root va 2 false = X := ⟨_, rfl⟩
      obtain ⟨XL, hXL⟩ : ∃ X, Tm.walk n b root va 1 false = X := ⟨_, rfl⟩
      have f1 := HM.out 2
      rw [hXU, hXK] at f1
      have f2 := HLD.out 2
      rw [hXK, hXL] at f2
      cases hu : XU.ok with
      | true =>
        obtain ⟨hk, ea, el⟩ := f1 hu
        obtain ⟨hok, ea2, el2⟩ := f2 hk
        have KU := Lib.hid fun w' hl => HW.out 2 true XU hXU 0 (by rw [hu]; rfl) w' hl
        have KK := Lib.hid fun w' hl => HW.out 2 false XK hXK 0 (by rw [hk]; rfl) w' hl
        have KL := Lib.hid fun w' hl => HW.out 1 false XL hXL 0 (by rw [hok]; rfl) w' hl
        rw [ea, el] at KU
        rw [ea2] at KL
        clear f1 f2 hu hk hok ea el ea2 el2
        clear hXU hXK hXL HW HM HLD HSW
        have hix := fun w' => run_index_agg (P := Try.prog) w' 62 3 5 #[.int .i64 0, .int .i64 5, .int .i64 6, .int .i64 6, .int .i64 4] .i64 .i64 2 Try.underlying62 Try.underlying3 (by kernel_rfl) (by omega) (by omega) (.int .i64 6) rfl
        go_wp2_with (first
          | (go_at_call 11; (with_reducible refine (KU.out _ lx).mono ?_); rintro e v1 ⟨AS1, AR1, sc1, rc1, rfl, _, _, z1⟩; clear KU c3; replace b3 := b3.keep z1; have p1 := Blk.new v1 32 #[.int .i64 XK.a, .int .i64 XK.l, .slice AS1 XU.s.length sc1, .slice AR1 XU.r.length rc1] [.int .i64 XK.a, .int .i64 XK.l, .slice AS1 XU.s.length sc1, .slice AR1 XU.r.length rc1] rfl; replace lr := Later.trans_ lr z1; replace lx := Later.trans_ lx z1; replace b3 := b3.keep (later1 v1 (.cells #[.int .i64 XK.a, .int .i64 XK.l, .slice AS1 XU.s.length sc1, .slice AR1 XU.r.length rc1] 32)); replace lr := Later.trans_ lr (later1 v1 (.cells #[.int .i64 XK.a, .int .i64 XK.l, .slice AS1 XU.s.length sc1, .slice AR1 XU.r.length rc1] 32)); replace lx := Later.trans_ lx (later1 v1 (.cells #[.int .i64 XK.a, .int .i64 XK.l, .slice AS1 XU.s.length sc1, .slice AR1 XU.r.length rc1] 32)); have c3 := b3.cell (j := 0) (v := .slice A n c) rfl)
          | (go_at_call 11; (with_reducible refine (KK.out _ lx).mono ?_); rintro e v2 ⟨AS2, AR2, sc2, rc2, rfl, _, _, z2⟩; clear KK c3; replace b3 := b3.keep z2; replace p1 := p1.keep z2; have p2 := Blk.new v2 32 #[.int .i64 XK.a, .int .i64 XK.l, .slice AS2 XK.s.length sc2, .slice AR2 XK.r.length rc2] [.int .i64 XK.a, .int .i64 XK.l, .slice AS2 XK.s.length sc2, .slice AR2 XK.r.length rc2] rfl; replace lr := Later.trans_ lr z2; replace lx := Later.trans_ lx z2; replace b3 := b3.keep (later1 v2 (.cells #[.int .i64 XK.a, .int .i64 XK.l, .slice AS2 XK.s.length sc2, .slice AR2 XK.r.length rc2] 32)); replace p1 := p1.keep (later1 v2 (.cells #[.int .i64 XK.a, .int .i64 XK.l, .slice AS2 XK.s.length sc2, .slice AR2 XK.r.length rc2] 32)); replace lr := Later.trans_ lr (later1 v2 (.cells #[.int .i64 XK.a, .int .i64 XK.l, .slice AS2 XK.s.length sc2, .slice AR2 XK.r.length rc2] 32)); replace lx := Later.trans_ lx (later1 v2 (.cells #[.int .i64 XK.a, .int .i64 XK.l, .slice AS2 XK.s.length sc2, .slice AR2 XK.r.length rc2] 32)); have c3 := b3.cell (j := 0) (v := .slice A n c) rfl)
          | (go_at_call 11; (with_reducible refine (KL.out _ lx).mono ?_); rintro e v3 ⟨AS3, AR3, sc3, rc3, rfl, _, _, z3⟩; clear KL c3; replace b3 := b3.keep z3; replace p1 := p1.keep z3; replace p2 := p2.keep z3; have p3 := Blk.new v3 32 #[.int .i64 XK.a, .int .i64 XL.l, .slice AS3 XL.s.length sc3, .slice AR3 XL.r.length rc3] [.int .i64 XK.a, .int .i64 XL.l, .slice AS3 XL.s.length sc3, .slice AR3 XL.r.length rc3] rfl; replace lr := Later.trans_ lr z3; replace lx := Later.trans_ lx z3; replace b3 := b3.keep (later1 v3 (.cells #[.int .i64 XK.a, .int .i64 XL.l, .slice AS3 XL.s.length sc3, .slice AR3 XL.r.length rc3] 32)); replace p1 := p1.keep (later1 v3 (.cells #[.int .i64 XK.a, .int .i64 XL.l, .slice AS3 XL.s.length sc3, .slice AR3 XL.r.length rc3] 32)); replace p2 := p2.keep (later1 v3 (.cells #[.int .i64 XK.a, .int .i64 XL.l, .slice AS3 XL.s.length sc3, .slice AR3 XL.r.length rc3] 32)); replace lr := Later.trans_ lr (later1 v3 (.cells #[.int .i64 XK.a, .int .i64 XL.l, .slice AS3 XL.s.length sc3, .slice AR3 XL.r.length rc3] 32)); replace lx := Later.trans_ lx (later1 v3 (.cells #[.int .i64 XK.a, .int .i64 XL.l, .slice AS3 XL.s.length sc3, .slice AR3 XL.r.length rc3] 32)); have c3 := b3.cell (j := 0) (v := .slice A n c) rfl; have cu0 := p1.cell (j := 0) (v := .int .i64 XK.a) rfl; have cu1 := p1.cell (j := 1) (v := .int .i64 XK.l) rfl; have ck0 := p2.cell (j := 0) (v := .int .i64 XK.a) rfl; have ck1 := p2.cell (j := 1) (v := .int .i64 XK.l) rfl; have cl0 := p3.cell (j := 0) (v := .int .i64 XK.a) rfl))
        go_roundw
        case rel => exact ⟨3, by omega, by omega, by first | rfl | go_num, lr⟩
        case measure => first | (simp [intOf]; done) | (simp [intOf]; omega)
      | false =>
        cases hk : XK.ok with
        | true =>
          obtain ⟨hok, ea2, el2⟩ := f2 hk
          have KU := Lib.hid fun w' hl => HW.out 2 true XU hXU 6 (by rw [hu]; rfl) w' hl
          have KK := Lib.hid fun w' hl => HW.out 2 false XK hXK 0 (by rw [hk]; rfl) w' hl
          have KL := Lib.hid fun w' hl => HW.out 1 false XL hXL 0 (by rw [hok]; rfl) w' hl
          rw [ea2] at KL
          clear f1 f2 hu hk hok ea2 el2
          clear hXU hXK hXL HW HM HLD HSW
          have hix := fun w' => run_index_agg (P := Try.prog) w' 62 3 5 #[.int .i64 0, .int .i64 5, .int .i64 6, .int .i64 6, .int .i64 4] .i64 .i64 2 Try.underlying62 Try.underlying3 (by kernel_rfl) (by omega) (by omega) (.int .i64 6) rfl
          go_wp2_with (first
            | (go_at_call 11; (with_reducible refine (KU.out _ lx).mono ?_); rintro e v1 ⟨AS1, AR1, sc1, rc1, rfl, _, _, z1⟩; clear KU c3; replace b3 := b3.keep z1; have p1 := Blk.new v1 32 #[.int .i64 XU.a, .int .i64 XU.l, .slice AS1 XU.s.length sc1, .slice AR1 XU.r.length rc1] [.int .i64 XU.a, .int .i64 XU.l, .slice AS1 XU.s.length sc1, .slice AR1 XU.r.length rc1] rfl; replace lr := Later.trans_ lr z1; replace lx := Later.trans_ lx z1; replace b3 := b3.keep (later1 v1 (.cells #[.int .i64 XU.a, .int .i64 XU.l, .slice AS1 XU.s.length sc1, .slice AR1 XU.r.length rc1] 32)); replace lr := Later.trans_ lr (later1 v1 (.cells #[.int .i64 XU.a, .int .i64 XU.l, .slice AS1 XU.s.length sc1, .slice AR1 XU.r.length rc1] 32)); replace lx := Later.trans_ lx (later1 v1 (.cells #[.int .i64 XU.a, .int .i64 XU.l, .slice AS1 XU.s.length sc1, .slice AR1 XU.r.length rc1] 32)); have c3 := b3.cell (j := 0) (v := .slice A n c) rfl)
            | (go_at_call 11; (with_reducible refine (KK.out _ lx).mono ?_); rintro e v2 ⟨AS2, AR2, sc2, rc2, rfl, _, _, z2⟩; clear KK c3; replace b3 := b3.keep z2; replace p1 := p1.keep z2; have p2 := Blk.new v2 32 #[.int .i64 XK.a, .int .i64 XK.l, .slice AS2 XK.s.length sc2, .slice AR2 XK.r.length rc2] [.int .i64 XK.a, .int .i64 XK.l, .slice AS2 XK.s.length sc2, .slice AR2 XK.r.length rc2] rfl; replace lr := Later.trans_ lr z2; replace lx := Later.trans_ lx z2; replace b3 := b3.keep (later1 v2 (.cells #[.int .i64 XK.a, .int .i64 XK.l, .slice AS2 XK.s.length sc2, .slice AR2 XK.r.length rc2] 32)); replace p1 := p1.keep (later1 v2 (.cells #[.int .i64 XK.a, .int .i64 XK.l, .slice AS2 XK.s.length sc2, .slice AR2 XK.r.length rc2] 32)); replace lr := Later.trans_ lr (later1 v2 (.cells #[.int .i64 XK.a, .int .i64 XK.l, .slice AS2 XK.s.length sc2, .slice AR2 XK.r.length rc2] 32)); replace lx := Later.trans_ lx (later1 v2 (.cells #[.int .i64 XK.a, .int .i64 XK.l, .slice AS2 XK.s.length sc2, .slice AR2 XK.r.length rc2] 32)); have c3 := b3.cell (j := 0) (v := .slice A n c) rfl)
            | (go_at_call 11; (with_reducible refine (KL.out _ lx).mono ?_); rintro e v3 ⟨AS3, AR3, sc3, rc3, rfl, _, _, z3⟩; clear KL c3; replace b3 := b3.keep z3; replace p1 := p1.keep z3; replace p2 := p2.keep z3; have p3 := Blk.new v3 32 #[.int .i64 XK.a, .int .i64 XL.l, .slice AS3 XL.s.length sc3, .slice AR3 XL.r.length rc3] [.int .i64 XK.a, .int .i64 XL.l, .slice AS3 XL.s.length sc3, .slice AR3 XL.r.length rc3] rfl; replace lr := Later.trans_ lr z3; replace lx := Later.trans_ lx z3; replace b3 := b3.keep (later1 v3 (.cells #[.int .i64 XK.a, .int .i64 XL.l, .slice AS3 XL.s.length sc3, .slice AR3 XL.r.length rc3] 32)); replace p1 := p1.keep (later1 v3 (.cells #[.int .i64 XK.a, .int .i64 XL.l, .slice AS3 XL.s.length sc3, .slice AR3 XL.r.length rc3] 32)); replace p2 := p2.keep (later1 v3 (.cells #[.int .i64 XK.a, .int .i64 XL.l, .slice AS3 XL.s.length sc3, .slice AR3 XL.r.length rc3] 32)); replace lr := Later.trans_ lr (later1 v3 (.cells #[.int .i64 XK.a, .int .i64 XL.l, .slice AS3 XL.s.length sc3, .slice AR3 XL.r.length rc3] 32)); replace lx := Later.trans_ lx (later1 v3 (.cells #[.int .i64 XK.a, .int .i64 XL.l, .slice AS3 XL.s.length sc3, .slice AR3 XL.r.length rc3] 32)); have c3 := b3.cell (j := 0) (v := .slice A n c) rfl; have cu0 := p1.cell (j := 0) (v := .int .i64 XU.a) rfl; have cu1 := p1.cell (j := 1) (v := .int .i64 XU.l) rfl; have ck0 := p2.cell (j := 0) (v := .int .i64 XK.a) rfl; have ck1 := p2.cell (j := 1) (v := .int .i64 XK.l) rfl; have cl0 := p3.cell (j := 0) (v := .int .i64 XK.a) rfl))
          go_roundw
          case rel => exact ⟨3, by omega, by omega, by first | rfl | go_num, lr⟩
          case measure => first | (simp [intOf]; done) | (simp [intOf]; omega)
        | false =>
          obtain ⟨cl, hcl⟩ : ∃ cl, (if XL.ok then 0 else Tm.cause 1) = cl := ⟨_, rfl⟩
          have KU := Lib.hid fun w' hl => HW.out 2 true XU hXU 6 (by rw [hu]; rfl) w' hl
          have KK := Lib.hid fun w' hl => HW.out 2 false XK hXK 6 (by rw [hk]; rfl) w' hl
          have KL := Lib.hid fun w' hl => HW.out 1 false XL hXL cl hcl w' hl
          clear f1 f2 hu hk hcl
          clear hXU hXK hXL HW HM HLD HSW
          have hix := fun w' => run_index_agg (P := Try.prog) w' 62 3 5 #[.int .i64 0, .int .i64 5, .int .i64 6, .int .i64 6, .int .i64 4] .i64 .i64 2 Try.underlying62 Try.underlying3 (by kernel_rfl) (by omega) (by omega) (.int .i64 6) rfl
          go_wp2_with (first
            | (go_at_call 11; (with_reducible refine (KU.out _ lx).mono ?_); rintro e v1 ⟨AS1, AR1, sc1, rc1, rfl, _, _, z1⟩; clear KU c3; replace b3 := b3.keep z1; have p1 := Blk.new v1 32 #[.int .i64 XU.a, .int .i64 XU.l, .slice AS1 XU.s.length sc1, .slice AR1 XU.r.length rc1] [.int .i64 XU.a, .int .i64 XU.l, .slice AS1 XU.s.length sc1, .slice AR1 XU.r.length rc1] rfl; replace lr := Later.trans_ lr z1; replace lx := Later.trans_ lx z1; replace b3 := b3.keep (later1 v1 (.cells #[.int .i64 XU.a, .int .i64 XU.l, .slice AS1 XU.s.length sc1, .slice AR1 XU.r.length rc1] 32)); replace lr := Later.trans_ lr (later1 v1 (.cells #[.int .i64 XU.a, .int .i64 XU.l, .slice AS1 XU.s.length sc1, .slice AR1 XU.r.length rc1] 32)); replace lx := Later.trans_ lx (later1 v1 (.cells #[.int .i64 XU.a, .int .i64 XU.l, .slice AS1 XU.s.length sc1, .slice AR1 XU.r.length rc1] 32)); have c3 := b3.cell (j := 0) (v := .slice A n c) rfl)
            | (go_at_call 11; (with_reducible refine (KK.out _ lx).mono ?_); rintro e v2 ⟨AS2, AR2, sc2, rc2, rfl, _, _, z2⟩; clear KK c3; replace b3 := b3.keep z2; replace p1 := p1.keep z2; have p2 := Blk.new v2 32 #[.int .i64 XK.a, .int .i64 XK.l, .slice AS2 XK.s.length sc2, .slice AR2 XK.r.length rc2] [.int .i64 XK.a, .int .i64 XK.l, .slice AS2 XK.s.length sc2, .slice AR2 XK.r.length rc2] rfl; replace lr := Later.trans_ lr z2; replace lx := Later.trans_ lx z2; replace b3 := b3.keep (later1 v2 (.cells #[.int .i64 XK.a, .int .i64 XK.l, .slice AS2 XK.s.length sc2, .slice AR2 XK.r.length rc2] 32)); replace p1 := p1.keep (later1 v2 (.cells #[.int .i64 XK.a, .int .i64 XK.l, .slice AS2 XK.s.length sc2, .slice AR2 XK.r.length rc2] 32)); replace lr := Later.trans_ lr (later1 v2 (.cells #[.int .i64 XK.a, .int .i64 XK.l, .slice AS2 XK.s.length sc2, .slice AR2 XK.r.length rc2] 32)); replace lx := Later.trans_ lx (later1 v2 (.cells #[.int .i64 XK.a, .int .i64 XK.l, .slice AS2 XK.s.length sc2, .slice AR2 XK.r.length rc2] 32)); have c3 := b3.cell (j := 0) (v := .slice A n c) rfl)
            | (go_at_call 11; (with_reducible refine (KL.out _ lx).mono ?_); rintro e v3 ⟨AS3, AR3, sc3, rc3, rfl, _, _, z3⟩; clear KL c3; replace b3 := b3.keep z3; replace p1 := p1.keep z3; replace p2 := p2.keep z3; have p3 := Blk.new v3 32 #[.int .i64 XL.a, .int .i64 XL.l, .slice AS3 XL.s.length sc3, .slice AR3 XL.r.length rc3] [.int .i64 XL.a, .int .i64 XL.l, .slice AS3 XL.s.length sc3, .slice AR3 XL.r.length rc3] rfl; replace lr := Later.trans_ lr z3; replace lx := Later.trans_ lx z3; replace b3 := b3.keep (later1 v3 (.cells #[.int .i64 XL.a, .int .i64 XL.l, .slice AS3 XL.s.length sc3, .slice AR3 XL.r.length rc3] 32)); replace p1 := p1.keep (later1 v3 (.cells #[.int .i64 XL.a, .int .i64 XL.l, .slice AS3 XL.s.length sc3, .slice AR3 XL.r.length rc3] 32)); replace p2 := p2.keep (later1 v3 (.cells #[.int .i64 XL.a, .int .i64 XL.l, .slice AS3 XL.s.length sc3, .slice AR3 XL.r.length rc3] 32)); replace lr := Later.trans_ lr (later1 v3 (.cells #[.int .i64 XL.a, .int .i64 XL.l, .slice AS3 XL.s.length sc3, .slice AR3 XL.r.length rc3] 32)); replace lx := Later.trans_ lx (later1 v3 (.cells #[.int .i64 XL.a, .int .i64 XL.l, .slice AS3 XL.s.length sc3, .slice AR3 XL.r.length rc3] 32)); have c3 := b3.cell (j := 0) (v := .slice A n c) rfl; have cu0 := p1.cell (j := 0) (v := .int .i64 XU.a) rfl; have cu1 := p1.cell (j := 1) (v := .int .i64 XU.l) rfl; have ck0 := p2.cell (j := 0) (v := .int .i64 XK.a) rfl; have ck1 := p2.cell (j := 1) (v := .int .i64 XK.l) rfl; have cl0 := p3.cell (j := 0) (v := .int .i64 XL.a) rfl))
          go_roundw
          case rel => exact ⟨3, by omega, by omega, by first | rfl | go_num, lr⟩
          case measure => first | (simp [intOf]; done) | (simp [intOf]; omega)
    · obtain ⟨XU, hXU⟩ : ∃ X, Tm.walk n b root va 3 true = X := ⟨_, rfl⟩
      obtain ⟨XK, hXK⟩ : ∃ X, Tm.walk n b root va 3 false = X := ⟨_, rfl⟩
      obtain ⟨XL, hXL⟩ : ∃ X, Tm.walk n b root va 1 false = X := ⟨_, rfl⟩
      have f1 := HM.out 3
      rw [hXU, hXK] at f1
      have f2 := HLD.out 3
      rw [hXK, hXL] at f2
      cases hu : XU.ok with
      | true =>
        obtain ⟨hk, ea, el⟩ := f1 hu
        obtain ⟨hok, ea2, el2⟩ := f2 hk
        have KU := Lib.hid fun w' hl => HW.out 3 true XU hXU 0 (by rw [hu]; rfl) w' hl
        have KK := Lib.hid fun w' hl => HW.out 3 false XK hXK 0 (by rw [hk]; rfl) w' hl
        have KL := Lib.hid fun w' hl => HW.out 1 false XL hXL 0 (by rw [hok]; rfl) w' hl
        rw [ea, el] at KU
        rw [ea2] at KL
        clear f1 f2 hu hk hok ea el ea2 el2
        clear hXU hXK hXL HW HM HLD HSW
        have hix := fun w' => run_index_agg (P := Try.prog) w' 62 3 5 #[.int .i64 0, .int .i64 5, .int .i64 6, .int .i64 6, .int .i64 4] .i64 .i64 3 Try.underlying62 Try.underlying3 (by kernel_rfl) (by omega) (by omega) (.int .i64 6) rfl
        go_wp2_with (first
          | (go_at_call 11; (with_reducible refine (KU.out _ lx).mono ?_); rintro e v1 ⟨AS1, AR1, sc1, rc1, rfl, _, _, z1⟩; clear KU c3; replace b3 := b3.keep z1; have p1 := Blk.new v1 32 #[.int .i64 XK.a, .int .i64 XK.l, .slice AS1 XU.s.length sc1, .slice AR1 XU.r.length rc1] [.int .i64 XK.a, .int .i64 XK.l, .slice AS1 XU.s.length sc1, .slice AR1 XU.r.length rc1] rfl; replace lr := Later.trans_ lr z1; replace lx := Later.trans_ lx z1; replace b3 := b3.keep (later1 v1 (.cells #[.int .i64 XK.a, .int .i64 XK.l, .slice AS1 XU.s.length sc1, .slice AR1 XU.r.length rc1] 32)); replace lr := Later.trans_ lr (later1 v1 (.cells #[.int .i64 XK.a, .int .i64 XK.l, .slice AS1 XU.s.length sc1, .slice AR1 XU.r.length rc1] 32)); replace lx := Later.trans_ lx (later1 v1 (.cells #[.int .i64 XK.a, .int .i64 XK.l, .slice AS1 XU.s.length sc1, .slice AR1 XU.r.length rc1] 32)); have c3 := b3.cell (j := 0) (v := .slice A n c) rfl)
          | (go_at_call 11; (with_reducible refine (KK.out _ lx).mono ?_); rintro e v2 ⟨AS2, AR2, sc2, rc2, rfl, _, _, z2⟩; clear KK c3; replace b3 := b3.keep z2; replace p1 := p1.keep z2; have p2 := Blk.new v2 32 #[.int .i64 XK.a, .int .i64 XK.l, .slice AS2 XK.s.length sc2, .slice AR2 XK.r.length rc2] [.int .i64 XK.a, .int .i64 XK.l, .slice AS2 XK.s.length sc2, .slice AR2 XK.r.length rc2] rfl; replace lr := Later.trans_ lr z2; replace lx := Later.trans_ lx z2; replace b3 := b3.keep (later1 v2 (.cells #[.int .i64 XK.a, .int .i64 XK.l, .slice AS2 XK.s.length sc2, .slice AR2 XK.r.length rc2] 32)); replace p1 := p1.keep (later1 v2 (.cells #[.int .i64 XK.a, .int .i64 XK.l, .slice AS2 XK.s.length sc2, .slice AR2 XK.r.length rc2] 32)); replace lr := Later.trans_ lr (later1 v2 (.cells #[.int .i64 XK.a, .int .i64 XK.l, .slice AS2 XK.s.length sc2, .slice AR2 XK.r.length rc2] 32)); replace lx := Later.trans_ lx (later1 v2 (.cells #[.int .i64 XK.a, .int .i64 XK.l, .slice AS2 XK.s.length sc2, .slice AR2 XK.r.length rc2] 32)); have c3 := b3.cell (j := 0) (v := .slice A n c) rfl)
          | (go_at_call 11; (with_reducible refine (KL.out _ lx).mono ?_); rintro e v3 ⟨AS3, AR3, sc3, rc3, rfl, _, _, z3⟩; clear KL c3; replace b3 := b3.keep z3; replace p1 := p1.keep z3; replace p2 := p2.keep z3; have p3 := Blk.new v3 32 #[.int .i64 XK.a, .int .i64 XL.l, .slice AS3 XL.s.length sc3, .slice AR3 XL.r.length rc3] [.int .i64 XK.a, .int .i64 XL.l, .slice AS3 XL.s.length sc3, .slice AR3 XL.r.length rc3] rfl; replace lr := Later.trans_ lr z3; replace lx := Later.trans_ lx z3; replace b3 := b3.keep (later1 v3 (.cells #[.int .i64 XK.a, .int .i64 XL.l, .slice AS3 XL.s.length sc3, .slice AR3 XL.r.length rc3] 32)); replace p1 := p1.keep (later1 v3 (.cells #[.int .i64 XK.a, .int .i64 XL.l, .slice AS3 XL.s.length sc3, .slice AR3 XL.r.length rc3] 32)); replace p2 := p2.keep (later1 v3 (.cells #[.int .i64 XK.a, .int .i64 XL.l, .slice AS3 XL.s.length sc3, .slice AR3 XL.r.length rc3] 32)); replace lr := Later.trans_ lr (later1 v3 (.cells #[.int .i64 XK.a, .int .i64 XL.l, .slice AS3 XL.s.length sc3, .slice AR3 XL.r.length rc3] 32)); replace lx := Later.trans_ lx (later1 v3 (.cells #[.int .i64 XK.a, .int .i64 XL.l, .slice AS3 XL.s.length sc3, .slice AR3 XL.r.length rc3] 32)); have c3 := b3.cell (j := 0) (v := .slice A n c) rfl; have cu0 := p1.cell (j := 0) (v := .int .i64 XK.a) rfl; have cu1 := p1.cell (j := 1) (v := .int .i64 XK.l) rfl; have ck0 := p2.cell (j := 0) (v := .int .i64 XK.a) rfl; have ck1 := p2.cell (j := 1) (v := .int .i64 XK.l) rfl; have cl0 := p3.cell (j := 0) (v := .int .i64 XK.a) rfl))
        go_roundw
        case rel => exact ⟨4, by omega, by omega, by first | rfl | go_num, lr⟩
        case measure => first | (simp [intOf]; done) | (simp [intOf]; omega)
      | false =>
        cases hk : XK.ok with
        | true =>
          obtain ⟨hok, ea2, el2⟩ := f2 hk
          have KU := Lib.hid fun w' hl => HW.out 3 true XU hXU 6 (by rw [hu]; rfl) w' hl
          have KK := Lib.hid fun w' hl => HW.out 3 false XK hXK 0 (by rw [hk]; rfl) w' hl
          have KL := Lib.hid fun w' hl => HW.out 1 false XL hXL 0 (by rw [hok]; rfl) w' hl
          rw [ea2] at KL
          clear f1 f2 hu hk hok ea2 el2
          clear hXU hXK hXL HW HM HLD HSW
          have hix := fun w' => run_index_agg (P := Try.prog) w' 62 3 5 #[.int .i64 0, .int .i64 5, .int .i64 6, .int .i64 6, .int .i64 4] .i64 .i64 3 Try.underlying62 Try.underlying3 (by kernel_rfl) (by omega) (by omega) (.int .i64 6) rfl
          go_wp2_with (first
            | (go_at_call 11; (with_reducible refine (KU.out _ lx).mono ?_); rintro e v1 ⟨AS1, AR1, sc1, rc1, rfl, _, _, z1⟩; clear KU c3; replace b3 := b3.keep z1; have p1 := Blk.new v1 32 #[.int .i64 XU.a, .int .i64 XU.l, .slice AS1 XU.s.length sc1, .slice AR1 XU.r.length rc1] [.int .i64 XU.a, .int .i64 XU.l, .slice AS1 XU.s.length sc1, .slice AR1 XU.r.length rc1] rfl; replace lr := Later.trans_ lr z1; replace lx := Later.trans_ lx z1; replace b3 := b3.keep (later1 v1 (.cells #[.int .i64 XU.a, .int .i64 XU.l, .slice AS1 XU.s.length sc1, .slice AR1 XU.r.length rc1] 32)); replace lr := Later.trans_ lr (later1 v1 (.cells #[.int .i64 XU.a, .int .i64 XU.l, .slice AS1 XU.s.length sc1, .slice AR1 XU.r.length rc1] 32)); replace lx := Later.trans_ lx (later1 v1 (.cells #[.int .i64 XU.a, .int .i64 XU.l, .slice AS1 XU.s.length sc1, .slice AR1 XU.r.length rc1] 32)); have c3 := b3.cell (j := 0) (v := .slice A n c) rfl)
            | (go_at_call 11; (with_reducible refine (KK.out _ lx).mono ?_); rintro e v2 ⟨AS2, AR2, sc2, rc2, rfl, _, _, z2⟩; clear KK c3; replace b3 := b3.keep z2; replace p1 := p1.keep z2; have p2 := Blk.new v2 32 #[.int .i64 XK.a, .int .i64 XK.l, .slice AS2 XK.s.length sc2, .slice AR2 XK.r.length rc2] [.int .i64 XK.a, .int .i64 XK.l, .slice AS2 XK.s.length sc2, .slice AR2 XK.r.length rc2] rfl; replace lr := Later.trans_ lr z2; replace lx := Later.trans_ lx z2; replace b3 := b3.keep (later1 v2 (.cells #[.int .i64 XK.a, .int .i64 XK.l, .slice AS2 XK.s.length sc2, .slice AR2 XK.r.length rc2] 32)); replace p1 := p1.keep (later1 v2 (.cells #[.int .i64 XK.a, .int .i64 XK.l, .slice AS2 XK.s.length sc2, .slice AR2 XK.r.length rc2] 32)); replace lr := Later.trans_ lr (later1 v2 (.cells #[.int .i64 XK.a, .int .i64 XK.l, .slice AS2 XK.s.length sc2, .slice AR2 XK.r.length rc2] 32)); replace lx := Later.trans_ lx (later1 v2 (.cells #[.int .i64 XK.a, .int .i64 XK.l, .slice AS2 XK.s.length sc2, .slice AR2 XK.r.length rc2] 32)); have c3 := b3.cell (j := 0) (v := .slice A n c) rfl)
            | (go_at_call 11; (with_reducible refine (KL.out _ lx).mono ?_); rintro e v3 ⟨AS3, AR3, sc3, rc3, rfl, _, _, z3⟩; clear KL c3; replace b3 := b3.keep z3; replace p1 := p1.keep z3; replace p2 := p2.keep z3; have p3 := Blk.new v3 32 #[.int .i64 XK.a, .int .i64 XL.l, .slice AS3 XL.s.length sc3, .slice AR3 XL.r.length rc3] [.int .i64 XK.a, .int .i64 XL.l, .slice AS3 XL.s.length sc3, .slice AR3 XL.r.length rc3] rfl; replace lr := Later.trans_ lr z3; replace lx := Later.trans_ lx z3; replace b3 := b3.keep (later1 v3 (.cells #[.int .i64 XK.a, .int .i64 XL.l, .slice AS3 XL.s.length sc3, .slice AR3 XL.r.length rc3] 32)); replace p1 := p1.keep (later1 v3 (.cells #[.int .i64 XK.a, .int .i64 XL.l, .slice AS3 XL.s.length sc3, .slice AR3 XL.r.length rc3] 32)); replace p2 := p2.keep (later1 v3 (.cells #[.int .i64 XK.a, .int .i64 XL.l, .slice AS3 XL.s.length sc3, .slice AR3 XL.r.length rc3] 32)); replace lr := Later.trans_ lr (later1 v3 (.cells #[.int .i64 XK.a, .int .i64 XL.l, .slice AS3 XL.s.length sc3, .slice AR3 XL.r.length rc3] 32)); replace lx := Later.trans_ lx (later1 v3 (.cells #[.int .i64 XK.a, .int .i64 XL.l, .slice AS3 XL.s.length sc3, .slice AR3 XL.r.length rc3] 32)); have c3 := b3.cell (j := 0) (v := .slice A n c) rfl; have cu0 := p1.cell (j := 0) (v := .int .i64 XU.a) rfl; have cu1 := p1.cell (j := 1) (v := .int .i64 XU.l) rfl; have ck0 := p2.cell (j := 0) (v := .int .i64 XK.a) rfl; have ck1 := p2.cell (j := 1) (v := .int .i64 XK.l) rfl; have cl0 := p3.cell (j := 0) (v := .int .i64 XK.a) rfl))
          go_roundw
          case rel => exact ⟨4, by omega, by omega, by first | rfl | go_num, lr⟩
          case measure => first | (simp [intOf]; done) | (simp [intOf]; omega)
        | false =>
          obtain ⟨cl, hcl⟩ : ∃ cl, (if XL.ok then 0 else Tm.cause 1) = cl := ⟨_, rfl⟩
          have KU := Lib.hid fun w' hl => HW.out 3 true XU hXU 6 (by rw [hu]; rfl) w' hl
          have KK := Lib.hid fun w' hl => HW.out 3 false XK hXK 6 (by rw [hk]; rfl) w' hl
          have KL := Lib.hid fun w' hl => HW.out 1 false XL hXL cl hcl w' hl
          clear f1 f2 hu hk hcl
          clear hXU hXK hXL HW HM HLD HSW
          have hix := fun w' => run_index_agg (P := Try.prog) w' 62 3 5 #[.int .i64 0, .int .i64 5, .int .i64 6, .int .i64 6, .int .i64 4] .i64 .i64 3 Try.underlying62 Try.underlying3 (by kernel_rfl) (by omega) (by omega) (.int .i64 6) rfl
          go_wp2_with (first
            | (go_at_call 11; (with_reducible refine (KU.out _ lx).mono ?_); rintro e v1 ⟨AS1, AR1, sc1, rc1, rfl, _, _, z1⟩; clear KU c3; replace b3 := b3.keep z1; have p1 := Blk.new v1 32 #[.int .i64 XU.a, .int .i64 XU.l, .slice AS1 XU.s.length sc1, .slice AR1 XU.r.length rc1] [.int .i64 XU.a, .int .i64 XU.l, .slice AS1 XU.s.length sc1, .slice AR1 XU.r.length rc1] rfl; replace lr := Later.trans_ lr z1; replace lx := Later.trans_ lx z1; replace b3 := b3.keep (later1 v1 (.cells #[.int .i64 XU.a, .int .i64 XU.l, .slice AS1 XU.s.length sc1, .slice AR1 XU.r.length rc1] 32)); replace lr := Later.trans_ lr (later1 v1 (.cells #[.int .i64 XU.a, .int .i64 XU.l, .slice AS1 XU.s.length sc1, .slice AR1 XU.r.length rc1] 32)); replace lx := Later.trans_ lx (later1 v1 (.cells #[.int .i64 XU.a, .int .i64 XU.l, .slice AS1 XU.s.length sc1, .slice AR1 XU.r.length rc1] 32)); have c3 := b3.cell (j := 0) (v := .slice A n c) rfl)
            | (go_at_call 11; (with_reducible refine (KK.out _ lx).mono ?_); rintro e v2 ⟨AS2, AR2, sc2, rc2, rfl, _, _, z2⟩; clear KK c3; replace b3 := b3.keep z2; replace p1 := p1.keep z2; have p2 := Blk.new v2 32 #[.int .i64 XK.a, .int .i64 XK.l, .slice AS2 XK.s.length sc2, .slice AR2 XK.r.length rc2] [.int .i64 XK.a, .int .i64 XK.l, .slice AS2 XK.s.length sc2, .slice AR2 XK.r.length rc2] rfl; replace lr := Later.trans_ lr z2; replace lx := Later.trans_ lx z2; replace b3 := b3.keep (later1 v2 (.cells #[.int .i64 XK.a, .int .i64 XK.l, .slice AS2 XK.s.length sc2, .slice AR2 XK.r.length rc2] 32)); replace p1 := p1.keep (later1 v2 (.cells #[.int .i64 XK.a, .int .i64 XK.l, .slice AS2 XK.s.length sc2, .slice AR2 XK.r.length rc2] 32)); replace lr := Later.trans_ lr (later1 v2 (.cells #[.int .i64 XK.a, .int .i64 XK.l, .slice AS2 XK.s.length sc2, .slice AR2 XK.r.length rc2] 32)); replace lx := Later.trans_ lx (later1 v2 (.cells #[.int .i64 XK.a, .int .i64 XK.l, .slice AS2 XK.s.length sc2, .slice AR2 XK.r.length rc2] 32)); have c3 := b3.cell (j := 0) (v := .slice A n c) rfl)
            | (go_at_call 11; (with_reducible refine (KL.out _ lx).mono ?_); rintro e v3 ⟨AS3, AR3, sc3, rc3, rfl, _, _, z3⟩; clear KL c3; replace b3 := b3.keep z3; replace p1 := p1.keep z3; replace p2 := p2.keep z3; have p3 := Blk.new v3 32 #[.int .i64 XL.a, .int .i64 XL.l, .slice AS3 XL.s.length sc3, .slice AR3 XL.r.length rc3] [.int .i64 XL.a, .int .i64 XL.l, .slice AS3 XL.s.length sc3, .slice AR3 XL.r.length rc3] rfl; replace lr := Later.trans_ lr z3; replace lx := Later.trans_ lx z3; replace b3 := b3.keep (later1 v3 (.cells #[.int .i64 XL.a, .int .i64 XL.l, .slice AS3 XL.s.length sc3, .slice AR3 XL.r.length rc3] 32)); replace p1 := p1.keep (later1 v3 (.cells #[.int .i64 XL.a, .int .i64 XL.l, .slice AS3 XL.s.length sc3, .slice AR3 XL.r.length rc3] 32)); replace p2 := p2.keep (later1 v3 (.cells #[.int .i64 XL.a, .int .i64 XL.l, .slice AS3 XL.s.length sc3, .slice AR3 XL.r.length rc3] 32)); replace lr := Later.trans_ lr (later1 v3 (.cells #[.int .i64 XL.a, .int .i64 XL.l, .slice AS3 XL.s.length sc3, .slice AR3 XL.r.length rc3] 32)); replace lx := Later.trans_ lx (later1 v3 (.cells #[.int .i64 XL.a, .int .i64 XL.l, .slice AS3 XL.s.length sc3, .slice AR3 XL.r.length rc3] 32)); have c3 := b3.cell (j := 0) (v := .slice A n c) rfl; have cu0 := p1.cell (j := 0) (v := .int .i64 XU.a) rfl; have cu1 := p1.cell (j := 1) (v := .int .i64 XU.l) rfl; have ck0 := p2.cell (j := 0) (v := .int .i64 XK.a) rfl; have ck1 := p2.cell (j := 1) (v := .int .i64 XK.l) rfl; have cl0 := p3.cell (j := 0) (v := .int .i64 XL.a) rfl))
          go_roundw
          case rel => exact ⟨4, by omega, by omega, by first | rfl | go_num, lr⟩
          case measure => first | (simp [intOf]; done) | (simp [intOf]; omega)
    · obtain ⟨XU, hXU⟩ : ∃ X, Tm.walk n b root va 4 true = X := ⟨_, rfl⟩
      obtain ⟨XK, hXK⟩ : ∃ X, Tm.walk n b root va 4 false = X := ⟨_, rfl⟩
      obtain ⟨XL, hXL⟩ : ∃ X, Tm.walk n b root va 1 false = X := ⟨_, rfl⟩
      have f1 := HM.out 4
      rw [hXU, hXK] at f1
      have f2 := HLD.out 4
      rw [hXK, hXL] at f2
      cases hu : XU.ok with
      | true =>
        obtain ⟨hk, ea, el⟩ := f1 hu
        obtain ⟨hok, ea2, el2⟩ := f2 hk
        have KU := Lib.hid fun w' hl => HW.out 4 true XU hXU 0 (by rw [hu]; rfl) w' hl
        have KK := Lib.hid fun w' hl => HW.out 4 false XK hXK 0 (by rw [hk]; rfl) w' hl
        have KL := Lib.hid fun w' hl => HW.out 1 false XL hXL 0 (by rw [hok]; rfl) w' hl
        rw [ea, el] at KU
        rw [ea2] at KL
        clear f1 f2 hu hk hok ea el ea2 el2
        clear hXU hXK hXL HW HM HLD HSW
        have hix := fun w' => run_index_agg (P := Try.prog) w' 62 3 5 #[.int .i64 0, .int .i64 5, .int .i64 6, .int .i64 6, .int .i64 4] .i64 .i64 4 Try.underlying62 Try.underlying3 (by kernel_rfl) (by omega) (by omega) (.int .i64 4) rfl
        go_wp2_with (first
          | (go_at_call 11; (with_reducible refine (KU.out _ lx).mono ?_); rintro e v1 ⟨AS1, AR1, sc1, rc1, rfl, _, _, z1⟩; clear KU c3; replace b3 := b3.keep z1; have p1 := Blk.new v1 32 #[.int .i64 XK.a, .int .i64 XK.l, .slice AS1 XU.s.length sc1, .slice AR1 XU.r.length rc1] [.int .i64 XK.a, .int .i64 XK.l, .slice AS1 XU.s.length sc1, .slice AR1 XU.r.length rc1] rfl; replace lr := Later.trans_ lr z1; replace lx := Later.trans_ lx z1; replace b3 := b3.keep (later1 v1 (.cells #[.int .i64 XK.a, .int .i64 XK.l, .slice AS1 XU.s.length sc1, .slice AR1 XU.r.length rc1] 32)); replace lr := Later.trans_ lr (later1 v1 (.cells #[.int .i64 XK.a, .int .i64 XK.l, .slice AS1 XU.s.length sc1, .slice AR1 XU.r.length rc1] 32)); replace lx := Later.trans_ lx (later1 v1 (.cells #[.int .i64 XK.a, .int .i64 XK.l, .slice AS1 XU.s.length sc1, .slice AR1 XU.r.length rc1] 32)); have c3 := b3.cell (j := 0) (v := .slice A n c) rfl)
          | (go_at_call 11; (with_reducible refine (KK.out _ lx).mono ?_); rintro e v2 ⟨AS2, AR2, sc2, rc2, rfl, _, _, z2⟩; clear KK c3; replace b3 := b3.keep z2; replace p1 := p1.keep z2; have p2 := Blk.new v2 32 #[.int .i64 XK.a, .int .i64 XK.l, .slice AS2 XK.s.length sc2, .slice AR2 XK.r.length rc2] [.int .i64 XK.a, .int .i64 XK.l, .slice AS2 XK.s.length sc2, .slice AR2 XK.r.length rc2] rfl; replace lr := Later.trans_ lr z2; replace lx := Later.trans_ lx z2; replace b3 := b3.keep (later1 v2 (.cells #[.int .i64 XK.a, .int .i64 XK.l, .slice AS2 XK.s.length sc2, .slice AR2 XK.r.length rc2] 32)); replace p1 := p1.keep (later1 v2 (.cells #[.int .i64 XK.a, .int .i64 XK.l, .slice AS2 XK.s.length sc2, .slice AR2 XK.r.length rc2] 32)); replace lr := Later.trans_ lr (later1 v2 (.cells #[.int .i64 XK.a, .int .i64 XK.l, .slice AS2 XK.s.length sc2, .slice AR2 XK.r.length rc2] 32)); replace lx := Later.trans_ lx (later1 v2 (.cells #[.int .i64 XK.a, .int .i64 XK.l, .slice AS2 XK.s.length sc2, .slice AR2 XK.r.length rc2] 32)); have c3 := b3.cell (j := 0) (v := .slice A n c) rfl)
          | (go_at_call 11; (with_reducible refine (KL.out _ lx).mono ?_); rintro e v3 ⟨AS3, AR3, sc3, rc3, rfl, _, _, z3⟩; clear KL c3; replace b3 := b3.keep z3; replace p1 := p1.keep z3; replace p2 := p2.keep z3; have p3 := Blk.new v3 32 #[.int .i64 XK.a, .int .i64 XL.l, .slice AS3 XL.s.length sc3, .slice AR3 XL.r.length rc3] [.int .i64 XK.a, .int .i64 XL.l, .slice AS3 XL.s.length sc3, .slice AR3 XL.r.length rc3] rfl; replace lr := Later.trans_ lr z3; replace lx := Later.trans_ lx z3; replace b3 := b3.keep (later1 v3 (.cells #[.int .i64 XK.a, .int .i64 XL.l, .slice AS3 XL.s.length sc3, .slice AR3 XL.r.length rc3] 32)); replace p1 := p1.keep (later1 v3 (.cells #[.int .i64 XK.a, .int .i64 XL.l, .slice AS3 XL.s.length sc3, .slice AR3 XL.r.length rc3] 32)); replace p2 := p2.keep (later1 v3 (.cells #[.int .i64 XK.a, .int .i64 XL.l, .slice AS3 XL.s.length sc3, .slice AR3 XL.r.length rc3] 32)); replace lr := Later.trans_ lr (later1 v3 (.cells #[.int .i64 XK.a, .int .i64 XL.l, .slice AS3 XL.s.length sc3, .slice AR3 XL.r.length rc3] 32)); replace lx := Later.trans_ lx (later1 v3 (.cells #[.int .i64 XK.a, .int .i64 XL.l, .slice AS3 XL.s.length sc3, .slice AR3 XL.r.length rc3] 32)); have c3 := b3.cell (j := 0) (v := .slice A n c) rfl; have cu0 := p1.cell (j := 0) (v := .int .i64 XK.a) rfl; have cu1 := p1.cell (j := 1) (v := .int .i64 XK.l) rfl; have ck0 := p2.cell (j := 0) (v := .int .i64 XK.a) rfl; have ck1 := p2.cell (j := 1) (v := .int .i64 XK.l) rfl; have cl0 := p3.cell (j := 0) (v := .int .i64 XK.a) rfl))
        go_roundw
        case rel => exact ⟨5, by omega, by omega, by first | rfl | go_num, lr⟩
        case measure => first | (simp [intOf]; done) | (simp [intOf]; omega)
      | false =>
        cases hk : XK.ok with
        | true =>
          obtain ⟨hok, ea2, el2⟩ := f2 hk
          have KU := Lib.hid fun w' hl => HW.out 4 true XU hXU 4 (by rw [hu]; rfl) w' hl
          have KK := Lib.hid fun w' hl => HW.out 4 false XK hXK 0 (by rw [hk]; rfl) w' hl
          have KL := Lib.hid fun w' hl => HW.out 1 false XL hXL 0 (by rw [hok]; rfl) w' hl
          rw [ea2] at KL
          clear f1 f2 hu hk hok ea2 el2
          clear hXU hXK hXL HW HM HLD HSW
          have hix := fun w' => run_index_agg (P := Try.prog) w' 62 3 5 #[.int .i64 0, .int .i64 5, .int .i64 6, .int .i64 6, .int .i64 4] .i64 .i64 4 Try.underlying62 Try.underlying3 (by kernel_rfl) (by omega) (by omega) (.int .i64 4) rfl
          go_wp2_with (first
            | (go_at_call 11; (with_reducible refine (KU.out _ lx).mono ?_); rintro e v1 ⟨AS1, AR1, sc1, rc1, rfl, _, _, z1⟩; clear KU c3; replace b3 := b3.keep z1; have p1 := Blk.new v1 32 #[.int .i64 XU.a, .int .i64 XU.l, .slice AS1 XU.s.length sc1, .slice AR1 XU.r.length rc1] [.int .i64 XU.a, .int .i64 XU.l, .slice AS1 XU.s.length sc1, .slice AR1 XU.r.length rc1] rfl; replace lr := Later.trans_ lr z1; replace lx := Later.trans_ lx z1; replace b3 := b3.keep (later1 v1 (.cells #[.int .i64 XU.a, .int .i64 XU.l, .slice AS1 XU.s.length sc1, .slice AR1 XU.r.length rc1] 32)); replace lr := Later.trans_ lr (later1 v1 (.cells #[.int .i64 XU.a, .int .i64 XU.l, .slice AS1 XU.s.length sc1, .slice AR1 XU.r.length rc1] 32)); replace lx := Later.trans_ lx (later1 v1 (.cells #[.int .i64 XU.a, .int .i64 XU.l, .slice AS1 XU.s.length sc1, .slice AR1 XU.r.length rc1] 32)); have c3 := b3.cell (j := 0) (v := .slice A n c) rfl)
            | (go_at_call 11; (with_reducible refine (KK.out _ lx).mono ?_); rintro e v2 ⟨AS2, AR2, sc2, rc2, rfl, _, _, z2⟩; clear KK c3; replace b3 := b3.keep z2; replace p1 := p1.keep z2; have p2 := Blk.new v2 32 #[.int .i64 XK.a, .int .i64 XK.l, .slice AS2 XK.s.length sc2, .slice AR2 XK.r.length rc2] [.int .i64 XK.a, .int .i64 XK.l, .slice AS2 XK.s.length sc2, .slice AR2 XK.r.length rc2] rfl; replace lr := Later.trans_ lr z2; replace lx := Later.trans_ lx z2; replace b3 := b3.keep (later1 v2 (.cells #[.int .i64 XK.a, .int .i64 XK.l, .slice AS2 XK.s.length sc2, .slice AR2 XK.r.length rc2] 32)); replace p1 := p1.keep (later1 v2 (.cells #[.int .i64 XK.a, .int .i64 XK.l, .slice AS2 XK.s.length sc2, .slice AR2 XK.r.length rc2] 32)); replace lr := Later.trans_ lr (later1 v2 (.cells #[.int .i64 XK.a, .int .i64 XK.l, .slice AS2 XK.s.length sc2, .slice AR2 XK.r.length rc2] 32)); replace lx := Later.trans_ lx (later1 v2 (.cells #[.int .i64 XK.a, .int .i64 XK.l, .slice AS2 XK.s.length sc2, .slice AR2 XK.r.length rc2] 32)); have c3 := b3.cell (j := 0) (v := .slice A n c) rfl)
            | (go_at_call 11; (with_reducible refine (KL.out _ lx).mono ?_); rintro e v3 ⟨AS3, AR3, sc3, rc3, rfl, _, _, z3⟩; clear KL c3; replace b3 := b3.keep z3; replace p1 := p1.keep z3; replace p2 := p2.keep z3; have p3 := Blk.new v3 32 #[.int .i64 XK.a, .int .i64 XL.l, .slice AS3 XL.s.length sc3, .slice AR3 XL.r.length rc3] [.int .i64 XK.a, .int .i64 XL.l, .slice AS3 XL.s.length sc3, .slice AR3 XL.r.length rc3] rfl; replace lr := Later.trans_ lr z3; replace lx := Later.trans_ lx z3; replace b3 := b3.keep (later1 v3 (.cells #[.int .i64 XK.a, .int .i64 XL.l, .slice AS3 XL.s.length sc3, .slice AR3 XL.r.length rc3] 32)); replace p1 := p1.keep (later1 v3 (.cells #[.int .i64 XK.a, .int .i64 XL.l, .slice AS3 XL.s.length sc3, .slice AR3 XL.r.length rc3] 32)); replace p2 := p2.keep (later1 v3 (.cells #[.int .i64 XK.a, .int .i64 XL.l, .slice AS3 XL.s.length sc3, .slice AR3 XL.r.length rc3] 32)); replace lr := Later.trans_ lr (later1 v3 (.cells #[.int .i64 XK.a, .int .i64 XL.l, .slice AS3 XL.s.length sc3, .slice AR3 XL.r.length rc3] 32)); replace lx := Later.trans_ lx (later1 v3 (.cells #[.int .i64 XK.a, .int .i64 XL.l, .slice AS3 XL.s.length sc3, .slice AR3 XL.r.length rc3] 32)); have c3 := b3.cell (j := 0) (v := .slice A n c) rfl; have cu0 := p1.cell (j := 0) (v := .int .i64 XU.a) rfl; have cu1 := p1.cell (j := 1) (v := .int .i64 XU.l) rfl; have ck0 := p2.cell (j := 0) (v := .int .i64 XK.a) rfl; have ck1 := p2.cell (j := 1) (v := .int .i64 XK.l) rfl; have cl0 := p3.cell (j := 0) (v := .int .i64 XK.a) rfl))
          go_roundw
          case rel => exact ⟨5, by omega, by omega, by first | rfl | go_num, lr⟩
          case measure => first | (simp [intOf]; done) | (simp [intOf]; omega)
        | false =>
          obtain ⟨cl, hcl⟩ : ∃ cl, (if XL.ok then 0 else Tm.cause 1) = cl := ⟨_, rfl⟩
          have KU := Lib.hid fun w' hl => HW.out 4 true XU hXU 4 (by rw [hu]; rfl) w' hl
          have KK := Lib.hid fun w' hl => HW.out 4 false XK hXK 4 (by rw [hk]; rfl) w' hl
          have KL := Lib.hid fun w' hl => HW.out 1 false XL hXL cl hcl w' hl
          clear f1 f2 hu hk hcl
          clear hXU hXK hXL HW HM HLD HSW
          have hix := fun w' => run_index_agg (P := Try.prog) w' 62 3 5 #[.int .i64 0, .int .i64 5, .int .i64 6, .int .i64 6, .int .i64 4] .i64 .i64 4 Try.underlying62 Try.underlying3 (by kernel_rfl) (by omega) (by omega) (.int .i64 4) rfl
          go_wp2_with (first
            | (go_at_call 11; (with_reducible refine (KU.out _ lx).mono ?_); rintro e v1 ⟨AS1, AR1, sc1, rc1, rfl, _, _, z1⟩; clear KU c3; replace b3 := b3.keep z1; have p1 := Blk.new v1 32 #[.int .i64 XU.a, .int .i64 XU.l, .slice AS1 XU.s.length sc1, .slice AR1 XU.r.length rc1] [.int .i64 XU.a, .int .i64 XU.l, .slice AS1 XU.s.length sc1, .slice AR1 XU.r.length rc1] rfl; replace lr := Later.trans_ lr z1; replace lx := Later.trans_ lx z1; replace b3 := b3.keep (later1 v1 (.cells #[.int .i64 XU.a, .int .i64 XU.l, .slice AS1 XU.s.length sc1, .slice AR1 XU.r.length rc1] 32)); replace lr := Later.trans_ lr (later1 v1 (.cells #[.int .i64 XU.a, .int .i64 XU.l, .slice AS1 XU.s.length sc1, .slice AR1 XU.r.length rc1] 32)); replace lx := Later.trans_ lx (later1 v1 (.cells #[.int .i64 XU.a, .int .i64 XU.l, .slice AS1 XU.s.length sc1, .slice AR1 XU.r.length rc1] 32)); have c3 := b3.cell (j := 0) (v := .slice A n c) rfl)
            | (go_at_call 11; (with_reducible refine (KK.out _ lx).mono ?_); rintro e v2 ⟨AS2, AR2, sc2, rc2, rfl, _, _, z2⟩; clear KK c3; replace b3 := b3.keep z2; replace p1 := p1.keep z2; have p2 := Blk.new v2 32 #[.int .i64 XK.a, .int .i64 XK.l, .slice AS2 XK.s.length sc2, .slice AR2 XK.r.length rc2] [.int .i64 XK.a, .int .i64 XK.l, .slice AS2 XK.s.length sc2, .slice AR2 XK.r.length rc2] rfl; replace lr := Later.trans_ lr z2; replace lx := Later.trans_ lx z2; replace b3 := b3.keep (later1 v2 (.cells #[.int .i64 XK.a, .int .i64 XK.l, .slice AS2 XK.s.length sc2, .slice AR2 XK.r.length rc2] 32)); replace p1 := p1.keep (later1 v2 (.cells #[.int .i64 XK.a, .int .i64 XK.l, .slice AS2 XK.s.length sc2, .slice AR2 XK.r.length rc2] 32)); replace lr := Later.trans_ lr (later1 v2 (.cells #[.int .i64 XK.a, .int .i64 XK.l, .slice AS2 XK.s.length sc2, .slice AR2 XK.r.length rc2] 32)); replace lx := Later.trans_ lx (later1 v2 (.cells #[.int .i64 XK.a, .int .i64 XK.l, .slice AS2 XK.s.length sc2, .slice AR2 XK.r.length rc2] 32)); have c3 := b3.cell (j := 0) (v := .slice A n c) rfl)
            | (go_at_call 11; (with_reducible refine (KL.out _ lx).mono ?_); rintro e v3 ⟨AS3, AR3, sc3, rc3, rfl, _, _, z3⟩; clear KL c3; replace b3 := b3.keep z3; replace p1 := p1.keep z3; replace p2 := p2.keep z3; have p3 := Blk.new v3 32 #[.int .i64 XL.a, .int .i64 XL.l, .slice AS3 XL.s.length sc3, .slice AR3 XL.r.length rc3] [.int .i64 XL.a, .int .i64 XL.l, .slice AS3 XL.s.length sc3, .slice AR3 XL.r.length rc3] rfl; replace lr := Later.trans_ lr z3; replace lx := Later.trans_ lx z3; replace b3 := b3.keep (later1 v3 (.cells #[.int .i64 XL.a, .int .i64 XL.l, .slice AS3 XL.s.length sc3, .slice AR3 XL.r.length rc3] 32)); replace p1 := p1.keep (later1 v3 (.cells #[.int .i64 XL.a, .int .i64 XL.l, .slice AS3 XL.s.length sc3, .slice AR3 XL.r.length rc3] 32)); replace p2 := p2.keep (later1 v3 (.cells #[.int .i64 XL.a, .int .i64 XL.l, .slice AS3 XL.s.length sc3, .slice AR3 XL.r.length rc3] 32)); replace lr := Later.trans_ lr (later1 v3 (.cells #[.int .i64 XL.a, .int .i64 XL.l, .slice AS3 XL.s.length sc3, .slice AR3 XL.r.length rc3] 32)); replace lx := Later.trans_ lx (later1 v3 (.cells #[.int .i64 XL.a, .int .i64 XL.l, .slice AS3 XL.s.length sc3, .slice AR3 XL.r.length rc3] 32)); have c3 := b3.cell (j := 0) (v := .slice A n c) rfl; have cu0 := p1.cell (j := 0) (v := .int .i64 XU.a) rfl; have cu1 := p1.cell (j := 1) (v := .int .i64 XU.l) rfl; have ck0 := p2.cell (j := 0) (v := .int .i64 XK.a) rfl; have ck1 := p2.cell (j := 1) (v := .int .i64 XK.l) rfl; have cl0 := p3.cell (j := 0) (v := .int .i64 XL.a) rfl))
          go_roundw
          case rel => exact ⟨5, by omega, by omega, by first | rfl | go_num, lr⟩
          case measure => first | (simp [intOf]; done) | (simp [intOf]; omega)
    · obtain ⟨X2, hX2⟩ : ∃ X, Tm.walk n b root va 2 true = X := ⟨_, rfl⟩
      obtain ⟨X3, hX3⟩ : ∃ X, Tm.walk n b root va 3 true = X := ⟨_, rfl⟩
      have hsw := HSW.out
      rw [hX2, hX3] at hsw
      obtain ⟨cx, hcx⟩ : ∃ cx, (if X3.ok then 0 else Tm.cause 3) = cx := ⟨_, rfl⟩
      have K2 := Lib.hid fun w' hl => HW.out 2 true X2 hX2 cx (by rw [hsw]; exact hcx) w' hl
      have K3 := Lib.hid fun w' hl => HW.out 3 true X3 hX3 cx hcx w' hl
      clear hX2 hX3 hsw hcx HW HM HLD HSW
      go_wp2_with (first
        | (go_at_call 11; (with_reducible refine (K2.out _ lx).mono ?_); rintro e v1 ⟨AS1, AR1, sc1, rc1, rfl, _, _, z1⟩; clear c3; replace b3 := (b3.keep z1).keep (later1 v1 (.cells #[.int .i64 X2.a, .int .i64 X2.l, .slice AS1 X2.s.length sc1, .slice AR1 X2.r.length rc1] 32)); replace lx := Later.trans_ (Later.trans_ lx z1) (later1 v1 (.cells #[.int .i64 X2.a, .int .i64 X2.l, .slice AS1 X2.s.length sc1, .slice AR1 X2.r.length rc1] 32)); have c3 := b3.cell (j := 0) (v := .slice A n c) rfl)
        | (go_at_call 11; (with_reducible refine (K3.out _ lx).mono ?_); rintro e v2 ⟨AS2, AR2, sc2, rc2, rfl, _, _, z2⟩; clear c3; replace b3 := (b3.keep z2).keep (later1 v2 (.cells #[.int .i64 X3.a, .int .i64 X3.l, .slice AS2 X3.s.length sc2, .slice AR2 X3.r.length rc2] 32)); replace lx := Later.trans_ (Later.trans_ lx z2) (later1 v2 (.cells #[.int .i64 X3.a, .int .i64 X3.l, .slice AS2 X3.s.length sc2, .slice AR2 X3.r.length rc2] 32)); have c3 := b3.cell (j := 0) (v := .slice A n c) rfl)
        | (go_at_call 10; refine (HN.out _).mono ?_; rintro e w5 ⟨rfl, l5⟩; have lz := Later.trans_ lx l5))
      go_ret
      exact ⟨rfl, lz⟩
theorem ordered_all (A : Option Addr) (n c : Nat) (root va : Int) (b : Wm.Bs) (w : World) (hs : Sl w 128 A n (U b)) (hb : Wm.isBs b) (hr : 0 ≤ root ∧ root ≤ 4294967295) (hv : 0 ≤ va ∧ va ≤ 4294967295) :
    Calls Try.prog 6 #[.agg #[.slice A n c], .int .u32 root, .int .u32 va] w fun e w' => e = .returned (.bool true) ∧ Later w w' := by
  by_cases h1 : 1 ≤ n ∧ n ≤ 64
  · exact ordered_yes A n c root va b w hs hb h1 hr hv
  · exact ordered_bad A n c root va w h1

set_option maxRecDepth 100000 in
theorem tableRightsAreOrdered_lifted (os : Os) (started : os.Started) (H : Type) (enc : TypeId × Value → H) :
    ReturnsInHanded {} Try.checked os 6 .any (Rows.tableRightsAreOrderedSpec.pre6 enc Try.prog Try.f6 Rows.tableRightsAreOrderedRow.domain false) (Rows.tableRightsAreOrderedSpec.post enc Try.prog Try.f6 false true false false) := by
  refine returnsInHanded_of_change (C := Try.checked) ownK started (by kernel_rfl) Try.func6
    (ChangeSpec.witness6 (enc := enc) (C := Try.checked) false ⟨#[], #[.agg #[.slice none 0 0], .int .u32 0, .int .u32 0], []⟩ 8 (by kernel_rfl) (by kernel_rfl) (by kernel_rfl) (by kernel_rfl)) ?_
  intro W base args ds gs before hval0 hW hcnd _
  have hval : ∀ (j : Nat) t v, Try.f6.params[j]? = some t → args[j]? = some v → Value.okWide Try.prog W .any base t v := hval0
  have hW' := hW
  obtain ⟨p, q, hA0, hV, rfl, hfz, hnd⟩ := hW
  have hA : DataW.TrodAll enc Try.prog W 0 (fun _ => true) true Try.f6.params.toList args.toList ds p := hA0
  rw [Try.params6] at hA hval
  obtain ⟨v0, vs0, d0, ds0, p0, q0, hargs, rfl, rfl, h0, r0⟩ := trodAll_cons hA
  obtain ⟨v1, vs1, d1, ds1, p1, q1, rfl, rfl, rfl, h1, r1⟩ := trodAll_cons r0
  obtain ⟨v2, vs2, d2, ds2, p2, q2, rfl, rfl, rfl, h2, r2⟩ := trodAll_cons r1
  obtain ⟨rfl, rfl, rfl⟩ := trodAll_nil r2
  obtain rfl : args = #[v0, v1, v2] := by cases args; simp_all
  obtain ⟨rfl, rfl⟩ := trodVars_none hV
  obtain ⟨A0, n0, c0, b0, rfl, x0, y0, s0, z0⟩ := mem_arg (K := 128) (by omega) Try.underlying24 rfl Try.underlying22 Try.underlying120 Try.underlying5 (by kernel_rfl) (by kernel_rfl) (by kernel_rfl) (by kernel_rfl) (hval 0 24 v0 rfl rfl) h0
  obtain ⟨a1, rfl, z1⟩ := u32_arg Try.underlying25 (hval 1 25 v1 rfl rfl) h1
  obtain ⟨a2, rfl, z2⟩ := u32_arg Try.underlying25 (hval 2 25 v2 rfl rfl) h2
  clear hA0 hval0
  simp only [List.append_nil] at hW'
  refine (ordered_all A0 n0 c0 a1 a2 b0 W s0 z0 z1 z2).mono fun e W' ⟨he, hw⟩ => ?_
  subst he
  exact ⟨_, rfl, law_post laidK rfl (by kernel_rfl) (by kernel_rfl) Try.underlying4 (by kernel_rfl) hW' rfl hw⟩
set_option maxRecDepth 100000 in
/-- The statement. -/
theorem tableRightsAreOrdered_said : Rows.TableRightsAreOrderedSaid :=
  OpenClaim.holds_of_wide 6 Try.f6 rfl rfl rfl rfl rfl rfl rfl ⟨rfl, rfl, rfl, rfl, rfl⟩ rfl rfl rfl rfl rfl (by kernel_rfl) Try.func6 (by kernel_rfl)
    (of_decide_eq_true (by kernel_rfl)) (by unfold Func.isWrapper; first | (rw [if_pos (by decide +kernel)]; kernel_rfl) | (rw [if_neg (by decide +kernel)]; exact ⟨rfl, rfl⟩))
    (fun os started H enc _ => tableRightsAreOrdered_lifted os started H enc)
#print axioms tableRightsAreOrdered_said
end Go.Proofs.Ytnaobnhcefdpbaa
