/-
  THE WALK OF the reference's Walk: the walks that lead somewhere.
-/
import Derived.Test.YtiaejldknbicdaaTabY2
namespace Go.Proofs.Ytiaejldknbicdaa
open Go.RowKit Go.ChangeShapes Go.WideShapes Go.ChangeAt

set_option maxRecDepth 100000 in
set_option maxHeartbeats 4000000 in
theorem rwalk_y0 (A : Option Addr) (n c : Nat) (root va acc : Int) (us : Bool) (w : World) (h1 : 1 ≤ n ∧ n ≤ 64) (hv : 0 ≤ va ∧ va ≤ 4294967295) (ca : Int) (HC : Hid (∀ w', Calls Try.prog 32 #[.int .i64 acc] w' fun r w'' => r = .returned (.int .i64 ca) ∧ w' = w'')) (hr : 0 ≤ root ∧ root ≤ 4294967295) (h0 : root ≠ 0) (hlt : va < 131072) (hp : Tm.pageB n root = true) (fa fe : Int) (fr : List Int) (nr : Nat) (hnr : fr.length = nr) (pg : Int) (hpg : 0 ≤ pg ∧ pg < 1099511627776) (hp2 : Tm.pageB n pg = true) (he : 0 ≤ fe ∧ fe ≤ 4294967295) (ha : 1 ≤ acc ∧ acc ≤ 4) (hal : Tm.allows fe acc us = true) (p : Int) (hpp : p = pg + va % 128) (hx : Tm.after fe acc = fe) (KF : Hid (∀ w', Later w w' → Calls Try.prog 35 #[.agg #[.slice A n c], .int .i64 root, .int .i64 va] w' fun r w'' => GotLg fa fe pg fr nr true w' r w'')) :
    Calls Try.prog 12 #[.agg #[.slice A n c], .int .u32 root, .int .u32 va, .int .i64 acc, .bool us] w (GotRW ⟨true, p, fa, [], fr⟩ 0 w) := by
  have w0 : IntKind.i64.wrap va = va := by rw [IntKind.wrap_i64]; omega
  have H2 := Lib.hid fun w' => rhas_any fe 2 w' ⟨he.1, by omega⟩ (by omega)
  have H8 := Lib.hid fun w' => rhas_any fe 8 w' ⟨he.1, by omega⟩ (by omega)
  have H4 := Lib.hid fun w' => rhas_any fe 4 w' ⟨he.1, by omega⟩ (by omega)
  have H16 := Lib.hid fun w' => rhas_any fe 16 w' ⟨he.1, by omega⟩ (by omega)
  have wm : va.tmod 128 = va % 128 := Int.tmod_eq_emod_of_nonneg hv.1
  have wp : IntKind.i64.wrap (pg + va % 128) = p := by rw [IntKind.wrap_i64]; omega
  have dn : (fe != fe) = false := by simp
  have d1 : (root == 0) = false := by simpa using h0
  have w3 : IntKind.i64.wrap root = root := by rw [IntKind.wrap_i64]; omega
  have d0 : decide (131072 ≤ va) = false := decide_eq_false (by omega)
  have HP := Lib.hid fun w' => rpage_any A n c root w' h1.2 (by omega)
  rw [hp] at HP
  have HP2 := Lib.hid fun w' => rpage_any A n c pg w' h1.2 hpg
  rw [hp2] at HP2
  clear hpg hp2 hlt h1 hv h0 hr hp
  rcases (show acc = 1 ∨ acc = 2 ∨ acc = 3 ∨ acc = 4 by omega) with rfl | rfl | rfl | rfl
  · cases hb16 : Tm.has fe 16 with
    | false => exact absurd hx (by simp [Tm.after, Tm.isSt, Tm.wi, hb16]; omega)
    | true =>
      rw [hb16] at H16
      clear hx hb16 he hpp
      cases us with
      | false =>
        clear hal
        have b5 := ((Blk.new w 24 #[.slice A n c] [.slice A n c] rfl).alloc (.cells #[.int .i64 0, .int .i64 0, .slice none 0 0, .slice none 0 0, .int .i64 0] 36)).alloc (.cells #[.int .i64 0, .int .i64 0, .slice none 0 0, .slice none 0 0, .int .i64 ca] 36)
        have b10 := (Blk.new' (w.alloc (.cells #[.slice A n c] 24)) (w.heap.size + 1) 36 #[.int .i64 0, .int .i64 0, .slice none 0 0, .slice none 0 0, .int .i64 0] [.int .i64 0, .int .i64 0, .slice none 0 0, .slice none 0 0, .int .i64 0] (by simp) rfl).alloc (.cells #[.int .i64 0, .int .i64 0, .slice none 0 0, .slice none 0 0, .int .i64 ca] 36)
        have b11 := Blk.new' ((w.alloc (.cells #[.slice A n c] 24)).alloc (.cells #[.int .i64 0, .int .i64 0, .slice none 0 0, .slice none 0 0, .int .i64 0] 36)) (w.heap.size + 1 + 1) 36 #[.int .i64 0, .int .i64 0, .slice none 0 0, .slice none 0 0, .int .i64 ca] [.int .i64 0, .int .i64 0, .slice none 0 0, .slice none 0 0, .int .i64 ca] (by simp) rfl
        have lx := ((later1 w (.cells #[.slice A n c] 24)).alloc (by simp) (.cells #[.int .i64 0, .int .i64 0, .slice none 0 0, .slice none 0 0, .int .i64 0] 36)).alloc (by simp; omega) (.cells #[.int .i64 0, .int .i64 0, .slice none 0 0, .slice none 0 0, .int .i64 ca] 36)
        go_enter Try.func12, Try.ntmps12
        go_upto_region 11 with (first
          | (go_at_call 32; refine (HC.out _).mono ?_; rintro e w1 ⟨rfl, rfl⟩)
          | (go_at_call 34; refine (HP.out _).mono ?_; rintro e w2 ⟨rfl, l2⟩; replace b5 := b5.keep l2; replace b10 := b10.keep l2; replace b11 := b11.keep l2; replace lx := Later.trans_ lx l2; have c5 := b5.cell (j := 0) (v := .slice A n c) rfl)
          | (go_at_call 35; refine (KF.out _ lx).mono ?_; have h11 := b11.lt; rintro e w3 ⟨AR, cr, rfl, hAR, hfr, l3⟩; clear c5; replace b5 := b5.keep l3; replace b10 := b10.keep l3; replace b11 := b11.keep l3; replace lx := Later.trans_ lx l3; have c5 := b5.cell (j := 0) (v := .slice A n c) rfl; have c14 := (b11.alloc (.cells #[.int .i64 fa, .int .i64 fe, .int .i64 pg, .slice AR nr cr, .bool true] 74)).cell (j := 3) (v := .slice none 0 0) rfl; have f14 := (b11.alloc (.cells #[.int .i64 fa, .int .i64 fe, .int .i64 pg, .slice AR nr cr, .bool true] 74)).frz 3))
        have h12 := b11.lt
        have bl : Blk ((w3.alloc (.cells #[.int .i64 fa, .int .i64 fe, .int .i64 pg, .slice AR nr cr, .bool true] 74)).setCell ⟨w.heap.size + 1 + 1, 3, none⟩ (.slice AR nr cr)) w3.heap.size 74 [.int .i64 fa, .int .i64 fe, .int .i64 pg, .slice AR nr cr, .bool true] := (Blk.new w3 74 #[.int .i64 fa, .int .i64 fe, .int .i64 pg, .slice AR nr cr, .bool true] [.int .i64 fa, .int .i64 fe, .int .i64 pg, .slice AR nr cr, .bool true] rfl).set_other ⟨w.heap.size + 1 + 1, 3, none⟩ (.slice AR nr cr) (by show w3.heap.size ≠ w.heap.size + 1 + 1; omega)
        replace b5 : Blk ((w3.alloc (.cells #[.int .i64 fa, .int .i64 fe, .int .i64 pg, .slice AR nr cr, .bool true] 74)).setCell ⟨w.heap.size + 1 + 1, 3, none⟩ (.slice AR nr cr)) w.heap.size 24 [.slice A n c] := (b5.alloc (.cells #[.int .i64 fa, .int .i64 fe, .int .i64 pg, .slice AR nr cr, .bool true] 74)).set_other ⟨w.heap.size + 1 + 1, 3, none⟩ (.slice AR nr cr) (by show w.heap.size ≠ w.heap.size + 1 + 1; omega)
        replace b10 : Blk ((w3.alloc (.cells #[.int .i64 fa, .int .i64 fe, .int .i64 pg, .slice AR nr cr, .bool true] 74)).setCell ⟨w.heap.size + 1 + 1, 3, none⟩ (.slice AR nr cr)) (w.heap.size + 1) 36 [.int .i64 0, .int .i64 0, .slice none 0 0, .slice none 0 0, .int .i64 0] := (b10.alloc (.cells #[.int .i64 fa, .int .i64 fe, .int .i64 pg, .slice AR nr cr, .bool true] 74)).set_other ⟨w.heap.size + 1 + 1, 3, none⟩ (.slice AR nr cr) (by show w.heap.size + 1 ≠ w.heap.size + 1 + 1; omega)
        replace b11 : Blk ((w3.alloc (.cells #[.int .i64 fa, .int .i64 fe, .int .i64 pg, .slice AR nr cr, .bool true] 74)).setCell ⟨w.heap.size + 1 + 1, 3, none⟩ (.slice AR nr cr)) (w.heap.size + 1 + 1) 36 [.int .i64 0, .int .i64 0, .slice none 0 0, .slice AR nr cr, .int .i64 ca] := (b11.alloc (.cells #[.int .i64 fa, .int .i64 fe, .int .i64 pg, .slice AR nr cr, .bool true] 74)).set 3 (.slice AR nr cr)
        replace lx : Later w ((w3.alloc (.cells #[.int .i64 fa, .int .i64 fe, .int .i64 pg, .slice AR nr cr, .bool true] 74)).setCell ⟨w.heap.size + 1 + 1, 3, none⟩ (.slice AR nr cr)) := (lx.alloc lx.size (.cells #[.int .i64 fa, .int .i64 fe, .int .i64 pg, .slice AR nr cr, .bool true] 74)).setCell (p := ⟨w.heap.size + 1 + 1, 3, none⟩) (by show w.heap.size ≤ w.heap.size + 1 + 1; omega) (.slice AR nr cr)
        replace hAR : Sl ((w3.alloc (.cells #[.int .i64 fa, .int .i64 fe, .int .i64 pg, .slice AR nr cr, .bool true] 74)).setCell ⟨w.heap.size + 1 + 1, 3, none⟩ (.slice AR nr cr)) 1 AR nr (N64 fr) := (hAR.keep (later1 w3 (.cells #[.int .i64 fa, .int .i64 fe, .int .i64 pg, .slice AR nr cr, .bool true] 74))).only_ne (Only.set _ (w.heap.size + 1 + 1) 3 (.slice AR nr cr)) (fun ad e => by have := hfr ad e; omega)
        have hna : ∀ ad, AR = some ad → w.heap.size + 1 + 1 < ad.block := fun ad e => by have := hfr ad e; omega
        clear c14 f14 c5 h11 hfr l3 l2
        have c5 := b5.cell (j := 0) (v := .slice A n c) rfl
        obtain ⟨u, hu⟩ : ∃ u, u = ((w3.alloc (.cells #[.int .i64 fa, .int .i64 fe, .int .i64 pg, .slice AR nr cr, .bool true] 74)).setCell ⟨w.heap.size + 1 + 1, 3, none⟩ (.slice AR nr cr)) := ⟨_, rfl⟩
        rw [← hu] at bl b5 b10 b11 lx hAR c5 ⊢
        clear hu
        obtain ⟨g, hg⟩ : ∃ g, g = w3.heap.size := ⟨_, rfl⟩
        rw [← hg] at bl h12 ⊢
        clear hg
        have e1 := bl.cell (j := 1) (v := .int .i64 fe) rfl
        have e2 := bl.cell (j := 2) (v := .int .i64 pg) rfl
        have e4 := bl.cell (j := 4) (v := .bool true) rfl
        go_upto_region 17 with (first
          | (go_at_call 34; refine (HP2.out _).mono ?_; rintro e w4 ⟨rfl, l4⟩; clear e1 e2 e4; replace bl := bl.keep l4; replace b10 := b10.keep l4; replace b11 := b11.keep l4; replace lx := Later.trans_ lx l4; replace hAR := hAR.keep l4; have e0 := bl.cell (j := 0) (v := .int .i64 fa) rfl; have e1 := bl.cell (j := 1) (v := .int .i64 fe) rfl; have e2 := bl.cell (j := 2) (v := .int .i64 pg) rfl; have e3 := bl.cell (j := 3) (v := .slice AR nr cr) rfl)
          | (go_at_call 36; (first | (with_reducible refine (H2.out _).mono ?_) | (with_reducible refine (H8.out _).mono ?_) | (with_reducible refine (H4.out _).mono ?_)); rintro r wh ⟨rfl, rfl⟩))
        clear e0 e1 e2 e3 c5 b11
        have b15 := Blk.new w4 32 #[.int .i64 p, .int .i64 fa, .slice none 0 0, .slice AR nr cr] [.int .i64 p, .int .i64 fa, .slice none 0 0, .slice AR nr cr] rfl
        have h15 := b10.lt
        have h16 := bl.lt
        replace bl := bl.alloc (.cells #[.int .i64 p, .int .i64 fa, .slice none 0 0, .slice AR nr cr] 32)
        replace b10 := b10.alloc (.cells #[.int .i64 p, .int .i64 fa, .slice none 0 0, .slice AR nr cr] 32)
        replace lx := lx.alloc lx.size (.cells #[.int .i64 p, .int .i64 fa, .slice none 0 0, .slice AR nr cr] 32)
        replace hAR := hAR.alloc (.cells #[.int .i64 p, .int .i64 fa, .slice none 0 0, .slice AR nr cr] 32)
        obtain ⟨u5, hu5⟩ : ∃ x, x = w4.alloc (.cells #[.int .i64 p, .int .i64 fa, .slice none 0 0, .slice AR nr cr] 32) := ⟨_, rfl⟩
        rw [← hu5] at b15 bl b10 lx hAR ⊢
        clear hu5 l4
        obtain ⟨g5, hg5⟩ : ∃ x, x = w4.heap.size := ⟨_, rfl⟩
        rw [← hg5] at b15 h15 h16 ⊢
        clear hg5
        have e0 := bl.cell (j := 0) (v := .int .i64 fa) rfl
        have e1 := bl.cell (j := 1) (v := .int .i64 fe) rfl
        go_wp2_with (first
          | (go_at_call 36; (first | (with_reducible refine (H16.out _).mono ?_)); rintro r wh ⟨rfl, rfl⟩)
          | ((with_reducible refine wpList_load_blk (o := ⟨some 131, .load 32 (.tmp 15), _, _, _, none⟩) rfl _ _ rfl g5 32 [.int .i64 p, .int .i64 fa, .slice none 0 0, .slice AR nr cr] _ ?_ b15 Try.underlying32 rfl (walk_sz _ _ _ _) ?_); rfl)
          | ((with_reducible refine wpList_store_abs (o := ⟨none, .store 36 (.tmp 10) (.tmp 132), _, _, _, none⟩) rfl _ _ _ rfl (w.heap.size + 1) 36 [.int .i64 0, .int .i64 0, .slice none 0 0, .slice none 0 0, .int .i64 0] [.int .i64 p, .int .i64 fa, .slice none 0 0, .slice AR nr cr, .int .i64 0] ?_ ?_ b10 ?_ ?_ ?_ ?_); rfl; rfl; exact wd_sz _ _ _ _ _; rfl; exact wd_one _ _ _ _ _ _ _ _ _; intro w5 b8 o5))
        subst hnr
        exact bodyPost_ret (v := .agg #[.int .i64 p, .int .i64 fa, .slice none 0 0, .slice AR fr.length cr, .int .i64 0]) (results_blk Try.results12 _ _ (w.heap.size + 1) 36 [.int .i64 p, .int .i64 fa, .slice none 0 0, .slice AR fr.length cr, .int .i64 0] _ rfl b8 Try.underlying36 rfl (wd_sz _ _ _ _ _)) rfl
          ⟨_, _, _, _, rfl, ⟨rfl, fun h => absurd h (by simp)⟩, hAR.only_ne o5 (fun ad e => by have := hna ad e; omega), Below.only lx o5 (by omega)⟩
      | true =>
        cases hb4 : Tm.has fe 4 with
        | false => exact absurd hal (by simp [Tm.allows, Tm.isSt, hb4])
        | true =>
          rw [hb4] at H4
          clear hal hb4
          have b5 := ((Blk.new w 24 #[.slice A n c] [.slice A n c] rfl).alloc (.cells #[.int .i64 0, .int .i64 0, .slice none 0 0, .slice none 0 0, .int .i64 0] 36)).alloc (.cells #[.int .i64 0, .int .i64 0, .slice none 0 0, .slice none 0 0, .int .i64 ca] 36)
          have b10 := (Blk.new' (w.alloc (.cells #[.slice A n c] 24)) (w.heap.size + 1) 36 #[.int .i64 0, .int .i64 0, .slice none 0 0, .slice none 0 0, .int .i64 0] [.int .i64 0, .int .i64 0, .slice none 0 0, .slice none 0 0, .int .i64 0] (by simp) rfl).alloc (.cells #[.int .i64 0, .int .i64 0, .slice none 0 0, .slice none 0 0, .int .i64 ca] 36)
          have b11 := Blk.new' ((w.alloc (.cells #[.slice A n c] 24)).alloc (.cells #[.int .i64 0, .int .i64 0, .slice none 0 0, .slice none 0 0, .int .i64 0] 36)) (w.heap.size + 1 + 1) 36 #[.int .i64 0, .int .i64 0, .slice none 0 0, .slice none 0 0, .int .i64 ca] [.int .i64 0, .int .i64 0, .slice none 0 0, .slice none 0 0, .int .i64 ca] (by simp) rfl
          have lx := ((later1 w (.cells #[.slice A n c] 24)).alloc (by simp) (.cells #[.int .i64 0, .int .i64 0, .slice none 0 0, .slice none 0 0, .int .i64 0] 36)).alloc (by simp; omega) (.cells #[.int .i64 0, .int .i64 0, .slice none 0 0, .slice none 0 0, .int .i64 ca] 36)
          go_enter Try.func12, Try.ntmps12
          go_upto_region 11 with (first
            | (go_at_call 32; refine (HC.out _).mono ?_; rintro e w1 ⟨rfl, rfl⟩)
            | (go_at_call 34; refine (HP.out _).mono ?_; rintro e w2 ⟨rfl, l2⟩; replace b5 := b5.keep l2; replace b10 := b10.keep l2; replace b11 := b11.keep l2; replace lx := Later.trans_ lx l2; have c5 := b5.cell (j := 0) (v := .slice A n c) rfl)
            | (go_at_call 35; refine (KF.out _ lx).mono ?_; have h11 := b11.lt; rintro e w3 ⟨AR, cr, rfl, hAR, hfr, l3⟩; clear c5; replace b5 := b5.keep l3; replace b10 := b10.keep l3; replace b11 := b11.keep l3; replace lx := Later.trans_ lx l3; have c5 := b5.cell (j := 0) (v := .slice A n c) rfl; have c14 := (b11.alloc (.cells #[.int .i64 fa, .int .i64 fe, .int .i64 pg, .slice AR nr cr, .bool true] 74)).cell (j := 3) (v := .slice none 0 0) rfl; have f14 := (b11.alloc (.cells #[.int .i64 fa, .int .i64 fe, .int .i64 pg, .slice AR nr cr, .bool true] 74)).frz 3))
          have h12 := b11.lt
          have bl : Blk ((w3.alloc (.cells #[.int .i64 fa, .int .i64 fe, .int .i64 pg, .slice AR nr cr, .bool true] 74)).setCell ⟨w.heap.size + 1 + 1, 3, none⟩ (.slice AR nr cr)) w3.heap.size 74 [.int .i64 fa, .int .i64 fe, .int .i64 pg, .slice AR nr cr, .bool true] := (Blk.new w3 74 #[.int .i64 fa, .int .i64 fe, .int .i64 pg, .slice AR nr cr, .bool true] [.int .i64 fa, .int .i64 fe, .int .i64 pg, .slice AR nr cr, .bool true] rfl).set_other ⟨w.heap.size + 1 + 1, 3, none⟩ (.slice AR nr cr) (by show w3.heap.size ≠ w.heap.size + 1 + 1; omega)
          replace b5 : Blk ((w3.alloc (.cells #[.int .i64 fa, .int .i64 fe, .int .i64 pg, .slice AR nr cr, .bool true] 74)).setCell ⟨w.heap.size + 1 + 1, 3, none⟩ (.slice AR nr cr)) w.heap.size 24 [.slice A n c] := (b5.alloc (.cells #[.int .i64 fa, .int .i64 fe, .int .i64 pg, .slice AR nr cr, .bool true] 74)).set_other ⟨w.heap.size + 1 + 1, 3, none⟩ (.slice AR nr cr) (by show w.heap.size ≠ w.heap.size + 1 + 1; omega)
          replace b10 : Blk ((w3.alloc (.cells #[.int .i64 fa, .int .i64 fe, .int .i64 pg, .slice AR nr cr, .bool true] 74)).setCell ⟨w.heap.size + 1 + 1, 3, none⟩ (.slice AR nr cr)) (w.heap.size + 1) 36 [.int .i64 0, .int .i64 0, .slice none 0 0, .slice none 0 0, .int .i64 0] := (b10.alloc (.cells #[.int .i64 fa, .int .i64 fe, .int .i64 pg, .slice AR nr cr, .bool true] 74)).set_other ⟨w.heap.size + 1 + 1, 3, none⟩ (.slice AR nr cr) (by show w.heap.size + 1 ≠ w.heap.size + 1 + 1; omega)
          replace b11 : Blk ((w3.alloc (.cells #[.int .i64 fa, .int .i64 fe, .int .i64 pg, .slice AR nr cr, .bool true] 74)).setCell ⟨w.heap.size + 1 + 1, 3, none⟩ (.slice AR nr cr)) (w.heap.size + 1 + 1) 36 [.int .i64 0, .int .i64 0, .slice none 0 0, .slice AR nr cr, .int .i64 ca] := (b11.alloc (.cells #[.int .i64 fa, .int .i64 fe, .int .i64 pg, .slice AR nr cr, .bool true] 74)).set 3 (.slice AR nr cr)
          replace lx : Later w ((w3.alloc (.cells #[.int .i64 fa, .int .i64 fe, .int .i64 pg, .slice AR nr cr, .bool true] 74)).setCell ⟨w.heap.size + 1 + 1, 3, none⟩ (.slice AR nr cr)) := (lx.alloc lx.size (.cells #[.int .i64 fa, .int .i64 fe, .int .i64 pg, .slice AR nr cr, .bool true] 74)).setCell (p := ⟨w.heap.size + 1 + 1, 3, none⟩) (by show w.heap.size ≤ w.heap.size + 1 + 1; omega) (.slice AR nr cr)
          replace hAR : Sl ((w3.alloc (.cells #[.int .i64 fa, .int .i64 fe, .int .i64 pg, .slice AR nr cr, .bool true] 74)).setCell ⟨w.heap.size + 1 + 1, 3, none⟩ (.slice AR nr cr)) 1 AR nr (N64 fr) := (hAR.keep (later1 w3 (.cells #[.int .i64 fa, .int .i64 fe, .int .i64 pg, .slice AR nr cr, .bool true] 74))).only_ne (Only.set _ (w.heap.size + 1 + 1) 3 (.slice AR nr cr)) (fun ad e => by have := hfr ad e; omega)
          have hna : ∀ ad, AR = some ad → w.heap.size + 1 + 1 < ad.block := fun ad e => by have := hfr ad e; omega
          clear c14 f14 c5 h11 hfr l3 l2
          have c5 := b5.cell (j := 0) (v := .slice A n c) rfl
          obtain ⟨u, hu⟩ : ∃ u, u = ((w3.alloc (.cells #[.int .i64 fa, .int .i64 fe, .int .i64 pg, .slice AR nr cr, .bool true] 74)).setCell ⟨w.heap.size + 1 + 1, 3, none⟩ (.slice AR nr cr)) := ⟨_, rfl⟩
          rw [← hu] at bl b5 b10 b11 lx hAR c5 ⊢
          clear hu
          obtain ⟨g, hg⟩ : ∃ g, g = w3.heap.size := ⟨_, rfl⟩
          rw [← hg] at bl h12 ⊢
          clear hg
          have e1 := bl.cell (j := 1) (v := .int .i64 fe) rfl
          have e2 := bl.cell (j := 2) (v := .int .i64 pg) rfl
          have e4 := bl.cell (j := 4) (v := .bool true) rfl
          go_upto_region 17 with (first
            | (go_at_call 34; refine (HP2.out _).mono ?_; rintro e w4 ⟨rfl, l4⟩; clear e1 e2 e4; replace bl := bl.keep l4; replace b10 := b10.keep l4; replace b11 := b11.keep l4; replace lx := Later.trans_ lx l4; replace hAR := hAR.keep l4; have e0 := bl.cell (j := 0) (v := .int .i64 fa) rfl; have e1 := bl.cell (j := 1) (v := .int .i64 fe) rfl; have e2 := bl.cell (j := 2) (v := .int .i64 pg) rfl; have e3 := bl.cell (j := 3) (v := .slice AR nr cr) rfl)
            | (go_at_call 36; (first | (with_reducible refine (H2.out _).mono ?_) | (with_reducible refine (H8.out _).mono ?_) | (with_reducible refine (H4.out _).mono ?_)); rintro r wh ⟨rfl, rfl⟩))
          clear e0 e1 e2 e3 c5 b11
          have b15 := Blk.new w4 32 #[.int .i64 p, .int .i64 fa, .slice none 0 0, .slice AR nr cr] [.int .i64 p, .int .i64 fa, .slice none 0 0, .slice AR nr cr] rfl
          have h15 := b10.lt
          have h16 := bl.lt
          replace bl := bl.alloc (.cells #[.int .i64 p, .int .i64 fa, .slice none 0 0, .slice AR nr cr] 32)
          replace b10 := b10.alloc (.cells #[.int .i64 p, .int .i64 fa, .slice none 0 0, .slice AR nr cr] 32)
          replace lx := lx.alloc lx.size (.cells #[.int .i64 p, .int .i64 fa, .slice none 0 0, .slice AR nr cr] 32)
          replace hAR := hAR.alloc (.cells #[.int .i64 p, .int .i64 fa, .slice none 0 0, .slice AR nr cr] 32)
          obtain ⟨u5, hu5⟩ : ∃ x, x = w4.alloc (.cells #[.int .i64 p, .int .i64 fa, .slice none 0 0, .slice AR nr cr] 32) := ⟨_, rfl⟩
          rw [← hu5] at b15 bl b10 lx hAR ⊢
          clear hu5 l4
          obtain ⟨g5, hg5⟩ : ∃ x, x = w4.heap.size := ⟨_, rfl⟩
          rw [← hg5] at b15 h15 h16 ⊢
          clear hg5
          have e0 := bl.cell (j := 0) (v := .int .i64 fa) rfl
          have e1 := bl.cell (j := 1) (v := .int .i64 fe) rfl
          go_wp2_with (first
            | (go_at_call 36; (first | (with_reducible refine (H16.out _).mono ?_)); rintro r wh ⟨rfl, rfl⟩)
            | ((with_reducible refine wpList_load_blk (o := ⟨some 131, .load 32 (.tmp 15), _, _, _, none⟩) rfl _ _ rfl g5 32 [.int .i64 p, .int .i64 fa, .slice none 0 0, .slice AR nr cr] _ ?_ b15 Try.underlying32 rfl (walk_sz _ _ _ _) ?_); rfl)
            | ((with_reducible refine wpList_store_abs (o := ⟨none, .store 36 (.tmp 10) (.tmp 132), _, _, _, none⟩) rfl _ _ _ rfl (w.heap.size + 1) 36 [.int .i64 0, .int .i64 0, .slice none 0 0, .slice none 0 0, .int .i64 0] [.int .i64 p, .int .i64 fa, .slice none 0 0, .slice AR nr cr, .int .i64 0] ?_ ?_ b10 ?_ ?_ ?_ ?_); rfl; rfl; exact wd_sz _ _ _ _ _; rfl; exact wd_one _ _ _ _ _ _ _ _ _; intro w5 b8 o5))
          subst hnr
          exact bodyPost_ret (v := .agg #[.int .i64 p, .int .i64 fa, .slice none 0 0, .slice AR fr.length cr, .int .i64 0]) (results_blk Try.results12 _ _ (w.heap.size + 1) 36 [.int .i64 p, .int .i64 fa, .slice none 0 0, .slice AR fr.length cr, .int .i64 0] _ rfl b8 Try.underlying36 rfl (wd_sz _ _ _ _ _)) rfl
            ⟨_, _, _, _, rfl, ⟨rfl, fun h => absurd h (by simp)⟩, hAR.only_ne o5 (fun ad e => by have := hna ad e; omega), Below.only lx o5 (by omega)⟩
  · cases hb16 : Tm.has fe 16 with
    | false => exact absurd hx (by simp [Tm.after, Tm.isSt, Tm.wi, hb16]; split <;> omega)
    | true =>
      rw [hb16] at H16
      cases hb32 : Tm.has fe 32 with
      | false => exact absurd hx (by simp [Tm.after, Tm.isSt, Tm.wi, hb16, hb32]; omega)
      | true =>
        have H32 := Lib.hid fun w' => rhas_any fe 32 w' ⟨he.1, by omega⟩ (by omega)
        rw [hb32] at H32
        clear hx hb16 hb32 he hpp
        cases hb2 : Tm.has fe 2 with
        | false => exact absurd hal (by simp [Tm.allows, Tm.isSt, hb2])
        | true =>
          rw [hb2] at H2
          cases us with
          | false =>
            clear hal
            have b5 := ((Blk.new w 24 #[.slice A n c] [.slice A n c] rfl).alloc (.cells #[.int .i64 0, .int .i64 0, .slice none 0 0, .slice none 0 0, .int .i64 0] 36)).alloc (.cells #[.int .i64 0, .int .i64 0, .slice none 0 0, .slice none 0 0, .int .i64 ca] 36)
            have b10 := (Blk.new' (w.alloc (.cells #[.slice A n c] 24)) (w.heap.size + 1) 36 #[.int .i64 0, .int .i64 0, .slice none 0 0, .slice none 0 0, .int .i64 0] [.int .i64 0, .int .i64 0, .slice none 0 0, .slice none 0 0, .int .i64 0] (by simp) rfl).alloc (.cells #[.int .i64 0, .int .i64 0, .slice none 0 0, .slice none 0 0, .int .i64 ca] 36)
            have b11 := Blk.new' ((w.alloc (.cells #[.slice A n c] 24)).alloc (.cells #[.int .i64 0, .int .i64 0, .slice none 0 0, .slice none 0 0, .int .i64 0] 36)) (w.heap.size + 1 + 1) 36 #[.int .i64 0, .int .i64 0, .slice none 0 0, .slice none 0 0, .int .i64 ca] [.int .i64 0, .int .i64 0, .slice none 0 0, .slice none 0 0, .int .i64 ca] (by simp) rfl
            have lx := ((later1 w (.cells #[.slice A n c] 24)).alloc (by simp) (.cells #[.int .i64 0, .int .i64 0, .slice none 0 0, .slice none 0 0, .int .i64 0] 36)).alloc (by simp; omega) (.cells #[.int .i64 0, .int .i64 0, .slice none 0 0, .slice none 0 0, .int .i64 ca] 36)
            go_enter Try.func12, Try.ntmps12
            go_upto_region 11 with (first
              | (go_at_call 32; refine (HC.out _).mono ?_; rintro e w1 ⟨rfl, rfl⟩)
              | (go_at_call 34; refine (HP.out _).mono ?_; rintro e w2 ⟨rfl, l2⟩; replace b5 := b5.keep l2; replace b10 := b10.keep l2; replace b11 := b11.keep l2; replace lx := Later.trans_ lx l2; have c5 := b5.cell (j := 0) (v := .slice A n c) rfl)
              | (go_at_call 35; refine (KF.out _ lx).mono ?_; have h11 := b11.lt; rintro e w3 ⟨AR, cr, rfl, hAR, hfr, l3⟩; clear c5; replace b5 := b5.keep l3; replace b10 := b10.keep l3; replace b11 := b11.keep l3; replace lx := Later.trans_ lx l3; have c5 := b5.cell (j := 0) (v := .slice A n c) rfl; have c14 := (b11.alloc (.cells #[.int .i64 fa, .int .i64 fe, .int .i64 pg, .slice AR nr cr, .bool true] 74)).cell (j := 3) (v := .slice none 0 0) rfl; have f14 := (b11.alloc (.cells #[.int .i64 fa, .int .i64 fe, .int .i64 pg, .slice AR nr cr, .bool true] 74)).frz 3))
            have h12 := b11.lt
            have bl : Blk ((w3.alloc (.cells #[.int .i64 fa, .int .i64 fe, .int .i64 pg, .slice AR nr cr, .bool true] 74)).setCell ⟨w.heap.size + 1 + 1, 3, none⟩ (.slice AR nr cr)) w3.heap.size 74 [.int .i64 fa, .int .i64 fe, .int .i64 pg, .slice AR nr cr, .bool true] := (Blk.new w3 74 #[.int .i64 fa, .int .i64 fe, .int .i64 pg, .slice AR nr cr, .bool true] [.int .i64 fa, .int .i64 fe, .int .i64 pg, .slice AR nr cr, .bool true] rfl).set_other ⟨w.heap.size + 1 + 1, 3, none⟩ (.slice AR nr cr) (by show w3.heap.size ≠ w.heap.size + 1 + 1; omega)
            replace b5 : Blk ((w3.alloc (.cells #[.int .i64 fa, .int .i64 fe, .int .i64 pg, .slice AR nr cr, .bool true] 74)).setCell ⟨w.heap.size + 1 + 1, 3, none⟩ (.slice AR nr cr)) w.heap.size 24 [.slice A n c] := (b5.alloc (.cells #[.int .i64 fa, .int .i64 fe, .int .i64 pg, .slice AR nr cr, .bool true] 74)).set_other ⟨w.heap.size + 1 + 1, 3, none⟩ (.slice AR nr cr) (by show w.heap.size ≠ w.heap.size + 1 + 1; omega)
            replace b10 : Blk ((w3.alloc (.cells #[.int .i64 fa, .int .i64 fe, .int .i64 pg, .slice AR nr cr, .bool true] 74)).setCell ⟨w.heap.size + 1 + 1, 3, none⟩ (.slice AR nr cr)) (w.heap.size + 1) 36 [.int .i64 0, .int .i64 0, .slice none 0 0, .slice none 0 0, .int .i64 0] := (b10.alloc (.cells #[.int .i64 fa, .int .i64 fe, .int .i64 pg, .slice AR nr cr, .bool true] 74)).set_other ⟨w.heap.size + 1 + 1, 3, none⟩ (.slice AR nr cr) (by show w.heap.size + 1 ≠ w.heap.size + 1 + 1; omega)
            replace b11 : Blk ((w3.alloc (.cells #[.int .i64 fa, .int .i64 fe, .int .i64 pg, .slice AR nr cr, .bool true] 74)).setCell ⟨w.heap.size + 1 + 1, 3, none⟩ (.slice AR nr cr)) (w.heap.size + 1 + 1) 36 [.int .i64 0, .int .i64 0, .slice none 0 0, .slice AR nr cr, .int .i64 ca] := (b11.alloc (.cells #[.int .i64 fa, .int .i64 fe, .int .i64 pg, .slice AR nr cr, .bool true] 74)).set 3 (.slice AR nr cr)
            replace lx : Later w ((w3.alloc (.cells #[.int .i64 fa, .int .i64 fe, .int .i64 pg, .slice AR nr cr, .bool true] 74)).setCell ⟨w.heap.size + 1 + 1, 3, none⟩ (.slice AR nr cr)) := (lx.alloc lx.size (.cells #[.int .i64 fa, .int .i64 fe, .int .i64 pg, .slice AR nr cr, .bool true] 74)).setCell (p := ⟨w.heap.size + 1 + 1, 3, none⟩) (by show w.heap.size ≤ w.heap.size + 1 + 1; omega) (.slice AR nr cr)
            replace hAR : Sl ((w3.alloc (.cells #[.int .i64 fa, .int .i64 fe, .int .i64 pg, .slice AR nr cr, .bool true] 74)).setCell ⟨w.heap.size + 1 + 1, 3, none⟩ (.slice AR nr cr)) 1 AR nr (N64 fr) := (hAR.keep (later1 w3 (.cells #[.int .i64 fa, .int .i64 fe, .int .i64 pg, .slice AR nr cr, .bool true] 74))).only_ne (Only.set _ (w.heap.size + 1 + 1) 3 (.slice AR nr cr)) (fun ad e => by have := hfr ad e; omega)
            have hna : ∀ ad, AR = some ad → w.heap.size + 1 + 1 < ad.block := fun ad e => by have := hfr ad e; omega
            clear c14 f14 c5 h11 hfr l3 l2
            have c5 := b5.cell (j := 0) (v := .slice A n c) rfl
            obtain ⟨u, hu⟩ : ∃ u, u = ((w3.alloc (.cells #[.int .i64 fa, .int .i64 fe, .int .i64 pg, .slice AR nr cr, .bool true] 74)).setCell ⟨w.heap.size + 1 + 1, 3, none⟩ (.slice AR nr cr)) := ⟨_, rfl⟩
            rw [← hu] at bl b5 b10 b11 lx hAR c5 ⊢
            clear hu
            obtain ⟨g, hg⟩ : ∃ g, g = w3.heap.size := ⟨_, rfl⟩
            rw [← hg] at bl h12 ⊢
            clear hg
            have e1 := bl.cell (j := 1) (v := .int .i64 fe) rfl
            have e2 := bl.cell (j := 2) (v := .int .i64 pg) rfl
            have e4 := bl.cell (j := 4) (v := .bool true) rfl
            go_upto_region 17 with (first
              | (go_at_call 34; refine (HP2.out _).mono ?_; rintro e w4 ⟨rfl, l4⟩; clear e1 e2 e4; replace bl := bl.keep l4; replace b10 := b10.keep l4; replace b11 := b11.keep l4; replace lx := Later.trans_ lx l4; replace hAR := hAR.keep l4; have e0 := bl.cell (j := 0) (v := .int .i64 fa) rfl; have e1 := bl.cell (j := 1) (v := .int .i64 fe) rfl; have e2 := bl.cell (j := 2) (v := .int .i64 pg) rfl; have e3 := bl.cell (j := 3) (v := .slice AR nr cr) rfl)
              | (go_at_call 36; (first | (with_reducible refine (H2.out _).mono ?_) | (with_reducible refine (H8.out _).mono ?_) | (with_reducible refine (H4.out _).mono ?_)); rintro r wh ⟨rfl, rfl⟩))
            clear e0 e1 e2 e3 c5 b11
            have b15 := Blk.new w4 32 #[.int .i64 p, .int .i64 fa, .slice none 0 0, .slice AR nr cr] [.int .i64 p, .int .i64 fa, .slice none 0 0, .slice AR nr cr] rfl
            have h15 := b10.lt
            have h16 := bl.lt
            replace bl := bl.alloc (.cells #[.int .i64 p, .int .i64 fa, .slice none 0 0, .slice AR nr cr] 32)
            replace b10 := b10.alloc (.cells #[.int .i64 p, .int .i64 fa, .slice none 0 0, .slice AR nr cr] 32)
            replace lx := lx.alloc lx.size (.cells #[.int .i64 p, .int .i64 fa, .slice none 0 0, .slice AR nr cr] 32)
            replace hAR := hAR.alloc (.cells #[.int .i64 p, .int .i64 fa, .slice none 0 0, .slice AR nr cr] 32)
            obtain ⟨u5, hu5⟩ : ∃ x, x = w4.alloc (.cells #[.int .i64 p, .int .i64 fa, .slice none 0 0, .slice AR nr cr] 32) := ⟨_, rfl⟩
            rw [← hu5] at b15 bl b10 lx hAR ⊢
            clear hu5 l4
            obtain ⟨g5, hg5⟩ : ∃ x, x = w4.heap.size := ⟨_, rfl⟩
            rw [← hg5] at b15 h15 h16 ⊢
            clear hg5
            have e0 := bl.cell (j := 0) (v := .int .i64 fa) rfl
            have e1 := bl.cell (j := 1) (v := .int .i64 fe) rfl
            go_wp2_with (first
              | (go_at_call 36; (first | (with_reducible refine (H16.out _).mono ?_) | (with_reducible refine (H32.out _).mono ?_)); rintro r wh ⟨rfl, rfl⟩)
              | ((with_reducible refine wpList_load_blk (o := ⟨some 131, .load 32 (.tmp 15), _, _, _, none⟩) rfl _ _ rfl g5 32 [.int .i64 p, .int .i64 fa, .slice none 0 0, .slice AR nr cr] _ ?_ b15 Try.underlying32 rfl (walk_sz _ _ _ _) ?_); rfl)
              | ((with_reducible refine wpList_store_abs (o := ⟨none, .store 36 (.tmp 10) (.tmp 132), _, _, _, none⟩) rfl _ _ _ rfl (w.heap.size + 1) 36 [.int .i64 0, .int .i64 0, .slice none 0 0, .slice none 0 0, .int .i64 0] [.int .i64 p, .int .i64 fa, .slice none 0 0, .slice AR nr cr, .int .i64 0] ?_ ?_ b10 ?_ ?_ ?_ ?_); rfl; rfl; exact wd_sz _ _ _ _ _; rfl; exact wd_one _ _ _ _ _ _ _ _ _; intro w5 b8 o5))
            subst hnr
            exact bodyPost_ret (v := .agg #[.int .i64 p, .int .i64 fa, .slice none 0 0, .slice AR fr.length cr, .int .i64 0]) (results_blk Try.results12 _ _ (w.heap.size + 1) 36 [.int .i64 p, .int .i64 fa, .slice none 0 0, .slice AR fr.length cr, .int .i64 0] _ rfl b8 Try.underlying36 rfl (wd_sz _ _ _ _ _)) rfl
              ⟨_, _, _, _, rfl, ⟨rfl, fun h => absurd h (by simp)⟩, hAR.only_ne o5 (fun ad e => by have := hna ad e; omega), Below.only lx o5 (by omega)⟩
          | true =>
            cases hb4 : Tm.has fe 4 with
            | false => exact absurd hal (by simp [Tm.allows, Tm.isSt, hb2, hb4])
            | true =>
              rw [hb4] at H4
              clear hal hb4
              have b5 := ((Blk.new w 24 #[.slice A n c] [.slice A n c] rfl).alloc (.cells #[.int .i64 0, .int .i64 0, .slice none 0 0, .slice none 0 0, .int .i64 0] 36)).alloc (.cells #[.int .i64 0, .int .i64 0, .slice none 0 0, .slice none 0 0, .int .i64 ca] 36)
              have b10 := (Blk.new' (w.alloc (.cells #[.slice A n c] 24)) (w.heap.size + 1) 36 #[.int .i64 0, .int .i64 0, .slice none 0 0, .slice none 0 0, .int .i64 0] [.int .i64 0, .int .i64 0, .slice none 0 0, .slice none 0 0, .int .i64 0] (by simp) rfl).alloc (.cells #[.int .i64 0, .int .i64 0, .slice none 0 0, .slice none 0 0, .int .i64 ca] 36)
              have b11 := Blk.new' ((w.alloc (.cells #[.slice A n c] 24)).alloc (.cells #[.int .i64 0, .int .i64 0, .slice none 0 0, .slice none 0 0, .int .i64 0] 36)) (w.heap.size + 1 + 1) 36 #[.int .i64 0, .int .i64 0, .slice none 0 0, .slice none 0 0, .int .i64 ca] [.int .i64 0, .int .i64 0, .slice none 0 0, .slice none 0 0, .int .i64 ca] (by simp) rfl
              have lx := ((later1 w (.cells #[.slice A n c] 24)).alloc (by simp) (.cells #[.int .i64 0, .int .i64 0, .slice none 0 0, .slice none 0 0, .int .i64 0] 36)).alloc (by simp; omega) (.cells #[.int .i64 0, .int .i64 0, .slice none 0 0, .slice none 0 0, .int .i64 ca] 36)
              go_enter Try.func12, Try.ntmps12
              go_upto_region 11 with (first
                | (go_at_call 32; refine (HC.out _).mono ?_; rintro e w1 ⟨rfl, rfl⟩)
                | (go_at_call 34; refine (HP.out _).mono ?_; rintro e w2 ⟨rfl, l2⟩; replace b5 := b5.keep l2; replace b10 := b10.keep l2; replace b11 := b11.keep l2; replace lx := Later.trans_ lx l2; have c5 := b5.cell (j := 0) (v := .slice A n c) rfl)
                | (go_at_call 35; refine (KF.out _ lx).mono ?_; have h11 := b11.lt; rintro e w3 ⟨AR, cr, rfl, hAR, hfr, l3⟩; clear c5; replace b5 := b5.keep l3; replace b10 := b10.keep l3; replace b11 := b11.keep l3; replace lx := Later.trans_ lx l3; have c5 := b5.cell (j := 0) (v := .slice A n c) rfl; have c14 := (b11.alloc (.cells #[.int .i64 fa, .int .i64 fe, .int .i64 pg, .slice AR nr cr, .bool true] 74)).cell (j := 3) (v := .slice none 0 0) rfl; have f14 := (b11.alloc (.cells #[.int .i64 fa, .int .i64 fe, .int .i64 pg, .slice AR nr cr, .bool true] 74)).frz 3))
              have h12 := b11.lt
              have bl : Blk ((w3.alloc (.cells #[.int .i64 fa, .int .i64 fe, .int .i64 pg, .slice AR nr cr, .bool true] 74)).setCell ⟨w.heap.size + 1 + 1, 3, none⟩ (.slice AR nr cr)) w3.heap.size 74 [.int .i64 fa, .int .i64 fe, .int .i64 pg, .slice AR nr cr, .bool true] := (Blk.new w3 74 #[.int .i64 fa, .int .i64 fe, .int .i64 pg, .slice AR nr cr, .bool true] [.int .i64 fa, .int .i64 fe, .int .i64 pg, .slice AR nr cr, .bool true] rfl).set_other ⟨w.heap.size + 1 + 1, 3, none⟩ (.slice AR nr cr) (by show w3.heap.size ≠ w.heap.size + 1 + 1; omega)
              replace b5 : Blk ((w3.alloc (.cells #[.int .i64 fa, .int .i64 fe, .int .i64 pg, .slice AR nr cr, .bool true] 74)).setCell ⟨w.heap.size + 1 + 1, 3, none⟩ (.slice AR nr cr)) w.heap.size 24 [.slice A n c] := (b5.alloc (.cells #[.int .i64 fa, .int .i64 fe, .int .i64 pg, .slice AR nr cr, .bool true] 74)).set_other ⟨w.heap.size + 1 + 1, 3, none⟩ (.slice AR nr cr) (by show w.heap.size ≠ w.heap.size + 1 + 1; omega)
              replace b10 : Blk ((w3.alloc (.cells #[.int .i64 fa, .int .i64 fe, .int .i64 pg, .slice AR nr cr, .bool true] 74)).setCell ⟨w.heap.size + 1 + 1, 3, none⟩ (.slice AR nr cr)) (w.heap.size + 1) 36 [.int .i64 0, .int .i64 0, .slice none 0 0, .slice none 0 0, .int .i64 0] := (b10.alloc (.cells #[.int .i64 fa, .int .i64 fe, .int .i64 pg, .slice AR nr cr, .bool true] 74)).set_other ⟨w.heap.size + 1 + 1, 3, none⟩ (.slice AR nr cr) (by show w.heap.size + 1 ≠ w.heap.size + 1 + 1; omega)
              replace b11 : Blk ((w3.alloc (.cells #[.int .i64 fa, .int .i64 fe, .int .i64 pg, .slice AR nr cr, .bool true] 74)).setCell ⟨w.heap.size + 1 + 1, 3, none⟩ (.slice AR nr cr)) (w.heap.size + 1 + 1) 36 [.int .i64 0, .int .i64 0, .slice none 0 0, .slice AR nr cr, .int .i64 ca] := (b11.alloc (.cells #[.int .i64 fa, .int .i64 fe, .int .i64 pg, .slice AR nr cr, .bool true] 74)).set 3 (.slice AR nr cr)
              replace lx : Later w ((w3.alloc (.cells #[.int .i64 fa, .int .i64 fe, .int .i64 pg, .slice AR nr cr, .bool true] 74)).setCell ⟨w.heap.size + 1 + 1, 3, none⟩ (.slice AR nr cr)) := (lx.alloc lx.size (.cells #[.int .i64 fa, .int .i64 fe, .int .i64 pg, .slice AR nr cr, .bool true] 74)).setCell (p := ⟨w.heap.size + 1 + 1, 3, none⟩) (by show w.heap.size ≤ w.heap.size + 1 + 1; omega) (.slice AR nr cr)
              replace hAR : Sl ((w3.alloc (.cells #[.int .i64 fa, .int .i64 fe, .int .i64 pg, .slice AR nr cr, .bool true] 74)).setCell ⟨w.heap.size + 1 + 1, 3, none⟩ (.slice AR nr cr)) 1 AR nr (N64 fr) := (hAR.keep (later1 w3 (.cells #[.int .i64 fa, .int .i64 fe, .int .i64 pg, .slice AR nr cr, .bool true] 74))).only_ne (Only.set _ (w.heap.size + 1 + 1) 3 (.slice AR nr cr)) (fun ad e => by have := hfr ad e; omega)
              have hna : ∀ ad, AR = some ad → w.heap.size + 1 + 1 < ad.block := fun ad e => by have := hfr ad e; omega
              clear c14 f14 c5 h11 hfr l3 l2
              have c5 := b5.cell (j := 0) (v := .slice A n c) rfl
              obtain ⟨u, hu⟩ : ∃ u, u = ((w3.alloc (.cells #[.int .i64 fa, .int .i64 fe, .int .i64 pg, .slice AR nr cr, .bool true] 74)).setCell ⟨w.heap.size + 1 + 1, 3, none⟩ (.slice AR nr cr)) := ⟨_, rfl⟩
              rw [← hu] at bl b5 b10 b11 lx hAR c5 ⊢
              clear hu
              obtain ⟨g, hg⟩ : ∃ g, g = w3.heap.size := ⟨_, rfl⟩
              rw [← hg] at bl h12 ⊢
              clear hg
              have e1 := bl.cell (j := 1) (v := .int .i64 fe) rfl
              have e2 := bl.cell (j := 2) (v := .int .i64 pg) rfl
              have e4 := bl.cell (j := 4) (v := .bool true) rfl
              go_upto_region 17 with (first
                | (go_at_call 34; refine (HP2.out _).mono ?_; rintro e w4 ⟨rfl, l4⟩; clear e1 e2 e4; replace bl := bl.keep l4; replace b10 := b10.keep l4; replace b11 := b11.keep l4; replace lx := Later.trans_ lx l4; replace hAR := hAR.keep l4; have e0 := bl.cell (j := 0) (v := .int .i64 fa) rfl; have e1 := bl.cell (j := 1) (v := .int .i64 fe) rfl; have e2 := bl.cell (j := 2) (v := .int .i64 pg) rfl; have e3 := bl.cell (j := 3) (v := .slice AR nr cr) rfl)
                | (go_at_call 36; (first | (with_reducible refine (H2.out _).mono ?_) | (with_reducible refine (H8.out _).mono ?_) | (with_reducible refine (H4.out _).mono ?_)); rintro r wh ⟨rfl, rfl⟩))
              clear e0 e1 e2 e3 c5 b11
              have b15 := Blk.new w4 32 #[.int .i64 p, .int .i64 fa, .slice none 0 0, .slice AR nr cr] [.int .i64 p, .int .i64 fa, .slice none 0 0, .slice AR nr cr] rfl
              have h15 := b10.lt
              have h16 := bl.lt
              replace bl := bl.alloc (.cells #[.int .i64 p, .int .i64 fa, .slice none 0 0, .slice AR nr cr] 32)
              replace b10 := b10.alloc (.cells #[.int .i64 p, .int .i64 fa, .slice none 0 0, .slice AR nr cr] 32)
              replace lx := lx.alloc lx.size (.cells #[.int .i64 p, .int .i64 fa, .slice none 0 0, .slice AR nr cr] 32)
              replace hAR := hAR.alloc (.cells #[.int .i64 p, .int .i64 fa, .slice none 0 0, .slice AR nr cr] 32)
              obtain ⟨u5, hu5⟩ : ∃ x, x = w4.alloc (.cells #[.int .i64 p, .int .i64 fa, .slice none 0 0, .slice AR nr cr] 32) := ⟨_, rfl⟩
              rw [← hu5] at b15 bl b10 lx hAR ⊢
              clear hu5 l4
              obtain ⟨g5, hg5⟩ : ∃ x, x = w4.heap.size := ⟨_, rfl⟩
              rw [← hg5] at b15 h15 h16 ⊢
              clear hg5
              have e0 := bl.cell (j := 0) (v := .int .i64 fa) rfl
              have e1 := bl.cell (j := 1) (v := .int .i64 fe) rfl
              go_wp2_with (first
                | (go_at_call 36; (first | (with_reducible refine (H16.out _).mono ?_) | (with_reducible refine (H32.out _).mono ?_)); rintro r wh ⟨rfl, rfl⟩)
                | ((with_reducible refine wpList_load_blk (o := ⟨some 131, .load 32 (.tmp 15), _, _, _, none⟩) rfl _ _ rfl g5 32 [.int .i64 p, .int .i64 fa, .slice none 0 0, .slice AR nr cr] _ ?_ b15 Try.underlying32 rfl (walk_sz _ _ _ _) ?_); rfl)
                | ((with_reducible refine wpList_store_abs (o := ⟨none, .store 36 (.tmp 10) (.tmp 132), _, _, _, none⟩) rfl _ _ _ rfl (w.heap.size + 1) 36 [.int .i64 0, .int .i64 0, .slice none 0 0, .slice none 0 0, .int .i64 0] [.int .i64 p, .int .i64 fa, .slice none 0 0, .slice AR nr cr, .int .i64 0] ?_ ?_ b10 ?_ ?_ ?_ ?_); rfl; rfl; exact wd_sz _ _ _ _ _; rfl; exact wd_one _ _ _ _ _ _ _ _ _; intro w5 b8 o5))
              subst hnr
              exact bodyPost_ret (v := .agg #[.int .i64 p, .int .i64 fa, .slice none 0 0, .slice AR fr.length cr, .int .i64 0]) (results_blk Try.results12 _ _ (w.heap.size + 1) 36 [.int .i64 p, .int .i64 fa, .slice none 0 0, .slice AR fr.length cr, .int .i64 0] _ rfl b8 Try.underlying36 rfl (wd_sz _ _ _ _ _)) rfl
                ⟨_, _, _, _, rfl, ⟨rfl, fun h => absurd h (by simp)⟩, hAR.only_ne o5 (fun ad e => by have := hna ad e; omega), Below.only lx o5 (by omega)⟩
  · cases hb16 : Tm.has fe 16 with
    | false => exact absurd hx (by simp [Tm.after, Tm.isSt, Tm.wi, hb16]; split <;> omega)
    | true =>
      rw [hb16] at H16
      cases hb32 : Tm.has fe 32 with
      | false => exact absurd hx (by simp [Tm.after, Tm.isSt, Tm.wi, hb16, hb32]; omega)
      | true =>
        have H32 := Lib.hid fun w' => rhas_any fe 32 w' ⟨he.1, by omega⟩ (by omega)
        rw [hb32] at H32
        clear hx hb16 hb32 he hpp
        cases hb2 : Tm.has fe 2 with
        | false => exact absurd hal (by simp [Tm.allows, Tm.isSt, hb2])
        | true =>
          rw [hb2] at H2
          cases us with
          | false =>
            clear hal
            have b5 := ((Blk.new w 24 #[.slice A n c] [.slice A n c] rfl).alloc (.cells #[.int .i64 0, .int .i64 0, .slice none 0 0, .slice none 0 0, .int .i64 0] 36)).alloc (.cells #[.int .i64 0, .int .i64 0, .slice none 0 0, .slice none 0 0, .int .i64 ca] 36)
            have b10 := (Blk.new' (w.alloc (.cells #[.slice A n c] 24)) (w.heap.size + 1) 36 #[.int .i64 0, .int .i64 0, .slice none 0 0, .slice none 0 0, .int .i64 0] [.int .i64 0, .int .i64 0, .slice none 0 0, .slice none 0 0, .int .i64 0] (by simp) rfl).alloc (.cells #[.int .i64 0, .int .i64 0, .slice none 0 0, .slice none 0 0, .int .i64 ca] 36)
            have b11 := Blk.new' ((w.alloc (.cells #[.slice A n c] 24)).alloc (.cells #[.int .i64 0, .int .i64 0, .slice none 0 0, .slice none 0 0, .int .i64 0] 36)) (w.heap.size + 1 + 1) 36 #[.int .i64 0, .int .i64 0, .slice none 0 0, .slice none 0 0, .int .i64 ca] [.int .i64 0, .int .i64 0, .slice none 0 0, .slice none 0 0, .int .i64 ca] (by simp) rfl
            have lx := ((later1 w (.cells #[.slice A n c] 24)).alloc (by simp) (.cells #[.int .i64 0, .int .i64 0, .slice none 0 0, .slice none 0 0, .int .i64 0] 36)).alloc (by simp; omega) (.cells #[.int .i64 0, .int .i64 0, .slice none 0 0, .slice none 0 0, .int .i64 ca] 36)
            go_enter Try.func12, Try.ntmps12
            go_upto_region 11 with (first
              | (go_at_call 32; refine (HC.out _).mono ?_; rintro e w1 ⟨rfl, rfl⟩)
              | (go_at_call 34; refine (HP.out _).mono ?_; rintro e w2 ⟨rfl, l2⟩; replace b5 := b5.keep l2; replace b10 := b10.keep l2; replace b11 := b11.keep l2; replace lx := Later.trans_ lx l2; have c5 := b5.cell (j := 0) (v := .slice A n c) rfl)
              | (go_at_call 35; refine (KF.out _ lx).mono ?_; have h11 := b11.lt; rintro e w3 ⟨AR, cr, rfl, hAR, hfr, l3⟩; clear c5; replace b5 := b5.keep l3; replace b10 := b10.keep l3; replace b11 := b11.keep l3; replace lx := Later.trans_ lx l3; have c5 := b5.cell (j := 0) (v := .slice A n c) rfl; have c14 := (b11.alloc (.cells #[.int .i64 fa, .int .i64 fe, .int .i64 pg, .slice AR nr cr, .bool true] 74)).cell (j := 3) (v := .slice none 0 0) rfl; have f14 := (b11.alloc (.cells #[.int .i64 fa, .int .i64 fe, .int .i64 pg, .slice AR nr cr, .bool true] 74)).frz 3))
            have h12 := b11.lt
            have bl : Blk ((w3.alloc (.cells #[.int .i64 fa, .int .i64 fe, .int .i64 pg, .slice AR nr cr, .bool true] 74)).setCell ⟨w.heap.size + 1 + 1, 3, none⟩ (.slice AR nr cr)) w3.heap.size 74 [.int .i64 fa, .int .i64 fe, .int .i64 pg, .slice AR nr cr, .bool true] := (Blk.new w3 74 #[.int .i64 fa, .int .i64 fe, .int .i64 pg, .slice AR nr cr, .bool true] [.int .i64 fa, .int .i64 fe, .int .i64 pg, .slice AR nr cr, .bool true] rfl).set_other ⟨w.heap.size + 1 + 1, 3, none⟩ (.slice AR nr cr) (by show w3.heap.size ≠ w.heap.size + 1 + 1; omega)
            replace b5 : Blk ((w3.alloc (.cells #[.int .i64 fa, .int .i64 fe, .int .i64 pg, .slice AR nr cr, .bool true] 74)).setCell ⟨w.heap.size + 1 + 1, 3, none⟩ (.slice AR nr cr)) w.heap.size 24 [.slice A n c] := (b5.alloc (.cells #[.int .i64 fa, .int .i64 fe, .int .i64 pg, .slice AR nr cr, .bool true] 74)).set_other ⟨w.heap.size + 1 + 1, 3, none⟩ (.slice AR nr cr) (by show w.heap.size ≠ w.heap.size + 1 + 1; omega)
            replace b10 : Blk ((w3.alloc (.cells #[.int .i64 fa, .int .i64 fe, .int .i64 pg, .slice AR nr cr, .bool true] 74)).setCell ⟨w.heap.size + 1 + 1, 3, none⟩ (.slice AR nr cr)) (w.heap.size + 1) 36 [.int .i64 0, .int .i64 0, .slice none 0 0, .slice none 0 0, .int .i64 0] := (b10.alloc (.cells #[.int .i64 fa, .int .i64 fe, .int .i64 pg, .slice AR nr cr, .bool true] 74)).set_other ⟨w.heap.size + 1 + 1, 3, none⟩ (.slice AR nr cr) (by show w.heap.size + 1 ≠ w.heap.size + 1 + 1; omega)
            replace b11 : Blk ((w3.alloc (.cells #[.int .i64 fa, .int .i64 fe, .int .i64 pg, .slice AR nr cr, .bool true] 74)).setCell ⟨w.heap.size + 1 + 1, 3, none⟩ (.slice AR nr cr)) (w.heap.size + 1 + 1) 36 [.int .i64 0, .int .i64 0, .slice none 0 0, .slice AR nr cr, .int .i64 ca] := (b11.alloc (.cells #[.int .i64 fa, .int .i64 fe, .int .i64 pg, .slice AR nr cr, .bool true] 74)).set 3 (.slice AR nr cr)
            replace lx : Later w ((w3.alloc (.cells #[.int .i64 fa, .int .i64 fe, .int .i64 pg, .slice AR nr cr, .bool true] 74)).setCell ⟨w.heap.size + 1 + 1, 3, none⟩ (.slice AR nr cr)) := (lx.alloc lx.size (.cells #[.int .i64 fa, .int .i64 fe, .int .i64 pg, .slice AR nr cr, .bool true] 74)).setCell (p := ⟨w.heap.size + 1 + 1, 3, none⟩) (by show w.heap.size ≤ w.heap.size + 1 + 1; omega) (.slice AR nr cr)
            replace hAR : Sl ((w3.alloc (.cells #[.int .i64 fa, .int .i64 fe, .int .i64 pg, .slice AR nr cr, .bool true] 74)).setCell ⟨w.heap.size + 1 + 1, 3, none⟩ (.slice AR nr cr)) 1 AR nr (N64 fr) := (hAR.keep (later1 w3 (.cells #[.int .i64 fa, .int .i64 fe, .int .i64 pg, .slice AR nr cr, .bool true] 74))).only_ne (Only.set _ (w.heap.size + 1 + 1) 3 (.slice AR nr cr)) (fun ad e => by have := hfr ad e; omega)
            have hna : ∀ ad, AR = some ad → w.heap.size + 1 + 1 < ad.block := fun ad e => by have := hfr ad e; omega
            clear c14 f14 c5 h11 hfr l3 l2
            have c5 := b5.cell (j := 0) (v := .slice A n c) rfl
            obtain ⟨u, hu⟩ : ∃ u, u = ((w3.alloc (.cells #[.int .i64 fa, .int .i64 fe, .int .i64 pg, .slice AR nr cr, .bool true] 74)).setCell ⟨w.heap.size + 1 + 1, 3, none⟩ (.slice AR nr cr)) := ⟨_, rfl⟩
            rw [← hu] at bl b5 b10 b11 lx hAR c5 ⊢
            clear hu
            obtain ⟨g, hg⟩ : ∃ g, g = w3.heap.size := ⟨_, rfl⟩
            rw [← hg] at bl h12 ⊢
            clear hg
            have e1 := bl.cell (j := 1) (v := .int .i64 fe) rfl
            have e2 := bl.cell (j := 2) (v := .int .i64 pg) rfl
            have e4 := bl.cell (j := 4) (v := .bool true) rfl
            go_upto_region 17 with (first
              | (go_at_call 34; refine (HP2.out _).mono ?_; rintro e w4 ⟨rfl, l4⟩; clear e1 e2 e4; replace bl := bl.keep l4; replace b10 := b10.keep l4; replace b11 := b11.keep l4; replace lx := Later.trans_ lx l4; replace hAR := hAR.keep l4; have e0 := bl.cell (j := 0) (v := .int .i64 fa) rfl; have e1 := bl.cell (j := 1) (v := .int .i64 fe) rfl; have e2 := bl.cell (j := 2) (v := .int .i64 pg) rfl; have e3 := bl.cell (j := 3) (v := .slice AR nr cr) rfl)
              | (go_at_call 36; (first | (with_reducible refine (H2.out _).mono ?_) | (with_reducible refine (H8.out _).mono ?_) | (with_reducible refine (H4.out _).mono ?_)); rintro r wh ⟨rfl, rfl⟩))
            clear e0 e1 e2 e3 c5 b11
            have b15 := Blk.new w4 32 #[.int .i64 p, .int .i64 fa, .slice none 0 0, .slice AR nr cr] [.int .i64 p, .int .i64 fa, .slice none 0 0, .slice AR nr cr] rfl
            have h15 := b10.lt
            have h16 := bl.lt
            replace bl := bl.alloc (.cells #[.int .i64 p, .int .i64 fa, .slice none 0 0, .slice AR nr cr] 32)
            replace b10 := b10.alloc (.cells #[.int .i64 p, .int .i64 fa, .slice none 0 0, .slice AR nr cr] 32)
            replace lx := lx.alloc lx.size (.cells #[.int .i64 p, .int .i64 fa, .slice none 0 0, .slice AR nr cr] 32)
            replace hAR := hAR.alloc (.cells #[.int .i64 p, .int .i64 fa, .slice none 0 0, .slice AR nr cr] 32)
            obtain ⟨u5, hu5⟩ : ∃ x, x = w4.alloc (.cells #[.int .i64 p, .int .i64 fa, .slice none 0 0, .slice AR nr cr] 32) := ⟨_, rfl⟩
            rw [← hu5] at b15 bl b10 lx hAR ⊢
            clear hu5 l4
            obtain ⟨g5, hg5⟩ : ∃ x, x = w4.heap.size := ⟨_, rfl⟩
            rw [← hg5] at b15 h15 h16 ⊢
            clear hg5
            have e0 := bl.cell (j := 0) (v := .int .i64 fa) rfl
            have e1 := bl.cell (j := 1) (v := .int .i64 fe) rfl
            go_wp2_with (first
              | (go_at_call 36; (first | (with_reducible refine (H16.out _).mono ?_) | (with_reducible refine (H32.out _).mono ?_)); rintro r wh ⟨rfl, rfl⟩)
              | ((with_reducible refine wpList_load_blk (o := ⟨some 131, .load 32 (.tmp 15), _, _, _, none⟩) rfl _ _ rfl g5 32 [.int .i64 p, .int .i64 fa, .slice none 0 0, .slice AR nr cr] _ ?_ b15 Try.underlying32 rfl (walk_sz _ _ _ _) ?_); rfl)
              | ((with_reducible refine wpList_store_abs (o := ⟨none, .store 36 (.tmp 10) (.tmp 132), _, _, _, none⟩) rfl _ _ _ rfl (w.heap.size + 1) 36 [.int .i64 0, .int .i64 0, .slice none 0 0, .slice none 0 0, .int .i64 0] [.int .i64 p, .int .i64 fa, .slice none 0 0, .slice AR nr cr, .int .i64 0] ?_ ?_ b10 ?_ ?_ ?_ ?_); rfl; rfl; exact wd_sz _ _ _ _ _; rfl; exact wd_one _ _ _ _ _ _ _ _ _; intro w5 b8 o5))
            subst hnr
            exact bodyPost_ret (v := .agg #[.int .i64 p, .int .i64 fa, .slice none 0 0, .slice AR fr.length cr, .int .i64 0]) (results_blk Try.results12 _ _ (w.heap.size + 1) 36 [.int .i64 p, .int .i64 fa, .slice none 0 0, .slice AR fr.length cr, .int .i64 0] _ rfl b8 Try.underlying36 rfl (wd_sz _ _ _ _ _)) rfl
              ⟨_, _, _, _, rfl, ⟨rfl, fun h => absurd h (by simp)⟩, hAR.only_ne o5 (fun ad e => by have := hna ad e; omega), Below.only lx o5 (by omega)⟩
          | true =>
            cases hb4 : Tm.has fe 4 with
            | false => exact absurd hal (by simp [Tm.allows, Tm.isSt, hb2, hb4])
            | true =>
              rw [hb4] at H4
              clear hal hb4
              have b5 := ((Blk.new w 24 #[.slice A n c] [.slice A n c] rfl).alloc (.cells #[.int .i64 0, .int .i64 0, .slice none 0 0, .slice none 0 0, .int .i64 0] 36)).alloc (.cells #[.int .i64 0, .int .i64 0, .slice none 0 0, .slice none 0 0, .int .i64 ca] 36)
              have b10 := (Blk.new' (w.alloc (.cells #[.slice A n c] 24)) (w.heap.size + 1) 36 #[.int .i64 0, .int .i64 0, .slice none 0 0, .slice none 0 0, .int .i64 0] [.int .i64 0, .int .i64 0, .slice none 0 0, .slice none 0 0, .int .i64 0] (by simp) rfl).alloc (.cells #[.int .i64 0, .int .i64 0, .slice none 0 0, .slice none 0 0, .int .i64 ca] 36)
              have b11 := Blk.new' ((w.alloc (.cells #[.slice A n c] 24)).alloc (.cells #[.int .i64 0, .int .i64 0, .slice none 0 0, .slice none 0 0, .int .i64 0] 36)) (w.heap.size + 1 + 1) 36 #[.int .i64 0, .int .i64 0, .slice none 0 0, .slice none 0 0, .int .i64 ca] [.int .i64 0, .int .i64 0, .slice none 0 0, .slice none 0 0, .int .i64 ca] (by simp) rfl
              have lx := ((later1 w (.cells #[.slice A n c] 24)).alloc (by simp) (.cells #[.int .i64 0, .int .i64 0, .slice none 0 0, .slice none 0 0, .int .i64 0] 36)).alloc (by simp; omega) (.cells #[.int .i64 0, .int .i64 0, .slice none 0 0, .slice none 0 0, .int .i64 ca] 36)
              go_enter Try.func12, Try.ntmps12
              go_upto_region 11 with (first
                | (go_at_call 32; refine (HC.out _).mono ?_; rintro e w1 ⟨rfl, rfl⟩)
                | (go_at_call 34; refine (HP.out _).mono ?_; rintro e w2 ⟨rfl, l2⟩; replace b5 := b5.keep l2; replace b10 := b10.keep l2; replace b11 := b11.keep l2; replace lx := Later.trans_ lx l2; have c5 := b5.cell (j := 0) (v := .slice A n c) rfl)
                | (go_at_call 35; refine (KF.out _ lx).mono ?_; have h11 := b11.lt; rintro e w3 ⟨AR, cr, rfl, hAR, hfr, l3⟩; clear c5; replace b5 := b5.keep l3; replace b10 := b10.keep l3; replace b11 := b11.keep l3; replace lx := Later.trans_ lx l3; have c5 := b5.cell (j := 0) (v := .slice A n c) rfl; have c14 := (b11.alloc (.cells #[.int .i64 fa, .int .i64 fe, .int .i64 pg, .slice AR nr cr, .bool true] 74)).cell (j := 3) (v := .slice none 0 0) rfl; have f14 := (b11.alloc (.cells #[.int .i64 fa, .int .i64 fe, .int .i64 pg, .slice AR nr cr, .bool true] 74)).frz 3))
              have h12 := b11.lt
              have bl : Blk ((w3.alloc (.cells #[.int .i64 fa, .int .i64 fe, .int .i64 pg, .slice AR nr cr, .bool true] 74)).setCell ⟨w.heap.size + 1 + 1, 3, none⟩ (.slice AR nr cr)) w3.heap.size 74 [.int .i64 fa, .int .i64 fe, .int .i64 pg, .slice AR nr cr, .bool true] := (Blk.new w3 74 #[.int .i64 fa, .int .i64 fe, .int .i64 pg, .slice AR nr cr, .bool true] [.int .i64 fa, .int .i64 fe, .int .i64 pg, .slice AR nr cr, .bool true] rfl).set_other ⟨w.heap.size + 1 + 1, 3, none⟩ (.slice AR nr cr) (by show w3.heap.size ≠ w.heap.size + 1 + 1; omega)
              replace b5 : Blk ((w3.alloc (.cells #[.int .i64 fa, .int .i64 fe, .int .i64 pg, .slice AR nr cr, .bool true] 74)).setCell ⟨w.heap.size + 1 + 1, 3, none⟩ (.slice AR nr cr)) w.heap.size 24 [.slice A n c] := (b5.alloc (.cells #[.int .i64 fa, .int .i64 fe, .int .i64 pg, .slice AR nr cr, .bool true] 74)).set_other ⟨w.heap.size + 1 + 1, 3, none⟩ (.slice AR nr cr) (by show w.heap.size ≠ w.heap.size + 1 + 1; omega)
              replace b10 : Blk ((w3.alloc (.cells #[.int .i64 fa, .int .i64 fe, .int .i64 pg, .slice AR nr cr, .bool true] 74)).setCell ⟨w.heap.size + 1 + 1, 3, none⟩ (.slice AR nr cr)) (w.heap.size + 1) 36 [.int .i64 0, .int .i64 0, .slice none 0 0, .slice none 0 0, .int .i64 0] := (b10.alloc (.cells #[.int .i64 fa, .int .i64 fe, .int .i64 pg, .slice AR nr cr, .bool true] 74)).set_other ⟨w.heap.size + 1 + 1, 3, none⟩ (.slice AR nr cr) (by show w.heap.size + 1 ≠ w.heap.size + 1 + 1; omega)
              replace b11 : Blk ((w3.alloc (.cells #[.int .i64 fa, .int .i64 fe, .int .i64 pg, .slice AR nr cr, .bool true] 74)).setCell ⟨w.heap.size + 1 + 1, 3, none⟩ (.slice AR nr cr)) (w.heap.size + 1 + 1) 36 [.int .i64 0, .int .i64 0, .slice none 0 0, .slice AR nr cr, .int .i64 ca] := (b11.alloc (.cells #[.int .i64 fa, .int .i64 fe, .int .i64 pg, .slice AR nr cr, .bool true] 74)).set 3 (.slice AR nr cr)
              replace lx : Later w ((w3.alloc (.cells #[.int .i64 fa, .int .i64 fe, .int .i64 pg, .slice AR nr cr, .bool true] 74)).setCell ⟨w.heap.size + 1 + 1, 3, none⟩ (.slice AR nr cr)) := (lx.alloc lx.size (.cells #[.int .i64 fa, .int .i64 fe, .int .i64 pg, .slice AR nr cr, .bool true] 74)).setCell (p := ⟨w.heap.size + 1 + 1, 3, none⟩) (by show w.heap.size ≤ w.heap.size + 1 + 1; omega) (.slice AR nr cr)
              replace hAR : Sl ((w3.alloc (.cells #[.int .i64 fa, .int .i64 fe, .int .i64 pg, .slice AR nr cr, .bool true] 74)).setCell ⟨w.heap.size + 1 + 1, 3, none⟩ (.slice AR nr cr)) 1 AR nr (N64 fr) := (hAR.keep (later1 w3 (.cells #[.int .i64 fa, .int .i64 fe, .int .i64 pg, .slice AR nr cr, .bool true] 74))).only_ne (Only.set _ (w.heap.size + 1 + 1) 3 (.slice AR nr cr)) (fun ad e => by have := hfr ad e; omega)
              have hna : ∀ ad, AR = some ad → w.heap.size + 1 + 1 < ad.block := fun ad e => by have := hfr ad e; omega
              clear c14 f14 c5 h11 hfr l3 l2
              have c5 := b5.cell (j := 0) (v := .slice A n c) rfl
              obtain ⟨u, hu⟩ : ∃ u, u = ((w3.alloc (.cells #[.int .i64 fa, .int .i64 fe, .int .i64 pg, .slice AR nr cr, .bool true] 74)).setCell ⟨w.heap.size + 1 + 1, 3, none⟩ (.slice AR nr cr)) := ⟨_, rfl⟩
              rw [← hu] at bl b5 b10 b11 lx hAR c5 ⊢
              clear hu
              obtain ⟨g, hg⟩ : ∃ g, g = w3.heap.size := ⟨_, rfl⟩
              rw [← hg] at bl h12 ⊢
              clear hg
              have e1 := bl.cell (j := 1) (v := .int .i64 fe) rfl
              have e2 := bl.cell (j := 2) (v := .int .i64 pg) rfl
              have e4 := bl.cell (j := 4) (v := .bool true) rfl
              go_upto_region 17 with (first
                | (go_at_call 34; refine (HP2.out _).mono ?_; rintro e w4 ⟨rfl, l4⟩; clear e1 e2 e4; replace bl := bl.keep l4; replace b10 := b10.keep l4; replace b11 := b11.keep l4; replace lx := Later.trans_ lx l4; replace hAR := hAR.keep l4; have e0 := bl.cell (j := 0) (v := .int .i64 fa) rfl; have e1 := bl.cell (j := 1) (v := .int .i64 fe) rfl; have e2 := bl.cell (j := 2) (v := .int .i64 pg) rfl; have e3 := bl.cell (j := 3) (v := .slice AR nr cr) rfl)
                | (go_at_call 36; (first | (with_reducible refine (H2.out _).mono ?_) | (with_reducible refine (H8.out _).mono ?_) | (with_reducible refine (H4.out _).mono ?_)); rintro r wh ⟨rfl, rfl⟩))
              clear e0 e1 e2 e3 c5 b11
              have b15 := Blk.new w4 32 #[.int .i64 p, .int .i64 fa, .slice none 0 0, .slice AR nr cr] [.int .i64 p, .int .i64 fa, .slice none 0 0, .slice AR nr cr] rfl
              have h15 := b10.lt
              have h16 := bl.lt
              replace bl := bl.alloc (.cells #[.int .i64 p, .int .i64 fa, .slice none 0 0, .slice AR nr cr] 32)
              replace b10 := b10.alloc (.cells #[.int .i64 p, .int .i64 fa, .slice none 0 0, .slice AR nr cr] 32)
              replace lx := lx.alloc lx.size (.cells #[.int .i64 p, .int .i64 fa, .slice none 0 0, .slice AR nr cr] 32)
              replace hAR := hAR.alloc (.cells #[.int .i64 p, .int .i64 fa, .slice none 0 0, .slice AR nr cr] 32)
              obtain ⟨u5, hu5⟩ : ∃ x, x = w4.alloc (.cells #[.int .i64 p, .int .i64 fa, .slice none 0 0, .slice AR nr cr] 32) := ⟨_, rfl⟩
              rw [← hu5] at b15 bl b10 lx hAR ⊢
              clear hu5 l4
              obtain ⟨g5, hg5⟩ : ∃ x, x = w4.heap.size := ⟨_, rfl⟩
              rw [← hg5] at b15 h15 h16 ⊢
              clear hg5
              have e0 := bl.cell (j := 0) (v := .int .i64 fa) rfl
              have e1 := bl.cell (j := 1) (v := .int .i64 fe) rfl
              go_wp2_with (first
                | (go_at_call 36; (first | (with_reducible refine (H16.out _).mono ?_) | (with_reducible refine (H32.out _).mono ?_)); rintro r wh ⟨rfl, rfl⟩)
                | ((with_reducible refine wpList_load_blk (o := ⟨some 131, .load 32 (.tmp 15), _, _, _, none⟩) rfl _ _ rfl g5 32 [.int .i64 p, .int .i64 fa, .slice none 0 0, .slice AR nr cr] _ ?_ b15 Try.underlying32 rfl (walk_sz _ _ _ _) ?_); rfl)
                | ((with_reducible refine wpList_store_abs (o := ⟨none, .store 36 (.tmp 10) (.tmp 132), _, _, _, none⟩) rfl _ _ _ rfl (w.heap.size + 1) 36 [.int .i64 0, .int .i64 0, .slice none 0 0, .slice none 0 0, .int .i64 0] [.int .i64 p, .int .i64 fa, .slice none 0 0, .slice AR nr cr, .int .i64 0] ?_ ?_ b10 ?_ ?_ ?_ ?_); rfl; rfl; exact wd_sz _ _ _ _ _; rfl; exact wd_one _ _ _ _ _ _ _ _ _; intro w5 b8 o5))
              subst hnr
              exact bodyPost_ret (v := .agg #[.int .i64 p, .int .i64 fa, .slice none 0 0, .slice AR fr.length cr, .int .i64 0]) (results_blk Try.results12 _ _ (w.heap.size + 1) 36 [.int .i64 p, .int .i64 fa, .slice none 0 0, .slice AR fr.length cr, .int .i64 0] _ rfl b8 Try.underlying36 rfl (wd_sz _ _ _ _ _)) rfl
                ⟨_, _, _, _, rfl, ⟨rfl, fun h => absurd h (by simp)⟩, hAR.only_ne o5 (fun ad e => by have := hna ad e; omega), Below.only lx o5 (by omega)⟩
  · cases hb16 : Tm.has fe 16 with
    | false => exact absurd hx (by simp [Tm.after, Tm.isSt, Tm.wi, hb16]; omega)
    | true =>
      rw [hb16] at H16
      clear hx hb16 he hpp
      cases hb8 : Tm.has fe 8 with
      | false => exact absurd hal (by simp [Tm.allows, Tm.isSt, hb8])
      | true =>
        rw [hb8] at H8
        cases us with
        | false =>
          clear hal
          have b5 := ((Blk.new w 24 #[.slice A n c] [.slice A n c] rfl).alloc (.cells #[.int .i64 0, .int .i64 0, .slice none 0 0, .slice none 0 0, .int .i64 0] 36)).alloc (.cells #[.int .i64 0, .int .i64 0, .slice none 0 0, .slice none 0 0, .int .i64 ca] 36)
          have b10 := (Blk.new' (w.alloc (.cells #[.slice A n c] 24)) (w.heap.size + 1) 36 #[.int .i64 0, .int .i64 0, .slice none 0 0, .slice none 0 0, .int .i64 0] [.int .i64 0, .int .i64 0, .slice none 0 0, .slice none 0 0, .int .i64 0] (by simp) rfl).alloc (.cells #[.int .i64 0, .int .i64 0, .slice none 0 0, .slice none 0 0, .int .i64 ca] 36)
          have b11 := Blk.new' ((w.alloc (.cells #[.slice A n c] 24)).alloc (.cells #[.int .i64 0, .int .i64 0, .slice none 0 0, .slice none 0 0, .int .i64 0] 36)) (w.heap.size + 1 + 1) 36 #[.int .i64 0, .int .i64 0, .slice none 0 0, .slice none 0 0, .int .i64 ca] [.int .i64 0, .int .i64 0, .slice none 0 0, .slice none 0 0, .int .i64 ca] (by simp) rfl
          have lx := ((later1 w (.cells #[.slice A n c] 24)).alloc (by simp) (.cells #[.int .i64 0, .int .i64 0, .slice none 0 0, .slice none 0 0, .int .i64 0] 36)).alloc (by simp; omega) (.cells #[.int .i64 0, .int .i64 0, .slice none 0 0, .slice none 0 0, .int .i64 ca] 36)
          go_enter Try.func12, Try.ntmps12
          go_upto_region 11 with (first
            | (go_at_call 32; refine (HC.out _).mono ?_; rintro e w1 ⟨rfl, rfl⟩)
            | (go_at_call 34; refine (HP.out _).mono ?_; rintro e w2 ⟨rfl, l2⟩; replace b5 := b5.keep l2; replace b10 := b10.keep l2; replace b11 := b11.keep l2; replace lx := Later.trans_ lx l2; have c5 := b5.cell (j := 0) (v := .slice A n c) rfl)
            | (go_at_call 35; refine (KF.out _ lx).mono ?_; have h11 := b11.lt; rintro e w3 ⟨AR, cr, rfl, hAR, hfr, l3⟩; clear c5; replace b5 := b5.keep l3; replace b10 := b10.keep l3; replace b11 := b11.keep l3; replace lx := Later.trans_ lx l3; have c5 := b5.cell (j := 0) (v := .slice A n c) rfl; have c14 := (b11.alloc (.cells #[.int .i64 fa, .int .i64 fe, .int .i64 pg, .slice AR nr cr, .bool true] 74)).cell (j := 3) (v := .slice none 0 0) rfl; have f14 := (b11.alloc (.cells #[.int .i64 fa, .int .i64 fe, .int .i64 pg, .slice AR nr cr, .bool true] 74)).frz 3))
          have h12 := b11.lt
          have bl : Blk ((w3.alloc (.cells #[.int .i64 fa, .int .i64 fe, .int .i64 pg, .slice AR nr cr, .bool true] 74)).setCell ⟨w.heap.size + 1 + 1, 3, none⟩ (.slice AR nr cr)) w3.heap.size 74 [.int .i64 fa, .int .i64 fe, .int .i64 pg, .slice AR nr cr, .bool true] := (Blk.new w3 74 #[.int .i64 fa, .int .i64 fe, .int .i64 pg, .slice AR nr cr, .bool true] [.int .i64 fa, .int .i64 fe, .int .i64 pg, .slice AR nr cr, .bool true] rfl).set_other ⟨w.heap.size + 1 + 1, 3, none⟩ (.slice AR nr cr) (by show w3.heap.size ≠ w.heap.size + 1 + 1; omega)
          replace b5 : Blk ((w3.alloc (.cells #[.int .i64 fa, .int .i64 fe, .int .i64 pg, .slice AR nr cr, .bool true] 74)).setCell ⟨w.heap.size + 1 + 1, 3, none⟩ (.slice AR nr cr)) w.heap.size 24 [.slice A n c] := (b5.alloc (.cells #[.int .i64 fa, .int .i64 fe, .int .i64 pg, .slice AR nr cr, .bool true] 74)).set_other ⟨w.heap.size + 1 + 1, 3, none⟩ (.slice AR nr cr) (by show w.heap.size ≠ w.heap.size + 1 + 1; omega)
          replace b10 : Blk ((w3.alloc (.cells #[.int .i64 fa, .int .i64 fe, .int .i64 pg, .slice AR nr cr, .bool true] 74)).setCell ⟨w.heap.size + 1 + 1, 3, none⟩ (.slice AR nr cr)) (w.heap.size + 1) 36 [.int .i64 0, .int .i64 0, .slice none 0 0, .slice none 0 0, .int .i64 0] := (b10.alloc (.cells #[.int .i64 fa, .int .i64 fe, .int .i64 pg, .slice AR nr cr, .bool true] 74)).set_other ⟨w.heap.size + 1 + 1, 3, none⟩ (.slice AR nr cr) (by show w.heap.size + 1 ≠ w.heap.size + 1 + 1; omega)
          replace b11 : Blk ((w3.alloc (.cells #[.int .i64 fa, .int .i64 fe, .int .i64 pg, .slice AR nr cr, .bool true] 74)).setCell ⟨w.heap.size + 1 + 1, 3, none⟩ (.slice AR nr cr)) (w.heap.size + 1 + 1) 36 [.int .i64 0, .int .i64 0, .slice none 0 0, .slice AR nr cr, .int .i64 ca] := (b11.alloc (.cells #[.int .i64 fa, .int .i64 fe, .int .i64 pg, .slice AR nr cr, .bool true] 74)).set 3 (.slice AR nr cr)
          replace lx : Later w ((w3.alloc (.cells #[.int .i64 fa, .int .i64 fe, .int .i64 pg, .slice AR nr cr, .bool true] 74)).setCell ⟨w.heap.size + 1 + 1, 3, none⟩ (.slice AR nr cr)) := (lx.alloc lx.size (.cells #[.int .i64 fa, .int .i64 fe, .int .i64 pg, .slice AR nr cr, .bool true] 74)).setCell (p := ⟨w.heap.size + 1 + 1, 3, none⟩) (by show w.heap.size ≤ w.heap.size + 1 + 1; omega) (.slice AR nr cr)
          replace hAR : Sl ((w3.alloc (.cells #[.int .i64 fa, .int .i64 fe, .int .i64 pg, .slice AR nr cr, .bool true] 74)).setCell ⟨w.heap.size + 1 + 1, 3, none⟩ (.slice AR nr cr)) 1 AR nr (N64 fr) := (hAR.keep (later1 w3 (.cells #[.int .i64 fa, .int .i64 fe, .int .i64 pg, .slice AR nr cr, .bool true] 74))).only_ne (Only.set _ (w.heap.size + 1 + 1) 3 (.slice AR nr cr)) (fun ad e => by have := hfr ad e; omega)
          have hna : ∀ ad, AR = some ad → w.heap.size + 1 + 1 < ad.block := fun ad e => by have := hfr ad e; omega
          clear c14 f14 c5 h11 hfr l3 l2
          have c5 := b5.cell (j := 0) (v := .slice A n c) rfl
          obtain ⟨u, hu⟩ : ∃ u, u = ((w3.alloc (.cells #[.int .i64 fa, .int .i64 fe, .int .i64 pg, .slice AR nr cr, .bool true] 74)).setCell ⟨w.heap.size + 1 + 1, 3, none⟩ (.slice AR nr cr)) := ⟨_, rfl⟩
          rw [← hu] at bl b5 b10 b11 lx hAR c5 ⊢
          clear hu
          obtain ⟨g, hg⟩ : ∃ g, g = w3.heap.size := ⟨_, rfl⟩
          rw [← hg] at bl h12 ⊢
          clear hg
          have e1 := bl.cell (j := 1) (v := .int .i64 fe) rfl
          have e2 := bl.cell (j := 2) (v := .int .i64 pg) rfl
          have e4 := bl.cell (j := 4) (v := .bool true) rfl
          go_upto_region 17 with (first
            | (go_at_call 34; refine (HP2.out _).mono ?_; rintro e w4 ⟨rfl, l4⟩; clear e1 e2 e4; replace bl := bl.keep l4; replace b10 := b10.keep l4; replace b11 := b11.keep l4; replace lx := Later.trans_ lx l4; replace hAR := hAR.keep l4; have e0 := bl.cell (j := 0) (v := .int .i64 fa) rfl; have e1 := bl.cell (j := 1) (v := .int .i64 fe) rfl; have e2 := bl.cell (j := 2) (v := .int .i64 pg) rfl; have e3 := bl.cell (j := 3) (v := .slice AR nr cr) rfl)
            | (go_at_call 36; (first | (with_reducible refine (H2.out _).mono ?_) | (with_reducible refine (H8.out _).mono ?_) | (with_reducible refine (H4.out _).mono ?_)); rintro r wh ⟨rfl, rfl⟩))
          clear e0 e1 e2 e3 c5 b11
          have b15 := Blk.new w4 32 #[.int .i64 p, .int .i64 fa, .slice none 0 0, .slice AR nr cr] [.int .i64 p, .int .i64 fa, .slice none 0 0, .slice AR nr cr] rfl
          have h15 := b10.lt
          have h16 := bl.lt
          replace bl := bl.alloc (.cells #[.int .i64 p, .int .i64 fa, .slice none 0 0, .slice AR nr cr] 32)
          replace b10 := b10.alloc (.cells #[.int .i64 p, .int .i64 fa, .slice none 0 0, .slice AR nr cr] 32)
          replace lx := lx.alloc lx.size (.cells #[.int .i64 p, .int .i64 fa, .slice none 0 0, .slice AR nr cr] 32)
          replace hAR := hAR.alloc (.cells #[.int .i64 p, .int .i64 fa, .slice none 0 0, .slice AR nr cr] 32)
          obtain ⟨u5, hu5⟩ : ∃ x, x = w4.alloc (.cells #[.int .i64 p, .int .i64 fa, .slice none 0 0, .slice AR nr cr] 32) := ⟨_, rfl⟩
          rw [← hu5] at b15 bl b10 lx hAR ⊢
          clear hu5 l4
          obtain ⟨g5, hg5⟩ : ∃ x, x = w4.heap.size := ⟨_, rfl⟩
          rw [← hg5] at b15 h15 h16 ⊢
          clear hg5
          have e0 := bl.cell (j := 0) (v := .int .i64 fa) rfl
          have e1 := bl.cell (j := 1) (v := .int .i64 fe) rfl
          go_wp2_with (first
            | (go_at_call 36; (first | (with_reducible refine (H16.out _).mono ?_)); rintro r wh ⟨rfl, rfl⟩)
            | ((with_reducible refine wpList_load_blk (o := ⟨some 131, .load 32 (.tmp 15), _, _, _, none⟩) rfl _ _ rfl g5 32 [.int .i64 p, .int .i64 fa, .slice none 0 0, .slice AR nr cr] _ ?_ b15 Try.underlying32 rfl (walk_sz _ _ _ _) ?_); rfl)
            | ((with_reducible refine wpList_store_abs (o := ⟨none, .store 36 (.tmp 10) (.tmp 132), _, _, _, none⟩) rfl _ _ _ rfl (w.heap.size + 1) 36 [.int .i64 0, .int .i64 0, .slice none 0 0, .slice none 0 0, .int .i64 0] [.int .i64 p, .int .i64 fa, .slice none 0 0, .slice AR nr cr, .int .i64 0] ?_ ?_ b10 ?_ ?_ ?_ ?_); rfl; rfl; exact wd_sz _ _ _ _ _; rfl; exact wd_one _ _ _ _ _ _ _ _ _; intro w5 b8 o5))
          subst hnr
          exact bodyPost_ret (v := .agg #[.int .i64 p, .int .i64 fa, .slice none 0 0, .slice AR fr.length cr, .int .i64 0]) (results_blk Try.results12 _ _ (w.heap.size + 1) 36 [.int .i64 p, .int .i64 fa, .slice none 0 0, .slice AR fr.length cr, .int .i64 0] _ rfl b8 Try.underlying36 rfl (wd_sz _ _ _ _ _)) rfl
            ⟨_, _, _, _, rfl, ⟨rfl, fun h => absurd h (by simp)⟩, hAR.only_ne o5 (fun ad e => by have := hna ad e; omega), Below.only lx o5 (by omega)⟩
        | true =>
          cases hb4 : Tm.has fe 4 with
          | false => exact absurd hal (by simp [Tm.allows, Tm.isSt, hb8, hb4])
          | true =>
            rw [hb4] at H4
            clear hal hb4
            have b5 := ((Blk.new w 24 #[.slice A n c] [.slice A n c] rfl).alloc (.cells #[.int .i64 0, .int .i64 0, .slice none 0 0, .slice none 0 0, .int .i64 0] 36)).alloc (.cells #[.int .i64 0, .int .i64 0, .slice none 0 0, .slice none 0 0, .int .i64 ca] 36)
            have b10 := (Blk.new' (w.alloc (.cells #[.slice A n c] 24)) (w.heap.size + 1) 36 #[.int .i64 0, .int .i64 0, .slice none 0 0, .slice none 0 0, .int .i64 0] [.int .i64 0, .int .i64 0, .slice none 0 0, .slice none 0 0, .int .i64 0] (by simp) rfl).alloc (.cells #[.int .i64 0, .int .i64 0, .slice none 0 0, .slice none 0 0, .int .i64 ca] 36)
            have b11 := Blk.new' ((w.alloc (.cells #[.slice A n c] 24)).alloc (.cells #[.int .i64 0, .int .i64 0, .slice none 0 0, .slice none 0 0, .int .i64 0] 36)) (w.heap.size + 1 + 1) 36 #[.int .i64 0, .int .i64 0, .slice none 0 0, .slice none 0 0, .int .i64 ca] [.int .i64 0, .int .i64 0, .slice none 0 0, .slice none 0 0, .int .i64 ca] (by simp) rfl
            have lx := ((later1 w (.cells #[.slice A n c] 24)).alloc (by simp) (.cells #[.int .i64 0, .int .i64 0, .slice none 0 0, .slice none 0 0, .int .i64 0] 36)).alloc (by simp; omega) (.cells #[.int .i64 0, .int .i64 0, .slice none 0 0, .slice none 0 0, .int .i64 ca] 36)
            go_enter Try.func12, Try.ntmps12
            go_upto_region 11 with (first
              | (go_at_call 32; refine (HC.out _).mono ?_; rintro e w1 ⟨rfl, rfl⟩)
              | (go_at_call 34; refine (HP.out _).mono ?_; rintro e w2 ⟨rfl, l2⟩; replace b5 := b5.keep l2; replace b10 := b10.keep l2; replace b11 := b11.keep l2; replace lx := Later.trans_ lx l2; have c5 := b5.cell (j := 0) (v := .slice A n c) rfl)
              | (go_at_call 35; refine (KF.out _ lx).mono ?_; have h11 := b11.lt; rintro e w3 ⟨AR, cr, rfl, hAR, hfr, l3⟩; clear c5; replace b5 := b5.keep l3; replace b10 := b10.keep l3; replace b11 := b11.keep l3; replace lx := Later.trans_ lx l3; have c5 := b5.cell (j := 0) (v := .slice A n c) rfl; have c14 := (b11.alloc (.cells #[.int .i64 fa, .int .i64 fe, .int .i64 pg, .slice AR nr cr, .bool true] 74)).cell (j := 3) (v := .slice none 0 0) rfl; have f14 := (b11.alloc (.cells #[.int .i64 fa, .int .i64 fe, .int .i64 pg, .slice AR nr cr, .bool true] 74)).frz 3))
            have h12 := b11.lt
            have bl : Blk ((w3.alloc (.cells #[.int .i64 fa, .int .i64 fe, .int .i64 pg, .slice AR nr cr, .bool true] 74)).setCell ⟨w.heap.size + 1 + 1, 3, none⟩ (.slice AR nr cr)) w3.heap.size 74 [.int .i64 fa, .int .i64 fe, .int .i64 pg, .slice AR nr cr, .bool true] := (Blk.new w3 74 #[.int .i64 fa, .int .i64 fe, .int .i64 pg, .slice AR nr cr, .bool true] [.int .i64 fa, .int .i64 fe, .int .i64 pg, .slice AR nr cr, .bool true] rfl).set_other ⟨w.heap.size + 1 + 1, 3, none⟩ (.slice AR nr cr) (by show w3.heap.size ≠ w.heap.size + 1 + 1; omega)
            replace b5 : Blk ((w3.alloc (.cells #[.int .i64 fa, .int .i64 fe, .int .i64 pg, .slice AR nr cr, .bool true] 74)).setCell ⟨w.heap.size + 1 + 1, 3, none⟩ (.slice AR nr cr)) w.heap.size 24 [.slice A n c] := (b5.alloc (.cells #[.int .i64 fa, .int .i64 fe, .int .i64 pg, .slice AR nr cr, .bool true] 74)).set_other ⟨w.heap.size + 1 + 1, 3, none⟩ (.slice AR nr cr) (by show w.heap.size ≠ w.heap.size + 1 + 1; omega)
            replace b10 : Blk ((w3.alloc (.cells #[.int .i64 fa, .int .i64 fe, .int .i64 pg, .slice AR nr cr, .bool true] 74)).setCell ⟨w.heap.size + 1 + 1, 3, none⟩ (.slice AR nr cr)) (w.heap.size + 1) 36 [.int .i64 0, .int .i64 0, .slice none 0 0, .slice none 0 0, .int .i64 0] := (b10.alloc (.cells #[.int .i64 fa, .int .i64 fe, .int .i64 pg, .slice AR nr cr, .bool true] 74)).set_other ⟨w.heap.size + 1 + 1, 3, none⟩ (.slice AR nr cr) (by show w.heap.size + 1 ≠ w.heap.size + 1 + 1; omega)
            replace b11 : Blk ((w3.alloc (.cells #[.int .i64 fa, .int .i64 fe, .int .i64 pg, .slice AR nr cr, .bool true] 74)).setCell ⟨w.heap.size + 1 + 1, 3, none⟩ (.slice AR nr cr)) (w.heap.size + 1 + 1) 36 [.int .i64 0, .int .i64 0, .slice none 0 0, .slice AR nr cr, .int .i64 ca] := (b11.alloc (.cells #[.int .i64 fa, .int .i64 fe, .int .i64 pg, .slice AR nr cr, .bool true] 74)).set 3 (.slice AR nr cr)
            replace lx : Later w ((w3.alloc (.cells #[.int .i64 fa, .int .i64 fe, .int .i64 pg, .slice AR nr cr, .bool true] 74)).setCell ⟨w.heap.size + 1 + 1, 3, none⟩ (.slice AR nr cr)) := (lx.alloc lx.size (.cells #[.int .i64 fa, .int .i64 fe, .int .i64 pg, .slice AR nr cr, .bool true] 74)).setCell (p := ⟨w.heap.size + 1 + 1, 3, none⟩) (by show w.heap.size ≤ w.heap.size + 1 + 1; omega) (.slice AR nr cr)
            replace hAR : Sl ((w3.alloc (.cells #[.int .i64 fa, .int .i64 fe, .int .i64 pg, .slice AR nr cr, .bool true] 74)).setCell ⟨w.heap.size + 1 + 1, 3, none⟩ (.slice AR nr cr)) 1 AR nr (N64 fr) := (hAR.keep (later1 w3 (.cells #[.int .i64 fa, .int .i64 fe, .int .i64 pg, .slice AR nr cr, .bool true] 74))).only_ne (Only.set _ (w.heap.size + 1 + 1) 3 (.slice AR nr cr)) (fun ad e => by have := hfr ad e; omega)
            have hna : ∀ ad, AR = some ad → w.heap.size + 1 + 1 < ad.block := fun ad e => by have := hfr ad e; omega
            clear c14 f14 c5 h11 hfr l3 l2
            have c5 := b5.cell (j := 0) (v := .slice A n c) rfl
            obtain ⟨u, hu⟩ : ∃ u, u = ((w3.alloc (.cells #[.int .i64 fa, .int .i64 fe, .int .i64 pg, .slice AR nr cr, .bool true] 74)).setCell ⟨w.heap.size + 1 + 1, 3, none⟩ (.slice AR nr cr)) := ⟨_, rfl⟩
            rw [← hu] at bl b5 b10 b11 lx hAR c5 ⊢
            clear hu
            obtain ⟨g, hg⟩ : ∃ g, g = w3.heap.size := ⟨_, rfl⟩
            rw [← hg] at bl h12 ⊢
            clear hg
            have e1 := bl.cell (j := 1) (v := .int .i64 fe) rfl
            have e2 := bl.cell (j := 2) (v := .int .i64 pg) rfl
            have e4 := bl.cell (j := 4) (v := .bool true) rfl
            go_upto_region 17 with (first
              | (go_at_call 34; refine (HP2.out _).mono ?_; rintro e w4 ⟨rfl, l4⟩; clear e1 e2 e4; replace bl := bl.keep l4; replace b10 := b10.keep l4; replace b11 := b11.keep l4; replace lx := Later.trans_ lx l4; replace hAR := hAR.keep l4; have e0 := bl.cell (j := 0) (v := .int .i64 fa) rfl; have e1 := bl.cell (j := 1) (v := .int .i64 fe) rfl; have e2 := bl.cell (j := 2) (v := .int .i64 pg) rfl; have e3 := bl.cell (j := 3) (v := .slice AR nr cr) rfl)
              | (go_at_call 36; (first | (with_reducible refine (H2.out _).mono ?_) | (with_reducible refine (H8.out _).mono ?_) | (with_reducible refine (H4.out _).mono ?_)); rintro r wh ⟨rfl, rfl⟩))
            clear e0 e1 e2 e3 c5 b11
            have b15 := Blk.new w4 32 #[.int .i64 p, .int .i64 fa, .slice none 0 0, .slice AR nr cr] [.int .i64 p, .int .i64 fa, .slice none 0 0, .slice AR nr cr] rfl
            have h15 := b10.lt
            have h16 := bl.lt
            replace bl := bl.alloc (.cells #[.int .i64 p, .int .i64 fa, .slice none 0 0, .slice AR nr cr] 32)
            replace b10 := b10.alloc (.cells #[.int .i64 p, .int .i64 fa, .slice none 0 0, .slice AR nr cr] 32)
            replace lx := lx.alloc lx.size (.cells #[.int .i64 p, .int .i64 fa, .slice none 0 0, .slice AR nr cr] 32)
            replace hAR := hAR.alloc (.cells #[.int .i64 p, .int .i64 fa, .slice none 0 0, .slice AR nr cr] 32)
            obtain ⟨u5, hu5⟩ : ∃ x, x = w4.alloc (.cells #[.int .i64 p, .int .i64 fa, .slice none 0 0, .slice AR nr cr] 32) := ⟨_, rfl⟩
            rw [← hu5] at b15 bl b10 lx hAR ⊢
            clear hu5 l4
            obtain ⟨g5, hg5⟩ : ∃ x, x = w4.heap.size := ⟨_, rfl⟩
            rw [← hg5] at b15 h15 h16 ⊢
            clear hg5
            have e0 := bl.cell (j := 0) (v := .int .i64 fa) rfl
            have e1 := bl.cell (j := 1) (v := .int .i64 fe) rfl
            go_wp2_with (first
              | (go_at_call 36; (first | (with_reducible refine (H16.out _).mono ?_)); rintro r wh ⟨rfl, rfl⟩)
              | ((with_reducible refine wpList_load_blk (o := ⟨some 131, .load 32 (.tmp 15), _, _, _, none⟩) rfl _ _ rfl g5 32 [.int .i64 p, .int .i64 fa, .slice none 0 0, .slice AR nr cr] _ ?_ b15 Try.underlying32 rfl (walk_sz _ _ _ _) ?_); rfl)
              | ((with_reducible refine wpList_store_abs (o := ⟨none, .store 36 (.tmp 10) (.tmp 132), _, _, _, none⟩) rfl _ _ _ rfl (w.heap.size + 1) 36 [.int .i64 0, .int .i64 0, .slice none 0 0, .slice none 0 0, .int .i64 0] [.int .i64 p, .int .i64 fa, .slice none 0 0, .slice AR nr cr, .int .i64 0] ?_ ?_ b10 ?_ ?_ ?_ ?_); rfl; rfl; exact wd_sz _ _ _ _ _; rfl; exact wd_one _ _ _ _ _ _ _ _ _; intro w5 b8 o5))
            subst hnr
            exact bodyPost_ret (v := .agg #[.int .i64 p, .int .i64 fa, .slice none 0 0, .slice AR fr.length cr, .int .i64 0]) (results_blk Try.results12 _ _ (w.heap.size + 1) 36 [.int .i64 p, .int .i64 fa, .slice none 0 0, .slice AR fr.length cr, .int .i64 0] _ rfl b8 Try.underlying36 rfl (wd_sz _ _ _ _ _)) rfl
              ⟨_, _, _, _, rfl, ⟨rfl, fun h => absurd h (by simp)⟩, hAR.only_ne o5 (fun ad e => by have := hna ad e; omega), Below.only lx o5 (by omega)⟩
end Go.Proofs.Ytiaejldknbicdaa
