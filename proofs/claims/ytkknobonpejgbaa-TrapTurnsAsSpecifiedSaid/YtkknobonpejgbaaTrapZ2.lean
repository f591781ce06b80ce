/-
  THE STATEMENT TrapNests: a trap in the handler of a trap, both left with what was saved, leads back to where the first one came; for every processor and three words.
-/
import Derived.Test.YtkknobonpejgbaaTrapZ1
namespace Go.Proofs.Ytkknobonpejgbaa
open Go.RowKit Go.ChangeShapes Go.WideShapes Go.ChangeAt

theorem sr_1 (s : Bool) : bits .and .u32 (b32 s 1 + 2) 1 = b32 s 1 := by cases s <;> decide +kernel
theorem mod8 (s t : Bool) : (b32 s 2 + b32 t 4) % 8 = b32 s 2 + b32 t 4 := by cases s <;> cases t <;> decide +kernel
theorem read_is {x : Cpu} {n v : Int} (hn : 0 ≤ n ∧ n < 9) (hv : x.ctl n 0 = v) (w : World) : Calls Try.prog 23 #[.agg x.cells.toArray, .int .i64 n, .int .u32 0] w fun e w' => e = .returned (.tuple #[.int .u32 v, .int .i64 0]) ∧ Later w w' := by
  have h := read_any x n 0 w ⟨by omega, by omega⟩
  rwa [hv, show errR n = 0 by unfold errR; rw [if_pos hn]] at h
theorem write_is {x y : Cpu} {n v : Int} (hn : 0 ≤ n ∧ n < 7) (hv : Tm.isE v) (hy : x.put n v = y) (w : World) : Calls Try.prog 24 #[.agg x.cells.toArray, .int .i64 n, .int .u32 v] w fun e w' => e = .returned (.tuple #[.agg y.cells.toArray, .int .i64 0]) ∧ Later w w' := by
  have h := write_any x n v w hv
  rwa [hy, show errW n = 0 by unfold errW; rw [if_pos hn]] at h
set_option maxRecDepth 100000 in
set_option maxHeartbeats 4000000 in
theorem nests_all (x : Cpu) (one two p : Int) (w : World) (hx : x.wf) :
    Calls Try.prog 7 #[.agg x.cells.toArray, .int .u32 one, .int .u32 two, .int .u32 p] w fun e w' => e = .returned (.bool true) ∧ Later w w' := by
  have KS := Lib.hid fun w' => sanity_any w'
  have b4 := Blk.new w 26 x.cells.toArray x.cells rfl
  have lw := later1 w (.cells x.cells.toArray 26)
  cases hv : okC x.r0 x.c5 x.c7 x.c8 x.wt x.hl x.cn with
  | false =>
    have KV := Lib.hid fun w' => rvalid_is hv w'
    clear hv hx
    go_enter Try.func7, Try.ntmps7
    go_wp2_with (first
      | ((with_reducible refine wpList_load_blk (o := ⟨some 19, .load 26 (.tmp 4), _, _, _, none⟩) rfl _ _ rfl w.heap.size 26 x.cells _ ?_ ?_ Try.underlying26 rfl (cpu_sz _) ?_); rfl; exact b4)
      | (go_at_call 11; (with_reducible refine (KV.out _).mono ?_); rintro e w1 ⟨rfl, l1⟩; replace b4 := b4.keep l1; replace lw := Later.trans_ lw l1)
      | (go_at_call 14; (with_reducible refine (KS.out _).mono ?_); rintro e w2 ⟨rfl, l2⟩; replace b4 := b4.keep l2; replace lw := Later.trans_ lw l2))
    go_ret
    exact ⟨rfl, lw⟩
  | true =>
    have KV := Lib.hid fun w' => rvalid_is hv w'
    cases hw : x.wt with
    | true =>
      clear hv hx
      go_enter Try.func7, Try.ntmps7
      go_wp2_with (first
        | ((with_reducible refine wpList_load_blk (o := ⟨some 19, .load 26 (.tmp 4), _, _, _, none⟩) rfl _ _ rfl w.heap.size 26 x.cells _ ?_ ?_ Try.underlying26 rfl (cpu_sz _) ?_); rfl; exact b4)
        | (go_at_call 11; (with_reducible refine (KV.out _).mono ?_); rintro e w1 ⟨rfl, l1⟩; replace b4 := b4.keep l1; replace lw := Later.trans_ lw l1; have q1 : w1.cell? ⟨w.heap.size, 27, none⟩ = some (.bool true) := (by rw [← hw]; exact b4.cell (j := 27) (v := .bool x.wt) rfl))
        | (go_at_call 14; (with_reducible refine (KS.out _).mono ?_); rintro e w2 ⟨rfl, l2⟩; replace b4 := b4.keep l2; replace lw := Later.trans_ lw l2))
      go_ret
      exact ⟨rfl, lw⟩
    | false =>
      cases hh : x.hl with
      | true =>
        clear hv hx
        go_enter Try.func7, Try.ntmps7
        go_wp2_with (first
          | ((with_reducible refine wpList_load_blk (o := ⟨some 19, .load 26 (.tmp 4), _, _, _, none⟩) rfl _ _ rfl w.heap.size 26 x.cells _ ?_ ?_ Try.underlying26 rfl (cpu_sz _) ?_); rfl; exact b4)
          | (go_at_call 11; (with_reducible refine (KV.out _).mono ?_); rintro e w1 ⟨rfl, l1⟩; replace b4 := b4.keep l1; replace lw := Later.trans_ lw l1; have q1 : w1.cell? ⟨w.heap.size, 27, none⟩ = some (.bool false) := (by rw [← hw]; exact b4.cell (j := 27) (v := .bool x.wt) rfl); have q2 : w1.cell? ⟨w.heap.size, 28, none⟩ = some (.bool true) := (by rw [← hh]; exact b4.cell (j := 28) (v := .bool x.hl) rfl))
          | (go_at_call 14; (with_reducible refine (KS.out _).mono ?_); rintro e w2 ⟨rfl, l2⟩; replace b4 := b4.keep l2; replace lw := Later.trans_ lw l2))
        go_ret
        exact ⟨rfl, lw⟩
      | false =>
        have hpc : Tm.isE x.pc := by
          have := hx.1 x.pc (by simp)
          exact ⟨this.1, by omega⟩
        have KE := Lib.hid fun w' => enter_any x one 0 x.pc w' hx.c5
        have hand := and1 hx.c5
        obtain ⟨s, hs⟩ : ∃ s, s = Tm.has x.c5 1 := ⟨_, rfl⟩
        rw [← hs] at hand
        have hsr := sr_1 s
        obtain ⟨d, hd⟩ : ∃ d, d = x.enter one 0 x.pc := ⟨_, rfl⟩
        rw [← hd] at KE
        have hdc : d.c5 = b32 s 2 + b32 x.u 4 := by rw [hd, hs]; rfl
        have hde : Tm.isE d.c5 := by rw [hdc]; exact (st_e _ _).1
        obtain ⟨t, ht⟩ : ∃ t, t = d.c5 := ⟨_, rfl⟩
        have K2 := Lib.hid fun w' => read_is (x := d) (n := 2) (v := x.pc) (by omega) (by rw [hd]; rfl) w'
        have K5 := Lib.hid fun w' => read_is (x := d) (n := 5) (v := t) (by omega) (by rw [ht]; rfl) w'
        obtain ⟨a, ha0⟩ : ∃ a : Cpu, a = { d with pc := p } := ⟨_, rfl⟩
        have hac : a.c5 = d.c5 := by rw [ha0]
        have hap0 : a.pc = p := by rw [ha0]
        have hau : a.u = false := by rw [ha0, hd]; rfl
        have hae : Tm.isE a.c5 := by rw [hac]; exact hde
        have KE2 := Lib.hid fun w' => enter_any a two 0 p w' hae
        have KR := Lib.hid fun w' => return_any (a.enter two 0 p) w' (enter_e _ _ _ _)
        obtain ⟨e2, he2⟩ : ∃ e2, e2 = a.enter two 0 p := ⟨_, rfl⟩
        rw [← he2] at KE2 KR
        obtain ⟨b, hb⟩ : ∃ b, b = e2.back := ⟨_, rfl⟩
        rw [← hb] at KR
        have hbp0 : b.pc = p := by rw [hb, he2]; rfl
        have hbu0 : b.u = false := by rw [hb, he2, ← hau]; exact st_4 _ _
        obtain ⟨b1, hb1⟩ : ∃ b1, b1 = b.put 2 x.pc := ⟨_, rfl⟩
        have KW2 := Lib.hid fun w' => write_is (x := b) (y := b1) (n := 2) (v := x.pc) (by omega) hpc hb1.symm w'
        obtain ⟨b2, hb2⟩ : ∃ b2, b2 = b1.put 5 t := ⟨_, rfl⟩
        have KW5 := Lib.hid fun w' => write_is (x := b1) (y := b2) (n := 5) (v := t) (by omega) (by rw [ht]; exact hde) hb2.symm w'
        have hb2c : b2.c5 = b32 s 2 + b32 x.u 4 := by rw [← mod8, ← hdc, ← ht, hb2]; rfl
        obtain ⟨f, hf⟩ : ∃ f, f = b2.back := ⟨_, rfl⟩
        have KR2 := Lib.hid fun w' => return_any b2 w' (by rw [hb2c]; exact (st_e _ _).1)
        rw [← hf] at KR2
        have hfp0 : f.pc = x.pc := by rw [hf, hb2, hb1]; rfl
        have hfu0 : f.u = x.u := by rw [hf]; show Tm.has b2.c5 4 = _; rw [hb2c]; exact st_4 _ _
        have hfc0 : f.c5 = b32 s 1 + 2 := by rw [hf]; show b32 (Tm.has b2.c5 2) 1 + 2 = _; rw [hb2c, st_2]
        have hfr : f.regs = x.regs := by rw [hf, hb2, hb1, hb, he2, ha0, hd]; rfl
        have hrq : ∀ w, (Op.equalIn 10000 23 (.agg f.regs.toArray) (.agg x.regs.toArray)).run Try.prog w = .ok true w := by rw [hfr]; exact regs_same x
        have ha := Lib.hid ha0
        have hap := Lib.hid hap0
        have hbp := Lib.hid hbp0
        have hbu := Lib.hid hbu0
        have hfp := Lib.hid hfp0
        have hfu := Lib.hid hfu0
        have hfc := Lib.hid hfc0
        clear hs hd hdc hde ht ha0 hac hap0 hau hae he2 hb hbp0 hbu0 hb1 hb2 hb2c hf hfp0 hfu0 hfc0 hfr hv hx hpc
        go_enter Try.func7, Try.ntmps7
        go_wp2_with (first
          | ((with_reducible refine wpList_load_blk (o := ⟨some 19, .load 26 (.tmp 4), _, _, _, none⟩) rfl _ _ rfl w.heap.size 26 x.cells _ ?_ ?_ Try.underlying26 rfl (cpu_sz _) ?_); rfl; exact b4)
          | (go_at_call 11; (with_reducible refine (KV.out _).mono ?_); rintro e w1 ⟨rfl, l1⟩; replace b4 := b4.keep l1; replace lw := Later.trans_ lw l1; have q1 : w1.cell? ⟨w.heap.size, 27, none⟩ = some (.bool false) := (by rw [← hw]; exact b4.cell (j := 27) (v := .bool x.wt) rfl); have q2 : w1.cell? ⟨w.heap.size, 28, none⟩ = some (.bool false) := (by rw [← hh]; exact b4.cell (j := 28) (v := .bool x.hl) rfl); have q3 := b4.cell (j := 0) (v := .int .u32 x.pc) rfl)
          | ((with_reducible refine wpList_load_blk (o := ⟨some 32, .load 26 (.tmp 4), _, _, _, none⟩) rfl _ _ rfl w.heap.size 26 x.cells _ ?_ ?_ Try.underlying26 rfl (cpu_sz _) ?_); rfl; exact b4; clear q1 q2)
          | (go_at_call 17; (with_reducible refine (KE.out _).mono ?_); rintro e w2 ⟨rfl, l2⟩; replace b4 := b4.keep l2; replace lw := Later.trans_ lw l2; clear q3)
          | ((with_reducible refine wpList_store_abs (o := ⟨none, .store 26 (.tmp 10) (.tmp 36), _, _, _, none⟩) rfl _ _ _ rfl w2.heap.size 26 zC.cells d.cells ?_ ?_ ?_ ?_ ?_ ?_ ?_); rfl; rfl; exact (Blk.new _ _ _ _ rfl); exact cpu_sz _; rfl; exact cpu_one _; have nab4 := Nat.ne_of_lt b4.lt; have ma := lw.size; intro v2 b10 o2; replace b4 := (b4.alloc (.cells zC.cells.toArray 26)).only o2 (Nat.ne_of_lt b4.lt); replace lw := Below.only (lw.alloc lw.size (.cells zC.cells.toArray 26)) o2 lw.size)
          | ((with_reducible refine wpList_load_blk (o := ⟨some 38, .load 26 (.tmp 10), _, _, _, none⟩) rfl _ _ rfl w2.heap.size 26 d.cells _ ?_ ?_ Try.underlying26 rfl (cpu_sz _) ?_); rfl; exact b10)
          | (go_at_call 23; (with_reducible refine (K2.out _).mono ?_); rintro e w3 ⟨rfl, l3⟩; replace b4 := b4.keep l3; replace b10 := b10.keep l3; replace lw := Later.trans_ lw l3)
          | ((with_reducible refine wpList_load_blk (o := ⟨some 43, .load 26 (.tmp 10), _, _, _, none⟩) rfl _ _ rfl w2.heap.size 26 d.cells _ ?_ ?_ Try.underlying26 rfl (cpu_sz _) ?_); rfl; exact b10)
          | (go_at_call 23; (with_reducible refine (K5.out _).mono ?_); rintro e w4 ⟨rfl, l4⟩; replace b4 := b4.keep l4; replace b10 := b10.keep l4; replace lw := Later.trans_ lw l4; have e1 := b10.cell (j := 0) (v := .int .u32 d.pc) rfl; have f1 := b10.frz 0)
          | ((with_reducible refine wpList_load_blk (o := ⟨some 49, .load 26 (.tmp 10), _, _, _, none⟩) rfl _ _ rfl w2.heap.size 26 a.cells _ ?_ ?_ Try.underlying26 rfl (cpu_sz _) ?_); rfl; rw [ha.out]; exact (b10.set 0 (.int .u32 p)); replace b10 : Blk _ w2.heap.size 26 a.cells := (by rw [ha.out]; exact (b10.set 0 (.int .u32 p))); replace b4 := (b4.set_other ⟨w2.heap.size, 0, none⟩ (.int .u32 p) nab4); replace lw := (lw.setCell (p := ⟨w2.heap.size, 0, none⟩) ma (.int .u32 p)); clear e1 f1; obtain ⟨u3, hu3⟩ : ∃ u3, u3 = (w4.setCell ⟨w2.heap.size, 0, none⟩ (.int .u32 p)) := ⟨_, rfl⟩; rw [← hu3] at b10 b4 lw ⊢; clear hu3; have q4 : u3.cell? ⟨w2.heap.size, 0, none⟩ = some (.int .u32 p) := (by rw [← hap.out]; exact b10.cell (j := 0) (v := .int .u32 a.pc) rfl))
          | (go_at_call 17; (with_reducible refine (KE2.out _).mono ?_); rintro e w5 ⟨rfl, l5⟩; replace b4 := b4.keep l5; replace b10 := b10.keep l5; replace lw := Later.trans_ lw l5; clear q4)
          | (go_at_call 19; (with_reducible refine (KR.out _).mono ?_); rintro e w6 ⟨rfl, l6⟩; replace b4 := b4.keep l6; replace b10 := b10.keep l6; replace lw := Later.trans_ lw l6; clear b10)
          | ((with_reducible refine wpList_store_abs (o := ⟨none, .store 26 (.tmp 15) (.tmp 54), _, _, _, none⟩) rfl _ _ _ rfl w6.heap.size 26 zC.cells b.cells ?_ ?_ ?_ ?_ ?_ ?_ ?_); rfl; rfl; exact (Blk.new _ _ _ _ rfl); exact cpu_sz _; rfl; exact cpu_one _; have ncb4 := Nat.ne_of_lt b4.lt; have mc := lw.size; intro v6 b15 o6; replace b4 := (b4.alloc (.cells zC.cells.toArray 26)).only o6 (Nat.ne_of_lt b4.lt); replace lw := Below.only (lw.alloc lw.size (.cells zC.cells.toArray 26)) o6 lw.size; have q5 : v6.cell? ⟨w6.heap.size, 0, none⟩ = some (.int .u32 p) := (by rw [← hbp.out]; exact b15.cell (j := 0) (v := .int .u32 b.pc) rfl); have q6 : v6.cell? ⟨w6.heap.size, 26, none⟩ = some (.bool false) := (by rw [← hbu.out]; exact b15.cell (j := 26) (v := .bool b.u) rfl))
          | ((with_reducible refine wpList_load_blk (o := ⟨some 72, .load 26 (.tmp 15), _, _, _, none⟩) rfl _ _ rfl w6.heap.size 26 b.cells _ ?_ ?_ Try.underlying26 rfl (cpu_sz _) ?_); rfl; exact b15; clear q5 q6)
          | (go_at_call 24; (with_reducible refine (KW2.out _).mono ?_); rintro e w7 ⟨rfl, l7⟩; replace b4 := b4.keep l7; replace b15 := b15.keep l7; replace lw := Later.trans_ lw l7)
          | ((with_reducible refine wpList_store_abs (o := ⟨none, .store 26 (.tmp 15) (.tmp 75), _, _, _, none⟩) rfl _ _ _ rfl w6.heap.size 26 b.cells b1.cells ?_ ?_ ?_ ?_ ?_ ?_ ?_); rfl; rfl; exact b15; exact cpu_sz _; rfl; exact cpu_one _; intro v7 b15x o7; clear b15; have b15 := b15x; clear b15x; replace b4 := b4.only o7 ncb4; replace lw := Below.only lw o7 mc)
          | ((with_reducible refine wpList_load_blk (o := ⟨some 78, .load 26 (.tmp 15), _, _, _, none⟩) rfl _ _ rfl w6.heap.size 26 b1.cells _ ?_ ?_ Try.underlying26 rfl (cpu_sz _) ?_); rfl; exact b15)
          | (go_at_call 24; (with_reducible refine (KW5.out _).mono ?_); rintro e w8 ⟨rfl, l8⟩; replace b4 := b4.keep l8; replace b15 := b15.keep l8; replace lw := Later.trans_ lw l8)
          | ((with_reducible refine wpList_store_abs (o := ⟨none, .store 26 (.tmp 15) (.tmp 81), _, _, _, none⟩) rfl _ _ _ rfl w6.heap.size 26 b1.cells b2.cells ?_ ?_ ?_ ?_ ?_ ?_ ?_); rfl; rfl; exact b15; exact cpu_sz _; rfl; exact cpu_one _; intro v8 b15x o8; clear b15; have b15 := b15x; clear b15x; replace b4 := b4.only o8 ncb4; replace lw := Below.only lw o8 mc)
          | ((with_reducible refine wpList_load_blk (o := ⟨some 83, .load 26 (.tmp 15), _, _, _, none⟩) rfl _ _ rfl w6.heap.size 26 b2.cells _ ?_ ?_ Try.underlying26 rfl (cpu_sz _) ?_); rfl; exact b15)
          | (go_at_call 19; (with_reducible refine (KR2.out _).mono ?_); rintro e w9 ⟨rfl, l9⟩; replace b4 := b4.keep l9; replace b15 := b15.keep l9; replace lw := Later.trans_ lw l9; clear b15)
          | ((with_reducible refine wpList_store_abs (o := ⟨none, .store 26 (.tmp 18) (.tmp 84), _, _, _, none⟩) rfl _ _ _ rfl w9.heap.size 26 zC.cells f.cells ?_ ?_ ?_ ?_ ?_ ?_ ?_); rfl; rfl; exact (Blk.new _ _ _ _ rfl); exact cpu_sz _; rfl; exact cpu_one _; intro v9 b18 o9; replace b4 := (b4.alloc (.cells zC.cells.toArray 26)).only o9 (Nat.ne_of_lt b4.lt); replace lw := Below.only (lw.alloc lw.size (.cells zC.cells.toArray 26)) o9 lw.size)
          | (go_at_call 14; (with_reducible refine (KS.out _).mono ?_); rintro e w10 ⟨rfl, l10⟩; replace b4 := b4.keep l10; replace b18 := b18.keep l10; replace lw := Later.trans_ lw l10; have q1 : w10.cell? ⟨w9.heap.size, 0, none⟩ = some (.int .u32 x.pc) := (by rw [← hfp.out]; exact b18.cell (j := 0) (v := .int .u32 f.pc) rfl); have q2 := b4.cell (j := 0) (v := .int .u32 x.pc) rfl; have q3 : w10.cell? ⟨w9.heap.size, 26, none⟩ = some (.bool x.u) := (by rw [← hfu.out]; exact b18.cell (j := 26) (v := .bool f.u) rfl); have q4 := b4.cell (j := 26) (v := .bool x.u) rfl; have q5 : w10.cell? ⟨w9.heap.size, 22, none⟩ = some (.int .u32 (b32 s 1 + 2)) := (by rw [← hfc.out]; exact b18.cell (j := 22) (v := .int .u32 f.c5) rfl); have q6 := b4.cell (j := 22) (v := .int .u32 x.c5) rfl)
          | ((with_reducible refine wpList_load_atg (o := ⟨some 110, .load 23 (.tmp 109), _, _, _, _⟩) _ _ rfl w9.heap.size 1 16 26 f.cells f.regs _ ?_ ?_ ?_ rfl Try.underlying23 ?_ (regs_sz _) ?_); rfl; rfl; exact b18; rfl)
          | ((with_reducible refine wpList_load_atg (o := ⟨some 112, .load 23 (.tmp 111), _, _, _, _⟩) _ _ rfl w.heap.size 1 16 26 x.cells x.regs _ ?_ ?_ ?_ rfl Try.underlying23 ?_ (regs_sz _) ?_); rfl; rfl; exact b4; rfl))
        go_ret
        exact ⟨rfl, lw⟩

set_option maxRecDepth 100000 in
theorem trapNests_lifted (os : Os) (started : os.Started) (H : Type) (enc : TypeId × Value → H) :
    ReturnsInHanded {} Try.checked os 7 .any (Rows.trapNestsSpec.pre6 enc Try.prog Try.f7 Rows.trapNestsRow.domain false) (Rows.trapNestsSpec.post enc Try.prog Try.f7 false true false false) := by
  refine returnsInHanded_of_change (C := Try.checked) ownK started (by kernel_rfl) Try.func7
    (ChangeSpec.witness6 (enc := enc) (C := Try.checked) false ⟨#[], #[.agg #[.int .u32 0, .int .u32 0, .int .u32 0, .int .u32 0, .int .u32 0, .int .u32 0, .int .u32 0, .int .u32 0, .int .u32 0, .int .u32 0, .int .u32 0, .int .u32 0, .int .u32 0, .int .u32 0, .int .u32 0, .int .u32 0, .int .u32 0, .int .u32 0, .int .u32 0, .int .u32 0, .int .u32 0, .int .u32 0, .int .u32 0, .int .u32 0, .int .u32 0, .int .u32 0, .bool false, .bool false, .bool false, .int .i64 0], .int .u32 0, .int .u32 0, .int .u32 0], []⟩ 8 (by kernel_rfl) (by kernel_rfl) (by kernel_rfl) (by kernel_rfl)) ?_
  intro W base args ds gs before hval0 hW hcnd _
  have hval : ∀ (j : Nat) t v, Try.f7.params[j]? = some t → args[j]? = some v → Value.okWide Try.prog W .any base t v := hval0
  have hW' := hW
  obtain ⟨p, q, hA0, hV, rfl, hfz, hnd⟩ := hW
  have hA : DataW.TrodAll enc Try.prog W 0 (fun _ => true) true Try.f7.params.toList args.toList ds p := hA0
  rw [Try.params7] at hA hval
  obtain ⟨v0, vs0, d0, ds0, p0, q0, hargs, rfl, rfl, h0, r0⟩ := trodAll_cons hA
  obtain ⟨v1, vs1, d1, ds1, p1, q1, rfl, rfl, rfl, h1, r1⟩ := trodAll_cons r0
  obtain ⟨v2, vs2, d2, ds2, p2, q2, rfl, rfl, rfl, h2, r2⟩ := trodAll_cons r1
  obtain ⟨v3, vs3, d3, ds3, p3, q3, rfl, rfl, rfl, h3, r3⟩ := trodAll_cons r2
  obtain ⟨rfl, rfl, rfl⟩ := trodAll_nil r3
  obtain rfl : args = #[v0, v1, v2, v3] := by cases args; simp_all
  obtain ⟨rfl, rfl⟩ := trodVars_none hV
  obtain ⟨a0, rfl, z0⟩ := cpu_open (hval 0 26 v0 rfl rfl) h0
  obtain ⟨a1, rfl, y1⟩ := u32_arg Try.underlying22 (hval 1 22 v1 rfl rfl) h1
  have z1 : Tm.isE a1 := ⟨y1.1, by have := y1.2; omega⟩
  obtain ⟨a2, rfl, y2⟩ := u32_arg Try.underlying22 (hval 2 22 v2 rfl rfl) h2
  have z2 : Tm.isE a2 := ⟨y2.1, by have := y2.2; omega⟩
  obtain ⟨a3, rfl, y3⟩ := u32_arg Try.underlying22 (hval 3 22 v3 rfl rfl) h3
  have z3 : Tm.isE a3 := ⟨y3.1, by have := y3.2; omega⟩
  clear hA0 hval0
  simp only [List.append_nil] at hW'
  refine (nests_all a0 a1 a2 a3 W z0).mono fun e W' ⟨he, hw⟩ => ?_
  subst he
  exact ⟨_, rfl, law_post laidK rfl (by kernel_rfl) (by kernel_rfl) Try.underlying4 (by kernel_rfl) hW' rfl hw⟩
set_option maxRecDepth 100000 in
/-- The statement. -/
theorem trapNests_said : Rows.TrapNestsSaid :=
  OpenClaim.holds_of_wide 7 Try.f7 rfl rfl rfl rfl rfl rfl rfl ⟨rfl, rfl, rfl, rfl, rfl⟩ rfl rfl rfl rfl rfl (by kernel_rfl) Try.func7 (by kernel_rfl)
    (of_decide_eq_true (by kernel_rfl)) (by unfold Func.isWrapper; first | (rw [if_pos (by decide +kernel)]; kernel_rfl) | (rw [if_neg (by decide +kernel)]; exact ⟨rfl, rfl⟩))
    (fun os started H enc _ => trapNests_lifted os started H enc)
#print axioms trapNests_said
end Go.Proofs.Ytkknobonpejgbaa
