/-
  THE STATEMENT ConsoleWorksAsSpecified: Valid and Encode do what the specification says, and for valid consoles Feed and Port; for every console of at most 100 bytes, byte and instruction.
-/
import Derived.Test.YtkhgaikfomcjeaaConI
import Derived.Deep.RegionHeld
namespace Go.Proofs.Ytkhgaikfomcjeaa
open Go.RowKit Go.ChangeShapes Go.WideShapes Go.ChangeAt

set_option maxRecDepth 100000 in
set_option maxHeartbeats 8000000 in
theorem works_all (x : Cn) (b : Int) (inn : Bool) (p v : Int) (w : World) (hn : i64 x.n) : Calls Try.prog 3 #[.agg x.cells.toArray, .int .u8 b, .agg #[.bool inn, .int .i64 p, .int .u32 v]] w fun e w' => e = .returned (.bool true) ∧ Later w w' := by
  have KS := Lib.hid fun w' => sanity_any w'
  have b3 := ((Blk.new' w w.heap.size 23 (x.cells).toArray (x.cells) (by simp) rfl).alloc (.cells (ioC inn p v).toArray 26))
  have b5 := (Blk.new' (w.alloc (.cells (x.cells).toArray 23)) (w.heap.size + 1) 26 (ioC inn p v).toArray (ioC inn p v) (by simp) rfl)
  have lw := ((later1 w (.cells (x.cells).toArray 23)).alloc (by simp; try omega) (.cells (ioC inn p v).toArray 26))
  obtain ⟨u0, hu⟩ : ∃ u, ((w.alloc (.cells (x.cells).toArray 23)).alloc (.cells (ioC inn p v).toArray 26)) = u := ⟨_, rfl⟩
  rw [hu] at b3 b5 lw
  by_cases h100 : 100 < x.s.size
  · have d1 : decide ((100 : Int) < (x.s.size : Int)) = true := decide_eq_true (by omega)
    clear h100 hn
    go_enter Try.func3, Try.ntmps3
    go_upto_region 1 with fail
    have hu2 : ((w.alloc (.cells (x.cells).toArray 23)).alloc (.cells #[.bool inn, .int .i64 p, .int .u32 v] 26)) = u0 := hu
    try rw [hu2]
    clear hu hu2
    have e0 := b3.cell (cn_s x)
    go_wp2_with (first
      | (go_at_call 7; clear e0; (with_reducible refine (KS.out _).mono ?_); rintro e w3 ⟨rfl, l1⟩; replace b3 := b3.keep l1; replace b5 := b5.keep l1; replace lw := Later.trans_ lw l1))
    go_ret
    exact ⟨rfl, lw⟩
  have d1 : decide ((100 : Int) < (x.s.size : Int)) = false := decide_eq_false (by omega)
  have hz1 : x.s.size ≤ 100 := by omega
  have KE0 := fun w' => enc_any x w' hz1 hn
  have KRE0 := fun w' => renc_any x w' hz1 hn
  obtain ⟨EB, hEB⟩ : ∃ EB, EB = encC x := ⟨_, rfl⟩
  rw [← hEB] at KE0 KRE0
  have KE := Lib.hid KE0
  have KRE := Lib.hid KRE0
  have KV := Lib.hid fun w' => valid_any x w'
  have KR := Lib.hid fun w' => rvalid_any x w'
  clear KE0 KRE0 hEB hz1 hn h100
  cases hok : x.ok with
  | false =>
    rw [hok] at KV KR
    clear hok
    go_enter Try.func3, Try.ntmps3
    go_upto_region 1 with fail
    have hu2 : ((w.alloc (.cells (x.cells).toArray 23)).alloc (.cells #[.bool inn, .int .i64 p, .int .u32 v] 26)) = u0 := hu
    try rw [hu2]
    clear hu hu2
    have e0 := b3.cell (cn_s x)
    go_upto_region 3 with fail
    clear e0
    replace b3 := b3.drew
    replace b5 := b5.drew
    replace lw := lw.drew
    refine wp_region_held_drew (S := fun w' => (World.rangeAt w' w.heap.size 0 x.cells ∧ True)) (by kernel_rfl) (And.intro (show World.rangeAt _ w.heap.size 0 x.cells from b3.range 0 2) trivial) (fun hHeld => ?_)
    refine wpAnyH_take (i := 0) (oi := ⟨some 20, .load 23 (.tmp 3), _, _, _, none⟩) (v := .agg x.cells.toArray) rfl (by kernel_rfl) (by kernel_rfl) (by kernel_rfl) (fun _ _ _ h => h) (yieldsIf_load_mid (by rfl) _ _ rfl _ _ rfl x.cells _ (fun w h => h.1) Try.underlying23 rfl (cn_sz _)) hHeld ?_
    simp only [Act.put, List.setIfInBounds_toArray, List.set_cons_zero, List.set_cons_succ]
    refine wpAnyH_take (i := 2) (oi := ⟨some 22, .load 23 (.tmp 3), _, _, _, none⟩) (v := .agg x.cells.toArray) rfl (by kernel_rfl) (by kernel_rfl) (by kernel_rfl) (fun _ _ _ h => h) (yieldsIf_load_mid (by rfl) _ _ rfl _ _ rfl x.cells _ (fun w h => h.1) Try.underlying23 rfl (cn_sz _)) hHeld ?_
    simp only [Act.put, List.setIfInBounds_toArray, List.set_cons_zero, List.set_cons_succ]
    refine wpAnyH_ready (rs := [1]) (by kernel_rfl) (by simp) (AllReadyH.cons (o := ⟨some 21, .call { callee := .value (.func 8), args := #[.tmp 20], argTypes := #[23] }, _, _, _, none⟩) rfl (fun K' hK => ?_) (AllReadyH.nil))
    go_simp
    (with_reducible refine (KV.out _).mono ?_)
    rintro e v1 ⟨rfl, l1⟩
    replace b3 := b3.keep l1
    replace b5 := b5.keep l1
    replace lw := Later.trans_ lw l1
    refine hK.out _ _ (And.intro (show World.rangeAt _ w.heap.size 0 x.cells from b3.range 0 2) trivial) (fun hHeld => ?_)
    clear hK K'
    try simp only [Act.put, List.setIfInBounds_toArray, List.set_cons_zero, List.set_cons_succ]
    refine wpAnyH_ready (rs := [3]) (by kernel_rfl) (by simp) (AllReadyH.cons (o := ⟨some 23, .call { callee := .value (.func 9), args := #[.tmp 22], argTypes := #[23] }, _, _, _, none⟩) rfl (fun K' hK => ?_) (AllReadyH.nil))
    go_simp
    (with_reducible refine (KR.out _).mono ?_)
    rintro e v1 ⟨rfl, l1⟩
    replace b3 := b3.keep l1
    replace b5 := b5.keep l1
    replace lw := Later.trans_ lw l1
    refine hK.out _ _ (And.intro (show World.rangeAt _ w.heap.size 0 x.cells from b3.range 0 2) trivial) (fun hHeld => ?_)
    clear hK K'
    try simp only [Act.put, List.setIfInBounds_toArray, List.set_cons_zero, List.set_cons_succ]
    refine wpAnyH_take (i := 4) (oi := ⟨some 24, .binOp .neq 4 (.tmp 21) (.tmp 23) 4, _, _, _, none⟩) (v := .bool false) rfl (by kernel_rfl) (by kernel_rfl) (by kernel_rfl) (fun _ _ _ h => h) (Or.inl ⟨by rfl, fun w _ => by go_simp⟩) hHeld ?_
    simp only [Act.put, List.setIfInBounds_toArray, List.set_cons_zero, List.set_cons_succ]
    refine wpAnyH_take (i := 5) (oi := ⟨some 25, .move (.tmp 24), _, _, _, none⟩) (v := .bool false) rfl (by kernel_rfl) (by kernel_rfl) (by kernel_rfl) (fun _ _ _ h => h) (Or.inl ⟨by rfl, fun _ _ => rfl⟩) hHeld ?_
    simp only [Act.put, List.setIfInBounds_toArray, List.set_cons_zero, List.set_cons_succ]
    refine wpAnyH_take (i := 6) (oi := ⟨some 26, .load 23 (.tmp 3), _, _, _, _⟩) (v := .agg x.cells.toArray) rfl (by kernel_rfl) (by kernel_rfl) (by kernel_rfl) (fun _ _ _ h => h) (yieldsIf_load_mid (by rfl) _ _ rfl _ _ rfl x.cells _ (fun w h => h.1) Try.underlying23 rfl (cn_sz _)) hHeld ?_
    simp only [Act.put, List.setIfInBounds_toArray, List.set_cons_zero, List.set_cons_succ]
    refine wpAnyH_take (i := 9) (oi := ⟨some 29, .load 23 (.tmp 3), _, _, _, _⟩) (v := .agg x.cells.toArray) rfl (by kernel_rfl) (by kernel_rfl) (by kernel_rfl) (fun _ _ _ h => h) (yieldsIf_load_mid (by rfl) _ _ rfl _ _ rfl x.cells _ (fun w h => h.1) Try.underlying23 rfl (cn_sz _)) hHeld ?_
    simp only [Act.put, List.setIfInBounds_toArray, List.set_cons_zero, List.set_cons_succ]
    refine wpAnyH_ready (rs := [7]) (by kernel_rfl) (by simp) (AllReadyH.cons (o := ⟨some 27, .call { callee := .value (.func 10), args := #[.tmp 26], argTypes := #[23] }, _, _, _, _⟩) rfl (fun K' hK => ?_) (AllReadyH.nil))
    go_simp
    refine (KE.out _).mono ?_
    rintro e x2 ⟨A6, n6, c6, rfl, _, _, rfl, s6, l1⟩
    replace b3 := b3.keep l1
    replace b5 := b5.keep l1
    replace lw := Later.trans_ lw l1
    refine hK.out _ _ (And.intro (show World.rangeAt _ w.heap.size 0 x.cells from b3.range 0 2) trivial) (fun hHeld => ?_)
    clear hK K'
    try simp only [Act.put, List.setIfInBounds_toArray, List.set_cons_zero, List.set_cons_succ]
    refine wpAnyH_more (S' := fun w' => (World.rangeAt w' w.heap.size 0 x.cells ∧ Sl w' 1 A6 EB.length (U EB))) (fun _ h => (And.intro h.1 trivial)) ?_
    replace hHeld := And.intro ((show World.rangeAt _ w.heap.size 0 x.cells from b3.range 0 2)) s6
    refine wpAnyH_take (i := 8) (oi := ⟨some 28, .convert 29 9 (.tmp 27), _, _, _, _⟩) (v := (.string (strOfNums EB))) rfl (by kernel_rfl) (by kernel_rfl) (by kernel_rfl) (fun _ _ _ h => h) (Or.inl ⟨by rfl, fun w hSw => by have e1 := to_str (hSw.2) c6; clear hSw; go_simp⟩) hHeld ?_
    simp only [Act.put, List.setIfInBounds_toArray, List.set_cons_zero, List.set_cons_succ]
    refine wpAnyH_ready (rs := [10]) (by kernel_rfl) (by simp) (AllReadyH.cons (o := ⟨some 30, .call { callee := .value (.func 11), args := #[.tmp 29], argTypes := #[23] }, _, _, _, _⟩) rfl (fun K' hK => ?_) (AllReadyH.nil))
    go_simp
    refine (KRE.out _).mono ?_
    rintro e x3 ⟨A7, n7, c7, rfl, _, _, rfl, s7, l1⟩
    replace b3 := b3.keep l1
    replace b5 := b5.keep l1
    replace lw := Later.trans_ lw l1
    replace s6 := s6.keep l1
    refine hK.out _ _ (And.intro (show World.rangeAt _ w.heap.size 0 x.cells from b3.range 0 2) s6) (fun hHeld => ?_)
    clear hK K'
    try simp only [Act.put, List.setIfInBounds_toArray, List.set_cons_zero, List.set_cons_succ]
    refine wpAnyH_more (S' := fun w' => ((World.rangeAt w' w.heap.size 0 x.cells ∧ Sl w' 1 A6 EB.length (U EB)) ∧ Sl w' 1 A7 EB.length (U EB))) (fun _ h => h.1) ?_
    replace hHeld := And.intro (And.intro ((show World.rangeAt _ w.heap.size 0 x.cells from b3.range 0 2)) s6) s7
    refine wpAnyH_take (i := 11) (oi := ⟨some 31, .convert 29 9 (.tmp 30), _, _, _, _⟩) (v := (.string (strOfNums EB))) rfl (by kernel_rfl) (by kernel_rfl) (by kernel_rfl) (fun _ _ _ h => h) (Or.inl ⟨by rfl, fun w hSw => by have e1 := to_str (hSw.2) c7; clear hSw; go_simp⟩) hHeld ?_
    simp only [Act.put, List.setIfInBounds_toArray, List.set_cons_zero, List.set_cons_succ]
    refine wpAnyH_take (i := 12) (oi := ⟨some 32, .binOp .neq 9 (.tmp 28) (.tmp 31) 9, _, _, _, _⟩) (v := .bool false) rfl (by kernel_rfl) (by kernel_rfl) (by kernel_rfl) (fun _ _ _ h => h) (Or.inl ⟨by rfl, fun w _ => by go_simp⟩) hHeld ?_
    simp only [Act.put, List.setIfInBounds_toArray, List.set_cons_zero, List.set_cons_succ]
    refine wpAnyH_take (i := 13) (oi := ⟨some 33, .pick (.tmp 25) (.const (.bool true)) (.tmp 32), _, _, _, none⟩) (v := .bool false) rfl (by kernel_rfl) (by kernel_rfl) (by kernel_rfl) (fun _ _ _ h => h) (Or.inl ⟨by rfl, fun w _ => by go_simp⟩) hHeld ?_
    simp only [Act.put, List.setIfInBounds_toArray, List.set_cons_zero, List.set_cons_succ]
    refine wpAnyH_done (by kernel_rfl) ?_ _
    clear hHeld
    go_wp2_with (first
      | ((with_reducible refine wpList_load_blk (o := ⟨some 34, .load 23 (.tmp 3), _, _, _, none⟩) rfl _ _ rfl w.heap.size 23 x.cells _ ?_ ?_ Try.underlying23 rfl (cn_sz _) ?_); rfl; exact b3)
      | (go_at_call 9; (with_reducible refine (KR.out _).mono ?_); rintro e w4 ⟨rfl, l1⟩; replace b3 := b3.keep l1; replace b5 := b5.keep l1; replace lw := Later.trans_ lw l1)
      | (go_at_call 7; (with_reducible refine (KS.out _).mono ?_); rintro e w5 ⟨rfl, l1⟩; replace b3 := b3.keep l1; replace b5 := b5.keep l1; replace lw := Later.trans_ lw l1))
    go_ret
    exact ⟨rfl, lw⟩
  | true =>
    rw [hok] at KV KR
    obtain ⟨hz, h0, h1⟩ := ok_open hok
    have KF := Lib.hid fun w' => feed_any x b w' h0 h1
    have KRF := Lib.hid fun w' => rfeed_any x b w' h0 h1
    have KP := Lib.hid fun w' => (show Calls Try.prog 13 #[.agg x.cells.toArray, .agg (ioC inn p v).toArray] w' fun e w'' => e = .returned (.tuple #[.agg (x.portC inn p).cells.toArray, .int .u32 (x.portV inn p), .string (portO inn p v), .bool (portB inn p)]) ∧ Later w' w'' from port_any x inn p v w' hz)
    have KRP := Lib.hid fun w' => (show Calls Try.prog 15 #[.agg x.cells.toArray, .agg (ioC inn p v).toArray] w' fun e w'' => e = .returned (.agg (dnC (x.portC inn p) (x.portV inn p) (portO inn p v) (portB inn p)).toArray) ∧ Later w' w'' from rport_any x inn p v w' hz)
    clear hz h0 h1 hok
    obtain ⟨y, hy⟩ : ∃ y, y = x.feedC b := ⟨_, rfl⟩
    obtain ⟨yf, hyf⟩ : ∃ y, y = x.fed := ⟨_, rfl⟩
    obtain ⟨q, hq⟩ : ∃ y, y = x.portC inn p := ⟨_, rfl⟩
    obtain ⟨qv, hqv⟩ : ∃ y, y = x.portV inn p := ⟨_, rfl⟩
    obtain ⟨qo, hqo⟩ : ∃ y, y = portO inn p v := ⟨_, rfl⟩
    obtain ⟨qb, hqb⟩ : ∃ y, y = portB inn p := ⟨_, rfl⟩
    rw [← hy, ← hyf] at KF KRF
    rw [← hq, ← hqv, ← hqo, ← hqb] at KP KRP
    have hsy := cn_same y
    have hsq := cn_same q
    clear hy hyf hq hqv hqo hqb
    go_enter Try.func3, Try.ntmps3
    go_upto_region 1 with fail
    have hu2 : ((w.alloc (.cells (x.cells).toArray 23)).alloc (.cells #[.bool inn, .int .i64 p, .int .u32 v] 26)) = u0 := hu
    try rw [hu2]
    clear hu hu2
    have e0 := b3.cell (cn_s x)
    go_upto_region 3 with fail
    clear e0
    replace b3 := b3.drew
    replace b5 := b5.drew
    replace lw := lw.drew
    refine wp_region_held_drew (S := fun w' => (World.rangeAt w' w.heap.size 0 x.cells ∧ True)) (by kernel_rfl) (And.intro (show World.rangeAt _ w.heap.size 0 x.cells from b3.range 0 2) trivial) (fun hHeld => ?_)
    refine wpAnyH_take (i := 0) (oi := ⟨some 20, .load 23 (.tmp 3), _, _, _, none⟩) (v := .agg x.cells.toArray) rfl (by kernel_rfl) (by kernel_rfl) (by kernel_rfl) (fun _ _ _ h => h) (yieldsIf_load_mid (by rfl) _ _ rfl _ _ rfl x.cells _ (fun w h => h.1) Try.underlying23 rfl (cn_sz _)) hHeld ?_
    simp only [Act.put, List.setIfInBounds_toArray, List.set_cons_zero, List.set_cons_succ]
    refine wpAnyH_take (i := 2) (oi := ⟨some 22, .load 23 (.tmp 3), _, _, _, none⟩) (v := .agg x.cells.toArray) rfl (by kernel_rfl) (by kernel_rfl) (by kernel_rfl) (fun _ _ _ h => h) (yieldsIf_load_mid (by rfl) _ _ rfl _ _ rfl x.cells _ (fun w h => h.1) Try.underlying23 rfl (cn_sz _)) hHeld ?_
    simp only [Act.put, List.setIfInBounds_toArray, List.set_cons_zero, List.set_cons_succ]
    refine wpAnyH_ready (rs := [1]) (by kernel_rfl) (by simp) (AllReadyH.cons (o := ⟨some 21, .call { callee := .value (.func 8), args := #[.tmp 20], argTypes := #[23] }, _, _, _, none⟩) rfl (fun K' hK => ?_) (AllReadyH.nil))
    go_simp
    (with_reducible refine (KV.out _).mono ?_)
    rintro e v1 ⟨rfl, l1⟩
    replace b3 := b3.keep l1
    replace b5 := b5.keep l1
    replace lw := Later.trans_ lw l1
    refine hK.out _ _ (And.intro (show World.rangeAt _ w.heap.size 0 x.cells from b3.range 0 2) trivial) (fun hHeld => ?_)
    clear hK K'
    try simp only [Act.put, List.setIfInBounds_toArray, List.set_cons_zero, List.set_cons_succ]
    refine wpAnyH_ready (rs := [3]) (by kernel_rfl) (by simp) (AllReadyH.cons (o := ⟨some 23, .call { callee := .value (.func 9), args := #[.tmp 22], argTypes := #[23] }, _, _, _, none⟩) rfl (fun K' hK => ?_) (AllReadyH.nil))
    go_simp
    (with_reducible refine (KR.out _).mono ?_)
    rintro e v1 ⟨rfl, l1⟩
    replace b3 := b3.keep l1
    replace b5 := b5.keep l1
    replace lw := Later.trans_ lw l1
    refine hK.out _ _ (And.intro (show World.rangeAt _ w.heap.size 0 x.cells from b3.range 0 2) trivial) (fun hHeld => ?_)
    clear hK K'
    try simp only [Act.put, List.setIfInBounds_toArray, List.set_cons_zero, List.set_cons_succ]
    refine wpAnyH_take (i := 4) (oi := ⟨some 24, .binOp .neq 4 (.tmp 21) (.tmp 23) 4, _, _, _, none⟩) (v := .bool false) rfl (by kernel_rfl) (by kernel_rfl) (by kernel_rfl) (fun _ _ _ h => h) (Or.inl ⟨by rfl, fun w _ => by go_simp⟩) hHeld ?_
    simp only [Act.put, List.setIfInBounds_toArray, List.set_cons_zero, List.set_cons_succ]
    refine wpAnyH_take (i := 5) (oi := ⟨some 25, .move (.tmp 24), _, _, _, none⟩) (v := .bool false) rfl (by kernel_rfl) (by kernel_rfl) (by kernel_rfl) (fun _ _ _ h => h) (Or.inl ⟨by rfl, fun _ _ => rfl⟩) hHeld ?_
    simp only [Act.put, List.setIfInBounds_toArray, List.set_cons_zero, List.set_cons_succ]
    refine wpAnyH_take (i := 6) (oi := ⟨some 26, .load 23 (.tmp 3), _, _, _, _⟩) (v := .agg x.cells.toArray) rfl (by kernel_rfl) (by kernel_rfl) (by kernel_rfl) (fun _ _ _ h => h) (yieldsIf_load_mid (by rfl) _ _ rfl _ _ rfl x.cells _ (fun w h => h.1) Try.underlying23 rfl (cn_sz _)) hHeld ?_
    simp only [Act.put, List.setIfInBounds_toArray, List.set_cons_zero, List.set_cons_succ]
    refine wpAnyH_take (i := 9) (oi := ⟨some 29, .load 23 (.tmp 3), _, _, _, _⟩) (v := .agg x.cells.toArray) rfl (by kernel_rfl) (by kernel_rfl) (by kernel_rfl) (fun _ _ _ h => h) (yieldsIf_load_mid (by rfl) _ _ rfl _ _ rfl x.cells _ (fun w h => h.1) Try.underlying23 rfl (cn_sz _)) hHeld ?_
    simp only [Act.put, List.setIfInBounds_toArray, List.set_cons_zero, List.set_cons_succ]
    refine wpAnyH_ready (rs := [7]) (by kernel_rfl) (by simp) (AllReadyH.cons (o := ⟨some 27, .call { callee := .value (.func 10), args := #[.tmp 26], argTypes := #[23] }, _, _, _, _⟩) rfl (fun K' hK => ?_) (AllReadyH.nil))
    go_simp
    refine (KE.out _).mono ?_
    rintro e x2 ⟨A6, n6, c6, rfl, _, _, rfl, s6, l1⟩
    replace b3 := b3.keep l1
    replace b5 := b5.keep l1
    replace lw := Later.trans_ lw l1
    refine hK.out _ _ (And.intro (show World.rangeAt _ w.heap.size 0 x.cells from b3.range 0 2) trivial) (fun hHeld => ?_)
    clear hK K'
    try simp only [Act.put, List.setIfInBounds_toArray, List.set_cons_zero, List.set_cons_succ]
    refine wpAnyH_more (S' := fun w' => (World.rangeAt w' w.heap.size 0 x.cells ∧ Sl w' 1 A6 EB.length (U EB))) (fun _ h => (And.intro h.1 trivial)) ?_
    replace hHeld := And.intro ((show World.rangeAt _ w.heap.size 0 x.cells from b3.range 0 2)) s6
    refine wpAnyH_take (i := 8) (oi := ⟨some 28, .convert 29 9 (.tmp 27), _, _, _, _⟩) (v := (.string (strOfNums EB))) rfl (by kernel_rfl) (by kernel_rfl) (by kernel_rfl) (fun _ _ _ h => h) (Or.inl ⟨by rfl, fun w hSw => by have e1 := to_str (hSw.2) c6; clear hSw; go_simp⟩) hHeld ?_
    simp only [Act.put, List.setIfInBounds_toArray, List.set_cons_zero, List.set_cons_succ]
    refine wpAnyH_ready (rs := [10]) (by kernel_rfl) (by simp) (AllReadyH.cons (o := ⟨some 30, .call { callee := .value (.func 11), args := #[.tmp 29], argTypes := #[23] }, _, _, _, _⟩) rfl (fun K' hK => ?_) (AllReadyH.nil))
    go_simp
    refine (KRE.out _).mono ?_
    rintro e x3 ⟨A7, n7, c7, rfl, _, _, rfl, s7, l1⟩
    replace b3 := b3.keep l1
    replace b5 := b5.keep l1
    replace lw := Later.trans_ lw l1
    replace s6 := s6.keep l1
    refine hK.out _ _ (And.intro (show World.rangeAt _ w.heap.size 0 x.cells from b3.range 0 2) s6) (fun hHeld => ?_)
    clear hK K'
    try simp only [Act.put, List.setIfInBounds_toArray, List.set_cons_zero, List.set_cons_succ]
    refine wpAnyH_more (S' := fun w' => ((World.rangeAt w' w.heap.size 0 x.cells ∧ Sl w' 1 A6 EB.length (U EB)) ∧ Sl w' 1 A7 EB.length (U EB))) (fun _ h => h.1) ?_
    replace hHeld := And.intro (And.intro ((show World.rangeAt _ w.heap.size 0 x.cells from b3.range 0 2)) s6) s7
    refine wpAnyH_take (i := 11) (oi := ⟨some 31, .convert 29 9 (.tmp 30), _, _, _, _⟩) (v := (.string (strOfNums EB))) rfl (by kernel_rfl) (by kernel_rfl) (by kernel_rfl) (fun _ _ _ h => h) (Or.inl ⟨by rfl, fun w hSw => by have e1 := to_str (hSw.2) c7; clear hSw; go_simp⟩) hHeld ?_
    simp only [Act.put, List.setIfInBounds_toArray, List.set_cons_zero, List.set_cons_succ]
    refine wpAnyH_take (i := 12) (oi := ⟨some 32, .binOp .neq 9 (.tmp 28) (.tmp 31) 9, _, _, _, _⟩) (v := .bool false) rfl (by kernel_rfl) (by kernel_rfl) (by kernel_rfl) (fun _ _ _ h => h) (Or.inl ⟨by rfl, fun w _ => by go_simp⟩) hHeld ?_
    simp only [Act.put, List.setIfInBounds_toArray, List.set_cons_zero, List.set_cons_succ]
    refine wpAnyH_take (i := 13) (oi := ⟨some 33, .pick (.tmp 25) (.const (.bool true)) (.tmp 32), _, _, _, none⟩) (v := .bool false) rfl (by kernel_rfl) (by kernel_rfl) (by kernel_rfl) (fun _ _ _ h => h) (Or.inl ⟨by rfl, fun w _ => by go_simp⟩) hHeld ?_
    simp only [Act.put, List.setIfInBounds_toArray, List.set_cons_zero, List.set_cons_succ]
    refine wpAnyH_done (by kernel_rfl) ?_ _
    clear hHeld
    go_upto_region 8 with (first
      | ((with_reducible refine wpList_load_blk (o := ⟨some 34, .load 23 (.tmp 3), _, _, _, none⟩) rfl _ _ rfl w.heap.size 23 x.cells _ ?_ ?_ Try.underlying23 rfl (cn_sz _) ?_); rfl; exact b3)
      | (go_at_call 9; (with_reducible refine (KR.out _).mono ?_); rintro e w4 ⟨rfl, l1⟩; replace b3 := b3.keep l1; replace b5 := b5.keep l1; replace lw := Later.trans_ lw l1)
      | ((with_reducible refine wpList_load_blk (o := ⟨some 39, .load 23 (.tmp 3), _, _, _, none⟩) rfl _ _ rfl w.heap.size 23 x.cells _ ?_ ?_ Try.underlying23 rfl (cn_sz _) ?_); rfl; exact b3)
      | (go_at_call 12; (with_reducible refine (KF.out _).mono ?_); rintro e w5 ⟨rfl, l1⟩; replace b3 := b3.keep l1; replace b5 := b5.keep l1; replace lw := Later.trans_ lw l1)
      | ((with_reducible refine wpList_store_abs (o := ⟨none, .store 23 (.tmp 7) (.tmp 42), _, _, _, none⟩) rfl _ _ _ rfl w5.heap.size 23 zC.cells y.cells ?_ ?_ ?_ ?_ ?_ ?_ ?_); rfl; rfl; exact (Blk.new _ _ _ _ rfl); exact cn_sz _; rfl; exact cn_one _; intro u5 b7 ob7; replace b3 := (b3.alloc (.cells zC.cells.toArray 23)).only ob7 (Nat.ne_of_lt b3.lt); replace b5 := (b5.alloc (.cells zC.cells.toArray 23)).only ob7 (Nat.ne_of_lt b5.lt); replace lw := Below.only (lw.alloc lw.size (.cells zC.cells.toArray 23)) ob7 lw.size; clear ob7))
    go_upto_region 9 with (first
      | ((with_reducible refine wpList_load_blk (o := ⟨some 45, .load 23 (.tmp 3), _, _, _, none⟩) rfl _ _ rfl w.heap.size 23 x.cells _ ?_ ?_ Try.underlying23 rfl (cn_sz _) ?_); rfl; exact b3)
      | ((with_reducible refine wpList_load_blk (o := ⟨some 46, .load 26 (.tmp 5), _, _, _, none⟩) rfl _ _ rfl (w.heap.size + 1) 26 (ioC inn p v) _ ?_ ?_ Try.underlying26 rfl (io_sz _ _ _) ?_); rfl; exact b5)
      | (go_at_call 13; (with_reducible refine (KP.out _).mono ?_); rintro e w6 ⟨rfl, l1⟩; replace b3 := b3.keep l1; replace b5 := b5.keep l1; replace b7 := b7.keep l1; replace lw := Later.trans_ lw l1)
      | ((with_reducible refine wpList_store_abs (o := ⟨none, .store 23 (.tmp 9) (.tmp 48), _, _, _, none⟩) rfl _ _ _ rfl w6.heap.size 23 zC.cells q.cells ?_ ?_ ?_ ?_ ?_ ?_ ?_); rfl; rfl; exact (Blk.new _ _ _ _ rfl); exact cn_sz _; rfl; exact cn_one _; intro u6 b9 ob9; replace b3 := (b3.alloc (.cells zC.cells.toArray 23)).only ob9 (Nat.ne_of_lt b3.lt); replace b5 := (b5.alloc (.cells zC.cells.toArray 23)).only ob9 (Nat.ne_of_lt b5.lt); replace b7 := (b7.alloc (.cells zC.cells.toArray 23)).only ob9 (Nat.ne_of_lt b7.lt); replace lw := Below.only (lw.alloc lw.size (.cells zC.cells.toArray 23)) ob9 lw.size; clear ob9))
    go_upto_region 10 with (first
      | ((with_reducible refine wpList_load_blk (o := ⟨some 52, .load 23 (.tmp 3), _, _, _, none⟩) rfl _ _ rfl w.heap.size 23 x.cells _ ?_ ?_ Try.underlying23 rfl (cn_sz _) ?_); rfl; exact b3)
      | (go_at_call 14; (with_reducible refine (KRF.out _).mono ?_); rintro e w7 ⟨rfl, l1⟩; replace b3 := b3.keep l1; replace b5 := b5.keep l1; replace b7 := b7.keep l1; replace b9 := b9.keep l1; replace lw := Later.trans_ lw l1)
      | ((with_reducible refine wpList_store_abs (o := ⟨none, .store 36 (.tmp 13) (.tmp 54), _, _, _, none⟩) rfl _ _ _ rfl w7.heap.size 36 (fdC zC false) (fdC y yf) ?_ ?_ ?_ ?_ ?_ ?_ ?_); rfl; rfl; exact (Blk.new _ _ _ _ rfl); exact (fd_sz _ _); rfl; exact fd_one _ _; intro u7 b13 ob13; replace b3 := (b3.alloc (.cells (fdC zC false).toArray 36)).only ob13 (Nat.ne_of_lt b3.lt); replace b5 := (b5.alloc (.cells (fdC zC false).toArray 36)).only ob13 (Nat.ne_of_lt b5.lt); replace b7 := (b7.alloc (.cells (fdC zC false).toArray 36)).only ob13 (Nat.ne_of_lt b7.lt); replace b9 := (b9.alloc (.cells (fdC zC false).toArray 36)).only ob13 (Nat.ne_of_lt b9.lt); replace lw := Below.only (lw.alloc lw.size (.cells (fdC zC false).toArray 36)) ob13 lw.size; clear ob13))
    go_upto_region 11 with (first
      | ((with_reducible refine wpList_load_blk (o := ⟨some 55, .load 23 (.tmp 3), _, _, _, none⟩) rfl _ _ rfl w.heap.size 23 x.cells _ ?_ ?_ Try.underlying23 rfl (cn_sz _) ?_); rfl; exact b3)
      | ((with_reducible refine wpList_load_blk (o := ⟨some 56, .load 26 (.tmp 5), _, _, _, none⟩) rfl _ _ rfl (w.heap.size + 1) 26 (ioC inn p v) _ ?_ ?_ Try.underlying26 rfl (io_sz _ _ _) ?_); rfl; exact b5)
      | (go_at_call 15; (with_reducible refine (KRP.out _).mono ?_); rintro e w8 ⟨rfl, l1⟩; replace b3 := b3.keep l1; replace b5 := b5.keep l1; replace b7 := b7.keep l1; replace b9 := b9.keep l1; replace b13 := b13.keep l1; replace lw := Later.trans_ lw l1)
      | ((with_reducible refine wpList_store_abs (o := ⟨none, .store 39 (.tmp 14) (.tmp 57), _, _, _, none⟩) rfl _ _ _ rfl w8.heap.size 39 (dnC zC 0 noS false) (dnC q qv qo qb) ?_ ?_ ?_ ?_ ?_ ?_ ?_); rfl; rfl; exact (Blk.new _ _ _ _ rfl); exact (dn_sz _ _ _ _); rfl; exact dn_one _ _ _ _; intro u8 b14 ob14; replace b3 := (b3.alloc (.cells (dnC zC 0 noS false).toArray 39)).only ob14 (Nat.ne_of_lt b3.lt); replace b5 := (b5.alloc (.cells (dnC zC 0 noS false).toArray 39)).only ob14 (Nat.ne_of_lt b5.lt); replace b7 := (b7.alloc (.cells (dnC zC 0 noS false).toArray 39)).only ob14 (Nat.ne_of_lt b7.lt); replace b9 := (b9.alloc (.cells (dnC zC 0 noS false).toArray 39)).only ob14 (Nat.ne_of_lt b9.lt); replace b13 := (b13.alloc (.cells (dnC zC 0 noS false).toArray 39)).only ob14 (Nat.ne_of_lt b13.lt); replace lw := Below.only (lw.alloc lw.size (.cells (dnC zC 0 noS false).toArray 39)) ob14 lw.size; clear ob14))
    clear b3 b5
    go_wp2_with (first
      | (go_at_call 7; (with_reducible refine (KS.out _).mono ?_); rintro e w9 ⟨rfl, l1⟩; replace b7 := b7.keep l1; replace b9 := b9.keep l1; replace b13 := b13.keep l1; replace b14 := b14.keep l1; replace lw := Later.trans_ lw l1; have f2 := b13.cell (j := 2) rfl; have g2 := b14.cell (j := 2) rfl; have g3 := b14.cell (j := 3) rfl; have g4 := b14.cell (j := 4) rfl)
      | ((with_reducible refine wpList_load_g (o := ⟨some 60, .load 23 (.tmp 7), _, _, _, _⟩) _ _ rfl w5.heap.size 23 y.cells _ ?_ ?_ ?_ Try.underlying23 ?_ (cn_sz _) ?_); rfl; rfl; exact b7; rfl)
      | ((with_reducible refine wpList_load_atg (o := ⟨some 62, .load 23 (.tmp 61), _, _, _, _⟩) _ _ rfl w7.heap.size 0 2 36 (fdC y yf) y.cells _ ?_ ?_ ?_ rfl Try.underlying23 ?_ (cn_sz _) ?_); rfl; rfl; exact b13; rfl)
      | ((with_reducible refine wpList_load_g (o := ⟨some 72, .load 23 (.tmp 9), _, _, _, _⟩) _ _ rfl w6.heap.size 23 q.cells _ ?_ ?_ ?_ Try.underlying23 ?_ (cn_sz _) ?_); rfl; rfl; exact b9; rfl)
      | ((with_reducible refine wpList_load_atg (o := ⟨some 74, .load 23 (.tmp 73), _, _, _, _⟩) _ _ rfl w8.heap.size 0 2 39 (dnC q qv qo qb) q.cells _ ?_ ?_ ?_ rfl Try.underlying23 ?_ (cn_sz _) ?_); rfl; rfl; exact b14; rfl))
    go_ret
    exact ⟨rfl, lw⟩

set_option maxRecDepth 100000 in
theorem consoleWorksAsSpecified_lifted (os : Os) (started : os.Started) (H : Type) (enc : TypeId × Value → H) :
    ReturnsInHanded {} Try.checked os 3 .any (Rows.consoleWorksAsSpecifiedSpec.pre6 enc Try.prog Try.f3 Rows.consoleWorksAsSpecifiedRow.domain false) (Rows.consoleWorksAsSpecifiedSpec.post enc Try.prog Try.f3 false true false false) := by
  refine returnsInHanded_of_change (C := Try.checked) ownK started (by kernel_rfl) Try.func3
    (ChangeSpec.witness6 (enc := enc) (C := Try.checked) false ⟨#[], #[.agg #[.string ⟨#[]⟩, .int .i64 0], .int .u8 0, .agg #[.bool false, .int .i64 0, .int .u32 0]], []⟩ 8 (by kernel_rfl) (by kernel_rfl) (by kernel_rfl) (by kernel_rfl)) ?_
  intro W base args ds gs before hval0 hW hcnd _
  have hval : ∀ (j : Nat) t v, Try.f3.params[j]? = some t → args[j]? = some v → Value.okWide Try.prog W .any base t v := hval0
  have hW' := hW
  obtain ⟨p, q, hA0, hV, rfl, hfz, hnd⟩ := hW
  have hA : DataW.TrodAll enc Try.prog W 0 (fun _ => true) true Try.f3.params.toList args.toList ds p := hA0
  rw [Try.params3] at hA hval
  obtain ⟨v0, vs0, d0, ds0, p0, q0, hargs, rfl, rfl, h0, r0⟩ := trodAll_cons hA
  obtain ⟨v1, vs1, d1, ds1, p1, q1, rfl, rfl, rfl, h1, r1⟩ := trodAll_cons r0
  obtain ⟨v2, vs2, d2, ds2, p2, q2, rfl, rfl, rfl, h2, r2⟩ := trodAll_cons r1
  obtain ⟨rfl, rfl, rfl⟩ := trodAll_nil r2
  obtain rfl : args = #[v0, v1, v2] := by cases args; simp_all
  obtain ⟨rfl, rfl⟩ := trodVars_none hV
  obtain ⟨a0, rfl, z0⟩ := cn_open (hval 0 23 v0 rfl rfl) h0
  obtain ⟨a1, rfl, _, _, w1⟩ := open_int Try.underlying5 (hval 1 5 v1 rfl rfl) h1
  have z1 : 0 ≤ a1 ∧ a1 ≤ 255 := by
    have e1 : IntKind.u8.min = 0 := rfl
    have e2 : IntKind.u8.max = 255 := rfl
    simp only [Lit.wf, Bool.and_eq_true, decide_eq_true_eq] at w1
    omega
  obtain ⟨i2, p2_, u2, rfl, z2⟩ := io_open (hval 2 26 v2 rfl rfl) h2
  clear hA0 hval0
  simp only [List.append_nil] at hW'
  refine (works_all a0 a1 i2 p2_ u2 W z0.n).mono fun e W' ⟨he, hw⟩ => ?_
  subst he
  exact ⟨_, rfl, law_post laidK rfl (by kernel_rfl) (by kernel_rfl) Try.underlying4 (by kernel_rfl) hW' rfl hw⟩
set_option maxRecDepth 100000 in
/-- The statement. -/
theorem consoleWorksAsSpecified_said : Rows.ConsoleWorksAsSpecifiedSaid :=
  OpenClaim.holds_of_wide 3 Try.f3 rfl rfl rfl rfl rfl rfl rfl ⟨rfl, rfl, rfl, rfl, rfl⟩ rfl rfl rfl rfl rfl (by kernel_rfl) Try.func3 (by kernel_rfl)
    (of_decide_eq_true (by kernel_rfl)) (by unfold Func.isWrapper; first | (rw [if_pos (by decide +kernel)]; kernel_rfl) | (rw [if_neg (by decide +kernel)]; exact ⟨rfl, rfl⟩))
    (fun os started H enc _ => consoleWorksAsSpecified_lifted os started H enc)
#print axioms consoleWorksAsSpecified_said
end Go.Proofs.Ytkhgaikfomcjeaa
