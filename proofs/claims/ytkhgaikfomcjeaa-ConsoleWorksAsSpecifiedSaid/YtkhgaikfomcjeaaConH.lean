/-
  A CONSOLE: Decode of Encode; the examples of the chapter: sanity.
-/
import Derived.Test.YtkhgaikfomcjeaaConG
import Derived.Deep.RegionHeld
import Derived.Lib.Hide
namespace Go.Proofs.Ytkhgaikfomcjeaa
open Go.RowKit Go.ChangeShapes Go.WideShapes Go.ChangeAt

theorem ok_open {x : Cn} (h : x.ok = true) : x.s.size ≤ 64 ∧ 0 ≤ x.n ∧ x.n ≤ 1099511627776 := by
  simpa [Cn.ok] using h
theorem encC_len (x : Cn) (hz : x.s.size ≤ 100) (hn : i64 x.n) : (encC x).length ≤ 120 := by
  have hl1 := Wm.encI_len hn.1 hn.2
  have hl2 := Wm.encI_len (n := (x.s.size : Int)) (by omega) (by omega)
  unfold encC Wm.encB
  rw [List.length_append, List.length_append, Wm.ofS_length]
  omega
theorem encC_bytes (x : Cn) : Wm.isBs (encC x) := fun y hy => (List.mem_append.1 hy).elim (Wm.encB_bytes (Wm.ofS_bytes _) y) (Wm.encI_bytes _ y)
theorem encC_decB (x : Cn) (hz : x.s.size ≤ 100) : Wm.decB (encC x) = (Wm.ofS x.s, (Wm.encB (Wm.ofS x.s)).length, 0) := Wm.decB_encB _ _ (by rw [Wm.ofS_length]; omega)
theorem encC_decI (x : Cn) (hn : i64 x.n) : Wm.decI ((encC x).drop (Wm.encB (Wm.ofS x.s)).length) = (x.n, (Wm.encI x.n).length, 0) := by
  unfold encC
  rw [List.drop_left]
  have h := Wm.decI_encI hn.1 hn.2 []
  rwa [List.append_nil] at h
theorem encC_decR (x : Cn) : decR (encC x).length (Wm.ofS x.s) (Wm.encB (Wm.ofS x.s)).length 0 x.n (Wm.encI x.n).length 0 = if x.ok then (x, 0) else (zC, 3) := by
  unfold decR
  rw [if_neg (by simp), if_neg (by simp), if_neg (by unfold encC; rw [List.length_append]; omega), Wm.str_ofS]
/-- Decode of Encode. -/
theorem dec_back (x : Cn) (A : Option Addr) (c : Nat) (w : World) (hz : x.s.size ≤ 100) (hn : i64 x.n) (hs : Sl w 1 A (encC x).length (U (encC x))) (hc : (encC x).length ≤ c) (hm : c ≤ maxLen) :
    Calls Try.prog 16 #[.slice A (encC x).length c] w fun r w' => r = .returned (.tuple #[.agg (if x.ok then x else zC).cells.toArray, .int .i64 (if x.ok then 0 else 3)]) ∧ Later w w' := by
  have h := dec_any A _ c (encC x) w hs (encC_bytes x) hc hm _ _ 0 _ _ 0 (encC_decB x hz) (fun _ => encC_decI x hn)
  rw [encC_decR] at h
  cases hk : x.ok <;> rw [hk] at h <;> exact h
def sA : ByteArray := ⟨#[65]⟩
def sF : ByteArray := ⟨#[48, 49, 50, 51, 52, 53, 54, 55, 56, 57, 48, 49, 50, 51, 52, 53, 54, 55, 56, 57, 48, 49, 50, 51, 52, 53, 54, 55, 56, 57, 48, 49, 50, 51, 52, 53, 54, 55, 56, 57, 48, 49, 50, 51, 52, 53, 54, 55, 56, 57, 48, 49, 50, 51, 52, 53, 54, 55, 56, 57, 48, 49, 50, 51]⟩
def c1 : Cn := zC.feedC 97
def c2 : Cn := c1.feedC 98
def c3 : Cn := c2.portC true 33
def c4 : Cn := c3.portC true 33
def c5 : Cn := c4.portC true 33
def cF : Cn := ⟨sF, 0⟩
def cE : Cn := ⟨sF, 1⟩
theorem run_full (w : World) : (Instr.build 23 #[(0, .string sF)]).run Try.prog w = .ok (.agg cF.cells.toArray) w := run_build w _ _ _ (by kernel_rfl)
theorem k1 (w : World) : Calls Try.prog 12 #[.agg zC.cells.toArray, .int .u8 97] w fun e w' => e = .returned (.tuple #[.agg c1.cells.toArray, .bool true]) ∧ Later w w' := by
  have h := feed_any zC 97 w (by decide +kernel) (by decide +kernel)
  rw [show zC.feedC 97 = c1 from rfl, show zC.fed = true from by decide +kernel] at h
  exact h
theorem k2 (w : World) : Calls Try.prog 12 #[.agg c1.cells.toArray, .int .u8 98] w fun e w' => e = .returned (.tuple #[.agg c2.cells.toArray, .bool true]) ∧ Later w w' := by
  have h := feed_any c1 98 w (by decide +kernel) (by decide +kernel)
  rw [show c1.feedC 98 = c2 from rfl, show c1.fed = true from by decide +kernel] at h
  exact h
theorem k3 (w : World) : Calls Try.prog 13 #[.agg c2.cells.toArray, .agg #[.bool true, .int .i64 34, .int .u32 0]] w fun e w' => e = .returned (.tuple #[.agg c2.cells.toArray, .int .u32 2, .string noS, .bool true]) ∧ Later w w' := by
  have h := port_any c2 true 34 0 w (by decide +kernel)
  rw [show c2.portC true 34 = c2 from rfl, show c2.portV true 34 = 2 from by decide +kernel, show portO true 34 0 = noS from by decide +kernel, show portB true 34 = true from by decide +kernel] at h
  exact h
theorem k4 (w : World) : Calls Try.prog 13 #[.agg c2.cells.toArray, .agg #[.bool true, .int .i64 33, .int .u32 0]] w fun e w' => e = .returned (.tuple #[.agg c3.cells.toArray, .int .u32 97, .string noS, .bool true]) ∧ Later w w' := by
  have h := port_any c2 true 33 0 w (by decide +kernel)
  rw [show c2.portC true 33 = c3 from rfl, show c2.portV true 33 = 97 from by decide +kernel, show portO true 33 0 = noS from by decide +kernel, show portB true 33 = true from by decide +kernel] at h
  exact h
theorem k5 (w : World) : Calls Try.prog 13 #[.agg c3.cells.toArray, .agg #[.bool true, .int .i64 33, .int .u32 0]] w fun e w' => e = .returned (.tuple #[.agg c4.cells.toArray, .int .u32 98, .string noS, .bool true]) ∧ Later w w' := by
  have h := port_any c3 true 33 0 w (by decide +kernel)
  rw [show c3.portC true 33 = c4 from rfl, show c3.portV true 33 = 98 from by decide +kernel, show portO true 33 0 = noS from by decide +kernel, show portB true 33 = true from by decide +kernel] at h
  exact h
theorem k6 (w : World) : Calls Try.prog 13 #[.agg c4.cells.toArray, .agg #[.bool true, .int .i64 33, .int .u32 0]] w fun e w' => e = .returned (.tuple #[.agg c5.cells.toArray, .int .u32 4294967295, .string noS, .bool true]) ∧ Later w w' := by
  have h := port_any c4 true 33 0 w (by decide +kernel)
  rw [show c4.portC true 33 = c5 from rfl, show c4.portV true 33 = 4294967295 from by decide +kernel, show portO true 33 0 = noS from by decide +kernel, show portB true 33 = true from by decide +kernel] at h
  exact h
theorem k7 (w : World) : Calls Try.prog 13 #[.agg c2.cells.toArray, .agg #[.bool false, .int .i64 32, .int .u32 321]] w fun e w' => e = .returned (.tuple #[.agg c2.cells.toArray, .int .u32 0, .string sA, .bool true]) ∧ Later w w' := by
  have h := port_any c2 false 32 321 w (by decide +kernel)
  rw [show c2.portC false 32 = c2 from rfl, show c2.portV false 32 = 0 from by decide +kernel, show portO false 32 321 = sA from by decide +kernel, show portB false 32 = true from by decide +kernel] at h
  exact h
theorem k8 (w : World) : Calls Try.prog 13 #[.agg c2.cells.toArray, .agg #[.bool true, .int .i64 32, .int .u32 0]] w fun e w' => e = .returned (.tuple #[.agg c2.cells.toArray, .int .u32 0, .string noS, .bool false]) ∧ Later w w' := by
  have h := port_any c2 true 32 0 w (by decide +kernel)
  rw [show c2.portC true 32 = c2 from rfl, show c2.portV true 32 = 0 from by decide +kernel, show portO true 32 0 = noS from by decide +kernel, show portB true 32 = false from by decide +kernel] at h
  exact h
theorem k9 (w : World) : Calls Try.prog 13 #[.agg c2.cells.toArray, .agg #[.bool false, .int .i64 33, .int .u32 0]] w fun e w' => e = .returned (.tuple #[.agg c2.cells.toArray, .int .u32 0, .string noS, .bool false]) ∧ Later w w' := by
  have h := port_any c2 false 33 0 w (by decide +kernel)
  rw [show c2.portC false 33 = c2 from rfl, show c2.portV false 33 = 0 from by decide +kernel, show portO false 33 0 = noS from by decide +kernel, show portB false 33 = false from by decide +kernel] at h
  exact h
theorem k10 (w : World) : Calls Try.prog 13 #[.agg c2.cells.toArray, .agg #[.bool true, .int .i64 35, .int .u32 0]] w fun e w' => e = .returned (.tuple #[.agg c2.cells.toArray, .int .u32 0, .string noS, .bool false]) ∧ Later w w' := by
  have h := port_any c2 true 35 0 w (by decide +kernel)
  rw [show c2.portC true 35 = c2 from rfl, show c2.portV true 35 = 0 from by decide +kernel, show portO true 35 0 = noS from by decide +kernel, show portB true 35 = false from by decide +kernel] at h
  exact h
theorem k12 (w : World) : Calls Try.prog 12 #[.agg cF.cells.toArray, .int .u8 120] w fun e w' => e = .returned (.tuple #[.agg cE.cells.toArray, .bool false]) ∧ Later w w' := by
  have h := feed_any cF 120 w (by decide +kernel) (by decide +kernel)
  rw [show cF.feedC 120 = cE from by unfold Cn.feedC; rw [if_pos (by decide +kernel)]; rfl, show cF.fed = false from by decide +kernel] at h
  exact h
theorem k14 (w : World) : Calls Try.prog 8 #[.agg c2.cells.toArray] w fun e w' => e = .returned (.bool true) ∧ Later w w' := by
  have h := valid_any c2 w
  rw [show c2.ok = true from by decide +kernel] at h
  exact h
theorem k13 (w : World) : Calls Try.prog 10 #[.agg c2.cells.toArray] w (GotBs (encC c2) w) := enc_any c2 w (by decide +kernel) ⟨by decide +kernel, by decide +kernel⟩
theorem k15 (A : Option Addr) (c : Nat) (w : World) (hs : Sl w 1 A (encC c2).length (U (encC c2))) (hc : (encC c2).length ≤ c) (hm : c ≤ maxLen) : Calls Try.prog 16 #[.slice A (encC c2).length c] w fun r w' => r = .returned (.tuple #[.agg c2.cells.toArray, .int .i64 0]) ∧ Later w w' := by
  have h := dec_back c2 A c w (by decide +kernel) ⟨by decide +kernel, by decide +kernel⟩ hs hc hm
  rw [show c2.ok = true from by decide +kernel] at h
  exact h
set_option maxRecDepth 100000 in
set_option maxHeartbeats 8000000 in
theorem sanity_any (w : World) : Calls Try.prog 7 #[] w fun e w' => e = .returned (.bool true) ∧ Later w w' := by
  go_enter Try.func7, Try.ntmps7
  go_upto_region 2 with (first
    | ((with_reducible refine wpList_bld (o := ⟨some 44, .build 23 #[], _, _, _, none⟩) rfl _ #[] #[] (zC.cells).toArray rfl ?_ (run_c0 _) ?_); rfl)
    | (go_at_call 12; (with_reducible refine (k1 _).mono ?_); rintro e w1 ⟨rfl, lw⟩)
    | ((with_reducible refine wpList_store_abs (o := ⟨none, .store 23 (.tmp 1) (.tmp 46), _, _, _, none⟩) rfl _ _ _ rfl w1.heap.size 23 zC.cells c1.cells ?_ ?_ ?_ ?_ ?_ ?_ ?_); rfl; rfl; exact (Blk.new _ _ _ _ rfl); exact cn_sz _; rfl; exact cn_one _; intro u1 b1 ob1; replace lw := Below.only (lw.alloc lw.size (.cells zC.cells.toArray 23)) ob1 lw.size; clear ob1))
  go_upto_region 3 with (first
    | ((with_reducible refine wpList_load_blk (o := ⟨some 49, .load 23 (.tmp 1), _, _, _, none⟩) rfl _ _ rfl w1.heap.size 23 c1.cells _ ?_ ?_ Try.underlying23 rfl (cn_sz _) ?_); rfl; exact b1)
    | (go_at_call 12; (with_reducible refine (k2 _).mono ?_); rintro e w2 ⟨rfl, l1⟩; replace b1 := b1.keep l1; replace lw := Later.trans_ lw l1)
    | ((with_reducible refine wpList_store_abs (o := ⟨none, .store 23 (.tmp 3) (.tmp 51), _, _, _, none⟩) rfl _ _ _ rfl w2.heap.size 23 zC.cells c2.cells ?_ ?_ ?_ ?_ ?_ ?_ ?_); rfl; rfl; exact (Blk.new _ _ _ _ rfl); exact cn_sz _; rfl; exact cn_one _; intro u2 b3 ob3; replace b1 := (b1.alloc (.cells zC.cells.toArray 23)).only ob3 (Nat.ne_of_lt b1.lt); replace lw := Below.only (lw.alloc lw.size (.cells zC.cells.toArray 23)) ob3 lw.size; clear ob3))
  go_upto_region 4 with (first
    | ((with_reducible refine wpList_load_blk (o := ⟨some 54, .load 23 (.tmp 3), _, _, _, none⟩) rfl _ _ rfl w2.heap.size 23 c2.cells _ ?_ ?_ Try.underlying23 rfl (cn_sz _) ?_); rfl; exact b3)
    | (go_at_call 13; (with_reducible refine (k3 _).mono ?_); rintro e w3 ⟨rfl, l1⟩; replace b1 := b1.keep l1; replace b3 := b3.keep l1; replace lw := Later.trans_ lw l1)
    | ((with_reducible refine wpList_store_abs (o := ⟨none, .store 23 (.tmp 5) (.tmp 57), _, _, _, none⟩) rfl _ _ _ rfl w3.heap.size 23 zC.cells c2.cells ?_ ?_ ?_ ?_ ?_ ?_ ?_); rfl; rfl; exact (Blk.new _ _ _ _ rfl); exact cn_sz _; rfl; exact cn_one _; intro u3 bz obz; replace b1 := (b1.alloc (.cells zC.cells.toArray 23)).only obz (Nat.ne_of_lt b1.lt); replace b3 := (b3.alloc (.cells zC.cells.toArray 23)).only obz (Nat.ne_of_lt b3.lt); replace lw := Below.only (lw.alloc lw.size (.cells zC.cells.toArray 23)) obz lw.size; clear obz; clear bz))
  go_upto_region 5 with (first
    | ((with_reducible refine wpList_load_blk (o := ⟨some 62, .load 23 (.tmp 3), _, _, _, none⟩) rfl _ _ rfl w2.heap.size 23 c2.cells _ ?_ ?_ Try.underlying23 rfl (cn_sz _) ?_); rfl; exact b3)
    | (go_at_call 13; (with_reducible refine (k4 _).mono ?_); rintro e w4 ⟨rfl, l1⟩; replace b1 := b1.keep l1; replace b3 := b3.keep l1; replace lw := Later.trans_ lw l1)
    | ((with_reducible refine wpList_store_abs (o := ⟨none, .store 23 (.tmp 9) (.tmp 65), _, _, _, none⟩) rfl _ _ _ rfl w4.heap.size 23 zC.cells c3.cells ?_ ?_ ?_ ?_ ?_ ?_ ?_); rfl; rfl; exact (Blk.new _ _ _ _ rfl); exact cn_sz _; rfl; exact cn_one _; intro u4 b9 ob9; replace b1 := (b1.alloc (.cells zC.cells.toArray 23)).only ob9 (Nat.ne_of_lt b1.lt); replace b3 := (b3.alloc (.cells zC.cells.toArray 23)).only ob9 (Nat.ne_of_lt b3.lt); replace lw := Below.only (lw.alloc lw.size (.cells zC.cells.toArray 23)) ob9 lw.size; clear ob9))
  go_upto_region 6 with (first
    | ((with_reducible refine wpList_load_blk (o := ⟨some 70, .load 23 (.tmp 9), _, _, _, none⟩) rfl _ _ rfl w4.heap.size 23 c3.cells _ ?_ ?_ Try.underlying23 rfl (cn_sz _) ?_); rfl; exact b9)
    | (go_at_call 13; (with_reducible refine (k5 _).mono ?_); rintro e w5 ⟨rfl, l1⟩; replace b1 := b1.keep l1; replace b3 := b3.keep l1; replace b9 := b9.keep l1; replace lw := Later.trans_ lw l1)
    | ((with_reducible refine wpList_store_abs (o := ⟨none, .store 23 (.tmp 13) (.tmp 73), _, _, _, none⟩) rfl _ _ _ rfl w5.heap.size 23 zC.cells c4.cells ?_ ?_ ?_ ?_ ?_ ?_ ?_); rfl; rfl; exact (Blk.new _ _ _ _ rfl); exact cn_sz _; rfl; exact cn_one _; intro u5 b13 ob13; replace b1 := (b1.alloc (.cells zC.cells.toArray 23)).only ob13 (Nat.ne_of_lt b1.lt); replace b3 := (b3.alloc (.cells zC.cells.toArray 23)).only ob13 (Nat.ne_of_lt b3.lt); replace b9 := (b9.alloc (.cells zC.cells.toArray 23)).only ob13 (Nat.ne_of_lt b9.lt); replace lw := Below.only (lw.alloc lw.size (.cells zC.cells.toArray 23)) ob13 lw.size; clear ob13))
  go_upto_region 7 with (first
    | ((with_reducible refine wpList_load_blk (o := ⟨some 78, .load 23 (.tmp 13), _, _, _, none⟩) rfl _ _ rfl w5.heap.size 23 c4.cells _ ?_ ?_ Try.underlying23 rfl (cn_sz _) ?_); rfl; exact b13)
    | (go_at_call 13; (with_reducible refine (k6 _).mono ?_); rintro e w6 ⟨rfl, l1⟩; replace b1 := b1.keep l1; replace b3 := b3.keep l1; replace b9 := b9.keep l1; replace b13 := b13.keep l1; replace lw := Later.trans_ lw l1)
    | ((with_reducible refine wpList_store_abs (o := ⟨none, .store 23 (.tmp 17) (.tmp 81), _, _, _, none⟩) rfl _ _ _ rfl w6.heap.size 23 zC.cells c5.cells ?_ ?_ ?_ ?_ ?_ ?_ ?_); rfl; rfl; exact (Blk.new _ _ _ _ rfl); exact cn_sz _; rfl; exact cn_one _; intro u6 bz obz; replace b1 := (b1.alloc (.cells zC.cells.toArray 23)).only obz (Nat.ne_of_lt b1.lt); replace b3 := (b3.alloc (.cells zC.cells.toArray 23)).only obz (Nat.ne_of_lt b3.lt); replace b9 := (b9.alloc (.cells zC.cells.toArray 23)).only obz (Nat.ne_of_lt b9.lt); replace b13 := (b13.alloc (.cells zC.cells.toArray 23)).only obz (Nat.ne_of_lt b13.lt); replace lw := Below.only (lw.alloc lw.size (.cells zC.cells.toArray 23)) obz lw.size; clear obz; clear bz))
  clear b1 b9 b13
  go_upto_region 8 with (first
    | ((with_reducible refine wpList_load_blk (o := ⟨some 86, .load 23 (.tmp 3), _, _, _, none⟩) rfl _ _ rfl w2.heap.size 23 c2.cells _ ?_ ?_ Try.underlying23 rfl (cn_sz _) ?_); rfl; exact b3)
    | (go_at_call 13; (with_reducible refine (k7 _).mono ?_); rintro e w7 ⟨rfl, l1⟩; replace b3 := b3.keep l1; replace lw := Later.trans_ lw l1)
    | ((with_reducible refine wpList_store_abs (o := ⟨none, .store 23 (.tmp 21) (.tmp 89), _, _, _, none⟩) rfl _ _ _ rfl w7.heap.size 23 zC.cells c2.cells ?_ ?_ ?_ ?_ ?_ ?_ ?_); rfl; rfl; exact (Blk.new _ _ _ _ rfl); exact cn_sz _; rfl; exact cn_one _; intro u7 bz obz; replace b3 := (b3.alloc (.cells zC.cells.toArray 23)).only obz (Nat.ne_of_lt b3.lt); replace lw := Below.only (lw.alloc lw.size (.cells zC.cells.toArray 23)) obz lw.size; clear obz; clear bz))
  go_upto_region 9 with (first
    | ((with_reducible refine wpList_load_blk (o := ⟨some 94, .load 23 (.tmp 3), _, _, _, none⟩) rfl _ _ rfl w2.heap.size 23 c2.cells _ ?_ ?_ Try.underlying23 rfl (cn_sz _) ?_); rfl; exact b3)
    | (go_at_call 13; (with_reducible refine (k8 _).mono ?_); rintro e w8 ⟨rfl, l1⟩; replace b3 := b3.keep l1; replace lw := Later.trans_ lw l1)
    | ((with_reducible refine wpList_store_abs (o := ⟨none, .store 23 (.tmp 25) (.tmp 97), _, _, _, none⟩) rfl _ _ _ rfl w8.heap.size 23 zC.cells c2.cells ?_ ?_ ?_ ?_ ?_ ?_ ?_); rfl; rfl; exact (Blk.new _ _ _ _ rfl); exact cn_sz _; rfl; exact cn_one _; intro u8 bz obz; replace b3 := (b3.alloc (.cells zC.cells.toArray 23)).only obz (Nat.ne_of_lt b3.lt); replace lw := Below.only (lw.alloc lw.size (.cells zC.cells.toArray 23)) obz lw.size; clear obz; clear bz))
  go_upto_region 10 with (first
    | ((with_reducible refine wpList_load_blk (o := ⟨some 102, .load 23 (.tmp 3), _, _, _, none⟩) rfl _ _ rfl w2.heap.size 23 c2.cells _ ?_ ?_ Try.underlying23 rfl (cn_sz _) ?_); rfl; exact b3)
    | (go_at_call 13; (with_reducible refine (k9 _).mono ?_); rintro e w9 ⟨rfl, l1⟩; replace b3 := b3.keep l1; replace lw := Later.trans_ lw l1)
    | ((with_reducible refine wpList_store_abs (o := ⟨none, .store 23 (.tmp 29) (.tmp 105), _, _, _, none⟩) rfl _ _ _ rfl w9.heap.size 23 zC.cells c2.cells ?_ ?_ ?_ ?_ ?_ ?_ ?_); rfl; rfl; exact (Blk.new _ _ _ _ rfl); exact cn_sz _; rfl; exact cn_one _; intro u9 bz obz; replace b3 := (b3.alloc (.cells zC.cells.toArray 23)).only obz (Nat.ne_of_lt b3.lt); replace lw := Below.only (lw.alloc lw.size (.cells zC.cells.toArray 23)) obz lw.size; clear obz; clear bz))
  go_upto_region 11 with (first
    | ((with_reducible refine wpList_load_blk (o := ⟨some 110, .load 23 (.tmp 3), _, _, _, none⟩) rfl _ _ rfl w2.heap.size 23 c2.cells _ ?_ ?_ Try.underlying23 rfl (cn_sz _) ?_); rfl; exact b3)
    | (go_at_call 13; (with_reducible refine (k10 _).mono ?_); rintro e w10 ⟨rfl, l1⟩; replace b3 := b3.keep l1; replace lw := Later.trans_ lw l1)
    | ((with_reducible refine wpList_store_abs (o := ⟨none, .store 23 (.tmp 33) (.tmp 113), _, _, _, none⟩) rfl _ _ _ rfl w10.heap.size 23 zC.cells c2.cells ?_ ?_ ?_ ?_ ?_ ?_ ?_); rfl; rfl; exact (Blk.new _ _ _ _ rfl); exact cn_sz _; rfl; exact cn_one _; intro u10 bz obz; replace b3 := (b3.alloc (.cells zC.cells.toArray 23)).only obz (Nat.ne_of_lt b3.lt); replace lw := Below.only (lw.alloc lw.size (.cells zC.cells.toArray 23)) obz lw.size; clear obz; clear bz))
  go_upto_region 12 with (first
    | ((with_reducible refine wpList_bld (o := ⟨some 117, .build 23 _, _, _, _, none⟩) rfl _ _ #[(0, .string sF)] cF.cells.toArray rfl ?_ (run_full _) ?_); rfl)
    | ((with_reducible refine wpList_store_abs (o := ⟨none, .store 23 (.tmp 37) (.tmp 117), _, _, _, none⟩) rfl _ _ _ rfl u10.heap.size 23 zC.cells cF.cells ?_ ?_ ?_ ?_ ?_ ?_ ?_); rfl; rfl; exact (Blk.new _ _ _ _ rfl); exact cn_sz _; rfl; exact cn_one _; intro uF b37 ob37; replace b3 := (b3.alloc (.cells zC.cells.toArray 23)).only ob37 (Nat.ne_of_lt b3.lt); replace lw := Below.only (lw.alloc lw.size (.cells zC.cells.toArray 23)) ob37 lw.size; clear ob37))
  go_upto_region 13 with (first
    | ((with_reducible refine wpList_load_blk (o := ⟨some 119, .load 23 (.tmp 37), _, _, _, none⟩) rfl _ _ rfl u10.heap.size 23 cF.cells _ ?_ ?_ Try.underlying23 rfl (cn_sz _) ?_); rfl; exact b37)
    | (go_at_call 12; (with_reducible refine (k12 _).mono ?_); rintro e wE ⟨rfl, l1⟩; replace b3 := b3.keep l1; replace b37 := b37.keep l1; replace lw := Later.trans_ lw l1)
    | ((with_reducible refine wpList_store_abs (o := ⟨none, .store 23 (.tmp 38) (.tmp 121), _, _, _, none⟩) rfl _ _ _ rfl wE.heap.size 23 zC.cells cE.cells ?_ ?_ ?_ ?_ ?_ ?_ ?_); rfl; rfl; exact (Blk.new _ _ _ _ rfl); exact cn_sz _; rfl; exact cn_one _; intro uE b38 ob38; replace b3 := (b3.alloc (.cells zC.cells.toArray 23)).only ob38 (Nat.ne_of_lt b3.lt); replace b37 := (b37.alloc (.cells zC.cells.toArray 23)).only ob38 (Nat.ne_of_lt b37.lt); replace lw := Below.only (lw.alloc lw.size (.cells zC.cells.toArray 23)) ob38 lw.size; clear ob38))
  go_upto_region 15 with (first
    | ((with_reducible refine wpList_store_abs (o := ⟨none, .store 23 (.tmp 40) (.tmp 127), _, _, _, none⟩) rfl _ _ _ rfl wH.heap.size 23 zC.cells c2.cells ?_ ?_ ?_ ?_ ?_ ?_ ?_); rfl; rfl; exact (Blk.new _ _ _ _ rfl); exact cn_sz _; rfl; exact cn_one _; intro uH b40 ob40; replace b3 := (b3.alloc (.cells zC.cells.toArray 23)).only ob40 (Nat.ne_of_lt b3.lt); replace b37 := (b37.alloc (.cells zC.cells.toArray 23)).only ob40 (Nat.ne_of_lt b37.lt); replace b38 := (b38.alloc (.cells zC.cells.toArray 23)).only ob40 (Nat.ne_of_lt b38.lt); replace lw := Below.only (lw.alloc lw.size (.cells zC.cells.toArray 23)) ob40 lw.size; clear ob40)
    | (go_at_call 16; refine (k15 A6 c6 _ s6 g1 g2).mono ?_; rintro e wH ⟨rfl, l1⟩; replace b3 := b3.keep l1; replace b37 := b37.keep l1; replace b38 := b38.keep l1; replace lw := Later.trans_ lw l1)
    | (go_at_call 10; refine (k13 _).mono ?_; rintro e wG ⟨A6, n6, c6, rfl, g1, g2, rfl, s6, l1⟩; replace b3 := b3.keep l1; replace b37 := b37.keep l1; replace b38 := b38.keep l1; replace lw := Later.trans_ lw l1)
    | ((with_reducible refine wpList_load_blk (o := ⟨some 124, .load 23 (.tmp 3), _, _, _, none⟩) rfl _ _ rfl w2.heap.size 23 c2.cells _ ?_ ?_ Try.underlying23 rfl (cn_sz _) ?_); rfl; exact b3))
  have f0 := b38.cell (j := 0) (v := .string sF) rfl
  have f1 := b38.cell (j := 1) (v := .int .i64 1) rfl
  have f2 := b37.cell (j := 0) (v := .string sF) rfl
  have hq := cn_same c2
  have hA : sA = ⟨#[65]⟩ := rfl
  go_wp2_with (first
    | ((with_reducible refine wpList_load_g (o := ⟨some 202, .load 23 (.tmp 40), _, _, _, _⟩) _ _ rfl wH.heap.size 23 c2.cells _ ?_ ?_ ?_ Try.underlying23 ?_ (cn_sz _) ?_); rfl; rfl; exact b40; rfl)
    | ((with_reducible refine wpList_load_g (o := ⟨some 203, .load 23 (.tmp 3), _, _, _, _⟩) _ _ rfl w2.heap.size 23 c2.cells _ ?_ ?_ ?_ Try.underlying23 ?_ (cn_sz _) ?_); rfl; rfl; exact b3; rfl)
    | ((with_reducible refine wpList_load_g (o := ⟨some 207, .load 23 (.tmp 3), _, _, _, _⟩) _ _ rfl w2.heap.size 23 c2.cells _ ?_ ?_ ?_ Try.underlying23 ?_ (cn_sz _) ?_); rfl; rfl; exact b3; rfl)
    | (go_at_call 8; clear f0 f1 f2; (with_reducible refine (k14 _).mono ?_); rintro e wV ⟨rfl, l1⟩; replace b3 := b3.keep l1; replace b37 := b37.keep l1; replace b38 := b38.keep l1; replace b40 := b40.keep l1; replace lw := Later.trans_ lw l1))
  go_ret
  exact ⟨rfl, lw⟩
end Go.Proofs.Ytkhgaikfomcjeaa
