/-
  THE STATEMENT TrapCodes: Encode and Decode are as the document says, and each takes the other back; for every processor and bytes.
-/
import Derived.Test.YtkknobonpejgbaaTrapO
namespace Go.Proofs.Ytkknobonpejgbaa
open Go.RowKit Go.ChangeShapes Go.WideShapes Go.ChangeAt

def dC (b : Wm.Bs) : Cpu := dcdC b (Wm.decL Wm.decI 1 b).1 (Wm.decL Wm.decI 1 b).2.2
def dE (b : Wm.Bs) : Int := dcdE b (Wm.decL Wm.decI 1 b).1 (Wm.decL Wm.decI 1 b).2.2
theorem decode_any (A : Option Addr) (n c : Nat) (b : Wm.Bs) (w : World) (hs : Sl w 1 A n (U b)) (hb : Wm.isBs b) (hnc : n ≤ c) (hn : c ≤ maxLen) (hsm : n ≤ 1000000) :
    Calls Try.prog 27 #[.slice A n c] w fun r w' => r = .returned (.tuple #[.agg (dC b).cells.toArray, .int .i64 (dE b)]) ∧ Later w w' := by
  obtain ⟨l, u, e, hd⟩ : ∃ l u e, Wm.decL Wm.decI 1 b = (l, u, e) := ⟨_, _, _, rfl⟩
  unfold dC dE
  rw [hd]
  by_cases h : e ≠ 0 ∨ l.length ≠ 28
  · exact decode_short A n c b w hs hb hnc hn hsm l u e hd h
  · obtain rfl : e = 0 := by omega
    exact decode_long A n c b w hs hb hnc hn hsm l u hd (by omega)
theorem rdecode_any (A : Option Addr) (n c : Nat) (b : Wm.Bs) (w : World) (hs : Sl w 1 A n (U b)) (hb : Wm.isBs b) (hnc : n ≤ c) (hn : c ≤ maxLen) (hsm : n ≤ 1000000) :
    Calls Try.prog 28 #[.slice A n c] w fun r w' => r = .returned (.agg (gotC 0 (dC b) (dE b)).toArray) ∧ Later w w' := by
  obtain ⟨l, u, e, hd⟩ : ∃ l u e, Wm.decL Wm.decI 1 b = (l, u, e) := ⟨_, _, _, rfl⟩
  unfold dC dE
  rw [hd]
  by_cases h : e ≠ 0 ∨ u ≠ b.length ∨ l.length ≠ 28
  · exact rdecode_short A n c b w hs hb hnc hn hsm l u e hd h
  · obtain rfl : e = 0 := by omega
    obtain rfl : u = b.length := by omega
    exact rdecode_long A n c b w hs hb hnc hn hsm l hd (by omega)
theorem dec_ok {b : Wm.Bs} (hb : Wm.isBs b) : (dE b = 0 ∧ (dC b).wf ∧ Wm.encL Wm.encI (dC b).nums = b) ∨ dE b = 11 := by
  have hin := decL_in hb
  unfold dE dC
  generalize Wm.decL Wm.decI 1 b = q at hin
  cases h : okD b q.1 q.2.2 with
  | false => exact .inr (dcd_no h).2
  | true =>
    left
    rw [(dcd_yes h).1, (dcd_yes h).2]
    unfold okD at h
    simp only [Bool.and_eq_true, decide_eq_true_eq] at h
    exact ⟨rfl, ofL_wf hin, h.2.2.2⟩
theorem dec_enc {x : Cpu} (hx : x.wf) (hv : okC x.r0 x.c5 x.c7 x.c8 x.wt x.hl x.cn = true) : dC (Wm.encL Wm.encI x.nums) = x ∧ dE (Wm.encL Wm.encI x.nums) = 0 := by
  have h := Wm.ints_back x.nums [] (nums_in hx) (by show (28 : Nat) ≤ _; omega)
  rw [List.append_nil] at h
  have ho := okD_back hx hv
  unfold dC dE
  rw [h]
  exact ⟨(dcd_yes ho).1.trans (ofL_nums hx), (dcd_yes ho).2⟩
theorem got_range {w : World} {B : Nat} {t : TypeId} {a : Int} {x : Cpu} {e : Int} (h : Blk w B t (gotC a x e)) : w.rangeAt B 1 x.cells := h.range 1 30
theorem cpu_range {w : World} {B : Nat} {t : TypeId} {x : Cpu} (h : Blk w B t x.cells) : w.rangeAt B 0 x.cells := h.range 0 30
theorem bs_same (b : Wm.Bs) : ((strOfNums b).toList == (strOfNums b).toList) = true := by simp
set_option maxRecDepth 100000 in
theorem codes_big (x : Cpu) (A : Option Addr) (n c : Nat) (w : World) (h : 400 < n) :
    Calls Try.prog 5 #[.agg x.cells.toArray, .slice A n c] w fun e w' => e = .returned (.bool true) ∧ Later w w' := by
  have KS := Lib.hid fun w' => sanity_any w'
  have h1 : (400 : Int) < n := by omega
  clear h
  go_enter Try.func5, Try.ntmps5
  go_wp2_with (go_at_call 14; refine (KS.out _).mono ?_; rintro e w1 ⟨rfl, l1⟩)
  go_ret
  exact ⟨rfl, Later.trans_ (later1 _ _) l1⟩
set_option maxRecDepth 100000 in
set_option maxHeartbeats 8000000 in
theorem codes_ok_false (x : Cpu) (A : Option Addr) (n c : Nat) (b : Wm.Bs) (w : World) (hs : Sl w 1 A n (U b)) (hb : Wm.isBs b) (hnc : n ≤ c) (hn : c ≤ maxLen) (h400 : n ≤ 400) (hE : dE b = 0) (hX : (dC b).wf) (hXn : Wm.encL Wm.encI (dC b).nums = b) (hv : okC x.r0 x.c5 x.c7 x.c8 x.wt x.hl x.cn = false) :
    Calls Try.prog 5 #[.agg x.cells.toArray, .slice A n c] w fun e w' => e = .returned (.bool true) ∧ Later w w' := by
  have KS := Lib.hid fun w' => sanity_any w'
  have b4 := Blk.new w 26 x.cells.toArray x.cells rfl
  have lw := later1 w (.cells x.cells.toArray 26)
  have LK := Lib.hid fun (w' : World) (hl : Later w w') => hs.keep hl
  have KD := Lib.hid fun w' hl => decode_any A n c b w' (LK.out w' hl) hb hnc hn (by omega)
  have KD2 := Lib.hid fun w' hl => rdecode_any A n c b w' (LK.out w' hl) hb hnc hn (by omega)
  rw [hE] at KD KD2
  have h4 : ¬ ((400 : Int) < n) := by omega
  have KV := Lib.hid fun w' => rvalid_is hv w'
  have KX := Lib.hid fun w' => enc_any (dC b) w' hX
  obtain ⟨X, hX0⟩ : ∃ X, X = dC b := ⟨_, rfl⟩
  rw [← hX0] at KD KD2 KX hXn
  have hXb := Lib.hid hXn
  have heq := cpu_same X
  have hbb := bs_same b
  clear hX0 hs hb hnc hn h400 hE hv hX hXn
  go_enter Try.func5, Try.ntmps5
  go_wp2_with (first
    | (go_at_call 27; (with_reducible refine (KD.out _ lw).mono ?_); rintro e w1 ⟨rfl, l1⟩; replace b4 := b4.keep l1; replace lw := Later.trans_ lw l1)
    | ((with_reducible refine wpList_store_abs (o := ⟨none, .store 26 (.tmp 5) (.tmp 18), _, _, _, none⟩) rfl _ _ _ rfl w1.heap.size 26 zC.cells X.cells ?_ ?_ ?_ ?_ ?_ ?_ ?_); rfl; rfl; exact (Blk.new _ _ _ _ rfl); exact cpu_sz _; rfl; exact cpu_one _; intro v1 b5 o1; replace b4 := (b4.alloc (.cells zC.cells.toArray 26)).only o1 (Nat.ne_of_lt b4.lt); replace lw := Below.only (lw.alloc lw.size (.cells zC.cells.toArray 26)) o1 lw.size)
    | (go_at_call 28; (with_reducible refine (KD2.out _ lw).mono ?_); rintro e w2 ⟨rfl, l2⟩; replace b4 := b4.keep l2; replace b5 := b5.keep l2; replace lw := Later.trans_ lw l2)
    | ((with_reducible refine wpList_store_abs (o := ⟨none, .store 45 (.tmp 7) (.tmp 21), _, _, _, none⟩) rfl _ _ _ rfl w2.heap.size 45 (gotC 0 zC 0) (gotC 0 X 0) ?_ ?_ ?_ ?_ ?_ ?_ ?_); rfl; rfl; exact (Blk.new _ _ _ _ rfl); exact got_sz _ _ _; rfl; exact got_one _ _ _; intro v2 b7 o2; replace b4 := (b4.alloc (.cells (gotC 0 zC 0).toArray 45)).only o2 (Nat.ne_of_lt b4.lt); replace b5 := (b5.alloc (.cells (gotC 0 zC 0).toArray 45)).only o2 (Nat.ne_of_lt b5.lt); replace lw := Below.only (lw.alloc lw.size (.cells (gotC 0 zC 0).toArray 45)) o2 lw.size))
  replace b4 := b4.drew
  replace b5 := b5.drew
  replace b7 := b7.drew
  replace lw := lw.drew
  refine wp_region_held_drew (S := fun w' => w'.rangeAt w1.heap.size 0 X.cells ∧ w'.rangeAt w2.heap.size 1 X.cells ∧ w'.cell? ⟨w2.heap.size, 31, none⟩ = some (.int .i64 0) ∧ (convert 48 9 (.slice A n c)).run Try.prog w' = .ok (.string (strOfNums b)) w') (by kernel_rfl) ⟨cpu_range b5, got_range b7, b7.cell (j := 31) (v := .int .i64 0) rfl, to_str (LK.out _ lw) c⟩ (fun hHeld => ?_)
  refine wpAnyH_take (i := 0) (oi := ⟨some 22, .load 26 (.tmp 5), _, _, _, none⟩) (v := .agg X.cells.toArray) rfl (by kernel_rfl) (by kernel_rfl) (by kernel_rfl) (fun _ _ _ h => h) (yieldsIf_load_mid (by rfl) _ _ rfl _ _ rfl X.cells _ (fun w h => h.1) Try.underlying26 rfl (cpu_sz _)) hHeld ?_
  simp only [Act.put, List.setIfInBounds_toArray, List.set_cons_zero, List.set_cons_succ]
  refine wpAnyH_take (i := 1) (oi := ⟨some 23, .fieldAddr 45 (.tmp 7) 1, _, _, _, none⟩) (v := .pointer (some ⟨w2.heap.size, 1, none⟩)) rfl (by kernel_rfl) (by kernel_rfl) (by kernel_rfl) (fun _ _ _ h => h) (Or.inl ⟨by rfl, fun w _ => by go_simp⟩) hHeld ?_
  simp only [Act.put, List.setIfInBounds_toArray, List.set_cons_zero, List.set_cons_succ]
  refine wpAnyH_take (i := 2) (oi := ⟨some 24, .load 26 (.tmp 23), _, _, _, none⟩) (v := .agg X.cells.toArray) rfl (by kernel_rfl) (by kernel_rfl) (by kernel_rfl) (fun _ _ _ h => h) (yieldsIf_load_mid (by rfl) _ _ rfl _ _ rfl X.cells _ (fun w h => h.2.1) Try.underlying26 rfl (cpu_sz _)) hHeld ?_
  simp only [Act.put, List.setIfInBounds_toArray, List.set_cons_zero, List.set_cons_succ]
  refine wpAnyH_take (i := 3) (oi := ⟨some 25, .binOp .neq 26 (.tmp 22) (.tmp 24) 26, _, _, _, none⟩) (v := .bool false) rfl (by kernel_rfl) (by kernel_rfl) (by kernel_rfl) (fun _ _ _ h => h) (Or.inl ⟨by rfl, fun w _ => by go_simp⟩) hHeld ?_
  simp only [Act.put, List.setIfInBounds_toArray, List.set_cons_zero, List.set_cons_succ]
  refine wpAnyH_take (i := 4) (oi := ⟨some 26, .move (.tmp 25), _, _, _, none⟩) (v := .bool false) rfl (by kernel_rfl) (by kernel_rfl) (by kernel_rfl) (fun _ _ _ h => h) (Or.inl ⟨by rfl, fun _ _ => rfl⟩) hHeld ?_
  simp only [Act.put, List.setIfInBounds_toArray, List.set_cons_zero, List.set_cons_succ]
  refine wpAnyH_take (i := 5) (oi := ⟨some 27, .move (.tmp 6), _, _, _, _⟩) (v := .int .i64 0) rfl (by kernel_rfl) (by kernel_rfl) (by kernel_rfl) (fun _ _ _ h => h) (Or.inl ⟨by rfl, fun _ _ => rfl⟩) hHeld ?_
  simp only [Act.put, List.setIfInBounds_toArray, List.set_cons_zero, List.set_cons_succ]
  refine wpAnyH_take (i := 6) (oi := ⟨some 28, .fieldAddr 45 (.tmp 7) 2, _, _, _, _⟩) (v := .pointer (some ⟨w2.heap.size, 31, none⟩)) rfl (by kernel_rfl) (by kernel_rfl) (by kernel_rfl) (fun _ _ _ h => h) (Or.inl ⟨by rfl, fun w _ => by go_simp⟩) hHeld ?_
  simp only [Act.put, List.setIfInBounds_toArray, List.set_cons_zero, List.set_cons_succ]
  refine wpAnyH_take (i := 7) (oi := ⟨some 29, .load 39 (.tmp 28), _, _, _, _⟩) (v := .int .i64 0) rfl (by kernel_rfl) (by kernel_rfl) (by kernel_rfl) (fun _ _ _ h => h) (Or.inl ⟨by rfl, fun w hSw => by have e1 := hSw.2.2.1; clear hSw; go_simp⟩) hHeld ?_
  simp only [Act.put, List.setIfInBounds_toArray, List.set_cons_zero, List.set_cons_succ]
  refine wpAnyH_take (i := 8) (oi := ⟨some 30, .binOp .neq 39 (.tmp 27) (.tmp 29) 39, _, _, _, _⟩) (v := .bool false) rfl (by kernel_rfl) (by kernel_rfl) (by kernel_rfl) (fun _ _ _ h => h) (Or.inl ⟨by rfl, fun w _ => by go_simp⟩) hHeld ?_
  simp only [Act.put, List.setIfInBounds_toArray, List.set_cons_zero, List.set_cons_succ]
  refine wpAnyH_take (i := 9) (oi := ⟨some 31, .pick (.tmp 26) (.const (.bool true)) (.tmp 30), _, _, _, none⟩) (v := .bool false) rfl (by kernel_rfl) (by kernel_rfl) (by kernel_rfl) (fun _ _ _ h => h) (Or.inl ⟨by rfl, fun w _ => by go_simp⟩) hHeld ?_
  simp only [Act.put, List.setIfInBounds_toArray, List.set_cons_zero, List.set_cons_succ]
  refine wpAnyH_take (i := 10) (oi := ⟨some 32, .move (.tmp 31), _, _, _, none⟩) (v := .bool false) rfl (by kernel_rfl) (by kernel_rfl) (by kernel_rfl) (fun _ _ _ h => h) (Or.inl ⟨by rfl, fun _ _ => rfl⟩) hHeld ?_
  simp only [Act.put, List.setIfInBounds_toArray, List.set_cons_zero, List.set_cons_succ]
  refine wpAnyH_take (i := 11) (oi := ⟨some 33, .move (.tmp 6), _, _, _, _⟩) (v := .int .i64 0) rfl (by kernel_rfl) (by kernel_rfl) (by kernel_rfl) (fun _ _ _ h => h) (Or.inl ⟨by rfl, fun _ _ => rfl⟩) hHeld ?_
  simp only [Act.put, List.setIfInBounds_toArray, List.set_cons_zero, List.set_cons_succ]
  refine wpAnyH_take (i := 12) (oi := ⟨some 34, .binOp .eql 39 (.tmp 33) (.const (.int .i64 0)) 39, _, _, _, _⟩) (v := .bool true) rfl (by kernel_rfl) (by kernel_rfl) (by kernel_rfl) (fun _ _ _ h => h) (Or.inl ⟨by rfl, fun w _ => by go_simp⟩) hHeld ?_
  simp only [Act.put, List.setIfInBounds_toArray, List.set_cons_zero, List.set_cons_succ]
  refine wpAnyH_take (i := 13) (oi := ⟨some 35, .move (.tmp 34), _, _, _, _⟩) (v := .bool true) rfl (by kernel_rfl) (by kernel_rfl) (by kernel_rfl) (fun _ _ _ h => h) (Or.inl ⟨by rfl, fun _ _ => rfl⟩) hHeld ?_
  simp only [Act.put, List.setIfInBounds_toArray, List.set_cons_zero, List.set_cons_succ]
  refine wpAnyH_take (i := 14) (oi := ⟨some 36, .load 26 (.tmp 5), _, _, _, _⟩) (v := .agg X.cells.toArray) rfl (by kernel_rfl) (by kernel_rfl) (by kernel_rfl) (fun _ _ _ h => h) (yieldsIf_load_mid (by rfl) _ _ rfl _ _ rfl X.cells _ (fun w h => h.1) Try.underlying26 rfl (cpu_sz _)) hHeld ?_
  simp only [Act.put, List.setIfInBounds_toArray, List.set_cons_zero, List.set_cons_succ]
  refine wpAnyH_take (i := 17) (oi := ⟨some 39, .move (.tmp 1), _, _, _, _⟩) (v := .slice A n c) rfl (by kernel_rfl) (by kernel_rfl) (by kernel_rfl) (fun _ _ _ h => h) (Or.inl ⟨by rfl, fun _ _ => rfl⟩) hHeld ?_
  simp only [Act.put, List.setIfInBounds_toArray, List.set_cons_zero, List.set_cons_succ]
  refine wpAnyH_take (i := 18) (oi := ⟨some 40, .convert 48 9 (.tmp 39), _, _, _, _⟩) (v := .string (strOfNums b)) rfl (by kernel_rfl) (by kernel_rfl) (by kernel_rfl) (fun _ _ _ h => h) (Or.inl ⟨by rfl, fun w hSw => by have e1 := hSw.2.2.2; clear hSw; go_simp⟩) hHeld ?_
  simp only [Act.put, List.setIfInBounds_toArray, List.set_cons_zero, List.set_cons_succ]
  refine wpAnyH_ready (rs := [15]) (by kernel_rfl) (by simp) (AllReadyH.cons (o := ⟨some 37, .call { callee := .value (.func 29), args := #[.tmp 36], argTypes := #[26] }, _, _, _, _⟩) rfl (fun K' hK => ?_) AllReadyH.nil)
  go_simp
  refine (KX.out _).mono ?_
  rintro e v6 ⟨A6, n6, c6, rfl, _, _, rfl, s6, l6⟩
  replace b4 := b4.keep l6
  replace b5 := b5.keep l6
  replace b7 := b7.keep l6
  replace lw := Later.trans_ lw l6
  have k6 : (convert 48 9 (.slice A6 (Wm.encL Wm.encI X.nums).length c6)).run Try.prog v6 = .ok (.string (strOfNums b)) v6 := (by rw [to_str s6 c6, hXb.out])
  refine hK.out _ _ ⟨cpu_range b5, got_range b7, b7.cell (j := 31) (v := .int .i64 0) rfl, to_str (LK.out _ lw) c⟩ (fun hHeld => ?_)
  clear hK K'
  try simp only [Act.put, List.setIfInBounds_toArray, List.set_cons_zero, List.set_cons_succ]
  refine wpAnyH_ready (rs := [16]) (by kernel_rfl) (by simp) (AllReadyH.cons (o := ⟨some 38, .convert 48 9 (.tmp 37), _, _, _, _⟩) rfl (fun K' hK => ?_) AllReadyH.nil)
  go_simp
  refine hK.out _ _ ⟨cpu_range b5, got_range b7, b7.cell (j := 31) (v := .int .i64 0) rfl, to_str (LK.out _ lw) c⟩ (fun hHeld => ?_)
  clear hK K'
  try simp only [Act.put, List.setIfInBounds_toArray, List.set_cons_zero, List.set_cons_succ]
  refine wpAnyH_take (i := 19) (oi := ⟨some 41, .binOp .neq 9 (.tmp 38) (.tmp 40) 9, _, _, _, _⟩) (v := .bool false) rfl (by kernel_rfl) (by kernel_rfl) (by kernel_rfl) (fun _ _ _ h => h) (Or.inl ⟨by rfl, fun w _ => by go_simp⟩) hHeld ?_
  simp only [Act.put, List.setIfInBounds_toArray, List.set_cons_zero, List.set_cons_succ]
  refine wpAnyH_take (i := 20) (oi := ⟨some 42, .pick (.tmp 35) (.tmp 41) (.const (.bool false)), _, _, _, _⟩) (v := .bool false) rfl (by kernel_rfl) (by kernel_rfl) (by kernel_rfl) (fun _ _ _ h => h) (Or.inl ⟨by rfl, fun w _ => by go_simp⟩) hHeld ?_
  simp only [Act.put, List.setIfInBounds_toArray, List.set_cons_zero, List.set_cons_succ]
  refine wpAnyH_take (i := 21) (oi := ⟨some 43, .pick (.tmp 32) (.const (.bool true)) (.tmp 42), _, _, _, none⟩) (v := .bool false) rfl (by kernel_rfl) (by kernel_rfl) (by kernel_rfl) (fun _ _ _ h => h) (Or.inl ⟨by rfl, fun w _ => by go_simp⟩) hHeld ?_
  simp only [Act.put, List.setIfInBounds_toArray, List.set_cons_zero, List.set_cons_succ]
  refine wpAnyH_done (by kernel_rfl) ?_ _
  clear hHeld
  go_wp2_with (first
    | ((with_reducible refine wpList_load_blk (o := ⟨some 44, .load 26 (.tmp 2), _, _, _, none⟩) rfl _ _ rfl w.heap.size 26 x.cells _ ?_ ?_ Try.underlying26 rfl (cpu_sz _) ?_); rfl; exact b4)
    | (go_at_call 11; (with_reducible refine (KV.out _).mono ?_); rintro e w3 ⟨rfl, l3⟩; replace b4 := b4.keep l3; replace lw := Later.trans_ lw l3)
    | (go_at_call 14; (with_reducible refine (KS.out _).mono ?_); rintro e w4 ⟨rfl, l4⟩; replace b4 := b4.keep l4; replace lw := Later.trans_ lw l4))
  go_ret
  exact ⟨rfl, lw⟩
set_option maxRecDepth 100000 in
set_option maxHeartbeats 8000000 in
theorem codes_ok_true (x : Cpu) (A : Option Addr) (n c : Nat) (b : Wm.Bs) (w : World) (hs : Sl w 1 A n (U b)) (hb : Wm.isBs b) (hnc : n ≤ c) (hn : c ≤ maxLen) (h400 : n ≤ 400) (hx : x.wf) (hE : dE b = 0) (hX : (dC b).wf) (hXn : Wm.encL Wm.encI (dC b).nums = b) (hv : okC x.r0 x.c5 x.c7 x.c8 x.wt x.hl x.cn = true) :
    Calls Try.prog 5 #[.agg x.cells.toArray, .slice A n c] w fun e w' => e = .returned (.bool true) ∧ Later w w' := by
  have KS := Lib.hid fun w' => sanity_any w'
  have b4 := Blk.new w 26 x.cells.toArray x.cells rfl
  have lw := later1 w (.cells x.cells.toArray 26)
  have LK := Lib.hid fun (w' : World) (hl : Later w w') => hs.keep hl
  have KD := Lib.hid fun w' hl => decode_any A n c b w' (LK.out w' hl) hb hnc hn (by omega)
  have KD2 := Lib.hid fun w' hl => rdecode_any A n c b w' (LK.out w' hl) hb hnc hn (by omega)
  rw [hE] at KD KD2
  have h4 : ¬ ((400 : Int) < n) := by omega
  have KV := Lib.hid fun w' => rvalid_is hv w'
  have KX := Lib.hid fun w' => enc_any (dC b) w' hX
  have KE := Lib.hid fun w' => enc_any x w' hx
  have KR := Lib.hid fun w' => renc_any x w' hx
  have KB := Lib.hid fun (A' : Option Addr) (c' : Nat) (w' : World) (h1 : Sl w' 1 A' (Wm.encL Wm.encI x.nums).length (U (Wm.encL Wm.encI x.nums))) h2 h3 => decode_any A' _ c' _ w' h1 (encLI_bytes _) h2 h3 (by have := encL_le x.nums (nums_in hx) rfl; omega)
  rw [(dec_enc hx hv).1, (dec_enc hx hv).2] at KB
  have heqx := cpu_same x
  have hbx := bs_same (Wm.encL Wm.encI x.nums)
  obtain ⟨X, hX0⟩ : ∃ X, X = dC b := ⟨_, rfl⟩
  rw [← hX0] at KD KD2 KX hXn
  have hXb := Lib.hid hXn
  have heq := cpu_same X
  have hbb := bs_same b
  clear hX0 hs hb hnc hn h400 hx hE hv hX hXn
  go_enter Try.func5, Try.ntmps5
  go_wp2_with (first
    | (go_at_call 27; (with_reducible refine (KD.out _ lw).mono ?_); rintro e w1 ⟨rfl, l1⟩; replace b4 := b4.keep l1; replace lw := Later.trans_ lw l1)
    | ((with_reducible refine wpList_store_abs (o := ⟨none, .store 26 (.tmp 5) (.tmp 18), _, _, _, none⟩) rfl _ _ _ rfl w1.heap.size 26 zC.cells X.cells ?_ ?_ ?_ ?_ ?_ ?_ ?_); rfl; rfl; exact (Blk.new _ _ _ _ rfl); exact cpu_sz _; rfl; exact cpu_one _; intro v1 b5 o1; replace b4 := (b4.alloc (.cells zC.cells.toArray 26)).only o1 (Nat.ne_of_lt b4.lt); replace lw := Below.only (lw.alloc lw.size (.cells zC.cells.toArray 26)) o1 lw.size)
    | (go_at_call 28; (with_reducible refine (KD2.out _ lw).mono ?_); rintro e w2 ⟨rfl, l2⟩; replace b4 := b4.keep l2; replace b5 := b5.keep l2; replace lw := Later.trans_ lw l2)
    | ((with_reducible refine wpList_store_abs (o := ⟨none, .store 45 (.tmp 7) (.tmp 21), _, _, _, none⟩) rfl _ _ _ rfl w2.heap.size 45 (gotC 0 zC 0) (gotC 0 X 0) ?_ ?_ ?_ ?_ ?_ ?_ ?_); rfl; rfl; exact (Blk.new _ _ _ _ rfl); exact got_sz _ _ _; rfl; exact got_one _ _ _; intro v2 b7 o2; replace b4 := (b4.alloc (.cells (gotC 0 zC 0).toArray 45)).only o2 (Nat.ne_of_lt b4.lt); replace b5 := (b5.alloc (.cells (gotC 0 zC 0).toArray 45)).only o2 (Nat.ne_of_lt b5.lt); replace lw := Below.only (lw.alloc lw.size (.cells (gotC 0 zC 0).toArray 45)) o2 lw.size))
  replace b4 := b4.drew
  replace b5 := b5.drew
  replace b7 := b7.drew
  replace lw := lw.drew
  refine wp_region_held_drew (S := fun w' => w'.rangeAt w1.heap.size 0 X.cells ∧ w'.rangeAt w2.heap.size 1 X.cells ∧ w'.cell? ⟨w2.heap.size, 31, none⟩ = some (.int .i64 0) ∧ (convert 48 9 (.slice A n c)).run Try.prog w' = .ok (.string (strOfNums b)) w') (by kernel_rfl) ⟨cpu_range b5, got_range b7, b7.cell (j := 31) (v := .int .i64 0) rfl, to_str (LK.out _ lw) c⟩ (fun hHeld => ?_)
  refine wpAnyH_take (i := 0) (oi := ⟨some 22, .load 26 (.tmp 5), _, _, _, none⟩) (v := .agg X.cells.toArray) rfl (by kernel_rfl) (by kernel_rfl) (by kernel_rfl) (fun _ _ _ h => h) (yieldsIf_load_mid (by rfl) _ _ rfl _ _ rfl X.cells _ (fun w h => h.1) Try.underlying26 rfl (cpu_sz _)) hHeld ?_
  simp only [Act.put, List.setIfInBounds_toArray, List.set_cons_zero, List.set_cons_succ]
  refine wpAnyH_take (i := 1) (oi := ⟨some 23, .fieldAddr 45 (.tmp 7) 1, _, _, _, none⟩) (v := .pointer (some ⟨w2.heap.size, 1, none⟩)) rfl (by kernel_rfl) (by kernel_rfl) (by kernel_rfl) (fun _ _ _ h => h) (Or.inl ⟨by rfl, fun w _ => by go_simp⟩) hHeld ?_
  simp only [Act.put, List.setIfInBounds_toArray, List.set_cons_zero, List.set_cons_succ]
  refine wpAnyH_take (i := 2) (oi := ⟨some 24, .load 26 (.tmp 23), _, _, _, none⟩) (v := .agg X.cells.toArray) rfl (by kernel_rfl) (by kernel_rfl) (by kernel_rfl) (fun _ _ _ h => h) (yieldsIf_load_mid (by rfl) _ _ rfl _ _ rfl X.cells _ (fun w h => h.2.1) Try.underlying26 rfl (cpu_sz _)) hHeld ?_
  simp only [Act.put, List.setIfInBounds_toArray, List.set_cons_zero, List.set_cons_succ]
  refine wpAnyH_take (i := 3) (oi := ⟨some 25, .binOp .neq 26 (.tmp 22) (.tmp 24) 26, _, _, _, none⟩) (v := .bool false) rfl (by kernel_rfl) (by kernel_rfl) (by kernel_rfl) (fun _ _ _ h => h) (Or.inl ⟨by rfl, fun w _ => by go_simp⟩) hHeld ?_
  simp only [Act.put, List.setIfInBounds_toArray, List.set_cons_zero, List.set_cons_succ]
  refine wpAnyH_take (i := 4) (oi := ⟨some 26, .move (.tmp 25), _, _, _, none⟩) (v := .bool false) rfl (by kernel_rfl) (by kernel_rfl) (by kernel_rfl) (fun _ _ _ h => h) (Or.inl ⟨by rfl, fun _ _ => rfl⟩) hHeld ?_
  simp only [Act.put, List.setIfInBounds_toArray, List.set_cons_zero, List.set_cons_succ]
  refine wpAnyH_take (i := 5) (oi := ⟨some 27, .move (.tmp 6), _, _, _, _⟩) (v := .int .i64 0) rfl (by kernel_rfl) (by kernel_rfl) (by kernel_rfl) (fun _ _ _ h => h) (Or.inl ⟨by rfl, fun _ _ => rfl⟩) hHeld ?_
  simp only [Act.put, List.setIfInBounds_toArray, List.set_cons_zero, List.set_cons_succ]
  refine wpAnyH_take (i := 6) (oi := ⟨some 28, .fieldAddr 45 (.tmp 7) 2, _, _, _, _⟩) (v := .pointer (some ⟨w2.heap.size, 31, none⟩)) rfl (by kernel_rfl) (by kernel_rfl) (by kernel_rfl) (fun _ _ _ h => h) (Or.inl ⟨by rfl, fun w _ => by go_simp⟩) hHeld ?_
  simp only [Act.put, List.setIfInBounds_toArray, List.set_cons_zero, List.set_cons_succ]
  refine wpAnyH_take (i := 7) (oi := ⟨some 29, .load 39 (.tmp 28), _, _, _, _⟩) (v := .int .i64 0) rfl (by kernel_rfl) (by kernel_rfl) (by kernel_rfl) (fun _ _ _ h => h) (Or.inl ⟨by rfl, fun w hSw => by have e1 := hSw.2.2.1; clear hSw; go_simp⟩) hHeld ?_
  simp only [Act.put, List.setIfInBounds_toArray, List.set_cons_zero, List.set_cons_succ]
  refine wpAnyH_take (i := 8) (oi := ⟨some 30, .binOp .neq 39 (.tmp 27) (.tmp 29) 39, _, _, _, _⟩) (v := .bool false) rfl (by kernel_rfl) (by kernel_rfl) (by kernel_rfl) (fun _ _ _ h => h) (Or.inl ⟨by rfl, fun w _ => by go_simp⟩) hHeld ?_
  simp only [Act.put, List.setIfInBounds_toArray, List.set_cons_zero, List.set_cons_succ]
  refine wpAnyH_take (i := 9) (oi := ⟨some 31, .pick (.tmp 26) (.const (.bool true)) (.tmp 30), _, _, _, none⟩) (v := .bool false) rfl (by kernel_rfl) (by kernel_rfl) (by kernel_rfl) (fun _ _ _ h => h) (Or.inl ⟨by rfl, fun w _ => by go_simp⟩) hHeld ?_
  simp only [Act.put, List.setIfInBounds_toArray, List.set_cons_zero, List.set_cons_succ]
  refine wpAnyH_take (i := 10) (oi := ⟨some 32, .move (.tmp 31), _, _, _, none⟩) (v := .bool false) rfl (by kernel_rfl) (by kernel_rfl) (by kernel_rfl) (fun _ _ _ h => h) (Or.inl ⟨by rfl, fun _ _ => rfl⟩) hHeld ?_
  simp only [Act.put, List.setIfInBounds_toArray, List.set_cons_zero, List.set_cons_succ]
  refine wpAnyH_take (i := 11) (oi := ⟨some 33, .move (.tmp 6), _, _, _, _⟩) (v := .int .i64 0) rfl (by kernel_rfl) (by kernel_rfl) (by kernel_rfl) (fun _ _ _ h => h) (Or.inl ⟨by rfl, fun _ _ => rfl⟩) hHeld ?_
  simp only [Act.put, List.setIfInBounds_toArray, List.set_cons_zero, List.set_cons_succ]
  refine wpAnyH_take (i := 12) (oi := ⟨some 34, .binOp .eql 39 (.tmp 33) (.const (.int .i64 0)) 39, _, _, _, _⟩) (v := .bool true) rfl (by kernel_rfl) (by kernel_rfl) (by kernel_rfl) (fun _ _ _ h => h) (Or.inl ⟨by rfl, fun w _ => by go_simp⟩) hHeld ?_
  simp only [Act.put, List.setIfInBounds_toArray, List.set_cons_zero, List.set_cons_succ]
  refine wpAnyH_take (i := 13) (oi := ⟨some 35, .move (.tmp 34), _, _, _, _⟩) (v := .bool true) rfl (by kernel_rfl) (by kernel_rfl) (by kernel_rfl) (fun _ _ _ h => h) (Or.inl ⟨by rfl, fun _ _ => rfl⟩) hHeld ?_
  simp only [Act.put, List.setIfInBounds_toArray, List.set_cons_zero, List.set_cons_succ]
  refine wpAnyH_take (i := 14) (oi := ⟨some 36, .load 26 (.tmp 5), _, _, _, _⟩) (v := .agg X.cells.toArray) rfl (by kernel_rfl) (by kernel_rfl) (by kernel_rfl) (fun _ _ _ h => h) (yieldsIf_load_mid (by rfl) _ _ rfl _ _ rfl X.cells _ (fun w h => h.1) Try.underlying26 rfl (cpu_sz _)) hHeld ?_
  simp only [Act.put, List.setIfInBounds_toArray, List.set_cons_zero, List.set_cons_succ]
  refine wpAnyH_take (i := 17) (oi := ⟨some 39, .move (.tmp 1), _, _, _, _⟩) (v := .slice A n c) rfl (by kernel_rfl) (by kernel_rfl) (by kernel_rfl) (fun _ _ _ h => h) (Or.inl ⟨by rfl, fun _ _ => rfl⟩) hHeld ?_
  simp only [Act.put, List.setIfInBounds_toArray, List.set_cons_zero, List.set_cons_succ]
  refine wpAnyH_take (i := 18) (oi := ⟨some 40, .convert 48 9 (.tmp 39), _, _, _, _⟩) (v := .string (strOfNums b)) rfl (by kernel_rfl) (by kernel_rfl) (by kernel_rfl) (fun _ _ _ h => h) (Or.inl ⟨by rfl, fun w hSw => by have e1 := hSw.2.2.2; clear hSw; go_simp⟩) hHeld ?_
  simp only [Act.put, List.setIfInBounds_toArray, List.set_cons_zero, List.set_cons_succ]
  refine wpAnyH_ready (rs := [15]) (by kernel_rfl) (by simp) (AllReadyH.cons (o := ⟨some 37, .call { callee := .value (.func 29), args := #[.tmp 36], argTypes := #[26] }, _, _, _, _⟩) rfl (fun K' hK => ?_) AllReadyH.nil)
  go_simp
  refine (KX.out _).mono ?_
  rintro e v6 ⟨A6, n6, c6, rfl, _, _, rfl, s6, l6⟩
  replace b4 := b4.keep l6
  replace b5 := b5.keep l6
  replace b7 := b7.keep l6
  replace lw := Later.trans_ lw l6
  have k6 : (convert 48 9 (.slice A6 (Wm.encL Wm.encI X.nums).length c6)).run Try.prog v6 = .ok (.string (strOfNums b)) v6 := (by rw [to_str s6 c6, hXb.out])
  refine hK.out _ _ ⟨cpu_range b5, got_range b7, b7.cell (j := 31) (v := .int .i64 0) rfl, to_str (LK.out _ lw) c⟩ (fun hHeld => ?_)
  clear hK K'
  try simp only [Act.put, List.setIfInBounds_toArray, List.set_cons_zero, List.set_cons_succ]
  refine wpAnyH_ready (rs := [16]) (by kernel_rfl) (by simp) (AllReadyH.cons (o := ⟨some 38, .convert 48 9 (.tmp 37), _, _, _, _⟩) rfl (fun K' hK => ?_) AllReadyH.nil)
  go_simp
  refine hK.out _ _ ⟨cpu_range b5, got_range b7, b7.cell (j := 31) (v := .int .i64 0) rfl, to_str (LK.out _ lw) c⟩ (fun hHeld => ?_)
  clear hK K'
  try simp only [Act.put, List.setIfInBounds_toArray, List.set_cons_zero, List.set_cons_succ]
  refine wpAnyH_take (i := 19) (oi := ⟨some 41, .binOp .neq 9 (.tmp 38) (.tmp 40) 9, _, _, _, _⟩) (v := .bool false) rfl (by kernel_rfl) (by kernel_rfl) (by kernel_rfl) (fun _ _ _ h => h) (Or.inl ⟨by rfl, fun w _ => by go_simp⟩) hHeld ?_
  simp only [Act.put, List.setIfInBounds_toArray, List.set_cons_zero, List.set_cons_succ]
  refine wpAnyH_take (i := 20) (oi := ⟨some 42, .pick (.tmp 35) (.tmp 41) (.const (.bool false)), _, _, _, _⟩) (v := .bool false) rfl (by kernel_rfl) (by kernel_rfl) (by kernel_rfl) (fun _ _ _ h => h) (Or.inl ⟨by rfl, fun w _ => by go_simp⟩) hHeld ?_
  simp only [Act.put, List.setIfInBounds_toArray, List.set_cons_zero, List.set_cons_succ]
  refine wpAnyH_take (i := 21) (oi := ⟨some 43, .pick (.tmp 32) (.const (.bool true)) (.tmp 42), _, _, _, none⟩) (v := .bool false) rfl (by kernel_rfl) (by kernel_rfl) (by kernel_rfl) (fun _ _ _ h => h) (Or.inl ⟨by rfl, fun w _ => by go_simp⟩) hHeld ?_
  simp only [Act.put, List.setIfInBounds_toArray, List.set_cons_zero, List.set_cons_succ]
  refine wpAnyH_done (by kernel_rfl) ?_ _
  clear hHeld
  clear b5 b7
  go_wp2_with (first
    | ((with_reducible refine wpList_load_blk (o := ⟨some 44, .load 26 (.tmp 2), _, _, _, none⟩) rfl _ _ rfl w.heap.size 26 x.cells _ ?_ ?_ Try.underlying26 rfl (cpu_sz _) ?_); rfl; exact b4)
    | (go_at_call 11; (with_reducible refine (KV.out _).mono ?_); rintro e w3 ⟨rfl, l3⟩; replace b4 := b4.keep l3; replace lw := Later.trans_ lw l3)
    | ((with_reducible refine wpList_load_blk (o := ⟨some 50, .load 26 (.tmp 2), _, _, _, none⟩) rfl _ _ rfl w.heap.size 26 x.cells _ ?_ ?_ Try.underlying26 rfl (cpu_sz _) ?_); rfl; exact b4)
    | (go_at_call 29; (with_reducible refine (KE.out _).mono ?_); rintro e w8 ⟨A8, n8, c8, rfl, g1, g2, rfl, s8, l8⟩; replace b4 := b4.keep l8; replace lw := Later.trans_ lw l8)
    | (go_at_call 27; (with_reducible refine (KB.out _ _ _ s8 g1 g2).mono ?_); rintro e v9 ⟨rfl, l9⟩; replace b4 := b4.keep l9; replace lw := Later.trans_ lw l9)
    | ((with_reducible refine wpList_store_abs (o := ⟨none, .store 26 (.tmp 9) (.tmp 53), _, _, _, none⟩) rfl _ _ _ rfl v9.heap.size 26 zC.cells x.cells ?_ ?_ ?_ ?_ ?_ ?_ ?_); rfl; rfl; exact (Blk.new _ _ _ _ rfl); exact cpu_sz _; rfl; exact cpu_one _; intro u9 b9 o9; replace b4 := (b4.alloc (.cells zC.cells.toArray 26)).only o9 (Nat.ne_of_lt b4.lt); replace lw := Below.only (lw.alloc lw.size (.cells zC.cells.toArray 26)) o9 lw.size))
  replace b4 := b4.drew
  replace b9 := b9.drew
  replace lw := lw.drew
  clear s8 g1 g2
  refine wp_region_held_drew (S := fun w' => w'.rangeAt w.heap.size 0 x.cells ∧ w'.rangeAt v9.heap.size 0 x.cells) (by kernel_rfl) ⟨cpu_range b4, cpu_range b9⟩ (fun hHeld => ?_)
  refine wpAnyH_ready (rs := [0]) (by kernel_rfl) (by simp) (AllReadyH.cons (o := ⟨some 55, .call { callee := .value (.func 14), args := #[], argTypes := #[] }, _, _, _, none⟩) rfl (fun K' hK => ?_) AllReadyH.nil)
  go_simp
  refine (KS.out _).mono ?_
  rintro e v0 ⟨rfl, l0⟩
  replace b4 := b4.keep l0
  replace b9 := b9.keep l0
  replace lw := Later.trans_ lw l0
  refine hK.out _ _ ⟨cpu_range b4, cpu_range b9⟩ (fun hHeld => ?_)
  clear hK K'
  try simp only [Act.put, List.setIfInBounds_toArray, List.set_cons_zero, List.set_cons_succ]
  refine wpAnyH_take (i := 1) (oi := ⟨some 56, .move (.tmp 55), _, _, _, none⟩) (v := .bool true) rfl (by kernel_rfl) (by kernel_rfl) (by kernel_rfl) (fun _ _ _ h => h) (Or.inl ⟨by rfl, fun _ _ => rfl⟩) hHeld ?_
  simp only [Act.put, List.setIfInBounds_toArray, List.set_cons_zero, List.set_cons_succ]
  refine wpAnyH_take (i := 2) (oi := ⟨some 57, .move (.tmp 10), _, _, _, _⟩) (v := .int .i64 0) rfl (by kernel_rfl) (by kernel_rfl) (by kernel_rfl) (fun _ _ _ h => h) (Or.inl ⟨by rfl, fun _ _ => rfl⟩) hHeld ?_
  simp only [Act.put, List.setIfInBounds_toArray, List.set_cons_zero, List.set_cons_succ]
  refine wpAnyH_take (i := 3) (oi := ⟨some 58, .binOp .eql 39 (.tmp 57) (.const (.int .i64 0)) 39, _, _, _, _⟩) (v := .bool true) rfl (by kernel_rfl) (by kernel_rfl) (by kernel_rfl) (fun _ _ _ h => h) (Or.inl ⟨by rfl, fun w _ => by go_simp⟩) hHeld ?_
  simp only [Act.put, List.setIfInBounds_toArray, List.set_cons_zero, List.set_cons_succ]
  refine wpAnyH_take (i := 4) (oi := ⟨some 59, .pick (.tmp 56) (.tmp 58) (.const (.bool false)), _, _, _, none⟩) (v := .bool true) rfl (by kernel_rfl) (by kernel_rfl) (by kernel_rfl) (fun _ _ _ h => h) (Or.inl ⟨by rfl, fun w _ => by go_simp⟩) hHeld ?_
  simp only [Act.put, List.setIfInBounds_toArray, List.set_cons_zero, List.set_cons_succ]
  refine wpAnyH_take (i := 5) (oi := ⟨some 60, .move (.tmp 59), _, _, _, none⟩) (v := .bool true) rfl (by kernel_rfl) (by kernel_rfl) (by kernel_rfl) (fun _ _ _ h => h) (Or.inl ⟨by rfl, fun _ _ => rfl⟩) hHeld ?_
  simp only [Act.put, List.setIfInBounds_toArray, List.set_cons_zero, List.set_cons_succ]
  refine wpAnyH_take (i := 6) (oi := ⟨some 61, .load 26 (.tmp 9), _, _, _, _⟩) (v := .agg x.cells.toArray) rfl (by kernel_rfl) (by kernel_rfl) (by kernel_rfl) (fun _ _ _ h => h) (yieldsIf_load_mid (by rfl) _ _ rfl _ _ rfl x.cells _ (fun w h => h.2) Try.underlying26 rfl (cpu_sz _)) hHeld ?_
  simp only [Act.put, List.setIfInBounds_toArray, List.set_cons_zero, List.set_cons_succ]
  refine wpAnyH_take (i := 7) (oi := ⟨some 62, .load 26 (.tmp 2), _, _, _, _⟩) (v := .agg x.cells.toArray) rfl (by kernel_rfl) (by kernel_rfl) (by kernel_rfl) (fun _ _ _ h => h) (yieldsIf_load_mid (by rfl) _ _ rfl _ _ rfl x.cells _ (fun w h => h.1) Try.underlying26 rfl (cpu_sz _)) hHeld ?_
  simp only [Act.put, List.setIfInBounds_toArray, List.set_cons_zero, List.set_cons_succ]
  refine wpAnyH_take (i := 8) (oi := ⟨some 63, .binOp .eql 26 (.tmp 61) (.tmp 62) 26, _, _, _, _⟩) (v := .bool true) rfl (by kernel_rfl) (by kernel_rfl) (by kernel_rfl) (fun _ _ _ h => h) (Or.inl ⟨by rfl, fun w _ => by go_simp⟩) hHeld ?_
  simp only [Act.put, List.setIfInBounds_toArray, List.set_cons_zero, List.set_cons_succ]
  refine wpAnyH_take (i := 9) (oi := ⟨some 64, .pick (.tmp 60) (.tmp 63) (.const (.bool false)), _, _, _, none⟩) (v := .bool true) rfl (by kernel_rfl) (by kernel_rfl) (by kernel_rfl) (fun _ _ _ h => h) (Or.inl ⟨by rfl, fun w _ => by go_simp⟩) hHeld ?_
  simp only [Act.put, List.setIfInBounds_toArray, List.set_cons_zero, List.set_cons_succ]
  refine wpAnyH_take (i := 10) (oi := ⟨some 65, .move (.tmp 64), _, _, _, none⟩) (v := .bool true) rfl (by kernel_rfl) (by kernel_rfl) (by kernel_rfl) (fun _ _ _ h => h) (Or.inl ⟨by rfl, fun _ _ => rfl⟩) hHeld ?_
  simp only [Act.put, List.setIfInBounds_toArray, List.set_cons_zero, List.set_cons_succ]
  refine wpAnyH_take (i := 11) (oi := ⟨some 66, .load 26 (.tmp 2), _, _, _, _⟩) (v := .agg x.cells.toArray) rfl (by kernel_rfl) (by kernel_rfl) (by kernel_rfl) (fun _ _ _ h => h) (yieldsIf_load_mid (by rfl) _ _ rfl _ _ rfl x.cells _ (fun w h => h.1) Try.underlying26 rfl (cpu_sz _)) hHeld ?_
  simp only [Act.put, List.setIfInBounds_toArray, List.set_cons_zero, List.set_cons_succ]
  refine wpAnyH_take (i := 14) (oi := ⟨some 69, .load 26 (.tmp 2), _, _, _, _⟩) (v := .agg x.cells.toArray) rfl (by kernel_rfl) (by kernel_rfl) (by kernel_rfl) (fun _ _ _ h => h) (yieldsIf_load_mid (by rfl) _ _ rfl _ _ rfl x.cells _ (fun w h => h.1) Try.underlying26 rfl (cpu_sz _)) hHeld ?_
  simp only [Act.put, List.setIfInBounds_toArray, List.set_cons_zero, List.set_cons_succ]
  refine wpAnyH_ready (rs := [12]) (by kernel_rfl) (by simp) (AllReadyH.cons (o := ⟨some 67, .call { callee := .value (.func 29), args := #[.tmp 66], argTypes := #[26] }, _, _, _, _⟩) rfl (fun K' hK => ?_) AllReadyH.nil)
  go_simp
  refine (KE.out _).mono ?_
  rintro e v2 ⟨A2, n2, c2, rfl, _, _, rfl, s2, l2⟩
  replace b4 := b4.keep l2
  replace b9 := b9.keep l2
  replace lw := Later.trans_ lw l2
  have k13 := to_str s2 c2
  refine hK.out _ _ ⟨cpu_range b4, cpu_range b9⟩ (fun hHeld => ?_)
  clear hK K'
  try simp only [Act.put, List.setIfInBounds_toArray, List.set_cons_zero, List.set_cons_succ]
  refine wpAnyH_ready (rs := [13, 15]) (by kernel_rfl) (by simp) (AllReadyH.cons (o := ⟨some 68, .convert 48 9 (.tmp 67), _, _, _, _⟩) rfl (fun K' hK => ?_) (AllReadyH.cons (o := ⟨some 70, .call { callee := .value (.func 30), args := #[.tmp 69], argTypes := #[26] }, _, _, _, _⟩) rfl (fun K' hK => ?_) AllReadyH.nil))
  · go_simp
    refine hK.out _ _ ⟨cpu_range b4, cpu_range b9⟩ (fun hHeld => ?_)
    clear hK K'
    try simp only [Act.put, List.setIfInBounds_toArray, List.set_cons_zero, List.set_cons_succ]
    refine wpAnyH_ready (rs := [15]) (by kernel_rfl) (by simp) (AllReadyH.cons (o := ⟨some 70, .call { callee := .value (.func 30), args := #[.tmp 69], argTypes := #[26] }, _, _, _, _⟩) rfl (fun K' hK => ?_) AllReadyH.nil)
    go_simp
    refine (KR.out _).mono ?_
    rintro e v5 ⟨A5, n5, c5, rfl, _, _, rfl, s5, l5⟩
    replace b4 := b4.keep l5
    replace b9 := b9.keep l5
    replace lw := Later.trans_ lw l5
    replace s2 := s2.keep l5
    clear k13
    have k13 := to_str s2 c2
    have k16 := to_str s5 c5
    refine hK.out _ _ ⟨cpu_range b4, cpu_range b9⟩ (fun hHeld => ?_)
    clear hK K'
    try simp only [Act.put, List.setIfInBounds_toArray, List.set_cons_zero, List.set_cons_succ]
    refine wpAnyH_ready (rs := [16]) (by kernel_rfl) (by simp) (AllReadyH.cons (o := ⟨some 71, .convert 48 9 (.tmp 70), _, _, _, _⟩) rfl (fun K' hK => ?_) AllReadyH.nil)
    go_simp
    refine hK.out _ _ ⟨cpu_range b4, cpu_range b9⟩ (fun hHeld => ?_)
    clear hK K'
    try simp only [Act.put, List.setIfInBounds_toArray, List.set_cons_zero, List.set_cons_succ]
    refine wpAnyH_take (i := 17) (oi := ⟨some 72, .binOp .eql 9 (.tmp 68) (.tmp 71) 9, _, _, _, _⟩) (v := .bool true) rfl (by kernel_rfl) (by kernel_rfl) (by kernel_rfl) (fun _ _ _ h => h) (Or.inl ⟨by rfl, fun w _ => by go_simp⟩) hHeld ?_
    simp only [Act.put, List.setIfInBounds_toArray, List.set_cons_zero, List.set_cons_succ]
    refine wpAnyH_take (i := 18) (oi := ⟨some 73, .pick (.tmp 65) (.tmp 72) (.const (.bool false)), _, _, _, none⟩) (v := .bool true) rfl (by kernel_rfl) (by kernel_rfl) (by kernel_rfl) (fun _ _ _ h => h) (Or.inl ⟨by rfl, fun w _ => by go_simp⟩) hHeld ?_
    simp only [Act.put, List.setIfInBounds_toArray, List.set_cons_zero, List.set_cons_succ]
    refine wpAnyH_take (i := 19) (oi := ⟨some 4, .assign (.tmp 73), _, _, _, none⟩) (v := .bool true) rfl (by kernel_rfl) (by kernel_rfl) (by kernel_rfl) (fun _ _ _ h => h) (Or.inl ⟨by rfl, fun _ _ => rfl⟩) hHeld ?_
    simp only [Act.put, List.setIfInBounds_toArray, List.set_cons_zero, List.set_cons_succ]
    refine wpAnyH_done (by kernel_rfl) ?_ _
    clear hHeld
    go_wp2
    go_ret
    exact ⟨rfl, lw⟩
  · go_simp
    refine (KR.out _).mono ?_
    rintro e v5 ⟨A5, n5, c5, rfl, _, _, rfl, s5, l5⟩
    replace b4 := b4.keep l5
    replace b9 := b9.keep l5
    replace lw := Later.trans_ lw l5
    replace s2 := s2.keep l5
    clear k13
    have k13 := to_str s2 c2
    have k16 := to_str s5 c5
    refine hK.out _ _ ⟨cpu_range b4, cpu_range b9⟩ (fun hHeld => ?_)
    clear hK K'
    try simp only [Act.put, List.setIfInBounds_toArray, List.set_cons_zero, List.set_cons_succ]
    refine wpAnyH_ready (rs := [13, 16]) (by kernel_rfl) (by simp) (AllReadyH.cons (o := ⟨some 68, .convert 48 9 (.tmp 67), _, _, _, _⟩) rfl (fun K' hK => ?_) (AllReadyH.cons (o := ⟨some 71, .convert 48 9 (.tmp 70), _, _, _, _⟩) rfl (fun K' hK => ?_) AllReadyH.nil))
    · go_simp
      refine hK.out _ _ ⟨cpu_range b4, cpu_range b9⟩ (fun hHeld => ?_)
      clear hK K'
      try simp only [Act.put, List.setIfInBounds_toArray, List.set_cons_zero, List.set_cons_succ]
      refine wpAnyH_ready (rs := [16]) (by kernel_rfl) (by simp) (AllReadyH.cons (o := ⟨some 71, .convert 48 9 (.tmp 70), _, _, _, _⟩) rfl (fun K' hK => ?_) AllReadyH.nil)
      go_simp
      refine hK.out _ _ ⟨cpu_range b4, cpu_range b9⟩ (fun hHeld => ?_)
      clear hK K'
      try simp only [Act.put, List.setIfInBounds_toArray, List.set_cons_zero, List.set_cons_succ]
      refine wpAnyH_take (i := 17) (oi := ⟨some 72, .binOp .eql 9 (.tmp 68) (.tmp 71) 9, _, _, _, _⟩) (v := .bool true) rfl (by kernel_rfl) (by kernel_rfl) (by kernel_rfl) (fun _ _ _ h => h) (Or.inl ⟨by rfl, fun w _ => by go_simp⟩) hHeld ?_
      simp only [Act.put, List.setIfInBounds_toArray, List.set_cons_zero, List.set_cons_succ]
      refine wpAnyH_take (i := 18) (oi := ⟨some 73, .pick (.tmp 65) (.tmp 72) (.const (.bool false)), _, _, _, none⟩) (v := .bool true) rfl (by kernel_rfl) (by kernel_rfl) (by kernel_rfl) (fun _ _ _ h => h) (Or.inl ⟨by rfl, fun w _ => by go_simp⟩) hHeld ?_
      simp only [Act.put, List.setIfInBounds_toArray, List.set_cons_zero, List.set_cons_succ]
      refine wpAnyH_take (i := 19) (oi := ⟨some 4, .assign (.tmp 73), _, _, _, none⟩) (v := .bool true) rfl (by kernel_rfl) (by kernel_rfl) (by kernel_rfl) (fun _ _ _ h => h) (Or.inl ⟨by rfl, fun _ _ => rfl⟩) hHeld ?_
      simp only [Act.put, List.setIfInBounds_toArray, List.set_cons_zero, List.set_cons_succ]
      refine wpAnyH_done (by kernel_rfl) ?_ _
      clear hHeld
      go_wp2
      go_ret
      exact ⟨rfl, lw⟩
    · go_simp
      refine hK.out _ _ ⟨cpu_range b4, cpu_range b9⟩ (fun hHeld => ?_)
      clear hK K'
      try simp only [Act.put, List.setIfInBounds_toArray, List.set_cons_zero, List.set_cons_succ]
      refine wpAnyH_ready (rs := [13]) (by kernel_rfl) (by simp) (AllReadyH.cons (o := ⟨some 68, .convert 48 9 (.tmp 67), _, _, _, _⟩) rfl (fun K' hK => ?_) AllReadyH.nil)
      go_simp
      refine hK.out _ _ ⟨cpu_range b4, cpu_range b9⟩ (fun hHeld => ?_)
      clear hK K'
      try simp only [Act.put, List.setIfInBounds_toArray, List.set_cons_zero, List.set_cons_succ]
      refine wpAnyH_take (i := 17) (oi := ⟨some 72, .binOp .eql 9 (.tmp 68) (.tmp 71) 9, _, _, _, _⟩) (v := .bool true) rfl (by kernel_rfl) (by kernel_rfl) (by kernel_rfl) (fun _ _ _ h => h) (Or.inl ⟨by rfl, fun w _ => by go_simp⟩) hHeld ?_
      simp only [Act.put, List.setIfInBounds_toArray, List.set_cons_zero, List.set_cons_succ]
      refine wpAnyH_take (i := 18) (oi := ⟨some 73, .pick (.tmp 65) (.tmp 72) (.const (.bool false)), _, _, _, none⟩) (v := .bool true) rfl (by kernel_rfl) (by kernel_rfl) (by kernel_rfl) (fun _ _ _ h => h) (Or.inl ⟨by rfl, fun w _ => by go_simp⟩) hHeld ?_
      simp only [Act.put, List.setIfInBounds_toArray, List.set_cons_zero, List.set_cons_succ]
      refine wpAnyH_take (i := 19) (oi := ⟨some 4, .assign (.tmp 73), _, _, _, none⟩) (v := .bool true) rfl (by kernel_rfl) (by kernel_rfl) (by kernel_rfl) (fun _ _ _ h => h) (Or.inl ⟨by rfl, fun _ _ => rfl⟩) hHeld ?_
      simp only [Act.put, List.setIfInBounds_toArray, List.set_cons_zero, List.set_cons_succ]
      refine wpAnyH_done (by kernel_rfl) ?_ _
      clear hHeld
      go_wp2
      go_ret
      exact ⟨rfl, lw⟩
set_option maxRecDepth 100000 in
set_option maxHeartbeats 8000000 in
theorem codes_no_false (x : Cpu) (A : Option Addr) (n c : Nat) (b : Wm.Bs) (w : World) (hs : Sl w 1 A n (U b)) (hb : Wm.isBs b) (hnc : n ≤ c) (hn : c ≤ maxLen) (h400 : n ≤ 400) (hE : dE b = 11) (hv : okC x.r0 x.c5 x.c7 x.c8 x.wt x.hl x.cn = false) :
    Calls Try.prog 5 #[.agg x.cells.toArray, .slice A n c] w fun e w' => e = .returned (.bool true) ∧ Later w w' := by
  have KS := Lib.hid fun w' => sanity_any w'
  have b4 := Blk.new w 26 x.cells.toArray x.cells rfl
  have lw := later1 w (.cells x.cells.toArray 26)
  have LK := Lib.hid fun (w' : World) (hl : Later w w') => hs.keep hl
  have KD := Lib.hid fun w' hl => decode_any A n c b w' (LK.out w' hl) hb hnc hn (by omega)
  have KD2 := Lib.hid fun w' hl => rdecode_any A n c b w' (LK.out w' hl) hb hnc hn (by omega)
  rw [hE] at KD KD2
  have h4 : ¬ ((400 : Int) < n) := by omega
  have KV := Lib.hid fun w' => rvalid_is hv w'
  obtain ⟨X, hX0⟩ : ∃ X, X = dC b := ⟨_, rfl⟩
  rw [← hX0] at KD KD2
  skip
  have heq := cpu_same X
  have hbb := bs_same b
  clear hX0 hs hb hnc hn h400 hE hv
  go_enter Try.func5, Try.ntmps5
  go_wp2_with (first
    | (go_at_call 27; (with_reducible refine (KD.out _ lw).mono ?_); rintro e w1 ⟨rfl, l1⟩; replace b4 := b4.keep l1; replace lw := Later.trans_ lw l1)
    | ((with_reducible refine wpList_store_abs (o := ⟨none, .store 26 (.tmp 5) (.tmp 18), _, _, _, none⟩) rfl _ _ _ rfl w1.heap.size 26 zC.cells X.cells ?_ ?_ ?_ ?_ ?_ ?_ ?_); rfl; rfl; exact (Blk.new _ _ _ _ rfl); exact cpu_sz _; rfl; exact cpu_one _; intro v1 b5 o1; replace b4 := (b4.alloc (.cells zC.cells.toArray 26)).only o1 (Nat.ne_of_lt b4.lt); replace lw := Below.only (lw.alloc lw.size (.cells zC.cells.toArray 26)) o1 lw.size)
    | (go_at_call 28; (with_reducible refine (KD2.out _ lw).mono ?_); rintro e w2 ⟨rfl, l2⟩; replace b4 := b4.keep l2; replace b5 := b5.keep l2; replace lw := Later.trans_ lw l2)
    | ((with_reducible refine wpList_store_abs (o := ⟨none, .store 45 (.tmp 7) (.tmp 21), _, _, _, none⟩) rfl _ _ _ rfl w2.heap.size 45 (gotC 0 zC 0) (gotC 0 X 11) ?_ ?_ ?_ ?_ ?_ ?_ ?_); rfl; rfl; exact (Blk.new _ _ _ _ rfl); exact got_sz _ _ _; rfl; exact got_one _ _ _; intro v2 b7 o2; replace b4 := (b4.alloc (.cells (gotC 0 zC 0).toArray 45)).only o2 (Nat.ne_of_lt b4.lt); replace b5 := (b5.alloc (.cells (gotC 0 zC 0).toArray 45)).only o2 (Nat.ne_of_lt b5.lt); replace lw := Below.only (lw.alloc lw.size (.cells (gotC 0 zC 0).toArray 45)) o2 lw.size))
  replace b4 := b4.drew
  replace b5 := b5.drew
  replace b7 := b7.drew
  replace lw := lw.drew
  refine wp_region_held_drew (S := fun w' => w'.rangeAt w1.heap.size 0 X.cells ∧ w'.rangeAt w2.heap.size 1 X.cells ∧ w'.cell? ⟨w2.heap.size, 31, none⟩ = some (.int .i64 11) ∧ (convert 48 9 (.slice A n c)).run Try.prog w' = .ok (.string (strOfNums b)) w') (by kernel_rfl) ⟨cpu_range b5, got_range b7, b7.cell (j := 31) (v := .int .i64 11) rfl, to_str (LK.out _ lw) c⟩ (fun hHeld => ?_)
  refine wpAnyH_take (i := 0) (oi := ⟨some 22, .load 26 (.tmp 5), _, _, _, none⟩) (v := .agg X.cells.toArray) rfl (by kernel_rfl) (by kernel_rfl) (by kernel_rfl) (fun _ _ _ h => h) (yieldsIf_load_mid (by rfl) _ _ rfl _ _ rfl X.cells _ (fun w h => h.1) Try.underlying26 rfl (cpu_sz _)) hHeld ?_
  simp only [Act.put, List.setIfInBounds_toArray, List.set_cons_zero, List.set_cons_succ]
  refine wpAnyH_take (i := 1) (oi := ⟨some 23, .fieldAddr 45 (.tmp 7) 1, _, _, _, none⟩) (v := .pointer (some ⟨w2.heap.size, 1, none⟩)) rfl (by kernel_rfl) (by kernel_rfl) (by kernel_rfl) (fun _ _ _ h => h) (Or.inl ⟨by rfl, fun w _ => by go_simp⟩) hHeld ?_
  simp only [Act.put, List.setIfInBounds_toArray, List.set_cons_zero, List.set_cons_succ]
  refine wpAnyH_take (i := 2) (oi := ⟨some 24, .load 26 (.tmp 23), _, _, _, none⟩) (v := .agg X.cells.toArray) rfl (by kernel_rfl) (by kernel_rfl) (by kernel_rfl) (fun _ _ _ h => h) (yieldsIf_load_mid (by rfl) _ _ rfl _ _ rfl X.cells _ (fun w h => h.2.1) Try.underlying26 rfl (cpu_sz _)) hHeld ?_
  simp only [Act.put, List.setIfInBounds_toArray, List.set_cons_zero, List.set_cons_succ]
  refine wpAnyH_take (i := 3) (oi := ⟨some 25, .binOp .neq 26 (.tmp 22) (.tmp 24) 26, _, _, _, none⟩) (v := .bool false) rfl (by kernel_rfl) (by kernel_rfl) (by kernel_rfl) (fun _ _ _ h => h) (Or.inl ⟨by rfl, fun w _ => by go_simp⟩) hHeld ?_
  simp only [Act.put, List.setIfInBounds_toArray, List.set_cons_zero, List.set_cons_succ]
  refine wpAnyH_take (i := 4) (oi := ⟨some 26, .move (.tmp 25), _, _, _, none⟩) (v := .bool false) rfl (by kernel_rfl) (by kernel_rfl) (by kernel_rfl) (fun _ _ _ h => h) (Or.inl ⟨by rfl, fun _ _ => rfl⟩) hHeld ?_
  simp only [Act.put, List.setIfInBounds_toArray, List.set_cons_zero, List.set_cons_succ]
  refine wpAnyH_take (i := 5) (oi := ⟨some 27, .move (.tmp 6), _, _, _, _⟩) (v := .int .i64 11) rfl (by kernel_rfl) (by kernel_rfl) (by kernel_rfl) (fun _ _ _ h => h) (Or.inl ⟨by rfl, fun _ _ => rfl⟩) hHeld ?_
  simp only [Act.put, List.setIfInBounds_toArray, List.set_cons_zero, List.set_cons_succ]
  refine wpAnyH_take (i := 6) (oi := ⟨some 28, .fieldAddr 45 (.tmp 7) 2, _, _, _, _⟩) (v := .pointer (some ⟨w2.heap.size, 31, none⟩)) rfl (by kernel_rfl) (by kernel_rfl) (by kernel_rfl) (fun _ _ _ h => h) (Or.inl ⟨by rfl, fun w _ => by go_simp⟩) hHeld ?_
  simp only [Act.put, List.setIfInBounds_toArray, List.set_cons_zero, List.set_cons_succ]
  refine wpAnyH_take (i := 7) (oi := ⟨some 29, .load 39 (.tmp 28), _, _, _, _⟩) (v := .int .i64 11) rfl (by kernel_rfl) (by kernel_rfl) (by kernel_rfl) (fun _ _ _ h => h) (Or.inl ⟨by rfl, fun w hSw => by have e1 := hSw.2.2.1; clear hSw; go_simp⟩) hHeld ?_
  simp only [Act.put, List.setIfInBounds_toArray, List.set_cons_zero, List.set_cons_succ]
  refine wpAnyH_take (i := 8) (oi := ⟨some 30, .binOp .neq 39 (.tmp 27) (.tmp 29) 39, _, _, _, _⟩) (v := .bool false) rfl (by kernel_rfl) (by kernel_rfl) (by kernel_rfl) (fun _ _ _ h => h) (Or.inl ⟨by rfl, fun w _ => by go_simp⟩) hHeld ?_
  simp only [Act.put, List.setIfInBounds_toArray, List.set_cons_zero, List.set_cons_succ]
  refine wpAnyH_take (i := 9) (oi := ⟨some 31, .pick (.tmp 26) (.const (.bool true)) (.tmp 30), _, _, _, none⟩) (v := .bool false) rfl (by kernel_rfl) (by kernel_rfl) (by kernel_rfl) (fun _ _ _ h => h) (Or.inl ⟨by rfl, fun w _ => by go_simp⟩) hHeld ?_
  simp only [Act.put, List.setIfInBounds_toArray, List.set_cons_zero, List.set_cons_succ]
  refine wpAnyH_take (i := 10) (oi := ⟨some 32, .move (.tmp 31), _, _, _, none⟩) (v := .bool false) rfl (by kernel_rfl) (by kernel_rfl) (by kernel_rfl) (fun _ _ _ h => h) (Or.inl ⟨by rfl, fun _ _ => rfl⟩) hHeld ?_
  simp only [Act.put, List.setIfInBounds_toArray, List.set_cons_zero, List.set_cons_succ]
  refine wpAnyH_take (i := 11) (oi := ⟨some 33, .move (.tmp 6), _, _, _, _⟩) (v := .int .i64 11) rfl (by kernel_rfl) (by kernel_rfl) (by kernel_rfl) (fun _ _ _ h => h) (Or.inl ⟨by rfl, fun _ _ => rfl⟩) hHeld ?_
  simp only [Act.put, List.setIfInBounds_toArray, List.set_cons_zero, List.set_cons_succ]
  refine wpAnyH_take (i := 12) (oi := ⟨some 34, .binOp .eql 39 (.tmp 33) (.const (.int .i64 0)) 39, _, _, _, _⟩) (v := .bool false) rfl (by kernel_rfl) (by kernel_rfl) (by kernel_rfl) (fun _ _ _ h => h) (Or.inl ⟨by rfl, fun w _ => by go_simp⟩) hHeld ?_
  simp only [Act.put, List.setIfInBounds_toArray, List.set_cons_zero, List.set_cons_succ]
  refine wpAnyH_take (i := 13) (oi := ⟨some 35, .move (.tmp 34), _, _, _, _⟩) (v := .bool false) rfl (by kernel_rfl) (by kernel_rfl) (by kernel_rfl) (fun _ _ _ h => h) (Or.inl ⟨by rfl, fun _ _ => rfl⟩) hHeld ?_
  simp only [Act.put, List.setIfInBounds_toArray, List.set_cons_zero, List.set_cons_succ]
  refine wpAnyH_take (i := 14) (oi := ⟨some 36, .load 26 (.tmp 5), _, _, _, _⟩) (v := undef) rfl (by kernel_rfl) (by kernel_rfl) (by kernel_rfl) (fun _ _ _ h => h) (Or.inr ⟨by rfl, rfl⟩) hHeld ?_
  simp only [Act.put, List.setIfInBounds_toArray, List.set_cons_zero, List.set_cons_succ]
  refine wpAnyH_take (i := 15) (oi := ⟨some 37, .call { callee := .value (.func 29), args := #[.tmp 36], argTypes := #[26] }, _, _, _, _⟩) (v := undef) rfl (by kernel_rfl) (by kernel_rfl) (by kernel_rfl) (fun _ _ _ h => h) (Or.inr ⟨by rfl, rfl⟩) hHeld ?_
  simp only [Act.put, List.setIfInBounds_toArray, List.set_cons_zero, List.set_cons_succ]
  refine wpAnyH_take (i := 16) (oi := ⟨some 38, .convert 48 9 (.tmp 37), _, _, _, _⟩) (v := undef) rfl (by kernel_rfl) (by kernel_rfl) (by kernel_rfl) (fun _ _ _ h => h) (Or.inr ⟨by rfl, rfl⟩) hHeld ?_
  simp only [Act.put, List.setIfInBounds_toArray, List.set_cons_zero, List.set_cons_succ]
  refine wpAnyH_take (i := 17) (oi := ⟨some 39, .move (.tmp 1), _, _, _, _⟩) (v := undef) rfl (by kernel_rfl) (by kernel_rfl) (by kernel_rfl) (fun _ _ _ h => h) (Or.inr ⟨by rfl, rfl⟩) hHeld ?_
  simp only [Act.put, List.setIfInBounds_toArray, List.set_cons_zero, List.set_cons_succ]
  refine wpAnyH_take (i := 18) (oi := ⟨some 40, .convert 48 9 (.tmp 39), _, _, _, _⟩) (v := undef) rfl (by kernel_rfl) (by kernel_rfl) (by kernel_rfl) (fun _ _ _ h => h) (Or.inr ⟨by rfl, rfl⟩) hHeld ?_
  simp only [Act.put, List.setIfInBounds_toArray, List.set_cons_zero, List.set_cons_succ]
  refine wpAnyH_take (i := 19) (oi := ⟨some 41, .binOp .neq 9 (.tmp 38) (.tmp 40) 9, _, _, _, _⟩) (v := undef) rfl (by kernel_rfl) (by kernel_rfl) (by kernel_rfl) (fun _ _ _ h => h) (Or.inr ⟨by rfl, rfl⟩) hHeld ?_
  simp only [Act.put, List.setIfInBounds_toArray, List.set_cons_zero, List.set_cons_succ]
  refine wpAnyH_take (i := 20) (oi := ⟨some 42, .pick (.tmp 35) (.tmp 41) (.const (.bool false)), _, _, _, _⟩) (v := .bool false) rfl (by kernel_rfl) (by kernel_rfl) (by kernel_rfl) (fun _ _ _ h => h) (Or.inl ⟨by rfl, fun w _ => by go_simp⟩) hHeld ?_
  simp only [Act.put, List.setIfInBounds_toArray, List.set_cons_zero, List.set_cons_succ]
  refine wpAnyH_take (i := 21) (oi := ⟨some 43, .pick (.tmp 32) (.const (.bool true)) (.tmp 42), _, _, _, none⟩) (v := .bool false) rfl (by kernel_rfl) (by kernel_rfl) (by kernel_rfl) (fun _ _ _ h => h) (Or.inl ⟨by rfl, fun w _ => by go_simp⟩) hHeld ?_
  simp only [Act.put, List.setIfInBounds_toArray, List.set_cons_zero, List.set_cons_succ]
  refine wpAnyH_done (by kernel_rfl) ?_ _
  clear hHeld
  go_wp2_with (first
    | ((with_reducible refine wpList_load_blk (o := ⟨some 44, .load 26 (.tmp 2), _, _, _, none⟩) rfl _ _ rfl w.heap.size 26 x.cells _ ?_ ?_ Try.underlying26 rfl (cpu_sz _) ?_); rfl; exact b4)
    | (go_at_call 11; (with_reducible refine (KV.out _).mono ?_); rintro e w3 ⟨rfl, l3⟩; replace b4 := b4.keep l3; replace lw := Later.trans_ lw l3)
    | (go_at_call 14; (with_reducible refine (KS.out _).mono ?_); rintro e w4 ⟨rfl, l4⟩; replace b4 := b4.keep l4; replace lw := Later.trans_ lw l4))
  go_ret
  exact ⟨rfl, lw⟩
set_option maxRecDepth 100000 in
set_option maxHeartbeats 8000000 in
theorem codes_no_true (x : Cpu) (A : Option Addr) (n c : Nat) (b : Wm.Bs) (w : World) (hs : Sl w 1 A n (U b)) (hb : Wm.isBs b) (hnc : n ≤ c) (hn : c ≤ maxLen) (h400 : n ≤ 400) (hx : x.wf) (hE : dE b = 11) (hv : okC x.r0 x.c5 x.c7 x.c8 x.wt x.hl x.cn = true) :
    Calls Try.prog 5 #[.agg x.cells.toArray, .slice A n c] w fun e w' => e = .returned (.bool true) ∧ Later w w' := by
  have KS := Lib.hid fun w' => sanity_any w'
  have b4 := Blk.new w 26 x.cells.toArray x.cells rfl
  have lw := later1 w (.cells x.cells.toArray 26)
  have LK := Lib.hid fun (w' : World) (hl : Later w w') => hs.keep hl
  have KD := Lib.hid fun w' hl => decode_any A n c b w' (LK.out w' hl) hb hnc hn (by omega)
  have KD2 := Lib.hid fun w' hl => rdecode_any A n c b w' (LK.out w' hl) hb hnc hn (by omega)
  rw [hE] at KD KD2
  have h4 : ¬ ((400 : Int) < n) := by omega
  have KV := Lib.hid fun w' => rvalid_is hv w'
  have KE := Lib.hid fun w' => enc_any x w' hx
  have KR := Lib.hid fun w' => renc_any x w' hx
  have KB := Lib.hid fun (A' : Option Addr) (c' : Nat) (w' : World) (h1 : Sl w' 1 A' (Wm.encL Wm.encI x.nums).length (U (Wm.encL Wm.encI x.nums))) h2 h3 => decode_any A' _ c' _ w' h1 (encLI_bytes _) h2 h3 (by have := encL_le x.nums (nums_in hx) rfl; omega)
  rw [(dec_enc hx hv).1, (dec_enc hx hv).2] at KB
  have heqx := cpu_same x
  have hbx := bs_same (Wm.encL Wm.encI x.nums)
  obtain ⟨X, hX0⟩ : ∃ X, X = dC b := ⟨_, rfl⟩
  rw [← hX0] at KD KD2
  skip
  have heq := cpu_same X
  have hbb := bs_same b
  clear hX0 hs hb hnc hn h400 hx hE hv
  go_enter Try.func5, Try.ntmps5
  go_wp2_with (first
    | (go_at_call 27; (with_reducible refine (KD.out _ lw).mono ?_); rintro e w1 ⟨rfl, l1⟩; replace b4 := b4.keep l1; replace lw := Later.trans_ lw l1)
    | ((with_reducible refine wpList_store_abs (o := ⟨none, .store 26 (.tmp 5) (.tmp 18), _, _, _, none⟩) rfl _ _ _ rfl w1.heap.size 26 zC.cells X.cells ?_ ?_ ?_ ?_ ?_ ?_ ?_); rfl; rfl; exact (Blk.new _ _ _ _ rfl); exact cpu_sz _; rfl; exact cpu_one _; intro v1 b5 o1; replace b4 := (b4.alloc (.cells zC.cells.toArray 26)).only o1 (Nat.ne_of_lt b4.lt); replace lw := Below.only (lw.alloc lw.size (.cells zC.cells.toArray 26)) o1 lw.size)
    | (go_at_call 28; (with_reducible refine (KD2.out _ lw).mono ?_); rintro e w2 ⟨rfl, l2⟩; replace b4 := b4.keep l2; replace b5 := b5.keep l2; replace lw := Later.trans_ lw l2)
    | ((with_reducible refine wpList_store_abs (o := ⟨none, .store 45 (.tmp 7) (.tmp 21), _, _, _, none⟩) rfl _ _ _ rfl w2.heap.size 45 (gotC 0 zC 0) (gotC 0 X 11) ?_ ?_ ?_ ?_ ?_ ?_ ?_); rfl; rfl; exact (Blk.new _ _ _ _ rfl); exact got_sz _ _ _; rfl; exact got_one _ _ _; intro v2 b7 o2; replace b4 := (b4.alloc (.cells (gotC 0 zC 0).toArray 45)).only o2 (Nat.ne_of_lt b4.lt); replace b5 := (b5.alloc (.cells (gotC 0 zC 0).toArray 45)).only o2 (Nat.ne_of_lt b5.lt); replace lw := Below.only (lw.alloc lw.size (.cells (gotC 0 zC 0).toArray 45)) o2 lw.size))
  replace b4 := b4.drew
  replace b5 := b5.drew
  replace b7 := b7.drew
  replace lw := lw.drew
  refine wp_region_held_drew (S := fun w' => w'.rangeAt w1.heap.size 0 X.cells ∧ w'.rangeAt w2.heap.size 1 X.cells ∧ w'.cell? ⟨w2.heap.size, 31, none⟩ = some (.int .i64 11) ∧ (convert 48 9 (.slice A n c)).run Try.prog w' = .ok (.string (strOfNums b)) w') (by kernel_rfl) ⟨cpu_range b5, got_range b7, b7.cell (j := 31) (v := .int .i64 11) rfl, to_str (LK.out _ lw) c⟩ (fun hHeld => ?_)
  refine wpAnyH_take (i := 0) (oi := ⟨some 22, .load 26 (.tmp 5), _, _, _, none⟩) (v := .agg X.cells.toArray) rfl (by kernel_rfl) (by kernel_rfl) (by kernel_rfl) (fun _ _ _ h => h) (yieldsIf_load_mid (by rfl) _ _ rfl _ _ rfl X.cells _ (fun w h => h.1) Try.underlying26 rfl (cpu_sz _)) hHeld ?_
  simp only [Act.put, List.setIfInBounds_toArray, List.set_cons_zero, List.set_cons_succ]
  refine wpAnyH_take (i := 1) (oi := ⟨some 23, .fieldAddr 45 (.tmp 7) 1, _, _, _, none⟩) (v := .pointer (some ⟨w2.heap.size, 1, none⟩)) rfl (by kernel_rfl) (by kernel_rfl) (by kernel_rfl) (fun _ _ _ h => h) (Or.inl ⟨by rfl, fun w _ => by go_simp⟩) hHeld ?_
  simp only [Act.put, List.setIfInBounds_toArray, List.set_cons_zero, List.set_cons_succ]
  refine wpAnyH_take (i := 2) (oi := ⟨some 24, .load 26 (.tmp 23), _, _, _, none⟩) (v := .agg X.cells.toArray) rfl (by kernel_rfl) (by kernel_rfl) (by kernel_rfl) (fun _ _ _ h => h) (yieldsIf_load_mid (by rfl) _ _ rfl _ _ rfl X.cells _ (fun w h => h.2.1) Try.underlying26 rfl (cpu_sz _)) hHeld ?_
  simp only [Act.put, List.setIfInBounds_toArray, List.set_cons_zero, List.set_cons_succ]
  refine wpAnyH_take (i := 3) (oi := ⟨some 25, .binOp .neq 26 (.tmp 22) (.tmp 24) 26, _, _, _, none⟩) (v := .bool false) rfl (by kernel_rfl) (by kernel_rfl) (by kernel_rfl) (fun _ _ _ h => h) (Or.inl ⟨by rfl, fun w _ => by go_simp⟩) hHeld ?_
  simp only [Act.put, List.setIfInBounds_toArray, List.set_cons_zero, List.set_cons_succ]
  refine wpAnyH_take (i := 4) (oi := ⟨some 26, .move (.tmp 25), _, _, _, none⟩) (v := .bool false) rfl (by kernel_rfl) (by kernel_rfl) (by kernel_rfl) (fun _ _ _ h => h) (Or.inl ⟨by rfl, fun _ _ => rfl⟩) hHeld ?_
  simp only [Act.put, List.setIfInBounds_toArray, List.set_cons_zero, List.set_cons_succ]
  refine wpAnyH_take (i := 5) (oi := ⟨some 27, .move (.tmp 6), _, _, _, _⟩) (v := .int .i64 11) rfl (by kernel_rfl) (by kernel_rfl) (by kernel_rfl) (fun _ _ _ h => h) (Or.inl ⟨by rfl, fun _ _ => rfl⟩) hHeld ?_
  simp only [Act.put, List.setIfInBounds_toArray, List.set_cons_zero, List.set_cons_succ]
  refine wpAnyH_take (i := 6) (oi := ⟨some 28, .fieldAddr 45 (.tmp 7) 2, _, _, _, _⟩) (v := .pointer (some ⟨w2.heap.size, 31, none⟩)) rfl (by kernel_rfl) (by kernel_rfl) (by kernel_rfl) (fun _ _ _ h => h) (Or.inl ⟨by rfl, fun w _ => by go_simp⟩) hHeld ?_
  simp only [Act.put, List.setIfInBounds_toArray, List.set_cons_zero, List.set_cons_succ]
  refine wpAnyH_take (i := 7) (oi := ⟨some 29, .load 39 (.tmp 28), _, _, _, _⟩) (v := .int .i64 11) rfl (by kernel_rfl) (by kernel_rfl) (by kernel_rfl) (fun _ _ _ h => h) (Or.inl ⟨by rfl, fun w hSw => by have e1 := hSw.2.2.1; clear hSw; go_simp⟩) hHeld ?_
  simp only [Act.put, List.setIfInBounds_toArray, List.set_cons_zero, List.set_cons_succ]
  refine wpAnyH_take (i := 8) (oi := ⟨some 30, .binOp .neq 39 (.tmp 27) (.tmp 29) 39, _, _, _, _⟩) (v := .bool false) rfl (by kernel_rfl) (by kernel_rfl) (by kernel_rfl) (fun _ _ _ h => h) (Or.inl ⟨by rfl, fun w _ => by go_simp⟩) hHeld ?_
  simp only [Act.put, List.setIfInBounds_toArray, List.set_cons_zero, List.set_cons_succ]
  refine wpAnyH_take (i := 9) (oi := ⟨some 31, .pick (.tmp 26) (.const (.bool true)) (.tmp 30), _, _, _, none⟩) (v := .bool false) rfl (by kernel_rfl) (by kernel_rfl) (by kernel_rfl) (fun _ _ _ h => h) (Or.inl ⟨by rfl, fun w _ => by go_simp⟩) hHeld ?_
  simp only [Act.put, List.setIfInBounds_toArray, List.set_cons_zero, List.set_cons_succ]
  refine wpAnyH_take (i := 10) (oi := ⟨some 32, .move (.tmp 31), _, _, _, none⟩) (v := .bool false) rfl (by kernel_rfl) (by kernel_rfl) (by kernel_rfl) (fun _ _ _ h => h) (Or.inl ⟨by rfl, fun _ _ => rfl⟩) hHeld ?_
  simp only [Act.put, List.setIfInBounds_toArray, List.set_cons_zero, List.set_cons_succ]
  refine wpAnyH_take (i := 11) (oi := ⟨some 33, .move (.tmp 6), _, _, _, _⟩) (v := .int .i64 11) rfl (by kernel_rfl) (by kernel_rfl) (by kernel_rfl) (fun _ _ _ h => h) (Or.inl ⟨by rfl, fun _ _ => rfl⟩) hHeld ?_
  simp only [Act.put, List.setIfInBounds_toArray, List.set_cons_zero, List.set_cons_succ]
  refine wpAnyH_take (i := 12) (oi := ⟨some 34, .binOp .eql 39 (.tmp 33) (.const (.int .i64 0)) 39, _, _, _, _⟩) (v := .bool false) rfl (by kernel_rfl) (by kernel_rfl) (by kernel_rfl) (fun _ _ _ h => h) (Or.inl ⟨by rfl, fun w _ => by go_simp⟩) hHeld ?_
  simp only [Act.put, List.setIfInBounds_toArray, List.set_cons_zero, List.set_cons_succ]
  refine wpAnyH_take (i := 13) (oi := ⟨some 35, .move (.tmp 34), _, _, _, _⟩) (v := .bool false) rfl (by kernel_rfl) (by kernel_rfl) (by kernel_rfl) (fun _ _ _ h => h) (Or.inl ⟨by rfl, fun _ _ => rfl⟩) hHeld ?_
  simp only [Act.put, List.setIfInBounds_toArray, List.set_cons_zero, List.set_cons_succ]
  refine wpAnyH_take (i := 14) (oi := ⟨some 36, .load 26 (.tmp 5), _, _, _, _⟩) (v := undef) rfl (by kernel_rfl) (by kernel_rfl) (by kernel_rfl) (fun _ _ _ h => h) (Or.inr ⟨by rfl, rfl⟩) hHeld ?_
  simp only [Act.put, List.setIfInBounds_toArray, List.set_cons_zero, List.set_cons_succ]
  refine wpAnyH_take (i := 15) (oi := ⟨some 37, .call { callee := .value (.func 29), args := #[.tmp 36], argTypes := #[26] }, _, _, _, _⟩) (v := undef) rfl (by kernel_rfl) (by kernel_rfl) (by kernel_rfl) (fun _ _ _ h => h) (Or.inr ⟨by rfl, rfl⟩) hHeld ?_
  simp only [Act.put, List.setIfInBounds_toArray, List.set_cons_zero, List.set_cons_succ]
  refine wpAnyH_take (i := 16) (oi := ⟨some 38, .convert 48 9 (.tmp 37), _, _, _, _⟩) (v := undef) rfl (by kernel_rfl) (by kernel_rfl) (by kernel_rfl) (fun _ _ _ h => h) (Or.inr ⟨by rfl, rfl⟩) hHeld ?_
  simp only [Act.put, List.setIfInBounds_toArray, List.set_cons_zero, List.set_cons_succ]
  refine wpAnyH_take (i := 17) (oi := ⟨some 39, .move (.tmp 1), _, _, _, _⟩) (v := undef) rfl (by kernel_rfl) (by kernel_rfl) (by kernel_rfl) (fun _ _ _ h => h) (Or.inr ⟨by rfl, rfl⟩) hHeld ?_
  simp only [Act.put, List.setIfInBounds_toArray, List.set_cons_zero, List.set_cons_succ]
  refine wpAnyH_take (i := 18) (oi := ⟨some 40, .convert 48 9 (.tmp 39), _, _, _, _⟩) (v := undef) rfl (by kernel_rfl) (by kernel_rfl) (by kernel_rfl) (fun _ _ _ h => h) (Or.inr ⟨by rfl, rfl⟩) hHeld ?_
  simp only [Act.put, List.setIfInBounds_toArray, List.set_cons_zero, List.set_cons_succ]
  refine wpAnyH_take (i := 19) (oi := ⟨some 41, .binOp .neq 9 (.tmp 38) (.tmp 40) 9, _, _, _, _⟩) (v := undef) rfl (by kernel_rfl) (by kernel_rfl) (by kernel_rfl) (fun _ _ _ h => h) (Or.inr ⟨by rfl, rfl⟩) hHeld ?_
  simp only [Act.put, List.setIfInBounds_toArray, List.set_cons_zero, List.set_cons_succ]
  refine wpAnyH_take (i := 20) (oi := ⟨some 42, .pick (.tmp 35) (.tmp 41) (.const (.bool false)), _, _, _, _⟩) (v := .bool false) rfl (by kernel_rfl) (by kernel_rfl) (by kernel_rfl) (fun _ _ _ h => h) (Or.inl ⟨by rfl, fun w _ => by go_simp⟩) hHeld ?_
  simp only [Act.put, List.setIfInBounds_toArray, List.set_cons_zero, List.set_cons_succ]
  refine wpAnyH_take (i := 21) (oi := ⟨some 43, .pick (.tmp 32) (.const (.bool true)) (.tmp 42), _, _, _, none⟩) (v := .bool false) rfl (by kernel_rfl) (by kernel_rfl) (by kernel_rfl) (fun _ _ _ h => h) (Or.inl ⟨by rfl, fun w _ => by go_simp⟩) hHeld ?_
  simp only [Act.put, List.setIfInBounds_toArray, List.set_cons_zero, List.set_cons_succ]
  refine wpAnyH_done (by kernel_rfl) ?_ _
  clear hHeld
  clear b5 b7
  go_wp2_with (first
    | ((with_reducible refine wpList_load_blk (o := ⟨some 44, .load 26 (.tmp 2), _, _, _, none⟩) rfl _ _ rfl w.heap.size 26 x.cells _ ?_ ?_ Try.underlying26 rfl (cpu_sz _) ?_); rfl; exact b4)
    | (go_at_call 11; (with_reducible refine (KV.out _).mono ?_); rintro e w3 ⟨rfl, l3⟩; replace b4 := b4.keep l3; replace lw := Later.trans_ lw l3)
    | ((with_reducible refine wpList_load_blk (o := ⟨some 50, .load 26 (.tmp 2), _, _, _, none⟩) rfl _ _ rfl w.heap.size 26 x.cells _ ?_ ?_ Try.underlying26 rfl (cpu_sz _) ?_); rfl; exact b4)
    | (go_at_call 29; (with_reducible refine (KE.out _).mono ?_); rintro e w8 ⟨A8, n8, c8, rfl, g1, g2, rfl, s8, l8⟩; replace b4 := b4.keep l8; replace lw := Later.trans_ lw l8)
    | (go_at_call 27; (with_reducible refine (KB.out _ _ _ s8 g1 g2).mono ?_); rintro e v9 ⟨rfl, l9⟩; replace b4 := b4.keep l9; replace lw := Later.trans_ lw l9)
    | ((with_reducible refine wpList_store_abs (o := ⟨none, .store 26 (.tmp 9) (.tmp 53), _, _, _, none⟩) rfl _ _ _ rfl v9.heap.size 26 zC.cells x.cells ?_ ?_ ?_ ?_ ?_ ?_ ?_); rfl; rfl; exact (Blk.new _ _ _ _ rfl); exact cpu_sz _; rfl; exact cpu_one _; intro u9 b9 o9; replace b4 := (b4.alloc (.cells zC.cells.toArray 26)).only o9 (Nat.ne_of_lt b4.lt); replace lw := Below.only (lw.alloc lw.size (.cells zC.cells.toArray 26)) o9 lw.size))
  replace b4 := b4.drew
  replace b9 := b9.drew
  replace lw := lw.drew
  clear s8 g1 g2
  refine wp_region_held_drew (S := fun w' => w'.rangeAt w.heap.size 0 x.cells ∧ w'.rangeAt v9.heap.size 0 x.cells) (by kernel_rfl) ⟨cpu_range b4, cpu_range b9⟩ (fun hHeld => ?_)
  refine wpAnyH_ready (rs := [0]) (by kernel_rfl) (by simp) (AllReadyH.cons (o := ⟨some 55, .call { callee := .value (.func 14), args := #[], argTypes := #[] }, _, _, _, none⟩) rfl (fun K' hK => ?_) AllReadyH.nil)
  go_simp
  refine (KS.out _).mono ?_
  rintro e v0 ⟨rfl, l0⟩
  replace b4 := b4.keep l0
  replace b9 := b9.keep l0
  replace lw := Later.trans_ lw l0
  refine hK.out _ _ ⟨cpu_range b4, cpu_range b9⟩ (fun hHeld => ?_)
  clear hK K'
  try simp only [Act.put, List.setIfInBounds_toArray, List.set_cons_zero, List.set_cons_succ]
  refine wpAnyH_take (i := 1) (oi := ⟨some 56, .move (.tmp 55), _, _, _, none⟩) (v := .bool true) rfl (by kernel_rfl) (by kernel_rfl) (by kernel_rfl) (fun _ _ _ h => h) (Or.inl ⟨by rfl, fun _ _ => rfl⟩) hHeld ?_
  simp only [Act.put, List.setIfInBounds_toArray, List.set_cons_zero, List.set_cons_succ]
  refine wpAnyH_take (i := 2) (oi := ⟨some 57, .move (.tmp 10), _, _, _, _⟩) (v := .int .i64 0) rfl (by kernel_rfl) (by kernel_rfl) (by kernel_rfl) (fun _ _ _ h => h) (Or.inl ⟨by rfl, fun _ _ => rfl⟩) hHeld ?_
  simp only [Act.put, List.setIfInBounds_toArray, List.set_cons_zero, List.set_cons_succ]
  refine wpAnyH_take (i := 3) (oi := ⟨some 58, .binOp .eql 39 (.tmp 57) (.const (.int .i64 0)) 39, _, _, _, _⟩) (v := .bool true) rfl (by kernel_rfl) (by kernel_rfl) (by kernel_rfl) (fun _ _ _ h => h) (Or.inl ⟨by rfl, fun w _ => by go_simp⟩) hHeld ?_
  simp only [Act.put, List.setIfInBounds_toArray, List.set_cons_zero, List.set_cons_succ]
  refine wpAnyH_take (i := 4) (oi := ⟨some 59, .pick (.tmp 56) (.tmp 58) (.const (.bool false)), _, _, _, none⟩) (v := .bool true) rfl (by kernel_rfl) (by kernel_rfl) (by kernel_rfl) (fun _ _ _ h => h) (Or.inl ⟨by rfl, fun w _ => by go_simp⟩) hHeld ?_
  simp only [Act.put, List.setIfInBounds_toArray, List.set_cons_zero, List.set_cons_succ]
  refine wpAnyH_take (i := 5) (oi := ⟨some 60, .move (.tmp 59), _, _, _, none⟩) (v := .bool true) rfl (by kernel_rfl) (by kernel_rfl) (by kernel_rfl) (fun _ _ _ h => h) (Or.inl ⟨by rfl, fun _ _ => rfl⟩) hHeld ?_
  simp only [Act.put, List.setIfInBounds_toArray, List.set_cons_zero, List.set_cons_succ]
  refine wpAnyH_take (i := 6) (oi := ⟨some 61, .load 26 (.tmp 9), _, _, _, _⟩) (v := .agg x.cells.toArray) rfl (by kernel_rfl) (by kernel_rfl) (by kernel_rfl) (fun _ _ _ h => h) (yieldsIf_load_mid (by rfl) _ _ rfl _ _ rfl x.cells _ (fun w h => h.2) Try.underlying26 rfl (cpu_sz _)) hHeld ?_
  simp only [Act.put, List.setIfInBounds_toArray, List.set_cons_zero, List.set_cons_succ]
  refine wpAnyH_take (i := 7) (oi := ⟨some 62, .load 26 (.tmp 2), _, _, _, _⟩) (v := .agg x.cells.toArray) rfl (by kernel_rfl) (by kernel_rfl) (by kernel_rfl) (fun _ _ _ h => h) (yieldsIf_load_mid (by rfl) _ _ rfl _ _ rfl x.cells _ (fun w h => h.1) Try.underlying26 rfl (cpu_sz _)) hHeld ?_
  simp only [Act.put, List.setIfInBounds_toArray, List.set_cons_zero, List.set_cons_succ]
  refine wpAnyH_take (i := 8) (oi := ⟨some 63, .binOp .eql 26 (.tmp 61) (.tmp 62) 26, _, _, _, _⟩) (v := .bool true) rfl (by kernel_rfl) (by kernel_rfl) (by kernel_rfl) (fun _ _ _ h => h) (Or.inl ⟨by rfl, fun w _ => by go_simp⟩) hHeld ?_
  simp only [Act.put, List.setIfInBounds_toArray, List.set_cons_zero, List.set_cons_succ]
  refine wpAnyH_take (i := 9) (oi := ⟨some 64, .pick (.tmp 60) (.tmp 63) (.const (.bool false)), _, _, _, none⟩) (v := .bool true) rfl (by kernel_rfl) (by kernel_rfl) (by kernel_rfl) (fun _ _ _ h => h) (Or.inl ⟨by rfl, fun w _ => by go_simp⟩) hHeld ?_
  simp only [Act.put, List.setIfInBounds_toArray, List.set_cons_zero, List.set_cons_succ]
  refine wpAnyH_take (i := 10) (oi := ⟨some 65, .move (.tmp 64), _, _, _, none⟩) (v := .bool true) rfl (by kernel_rfl) (by kernel_rfl) (by kernel_rfl) (fun _ _ _ h => h) (Or.inl ⟨by rfl, fun _ _ => rfl⟩) hHeld ?_
  simp only [Act.put, List.setIfInBounds_toArray, List.set_cons_zero, List.set_cons_succ]
  refine wpAnyH_take (i := 11) (oi := ⟨some 66, .load 26 (.tmp 2), _, _, _, _⟩) (v := .agg x.cells.toArray) rfl (by kernel_rfl) (by kernel_rfl) (by kernel_rfl) (fun _ _ _ h => h) (yieldsIf_load_mid (by rfl) _ _ rfl _ _ rfl x.cells _ (fun w h => h.1) Try.underlying26 rfl (cpu_sz _)) hHeld ?_
  simp only [Act.put, List.setIfInBounds_toArray, List.set_cons_zero, List.set_cons_succ]
  refine wpAnyH_take (i := 14) (oi := ⟨some 69, .load 26 (.tmp 2), _, _, _, _⟩) (v := .agg x.cells.toArray) rfl (by kernel_rfl) (by kernel_rfl) (by kernel_rfl) (fun _ _ _ h => h) (yieldsIf_load_mid (by rfl) _ _ rfl _ _ rfl x.cells _ (fun w h => h.1) Try.underlying26 rfl (cpu_sz _)) hHeld ?_
  simp only [Act.put, List.setIfInBounds_toArray, List.set_cons_zero, List.set_cons_succ]
  refine wpAnyH_ready (rs := [12]) (by kernel_rfl) (by simp) (AllReadyH.cons (o := ⟨some 67, .call { callee := .value (.func 29), args := #[.tmp 66], argTypes := #[26] }, _, _, _, _⟩) rfl (fun K' hK => ?_) AllReadyH.nil)
  go_simp
  refine (KE.out _).mono ?_
  rintro e v2 ⟨A2, n2, c2, rfl, _, _, rfl, s2, l2⟩
  replace b4 := b4.keep l2
  replace b9 := b9.keep l2
  replace lw := Later.trans_ lw l2
  have k13 := to_str s2 c2
  refine hK.out _ _ ⟨cpu_range b4, cpu_range b9⟩ (fun hHeld => ?_)
  clear hK K'
  try simp only [Act.put, List.setIfInBounds_toArray, List.set_cons_zero, List.set_cons_succ]
  refine wpAnyH_ready (rs := [13, 15]) (by kernel_rfl) (by simp) (AllReadyH.cons (o := ⟨some 68, .convert 48 9 (.tmp 67), _, _, _, _⟩) rfl (fun K' hK => ?_) (AllReadyH.cons (o := ⟨some 70, .call { callee := .value (.func 30), args := #[.tmp 69], argTypes := #[26] }, _, _, _, _⟩) rfl (fun K' hK => ?_) AllReadyH.nil))
  · go_simp
    refine hK.out _ _ ⟨cpu_range b4, cpu_range b9⟩ (fun hHeld => ?_)
    clear hK K'
    try simp only [Act.put, List.setIfInBounds_toArray, List.set_cons_zero, List.set_cons_succ]
    refine wpAnyH_ready (rs := [15]) (by kernel_rfl) (by simp) (AllReadyH.cons (o := ⟨some 70, .call { callee := .value (.func 30), args := #[.tmp 69], argTypes := #[26] }, _, _, _, _⟩) rfl (fun K' hK => ?_) AllReadyH.nil)
    go_simp
    refine (KR.out _).mono ?_
    rintro e v5 ⟨A5, n5, c5, rfl, _, _, rfl, s5, l5⟩
    replace b4 := b4.keep l5
    replace b9 := b9.keep l5
    replace lw := Later.trans_ lw l5
    replace s2 := s2.keep l5
    clear k13
    have k13 := to_str s2 c2
    have k16 := to_str s5 c5
    refine hK.out _ _ ⟨cpu_range b4, cpu_range b9⟩ (fun hHeld => ?_)
    clear hK K'
    try simp only [Act.put, List.setIfInBounds_toArray, List.set_cons_zero, List.set_cons_succ]
    refine wpAnyH_ready (rs := [16]) (by kernel_rfl) (by simp) (AllReadyH.cons (o := ⟨some 71, .convert 48 9 (.tmp 70), _, _, _, _⟩) rfl (fun K' hK => ?_) AllReadyH.nil)
    go_simp
    refine hK.out _ _ ⟨cpu_range b4, cpu_range b9⟩ (fun hHeld => ?_)
    clear hK K'
    try simp only [Act.put, List.setIfInBounds_toArray, List.set_cons_zero, List.set_cons_succ]
    refine wpAnyH_take (i := 17) (oi := ⟨some 72, .binOp .eql 9 (.tmp 68) (.tmp 71) 9, _, _, _, _⟩) (v := .bool true) rfl (by kernel_rfl) (by kernel_rfl) (by kernel_rfl) (fun _ _ _ h => h) (Or.inl ⟨by rfl, fun w _ => by go_simp⟩) hHeld ?_
    simp only [Act.put, List.setIfInBounds_toArray, List.set_cons_zero, List.set_cons_succ]
    refine wpAnyH_take (i := 18) (oi := ⟨some 73, .pick (.tmp 65) (.tmp 72) (.const (.bool false)), _, _, _, none⟩) (v := .bool true) rfl (by kernel_rfl) (by kernel_rfl) (by kernel_rfl) (fun _ _ _ h => h) (Or.inl ⟨by rfl, fun w _ => by go_simp⟩) hHeld ?_
    simp only [Act.put, List.setIfInBounds_toArray, List.set_cons_zero, List.set_cons_succ]
    refine wpAnyH_take (i := 19) (oi := ⟨some 4, .assign (.tmp 73), _, _, _, none⟩) (v := .bool true) rfl (by kernel_rfl) (by kernel_rfl) (by kernel_rfl) (fun _ _ _ h => h) (Or.inl ⟨by rfl, fun _ _ => rfl⟩) hHeld ?_
    simp only [Act.put, List.setIfInBounds_toArray, List.set_cons_zero, List.set_cons_succ]
    refine wpAnyH_done (by kernel_rfl) ?_ _
    clear hHeld
    go_wp2
    go_ret
    exact ⟨rfl, lw⟩
  · go_simp
    refine (KR.out _).mono ?_
    rintro e v5 ⟨A5, n5, c5, rfl, _, _, rfl, s5, l5⟩
    replace b4 := b4.keep l5
    replace b9 := b9.keep l5
    replace lw := Later.trans_ lw l5
    replace s2 := s2.keep l5
    clear k13
    have k13 := to_str s2 c2
    have k16 := to_str s5 c5
    refine hK.out _ _ ⟨cpu_range b4, cpu_range b9⟩ (fun hHeld => ?_)
    clear hK K'
    try simp only [Act.put, List.setIfInBounds_toArray, List.set_cons_zero, List.set_cons_succ]
    refine wpAnyH_ready (rs := [13, 16]) (by kernel_rfl) (by simp) (AllReadyH.cons (o := ⟨some 68, .convert 48 9 (.tmp 67), _, _, _, _⟩) rfl (fun K' hK => ?_) (AllReadyH.cons (o := ⟨some 71, .convert 48 9 (.tmp 70), _, _, _, _⟩) rfl (fun K' hK => ?_) AllReadyH.nil))
    · go_simp
      refine hK.out _ _ ⟨cpu_range b4, cpu_range b9⟩ (fun hHeld => ?_)
      clear hK K'
      try simp only [Act.put, List.setIfInBounds_toArray, List.set_cons_zero, List.set_cons_succ]
      refine wpAnyH_ready (rs := [16]) (by kernel_rfl) (by simp) (AllReadyH.cons (o := ⟨some 71, .convert 48 9 (.tmp 70), _, _, _, _⟩) rfl (fun K' hK => ?_) AllReadyH.nil)
      go_simp
      refine hK.out _ _ ⟨cpu_range b4, cpu_range b9⟩ (fun hHeld => ?_)
      clear hK K'
      try simp only [Act.put, List.setIfInBounds_toArray, List.set_cons_zero, List.set_cons_succ]
      refine wpAnyH_take (i := 17) (oi := ⟨some 72, .binOp .eql 9 (.tmp 68) (.tmp 71) 9, _, _, _, _⟩) (v := .bool true) rfl (by kernel_rfl) (by kernel_rfl) (by kernel_rfl) (fun _ _ _ h => h) (Or.inl ⟨by rfl, fun w _ => by go_simp⟩) hHeld ?_
      simp only [Act.put, List.setIfInBounds_toArray, List.set_cons_zero, List.set_cons_succ]
      refine wpAnyH_take (i := 18) (oi := ⟨some 73, .pick (.tmp 65) (.tmp 72) (.const (.bool false)), _, _, _, none⟩) (v := .bool true) rfl (by kernel_rfl) (by kernel_rfl) (by kernel_rfl) (fun _ _ _ h => h) (Or.inl ⟨by rfl, fun w _ => by go_simp⟩) hHeld ?_
      simp only [Act.put, List.setIfInBounds_toArray, List.set_cons_zero, List.set_cons_succ]
      refine wpAnyH_take (i := 19) (oi := ⟨some 4, .assign (.tmp 73), _, _, _, none⟩) (v := .bool true) rfl (by kernel_rfl) (by kernel_rfl) (by kernel_rfl) (fun _ _ _ h => h) (Or.inl ⟨by rfl, fun _ _ => rfl⟩) hHeld ?_
      simp only [Act.put, List.setIfInBounds_toArray, List.set_cons_zero, List.set_cons_succ]
      refine wpAnyH_done (by kernel_rfl) ?_ _
      clear hHeld
      go_wp2
      go_ret
      exact ⟨rfl, lw⟩
    · go_simp
      refine hK.out _ _ ⟨cpu_range b4, cpu_range b9⟩ (fun hHeld => ?_)
      clear hK K'
      try simp only [Act.put, List.setIfInBounds_toArray, List.set_cons_zero, List.set_cons_succ]
      refine wpAnyH_ready (rs := [13]) (by kernel_rfl) (by simp) (AllReadyH.cons (o := ⟨some 68, .convert 48 9 (.tmp 67), _, _, _, _⟩) rfl (fun K' hK => ?_) AllReadyH.nil)
      go_simp
      refine hK.out _ _ ⟨cpu_range b4, cpu_range b9⟩ (fun hHeld => ?_)
      clear hK K'
      try simp only [Act.put, List.setIfInBounds_toArray, List.set_cons_zero, List.set_cons_succ]
      refine wpAnyH_take (i := 17) (oi := ⟨some 72, .binOp .eql 9 (.tmp 68) (.tmp 71) 9, _, _, _, _⟩) (v := .bool true) rfl (by kernel_rfl) (by kernel_rfl) (by kernel_rfl) (fun _ _ _ h => h) (Or.inl ⟨by rfl, fun w _ => by go_simp⟩) hHeld ?_
      simp only [Act.put, List.setIfInBounds_toArray, List.set_cons_zero, List.set_cons_succ]
      refine wpAnyH_take (i := 18) (oi := ⟨some 73, .pick (.tmp 65) (.tmp 72) (.const (.bool false)), _, _, _, none⟩) (v := .bool true) rfl (by kernel_rfl) (by kernel_rfl) (by kernel_rfl) (fun _ _ _ h => h) (Or.inl ⟨by rfl, fun w _ => by go_simp⟩) hHeld ?_
      simp only [Act.put, List.setIfInBounds_toArray, List.set_cons_zero, List.set_cons_succ]
      refine wpAnyH_take (i := 19) (oi := ⟨some 4, .assign (.tmp 73), _, _, _, none⟩) (v := .bool true) rfl (by kernel_rfl) (by kernel_rfl) (by kernel_rfl) (fun _ _ _ h => h) (Or.inl ⟨by rfl, fun _ _ => rfl⟩) hHeld ?_
      simp only [Act.put, List.setIfInBounds_toArray, List.set_cons_zero, List.set_cons_succ]
      refine wpAnyH_done (by kernel_rfl) ?_ _
      clear hHeld
      go_wp2
      go_ret
      exact ⟨rfl, lw⟩
theorem codes_all (x : Cpu) (A : Option Addr) (n c : Nat) (b : Wm.Bs) (w : World) (hs : Sl w 1 A n (U b)) (hb : Wm.isBs b) (hnc : n ≤ c) (hn : c ≤ maxLen) (hx : x.wf) :
    Calls Try.prog 5 #[.agg x.cells.toArray, .slice A n c] w fun e w' => e = .returned (.bool true) ∧ Later w w' := by
  by_cases h : 400 < n
  · exact codes_big x A n c w h
  · rcases dec_ok hb with ⟨h1, h2, h3⟩ | h1
    · cases hv : okC x.r0 x.c5 x.c7 x.c8 x.wt x.hl x.cn with
      | false => exact codes_ok_false x A n c b w hs hb hnc hn (by omega) h1 h2 h3 hv
      | true => exact codes_ok_true x A n c b w hs hb hnc hn (by omega) hx h1 h2 h3 hv
    · cases hv : okC x.r0 x.c5 x.c7 x.c8 x.wt x.hl x.cn with
      | false => exact codes_no_false x A n c b w hs hb hnc hn (by omega) h1 hv
      | true => exact codes_no_true x A n c b w hs hb hnc hn (by omega) hx h1 hv

set_option maxRecDepth 100000 in
theorem trapCodes_lifted (os : Os) (started : os.Started) (H : Type) (enc : TypeId × Value → H) :
    ReturnsInHanded {} Try.checked os 5 .any (Rows.trapCodesSpec.pre6 enc Try.prog Try.f5 Rows.trapCodesRow.domain false) (Rows.trapCodesSpec.post enc Try.prog Try.f5 false true false false) := by
  refine returnsInHanded_of_change (C := Try.checked) ownK started (by kernel_rfl) Try.func5
    (ChangeSpec.witness6 (enc := enc) (C := Try.checked) false ⟨#[], #[.agg #[.int .u32 0, .int .u32 0, .int .u32 0, .int .u32 0, .int .u32 0, .int .u32 0, .int .u32 0, .int .u32 0, .int .u32 0, .int .u32 0, .int .u32 0, .int .u32 0, .int .u32 0, .int .u32 0, .int .u32 0, .int .u32 0, .int .u32 0, .int .u32 0, .int .u32 0, .int .u32 0, .int .u32 0, .int .u32 0, .int .u32 0, .int .u32 0, .int .u32 0, .int .u32 0, .bool false, .bool false, .bool false, .int .i64 0], .slice none 0 0], []⟩ 8 (by kernel_rfl) (by kernel_rfl) (by kernel_rfl) (by kernel_rfl)) ?_
  intro W base args ds gs before hval0 hW hcnd _
  have hval : ∀ (j : Nat) t v, Try.f5.params[j]? = some t → args[j]? = some v → Value.okWide Try.prog W .any base t v := hval0
  have hW' := hW
  obtain ⟨p, q, hA0, hV, rfl, hfz, hnd⟩ := hW
  have hA : DataW.TrodAll enc Try.prog W 0 (fun _ => true) true Try.f5.params.toList args.toList ds p := hA0
  rw [Try.params5] at hA hval
  obtain ⟨v0, vs0, d0, ds0, p0, q0, hargs, rfl, rfl, h0, r0⟩ := trodAll_cons hA
  obtain ⟨v1, vs1, d1, ds1, p1, q1, rfl, rfl, rfl, h1, r1⟩ := trodAll_cons r0
  obtain ⟨rfl, rfl, rfl⟩ := trodAll_nil r1
  obtain rfl : args = #[v0, v1] := by cases args; simp_all
  obtain ⟨rfl, rfl⟩ := trodVars_none hV
  obtain ⟨a0, rfl, z0⟩ := cpu_open (hval 0 26 v0 rfl rfl) h0
  obtain ⟨A1, n1, c1, b1, rfl, x1, y1, s1, z1⟩ := bytes_arg Try.underlying48 Try.underlying5 (by kernel_rfl) (hval 1 48 v1 rfl rfl) h1
  clear hA0 hval0
  simp only [List.append_nil] at hW'
  refine (codes_all a0 A1 n1 c1 b1 W s1 z1 x1 y1 z0).mono fun e W' ⟨he, hw⟩ => ?_
  subst he
  exact ⟨_, rfl, law_post laidK rfl (by kernel_rfl) (by kernel_rfl) Try.underlying4 (by kernel_rfl) hW' rfl hw⟩
set_option maxRecDepth 100000 in
/-- The statement. -/
theorem trapCodes_said : Rows.TrapCodesSaid :=
  OpenClaim.holds_of_wide 5 Try.f5 rfl rfl rfl rfl rfl rfl rfl ⟨rfl, rfl, rfl, rfl, rfl⟩ rfl rfl rfl rfl rfl (by kernel_rfl) Try.func5 (by kernel_rfl)
    (of_decide_eq_true (by kernel_rfl)) (by unfold Func.isWrapper; first | (rw [if_pos (by decide +kernel)]; kernel_rfl) | (rw [if_neg (by decide +kernel)]; exact ⟨rfl, rfl⟩))
    (fun os started H enc _ => trapCodes_lifted os started H enc)
#print axioms trapCodes_said
end Go.Proofs.Ytkknobonpejgbaa
