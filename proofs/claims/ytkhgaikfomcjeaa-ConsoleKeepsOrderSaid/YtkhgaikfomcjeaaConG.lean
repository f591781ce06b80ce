/-
  A CONSOLE: Decode, the program's and the reference's.
-/
import Derived.Test.YtkhgaikfomcjeaaConF
import Derived.Deep.RegionHeld
import Derived.Lib.Hide
namespace Go.Proofs.Ytkhgaikfomcjeaa
open Go.RowKit Go.ChangeShapes Go.WideShapes Go.ChangeAt

theorem run_c0 (w : World) : (Instr.build 23 #[]).run Try.prog w = .ok (.agg zC.cells.toArray) w := run_build w _ _ _ (by kernel_rfl)
def rdC (x : Cn) (e : Int) : List Value := x.cells ++ [.int .i64 e]
theorem rd_sz (x : Cn) (e : Int) : (Try.prog.info? 46).map (·.size) = some (rdC x e).length := by
  show _ = some 3
  kernel_rfl
theorem rd_one (x : Cn) (e : Int) : ∀ u ∈ rdC x e, u.oneCell' = true := by
  intro u hu
  simp only [rdC, Cn.cells, List.cons_append, List.nil_append, List.mem_cons, List.not_mem_nil, or_false] at hu
  rcases hu with rfl | rfl | rfl <;> rfl
theorem rd_ret {fn : Func} {p : Tmp} (h : fn.results = #[.cell p 46]) (tmps : Array Value) (w : World) (B : Nat) (x : Cn) (e : Int) (hp : tmps.getD p undef = .pointer (some ⟨B, 0, none⟩)) (hb : Blk w B 46 (rdC x e)) :
    (results fn tmps).run Try.prog w = .ok (.agg (rdC x e).toArray) w :=
  results_blk h tmps w B 46 _ _ hp hb Try.underlying46 rfl (rd_sz _ _)
theorem run_rE (e : Int) (w : World) : (Instr.build 46 #[(1, .int .i64 e)]).run Try.prog w = .ok (.agg (rdC zC e).toArray) w := run_build w _ _ _ (by kernel_rfl)
theorem run_rC (x : Cn) (w : World) : (Instr.build 46 #[(0, .agg x.cells.toArray)]).run Try.prog w = .ok (.agg (rdC x 0).toArray) w := run_build w _ _ _ (by kernel_rfl)
def decR (n : Nat) (z : Wm.Bs) (u : Nat) (e m : Int) (v : Nat) (f : Int) : Cn × Int :=
  if e ≠ 0 then (zC, e) else if f ≠ 0 then (zC, f) else if u + v < n then (zC, 11) else if (⟨strOfNums z, m⟩ : Cn).ok then (⟨strOfNums z, m⟩, 0) else (zC, 3)
set_option maxRecDepth 100000 in
set_option maxHeartbeats 4000000 in
theorem dec_any (A : Option Addr) (n c : Nat) (b : Wm.Bs) (w : World) (hs : Sl w 1 A n (U b)) (hb : Wm.isBs b) (hnc : n ≤ c) (hn : c ≤ maxLen) (z : Wm.Bs) (u : Nat) (e m : Int) (v : Nat) (f : Int) (hd1 : Wm.decB b = (z, u, e)) (hd2 : e = 0 → Wm.decI (b.drop u) = (m, v, f)) : Calls Try.prog 16 #[.slice A n c] w fun r w' => r = .returned (.tuple #[.agg (decR n z u e m v f).1.cells.toArray, .int .i64 (decR n z u e m v f).2]) ∧ Later w w' := by
  by_cases he : e = 0
  · subst he
    have hd2' := hd2 rfl
    have hu1 := (Wm.decB_can b z u hb hd1).1
    have hbl := hs.blen
    have hun : u ≤ n := by omega
    obtain ⟨A', hcr, hcs⟩ := cut_run (A := A) (n := n) (c := c) (u := u) (b := b) hun hnc
    have hcu := hcr
    have q0 : (0 : Int) ≤ (u : Int) := by omega
    have q1 : (u : Int) ≤ (c : Int) := by omega
    by_cases hf : f = 0
    · subst hf
      have hv1 := (Wm.decI_can (b.drop u) m v (isBs_drop hb u) hd2').1
      rw [List.length_drop] at hv1
      have hvn : u + v ≤ n := by omega
      have aw : IntKind.i64.wrap ((u : Int) + (v : Int)) = (u : Int) + (v : Int) := by rw [IntKind.wrap_i64]; unfold maxLen at hn; omega
      by_cases hl : u + v < n
      · rw [show decR n z u 0 m v 0 = (zC, 11) from by unfold decR; rw [if_neg (by simp), if_neg (by simp), if_pos hl]]
        have b2 := (Blk.new' w w.heap.size 23 (zC.cells).toArray (zC.cells) (by simp) rfl)
        have lw := (later1 w (.cells (zC.cells).toArray 23))
        obtain ⟨u0, hu⟩ : ∃ u, (w.alloc (.cells (zC.cells).toArray 23)) = u := ⟨_, rfl⟩
        rw [hu] at b2 lw
        have hs0 : Sl u0 1 A n (U b) := by rw [← hu]; exact hs.alloc _
        have KB := Lib.hid ((show Calls Try.prog 24 #[.slice A n c] u0 fun r w' => r = .returned (.tuple #[.string (strOfNums z), .int .i64 u, .int .i64 0]) ∧ u0 = w' from Calls.outB (getBytes_any A n c b u0 hs0 hb hnc hn) hd1))
        have KI := Lib.hid ((show Calls Try.prog 25 #[.slice A' (n - u) (c - u)] u0 fun r w' => r = .returned (.tuple #[.int .i64 m, .int .i64 v, .int .i64 0]) ∧ u0 = w' from Calls.out3 (getInt_any A' (n - u) (c - u) (b.drop u) u0 (hcs _ hs0) (isBs_drop hb u) (by omega)) hd2'))
        have dl : decide ((u : Int) + (v : Int) < (n : Int)) = true := decide_eq_true (by omega)
        clear hs hb hs0 hd1 hd2 hd2' hv1 hcs hl hun hbl hu1 hnc hn
        go_enter Try.func16, Try.ntmps16
        go_upto_region 1 with fail
        have hu2 : (w.alloc (.cells #[.string ⟨#[]⟩, .int .i64 0] 23)) = u0 := hu
        try rw [hu2]
        clear hu hu2
        go_wp2_with (first
          | (go_at_call 25; (with_reducible refine (KI.out).mono ?_); rintro e w1 ⟨rfl, rfl⟩)
          | (go_at_call 24; (with_reducible refine (KB.out).mono ?_); rintro e w1 ⟨rfl, rfl⟩)
          | ((with_reducible refine wpList_bld (o := ⟨some 38, .build 23 #[], _, _, _, none⟩) rfl _ #[] #[] (zC.cells).toArray rfl ?_ (run_c0 _) ?_); rfl)
          | ((with_reducible refine wpList_store_abs (o := ⟨none, .store 23 (.tmp 2) (.tmp 38), _, _, _, none⟩) rfl _ _ _ rfl w.heap.size 23 (zC.cells) (zC.cells) ?_ ?_ ?_ ?_ ?_ ?_ ?_); rfl; rfl; exact b2; exact cn_sz _; rfl; exact cn_one _; intro w9 b9 o9))
        exact bodyPost_ret (cn_ret2 Try.results16 _ _ w.heap.size zC (.int .i64 11) rfl rfl b9) rfl ⟨rfl, Below.only lw o9 (Nat.le_refl _)⟩
      · have hvq : u + v = n := by omega
        have dl : decide ((u : Int) + (v : Int) < (n : Int)) = false := decide_eq_false (by omega)
        cases hk : (⟨strOfNums z, m⟩ : Cn).ok with
        | true =>
          rw [show decR n z u 0 m v 0 = ((⟨strOfNums z, m⟩ : Cn), 0) from by unfold decR; rw [if_neg (by simp), if_neg (by simp), if_neg hl, if_pos hk]]
          have KV := Lib.hid fun w' => valid_any (⟨strOfNums z, m⟩ : Cn) w'
          rw [hk] at KV
          have b2 := (Blk.new' w w.heap.size 23 (zC.cells).toArray (zC.cells) (by simp) rfl)
          have lw := (later1 w (.cells (zC.cells).toArray 23))
          obtain ⟨u0, hu⟩ : ∃ u, (w.alloc (.cells (zC.cells).toArray 23)) = u := ⟨_, rfl⟩
          rw [hu] at b2 lw
          have hs0 : Sl u0 1 A n (U b) := by rw [← hu]; exact hs.alloc _
          have KB := Lib.hid ((show Calls Try.prog 24 #[.slice A n c] u0 fun r w' => r = .returned (.tuple #[.string (strOfNums z), .int .i64 u, .int .i64 0]) ∧ u0 = w' from Calls.outB (getBytes_any A n c b u0 hs0 hb hnc hn) hd1))
          have KI := Lib.hid ((show Calls Try.prog 25 #[.slice A' (n - u) (c - u)] u0 fun r w' => r = .returned (.tuple #[.int .i64 m, .int .i64 v, .int .i64 0]) ∧ u0 = w' from Calls.out3 (getInt_any A' (n - u) (c - u) (b.drop u) u0 (hcs _ hs0) (isBs_drop hb u) (by omega)) hd2'))
          clear hs hb hs0 hd1 hd2 hd2' hv1 hcs hl hun hbl hu1 hnc hn hk hvq
          go_enter Try.func16, Try.ntmps16
          go_upto_region 1 with fail
          have hu2 : (w.alloc (.cells #[.string ⟨#[]⟩, .int .i64 0] 23)) = u0 := hu
          try rw [hu2]
          clear hu hu2
          go_wp2_with (first
            | (go_at_call 25; (with_reducible refine (KI.out).mono ?_); rintro e w1 ⟨rfl, rfl⟩)
            | (go_at_call 24; (with_reducible refine (KB.out).mono ?_); rintro e w1 ⟨rfl, rfl⟩)
            | ((with_reducible refine wpList_bld (o := ⟨some 41, .build 23 #[(0, .tmp 39), (1, .tmp 40)], _, _, _, none⟩) rfl _ #[(0, .tmp 39), (1, .tmp 40)] #[(0, .string (strOfNums z)), (1, .int .i64 m)] ((⟨strOfNums z, m⟩ : Cn).cells).toArray rfl ?_ (run_cn (strOfNums z) m _) ?_); rfl)
            | ((with_reducible refine wpList_store_abs (o := ⟨none, .store 23 (.tmp 9) (.tmp 41), _, _, _, none⟩) rfl _ _ _ rfl u0.heap.size 23 zC.cells (⟨strOfNums z, m⟩ : Cn).cells ?_ ?_ ?_ ?_ ?_ ?_ ?_); rfl; rfl; exact (Blk.new _ _ _ _ rfl); exact cn_sz _; rfl; exact cn_one _; have n2 := Nat.ne_of_lt b2.lt; intro w1 b7 o7; replace b2 := (b2.alloc (.cells zC.cells.toArray 23)).only o7 n2; replace lw := Below.only (lw.alloc lw.size (.cells zC.cells.toArray 23)) o7 lw.size; clear o7)
            | ((with_reducible refine wpList_load_blk (o := ⟨some 42, .load 23 (.tmp 9), _, _, _, none⟩) rfl _ _ rfl u0.heap.size 23 (⟨strOfNums z, m⟩ : Cn).cells _ ?_ ?_ Try.underlying23 rfl (cn_sz _) ?_); rfl; exact b7)
            | (go_at_call 8; (with_reducible refine (KV.out _).mono ?_); rintro e w2 ⟨rfl, l2⟩; replace b2 := b2.keep l2; replace b7 := b7.keep l2; replace lw := Later.trans_ lw l2)
            | ((with_reducible refine wpList_load_blk (o := ⟨some 46, .load 23 (.tmp 9), _, _, _, none⟩) rfl _ _ rfl u0.heap.size 23 (⟨strOfNums z, m⟩ : Cn).cells _ ?_ ?_ Try.underlying23 rfl (cn_sz _) ?_); rfl; exact b7)
            | ((with_reducible refine wpList_store_abs (o := ⟨none, .store 23 (.tmp 2) (.tmp 46), _, _, _, none⟩) rfl _ _ _ rfl w.heap.size 23 zC.cells (⟨strOfNums z, m⟩ : Cn).cells ?_ ?_ ?_ ?_ ?_ ?_ ?_); rfl; rfl; exact b2; exact cn_sz _; rfl; exact cn_one _; intro w9 b9 o9))
          exact bodyPost_ret (cn_ret2 Try.results16 _ _ w.heap.size (⟨strOfNums z, m⟩ : Cn) (.int .i64 0) rfl rfl b9) rfl ⟨rfl, Below.only lw o9 (Nat.le_refl _)⟩
        | false =>
          rw [show decR n z u 0 m v 0 = (zC, 3) from by unfold decR; rw [if_neg (by simp), if_neg (by simp), if_neg hl, if_neg (by rw [hk]; simp)]]
          have KV := Lib.hid fun w' => valid_any (⟨strOfNums z, m⟩ : Cn) w'
          rw [hk] at KV
          have b2 := (Blk.new' w w.heap.size 23 (zC.cells).toArray (zC.cells) (by simp) rfl)
          have lw := (later1 w (.cells (zC.cells).toArray 23))
          obtain ⟨u0, hu⟩ : ∃ u, (w.alloc (.cells (zC.cells).toArray 23)) = u := ⟨_, rfl⟩
          rw [hu] at b2 lw
          have hs0 : Sl u0 1 A n (U b) := by rw [← hu]; exact hs.alloc _
          have KB := Lib.hid ((show Calls Try.prog 24 #[.slice A n c] u0 fun r w' => r = .returned (.tuple #[.string (strOfNums z), .int .i64 u, .int .i64 0]) ∧ u0 = w' from Calls.outB (getBytes_any A n c b u0 hs0 hb hnc hn) hd1))
          have KI := Lib.hid ((show Calls Try.prog 25 #[.slice A' (n - u) (c - u)] u0 fun r w' => r = .returned (.tuple #[.int .i64 m, .int .i64 v, .int .i64 0]) ∧ u0 = w' from Calls.out3 (getInt_any A' (n - u) (c - u) (b.drop u) u0 (hcs _ hs0) (isBs_drop hb u) (by omega)) hd2'))
          clear hs hb hs0 hd1 hd2 hd2' hv1 hcs hl hun hbl hu1 hnc hn hk hvq
          go_enter Try.func16, Try.ntmps16
          go_upto_region 1 with fail
          have hu2 : (w.alloc (.cells #[.string ⟨#[]⟩, .int .i64 0] 23)) = u0 := hu
          try rw [hu2]
          clear hu hu2
          go_wp2_with (first
            | (go_at_call 25; (with_reducible refine (KI.out).mono ?_); rintro e w1 ⟨rfl, rfl⟩)
            | (go_at_call 24; (with_reducible refine (KB.out).mono ?_); rintro e w1 ⟨rfl, rfl⟩)
            | ((with_reducible refine wpList_bld (o := ⟨some 41, .build 23 #[(0, .tmp 39), (1, .tmp 40)], _, _, _, none⟩) rfl _ #[(0, .tmp 39), (1, .tmp 40)] #[(0, .string (strOfNums z)), (1, .int .i64 m)] ((⟨strOfNums z, m⟩ : Cn).cells).toArray rfl ?_ (run_cn (strOfNums z) m _) ?_); rfl)
            | ((with_reducible refine wpList_store_abs (o := ⟨none, .store 23 (.tmp 9) (.tmp 41), _, _, _, none⟩) rfl _ _ _ rfl u0.heap.size 23 zC.cells (⟨strOfNums z, m⟩ : Cn).cells ?_ ?_ ?_ ?_ ?_ ?_ ?_); rfl; rfl; exact (Blk.new _ _ _ _ rfl); exact cn_sz _; rfl; exact cn_one _; have n2 := Nat.ne_of_lt b2.lt; intro w1 b7 o7; replace b2 := (b2.alloc (.cells zC.cells.toArray 23)).only o7 n2; replace lw := Below.only (lw.alloc lw.size (.cells zC.cells.toArray 23)) o7 lw.size; clear o7)
            | ((with_reducible refine wpList_load_blk (o := ⟨some 42, .load 23 (.tmp 9), _, _, _, none⟩) rfl _ _ rfl u0.heap.size 23 (⟨strOfNums z, m⟩ : Cn).cells _ ?_ ?_ Try.underlying23 rfl (cn_sz _) ?_); rfl; exact b7)
            | (go_at_call 8; (with_reducible refine (KV.out _).mono ?_); rintro e w2 ⟨rfl, l2⟩; replace b2 := b2.keep l2; replace b7 := b7.keep l2; replace lw := Later.trans_ lw l2)
            | ((with_reducible refine wpList_bld (o := ⟨some 45, .build 23 #[], _, _, _, none⟩) rfl _ #[] #[] (zC.cells).toArray rfl ?_ (run_c0 _) ?_); rfl)
            | ((with_reducible refine wpList_store_abs (o := ⟨none, .store 23 (.tmp 2) (.tmp 45), _, _, _, none⟩) rfl _ _ _ rfl w.heap.size 23 (zC.cells) (zC.cells) ?_ ?_ ?_ ?_ ?_ ?_ ?_); rfl; rfl; exact b2; exact cn_sz _; rfl; exact cn_one _; intro w9 b9 o9))
          exact bodyPost_ret (cn_ret2 Try.results16 _ _ w.heap.size zC (.int .i64 3) rfl rfl b9) rfl ⟨rfl, Below.only lw o9 (Nat.le_refl _)⟩
    · rw [show decR n z u 0 m v f = (zC, f) from by unfold decR; rw [if_neg (by simp), if_pos hf]]
      have df : (f != 0) = true := by simpa using hf
      have b2 := (Blk.new' w w.heap.size 23 (zC.cells).toArray (zC.cells) (by simp) rfl)
      have lw := (later1 w (.cells (zC.cells).toArray 23))
      obtain ⟨u0, hu⟩ : ∃ u, (w.alloc (.cells (zC.cells).toArray 23)) = u := ⟨_, rfl⟩
      rw [hu] at b2 lw
      have hs0 : Sl u0 1 A n (U b) := by rw [← hu]; exact hs.alloc _
      have KB := Lib.hid ((show Calls Try.prog 24 #[.slice A n c] u0 fun r w' => r = .returned (.tuple #[.string (strOfNums z), .int .i64 u, .int .i64 0]) ∧ u0 = w' from Calls.outB (getBytes_any A n c b u0 hs0 hb hnc hn) hd1))
      have KI := Lib.hid ((show Calls Try.prog 25 #[.slice A' (n - u) (c - u)] u0 fun r w' => r = .returned (.tuple #[.int .i64 m, .int .i64 v, .int .i64 f]) ∧ u0 = w' from Calls.out3 (getInt_any A' (n - u) (c - u) (b.drop u) u0 (hcs _ hs0) (isBs_drop hb u) (by omega)) hd2'))
      clear hs hb hs0 hd1 hd2 hd2' hcs hun hbl hu1 hnc hn hf
      go_enter Try.func16, Try.ntmps16
      go_upto_region 1 with fail
      have hu2 : (w.alloc (.cells #[.string ⟨#[]⟩, .int .i64 0] 23)) = u0 := hu
      try rw [hu2]
      clear hu hu2
      go_wp2_with (first
        | (go_at_call 25; (with_reducible refine (KI.out).mono ?_); rintro e w1 ⟨rfl, rfl⟩)
        | (go_at_call 24; (with_reducible refine (KB.out).mono ?_); rintro e w1 ⟨rfl, rfl⟩)
        | ((with_reducible refine wpList_bld (o := ⟨some 30, .build 23 #[], _, _, _, none⟩) rfl _ #[] #[] (zC.cells).toArray rfl ?_ (run_c0 _) ?_); rfl)
        | ((with_reducible refine wpList_store_abs (o := ⟨none, .store 23 (.tmp 2) (.tmp 30), _, _, _, none⟩) rfl _ _ _ rfl w.heap.size 23 (zC.cells) (zC.cells) ?_ ?_ ?_ ?_ ?_ ?_ ?_); rfl; rfl; exact b2; exact cn_sz _; rfl; exact cn_one _; intro w9 b9 o9))
      exact bodyPost_ret (cn_ret2 Try.results16 _ _ w.heap.size zC (.int .i64 f) rfl rfl b9) rfl ⟨rfl, Below.only lw o9 (Nat.le_refl _)⟩
  · rw [show decR n z u e m v f = (zC, e) from by unfold decR; rw [if_pos he]]
    have df : (e != 0) = true := by simpa using he
    have b2 := (Blk.new' w w.heap.size 23 (zC.cells).toArray (zC.cells) (by simp) rfl)
    have lw := (later1 w (.cells (zC.cells).toArray 23))
    obtain ⟨u0, hu⟩ : ∃ u, (w.alloc (.cells (zC.cells).toArray 23)) = u := ⟨_, rfl⟩
    rw [hu] at b2 lw
    have hs0 : Sl u0 1 A n (U b) := by rw [← hu]; exact hs.alloc _
    have KB := Lib.hid ((show Calls Try.prog 24 #[.slice A n c] u0 fun r w' => r = .returned (.tuple #[.string (strOfNums z), .int .i64 u, .int .i64 e]) ∧ u0 = w' from Calls.outB (getBytes_any A n c b u0 hs0 hb hnc hn) hd1))
    clear hs hb hs0 hd1 hd2 hnc hn he
    go_enter Try.func16, Try.ntmps16
    go_upto_region 1 with fail
    have hu2 : (w.alloc (.cells #[.string ⟨#[]⟩, .int .i64 0] 23)) = u0 := hu
    try rw [hu2]
    clear hu hu2
    go_wp2_with (first
      | (go_at_call 24; (with_reducible refine (KB.out).mono ?_); rintro e w1 ⟨rfl, rfl⟩)
      | ((with_reducible refine wpList_bld (o := ⟨some 18, .build 23 #[], _, _, _, none⟩) rfl _ #[] #[] (zC.cells).toArray rfl ?_ (run_c0 _) ?_); rfl)
      | ((with_reducible refine wpList_store_abs (o := ⟨none, .store 23 (.tmp 2) (.tmp 18), _, _, _, none⟩) rfl _ _ _ rfl w.heap.size 23 (zC.cells) (zC.cells) ?_ ?_ ?_ ?_ ?_ ?_ ?_); rfl; rfl; exact b2; exact cn_sz _; rfl; exact cn_one _; intro w9 b9 o9))
    exact bodyPost_ret (cn_ret2 Try.results16 _ _ w.heap.size zC (.int .i64 e) rfl rfl b9) rfl ⟨rfl, Below.only lw o9 (Nat.le_refl _)⟩
set_option maxRecDepth 100000 in
set_option maxHeartbeats 4000000 in
theorem rdec_any (A : Option Addr) (n c : Nat) (b : Wm.Bs) (w : World) (hs : Sl w 1 A n (U b)) (hb : Wm.isBs b) (hnc : n ≤ c) (hn : c ≤ maxLen) (z : Wm.Bs) (u : Nat) (e m : Int) (v : Nat) (f : Int) (hd1 : Wm.decB b = (z, u, e)) (hd2 : e = 0 → Wm.decI (b.drop u) = (m, v, f)) : Calls Try.prog 17 #[.slice A n c] w fun r w' => r = .returned (.agg (rdC (decR n z u e m v f).1 (decR n z u e m v f).2).toArray) ∧ Later w w' := by
  by_cases he : e = 0
  · subst he
    have hd2' := hd2 rfl
    have hu1 := (Wm.decB_can b z u hb hd1).1
    have hbl := hs.blen
    have hun : u ≤ n := by omega
    obtain ⟨A', hcr, hcs⟩ := cut_run (A := A) (n := n) (c := c) (u := u) (b := b) hun hnc
    have hcu := hcr
    have q0 : (0 : Int) ≤ (u : Int) := by omega
    have q1 : (u : Int) ≤ (c : Int) := by omega
    by_cases hf : f = 0
    · subst hf
      have hv1 := (Wm.decI_can (b.drop u) m v (isBs_drop hb u) hd2').1
      rw [List.length_drop] at hv1
      have hvn : u + v ≤ n := by omega
      have aw : IntKind.i64.wrap ((u : Int) + (v : Int)) = (u : Int) + (v : Int) := by rw [IntKind.wrap_i64]; unfold maxLen at hn; omega
      by_cases hl : u + v < n
      · rw [show decR n z u 0 m v 0 = (zC, 11) from by unfold decR; rw [if_neg (by simp), if_neg (by simp), if_pos hl]]
        have b2 := (Blk.new' w w.heap.size 46 (rdC zC 0).toArray (rdC zC 0) (by simp) rfl)
        have lw := (later1 w (.cells (rdC zC 0).toArray 46))
        obtain ⟨u0, hu⟩ : ∃ u, (w.alloc (.cells (rdC zC 0).toArray 46)) = u := ⟨_, rfl⟩
        rw [hu] at b2 lw
        have hs0 : Sl u0 1 A n (U b) := by rw [← hu]; exact hs.alloc _
        have KB := Lib.hid ((show Calls Try.prog 26 #[.slice A n c] u0 fun r w' => r = .returned (.tuple #[.string (strOfNums z), .int .i64 u, .int .i64 0]) ∧ u0 = w' from Calls.outB (refGetBytes_any A n c b u0 hs0 hb hnc hn) hd1))
        have KI := Lib.hid ((show Calls Try.prog 27 #[.slice A' (n - u) (c - u)] u0 fun r w' => r = .returned (.tuple #[.int .i64 m, .int .i64 v, .int .i64 0]) ∧ u0 = w' from Calls.out3 (refGetInt_any A' (n - u) (c - u) (b.drop u) u0 (hcs _ hs0) (isBs_drop hb u) (by omega)) hd2'))
        have dl : (((u : Int) + (v : Int)) != (n : Int)) = true := by simp; omega
        clear hs hb hs0 hd1 hd2 hd2' hv1 hcs hl hun hbl hu1 hnc hn
        go_enter Try.func17, Try.ntmps17
        go_upto_region 1 with fail
        have hu2 : (w.alloc (.cells #[.string ⟨#[]⟩, .int .i64 0, .int .i64 0] 46)) = u0 := hu
        try rw [hu2]
        clear hu hu2
        go_wp2_with (first
          | (go_at_call 27; (with_reducible refine (KI.out).mono ?_); rintro e w1 ⟨rfl, rfl⟩)
          | (go_at_call 26; (with_reducible refine (KB.out).mono ?_); rintro e w1 ⟨rfl, rfl⟩)
          | ((with_reducible refine wpList_bld (o := ⟨some 39, .build 46 #[(1, .const (.int .i64 11))], _, _, _, none⟩) rfl _ #[(1, .const (.int .i64 11))] #[(1, .int .i64 11)] (rdC zC 11).toArray rfl ?_ (run_rE 11 _) ?_); rfl)
          | ((with_reducible refine wpList_store_abs (o := ⟨none, .store 46 (.tmp 2) (.tmp 39), _, _, _, none⟩) rfl _ _ _ rfl w.heap.size 46 (rdC zC 0) (rdC zC 11) ?_ ?_ ?_ ?_ ?_ ?_ ?_); rfl; rfl; exact b2; exact (rd_sz _ _); rfl; exact rd_one _ _; intro w9 b9 o9))
        exact bodyPost_ret (rd_ret Try.results17 _ _ w.heap.size zC 11 rfl b9) rfl ⟨rfl, Below.only lw o9 (Nat.le_refl _)⟩
      · have hvq : u + v = n := by omega
        have dl : (((u : Int) + (v : Int)) != (n : Int)) = false := by simp; omega
        cases hk : (⟨strOfNums z, m⟩ : Cn).ok with
        | true =>
          rw [show decR n z u 0 m v 0 = ((⟨strOfNums z, m⟩ : Cn), 0) from by unfold decR; rw [if_neg (by simp), if_neg (by simp), if_neg hl, if_pos hk]]
          have KV := Lib.hid fun w' => rvalid_any (⟨strOfNums z, m⟩ : Cn) w'
          rw [hk] at KV
          have b2 := (Blk.new' w w.heap.size 46 (rdC zC 0).toArray (rdC zC 0) (by simp) rfl)
          have lw := (later1 w (.cells (rdC zC 0).toArray 46))
          obtain ⟨u0, hu⟩ : ∃ u, (w.alloc (.cells (rdC zC 0).toArray 46)) = u := ⟨_, rfl⟩
          rw [hu] at b2 lw
          have hs0 : Sl u0 1 A n (U b) := by rw [← hu]; exact hs.alloc _
          have KB := Lib.hid ((show Calls Try.prog 26 #[.slice A n c] u0 fun r w' => r = .returned (.tuple #[.string (strOfNums z), .int .i64 u, .int .i64 0]) ∧ u0 = w' from Calls.outB (refGetBytes_any A n c b u0 hs0 hb hnc hn) hd1))
          have KI := Lib.hid ((show Calls Try.prog 27 #[.slice A' (n - u) (c - u)] u0 fun r w' => r = .returned (.tuple #[.int .i64 m, .int .i64 v, .int .i64 0]) ∧ u0 = w' from Calls.out3 (refGetInt_any A' (n - u) (c - u) (b.drop u) u0 (hcs _ hs0) (isBs_drop hb u) (by omega)) hd2'))
          clear hs hb hs0 hd1 hd2 hd2' hv1 hcs hl hun hbl hu1 hnc hn hk hvq
          go_enter Try.func17, Try.ntmps17
          go_upto_region 1 with fail
          have hu2 : (w.alloc (.cells #[.string ⟨#[]⟩, .int .i64 0, .int .i64 0] 46)) = u0 := hu
          try rw [hu2]
          clear hu hu2
          go_wp2_with (first
            | (go_at_call 27; (with_reducible refine (KI.out).mono ?_); rintro e w1 ⟨rfl, rfl⟩)
            | (go_at_call 26; (with_reducible refine (KB.out).mono ?_); rintro e w1 ⟨rfl, rfl⟩)
            | ((with_reducible refine wpList_bld (o := ⟨some 42, .build 23 #[(0, .tmp 40), (1, .tmp 41)], _, _, _, none⟩) rfl _ #[(0, .tmp 40), (1, .tmp 41)] #[(0, .string (strOfNums z)), (1, .int .i64 m)] ((⟨strOfNums z, m⟩ : Cn).cells).toArray rfl ?_ (run_cn (strOfNums z) m _) ?_); rfl)
            | ((with_reducible refine wpList_store_abs (o := ⟨none, .store 23 (.tmp 9) (.tmp 42), _, _, _, none⟩) rfl _ _ _ rfl u0.heap.size 23 zC.cells (⟨strOfNums z, m⟩ : Cn).cells ?_ ?_ ?_ ?_ ?_ ?_ ?_); rfl; rfl; exact (Blk.new _ _ _ _ rfl); exact cn_sz _; rfl; exact cn_one _; have n2 := Nat.ne_of_lt b2.lt; intro w1 b7 o7; replace b2 := (b2.alloc (.cells zC.cells.toArray 23)).only o7 n2; replace lw := Below.only (lw.alloc lw.size (.cells zC.cells.toArray 23)) o7 lw.size; clear o7)
            | ((with_reducible refine wpList_load_blk (o := ⟨some 43, .load 23 (.tmp 9), _, _, _, none⟩) rfl _ _ rfl u0.heap.size 23 (⟨strOfNums z, m⟩ : Cn).cells _ ?_ ?_ Try.underlying23 rfl (cn_sz _) ?_); rfl; exact b7)
            | (go_at_call 9; (with_reducible refine (KV.out _).mono ?_); rintro e w2 ⟨rfl, l2⟩; replace b2 := b2.keep l2; replace b7 := b7.keep l2; replace lw := Later.trans_ lw l2)
            | ((with_reducible refine wpList_load_blk (o := ⟨some 48, .load 23 (.tmp 9), _, _, _, none⟩) rfl _ _ rfl u0.heap.size 23 (⟨strOfNums z, m⟩ : Cn).cells _ ?_ ?_ Try.underlying23 rfl (cn_sz _) ?_); rfl; exact b7)
            | ((with_reducible refine wpList_bld (o := ⟨some 49, .build 46 #[(0, .tmp 48)], _, _, _, none⟩) rfl _ #[(0, .tmp 48)] #[(0, .agg (⟨strOfNums z, m⟩ : Cn).cells.toArray)] (rdC (⟨strOfNums z, m⟩ : Cn) 0).toArray rfl ?_ (run_rC (⟨strOfNums z, m⟩ : Cn) _) ?_); rfl)
            | ((with_reducible refine wpList_store_abs (o := ⟨none, .store 46 (.tmp 2) (.tmp 49), _, _, _, none⟩) rfl _ _ _ rfl w.heap.size 46 (rdC zC 0) (rdC (⟨strOfNums z, m⟩ : Cn) 0) ?_ ?_ ?_ ?_ ?_ ?_ ?_); rfl; rfl; exact b2; exact (rd_sz _ _); rfl; exact rd_one _ _; intro w9 b9 o9))
          exact bodyPost_ret (rd_ret Try.results17 _ _ w.heap.size (⟨strOfNums z, m⟩ : Cn) 0 rfl b9) rfl ⟨rfl, Below.only lw o9 (Nat.le_refl _)⟩
        | false =>
          rw [show decR n z u 0 m v 0 = (zC, 3) from by unfold decR; rw [if_neg (by simp), if_neg (by simp), if_neg hl, if_neg (by rw [hk]; simp)]]
          have KV := Lib.hid fun w' => rvalid_any (⟨strOfNums z, m⟩ : Cn) w'
          rw [hk] at KV
          have b2 := (Blk.new' w w.heap.size 46 (rdC zC 0).toArray (rdC zC 0) (by simp) rfl)
          have lw := (later1 w (.cells (rdC zC 0).toArray 46))
          obtain ⟨u0, hu⟩ : ∃ u, (w.alloc (.cells (rdC zC 0).toArray 46)) = u := ⟨_, rfl⟩
          rw [hu] at b2 lw
          have hs0 : Sl u0 1 A n (U b) := by rw [← hu]; exact hs.alloc _
          have KB := Lib.hid ((show Calls Try.prog 26 #[.slice A n c] u0 fun r w' => r = .returned (.tuple #[.string (strOfNums z), .int .i64 u, .int .i64 0]) ∧ u0 = w' from Calls.outB (refGetBytes_any A n c b u0 hs0 hb hnc hn) hd1))
          have KI := Lib.hid ((show Calls Try.prog 27 #[.slice A' (n - u) (c - u)] u0 fun r w' => r = .returned (.tuple #[.int .i64 m, .int .i64 v, .int .i64 0]) ∧ u0 = w' from Calls.out3 (refGetInt_any A' (n - u) (c - u) (b.drop u) u0 (hcs _ hs0) (isBs_drop hb u) (by omega)) hd2'))
          clear hs hb hs0 hd1 hd2 hd2' hv1 hcs hl hun hbl hu1 hnc hn hk hvq
          go_enter Try.func17, Try.ntmps17
          go_upto_region 1 with fail
          have hu2 : (w.alloc (.cells #[.string ⟨#[]⟩, .int .i64 0, .int .i64 0] 46)) = u0 := hu
          try rw [hu2]
          clear hu hu2
          go_wp2_with (first
            | (go_at_call 27; (with_reducible refine (KI.out).mono ?_); rintro e w1 ⟨rfl, rfl⟩)
            | (go_at_call 26; (with_reducible refine (KB.out).mono ?_); rintro e w1 ⟨rfl, rfl⟩)
            | ((with_reducible refine wpList_bld (o := ⟨some 42, .build 23 #[(0, .tmp 40), (1, .tmp 41)], _, _, _, none⟩) rfl _ #[(0, .tmp 40), (1, .tmp 41)] #[(0, .string (strOfNums z)), (1, .int .i64 m)] ((⟨strOfNums z, m⟩ : Cn).cells).toArray rfl ?_ (run_cn (strOfNums z) m _) ?_); rfl)
            | ((with_reducible refine wpList_store_abs (o := ⟨none, .store 23 (.tmp 9) (.tmp 42), _, _, _, none⟩) rfl _ _ _ rfl u0.heap.size 23 zC.cells (⟨strOfNums z, m⟩ : Cn).cells ?_ ?_ ?_ ?_ ?_ ?_ ?_); rfl; rfl; exact (Blk.new _ _ _ _ rfl); exact cn_sz _; rfl; exact cn_one _; have n2 := Nat.ne_of_lt b2.lt; intro w1 b7 o7; replace b2 := (b2.alloc (.cells zC.cells.toArray 23)).only o7 n2; replace lw := Below.only (lw.alloc lw.size (.cells zC.cells.toArray 23)) o7 lw.size; clear o7)
            | ((with_reducible refine wpList_load_blk (o := ⟨some 43, .load 23 (.tmp 9), _, _, _, none⟩) rfl _ _ rfl u0.heap.size 23 (⟨strOfNums z, m⟩ : Cn).cells _ ?_ ?_ Try.underlying23 rfl (cn_sz _) ?_); rfl; exact b7)
            | (go_at_call 9; (with_reducible refine (KV.out _).mono ?_); rintro e w2 ⟨rfl, l2⟩; replace b2 := b2.keep l2; replace b7 := b7.keep l2; replace lw := Later.trans_ lw l2)
            | ((with_reducible refine wpList_bld (o := ⟨some 47, .build 46 #[(1, .const (.int .i64 3))], _, _, _, none⟩) rfl _ #[(1, .const (.int .i64 3))] #[(1, .int .i64 3)] (rdC zC 3).toArray rfl ?_ (run_rE 3 _) ?_); rfl)
            | ((with_reducible refine wpList_store_abs (o := ⟨none, .store 46 (.tmp 2) (.tmp 47), _, _, _, none⟩) rfl _ _ _ rfl w.heap.size 46 (rdC zC 0) (rdC zC 3) ?_ ?_ ?_ ?_ ?_ ?_ ?_); rfl; rfl; exact b2; exact (rd_sz _ _); rfl; exact rd_one _ _; intro w9 b9 o9))
          exact bodyPost_ret (rd_ret Try.results17 _ _ w.heap.size zC 3 rfl b9) rfl ⟨rfl, Below.only lw o9 (Nat.le_refl _)⟩
    · rw [show decR n z u 0 m v f = (zC, f) from by unfold decR; rw [if_neg (by simp), if_pos hf]]
      have df : (f != 0) = true := by simpa using hf
      have b2 := (Blk.new' w w.heap.size 46 (rdC zC 0).toArray (rdC zC 0) (by simp) rfl)
      have lw := (later1 w (.cells (rdC zC 0).toArray 46))
      obtain ⟨u0, hu⟩ : ∃ u, (w.alloc (.cells (rdC zC 0).toArray 46)) = u := ⟨_, rfl⟩
      rw [hu] at b2 lw
      have hs0 : Sl u0 1 A n (U b) := by rw [← hu]; exact hs.alloc _
      have KB := Lib.hid ((show Calls Try.prog 26 #[.slice A n c] u0 fun r w' => r = .returned (.tuple #[.string (strOfNums z), .int .i64 u, .int .i64 0]) ∧ u0 = w' from Calls.outB (refGetBytes_any A n c b u0 hs0 hb hnc hn) hd1))
      have KI := Lib.hid ((show Calls Try.prog 27 #[.slice A' (n - u) (c - u)] u0 fun r w' => r = .returned (.tuple #[.int .i64 m, .int .i64 v, .int .i64 f]) ∧ u0 = w' from Calls.out3 (refGetInt_any A' (n - u) (c - u) (b.drop u) u0 (hcs _ hs0) (isBs_drop hb u) (by omega)) hd2'))
      clear hs hb hs0 hd1 hd2 hd2' hcs hun hbl hu1 hnc hn hf
      go_enter Try.func17, Try.ntmps17
      go_upto_region 1 with fail
      have hu2 : (w.alloc (.cells #[.string ⟨#[]⟩, .int .i64 0, .int .i64 0] 46)) = u0 := hu
      try rw [hu2]
      clear hu hu2
      go_wp2_with (first
        | (go_at_call 27; (with_reducible refine (KI.out).mono ?_); rintro e w1 ⟨rfl, rfl⟩)
        | (go_at_call 26; (with_reducible refine (KB.out).mono ?_); rintro e w1 ⟨rfl, rfl⟩)
        | ((with_reducible refine wpList_bld (o := ⟨some 32, .build 46 #[(1, .tmp 31)], _, _, _, none⟩) rfl _ #[(1, .tmp 31)] #[(1, .int .i64 f)] (rdC zC f).toArray rfl ?_ (run_rE f _) ?_); rfl)
        | ((with_reducible refine wpList_store_abs (o := ⟨none, .store 46 (.tmp 2) (.tmp 32), _, _, _, none⟩) rfl _ _ _ rfl w.heap.size 46 (rdC zC 0) (rdC zC f) ?_ ?_ ?_ ?_ ?_ ?_ ?_); rfl; rfl; exact b2; exact (rd_sz _ _); rfl; exact rd_one _ _; intro w9 b9 o9))
      exact bodyPost_ret (rd_ret Try.results17 _ _ w.heap.size zC f rfl b9) rfl ⟨rfl, Below.only lw o9 (Nat.le_refl _)⟩
  · rw [show decR n z u e m v f = (zC, e) from by unfold decR; rw [if_pos he]]
    have df : (e != 0) = true := by simpa using he
    have b2 := (Blk.new' w w.heap.size 46 (rdC zC 0).toArray (rdC zC 0) (by simp) rfl)
    have lw := (later1 w (.cells (rdC zC 0).toArray 46))
    obtain ⟨u0, hu⟩ : ∃ u, (w.alloc (.cells (rdC zC 0).toArray 46)) = u := ⟨_, rfl⟩
    rw [hu] at b2 lw
    have hs0 : Sl u0 1 A n (U b) := by rw [← hu]; exact hs.alloc _
    have KB := Lib.hid ((show Calls Try.prog 26 #[.slice A n c] u0 fun r w' => r = .returned (.tuple #[.string (strOfNums z), .int .i64 u, .int .i64 e]) ∧ u0 = w' from Calls.outB (refGetBytes_any A n c b u0 hs0 hb hnc hn) hd1))
    clear hs hb hs0 hd1 hd2 hnc hn he
    go_enter Try.func17, Try.ntmps17
    go_upto_region 1 with fail
    have hu2 : (w.alloc (.cells #[.string ⟨#[]⟩, .int .i64 0, .int .i64 0] 46)) = u0 := hu
    try rw [hu2]
    clear hu hu2
    go_wp2_with (first
      | (go_at_call 26; (with_reducible refine (KB.out).mono ?_); rintro e w1 ⟨rfl, rfl⟩)
      | ((with_reducible refine wpList_bld (o := ⟨some 20, .build 46 #[(1, .tmp 19)], _, _, _, none⟩) rfl _ #[(1, .tmp 19)] #[(1, .int .i64 e)] (rdC zC e).toArray rfl ?_ (run_rE e _) ?_); rfl)
      | ((with_reducible refine wpList_store_abs (o := ⟨none, .store 46 (.tmp 2) (.tmp 20), _, _, _, none⟩) rfl _ _ _ rfl w.heap.size 46 (rdC zC 0) (rdC zC e) ?_ ?_ ?_ ?_ ?_ ?_ ?_); rfl; rfl; exact b2; exact (rd_sz _ _); rfl; exact rd_one _ _; intro w9 b9 o9))
    exact bodyPost_ret (rd_ret Try.results17 _ _ w.heap.size zC e rfl b9) rfl ⟨rfl, Below.only lw o9 (Nat.le_refl _)⟩
end Go.Proofs.Ytkhgaikfomcjeaa
