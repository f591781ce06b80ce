/-
  A CONSOLE: first, put, take, count, ports.
-/
import Derived.Test.YtkhgaikfomcjeaaConB
import Derived.Deep.RegionHeld
import Derived.Lib.Hide
import Derived.Laws.RangeAny
namespace Go.Proofs.Ytkhgaikfomcjeaa
open Go.RowKit Go.ChangeShapes Go.WideShapes Go.ChangeAt

/-- A console that is being changed: what an in returns, what an out puts out. -/
def cgC (x : Cn) (v : Int) (o : ByteArray) : List Value := x.cells ++ [.int .u32 v, .string o]
theorem cg_sz (x : Cn) (v : Int) (o : ByteArray) : (Try.prog.info? 63).map (·.size) = some (cgC x v o).length := by
  show _ = some 4
  kernel_rfl
theorem cg_one (x : Cn) (v : Int) (o : ByteArray) : ∀ u ∈ cgC x v o, u.oneCell' = true := by
  intro u hu
  simp only [cgC, Cn.cells, List.cons_append, List.nil_append, List.mem_cons, List.not_mem_nil, or_false] at hu
  rcases hu with rfl | rfl | rfl | rfl <;> rfl
theorem cg_ret {fn : Func} {p : Tmp} (h : fn.results = #[.cell p 63]) (tmps : Array Value) (w : World) (B : Nat) (x : Cn) (v : Int) (o : ByteArray) (hp : tmps.getD p undef = .pointer (some ⟨B, 0, none⟩)) (hb : Blk w B 63 (cgC x v o)) :
    (results fn tmps).run Try.prog w = .ok (.agg (cgC x v o).toArray) w :=
  results_blk h tmps w B 63 _ _ hp hb Try.underlying63 rfl (cg_sz _ _ _)
theorem cg_s (x : Cn) (v : Int) (o : ByteArray) : (cgC x v o)[0]? = some (.string x.s) := rfl
theorem cg_sets (x : Cn) (v : Int) (o : ByteArray) (s : ByteArray) : (cgC x v o).set 0 (.string s) = cgC ⟨s, x.n⟩ v o := rfl
theorem cg_setv (x : Cn) (v : Int) (o : ByteArray) (u : Int) : (cgC x v o).set 2 (.int .u32 u) = cgC x u o := rfl
theorem cg_seto (x : Cn) (v : Int) (o : ByteArray) (s : ByteArray) : (cgC x v o).set 3 (.string s) = cgC x v s := rfl
set_option maxRecDepth 100000 in
set_option maxHeartbeats 2000000 in
theorem put_any (x : Cn) (a : Int) (o : ByteArray) (v : Int) (w : World) : Calls Try.prog 30 #[.agg (cgC x a o).toArray, .int .u32 v] w fun e w' => e = .returned (.agg (cgC x a (one (v % 256))).toArray) ∧ Later w w' := by
  have b2 := ((Blk.new' w w.heap.size 63 (cgC x a o).toArray (cgC x a o) (by simp) rfl).alloc (.cells (cgC zC 0 noS).toArray 63))
  have b4 := (Blk.new' (w.alloc (.cells (cgC x a o).toArray 63)) (w.heap.size + 1) 63 (cgC zC 0 noS).toArray (cgC zC 0 noS) (by simp) rfl)
  have lw := ((later1 w (.cells (cgC x a o).toArray 63)).alloc (by simp; try omega) (.cells (cgC zC 0 noS).toArray 63))
  obtain ⟨u0, hu⟩ : ∃ u, ((w.alloc (.cells (cgC x a o).toArray 63)).alloc (.cells (cgC zC 0 noS).toArray 63)) = u := ⟨_, rfl⟩
  rw [hu] at b2 b4 lw
  have KT := Lib.hid fun w' => text_any (v % 256) w'
  go_enter Try.func30, Try.ntmps30
  go_upto_region 1 with fail
  have hu2 : ((w.alloc (.cells (cgC x a o).toArray 63)).alloc (.cells #[.string ⟨#[]⟩, .int .i64 0, .int .u32 0, .string ⟨#[]⟩] 63)) = u0 := hu
  try rw [hu2]
  clear hu hu2
  go_wp2_with (first
    | (go_at_call 22; (with_reducible refine (KT.out _).mono ?_); rintro e w1 ⟨rfl, l1⟩; replace b2 := b2.keep l1; replace b4 := b4.keep l1; replace lw := Later.trans_ lw l1)
    | ((with_reducible refine wpList_set1 (o := ⟨none, .store 9 (.tmp 8) (.tmp 7), _, _, _, none⟩) rfl _ _ _ rfl rfl w.heap.size 3 63 (cgC x a o) (.string (one (v % 256))) ?_ ?_ ?_ ?_ ?_ ?_ ?_); rfl; rfl; exact b2; exact s_sz; exact (show 3 < 4 from by decide); rfl; intro w2 bq oq; clear b2; have b2 := bq; rw [cg_seto] at b2; clear bq; replace b4 := b4.only oq (by omega); replace lw := Below.only lw oq (Nat.le_refl _); clear oq)
    | ((with_reducible refine wpList_load_blk (o := ⟨some 9, .load 63 (.tmp 2), _, _, _, none⟩) rfl _ _ rfl w.heap.size 63 (cgC x a (one (v % 256))) _ ?_ ?_ Try.underlying63 rfl (cg_sz _ _ _) ?_); rfl; exact b2)
    | ((with_reducible refine wpList_store_abs (o := ⟨none, .store 63 (.tmp 4) (.tmp 9), _, _, _, none⟩) rfl _ _ _ rfl (w.heap.size + 1) 63 (cgC zC 0 noS) (cgC x a (one (v % 256))) ?_ ?_ ?_ ?_ ?_ ?_ ?_); rfl; rfl; exact b4; exact (cg_sz _ _ _); rfl; exact cg_one _ _ _; intro w9 b9 o9))
  exact bodyPost_ret (cg_ret Try.results30 _ _ (w.heap.size + 1) x a (one (v % 256)) rfl b9) rfl ⟨rfl, Below.only lw o9 (by omega)⟩
set_option maxRecDepth 100000 in
set_option maxHeartbeats 2000000 in
theorem count_any (x : Cn) (a : Int) (o : ByteArray) (v : Int) (w : World) (hz : x.s.size ≤ 64) : Calls Try.prog 32 #[.agg (cgC x a o).toArray, .int .u32 v] w fun e w' => e = .returned (.agg (cgC x x.s.size o).toArray) ∧ Later w w' := by
  have b2 := ((Blk.new' w w.heap.size 63 (cgC x a o).toArray (cgC x a o) (by simp) rfl).alloc (.cells (cgC zC 0 noS).toArray 63))
  have b4 := (Blk.new' (w.alloc (.cells (cgC x a o).toArray 63)) (w.heap.size + 1) 63 (cgC zC 0 noS).toArray (cgC zC 0 noS) (by simp) rfl)
  have lw := ((later1 w (.cells (cgC x a o).toArray 63)).alloc (by simp; try omega) (.cells (cgC zC 0 noS).toArray 63))
  obtain ⟨u0, hu⟩ : ∃ u, ((w.alloc (.cells (cgC x a o).toArray 63)).alloc (.cells (cgC zC 0 noS).toArray 63)) = u := ⟨_, rfl⟩
  rw [hu] at b2 b4 lw
  have a1 : IntKind.u32.wrap (x.s.size : Int) = (x.s.size : Int) := by rw [IntKind.wrap_u32]; omega
  have a2 : (x.s.size : Int) % 4294967296 = (x.s.size : Int) := by omega
  go_enter Try.func32, Try.ntmps32
  go_upto_region 1 with fail
  have hu2 : ((w.alloc (.cells (cgC x a o).toArray 63)).alloc (.cells #[.string ⟨#[]⟩, .int .i64 0, .int .u32 0, .string ⟨#[]⟩] 63)) = u0 := hu
  try rw [hu2]
  clear hu hu2
  have e0 := b2.cell (cg_s x a o)
  go_wp2_with (first
    | ((with_reducible refine wpList_set1 (o := ⟨none, .store 24 (.tmp 10) (.tmp 9), _, _, _, none⟩) rfl _ _ _ rfl rfl w.heap.size 2 63 (cgC x a o) (.int .u32 (x.s.size : Int)) ?_ ?_ ?_ ?_ ?_ ?_ ?_); rfl; rfl; exact b2; exact u_sz; exact (show 2 < 4 from by decide); rfl; intro w2 bq oq; clear b2 e0; have b2 := bq; rw [cg_setv] at b2; clear bq; replace b4 := b4.only oq (by omega); replace lw := Below.only lw oq (Nat.le_refl _); clear oq)
    | ((with_reducible refine wpList_load_blk (o := ⟨some 11, .load 63 (.tmp 2), _, _, _, none⟩) rfl _ _ rfl w.heap.size 63 (cgC x x.s.size o) _ ?_ ?_ Try.underlying63 rfl (cg_sz _ _ _) ?_); rfl; exact b2)
    | ((with_reducible refine wpList_store_abs (o := ⟨none, .store 63 (.tmp 4) (.tmp 11), _, _, _, none⟩) rfl _ _ _ rfl (w.heap.size + 1) 63 (cgC zC 0 noS) (cgC x x.s.size o) ?_ ?_ ?_ ?_ ?_ ?_ ?_); rfl; rfl; exact b4; exact (cg_sz _ _ _); rfl; exact cg_one _ _ _; intro w9 b9 o9))
  exact bodyPost_ret (cg_ret Try.results32 _ _ (w.heap.size + 1) x x.s.size o rfl b9) rfl ⟨rfl, Below.only lw o9 (by omega)⟩
theorem firstV_r (s : ByteArray) (h : 0 < s.size) : 0 ≤ firstV s ∧ firstV s ≤ 255 := by
  unfold firstV
  rw [dif_pos h]
  have := (s[0]'h).toNat_lt
  omega
theorem restS_nil (s : ByteArray) (h : ¬ 0 < s.size) : restS s = noS := by
  have h0 : s.size = 0 := by omega
  apply ByteArray.ext
  apply Array.ext'
  have h1 : s.data.size = 0 := h0
  simp [restS, noS, ByteArray.data_extract, h0]
set_option maxRecDepth 100000 in
theorem run_first (s : ByteArray) (h : 0 < s.size) (w : World) : (Instr.index 9 (.string s) (.int .i64 0)).run Try.prog w = .ok (.int .u8 (firstV s)) w := by
  unfold firstV
  rw [dif_pos h]
  simp [go_sem, run_index_string, Try.underlying9, h]
set_option maxRecDepth 100000 in
set_option maxHeartbeats 2000000 in
theorem first_any (s : ByteArray) (w : World) (hz : s.size ≤ 64) : Calls Try.prog 36 #[.string s] w fun e w' => e = .returned (.tuple #[.int .u32 (firstV s), .string (restS s)]) ∧ Later w w' := by
  by_cases h : 0 < s.size
  · have hI := run_first s h
    have hr := firstV_r s h
    have hs1 : (1 : Int) ≤ (s.size : Int) := by omega
    have a1 : IntKind.u32.wrap (firstV s) = firstV s := by rw [IntKind.wrap_u32]; omega
    have a2 : firstV s % 4294967296 = firstV s := by omega
    go_enter Try.func36, Try.ntmps36
    go_upto_region 2 with fail
    go_loopw [4] (fun _ wr => wr = w.iter s 0) (fun _ _ => 0)
    case atStart => exact rfl
    case round =>
      subst hrel
      have hnx : ∀ ty, (Instr.next (.pointer (some ⟨w.heap.size, 0, none⟩)) true ty).run Try.prog (w.iter s 0) = _ := fun ty => run_next_any w s 0 ty h
      have lw := fun k => later1 w (.stringIter s k)
      go_upto_region 4 with fail
      refine wp_region_held_drew (S := fun w' => True) (by kernel_rfl) trivial (fun hHeld => ?_)
      refine wpAnyH_take (i := 0) (oi := ⟨some 10, .move (.tmp 0), _, _, _, none⟩) (v := .string s) rfl (by kernel_rfl) (by kernel_rfl) (by kernel_rfl) (fun _ _ _ h => h) (Or.inl ⟨by rfl, fun _ _ => rfl⟩) hHeld ?_
      simp only [Act.put, List.setIfInBounds_toArray, List.set_cons_zero, List.set_cons_succ]
      refine wpAnyH_take (i := 1) (oi := ⟨some 11, .move (.tmp 4), _, _, _, none⟩) (v := .int .i64 0) rfl (by kernel_rfl) (by kernel_rfl) (by kernel_rfl) (fun _ _ _ h => h) (Or.inl ⟨by rfl, fun _ _ => rfl⟩) hHeld ?_
      simp only [Act.put, List.setIfInBounds_toArray, List.set_cons_zero, List.set_cons_succ]
      refine wpAnyH_take (i := 2) (oi := ⟨some 12, .index 9 (.tmp 10) (.tmp 11), _, _, _, none⟩) (v := .int .u8 (firstV s)) rfl (by kernel_rfl) (by kernel_rfl) (by kernel_rfl) (fun _ _ _ h => h) (Or.inl ⟨by rfl, fun w _ => by have e1 := hI w; go_simp⟩) hHeld ?_
      simp only [Act.put, List.setIfInBounds_toArray, List.set_cons_zero, List.set_cons_succ]
      refine wpAnyH_take (i := 3) (oi := ⟨some 13, .convert 5 24 (.tmp 12), _, _, _, none⟩) (v := .int .u32 (firstV s)) rfl (by kernel_rfl) (by kernel_rfl) (by kernel_rfl) (fun _ _ _ h => h) (Or.inl ⟨by rfl, fun w _ => by go_simp⟩) hHeld ?_
      simp only [Act.put, List.setIfInBounds_toArray, List.set_cons_zero, List.set_cons_succ]
      refine wpAnyH_take (i := 4) (oi := ⟨some 14, .move (.tmp 0), _, _, _, none⟩) (v := .string s) rfl (by kernel_rfl) (by kernel_rfl) (by kernel_rfl) (fun _ _ _ h => h) (Or.inl ⟨by rfl, fun _ _ => rfl⟩) hHeld ?_
      simp only [Act.put, List.setIfInBounds_toArray, List.set_cons_zero, List.set_cons_succ]
      refine wpAnyH_take (i := 5) (oi := ⟨some 15, .move (.tmp 4), _, _, _, none⟩) (v := .int .i64 0) rfl (by kernel_rfl) (by kernel_rfl) (by kernel_rfl) (fun _ _ _ h => h) (Or.inl ⟨by rfl, fun _ _ => rfl⟩) hHeld ?_
      simp only [Act.put, List.setIfInBounds_toArray, List.set_cons_zero, List.set_cons_succ]
      refine wpAnyH_take (i := 6) (oi := ⟨some 16, .binOp .add 3 (.tmp 15) (.const (.int .i64 1)) 3, _, _, _, none⟩) (v := .int .i64 1) rfl (by kernel_rfl) (by kernel_rfl) (by kernel_rfl) (fun _ _ _ h => h) (Or.inl ⟨by rfl, fun w _ => by go_simp; rfl⟩) hHeld ?_
      simp only [Act.put, List.setIfInBounds_toArray, List.set_cons_zero, List.set_cons_succ]
      refine wpAnyH_take (i := 7) (oi := ⟨some 17, .slice 9 (.tmp 14) (some (.tmp 16)) none none, _, _, _, none⟩) (v := .string (restS s)) rfl (by kernel_rfl) (by kernel_rfl) (by kernel_rfl) (fun _ _ _ h => h) (Or.inl ⟨by rfl, fun w _ => by go_simp; rfl⟩) hHeld ?_
      simp only [Act.put, List.setIfInBounds_toArray, List.set_cons_zero, List.set_cons_succ]
      refine wpAnyH_take (i := 8) (oi := ⟨some 2, .assign (.tmp 13), _, _, _, none⟩) (v := .int .u32 (firstV s)) rfl (by kernel_rfl) (by kernel_rfl) (by kernel_rfl) (fun _ _ _ h => h) (Or.inl ⟨by rfl, fun _ _ => rfl⟩) hHeld ?_
      simp only [Act.put, List.setIfInBounds_toArray, List.set_cons_zero, List.set_cons_succ]
      refine wpAnyH_take (i := 9) (oi := ⟨some 3, .assign (.tmp 17), _, _, _, none⟩) (v := .string (restS s)) rfl (by kernel_rfl) (by kernel_rfl) (by kernel_rfl) (fun _ _ _ h => h) (Or.inl ⟨by rfl, fun _ _ => rfl⟩) hHeld ?_
      simp only [Act.put, List.setIfInBounds_toArray, List.set_cons_zero, List.set_cons_succ]
      refine wpAnyH_done (by kernel_rfl) ?_ _
      clear hHeld
      go_wp2
      go_ret2
      exact ⟨rfl, (lw _).drew⟩
  · rw [show firstV s = 4294967295 from dif_neg h, restS_nil s h]
    go_enter Try.func36, Try.ntmps36
    go_upto_region 2 with fail
    go_loopw [4] (fun _ wr => wr = w.iter s 0) (fun _ _ => 0)
    case atStart => exact rfl
    case round =>
      subst hrel
      have hnx : ∀ ty, (Instr.next (.pointer (some ⟨w.heap.size, 0, none⟩)) true ty).run Try.prog (w.iter s 0) = _ := fun ty => run_next_end w s 0 ty h
      have lw := fun k => later1 w (.stringIter s k)
      go_wp2
      go_ret2
      exact ⟨rfl, lw _⟩
set_option maxRecDepth 100000 in
set_option maxHeartbeats 2000000 in
theorem take_any (x : Cn) (a : Int) (o : ByteArray) (v : Int) (w : World) (hz : x.s.size ≤ 64) : Calls Try.prog 31 #[.agg (cgC x a o).toArray, .int .u32 v] w fun e w' => e = .returned (.agg (cgC ⟨restS x.s, x.n⟩ (firstV x.s) o).toArray) ∧ Later w w' := by
  have b2 := ((Blk.new' w w.heap.size 63 (cgC x a o).toArray (cgC x a o) (by simp) rfl).alloc (.cells (cgC zC 0 noS).toArray 63))
  have b4 := (Blk.new' (w.alloc (.cells (cgC x a o).toArray 63)) (w.heap.size + 1) 63 (cgC zC 0 noS).toArray (cgC zC 0 noS) (by simp) rfl)
  have lw := ((later1 w (.cells (cgC x a o).toArray 63)).alloc (by simp; try omega) (.cells (cgC zC 0 noS).toArray 63))
  obtain ⟨u0, hu⟩ : ∃ u, ((w.alloc (.cells (cgC x a o).toArray 63)).alloc (.cells (cgC zC 0 noS).toArray 63)) = u := ⟨_, rfl⟩
  rw [hu] at b2 b4 lw
  have KF := Lib.hid fun w' => first_any x.s w' hz
  clear hz
  go_enter Try.func31, Try.ntmps31
  go_upto_region 1 with fail
  have hu2 : ((w.alloc (.cells (cgC x a o).toArray 63)).alloc (.cells #[.string ⟨#[]⟩, .int .i64 0, .int .u32 0, .string ⟨#[]⟩] 63)) = u0 := hu
  try rw [hu2]
  clear hu hu2
  have e0 := b2.cell (cg_s x a o)
  go_wp2_with (first
    | (go_at_call 36; clear e0; (with_reducible refine (KF.out _).mono ?_); rintro e w1 ⟨rfl, l1⟩; replace b2 := b2.keep l1; replace b4 := b4.keep l1; replace lw := Later.trans_ lw l1)
    | ((with_reducible refine wpList_set1 (o := ⟨none, .store 24 (.tmp 12) (.tmp 10), _, _, _, none⟩) rfl _ _ _ rfl rfl w.heap.size 2 63 (cgC x a o) (.int .u32 (firstV x.s)) ?_ ?_ ?_ ?_ ?_ ?_ ?_); rfl; rfl; exact b2; exact u_sz; exact (show 2 < 4 from by decide); rfl; intro w2 bq oq; clear b2; have b2 := bq; rw [cg_setv] at b2; clear bq; replace b4 := b4.only oq (by omega); replace lw := Below.only lw oq (Nat.le_refl _); clear oq)
    | ((with_reducible refine wpList_set1 (o := ⟨none, .store 9 (.tmp 14) (.tmp 11), _, _, _, none⟩) rfl _ _ _ rfl rfl w.heap.size 0 63 (cgC x (firstV x.s) o) (.string (restS x.s)) ?_ ?_ ?_ ?_ ?_ ?_ ?_); rfl; rfl; exact b2; exact s_sz; exact (show 0 < 4 from by decide); rfl; intro w3 bq oq; clear b2; have b2 := bq; rw [cg_sets] at b2; clear bq; replace b4 := b4.only oq (by omega); replace lw := Below.only lw oq (Nat.le_refl _); clear oq)
    | ((with_reducible refine wpList_load_blk (o := ⟨some 15, .load 63 (.tmp 2), _, _, _, none⟩) rfl _ _ rfl w.heap.size 63 (cgC ⟨restS x.s, x.n⟩ (firstV x.s) o) _ ?_ ?_ Try.underlying63 rfl (cg_sz _ _ _) ?_); rfl; exact b2)
    | ((with_reducible refine wpList_store_abs (o := ⟨none, .store 63 (.tmp 4) (.tmp 15), _, _, _, none⟩) rfl _ _ _ rfl (w.heap.size + 1) 63 (cgC zC 0 noS) (cgC ⟨restS x.s, x.n⟩ (firstV x.s) o) ?_ ?_ ?_ ?_ ?_ ?_ ?_); rfl; rfl; exact b4; exact (cg_sz _ _ _); rfl; exact cg_one _ _ _; intro w9 b9 o9))
  exact bodyPost_ret (cg_ret Try.results31 _ _ (w.heap.size + 1) ⟨restS x.s, x.n⟩ (firstV x.s) o rfl b9) rfl ⟨rfl, Below.only lw o9 (by omega)⟩
end Go.Proofs.Ytkhgaikfomcjeaa
