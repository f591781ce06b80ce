/-
  PROCESSORS: Encode, and the reference's.
-/
import Derived.Test.YtkknobonpejgbaaTrapI
import Derived.Test.YtkknobonpejgbaaTwF
import Derived.Deep.RegionHeld
namespace Go.Proofs.Ytkknobonpejgbaa
open Go.RowKit Go.ChangeShapes Go.WideShapes Go.ChangeAt

def Cpu.modes (x : Cpu) : Int := b32 x.u 1 + b32 x.wt 2 + b32 x.hl 4
/-- A processor's numbers. -/
def Cpu.nums (x : Cpu) : List Int := [x.pc, x.r0, x.r1, x.r2, x.r3, x.r4, x.r5, x.r6, x.r7, x.r8, x.r9, x.r10, x.r11, x.r12, x.r13, x.r14, x.r15, x.c0, x.c1, x.c2, x.c3, x.c4, x.c5, x.c6, x.c7, x.c8, x.modes, x.cn]
def Cpu.rl (x : Cpu) : List Int := [x.r0, x.r1, x.r2, x.r3, x.r4, x.r5, x.r6, x.r7, x.r8, x.r9, x.r10, x.r11, x.r12, x.r13, x.r14, x.r15]
def Cpu.cl (x : Cpu) : List Int := [x.c0, x.c1, x.c2, x.c3, x.c4, x.c5, x.c6, x.c7, x.c8]
theorem run_index_agg {P : Program} (w : World) (t e : TypeId) (n : Nat) (cs : Array Value) (k kk : IntKind) (i : Int) (h : P.underlying t = some (.array n e)) (he : P.underlying e = some (.int kk)) (hi : (P.info? e).map (·.size) = some 1)
    (h0 : 0 ≤ i) (h1 : i < (n : Int)) (v : Value) (hv : cs[i.toNat]? = some v) : (Instr.index t (.agg cs) (.int k i)).run P w = .ok v w := by
  cases hq : P.info? e with
  | none => simp [hq] at hi
  | some inf =>
    have hs : inf.size = 1 := by simpa [hq] using hi
    have hagg : (isAgg e).run P w = .ok false w := by
      unfold isAgg
      rw [Sem.run_bind, run_underlying he w]
      rfl
    simp [Instr.index, run_underlying h, asIntOf, h0, h1, sizeOf, typeInfo, hq, hs, part, Sem.run_bind, hagg, hv]
/-- What hands back bytes. -/
def GotBs (bs : Wm.Bs) (w : World) (e : Ending) (w' : World) : Prop := ∃ A n c, e = .returned (.slice A n c) ∧ n ≤ c ∧ c ≤ maxLen ∧ n = bs.length ∧ Sl w' 1 A n (U bs) ∧ Later w w'
theorem N64_len (l : List Int) : (N64 l).length = l.length := by unfold N64; rw [List.length_map]
theorem N64_app (a b : List Int) : N64 (a ++ b) = N64 a ++ N64 b := by unfold N64; rw [List.map_append]
theorem N64_one (l : List Int) : ∀ u ∈ N64 l, u.oneCell' = true := by
  intro u hu
  unfold N64 at hu
  obtain ⟨a, _, rfl⟩ := List.mem_map.1 hu
  rfl
theorem own_app64 {w : World} {B : Nat} {e : TypeId} {v : Value} {a b : List Int} {n : Nat} (h : w.ownsRow B e 1 v (a.length + n) (N64 a ++ N64 b)) (hn : n = b.length) : w.ownsRow B e 1 v (a ++ b).length (N64 (a ++ b)) := by
  rw [List.length_append, N64_app, ← hn]; exact h
theorem take_snoc64 (X : List Int) (k : Nat) (h : k < X.length) : X.take (k + 1) = X.take k ++ [X.getD k 0] := by
  rw [List.take_succ_eq_append_getElem h, List.getD_eq_getElem?_getD, List.getElem?_eq_getElem h]
  rfl
theorem sl_new64 {w : World} {B : Nat} {t : TypeId} {l : List Int} (h : Blk w B t (N64 l)) : Sl w 1 (some ⟨B, 0, none⟩) l.length (N64 l) := by
  refine ⟨by rw [N64_len]; omega, fun _ => ⟨_, rfl, h.lt, fun j u hu => ?_⟩⟩
  rw [Addr.add_mid, Nat.zero_add]
  exact h.cell hu
theorem flat_le (f : Int → Wm.Bs) (l : List Int) (h : ∀ a ∈ l, (f a).length ≤ 10) : (l.flatMap f).length ≤ 10 * l.length := by
  induction l with
  | nil => simp
  | cons a l ih =>
    have h1 := h a (by simp)
    have h2 := ih (fun b hb => h b (by simp [hb]))
    simp only [List.flatMap_cons, List.length_append, List.length_cons]
    omega
theorem encL_le (l : List Int) (h : inR l) (hl : l.length = 28) : (Wm.encL Wm.encI l).length ≤ 290 := by
  have h1 := flat_le Wm.encI l (fun a ha => Wm.encI_len (h a ha).1 (h a ha).2)
  have h2 := Wm.encI_len (n := (l.length : Int)) (by omega) (by omega)
  unfold Wm.encL
  rw [List.length_append]
  omega
theorem modes_in (x : Cpu) : 0 ≤ x.modes ∧ x.modes ≤ 7 := by
  unfold Cpu.modes b32
  cases x.u <;> cases x.wt <;> cases x.hl <;> decide
theorem nums_in {x : Cpu} (h : x.wf) : inR x.nums := by
  intro a ha
  have hm := modes_in x
  unfold Cpu.nums at ha
  rw [show ([x.pc, x.r0, x.r1, x.r2, x.r3, x.r4, x.r5, x.r6, x.r7, x.r8, x.r9, x.r10, x.r11, x.r12, x.r13, x.r14, x.r15, x.c0, x.c1, x.c2, x.c3, x.c4, x.c5, x.c6, x.c7, x.c8, x.modes, x.cn] : List Int) = [x.pc, x.r0, x.r1, x.r2, x.r3, x.r4, x.r5, x.r6, x.r7, x.r8, x.r9, x.r10, x.r11, x.r12, x.r13, x.r14, x.r15, x.c0, x.c1, x.c2, x.c3, x.c4, x.c5, x.c6, x.c7, x.c8] ++ [x.modes, x.cn] from rfl] at ha
  rcases List.mem_append.1 ha with ha | ha
  · have := h.1 a ha
    omega
  · simp only [List.mem_cons, List.not_mem_nil, or_false] at ha
    rcases ha with rfl | rfl
    · omega
    · exact ⟨h.2.1, h.2.2⟩
theorem or_m (a b c : Bool) : bits .or .u32 (bits .or .u32 (b32 a 1) (b32 b 2)) (b32 c 4) = b32 a 1 + b32 b 2 + b32 c 4 := by cases a <;> cases b <;> cases c <;> decide +kernel
theorem or_m1 (a b : Bool) : bits .or .u32 (b32 a 1) (b32 b 2) = b32 a 1 + b32 b 2 := by cases a <;> cases b <;> decide +kernel
theorem or_m2 (a b c : Bool) : bits .or .u32 (b32 a 1 + b32 b 2) (b32 c 4) = b32 a 1 + b32 b 2 + b32 c 4 := by cases a <;> cases b <;> cases c <;> decide +kernel
theorem add_m1 (a b : Bool) : IntKind.u32.wrap (b32 a 1 + b32 b 2) = b32 a 1 + b32 b 2 := by cases a <;> cases b <;> decide +kernel
theorem add_m2 (a b c : Bool) : IntKind.u32.wrap (b32 a 1 + b32 b 2 + b32 c 4) = b32 a 1 + b32 b 2 + b32 c 4 := by cases a <;> cases b <;> cases c <;> decide +kernel
theorem wrap_in (n : Int) (h : 0 ≤ n ∧ n ≤ 4294967295) : IntKind.i64.wrap n = n := by rw [IntKind.wrap_i64]; omega
theorem rl_in {x : Cpu} (h : x.wf) {k : Nat} (hk : k < 16) : 0 ≤ x.rl.getD k 0 ∧ x.rl.getD k 0 ≤ 4294967295 := by
  have hm : x.rl.getD k 0 ∈ x.rl := by rw [List.getD_eq_getElem?_getD, List.getElem?_eq_getElem (show k < x.rl.length from hk)]; exact List.getElem_mem _
  refine h.1 _ ?_
  exact List.mem_cons_of_mem _ (List.mem_append_left x.cl hm)
theorem cl_in {x : Cpu} (h : x.wf) {k : Nat} (hk : k < 9) : 0 ≤ x.cl.getD k 0 ∧ x.cl.getD k 0 ≤ 4294967295 := by
  have hm : x.cl.getD k 0 ∈ x.cl := by rw [List.getD_eq_getElem?_getD, List.getElem?_eq_getElem (show k < x.cl.length from hk)]; exact List.getElem_mem _
  refine h.1 _ ?_
  exact List.mem_cons_of_mem _ (List.mem_append_right x.rl hm)
theorem nums_r (x : Cpu) {k : Nat} (hk : k < 16) : x.nums.take (1 + (k + 1)) = x.nums.take (1 + k) ++ [x.rl.getD k 0] := by
  rw [show 1 + (k + 1) = (1 + k) + 1 by omega, take_snoc64 _ _ (by show 1 + k < 28; omega)]
  congr 2
  rcases (show k = 0 ∨ k = 1 ∨ k = 2 ∨ k = 3 ∨ k = 4 ∨ k = 5 ∨ k = 6 ∨ k = 7 ∨ k = 8 ∨ k = 9 ∨ k = 10 ∨ k = 11 ∨ k = 12 ∨ k = 13 ∨ k = 14 ∨ k = 15 by omega) with rfl | rfl | rfl | rfl | rfl | rfl | rfl | rfl | rfl | rfl | rfl | rfl | rfl | rfl | rfl | rfl <;> rfl
theorem nums_c (x : Cpu) {k : Nat} (hk : k < 9) : x.nums.take (17 + (k + 1)) = x.nums.take (17 + k) ++ [x.cl.getD k 0] := by
  rw [show 17 + (k + 1) = (17 + k) + 1 by omega, take_snoc64 _ _ (by show 17 + k < 28; omega)]
  congr 2
  rcases (show k = 0 ∨ k = 1 ∨ k = 2 ∨ k = 3 ∨ k = 4 ∨ k = 5 ∨ k = 6 ∨ k = 7 ∨ k = 8 by omega) with rfl | rfl | rfl | rfl | rfl | rfl | rfl | rfl | rfl <;> rfl
theorem regs_map (x : Cpu) : x.regs = x.rl.map (.int .u32) := rfl
def Cpu.ctls (x : Cpu) : List Value := x.cl.map (.int .u32)
theorem ctls_sz (x : Cpu) : (Try.prog.info? 24).map (·.size) = some x.ctls.length := by
  show _ = some 9
  kernel_rfl
theorem idx_r (x : Cpu) {k : Nat} (hk : k < 16) (w : World) : (Instr.index 23 (.agg x.regs.toArray) (.int .i64 (k : Int))).run Try.prog w = .ok (.int .u32 (x.rl.getD k 0)) w :=
  run_index_agg w 23 22 16 x.regs.toArray .i64 .u32 (k : Int) Try.underlying23 Try.underlying22 (by kernel_rfl) (by omega) (by omega) _ (by
    rw [regs_map, Int.toNat_natCast, List.getElem?_toArray, List.getElem?_map, List.getD_eq_getElem?_getD, List.getElem?_eq_getElem (show k < x.rl.length from hk)]; rfl)
theorem idx_c (x : Cpu) {k : Nat} (hk : k < 9) (w : World) : (Instr.index 24 (.agg x.ctls.toArray) (.int .i64 (k : Int))).run Try.prog w = .ok (.int .u32 (x.cl.getD k 0)) w :=
  run_index_agg w 24 22 9 x.ctls.toArray .i64 .u32 (k : Int) Try.underlying24 Try.underlying22 (by kernel_rfl) (by omega) (by omega) _ (by
    rw [Cpu.ctls, Int.toNat_natCast, List.getElem?_toArray, List.getElem?_map, List.getD_eq_getElem?_getD, List.getElem?_eq_getElem (show k < x.cl.length from hk)]; rfl)
set_option maxRecDepth 100000 in
set_option maxHeartbeats 4000000 in
theorem enc_any (x : Cpu) (w : World) (hx : x.wf) : Calls Try.prog 29 #[.agg x.cells.toArray] w (GotBs (Wm.encL Wm.encI x.nums) w) := by
  obtain ⟨i0, hi, hz0, hz1, hz2⟩ := info_parts int_info
  have b4 := Blk.new w 26 x.cells.toArray x.cells rfl
  have lz := later1 w (.cells x.cells.toArray 26)
  obtain ⟨w0, hw0⟩ : ∃ w0, w.alloc (.cells x.cells.toArray 26) = w0 := ⟨_, rfl⟩
  rw [hw0] at b4 lz
  have e0 := b4.cell (j := 0) (v := .int .u32 x.pc) rfl
  have hp0 := wrap_in x.pc (hx.1 x.pc (by simp))
  go_enter Try.func29, Try.ntmps29
  go_upto_region 1 with fail
  clear hw0
  go_upto_region 3 with (first
    | (at_make; refine wpList_make_own _ rfl _ _ 60 rfl w0.heap.size 3 i0 (.int .i64 0) 1 Try.underlying60 hi hz0 hz1 _ _ _ 28 rfl rfl rfl (by rw [hz2]; omega) (by unfold maxLen; omega) (Nat.le_refl _) ?_; intro w1 hown1 hg1; have lw : Later w0 w1 := (Below.refl _ _).grown hg1 (Nat.le_refl _) (fun k hk => by cases hk); clear e0; have e0 := (b4.keep lw).cell (j := 0) (v := .int .u32 x.pc) rfl)
    | (at_builtin; refine wpList_app _ rfl _ _ 60 rfl w0.heap.size 3 i0 (.int .i64 0) 1 8 Try.underlying60 hi hz0 hz1 hz2 rfl (by decide) _ _ _ rfl (hown1.alloc _) (some ⟨_, 0, none⟩) 1 1 (N64 [x.pc]) rfl (sl_new64 (Blk.new _ 3 (N64 [x.pc]).toArray (N64 [x.pc]) rfl)) (N64_one _) (by unfold maxLen; omega) (by omega) (by have := lw.size; simp; omega) ?_; intro v2 w2 ho2 hg2; replace lw := (lw.alloc lw.size (.cells (N64 [x.pc]).toArray 3)).grown hg2 (by have := lw.size; simp; omega) (fun k hk => (hown1.lt k hk).1)))
  clear e0 hp0
  obtain ⟨l1, hl1⟩ : ∃ l, l = x.nums := ⟨_, rfl⟩
  have o2 : w2.ownsRow w0.heap.size 3 1 v2 (1 + 0) (N64 (x.nums.take (1 + 0))) := ho2
  clear ho2 hg1 hg2 hown1
  go_wp2_with ((with_reducible refine wpList_load_at (o := ⟨some 17, .load 23 (.tmp 16), _, _, _, none⟩) rfl _ _ rfl w.heap.size 1 16 26 x.cells x.regs _ ?_ ?_ rfl Try.underlying23 rfl (regs_sz _) ?_); rfl; exact (b4.keep lw))
  go_loopw [3, 18] (fun lv i wr => ∃ k : Nat, k ≤ 16 ∧ i = .int .i64 k ∧ wr.ownsRow w0.heap.size 3 1 lv (1 + k) (N64 (x.nums.take (1 + k))) ∧ Later w0 wr) (fun _ i _ => 16 - (intOf i).toNat)
  case atStart => exact ⟨0, by omega, rfl, o2, lw⟩
  case round =>
    clear o2 lw
    obtain ⟨k, hk, rfl, ho, lw⟩ := hrel
    by_cases hlt : k < 16
    · have hin := rl_in hx hlt
      have hid := idx_r x hlt
      have hnx := Lib.hid (nums_r x hlt)
      obtain ⟨y, hy⟩ : ∃ y, y = x.rl.getD k 0 := ⟨_, rfl⟩
      rw [← hy] at hin hid hnx
      have hwr := wrap_in y hin
      have h16 : (k : Int) < 16 := by omega
      clear hy hin
      go_wp2_with (at_builtin; refine wpList_app _ rfl _ _ 60 rfl w0.heap.size 3 i0 (.int .i64 0) 1 8 Try.underlying60 hi hz0 hz1 hz2 rfl (by decide) _ _ _ rfl (ho.alloc _) (some ⟨_, 0, none⟩) 1 1 (N64 [y]) rfl (sl_new64 (Blk.new _ 3 (N64 [y]).toArray (N64 [y]) rfl)) (N64_one _) (by unfold maxLen; omega) (by omega) (by have := lw.size; simp; omega) ?_; intro v3 w3 ho3 hg3; replace lw := (lw.alloc lw.size (.cells (N64 [y]).toArray 3)).grown hg3 (by have := lw.size; simp; omega) (fun k hk => (ho.lt k hk).1))
      have o3 : w3.ownsRow w0.heap.size 3 1 v3 (1 + (k + 1)) (N64 (x.nums.take (1 + (k + 1)))) := by
        rw [hnx.out, N64_app]
        exact ho3
      clear ho3 ho hid hwr
      go_roundw
      case rel => exact ⟨k + 1, by omega, by go_num, o3, lw⟩
      case measure => simp [intOf]; omega
    · obtain rfl : k = 16 := by omega
      have o2 : World.ownsRow _ w0.heap.size 3 1 _ (17 + 0) (N64 (x.nums.take (17 + 0))) := ho
      clear ho hlt hk
      go_wp2_with ((with_reducible refine wpList_load_at (o := ⟨some 28, .load 24 (.tmp 27), _, _, _, none⟩) rfl _ _ rfl w.heap.size 17 9 26 x.cells x.ctls _ ?_ ?_ rfl Try.underlying24 rfl (ctls_sz _) ?_); rfl; exact (b4.keep lw))
      go_loopw [3, 29] (fun lv i wr => ∃ k : Nat, k ≤ 9 ∧ i = .int .i64 k ∧ wr.ownsRow w0.heap.size 3 1 lv (17 + k) (N64 (x.nums.take (17 + k))) ∧ Later w0 wr) (fun _ i _ => 9 - (intOf i).toNat)
      case atStart => exact ⟨0, by omega, rfl, o2, lw⟩
      case round =>
        clear o2 lw
        obtain ⟨k, hk, rfl, ho, lw⟩ := hrel
        by_cases hlt : k < 9
        · have hin := cl_in hx hlt
          have hid := idx_c x hlt
          have hnx := Lib.hid (nums_c x hlt)
          obtain ⟨y, hy⟩ : ∃ y, y = x.cl.getD k 0 := ⟨_, rfl⟩
          rw [← hy] at hin hid hnx
          have hwr := wrap_in y hin
          have h9 : (k : Int) < 9 := by omega
          clear hy hin
          go_wp2_with (at_builtin; refine wpList_app _ rfl _ _ 60 rfl w0.heap.size 3 i0 (.int .i64 0) 1 8 Try.underlying60 hi hz0 hz1 hz2 rfl (by decide) _ _ _ rfl (ho.alloc _) (some ⟨_, 0, none⟩) 1 1 (N64 [y]) rfl (sl_new64 (Blk.new _ 3 (N64 [y]).toArray (N64 [y]) rfl)) (N64_one _) (by unfold maxLen; omega) (by omega) (by have := lw.size; simp; omega) ?_; intro v3 w3 ho3 hg3; replace lw := (lw.alloc lw.size (.cells (N64 [y]).toArray 3)).grown hg3 (by have := lw.size; simp; omega) (fun k hk => (ho.lt k hk).1))
          have o3 : w3.ownsRow w0.heap.size 3 1 v3 (17 + (k + 1)) (N64 (x.nums.take (17 + (k + 1)))) := by
            rw [hnx.out, N64_app]
            exact ho3
          clear ho3 ho hid hwr
          go_roundw
          case rel => exact ⟨k + 1, by omega, by go_num, o3, lw⟩
          case measure => simp [intOf]; omega
        · obtain rfl : k = 9 := by omega
          have o2 : World.ownsRow _ w0.heap.size 3 1 _ 26 (N64 (x.nums.take 26)) := ho
          clear ho hlt hk
          have HW1 := Lib.hid fun w' => when_any x.u 1 w'
          have HW2 := Lib.hid fun w' => when_any x.wt 2 w'
          have HW4 := Lib.hid fun w' => when_any x.hl 4 w'
          have h1 := or_m1 x.u x.wt
          have h2 := or_m2 x.u x.wt x.hl
          have hm := modes_in x
          have hmd := wrap_in x.modes (by omega)
          rw [show b32 x.u 1 + b32 x.wt 2 + b32 x.hl 4 = x.modes from rfl] at h2
          have HI := Lib.hid fun A c w' (hs : Sl w' 1 A 28 (N64 x.nums)) => wireInts_any A 28 c x.nums w' hs (nums_in hx) (by unfold maxLen; omega) (by have := encL_le x.nums (nums_in hx) rfl; omega)
          clear hm hx
          go_wp2
          replace o2 := own_below o2 (Below.refl _ _).drew
          replace lw := lw.drew
          refine wp_region_held_drew (S := fun w' => w'.cell? ⟨w.heap.size, 26, none⟩ = some (.bool x.u) ∧ w'.cell? ⟨w.heap.size, 27, none⟩ = some (.bool x.wt) ∧ w'.cell? ⟨w.heap.size, 28, none⟩ = some (.bool x.hl)) (by kernel_rfl) ⟨(b4.keep lw).cell (j := 26) (v := .bool x.u) rfl, (b4.keep lw).cell (j := 27) (v := .bool x.wt) rfl, (b4.keep lw).cell (j := 28) (v := .bool x.hl) rfl⟩ (fun hHeld => ?_)
          refine wpAnyH_take (i := 0) (oi := ⟨some 38, .fieldAddr 26 (.tmp 1) 3, _, _, _, none⟩) (v := .pointer (some ⟨w.heap.size, 26, none⟩)) rfl (by kernel_rfl) (by kernel_rfl) (by kernel_rfl) (fun _ _ _ h => h) (Or.inl ⟨by rfl, fun w _ => by go_simp⟩) hHeld ?_
          simp only [Act.put, List.setIfInBounds_toArray, List.set_cons_zero, List.set_cons_succ]
          refine wpAnyH_take (i := 1) (oi := ⟨some 39, .load 4 (.tmp 38), _, _, _, none⟩) (v := .bool x.u) rfl (by kernel_rfl) (by kernel_rfl) (by kernel_rfl) (fun _ _ _ h => h) (Or.inl ⟨by rfl, fun w hSw => by have e1 := hSw.1; clear hSw; go_simp⟩) hHeld ?_
          simp only [Act.put, List.setIfInBounds_toArray, List.set_cons_zero, List.set_cons_succ]
          refine wpAnyH_take (i := 3) (oi := ⟨some 41, .fieldAddr 26 (.tmp 1) 4, _, _, _, none⟩) (v := .pointer (some ⟨w.heap.size, 27, none⟩)) rfl (by kernel_rfl) (by kernel_rfl) (by kernel_rfl) (fun _ _ _ h => h) (Or.inl ⟨by rfl, fun w _ => by go_simp⟩) hHeld ?_
          simp only [Act.put, List.setIfInBounds_toArray, List.set_cons_zero, List.set_cons_succ]
          refine wpAnyH_take (i := 4) (oi := ⟨some 42, .load 4 (.tmp 41), _, _, _, none⟩) (v := .bool x.wt) rfl (by kernel_rfl) (by kernel_rfl) (by kernel_rfl) (fun _ _ _ h => h) (Or.inl ⟨by rfl, fun w hSw => by have e1 := hSw.2.1; clear hSw; go_simp⟩) hHeld ?_
          simp only [Act.put, List.setIfInBounds_toArray, List.set_cons_zero, List.set_cons_succ]
          refine wpAnyH_take (i := 7) (oi := ⟨some 45, .fieldAddr 26 (.tmp 1) 5, _, _, _, none⟩) (v := .pointer (some ⟨w.heap.size, 28, none⟩)) rfl (by kernel_rfl) (by kernel_rfl) (by kernel_rfl) (fun _ _ _ h => h) (Or.inl ⟨by rfl, fun w _ => by go_simp⟩) hHeld ?_
          simp only [Act.put, List.setIfInBounds_toArray, List.set_cons_zero, List.set_cons_succ]
          refine wpAnyH_take (i := 8) (oi := ⟨some 46, .load 4 (.tmp 45), _, _, _, none⟩) (v := .bool x.hl) rfl (by kernel_rfl) (by kernel_rfl) (by kernel_rfl) (fun _ _ _ h => h) (Or.inl ⟨by rfl, fun w hSw => by have e1 := hSw.2.2; clear hSw; go_simp⟩) hHeld ?_
          simp only [Act.put, List.setIfInBounds_toArray, List.set_cons_zero, List.set_cons_succ]
          refine wpAnyH_ready (rs := [2]) (by kernel_rfl) (by simp) (AllReadyH.cons (o := ⟨some 40, .call { callee := .value (.func 33), args := #[.tmp 39, .const (.int .u32 1)], argTypes := #[4, 22] }, _, _, _, none⟩) rfl (fun K' hK => ?_) AllReadyH.nil)
          go_simp
          refine (HW1.out _).mono ?_
          rintro e v9 ⟨rfl, rfl⟩
          refine hK.out _ _ ⟨(b4.keep lw).cell (j := 26) (v := .bool x.u) rfl, (b4.keep lw).cell (j := 27) (v := .bool x.wt) rfl, (b4.keep lw).cell (j := 28) (v := .bool x.hl) rfl⟩ (fun hHeld => ?_)
          clear hK K'
          try simp only [Act.put, List.setIfInBounds_toArray, List.set_cons_zero, List.set_cons_succ]
          refine wpAnyH_ready (rs := [5]) (by kernel_rfl) (by simp) (AllReadyH.cons (o := ⟨some 43, .call { callee := .value (.func 33), args := #[.tmp 42, .const (.int .u32 2)], argTypes := #[4, 22] }, _, _, _, none⟩) rfl (fun K' hK => ?_) AllReadyH.nil)
          go_simp
          refine (HW2.out _).mono ?_
          rintro e v9 ⟨rfl, rfl⟩
          refine hK.out _ _ ⟨(b4.keep lw).cell (j := 26) (v := .bool x.u) rfl, (b4.keep lw).cell (j := 27) (v := .bool x.wt) rfl, (b4.keep lw).cell (j := 28) (v := .bool x.hl) rfl⟩ (fun hHeld => ?_)
          clear hK K'
          try simp only [Act.put, List.setIfInBounds_toArray, List.set_cons_zero, List.set_cons_succ]
          refine wpAnyH_take (i := 6) (oi := ⟨some 44, .binOp .or 22 (.tmp 40) (.tmp 43) 22, _, _, _, none⟩) (v := .int .u32 (b32 x.u 1 + b32 x.wt 2)) rfl (by kernel_rfl) (by kernel_rfl) (by kernel_rfl) (fun _ _ _ h => h) (Or.inl ⟨by rfl, fun w _ => by go_simp⟩) hHeld ?_
          simp only [Act.put, List.setIfInBounds_toArray, List.set_cons_zero, List.set_cons_succ]
          refine wpAnyH_ready (rs := [9]) (by kernel_rfl) (by simp) (AllReadyH.cons (o := ⟨some 47, .call { callee := .value (.func 33), args := #[.tmp 46, .const (.int .u32 4)], argTypes := #[4, 22] }, _, _, _, none⟩) rfl (fun K' hK => ?_) AllReadyH.nil)
          go_simp
          refine (HW4.out _).mono ?_
          rintro e v9 ⟨rfl, rfl⟩
          refine hK.out _ _ ⟨(b4.keep lw).cell (j := 26) (v := .bool x.u) rfl, (b4.keep lw).cell (j := 27) (v := .bool x.wt) rfl, (b4.keep lw).cell (j := 28) (v := .bool x.hl) rfl⟩ (fun hHeld => ?_)
          clear hK K'
          try simp only [Act.put, List.setIfInBounds_toArray, List.set_cons_zero, List.set_cons_succ]
          refine wpAnyH_take (i := 10) (oi := ⟨some 48, .binOp .or 22 (.tmp 44) (.tmp 47) 22, _, _, _, none⟩) (v := .int .u32 x.modes) rfl (by kernel_rfl) (by kernel_rfl) (by kernel_rfl) (fun _ _ _ h => h) (Or.inl ⟨by rfl, fun w _ => by go_simp⟩) hHeld ?_
          simp only [Act.put, List.setIfInBounds_toArray, List.set_cons_zero, List.set_cons_succ]
          refine wpAnyH_take (i := 11) (oi := ⟨some 8, .assign (.tmp 48), _, _, _, none⟩) (v := .int .u32 x.modes) rfl (by kernel_rfl) (by kernel_rfl) (by kernel_rfl) (fun _ _ _ h => h) (Or.inl ⟨by rfl, fun _ _ => rfl⟩) hHeld ?_
          simp only [Act.put, List.setIfInBounds_toArray, List.set_cons_zero, List.set_cons_succ]
          refine wpAnyH_done (by kernel_rfl) ?_ _
          clear hHeld
          obtain ⟨wd, hwd⟩ : ∃ wd, wd = World.drew wr := ⟨_, rfl⟩
          rw [← hwd] at o2 lw ⊢
          clear hwd
          have e29 := (b4.keep lw).cell (j := 29) (v := .int .i64 x.cn) rfl
          clear HW1 HW2 HW4 h1 h2
          go_wp2_with (first
            | (at_builtin; refine wpList_app _ rfl _ _ 60 rfl w0.heap.size 3 i0 (.int .i64 0) 1 8 Try.underlying60 hi hz0 hz1 hz2 rfl (by decide) _ _ _ rfl (o2.alloc _) (some ⟨_, 0, none⟩) 2 2 (N64 [x.modes, x.cn]) rfl (sl_new64 (Blk.new _ 3 (N64 [x.modes, x.cn]).toArray (N64 [x.modes, x.cn]) rfl)) (N64_one _) (by unfold maxLen; omega) (by omega) (by have := lw.size; simp; omega) ?_; intro v5 w5 ho5 hg5; replace lw := (lw.alloc lw.size (.cells (N64 [x.modes, x.cn]).toArray 3)).grown hg5 (by have := lw.size; simp; omega) (fun k hk => (o2.lt k hk).1); obtain ⟨A5, c5, rfl, _, _, hs5, _⟩ := own_form ho5)
            | (go_at_call 40; refine (made_as (HI.out _ _ _ hs5)).mono ?_; rintro e w6 ⟨A6, c6, rfl, g1, g2, _, s6, l6⟩))
          go_ret
          exact ⟨A6, _, c6, rfl, g1, g2, rfl, s6, Later.trans_ lz (Later.trans_ lw l6)⟩
end Go.Proofs.Ytkknobonpejgbaa
