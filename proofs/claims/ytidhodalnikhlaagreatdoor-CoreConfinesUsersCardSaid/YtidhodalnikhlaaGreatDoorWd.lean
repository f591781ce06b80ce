/-
  place OF a step: where an address leads, what is read for it, and what it sets.
-/
import Derived.Test.YtidhodalnikhlaaGreatDoorWc
namespace Go.Proofs.YtidhodalnikhlaaGreatDoor
open Go.RowKit Go.ChangeShapes Go.WideShapes Go.ChangeAt

def raL (l : List Int) : List (Int × Int × Bool) := l.map fun a => (a, 4, false)
def saL (l : List (Int × Int × Int)) : List (Int × Int × Bool) := l.map fun x => (x.1, x.2.1, true)
theorem raL_succ (l : List Int) (k : Nat) (h : k < l.length) : raL (l.take (k + 1)) = raL (l.take k) ++ [(l[k], 4, false)] := by unfold raL; rw [List.take_succ_eq_append_getElem h, List.map_append]; rfl
theorem saL_succ (l : List (Int × Int × Int)) (k : Nat) (h : k < l.length) : saL (l.take (k + 1)) = saL (l.take k) ++ [(l[k].1, l[k].2.1, true)] := by unfold saL; rw [List.take_succ_eq_append_getElem h, List.map_append]; rfl
theorem raL_len (l : List Int) : (raL l).length = l.length := by simp [raL]
theorem saL_len (l : List (Int × Int × Int)) : (saL l).length = l.length := by simp [saL]
/-- What a walk leaves to a step. -/
structure PI (w wx : World) (g : Nat) (xa xl : Int) (xs : List (Int × Int × Int)) (xr : List Int) (ns nr : Nat) (AS AR : Option Addr) (sc rc : Nat) : Prop where
  l : Later w wx
  bw : Blk wx g 159 [.int .i64 xa, .int .i64 xl, .slice AS ns sc, .slice AR nr rc]
  sS : Sl wx 3 AS ns (Ws xs)
  sR : Sl wx 1 AR nr (N64 xr)
  fS : ∀ ad, AS = some ad → w.heap.size ≤ ad.block
  fR : ∀ ad, AR = some ad → w.heap.size ≤ ad.block
  fg : w.heap.size ≤ g
theorem PI.st {base B : Nat} {w wx w' : World} {s s' : Sp} {A : Option Addr} {n c : Nat} {ws : List (Int × Int × Int)} {ac : List (Int × Int × Bool)} {b : Wm.Bs} {g : Nat} {xa xl : Int} {xs : List (Int × Int × Int)} {xr : List Int} {ns nr : Nat} {AS AR : Option Addr} {sc rc : Nat} (p : PI w wx g xa xl xs xr ns nr AS AR sc rc) (h : At base w B s A n c ws ac b) (k : St base B wx s w' s') :
    Blk w' g 159 [.int .i64 xa, .int .i64 xl, .slice AS ns sc, .slice AR nr rc] ∧ Sl w' 3 AS ns (Ws xs) ∧ Sl w' 1 AR nr (N64 xr) := by
  have hw : ∀ j, w.heap.size ≤ j → j < wx.heap.size → w'.heap[j]? = wx.heap[j]? := fun j h1 h2 => k.kp j h2 (fun e => by have := h.bx.lt; omega) (fun e => by have := (h.rw.lt _ e).2; omega) (fun e => by have := (h.ra.lt _ e).2; omega)
  have sl : ∀ {size n : Nat} {A : Option Addr} {xs : List Value}, Sl wx size A n xs → (∀ ad, A = some ad → w.heap.size ≤ ad.block) → Sl w' size A n xs := by
    intro size n A xs hs hf
    refine ⟨hs.1, fun hn => ?_⟩
    obtain ⟨ad, e, hl, hc⟩ := hs.2 hn
    refine ⟨ad, e, Nat.lt_of_lt_of_le hl k.lt.size, fun j u hu => ?_⟩
    have h1 := hc j u hu
    unfold World.cell? at h1 ⊢
    rw [addr_add_block] at h1 ⊢
    rw [hw _ (hf ad e) hl]
    exact h1
  exact ⟨(hw g p.fg p.bw.lt).trans p.bw, sl p.sS p.fS, sl p.sR p.fR⟩
theorem At.mem {base : Nat} {w : World} {B : Nat} {s : Sp} {A : Option Addr} {n c : Nat} {ws : List (Int × Int × Int)} {ac : List (Int × Int × Bool)} {b : Wm.Bs} (h : At base w B s A n c ws ac b) {A' : Option Addr} {c' : Nat} {b' : Wm.Bs} (hs : Sl w 128 A' n (U b')) (sep : ∀ ad, A' = some ad → ad.block ≠ B ∧ s.wv.ownBlock ≠ some ad.block ∧ s.av.ownBlock ≠ some ad.block) :
    At base (w.setCell ⟨B, 30, none⟩ (.slice A' n c')) B { s with m := .slice A' n c' } A' n c' ws ac b' ∧ St base B w s (w.setCell ⟨B, 30, none⟩ (.slice A' n c')) { s with m := .slice A' n c' } := by
  have o := Only.set w B 30 (.slice A' n c')
  have n1 := own_ne h.rw h.bx (by decide)
  have n2 := own_ne h.ra h.bx (by decide)
  refine ⟨⟨h.hB, h.bx.set 30 _, own_block h.rw fun g hg => o.2.2.2.2 g fun e => n1 (e ▸ hg), own_block h.ra fun g hg => o.2.2.2.2 g fun e => n2 (e ▸ hg), h.hn, rfl, hs.only_ne o fun ad e => (sep ad e).1, sep⟩, ⟨Below.only (Below.refl _ _) o h.hB, fun k _ h1 _ _ => o.2.2.2.2 k h1, fun g e => .inl e, fun g e => .inl e⟩⟩
theorem N64_at (l : List Int) (k : Nat) (h : k < l.length) : (N64 l)[k]? = some (.int .i64 l[k]) := by unfold N64; rw [List.getElem?_map, List.getElem?_eq_getElem h]; rfl
set_option maxRecDepth 100000 in
set_option maxHeartbeats 2000000 in
theorem place_odd {base : Nat} {w : World} {B : Nat} {s : Sp} {A : Option Addr} {n c : Nat} {ws : List (Int × Int × Int)} {ac : List (Int × Int × Bool)} {b : Wm.Bs} (h : At base w B s A n c ws ac b) (va acc sz : Int) (hv : 0 ≤ va ∧ va ≤ 4294967295) (hz : sz = 1 ∨ sz = 4) (ho : va % sz ≠ 0) : Calls Tryz.prog 116 #[.pointer (some ⟨B, 0, none⟩), .int .u32 va, .int .i64 acc, .int .i64 sz] w fun e w' => e = .panicked (Lv 3 va s.old.pc) ∧ w = w' := by
  obtain rfl : sz = 4 := by rcases hz with rfl | rfl; omega; rfl
  have HL := Lib.hid (leave_any h.bx 3 va (by omega))
  have x1 : IntKind.u32.wrap 4 = 4 := rfl
  have x2 : va.tmod 4 = va % 4 := Int.tmod_eq_emod_of_nonneg hv.1
  have x3 : (va % 4 != 0) = true := by simpa using ho
  clear h ho hv hz
  go_enter Tryz.func116, Tryz.ntmps116
  go_wp2_with (go_at_call 76; refine HL.out.mono ?_; rintro e w1 ⟨rfl, rfl⟩)
  exact ⟨rfl, rfl, rfl⟩
set_option maxRecDepth 100000 in
set_option maxHeartbeats 2000000 in
theorem place_bad {base : Nat} {w : World} {B : Nat} {s : Sp} {A : Option Addr} {n c : Nat} {ws : List (Int × Int × Int)} {ac : List (Int × Int × Bool)} {b : Wm.Bs} (h : At base w B s A n c ws ac b) (hl1 : ac.length ≤ 900) (hl2 : ws.length ≤ 900) (va acc sz : Int) (hv : 0 ≤ va ∧ va ≤ 4294967295) (hz : sz = 1 ∨ sz = 4) (ho : va % sz = 0) (xa xl : Int) (xs : List (Int × Int × Int)) (xr : List Int) (ns nr : Nat) (ca : Int) (KW : Hid (∀ w', Later w w' → Calls Tryz.prog 138 #[.agg #[.slice A n c], .int .u32 s.c.c0, .int .u32 va, .int .i64 acc, .bool s.c.u] w' fun e w'' => ∃ AS AR sc rc, e = .returned (.tuple #[.agg #[.int .i64 xa, .int .i64 xl, .slice AS ns sc, .slice AR nr rc], .int .i64 ca]) ∧ Sl w'' 3 AS ns (Ws xs) ∧ Sl w'' 1 AR nr (N64 xr) ∧ (∀ ad, AS = some ad → w'.heap.size ≤ ad.block) ∧ (∀ ad, AR = some ad → w'.heap.size ≤ ad.block) ∧ Later w' w'')) (hns : xs.length = ns) (hnr : xr.length = nr) (hns1 : ns ≤ 10) (hnr1 : nr ≤ 10) (hc0 : ca ≠ 0) (hc : 0 ≤ ca ∧ ca < 4294967296) : Calls Tryz.prog 116 #[.pointer (some ⟨B, 0, none⟩), .int .u32 va, .int .i64 acc, .int .i64 sz] w (fun e w' => e = .panicked (Lv ca va s.old.pc) ∧ ∃ v u, At base w' B { s with av := v, wv := u } A n c (ws ++ xs) (ac ++ (raL xr ++ saL xs)) b ∧ St base B w s w' { s with av := v, wv := u }) := by
  have H := Lib.hid h
  have HC := Lib.hid fun w' (hl : Later w w') => (show w'.cell? ⟨B, 30, none⟩ = some (.slice A n c) ∧ w'.cell? ⟨B, 17, none⟩ = some (.int .u32 s.c.c0) ∧ w'.cell? ⟨B, 26, none⟩ = some (.bool s.c.u) from ⟨(h.bx.keep hl).cell (j := 30) (by rw [← h.hm]; rfl), (h.bx.keep hl).cell (j := 17) rfl, (h.bx.keep hl).cell (j := 26) rfl⟩)
  have x1 : IntKind.u32.wrap sz = sz := by rw [IntKind.wrap_u32]; omega
  have x2 : va.tmod sz = va % sz := Int.tmod_eq_emod_of_nonneg hv.1
  have x3 : (va % sz != 0) = false := by simpa using ho
  clear h ho hv
  have x4 : (sz == 0) = false := by rcases hz with rfl | rfl <;> rfl
  have x5 : sz ≠ 0 := by omega
  go_enter Tryz.func116, Tryz.ntmps116
  go_upto_region 3 with (fail)
  go_cut [9, 10] (fun s9 s10 wx => ∃ (g : Nat) (AS AR : Option Addr) (sc rc : Nat), s9 = .pointer (some ⟨g, 0, none⟩) ∧ s10 = .int .i64 ca ∧ PI w wx g xa xl xs xr ns nr AS AR sc rc)
  case first =>
    have lq : Later w w.drew := Below.drew (later0 w)
    refine wp_region_held_drew (S := fun w' => w'.cell? ⟨B, 30, none⟩ = some (.slice A n c) ∧ w'.cell? ⟨B, 17, none⟩ = some (.int .u32 s.c.c0) ∧ w'.cell? ⟨B, 26, none⟩ = some (.bool s.c.u)) (by kernel_rfl) (HC.out _ lq) (fun hHeld => ?_)
    refine wpAnyH_take (i := 0) (oi := ⟨some 24, .move (.tmp 0), _, _, _, none⟩) (v := .pointer (some ⟨B, 0, none⟩)) rfl (by kernel_rfl) (by kernel_rfl) (by kernel_rfl) (fun _ _ _ h => h) (Or.inl ⟨by rfl, fun _ _ => rfl⟩) hHeld ?_
    simp only [Act.put, List.setIfInBounds_toArray, List.set_cons_zero, List.set_cons_succ]
    refine wpAnyH_take (i := 1) (oi := ⟨some 25, .nilCheck (.tmp 24), _, _, _, none⟩) (v := .pointer (some ⟨B, 0, none⟩)) rfl (by kernel_rfl) (by kernel_rfl) (by kernel_rfl) (fun _ _ _ h => h) (Or.inl ⟨by rfl, fun w _ => by go_simp⟩) hHeld ?_
    simp only [Act.put, List.setIfInBounds_toArray, List.set_cons_zero, List.set_cons_succ]
    refine wpAnyH_take (i := 2) (oi := ⟨some 26, .fieldAddr 86 (.tmp 25) 1, _, _, _, none⟩) (v := .pointer (some ⟨B, 30, none⟩)) rfl (by kernel_rfl) (by kernel_rfl) (by kernel_rfl) (fun _ _ _ h => h) (Or.inl ⟨by rfl, fun w _ => by go_simp⟩) hHeld ?_
    simp only [Act.put, List.setIfInBounds_toArray, List.set_cons_zero, List.set_cons_succ]
    refine wpAnyH_take (i := 3) (oi := ⟨some 27, .load 29 (.tmp 26), _, _, _, none⟩) (v := .agg #[.slice A n c]) rfl (by kernel_rfl) (by kernel_rfl) (by kernel_rfl) (fun _ _ _ h => h) (Or.inl ⟨by rfl, fun w hSw => by have e1 := hSw.1; clear hSw; go_simp⟩) hHeld ?_
    simp only [Act.put, List.setIfInBounds_toArray, List.set_cons_zero, List.set_cons_succ]
    refine wpAnyH_take (i := 4) (oi := ⟨some 28, .move (.tmp 0), _, _, _, none⟩) (v := .pointer (some ⟨B, 0, none⟩)) rfl (by kernel_rfl) (by kernel_rfl) (by kernel_rfl) (fun _ _ _ h => h) (Or.inl ⟨by rfl, fun _ _ => rfl⟩) hHeld ?_
    simp only [Act.put, List.setIfInBounds_toArray, List.set_cons_zero, List.set_cons_succ]
    refine wpAnyH_take (i := 5) (oi := ⟨some 29, .nilCheck (.tmp 28), _, _, _, none⟩) (v := .pointer (some ⟨B, 0, none⟩)) rfl (by kernel_rfl) (by kernel_rfl) (by kernel_rfl) (fun _ _ _ h => h) (Or.inl ⟨by rfl, fun w _ => by go_simp⟩) hHeld ?_
    simp only [Act.put, List.setIfInBounds_toArray, List.set_cons_zero, List.set_cons_succ]
    refine wpAnyH_take (i := 6) (oi := ⟨some 30, .fieldAddr 86 (.tmp 29) 0, _, _, _, none⟩) (v := .pointer (some ⟨B, 0, none⟩)) rfl (by kernel_rfl) (by kernel_rfl) (by kernel_rfl) (fun _ _ _ h => h) (Or.inl ⟨by rfl, fun w _ => by go_simp⟩) hHeld ?_
    simp only [Act.put, List.setIfInBounds_toArray, List.set_cons_zero, List.set_cons_succ]
    refine wpAnyH_take (i := 7) (oi := ⟨some 31, .fieldAddr 26 (.tmp 30) 2, _, _, _, none⟩) (v := .pointer (some ⟨B, 17, none⟩)) rfl (by kernel_rfl) (by kernel_rfl) (by kernel_rfl) (fun _ _ _ h => h) (Or.inl ⟨by rfl, fun w _ => by go_simp⟩) hHeld ?_
    simp only [Act.put, List.setIfInBounds_toArray, List.set_cons_zero, List.set_cons_succ]
    refine wpAnyH_take (i := 8) (oi := ⟨some 32, .indexAddr 24 (.tmp 31) (.const (.int .i64 0)), _, _, _, none⟩) (v := .pointer (some ⟨B, 17, none⟩)) rfl (by kernel_rfl) (by kernel_rfl) (by kernel_rfl) (fun _ _ _ h => h) (Or.inl ⟨by rfl, fun w _ => by go_simp⟩) hHeld ?_
    simp only [Act.put, List.setIfInBounds_toArray, List.set_cons_zero, List.set_cons_succ]
    refine wpAnyH_take (i := 9) (oi := ⟨some 33, .load 22 (.tmp 32), _, _, _, none⟩) (v := .int .u32 s.c.c0) rfl (by kernel_rfl) (by kernel_rfl) (by kernel_rfl) (fun _ _ _ h => h) (Or.inl ⟨by rfl, fun w hSw => by have e1 := hSw.2.1; clear hSw; go_simp⟩) hHeld ?_
    simp only [Act.put, List.setIfInBounds_toArray, List.set_cons_zero, List.set_cons_succ]
    refine wpAnyH_take (i := 10) (oi := ⟨some 34, .move (.tmp 1), _, _, _, none⟩) (v := .int .u32 va) rfl (by kernel_rfl) (by kernel_rfl) (by kernel_rfl) (fun _ _ _ h => h) (Or.inl ⟨by rfl, fun _ _ => rfl⟩) hHeld ?_
    simp only [Act.put, List.setIfInBounds_toArray, List.set_cons_zero, List.set_cons_succ]
    refine wpAnyH_take (i := 11) (oi := ⟨some 35, .move (.tmp 2), _, _, _, none⟩) (v := .int .i64 acc) rfl (by kernel_rfl) (by kernel_rfl) (by kernel_rfl) (fun _ _ _ h => h) (Or.inl ⟨by rfl, fun _ _ => rfl⟩) hHeld ?_
    simp only [Act.put, List.setIfInBounds_toArray, List.set_cons_zero, List.set_cons_succ]
    refine wpAnyH_take (i := 12) (oi := ⟨some 36, .move (.tmp 0), _, _, _, none⟩) (v := .pointer (some ⟨B, 0, none⟩)) rfl (by kernel_rfl) (by kernel_rfl) (by kernel_rfl) (fun _ _ _ h => h) (Or.inl ⟨by rfl, fun _ _ => rfl⟩) hHeld ?_
    simp only [Act.put, List.setIfInBounds_toArray, List.set_cons_zero, List.set_cons_succ]
    refine wpAnyH_take (i := 13) (oi := ⟨some 37, .nilCheck (.tmp 36), _, _, _, none⟩) (v := .pointer (some ⟨B, 0, none⟩)) rfl (by kernel_rfl) (by kernel_rfl) (by kernel_rfl) (fun _ _ _ h => h) (Or.inl ⟨by rfl, fun w _ => by go_simp⟩) hHeld ?_
    simp only [Act.put, List.setIfInBounds_toArray, List.set_cons_zero, List.set_cons_succ]
    refine wpAnyH_take (i := 14) (oi := ⟨some 38, .fieldAddr 86 (.tmp 37) 0, _, _, _, none⟩) (v := .pointer (some ⟨B, 0, none⟩)) rfl (by kernel_rfl) (by kernel_rfl) (by kernel_rfl) (fun _ _ _ h => h) (Or.inl ⟨by rfl, fun w _ => by go_simp⟩) hHeld ?_
    simp only [Act.put, List.setIfInBounds_toArray, List.set_cons_zero, List.set_cons_succ]
    refine wpAnyH_take (i := 15) (oi := ⟨some 39, .fieldAddr 26 (.tmp 38) 3, _, _, _, none⟩) (v := .pointer (some ⟨B, 26, none⟩)) rfl (by kernel_rfl) (by kernel_rfl) (by kernel_rfl) (fun _ _ _ h => h) (Or.inl ⟨by rfl, fun w _ => by go_simp⟩) hHeld ?_
    simp only [Act.put, List.setIfInBounds_toArray, List.set_cons_zero, List.set_cons_succ]
    refine wpAnyH_take (i := 16) (oi := ⟨some 40, .load 4 (.tmp 39), _, _, _, none⟩) (v := .bool s.c.u) rfl (by kernel_rfl) (by kernel_rfl) (by kernel_rfl) (fun _ _ _ h => h) (Or.inl ⟨by rfl, fun w hSw => by have e1 := hSw.2.2; clear hSw; go_simp⟩) hHeld ?_
    simp only [Act.put, List.setIfInBounds_toArray, List.set_cons_zero, List.set_cons_succ]
    refine wpAnyH_ready (rs := [17, 21]) (by kernel_rfl) (by simp) (AllReadyH.cons (o := ⟨some 41, .call { callee := .value (.func 138), args := #[.tmp 27, .tmp 33, .tmp 34, .tmp 35, .tmp 40], argTypes := #[29, 22, 22, 3, 4] }, _, _, _, none⟩) rfl (fun K' hK => ?_) (AllReadyH.cons (o := ⟨some 9, .alloc 159, _, _, _, none⟩) rfl (fun K' hK => ?_) AllReadyH.nil))
    · go_simp
      refine (KW.out _ lq).mono ?_
      have hzq := lq.size
      rintro e w1 ⟨AS, AR, sc, rc, rfl, hS, hR, fS0, fR0, l1⟩
      have fS := fun ad e => Nat.le_trans hzq (fS0 ad e)
      have fR := fun ad e => Nat.le_trans hzq (fR0 ad e)
      replace lq := Later.trans_ lq l1
      refine hK.out _ _ (HC.out _ lq) (fun hHeld => ?_)
      clear hK K'
      try simp only [Act.put, List.setIfInBounds_toArray, List.set_cons_zero, List.set_cons_succ]
      refine wpAnyH_take (i := 18) (oi := ⟨some 23, .move (.tmp 41), _, _, _, none⟩) (v := .tuple #[.agg #[.int .i64 xa, .int .i64 xl, .slice AS ns sc, .slice AR nr rc], .int .i64 ca]) rfl (by kernel_rfl) (by kernel_rfl) (by kernel_rfl) (fun _ _ _ h => h) (Or.inl ⟨by rfl, fun _ _ => rfl⟩) hHeld ?_
      simp only [Act.put, List.setIfInBounds_toArray, List.set_cons_zero, List.set_cons_succ]
      refine wpAnyH_take (i := 19) (oi := ⟨some 42, .extract (.tmp 23) 0, _, _, _, none⟩) (v := .agg #[.int .i64 xa, .int .i64 xl, .slice AS ns sc, .slice AR nr rc]) rfl (by kernel_rfl) (by kernel_rfl) (by kernel_rfl) (fun _ _ _ h => h) (Or.inl ⟨by rfl, fun w _ => by go_simp⟩) hHeld ?_
      simp only [Act.put, List.setIfInBounds_toArray, List.set_cons_zero, List.set_cons_succ]
      refine wpAnyH_take (i := 20) (oi := ⟨some 43, .extract (.tmp 23) 1, _, _, _, none⟩) (v := .int .i64 ca) rfl (by kernel_rfl) (by kernel_rfl) (by kernel_rfl) (fun _ _ _ h => h) (Or.inl ⟨by rfl, fun w _ => by go_simp⟩) hHeld ?_
      simp only [Act.put, List.setIfInBounds_toArray, List.set_cons_zero, List.set_cons_succ]
      refine wpAnyH_ready (rs := [21]) (by kernel_rfl) (by simp) (AllReadyH.cons (o := ⟨some 9, .alloc 159, _, _, _, none⟩) rfl (fun K' hK => ?_) AllReadyH.nil)
      go_simp
      have b9 := (Blk.new w1 159 #[.int .i64 0, .int .i64 0, .slice none 0 0, .slice none 0 0] [.int .i64 0, .int .i64 0, .slice none 0 0, .slice none 0 0] rfl)
      have g9 := lq.size
      replace lq := lq.alloc lq.size (.cells #[.int .i64 0, .int .i64 0, .slice none 0 0, .slice none 0 0] 159)
      refine hK.out _ _ (HC.out _ lq) (fun hHeld => ?_)
      clear hK K'
      try simp only [Act.put, List.setIfInBounds_toArray, List.set_cons_zero, List.set_cons_succ]
      refine wpAnyH_ready (rs := [22]) (by kernel_rfl) (by simp) (AllReadyH.cons (o := ⟨none, .store 159 (.tmp 9) (.tmp 42), _, _, _, none⟩) rfl (fun K' hK => ?_) AllReadyH.nil)
      refine wp_store_abs 159 _ _ rfl _ 159 [.int .i64 0, .int .i64 0, .slice none 0 0, .slice none 0 0] [.int .i64 xa, .int .i64 xl, .slice AS ns sc, .slice AR nr rc] rfl rfl b9 (walk_sz _ _ _ _) rfl (img_one _ _ _ _ _ _ _ _) ?_
      intro w3 b9' o9
      have lx : Later w1 w3 := Below.only (later1 w1 (.cells #[.int .i64 0, .int .i64 0, .slice none 0 0, .slice none 0 0] 159)) o9 (Nat.le_refl _)
      have hpi : PI w w3 w1.heap.size xa xl xs xr ns nr AS AR sc rc := ⟨Below.only lq o9 g9, b9', hS.keep lx, hR.keep lx, fS, fR, g9⟩
      replace lq := Below.only lq o9 g9
      refine hK.out _ _ (HC.out _ lq) (fun hHeld => ?_)
      clear hK K'
      try simp only [Act.put]
      refine wpAnyH_take (i := 23) (oi := ⟨some 10, .assign (.tmp 43), _, _, _, none⟩) (v := .int .i64 ca) rfl (by kernel_rfl) (by kernel_rfl) (by kernel_rfl) (fun _ _ _ h => h) (Or.inl ⟨by rfl, fun _ _ => rfl⟩) hHeld ?_
      simp only [Act.put, List.setIfInBounds_toArray, List.set_cons_zero, List.set_cons_succ]
      refine wpAnyH_done (by kernel_rfl) ?_ _
      clear hHeld
      go_wp2
      go_meet
      exact ⟨_, AS, AR, sc, rc, rfl, rfl, hpi⟩
    · go_simp
      have b9 := (Blk.new w 159 #[.int .i64 0, .int .i64 0, .slice none 0 0, .slice none 0 0] [.int .i64 0, .int .i64 0, .slice none 0 0, .slice none 0 0] rfl).drew
      have g9 := lq.size
      replace lq : Later w (w.alloc (.cells #[.int .i64 0, .int .i64 0, .slice none 0 0, .slice none 0 0] 159)).drew := Below.drew (later1 w (.cells #[.int .i64 0, .int .i64 0, .slice none 0 0, .slice none 0 0] 159))
      have hzn : w.heap.size < (w.alloc (.cells #[.int .i64 0, .int .i64 0, .slice none 0 0, .slice none 0 0] 159)).drew.heap.size := by show w.heap.size < (w.alloc (.cells #[.int .i64 0, .int .i64 0, .slice none 0 0, .slice none 0 0] 159)).heap.size; rw [World.size_alloc]; omega
      refine hK.out _ _ (HC.out _ lq) (fun hHeld => ?_)
      clear hK K'
      try simp only [Act.put, List.setIfInBounds_toArray, List.set_cons_zero, List.set_cons_succ]
      refine wpAnyH_ready (rs := [17]) (by kernel_rfl) (by simp) (AllReadyH.cons (o := ⟨some 41, .call { callee := .value (.func 138), args := #[.tmp 27, .tmp 33, .tmp 34, .tmp 35, .tmp 40], argTypes := #[29, 22, 22, 3, 4] }, _, _, _, none⟩) rfl (fun K' hK => ?_) AllReadyH.nil)
      go_simp
      refine (KW.out _ lq).mono ?_
      have hzq := lq.size
      rintro e w1 ⟨AS, AR, sc, rc, rfl, hS, hR, fS0, fR0, l1⟩
      have fS := fun ad e => Nat.le_trans hzq (fS0 ad e)
      have fR := fun ad e => Nat.le_trans hzq (fR0 ad e)
      replace lq := Later.trans_ lq l1
      replace b9 := b9.keep l1
      refine hK.out _ _ (HC.out _ lq) (fun hHeld => ?_)
      clear hK K'
      try simp only [Act.put, List.setIfInBounds_toArray, List.set_cons_zero, List.set_cons_succ]
      refine wpAnyH_take (i := 18) (oi := ⟨some 23, .move (.tmp 41), _, _, _, none⟩) (v := .tuple #[.agg #[.int .i64 xa, .int .i64 xl, .slice AS ns sc, .slice AR nr rc], .int .i64 ca]) rfl (by kernel_rfl) (by kernel_rfl) (by kernel_rfl) (fun _ _ _ h => h) (Or.inl ⟨by rfl, fun _ _ => rfl⟩) hHeld ?_
      simp only [Act.put, List.setIfInBounds_toArray, List.set_cons_zero, List.set_cons_succ]
      refine wpAnyH_take (i := 19) (oi := ⟨some 42, .extract (.tmp 23) 0, _, _, _, none⟩) (v := .agg #[.int .i64 xa, .int .i64 xl, .slice AS ns sc, .slice AR nr rc]) rfl (by kernel_rfl) (by kernel_rfl) (by kernel_rfl) (fun _ _ _ h => h) (Or.inl ⟨by rfl, fun w _ => by go_simp⟩) hHeld ?_
      simp only [Act.put, List.setIfInBounds_toArray, List.set_cons_zero, List.set_cons_succ]
      refine wpAnyH_take (i := 20) (oi := ⟨some 43, .extract (.tmp 23) 1, _, _, _, none⟩) (v := .int .i64 ca) rfl (by kernel_rfl) (by kernel_rfl) (by kernel_rfl) (fun _ _ _ h => h) (Or.inl ⟨by rfl, fun w _ => by go_simp⟩) hHeld ?_
      simp only [Act.put, List.setIfInBounds_toArray, List.set_cons_zero, List.set_cons_succ]
      refine wpAnyH_ready (rs := [22]) (by kernel_rfl) (by simp) (AllReadyH.cons (o := ⟨none, .store 159 (.tmp 9) (.tmp 42), _, _, _, none⟩) rfl (fun K' hK => ?_) AllReadyH.nil)
      refine wp_store_abs 159 _ _ rfl _ 159 [.int .i64 0, .int .i64 0, .slice none 0 0, .slice none 0 0] [.int .i64 xa, .int .i64 xl, .slice AS ns sc, .slice AR nr rc] rfl rfl b9 (walk_sz _ _ _ _) rfl (img_one _ _ _ _ _ _ _ _) ?_
      intro w3 b9' o9
      have hpi : PI w w3 w.heap.size xa xl xs xr ns nr AS AR sc rc := ⟨Below.only lq o9 (Nat.le_refl _), b9', hS.only_ne o9 (fun ad e => by have := fS0 ad e; omega), hR.only_ne o9 (fun ad e => by have := fR0 ad e; omega), fS, fR, Nat.le_refl _⟩
      replace lq := Below.only lq o9 (Nat.le_refl _)
      refine hK.out _ _ (HC.out _ lq) (fun hHeld => ?_)
      clear hK K'
      try simp only [Act.put]
      refine wpAnyH_take (i := 23) (oi := ⟨some 10, .assign (.tmp 43), _, _, _, none⟩) (v := .int .i64 ca) rfl (by kernel_rfl) (by kernel_rfl) (by kernel_rfl) (fun _ _ _ h => h) (Or.inl ⟨by rfl, fun _ _ => rfl⟩) hHeld ?_
      simp only [Act.put, List.setIfInBounds_toArray, List.set_cons_zero, List.set_cons_succ]
      refine wpAnyH_done (by kernel_rfl) ?_ _
      clear hHeld
      go_wp2
      go_meet
      exact ⟨_, AS, AR, sc, rc, rfl, rfl, hpi⟩
  case rest =>
    obtain ⟨g, AS, AR, sc, rc, rfl, rfl, hp⟩ := hcut
    obtain ⟨wx, hwx⟩ : ∃ x, x = wc := ⟨_, rfl⟩
    have HPI := Lib.hid fun w' s' (k : St base B wx s w' s') => hp.st H.out (hwx ▸ k)
    have hx := H.out.later hp.l
    have sx := St.later (B := B) s hx.lt (later0 wc)
    rw [← hwx] at hx sx hp ⊢
    have hp1 := hp.l
    have e3 := hp.bw.cell (j := 3) (v := .slice AR nr rc) rfl
    have SW := Lib.hid (St.later (B := B) s H.out.lt hp1)
    clear hp hwx wc
    go_wp2
    go_loopw [47] (fun i wr => ∃ (k : Nat) (v : Value), k ≤ nr ∧ i = .int .i64 (k : Int) ∧ At base wr B { s with av := v } A n c ws (ac ++ raL (xr.take k)) b ∧ St base B wx s wr { s with av := v }) (fun i _ => nr - (intOf i).toNat)
    case atStart => exact ⟨0, s.av, by omega, rfl, by rw [List.take_zero, show raL [] = [] from rfl, List.append_nil]; exact hx, sx⟩
    case round =>
      clear hx sx e3
      rename_i wr
      obtain ⟨k, v, hk, rfl, hA, hS⟩ := hrel
      obtain ⟨p1, p2, p3⟩ := HPI.out _ _ hS
      by_cases hlt : k < nr
      · have kl : (k : Int) < (nr : Int) := by omega
        have hkl : k < xr.length := by omega
        obtain ⟨ad, u, rfl, _, hu, hc⟩ := p3.at1 hlt
        rw [N64_at xr k hkl] at hu
        have HSU := Lib.hid (raL_succ xr k hkl)
        obtain ⟨a, ha⟩ : ∃ a, a = xr[k] := ⟨_, rfl⟩
        rw [← ha] at hu HSU
        have hu2 : u = .int .i64 a := (Option.some.inj hu).symm
        rw [hu2] at hc
        have HT := Lib.hid (touch_any hA (by rw [List.length_append, raL_len, List.length_take]; omega) a 4 false)
        clear hu hu2 ha p1 p2 p3 hA hk
        go_wp2_with (go_at_call 139; refine HT.out.mono ?_; rintro e w5 ⟨rfl, v2, hA, hS2⟩)
        go_roundw
        case rel => exact ⟨k + 1, v2, by omega, by go_num, by rw [HSU.out, ← List.append_assoc]; exact hA, hS.trans hS2⟩
        case measure => simp [intOf]; omega
      · obtain rfl : k = nr := by omega
        rw [List.take_of_length_le (Nat.le_of_eq hnr)] at hA
        have e2 := p1.cell (j := 2) (v := .slice AS ns sc) rfl
        clear p1 p2 p3
        have ht0 : raL xr = raL xr := rfl
        go_wp2
        go_loopw [58] (fun i wr => ∃ (k : Nat) (v u : Value), k ≤ ns ∧ i = .int .i64 (k : Int) ∧ At base wr B { s with av := v, wv := u } A n c (ws ++ xs.take k) (ac ++ raL xr ++ saL (xs.take k)) b ∧ St base B wx s wr { s with av := v, wv := u }) (fun i _ => ns - (intOf i).toNat)
        case atStart => exact ⟨0, v, s.wv, by omega, rfl, by rw [List.take_zero, show saL [] = [] from rfl, List.append_nil, List.append_nil]; exact hA, hS⟩
        case round =>
          clear hA hS e2 ht0
          obtain ⟨k, v, u, hk2, rfl, hA, hS⟩ := hrel
          obtain ⟨p1, p2, p3⟩ := HPI.out _ _ hS
          by_cases hlt2 : k < ns
          · have kl : (k : Int) < (ns : Int) := by omega
            have hkl : k < xs.length := by omega
            obtain ⟨ad, rfl⟩ := p2.addr (by omega)
            have HCW := Lib.hid (p2.write hkl hns)
            have HSU := Lib.hid (saL_succ xs k hkl)
            have HTS := Lib.hid (List.take_succ_eq_append_getElem hkl)
            obtain ⟨y, hy⟩ : ∃ y, y = xs[k] := ⟨_, rfl⟩
            rw [← hy] at HCW HSU HTS
            obtain ⟨p, z, q⟩ := y
            have HT := Lib.hid fun O => sstore_any (hA.later (later1 _ O)) (by rw [List.length_append, List.length_append, raL_len, saL_len, List.length_take]; omega) (by rw [List.length_append, List.length_take]; omega) p z q
            have HS1 := Lib.hid fun O => St.later (B := B) { s with av := v, wv := u } hA.lt (later1 _ O)
            clear hy p1 p2 p3 hA hk2 hlt hk
            go_wp2_with (first
              | ((with_reducible refine wpList_load_addr (o := ⟨some 61, .load 64 (.tmp 60), _, _, _, none⟩) rfl _ _ rfl (ad.add (k * 3)) [.int .i64 p, .int .i64 z, .int .u32 q] _ ?_ HCW.out Tryz.underlying64 rfl (w_sz _ _ _) ?_); rfl)
              | (go_at_call 140; refine (HT.out _).mono ?_; rintro e w5 ⟨rfl, v2, u2, hA, hS2⟩))
            go_roundw
            case rel => exact ⟨k + 1, v2, u2, by omega, by go_num, by rw [HSU.out, HTS.out, ← List.append_assoc, ← List.append_assoc]; exact hA, (hS.trans (HS1.out _)).trans hS2⟩
            case measure => simp [intOf]; omega
          · obtain rfl : ns = k := by omega
            rw [List.take_of_length_le (Nat.le_of_eq hns), List.append_assoc] at hA
            replace hS := SW.out.trans hS
            clear hlt hk
            have e1 : (ca != 0) = true := by simpa using hc0
            have HL := Lib.hid (leave_any hA.bx ca va (by omega))
            go_wp2_with (go_at_call 76; refine HL.out.mono ?_; rintro e w7 ⟨rfl, rfl⟩)
            exact ⟨rfl, rfl, v, u, hA, hS⟩
set_option maxRecDepth 100000 in
set_option maxHeartbeats 2000000 in
theorem place_ok1 {base : Nat} {w : World} {B : Nat} {s : Sp} {A : Option Addr} {n c : Nat} {ws : List (Int × Int × Int)} {ac : List (Int × Int × Bool)} {b : Wm.Bs} (h : At base w B s A n c ws ac b) (hl1 : ac.length ≤ 900) (hl2 : ws.length ≤ 900) (va acc sz : Int) (hv : 0 ≤ va ∧ va ≤ 4294967295) (hz : sz = 1 ∨ sz = 4) (ho : va % sz = 0) (xa xl : Int) (xs : List (Int × Int × Int)) (xr : List Int) (ns nr : Nat) (KW : Hid (∀ w', Later w w' → Calls Tryz.prog 138 #[.agg #[.slice A n c], .int .u32 s.c.c0, .int .u32 va, .int .i64 acc, .bool s.c.u] w' fun e w'' => ∃ AS AR sc rc, e = .returned (.tuple #[.agg #[.int .i64 xa, .int .i64 xl, .slice AS ns sc, .slice AR nr rc], .int .i64 0]) ∧ Sl w'' 3 AS ns (Ws xs) ∧ Sl w'' 1 AR nr (N64 xr) ∧ (∀ ad, AS = some ad → w'.heap.size ≤ ad.block) ∧ (∀ ad, AR = some ad → w'.heap.size ≤ ad.block) ∧ Later w' w'')) (hns : xs.length = ns) (hnr : xr.length = nr) (hns1 : ns ≤ 10) (hnr1 : nr ≤ 10) (hb : Wm.isBs b) (h1 : 1 ≤ n ∧ n ≤ 64) (hW : ∀ x ∈ xs, isW x) (hns0 : 0 < ns) : Calls Tryz.prog 116 #[.pointer (some ⟨B, 0, none⟩), .int .u32 va, .int .i64 acc, .int .i64 sz] w (fun e w' => e = .returned (.int .i64 xa) ∧ ∃ v u A' c', At base w' B { s with av := v, wv := u, m := .slice A' n c' } A' n c' (ws ++ xs) (ac ++ (raL xr ++ saL xs)) ((Mm.ap b xs).getD b) ∧ St base B w s w' { s with av := v, wv := u, m := .slice A' n c' }) := by
  have H := Lib.hid h
  have HC := Lib.hid fun w' (hl : Later w w') => (show w'.cell? ⟨B, 30, none⟩ = some (.slice A n c) ∧ w'.cell? ⟨B, 17, none⟩ = some (.int .u32 s.c.c0) ∧ w'.cell? ⟨B, 26, none⟩ = some (.bool s.c.u) from ⟨(h.bx.keep hl).cell (j := 30) (by rw [← h.hm]; rfl), (h.bx.keep hl).cell (j := 17) rfl, (h.bx.keep hl).cell (j := 26) rfl⟩)
  have x1 : IntKind.u32.wrap sz = sz := by rw [IntKind.wrap_u32]; omega
  have x2 : va.tmod sz = va % sz := Int.tmod_eq_emod_of_nonneg hv.1
  have x3 : (va % sz != 0) = false := by simpa using ho
  clear h ho hv
  have x4 : (sz == 0) = false := by rcases hz with rfl | rfl <;> rfl
  have x5 : sz ≠ 0 := by omega
  go_enter Tryz.func116, Tryz.ntmps116
  go_upto_region 3 with (fail)
  go_cut [9, 10] (fun s9 s10 wx => ∃ (g : Nat) (AS AR : Option Addr) (sc rc : Nat), s9 = .pointer (some ⟨g, 0, none⟩) ∧ s10 = .int .i64 0 ∧ PI w wx g xa xl xs xr ns nr AS AR sc rc)
  case first =>
    have lq : Later w w.drew := Below.drew (later0 w)
    refine wp_region_held_drew (S := fun w' => w'.cell? ⟨B, 30, none⟩ = some (.slice A n c) ∧ w'.cell? ⟨B, 17, none⟩ = some (.int .u32 s.c.c0) ∧ w'.cell? ⟨B, 26, none⟩ = some (.bool s.c.u)) (by kernel_rfl) (HC.out _ lq) (fun hHeld => ?_)
    refine wpAnyH_take (i := 0) (oi := ⟨some 24, .move (.tmp 0), _, _, _, none⟩) (v := .pointer (some ⟨B, 0, none⟩)) rfl (by kernel_rfl) (by kernel_rfl) (by kernel_rfl) (fun _ _ _ h => h) (Or.inl ⟨by rfl, fun _ _ => rfl⟩) hHeld ?_
    simp only [Act.put, List.setIfInBounds_toArray, List.set_cons_zero, List.set_cons_succ]
    refine wpAnyH_take (i := 1) (oi := ⟨some 25, .nilCheck (.tmp 24), _, _, _, none⟩) (v := .pointer (some ⟨B, 0, none⟩)) rfl (by kernel_rfl) (by kernel_rfl) (by kernel_rfl) (fun _ _ _ h => h) (Or.inl ⟨by rfl, fun w _ => by go_simp⟩) hHeld ?_
    simp only [Act.put, List.setIfInBounds_toArray, List.set_cons_zero, List.set_cons_succ]
    refine wpAnyH_take (i := 2) (oi := ⟨some 26, .fieldAddr 86 (.tmp 25) 1, _, _, _, none⟩) (v := .pointer (some ⟨B, 30, none⟩)) rfl (by kernel_rfl) (by kernel_rfl) (by kernel_rfl) (fun _ _ _ h => h) (Or.inl ⟨by rfl, fun w _ => by go_simp⟩) hHeld ?_
    simp only [Act.put, List.setIfInBounds_toArray, List.set_cons_zero, List.set_cons_succ]
    refine wpAnyH_take (i := 3) (oi := ⟨some 27, .load 29 (.tmp 26), _, _, _, none⟩) (v := .agg #[.slice A n c]) rfl (by kernel_rfl) (by kernel_rfl) (by kernel_rfl) (fun _ _ _ h => h) (Or.inl ⟨by rfl, fun w hSw => by have e1 := hSw.1; clear hSw; go_simp⟩) hHeld ?_
    simp only [Act.put, List.setIfInBounds_toArray, List.set_cons_zero, List.set_cons_succ]
    refine wpAnyH_take (i := 4) (oi := ⟨some 28, .move (.tmp 0), _, _, _, none⟩) (v := .pointer (some ⟨B, 0, none⟩)) rfl (by kernel_rfl) (by kernel_rfl) (by kernel_rfl) (fun _ _ _ h => h) (Or.inl ⟨by rfl, fun _ _ => rfl⟩) hHeld ?_
    simp only [Act.put, List.setIfInBounds_toArray, List.set_cons_zero, List.set_cons_succ]
    refine wpAnyH_take (i := 5) (oi := ⟨some 29, .nilCheck (.tmp 28), _, _, _, none⟩) (v := .pointer (some ⟨B, 0, none⟩)) rfl (by kernel_rfl) (by kernel_rfl) (by kernel_rfl) (fun _ _ _ h => h) (Or.inl ⟨by rfl, fun w _ => by go_simp⟩) hHeld ?_
    simp only [Act.put, List.setIfInBounds_toArray, List.set_cons_zero, List.set_cons_succ]
    refine wpAnyH_take (i := 6) (oi := ⟨some 30, .fieldAddr 86 (.tmp 29) 0, _, _, _, none⟩) (v := .pointer (some ⟨B, 0, none⟩)) rfl (by kernel_rfl) (by kernel_rfl) (by kernel_rfl) (fun _ _ _ h => h) (Or.inl ⟨by rfl, fun w _ => by go_simp⟩) hHeld ?_
    simp only [Act.put, List.setIfInBounds_toArray, List.set_cons_zero, List.set_cons_succ]
    refine wpAnyH_take (i := 7) (oi := ⟨some 31, .fieldAddr 26 (.tmp 30) 2, _, _, _, none⟩) (v := .pointer (some ⟨B, 17, none⟩)) rfl (by kernel_rfl) (by kernel_rfl) (by kernel_rfl) (fun _ _ _ h => h) (Or.inl ⟨by rfl, fun w _ => by go_simp⟩) hHeld ?_
    simp only [Act.put, List.setIfInBounds_toArray, List.set_cons_zero, List.set_cons_succ]
    refine wpAnyH_take (i := 8) (oi := ⟨some 32, .indexAddr 24 (.tmp 31) (.const (.int .i64 0)), _, _, _, none⟩) (v := .pointer (some ⟨B, 17, none⟩)) rfl (by kernel_rfl) (by kernel_rfl) (by kernel_rfl) (fun _ _ _ h => h) (Or.inl ⟨by rfl, fun w _ => by go_simp⟩) hHeld ?_
    simp only [Act.put, List.setIfInBounds_toArray, List.set_cons_zero, List.set_cons_succ]
    refine wpAnyH_take (i := 9) (oi := ⟨some 33, .load 22 (.tmp 32), _, _, _, none⟩) (v := .int .u32 s.c.c0) rfl (by kernel_rfl) (by kernel_rfl) (by kernel_rfl) (fun _ _ _ h => h) (Or.inl ⟨by rfl, fun w hSw => by have e1 := hSw.2.1; clear hSw; go_simp⟩) hHeld ?_
    simp only [Act.put, List.setIfInBounds_toArray, List.set_cons_zero, List.set_cons_succ]
    refine wpAnyH_take (i := 10) (oi := ⟨some 34, .move (.tmp 1), _, _, _, none⟩) (v := .int .u32 va) rfl (by kernel_rfl) (by kernel_rfl) (by kernel_rfl) (fun _ _ _ h => h) (Or.inl ⟨by rfl, fun _ _ => rfl⟩) hHeld ?_
    simp only [Act.put, List.setIfInBounds_toArray, List.set_cons_zero, List.set_cons_succ]
    refine wpAnyH_take (i := 11) (oi := ⟨some 35, .move (.tmp 2), _, _, _, none⟩) (v := .int .i64 acc) rfl (by kernel_rfl) (by kernel_rfl) (by kernel_rfl) (fun _ _ _ h => h) (Or.inl ⟨by rfl, fun _ _ => rfl⟩) hHeld ?_
    simp only [Act.put, List.setIfInBounds_toArray, List.set_cons_zero, List.set_cons_succ]
    refine wpAnyH_take (i := 12) (oi := ⟨some 36, .move (.tmp 0), _, _, _, none⟩) (v := .pointer (some ⟨B, 0, none⟩)) rfl (by kernel_rfl) (by kernel_rfl) (by kernel_rfl) (fun _ _ _ h => h) (Or.inl ⟨by rfl, fun _ _ => rfl⟩) hHeld ?_
    simp only [Act.put, List.setIfInBounds_toArray, List.set_cons_zero, List.set_cons_succ]
    refine wpAnyH_take (i := 13) (oi := ⟨some 37, .nilCheck (.tmp 36), _, _, _, none⟩) (v := .pointer (some ⟨B, 0, none⟩)) rfl (by kernel_rfl) (by kernel_rfl) (by kernel_rfl) (fun _ _ _ h => h) (Or.inl ⟨by rfl, fun w _ => by go_simp⟩) hHeld ?_
    simp only [Act.put, List.setIfInBounds_toArray, List.set_cons_zero, List.set_cons_succ]
    refine wpAnyH_take (i := 14) (oi := ⟨some 38, .fieldAddr 86 (.tmp 37) 0, _, _, _, none⟩) (v := .pointer (some ⟨B, 0, none⟩)) rfl (by kernel_rfl) (by kernel_rfl) (by kernel_rfl) (fun _ _ _ h => h) (Or.inl ⟨by rfl, fun w _ => by go_simp⟩) hHeld ?_
    simp only [Act.put, List.setIfInBounds_toArray, List.set_cons_zero, List.set_cons_succ]
    refine wpAnyH_take (i := 15) (oi := ⟨some 39, .fieldAddr 26 (.tmp 38) 3, _, _, _, none⟩) (v := .pointer (some ⟨B, 26, none⟩)) rfl (by kernel_rfl) (by kernel_rfl) (by kernel_rfl) (fun _ _ _ h => h) (Or.inl ⟨by rfl, fun w _ => by go_simp⟩) hHeld ?_
    simp only [Act.put, List.setIfInBounds_toArray, List.set_cons_zero, List.set_cons_succ]
    refine wpAnyH_take (i := 16) (oi := ⟨some 40, .load 4 (.tmp 39), _, _, _, none⟩) (v := .bool s.c.u) rfl (by kernel_rfl) (by kernel_rfl) (by kernel_rfl) (fun _ _ _ h => h) (Or.inl ⟨by rfl, fun w hSw => by have e1 := hSw.2.2; clear hSw; go_simp⟩) hHeld ?_
    simp only [Act.put, List.setIfInBounds_toArray, List.set_cons_zero, List.set_cons_succ]
    refine wpAnyH_ready (rs := [17, 21]) (by kernel_rfl) (by simp) (AllReadyH.cons (o := ⟨some 41, .call { callee := .value (.func 138), args := #[.tmp 27, .tmp 33, .tmp 34, .tmp 35, .tmp 40], argTypes := #[29, 22, 22, 3, 4] }, _, _, _, none⟩) rfl (fun K' hK => ?_) (AllReadyH.cons (o := ⟨some 9, .alloc 159, _, _, _, none⟩) rfl (fun K' hK => ?_) AllReadyH.nil))
    · go_simp
      refine (KW.out _ lq).mono ?_
      have hzq := lq.size
      rintro e w1 ⟨AS, AR, sc, rc, rfl, hS, hR, fS0, fR0, l1⟩
      have fS := fun ad e => Nat.le_trans hzq (fS0 ad e)
      have fR := fun ad e => Nat.le_trans hzq (fR0 ad e)
      replace lq := Later.trans_ lq l1
      refine hK.out _ _ (HC.out _ lq) (fun hHeld => ?_)
      clear hK K'
      try simp only [Act.put, List.setIfInBounds_toArray, List.set_cons_zero, List.set_cons_succ]
      refine wpAnyH_take (i := 18) (oi := ⟨some 23, .move (.tmp 41), _, _, _, none⟩) (v := .tuple #[.agg #[.int .i64 xa, .int .i64 xl, .slice AS ns sc, .slice AR nr rc], .int .i64 0]) rfl (by kernel_rfl) (by kernel_rfl) (by kernel_rfl) (fun _ _ _ h => h) (Or.inl ⟨by rfl, fun _ _ => rfl⟩) hHeld ?_
      simp only [Act.put, List.setIfInBounds_toArray, List.set_cons_zero, List.set_cons_succ]
      refine wpAnyH_take (i := 19) (oi := ⟨some 42, .extract (.tmp 23) 0, _, _, _, none⟩) (v := .agg #[.int .i64 xa, .int .i64 xl, .slice AS ns sc, .slice AR nr rc]) rfl (by kernel_rfl) (by kernel_rfl) (by kernel_rfl) (fun _ _ _ h => h) (Or.inl ⟨by rfl, fun w _ => by go_simp⟩) hHeld ?_
      simp only [Act.put, List.setIfInBounds_toArray, List.set_cons_zero, List.set_cons_succ]
      refine wpAnyH_take (i := 20) (oi := ⟨some 43, .extract (.tmp 23) 1, _, _, _, none⟩) (v := .int .i64 0) rfl (by kernel_rfl) (by kernel_rfl) (by kernel_rfl) (fun _ _ _ h => h) (Or.inl ⟨by rfl, fun w _ => by go_simp⟩) hHeld ?_
      simp only [Act.put, List.setIfInBounds_toArray, List.set_cons_zero, List.set_cons_succ]
      refine wpAnyH_ready (rs := [21]) (by kernel_rfl) (by simp) (AllReadyH.cons (o := ⟨some 9, .alloc 159, _, _, _, none⟩) rfl (fun K' hK => ?_) AllReadyH.nil)
      go_simp
      have b9 := (Blk.new w1 159 #[.int .i64 0, .int .i64 0, .slice none 0 0, .slice none 0 0] [.int .i64 0, .int .i64 0, .slice none 0 0, .slice none 0 0] rfl)
      have g9 := lq.size
      replace lq := lq.alloc lq.size (.cells #[.int .i64 0, .int .i64 0, .slice none 0 0, .slice none 0 0] 159)
      refine hK.out _ _ (HC.out _ lq) (fun hHeld => ?_)
      clear hK K'
      try simp only [Act.put, List.setIfInBounds_toArray, List.set_cons_zero, List.set_cons_succ]
      refine wpAnyH_ready (rs := [22]) (by kernel_rfl) (by simp) (AllReadyH.cons (o := ⟨none, .store 159 (.tmp 9) (.tmp 42), _, _, _, none⟩) rfl (fun K' hK => ?_) AllReadyH.nil)
      refine wp_store_abs 159 _ _ rfl _ 159 [.int .i64 0, .int .i64 0, .slice none 0 0, .slice none 0 0] [.int .i64 xa, .int .i64 xl, .slice AS ns sc, .slice AR nr rc] rfl rfl b9 (walk_sz _ _ _ _) rfl (img_one _ _ _ _ _ _ _ _) ?_
      intro w3 b9' o9
      have lx : Later w1 w3 := Below.only (later1 w1 (.cells #[.int .i64 0, .int .i64 0, .slice none 0 0, .slice none 0 0] 159)) o9 (Nat.le_refl _)
      have hpi : PI w w3 w1.heap.size xa xl xs xr ns nr AS AR sc rc := ⟨Below.only lq o9 g9, b9', hS.keep lx, hR.keep lx, fS, fR, g9⟩
      replace lq := Below.only lq o9 g9
      refine hK.out _ _ (HC.out _ lq) (fun hHeld => ?_)
      clear hK K'
      try simp only [Act.put]
      refine wpAnyH_take (i := 23) (oi := ⟨some 10, .assign (.tmp 43), _, _, _, none⟩) (v := .int .i64 0) rfl (by kernel_rfl) (by kernel_rfl) (by kernel_rfl) (fun _ _ _ h => h) (Or.inl ⟨by rfl, fun _ _ => rfl⟩) hHeld ?_
      simp only [Act.put, List.setIfInBounds_toArray, List.set_cons_zero, List.set_cons_succ]
      refine wpAnyH_done (by kernel_rfl) ?_ _
      clear hHeld
      go_wp2
      go_meet
      exact ⟨_, AS, AR, sc, rc, rfl, rfl, hpi⟩
    · go_simp
      have b9 := (Blk.new w 159 #[.int .i64 0, .int .i64 0, .slice none 0 0, .slice none 0 0] [.int .i64 0, .int .i64 0, .slice none 0 0, .slice none 0 0] rfl).drew
      have g9 := lq.size
      replace lq : Later w (w.alloc (.cells #[.int .i64 0, .int .i64 0, .slice none 0 0, .slice none 0 0] 159)).drew := Below.drew (later1 w (.cells #[.int .i64 0, .int .i64 0, .slice none 0 0, .slice none 0 0] 159))
      have hzn : w.heap.size < (w.alloc (.cells #[.int .i64 0, .int .i64 0, .slice none 0 0, .slice none 0 0] 159)).drew.heap.size := by show w.heap.size < (w.alloc (.cells #[.int .i64 0, .int .i64 0, .slice none 0 0, .slice none 0 0] 159)).heap.size; rw [World.size_alloc]; omega
      refine hK.out _ _ (HC.out _ lq) (fun hHeld => ?_)
      clear hK K'
      try simp only [Act.put, List.setIfInBounds_toArray, List.set_cons_zero, List.set_cons_succ]
      refine wpAnyH_ready (rs := [17]) (by kernel_rfl) (by simp) (AllReadyH.cons (o := ⟨some 41, .call { callee := .value (.func 138), args := #[.tmp 27, .tmp 33, .tmp 34, .tmp 35, .tmp 40], argTypes := #[29, 22, 22, 3, 4] }, _, _, _, none⟩) rfl (fun K' hK => ?_) AllReadyH.nil)
      go_simp
      refine (KW.out _ lq).mono ?_
      have hzq := lq.size
      rintro e w1 ⟨AS, AR, sc, rc, rfl, hS, hR, fS0, fR0, l1⟩
      have fS := fun ad e => Nat.le_trans hzq (fS0 ad e)
      have fR := fun ad e => Nat.le_trans hzq (fR0 ad e)
      replace lq := Later.trans_ lq l1
      replace b9 := b9.keep l1
      refine hK.out _ _ (HC.out _ lq) (fun hHeld => ?_)
      clear hK K'
      try simp only [Act.put, List.setIfInBounds_toArray, List.set_cons_zero, List.set_cons_succ]
      refine wpAnyH_take (i := 18) (oi := ⟨some 23, .move (.tmp 41), _, _, _, none⟩) (v := .tuple #[.agg #[.int .i64 xa, .int .i64 xl, .slice AS ns sc, .slice AR nr rc], .int .i64 0]) rfl (by kernel_rfl) (by kernel_rfl) (by kernel_rfl) (fun _ _ _ h => h) (Or.inl ⟨by rfl, fun _ _ => rfl⟩) hHeld ?_
      simp only [Act.put, List.setIfInBounds_toArray, List.set_cons_zero, List.set_cons_succ]
      refine wpAnyH_take (i := 19) (oi := ⟨some 42, .extract (.tmp 23) 0, _, _, _, none⟩) (v := .agg #[.int .i64 xa, .int .i64 xl, .slice AS ns sc, .slice AR nr rc]) rfl (by kernel_rfl) (by kernel_rfl) (by kernel_rfl) (fun _ _ _ h => h) (Or.inl ⟨by rfl, fun w _ => by go_simp⟩) hHeld ?_
      simp only [Act.put, List.setIfInBounds_toArray, List.set_cons_zero, List.set_cons_succ]
      refine wpAnyH_take (i := 20) (oi := ⟨some 43, .extract (.tmp 23) 1, _, _, _, none⟩) (v := .int .i64 0) rfl (by kernel_rfl) (by kernel_rfl) (by kernel_rfl) (fun _ _ _ h => h) (Or.inl ⟨by rfl, fun w _ => by go_simp⟩) hHeld ?_
      simp only [Act.put, List.setIfInBounds_toArray, List.set_cons_zero, List.set_cons_succ]
      refine wpAnyH_ready (rs := [22]) (by kernel_rfl) (by simp) (AllReadyH.cons (o := ⟨none, .store 159 (.tmp 9) (.tmp 42), _, _, _, none⟩) rfl (fun K' hK => ?_) AllReadyH.nil)
      refine wp_store_abs 159 _ _ rfl _ 159 [.int .i64 0, .int .i64 0, .slice none 0 0, .slice none 0 0] [.int .i64 xa, .int .i64 xl, .slice AS ns sc, .slice AR nr rc] rfl rfl b9 (walk_sz _ _ _ _) rfl (img_one _ _ _ _ _ _ _ _) ?_
      intro w3 b9' o9
      have hpi : PI w w3 w.heap.size xa xl xs xr ns nr AS AR sc rc := ⟨Below.only lq o9 (Nat.le_refl _), b9', hS.only_ne o9 (fun ad e => by have := fS0 ad e; omega), hR.only_ne o9 (fun ad e => by have := fR0 ad e; omega), fS, fR, Nat.le_refl _⟩
      replace lq := Below.only lq o9 (Nat.le_refl _)
      refine hK.out _ _ (HC.out _ lq) (fun hHeld => ?_)
      clear hK K'
      try simp only [Act.put]
      refine wpAnyH_take (i := 23) (oi := ⟨some 10, .assign (.tmp 43), _, _, _, none⟩) (v := .int .i64 0) rfl (by kernel_rfl) (by kernel_rfl) (by kernel_rfl) (fun _ _ _ h => h) (Or.inl ⟨by rfl, fun _ _ => rfl⟩) hHeld ?_
      simp only [Act.put, List.setIfInBounds_toArray, List.set_cons_zero, List.set_cons_succ]
      refine wpAnyH_done (by kernel_rfl) ?_ _
      clear hHeld
      go_wp2
      go_meet
      exact ⟨_, AS, AR, sc, rc, rfl, rfl, hpi⟩
  case rest =>
    obtain ⟨g, AS, AR, sc, rc, rfl, rfl, hp⟩ := hcut
    obtain ⟨wx, hwx⟩ : ∃ x, x = wc := ⟨_, rfl⟩
    have HPI := Lib.hid fun w' s' (k : St base B wx s w' s') => hp.st H.out (hwx ▸ k)
    have hx := H.out.later hp.l
    have sx := St.later (B := B) s hx.lt (later0 wc)
    rw [← hwx] at hx sx hp ⊢
    have hp1 := hp.l
    have HG := Lib.hid hp.fg
    have e3 := hp.bw.cell (j := 3) (v := .slice AR nr rc) rfl
    have SW := Lib.hid (St.later (B := B) s H.out.lt hp1)
    clear hp hwx wc
    go_wp2
    go_loopw [47] (fun i wr => ∃ (k : Nat) (v : Value), k ≤ nr ∧ i = .int .i64 (k : Int) ∧ At base wr B { s with av := v } A n c ws (ac ++ raL (xr.take k)) b ∧ St base B wx s wr { s with av := v }) (fun i _ => nr - (intOf i).toNat)
    case atStart => exact ⟨0, s.av, by omega, rfl, by rw [List.take_zero, show raL [] = [] from rfl, List.append_nil]; exact hx, sx⟩
    case round =>
      clear hx sx e3
      rename_i wr
      obtain ⟨k, v, hk, rfl, hA, hS⟩ := hrel
      obtain ⟨p1, p2, p3⟩ := HPI.out _ _ hS
      by_cases hlt : k < nr
      · have kl : (k : Int) < (nr : Int) := by omega
        have hkl : k < xr.length := by omega
        obtain ⟨ad, u, rfl, _, hu, hc⟩ := p3.at1 hlt
        rw [N64_at xr k hkl] at hu
        have HSU := Lib.hid (raL_succ xr k hkl)
        obtain ⟨a, ha⟩ : ∃ a, a = xr[k] := ⟨_, rfl⟩
        rw [← ha] at hu HSU
        have hu2 : u = .int .i64 a := (Option.some.inj hu).symm
        rw [hu2] at hc
        have HT := Lib.hid (touch_any hA (by rw [List.length_append, raL_len, List.length_take]; omega) a 4 false)
        clear hu hu2 ha p1 p2 p3 hA hk
        go_wp2_with (go_at_call 139; refine HT.out.mono ?_; rintro e w5 ⟨rfl, v2, hA, hS2⟩)
        go_roundw
        case rel => exact ⟨k + 1, v2, by omega, by go_num, by rw [HSU.out, ← List.append_assoc]; exact hA, hS.trans hS2⟩
        case measure => simp [intOf]; omega
      · obtain rfl : k = nr := by omega
        rw [List.take_of_length_le (Nat.le_of_eq hnr)] at hA
        have e2 := p1.cell (j := 2) (v := .slice AS ns sc) rfl
        clear p1 p2 p3
        have ht0 : raL xr = raL xr := rfl
        go_wp2
        go_loopw [58] (fun i wr => ∃ (k : Nat) (v u : Value), k ≤ ns ∧ i = .int .i64 (k : Int) ∧ At base wr B { s with av := v, wv := u } A n c (ws ++ xs.take k) (ac ++ raL xr ++ saL (xs.take k)) b ∧ St base B wx s wr { s with av := v, wv := u }) (fun i _ => ns - (intOf i).toNat)
        case atStart => exact ⟨0, v, s.wv, by omega, rfl, by rw [List.take_zero, show saL [] = [] from rfl, List.append_nil, List.append_nil]; exact hA, hS⟩
        case round =>
          clear hA hS e2 ht0
          obtain ⟨k, v, u, hk2, rfl, hA, hS⟩ := hrel
          obtain ⟨p1, p2, p3⟩ := HPI.out _ _ hS
          by_cases hlt2 : k < ns
          · have kl : (k : Int) < (ns : Int) := by omega
            have hkl : k < xs.length := by omega
            obtain ⟨ad, rfl⟩ := p2.addr (by omega)
            have HCW := Lib.hid (p2.write hkl hns)
            have HSU := Lib.hid (saL_succ xs k hkl)
            have HTS := Lib.hid (List.take_succ_eq_append_getElem hkl)
            obtain ⟨y, hy⟩ : ∃ y, y = xs[k] := ⟨_, rfl⟩
            rw [← hy] at HCW HSU HTS
            obtain ⟨p, z, q⟩ := y
            have HT := Lib.hid fun O => sstore_any (hA.later (later1 _ O)) (by rw [List.length_append, List.length_append, raL_len, saL_len, List.length_take]; omega) (by rw [List.length_append, List.length_take]; omega) p z q
            have HS1 := Lib.hid fun O => St.later (B := B) { s with av := v, wv := u } hA.lt (later1 _ O)
            clear hy p1 p2 p3 hA hk2 hlt hk
            go_wp2_with (first
              | ((with_reducible refine wpList_load_addr (o := ⟨some 61, .load 64 (.tmp 60), _, _, _, none⟩) rfl _ _ rfl (ad.add (k * 3)) [.int .i64 p, .int .i64 z, .int .u32 q] _ ?_ HCW.out Tryz.underlying64 rfl (w_sz _ _ _) ?_); rfl)
              | (go_at_call 140; refine (HT.out _).mono ?_; rintro e w5 ⟨rfl, v2, u2, hA, hS2⟩))
            go_roundw
            case rel => exact ⟨k + 1, v2, u2, by omega, by go_num, by rw [HSU.out, HTS.out, ← List.append_assoc, ← List.append_assoc]; exact hA, (hS.trans (HS1.out _)).trans hS2⟩
            case measure => simp [intOf]; omega
          · obtain rfl : ns = k := by omega
            rw [List.take_of_length_le (Nat.le_of_eq hns), List.append_assoc] at hA
            replace hS := SW.out.trans hS
            clear hlt hk
            have hgB : g ≠ B := fun e => by have := HG.out; have := H.out.bx.lt; omega
            go_wp2
            replace p1 := p1.drew
            replace p2 := p2.drew
            replace hS := hS.trans (St.later _ hA.lt (Below.drew (later0 _)))
            replace hA := hA.later (Below.drew (later0 _))
            have e30 := hA.bx.cell (j := 30) (v := .slice A n c) (by rw [← hA.hm]; rfl)
            refine wp_region_held_drew (S := fun w' => w'.cell? ⟨g, 2, none⟩ = some (.slice AS ns sc)) (by kernel_rfl) (p1.cell (j := 2) rfl) (fun hHeld => ?_)
            refine wpAnyH_take (i := 0) (oi := ⟨some 72, .move (.tmp 0), _, _, _, none⟩) (v := .pointer (some ⟨B, 0, none⟩)) rfl (by kernel_rfl) (by kernel_rfl) (by kernel_rfl) (fun _ _ _ h => h) (Or.inl ⟨by rfl, fun _ _ => rfl⟩) hHeld ?_
            simp only [Act.put, List.setIfInBounds_toArray, List.set_cons_zero, List.set_cons_succ]
            refine wpAnyH_take (i := 1) (oi := ⟨some 73, .move (.tmp 0), _, _, _, none⟩) (v := .pointer (some ⟨B, 0, none⟩)) rfl (by kernel_rfl) (by kernel_rfl) (by kernel_rfl) (fun _ _ _ h => h) (Or.inl ⟨by rfl, fun _ _ => rfl⟩) hHeld ?_
            simp only [Act.put, List.setIfInBounds_toArray, List.set_cons_zero, List.set_cons_succ]
            refine wpAnyH_take (i := 2) (oi := ⟨some 74, .nilCheck (.tmp 73), _, _, _, none⟩) (v := .pointer (some ⟨B, 0, none⟩)) rfl (by kernel_rfl) (by kernel_rfl) (by kernel_rfl) (fun _ _ _ h => h) (Or.inl ⟨by rfl, fun w _ => by go_simp⟩) hHeld ?_
            simp only [Act.put, List.setIfInBounds_toArray, List.set_cons_zero, List.set_cons_succ]
            refine wpAnyH_take (i := 3) (oi := ⟨some 75, .fieldAddr 86 (.tmp 74) 1, _, _, _, none⟩) (v := .pointer (some ⟨B, 30, none⟩)) rfl (by kernel_rfl) (by kernel_rfl) (by kernel_rfl) (fun _ _ _ h => h) (Or.inl ⟨by rfl, fun w _ => by go_simp⟩) hHeld ?_
            simp only [Act.put, List.setIfInBounds_toArray, List.set_cons_zero, List.set_cons_succ]
            refine wpAnyH_take (i := 5) (oi := ⟨some 77, .fieldAddr 159 (.tmp 9) 2, _, _, _, none⟩) (v := .pointer (some ⟨g, 2, none⟩)) rfl (by kernel_rfl) (by kernel_rfl) (by kernel_rfl) (fun _ _ _ h => h) (Or.inl ⟨by rfl, fun w _ => by go_simp⟩) hHeld ?_
            simp only [Act.put, List.setIfInBounds_toArray, List.set_cons_zero, List.set_cons_succ]
            refine wpAnyH_take (i := 6) (oi := ⟨some 78, .load 33 (.tmp 77), _, _, _, none⟩) (v := .slice AS ns sc) rfl (by kernel_rfl) (by kernel_rfl) (by kernel_rfl) (fun _ _ _ h => h) (Or.inl ⟨by rfl, fun w hSw => by have e1 := hSw; clear hSw; go_simp⟩) hHeld ?_
            simp only [Act.put, List.setIfInBounds_toArray, List.set_cons_zero, List.set_cons_succ]
            refine wpAnyH_ready (rs := [4]) (by kernel_rfl) (by simp) (AllReadyH.cons (o := ⟨some 76, .load 29 (.tmp 75), _, _, _, none⟩) rfl (fun K' hK => ?_) AllReadyH.nil)
            go_simp
            refine hK.out _ _ (p1.cell (j := 2) rfl) (fun hHeld => ?_)
            clear hK K'
            try simp only [Act.put, List.setIfInBounds_toArray, List.set_cons_zero, List.set_cons_succ]
            refine wpAnyH_ready (rs := [7]) (by kernel_rfl) (by simp) (AllReadyH.cons (o := ⟨some 79, .call { callee := .value (.func 52), args := #[.tmp 76, .tmp 78], argTypes := #[29, 33] }, _, _, _, none⟩) rfl (fun K' hK => ?_) AllReadyH.nil)
            go_simp
            refine (after_some A n c ns sc AS xs b _ _ hA.sl hb h1 p2 hns hW ⟨hns0, by omega⟩ rfl).mono ?_
            rintro e w7 ⟨g2, c2, rfl, k1, k2, l7⟩
            have hBl := hA.bx.lt
            have hWl := hA.rw.lt
            have hAl := hA.ra.lt
            replace p1 := p1.keep l7
            have hA7 := hA.later l7
            have hS7 := hS.trans (St.later _ hA.lt l7)
            obtain ⟨q1, q2⟩ := hA7.mem (c' := c2) k2 (fun ad e => by cases e; exact ⟨by show g2 ≠ B; omega, fun q => by have := (hWl _ q).2; have : g2 < _ := this; omega, fun q => by have := (hAl _ q).2; have : g2 < _ := this; omega⟩)
            have e30b := hA7.bx.cell (j := 30) (v := .slice A n c) (by rw [← hA7.hm]; rfl)
            have f30b := hA7.bx.frz 30
            have ngB : g ≠ B := hgB
            refine hK.out _ _ (p1.cell (j := 2) rfl) (fun hHeld => ?_)
            clear hK K'
            try simp only [Act.put, List.setIfInBounds_toArray, List.set_cons_zero, List.set_cons_succ]
            refine wpAnyH_take (i := 8) (oi := ⟨some 80, .nilCheck (.tmp 72), _, _, _, none⟩) (v := .pointer (some ⟨B, 0, none⟩)) rfl (by kernel_rfl) (by kernel_rfl) (by kernel_rfl) (fun _ _ _ h => h) (Or.inl ⟨by rfl, fun w _ => by go_simp⟩) hHeld ?_
            simp only [Act.put, List.setIfInBounds_toArray, List.set_cons_zero, List.set_cons_succ]
            refine wpAnyH_take (i := 9) (oi := ⟨some 81, .fieldAddr 86 (.tmp 80) 1, _, _, _, none⟩) (v := .pointer (some ⟨B, 30, none⟩)) rfl (by kernel_rfl) (by kernel_rfl) (by kernel_rfl) (fun _ _ _ h => h) (Or.inl ⟨by rfl, fun w _ => by go_simp⟩) hHeld ?_
            simp only [Act.put, List.setIfInBounds_toArray, List.set_cons_zero, List.set_cons_succ]
            refine wpAnyH_ready (rs := [10]) (by kernel_rfl) (by simp) (AllReadyH.cons (o := ⟨none, .store 29 (.tmp 81) (.tmp 79), _, _, _, none⟩) rfl (fun K' hK => ?_) AllReadyH.nil)
            go_simp
            replace p1 := p1.set_other ⟨B, 30, none⟩ (.slice (some ⟨g2, 0, none⟩) n c2) ngB
            clear e30b f30b
            refine hK.out _ _ (p1.cell (j := 2) rfl) (fun hHeld => ?_)
            clear hK K'
            try simp only [Act.put, List.setIfInBounds_toArray, List.set_cons_zero, List.set_cons_succ]
            refine wpAnyH_done (by kernel_rfl) ?_ _
            clear hHeld
            have e0x := p1.cell (j := 0) (v := .int .i64 xa) rfl
            go_wp2
            go_ret
            exact ⟨rfl, v, u, _, _, q1, hS7.trans q2⟩
set_option maxRecDepth 100000 in
set_option maxHeartbeats 2000000 in
theorem place_ok0 {base : Nat} {w : World} {B : Nat} {s : Sp} {A : Option Addr} {n c : Nat} {ws : List (Int × Int × Int)} {ac : List (Int × Int × Bool)} {b : Wm.Bs} (h : At base w B s A n c ws ac b) (hl1 : ac.length ≤ 900) (_hl2 : ws.length ≤ 900) (va acc sz : Int) (hv : 0 ≤ va ∧ va ≤ 4294967295) (hz : sz = 1 ∨ sz = 4) (ho : va % sz = 0) (xa xl : Int) (xs : List (Int × Int × Int)) (xr : List Int) (nr : Nat) (KW : Hid (∀ w', Later w w' → Calls Tryz.prog 138 #[.agg #[.slice A n c], .int .u32 s.c.c0, .int .u32 va, .int .i64 acc, .bool s.c.u] w' fun e w'' => ∃ AS AR sc rc, e = .returned (.tuple #[.agg #[.int .i64 xa, .int .i64 xl, .slice AS 0 sc, .slice AR nr rc], .int .i64 0]) ∧ Sl w'' 3 AS 0 (Ws xs) ∧ Sl w'' 1 AR nr (N64 xr) ∧ (∀ ad, AS = some ad → w'.heap.size ≤ ad.block) ∧ (∀ ad, AR = some ad → w'.heap.size ≤ ad.block) ∧ Later w' w'')) (hns : xs.length = 0) (hnr : xr.length = nr) (_hns1 : 0 ≤ 10) (hnr1 : nr ≤ 10) : Calls Tryz.prog 116 #[.pointer (some ⟨B, 0, none⟩), .int .u32 va, .int .i64 acc, .int .i64 sz] w (fun e w' => e = .returned (.int .i64 xa) ∧ ∃ v u A' c', At base w' B { s with av := v, wv := u, m := .slice A' n c' } A' n c' (ws ++ xs) (ac ++ (raL xr ++ saL xs)) b ∧ St base B w s w' { s with av := v, wv := u, m := .slice A' n c' }) := by
  have H := Lib.hid h
  have HC := Lib.hid fun w' (hl : Later w w') => (show w'.cell? ⟨B, 30, none⟩ = some (.slice A n c) ∧ w'.cell? ⟨B, 17, none⟩ = some (.int .u32 s.c.c0) ∧ w'.cell? ⟨B, 26, none⟩ = some (.bool s.c.u) from ⟨(h.bx.keep hl).cell (j := 30) (by rw [← h.hm]; rfl), (h.bx.keep hl).cell (j := 17) rfl, (h.bx.keep hl).cell (j := 26) rfl⟩)
  have x1 : IntKind.u32.wrap sz = sz := by rw [IntKind.wrap_u32]; omega
  have x2 : va.tmod sz = va % sz := Int.tmod_eq_emod_of_nonneg hv.1
  have x3 : (va % sz != 0) = false := by simpa using ho
  clear h ho hv
  have x4 : (sz == 0) = false := by rcases hz with rfl | rfl <;> rfl
  have x5 : sz ≠ 0 := by omega
  go_enter Tryz.func116, Tryz.ntmps116
  go_upto_region 3 with (fail)
  go_cut [9, 10] (fun s9 s10 wx => ∃ (g : Nat) (AS AR : Option Addr) (sc rc : Nat), s9 = .pointer (some ⟨g, 0, none⟩) ∧ s10 = .int .i64 0 ∧ PI w wx g xa xl xs xr 0 nr AS AR sc rc)
  case first =>
    have lq : Later w w.drew := Below.drew (later0 w)
    refine wp_region_held_drew (S := fun w' => w'.cell? ⟨B, 30, none⟩ = some (.slice A n c) ∧ w'.cell? ⟨B, 17, none⟩ = some (.int .u32 s.c.c0) ∧ w'.cell? ⟨B, 26, none⟩ = some (.bool s.c.u)) (by kernel_rfl) (HC.out _ lq) (fun hHeld => ?_)
    refine wpAnyH_take (i := 0) (oi := ⟨some 24, .move (.tmp 0), _, _, _, none⟩) (v := .pointer (some ⟨B, 0, none⟩)) rfl (by kernel_rfl) (by kernel_rfl) (by kernel_rfl) (fun _ _ _ h => h) (Or.inl ⟨by rfl, fun _ _ => rfl⟩) hHeld ?_
    simp only [Act.put, List.setIfInBounds_toArray, List.set_cons_zero, List.set_cons_succ]
    refine wpAnyH_take (i := 1) (oi := ⟨some 25, .nilCheck (.tmp 24), _, _, _, none⟩) (v := .pointer (some ⟨B, 0, none⟩)) rfl (by kernel_rfl) (by kernel_rfl) (by kernel_rfl) (fun _ _ _ h => h) (Or.inl ⟨by rfl, fun w _ => by go_simp⟩) hHeld ?_
    simp only [Act.put, List.setIfInBounds_toArray, List.set_cons_zero, List.set_cons_succ]
    refine wpAnyH_take (i := 2) (oi := ⟨some 26, .fieldAddr 86 (.tmp 25) 1, _, _, _, none⟩) (v := .pointer (some ⟨B, 30, none⟩)) rfl (by kernel_rfl) (by kernel_rfl) (by kernel_rfl) (fun _ _ _ h => h) (Or.inl ⟨by rfl, fun w _ => by go_simp⟩) hHeld ?_
    simp only [Act.put, List.setIfInBounds_toArray, List.set_cons_zero, List.set_cons_succ]
    refine wpAnyH_take (i := 3) (oi := ⟨some 27, .load 29 (.tmp 26), _, _, _, none⟩) (v := .agg #[.slice A n c]) rfl (by kernel_rfl) (by kernel_rfl) (by kernel_rfl) (fun _ _ _ h => h) (Or.inl ⟨by rfl, fun w hSw => by have e1 := hSw.1; clear hSw; go_simp⟩) hHeld ?_
    simp only [Act.put, List.setIfInBounds_toArray, List.set_cons_zero, List.set_cons_succ]
    refine wpAnyH_take (i := 4) (oi := ⟨some 28, .move (.tmp 0), _, _, _, none⟩) (v := .pointer (some ⟨B, 0, none⟩)) rfl (by kernel_rfl) (by kernel_rfl) (by kernel_rfl) (fun _ _ _ h => h) (Or.inl ⟨by rfl, fun _ _ => rfl⟩) hHeld ?_
    simp only [Act.put, List.setIfInBounds_toArray, List.set_cons_zero, List.set_cons_succ]
    refine wpAnyH_take (i := 5) (oi := ⟨some 29, .nilCheck (.tmp 28), _, _, _, none⟩) (v := .pointer (some ⟨B, 0, none⟩)) rfl (by kernel_rfl) (by kernel_rfl) (by kernel_rfl) (fun _ _ _ h => h) (Or.inl ⟨by rfl, fun w _ => by go_simp⟩) hHeld ?_
    simp only [Act.put, List.setIfInBounds_toArray, List.set_cons_zero, List.set_cons_succ]
    refine wpAnyH_take (i := 6) (oi := ⟨some 30, .fieldAddr 86 (.tmp 29) 0, _, _, _, none⟩) (v := .pointer (some ⟨B, 0, none⟩)) rfl (by kernel_rfl) (by kernel_rfl) (by kernel_rfl) (fun _ _ _ h => h) (Or.inl ⟨by rfl, fun w _ => by go_simp⟩) hHeld ?_
    simp only [Act.put, List.setIfInBounds_toArray, List.set_cons_zero, List.set_cons_succ]
    refine wpAnyH_take (i := 7) (oi := ⟨some 31, .fieldAddr 26 (.tmp 30) 2, _, _, _, none⟩) (v := .pointer (some ⟨B, 17, none⟩)) rfl (by kernel_rfl) (by kernel_rfl) (by kernel_rfl) (fun _ _ _ h => h) (Or.inl ⟨by rfl, fun w _ => by go_simp⟩) hHeld ?_
    simp only [Act.put, List.setIfInBounds_toArray, List.set_cons_zero, List.set_cons_succ]
    refine wpAnyH_take (i := 8) (oi := ⟨some 32, .indexAddr 24 (.tmp 31) (.const (.int .i64 0)), _, _, _, none⟩) (v := .pointer (some ⟨B, 17, none⟩)) rfl (by kernel_rfl) (by kernel_rfl) (by kernel_rfl) (fun _ _ _ h => h) (Or.inl ⟨by rfl, fun w _ => by go_simp⟩) hHeld ?_
    simp only [Act.put, List.setIfInBounds_toArray, List.set_cons_zero, List.set_cons_succ]
    refine wpAnyH_take (i := 9) (oi := ⟨some 33, .load 22 (.tmp 32), _, _, _, none⟩) (v := .int .u32 s.c.c0) rfl (by kernel_rfl) (by kernel_rfl) (by kernel_rfl) (fun _ _ _ h => h) (Or.inl ⟨by rfl, fun w hSw => by have e1 := hSw.2.1; clear hSw; go_simp⟩) hHeld ?_
    simp only [Act.put, List.setIfInBounds_toArray, List.set_cons_zero, List.set_cons_succ]
    refine wpAnyH_take (i := 10) (oi := ⟨some 34, .move (.tmp 1), _, _, _, none⟩) (v := .int .u32 va) rfl (by kernel_rfl) (by kernel_rfl) (by kernel_rfl) (fun _ _ _ h => h) (Or.inl ⟨by rfl, fun _ _ => rfl⟩) hHeld ?_
    simp only [Act.put, List.setIfInBounds_toArray, List.set_cons_zero, List.set_cons_succ]
    refine wpAnyH_take (i := 11) (oi := ⟨some 35, .move (.tmp 2), _, _, _, none⟩) (v := .int .i64 acc) rfl (by kernel_rfl) (by kernel_rfl) (by kernel_rfl) (fun _ _ _ h => h) (Or.inl ⟨by rfl, fun _ _ => rfl⟩) hHeld ?_
    simp only [Act.put, List.setIfInBounds_toArray, List.set_cons_zero, List.set_cons_succ]
    refine wpAnyH_take (i := 12) (oi := ⟨some 36, .move (.tmp 0), _, _, _, none⟩) (v := .pointer (some ⟨B, 0, none⟩)) rfl (by kernel_rfl) (by kernel_rfl) (by kernel_rfl) (fun _ _ _ h => h) (Or.inl ⟨by rfl, fun _ _ => rfl⟩) hHeld ?_
    simp only [Act.put, List.setIfInBounds_toArray, List.set_cons_zero, List.set_cons_succ]
    refine wpAnyH_take (i := 13) (oi := ⟨some 37, .nilCheck (.tmp 36), _, _, _, none⟩) (v := .pointer (some ⟨B, 0, none⟩)) rfl (by kernel_rfl) (by kernel_rfl) (by kernel_rfl) (fun _ _ _ h => h) (Or.inl ⟨by rfl, fun w _ => by go_simp⟩) hHeld ?_
    simp only [Act.put, List.setIfInBounds_toArray, List.set_cons_zero, List.set_cons_succ]
    refine wpAnyH_take (i := 14) (oi := ⟨some 38, .fieldAddr 86 (.tmp 37) 0, _, _, _, none⟩) (v := .pointer (some ⟨B, 0, none⟩)) rfl (by kernel_rfl) (by kernel_rfl) (by kernel_rfl) (fun _ _ _ h => h) (Or.inl ⟨by rfl, fun w _ => by go_simp⟩) hHeld ?_
    simp only [Act.put, List.setIfInBounds_toArray, List.set_cons_zero, List.set_cons_succ]
    refine wpAnyH_take (i := 15) (oi := ⟨some 39, .fieldAddr 26 (.tmp 38) 3, _, _, _, none⟩) (v := .pointer (some ⟨B, 26, none⟩)) rfl (by kernel_rfl) (by kernel_rfl) (by kernel_rfl) (fun _ _ _ h => h) (Or.inl ⟨by rfl, fun w _ => by go_simp⟩) hHeld ?_
    simp only [Act.put, List.setIfInBounds_toArray, List.set_cons_zero, List.set_cons_succ]
    refine wpAnyH_take (i := 16) (oi := ⟨some 40, .load 4 (.tmp 39), _, _, _, none⟩) (v := .bool s.c.u) rfl (by kernel_rfl) (by kernel_rfl) (by kernel_rfl) (fun _ _ _ h => h) (Or.inl ⟨by rfl, fun w hSw => by have e1 := hSw.2.2; clear hSw; go_simp⟩) hHeld ?_
    simp only [Act.put, List.setIfInBounds_toArray, List.set_cons_zero, List.set_cons_succ]
    refine wpAnyH_ready (rs := [17, 21]) (by kernel_rfl) (by simp) (AllReadyH.cons (o := ⟨some 41, .call { callee := .value (.func 138), args := #[.tmp 27, .tmp 33, .tmp 34, .tmp 35, .tmp 40], argTypes := #[29, 22, 22, 3, 4] }, _, _, _, none⟩) rfl (fun K' hK => ?_) (AllReadyH.cons (o := ⟨some 9, .alloc 159, _, _, _, none⟩) rfl (fun K' hK => ?_) AllReadyH.nil))
    · go_simp
      refine (KW.out _ lq).mono ?_
      have hzq := lq.size
      rintro e w1 ⟨AS, AR, sc, rc, rfl, hS, hR, fS0, fR0, l1⟩
      have fS := fun ad e => Nat.le_trans hzq (fS0 ad e)
      have fR := fun ad e => Nat.le_trans hzq (fR0 ad e)
      replace lq := Later.trans_ lq l1
      refine hK.out _ _ (HC.out _ lq) (fun hHeld => ?_)
      clear hK K'
      try simp only [Act.put, List.setIfInBounds_toArray, List.set_cons_zero, List.set_cons_succ]
      refine wpAnyH_take (i := 18) (oi := ⟨some 23, .move (.tmp 41), _, _, _, none⟩) (v := .tuple #[.agg #[.int .i64 xa, .int .i64 xl, .slice AS 0 sc, .slice AR nr rc], .int .i64 0]) rfl (by kernel_rfl) (by kernel_rfl) (by kernel_rfl) (fun _ _ _ h => h) (Or.inl ⟨by rfl, fun _ _ => rfl⟩) hHeld ?_
      simp only [Act.put, List.setIfInBounds_toArray, List.set_cons_zero, List.set_cons_succ]
      refine wpAnyH_take (i := 19) (oi := ⟨some 42, .extract (.tmp 23) 0, _, _, _, none⟩) (v := .agg #[.int .i64 xa, .int .i64 xl, .slice AS 0 sc, .slice AR nr rc]) rfl (by kernel_rfl) (by kernel_rfl) (by kernel_rfl) (fun _ _ _ h => h) (Or.inl ⟨by rfl, fun w _ => by go_simp⟩) hHeld ?_
      simp only [Act.put, List.setIfInBounds_toArray, List.set_cons_zero, List.set_cons_succ]
      refine wpAnyH_take (i := 20) (oi := ⟨some 43, .extract (.tmp 23) 1, _, _, _, none⟩) (v := .int .i64 0) rfl (by kernel_rfl) (by kernel_rfl) (by kernel_rfl) (fun _ _ _ h => h) (Or.inl ⟨by rfl, fun w _ => by go_simp⟩) hHeld ?_
      simp only [Act.put, List.setIfInBounds_toArray, List.set_cons_zero, List.set_cons_succ]
      refine wpAnyH_ready (rs := [21]) (by kernel_rfl) (by simp) (AllReadyH.cons (o := ⟨some 9, .alloc 159, _, _, _, none⟩) rfl (fun K' hK => ?_) AllReadyH.nil)
      go_simp
      have b9 := (Blk.new w1 159 #[.int .i64 0, .int .i64 0, .slice none 0 0, .slice none 0 0] [.int .i64 0, .int .i64 0, .slice none 0 0, .slice none 0 0] rfl)
      have g9 := lq.size
      replace lq := lq.alloc lq.size (.cells #[.int .i64 0, .int .i64 0, .slice none 0 0, .slice none 0 0] 159)
      refine hK.out _ _ (HC.out _ lq) (fun hHeld => ?_)
      clear hK K'
      try simp only [Act.put, List.setIfInBounds_toArray, List.set_cons_zero, List.set_cons_succ]
      refine wpAnyH_ready (rs := [22]) (by kernel_rfl) (by simp) (AllReadyH.cons (o := ⟨none, .store 159 (.tmp 9) (.tmp 42), _, _, _, none⟩) rfl (fun K' hK => ?_) AllReadyH.nil)
      refine wp_store_abs 159 _ _ rfl _ 159 [.int .i64 0, .int .i64 0, .slice none 0 0, .slice none 0 0] [.int .i64 xa, .int .i64 xl, .slice AS 0 sc, .slice AR nr rc] rfl rfl b9 (walk_sz _ _ _ _) rfl (img_one _ _ _ _ _ _ _ _) ?_
      intro w3 b9' o9
      have lx : Later w1 w3 := Below.only (later1 w1 (.cells #[.int .i64 0, .int .i64 0, .slice none 0 0, .slice none 0 0] 159)) o9 (Nat.le_refl _)
      have hpi : PI w w3 w1.heap.size xa xl xs xr 0 nr AS AR sc rc := ⟨Below.only lq o9 g9, b9', hS.keep lx, hR.keep lx, fS, fR, g9⟩
      replace lq := Below.only lq o9 g9
      refine hK.out _ _ (HC.out _ lq) (fun hHeld => ?_)
      clear hK K'
      try simp only [Act.put]
      refine wpAnyH_take (i := 23) (oi := ⟨some 10, .assign (.tmp 43), _, _, _, none⟩) (v := .int .i64 0) rfl (by kernel_rfl) (by kernel_rfl) (by kernel_rfl) (fun _ _ _ h => h) (Or.inl ⟨by rfl, fun _ _ => rfl⟩) hHeld ?_
      simp only [Act.put, List.setIfInBounds_toArray, List.set_cons_zero, List.set_cons_succ]
      refine wpAnyH_done (by kernel_rfl) ?_ _
      clear hHeld
      go_wp2
      go_meet
      exact ⟨_, AS, AR, sc, rc, rfl, rfl, hpi⟩
    · go_simp
      have b9 := (Blk.new w 159 #[.int .i64 0, .int .i64 0, .slice none 0 0, .slice none 0 0] [.int .i64 0, .int .i64 0, .slice none 0 0, .slice none 0 0] rfl).drew
      have g9 := lq.size
      replace lq : Later w (w.alloc (.cells #[.int .i64 0, .int .i64 0, .slice none 0 0, .slice none 0 0] 159)).drew := Below.drew (later1 w (.cells #[.int .i64 0, .int .i64 0, .slice none 0 0, .slice none 0 0] 159))
      have hzn : w.heap.size < (w.alloc (.cells #[.int .i64 0, .int .i64 0, .slice none 0 0, .slice none 0 0] 159)).drew.heap.size := by show w.heap.size < (w.alloc (.cells #[.int .i64 0, .int .i64 0, .slice none 0 0, .slice none 0 0] 159)).heap.size; rw [World.size_alloc]; omega
      refine hK.out _ _ (HC.out _ lq) (fun hHeld => ?_)
      clear hK K'
      try simp only [Act.put, List.setIfInBounds_toArray, List.set_cons_zero, List.set_cons_succ]
      refine wpAnyH_ready (rs := [17]) (by kernel_rfl) (by simp) (AllReadyH.cons (o := ⟨some 41, .call { callee := .value (.func 138), args := #[.tmp 27, .tmp 33, .tmp 34, .tmp 35, .tmp 40], argTypes := #[29, 22, 22, 3, 4] }, _, _, _, none⟩) rfl (fun K' hK => ?_) AllReadyH.nil)
      go_simp
      refine (KW.out _ lq).mono ?_
      have hzq := lq.size
      rintro e w1 ⟨AS, AR, sc, rc, rfl, hS, hR, fS0, fR0, l1⟩
      have fS := fun ad e => Nat.le_trans hzq (fS0 ad e)
      have fR := fun ad e => Nat.le_trans hzq (fR0 ad e)
      replace lq := Later.trans_ lq l1
      replace b9 := b9.keep l1
      refine hK.out _ _ (HC.out _ lq) (fun hHeld => ?_)
      clear hK K'
      try simp only [Act.put, List.setIfInBounds_toArray, List.set_cons_zero, List.set_cons_succ]
      refine wpAnyH_take (i := 18) (oi := ⟨some 23, .move (.tmp 41), _, _, _, none⟩) (v := .tuple #[.agg #[.int .i64 xa, .int .i64 xl, .slice AS 0 sc, .slice AR nr rc], .int .i64 0]) rfl (by kernel_rfl) (by kernel_rfl) (by kernel_rfl) (fun _ _ _ h => h) (Or.inl ⟨by rfl, fun _ _ => rfl⟩) hHeld ?_
      simp only [Act.put, List.setIfInBounds_toArray, List.set_cons_zero, List.set_cons_succ]
      refine wpAnyH_take (i := 19) (oi := ⟨some 42, .extract (.tmp 23) 0, _, _, _, none⟩) (v := .agg #[.int .i64 xa, .int .i64 xl, .slice AS 0 sc, .slice AR nr rc]) rfl (by kernel_rfl) (by kernel_rfl) (by kernel_rfl) (fun _ _ _ h => h) (Or.inl ⟨by rfl, fun w _ => by go_simp⟩) hHeld ?_
      simp only [Act.put, List.setIfInBounds_toArray, List.set_cons_zero, List.set_cons_succ]
      refine wpAnyH_take (i := 20) (oi := ⟨some 43, .extract (.tmp 23) 1, _, _, _, none⟩) (v := .int .i64 0) rfl (by kernel_rfl) (by kernel_rfl) (by kernel_rfl) (fun _ _ _ h => h) (Or.inl ⟨by rfl, fun w _ => by go_simp⟩) hHeld ?_
      simp only [Act.put, List.setIfInBounds_toArray, List.set_cons_zero, List.set_cons_succ]
      refine wpAnyH_ready (rs := [22]) (by kernel_rfl) (by simp) (AllReadyH.cons (o := ⟨none, .store 159 (.tmp 9) (.tmp 42), _, _, _, none⟩) rfl (fun K' hK => ?_) AllReadyH.nil)
      refine wp_store_abs 159 _ _ rfl _ 159 [.int .i64 0, .int .i64 0, .slice none 0 0, .slice none 0 0] [.int .i64 xa, .int .i64 xl, .slice AS 0 sc, .slice AR nr rc] rfl rfl b9 (walk_sz _ _ _ _) rfl (img_one _ _ _ _ _ _ _ _) ?_
      intro w3 b9' o9
      have hpi : PI w w3 w.heap.size xa xl xs xr 0 nr AS AR sc rc := ⟨Below.only lq o9 (Nat.le_refl _), b9', hS.only_ne o9 (fun ad e => by have := fS0 ad e; omega), hR.only_ne o9 (fun ad e => by have := fR0 ad e; omega), fS, fR, Nat.le_refl _⟩
      replace lq := Below.only lq o9 (Nat.le_refl _)
      refine hK.out _ _ (HC.out _ lq) (fun hHeld => ?_)
      clear hK K'
      try simp only [Act.put]
      refine wpAnyH_take (i := 23) (oi := ⟨some 10, .assign (.tmp 43), _, _, _, none⟩) (v := .int .i64 0) rfl (by kernel_rfl) (by kernel_rfl) (by kernel_rfl) (fun _ _ _ h => h) (Or.inl ⟨by rfl, fun _ _ => rfl⟩) hHeld ?_
      simp only [Act.put, List.setIfInBounds_toArray, List.set_cons_zero, List.set_cons_succ]
      refine wpAnyH_done (by kernel_rfl) ?_ _
      clear hHeld
      go_wp2
      go_meet
      exact ⟨_, AS, AR, sc, rc, rfl, rfl, hpi⟩
  case rest =>
    obtain ⟨g, AS, AR, sc, rc, rfl, rfl, hp⟩ := hcut
    obtain ⟨wx, hwx⟩ : ∃ x, x = wc := ⟨_, rfl⟩
    have HPI := Lib.hid fun w' s' (k : St base B wx s w' s') => hp.st H.out (hwx ▸ k)
    have hx := H.out.later hp.l
    have sx := St.later (B := B) s hx.lt (later0 wc)
    rw [← hwx] at hx sx hp ⊢
    have hp1 := hp.l
    have HG := Lib.hid hp.fg
    have e3 := hp.bw.cell (j := 3) (v := .slice AR nr rc) rfl
    have SW := Lib.hid (St.later (B := B) s H.out.lt hp1)
    clear hp hwx wc
    go_wp2
    go_loopw [47] (fun i wr => ∃ (k : Nat) (v : Value), k ≤ nr ∧ i = .int .i64 (k : Int) ∧ At base wr B { s with av := v } A n c ws (ac ++ raL (xr.take k)) b ∧ St base B wx s wr { s with av := v }) (fun i _ => nr - (intOf i).toNat)
    case atStart => exact ⟨0, s.av, by omega, rfl, by rw [List.take_zero, show raL [] = [] from rfl, List.append_nil]; exact hx, sx⟩
    case round =>
      clear hx sx e3
      rename_i wr
      obtain ⟨k, v, hk, rfl, hA, hS⟩ := hrel
      obtain ⟨p1, p2, p3⟩ := HPI.out _ _ hS
      by_cases hlt : k < nr
      · have kl : (k : Int) < (nr : Int) := by omega
        have hkl : k < xr.length := by omega
        obtain ⟨ad, u, rfl, _, hu, hc⟩ := p3.at1 hlt
        rw [N64_at xr k hkl] at hu
        have HSU := Lib.hid (raL_succ xr k hkl)
        obtain ⟨a, ha⟩ : ∃ a, a = xr[k] := ⟨_, rfl⟩
        rw [← ha] at hu HSU
        have hu2 : u = .int .i64 a := (Option.some.inj hu).symm
        rw [hu2] at hc
        have HT := Lib.hid (touch_any hA (by rw [List.length_append, raL_len, List.length_take]; omega) a 4 false)
        clear hu hu2 ha p1 p2 p3 hA hk
        go_wp2_with (go_at_call 139; refine HT.out.mono ?_; rintro e w5 ⟨rfl, v2, hA, hS2⟩)
        go_roundw
        case rel => exact ⟨k + 1, v2, by omega, by go_num, by rw [HSU.out, ← List.append_assoc]; exact hA, hS.trans hS2⟩
        case measure => simp [intOf]; omega
      · obtain rfl : k = nr := by omega
        rw [List.take_of_length_le (Nat.le_of_eq hnr)] at hA
        have e2 := p1.cell (j := 2) (v := .slice AS 0 sc) rfl
        clear p1 p2 p3
        have ht0 : raL xr = raL xr := rfl
        go_wp2
        go_loopw [58] (fun i wr => ∃ (k : Nat) (v u : Value), k ≤ 0 ∧ i = .int .i64 (k : Int) ∧ At base wr B { s with av := v, wv := u } A n c (ws ++ xs.take k) (ac ++ raL xr ++ saL (xs.take k)) b ∧ St base B wx s wr { s with av := v, wv := u }) (fun i _ => 0 - (intOf i).toNat)
        case atStart => exact ⟨0, v, s.wv, by omega, rfl, by rw [List.take_zero, show saL [] = [] from rfl, List.append_nil, List.append_nil]; exact hA, hS⟩
        case round =>
          clear hA hS e2 ht0
          obtain ⟨k, v, u, hk2, rfl, hA, hS⟩ := hrel
          obtain ⟨p1, p2, p3⟩ := HPI.out _ _ hS
          by_cases hlt2 : k < 0
          · exact absurd hlt2 (Nat.not_lt_zero _)
          · obtain rfl : 0 = k := by omega
            rw [List.take_of_length_le (Nat.le_of_eq hns), List.append_assoc] at hA
            replace hS := SW.out.trans hS
            clear hlt hk
            have hgB : g ≠ B := fun e => by have := HG.out; have := H.out.bx.lt; omega
            go_wp2
            replace p1 := p1.drew
            replace p2 := p2.drew
            replace hS := hS.trans (St.later _ hA.lt (Below.drew (later0 _)))
            replace hA := hA.later (Below.drew (later0 _))
            have e30 := hA.bx.cell (j := 30) (v := .slice A n c) (by rw [← hA.hm]; rfl)
            refine wp_region_held_drew (S := fun w' => w'.cell? ⟨g, 2, none⟩ = some (.slice AS 0 sc)) (by kernel_rfl) (p1.cell (j := 2) rfl) (fun hHeld => ?_)
            refine wpAnyH_take (i := 0) (oi := ⟨some 72, .move (.tmp 0), _, _, _, none⟩) (v := .pointer (some ⟨B, 0, none⟩)) rfl (by kernel_rfl) (by kernel_rfl) (by kernel_rfl) (fun _ _ _ h => h) (Or.inl ⟨by rfl, fun _ _ => rfl⟩) hHeld ?_
            simp only [Act.put, List.setIfInBounds_toArray, List.set_cons_zero, List.set_cons_succ]
            refine wpAnyH_take (i := 1) (oi := ⟨some 73, .move (.tmp 0), _, _, _, none⟩) (v := .pointer (some ⟨B, 0, none⟩)) rfl (by kernel_rfl) (by kernel_rfl) (by kernel_rfl) (fun _ _ _ h => h) (Or.inl ⟨by rfl, fun _ _ => rfl⟩) hHeld ?_
            simp only [Act.put, List.setIfInBounds_toArray, List.set_cons_zero, List.set_cons_succ]
            refine wpAnyH_take (i := 2) (oi := ⟨some 74, .nilCheck (.tmp 73), _, _, _, none⟩) (v := .pointer (some ⟨B, 0, none⟩)) rfl (by kernel_rfl) (by kernel_rfl) (by kernel_rfl) (fun _ _ _ h => h) (Or.inl ⟨by rfl, fun w _ => by go_simp⟩) hHeld ?_
            simp only [Act.put, List.setIfInBounds_toArray, List.set_cons_zero, List.set_cons_succ]
            refine wpAnyH_take (i := 3) (oi := ⟨some 75, .fieldAddr 86 (.tmp 74) 1, _, _, _, none⟩) (v := .pointer (some ⟨B, 30, none⟩)) rfl (by kernel_rfl) (by kernel_rfl) (by kernel_rfl) (fun _ _ _ h => h) (Or.inl ⟨by rfl, fun w _ => by go_simp⟩) hHeld ?_
            simp only [Act.put, List.setIfInBounds_toArray, List.set_cons_zero, List.set_cons_succ]
            refine wpAnyH_take (i := 5) (oi := ⟨some 77, .fieldAddr 159 (.tmp 9) 2, _, _, _, none⟩) (v := .pointer (some ⟨g, 2, none⟩)) rfl (by kernel_rfl) (by kernel_rfl) (by kernel_rfl) (fun _ _ _ h => h) (Or.inl ⟨by rfl, fun w _ => by go_simp⟩) hHeld ?_
            simp only [Act.put, List.setIfInBounds_toArray, List.set_cons_zero, List.set_cons_succ]
            refine wpAnyH_take (i := 6) (oi := ⟨some 78, .load 33 (.tmp 77), _, _, _, none⟩) (v := .slice AS 0 sc) rfl (by kernel_rfl) (by kernel_rfl) (by kernel_rfl) (fun _ _ _ h => h) (Or.inl ⟨by rfl, fun w hSw => by have e1 := hSw; clear hSw; go_simp⟩) hHeld ?_
            simp only [Act.put, List.setIfInBounds_toArray, List.set_cons_zero, List.set_cons_succ]
            refine wpAnyH_ready (rs := [4]) (by kernel_rfl) (by simp) (AllReadyH.cons (o := ⟨some 76, .load 29 (.tmp 75), _, _, _, none⟩) rfl (fun K' hK => ?_) AllReadyH.nil)
            go_simp
            refine hK.out _ _ (p1.cell (j := 2) rfl) (fun hHeld => ?_)
            clear hK K'
            try simp only [Act.put, List.setIfInBounds_toArray, List.set_cons_zero, List.set_cons_succ]
            refine wpAnyH_ready (rs := [7]) (by kernel_rfl) (by simp) (AllReadyH.cons (o := ⟨some 79, .call { callee := .value (.func 52), args := #[.tmp 76, .tmp 78], argTypes := #[29, 33] }, _, _, _, none⟩) rfl (fun K' hK => ?_) AllReadyH.nil)
            go_simp
            refine (after_nil A n c sc AS _ (.inr trivial)).mono ?_
            rintro e w7 ⟨rfl, l7⟩
            replace p1 := p1.keep l7
            have hA7 := hA.later l7
            have hS7 := hS.trans (St.later _ hA.lt l7)
            obtain ⟨q1, q2⟩ := hA7.mem (c' := c) hA7.sl hA7.sep
            have e30b := hA7.bx.cell (j := 30) (v := .slice A n c) (by rw [← hA7.hm]; rfl)
            have f30b := hA7.bx.frz 30
            have ngB : g ≠ B := hgB
            refine hK.out _ _ (p1.cell (j := 2) rfl) (fun hHeld => ?_)
            clear hK K'
            try simp only [Act.put, List.setIfInBounds_toArray, List.set_cons_zero, List.set_cons_succ]
            refine wpAnyH_take (i := 8) (oi := ⟨some 80, .nilCheck (.tmp 72), _, _, _, none⟩) (v := .pointer (some ⟨B, 0, none⟩)) rfl (by kernel_rfl) (by kernel_rfl) (by kernel_rfl) (fun _ _ _ h => h) (Or.inl ⟨by rfl, fun w _ => by go_simp⟩) hHeld ?_
            simp only [Act.put, List.setIfInBounds_toArray, List.set_cons_zero, List.set_cons_succ]
            refine wpAnyH_take (i := 9) (oi := ⟨some 81, .fieldAddr 86 (.tmp 80) 1, _, _, _, none⟩) (v := .pointer (some ⟨B, 30, none⟩)) rfl (by kernel_rfl) (by kernel_rfl) (by kernel_rfl) (fun _ _ _ h => h) (Or.inl ⟨by rfl, fun w _ => by go_simp⟩) hHeld ?_
            simp only [Act.put, List.setIfInBounds_toArray, List.set_cons_zero, List.set_cons_succ]
            refine wpAnyH_ready (rs := [10]) (by kernel_rfl) (by simp) (AllReadyH.cons (o := ⟨none, .store 29 (.tmp 81) (.tmp 79), _, _, _, none⟩) rfl (fun K' hK => ?_) AllReadyH.nil)
            go_simp
            replace p1 := p1.set_other ⟨B, 30, none⟩ (.slice A n c) ngB
            clear e30b f30b
            refine hK.out _ _ (p1.cell (j := 2) rfl) (fun hHeld => ?_)
            clear hK K'
            try simp only [Act.put, List.setIfInBounds_toArray, List.set_cons_zero, List.set_cons_succ]
            refine wpAnyH_done (by kernel_rfl) ?_ _
            clear hHeld
            have e0x := p1.cell (j := 0) (v := .int .i64 xa) rfl
            go_wp2
            go_ret
            exact ⟨rfl, v, u, _, _, q1, hS7.trans q2⟩
end Go.Proofs.YtidhodalnikhlaaGreatDoor
