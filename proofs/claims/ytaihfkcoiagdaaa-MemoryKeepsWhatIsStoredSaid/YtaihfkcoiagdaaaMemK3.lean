/-
  THE WALK OF the reference's Apply.
-/
import Derived.Test.YtaihfkcoiagdaaaMemK2
namespace Go.Proofs.Ytaihfkcoiagdaaa
open Go.RowKit Go.ChangeShapes Go.WideShapes Go.ChangeAt

theorem yieldsIf_load_addr {P : Program} {ops : Array Oper} {S : World → Prop} {op : Oper} {a : Act} (hw : Region.wanted op (yielded ops a.tmps) = true) (ty : TypeId) (x : Operand) (ho : op.op = .load ty x)
    (ad : Addr) (hx : a.eval x = .pointer (some ad)) (cs : List Value) (d : TypeDesc) (hS : ∀ w, S w → ∀ j v, cs[j]? = some v → w.cell? (ad.add j) = some v)
    (hu : P.underlying ty = some d) (hd : d.isRow = true) (hi : (P.info? ty).map (·.size) = some cs.length) : YieldsIf P ops S op (.agg cs.toArray) a :=
  .inl ⟨hw, fun w hw' => by
    unfold execOp
    simp only [ho, hx, Sem.run_bind, Sem.run_pure, run_loadAt_addr (P := P) w ad ty cs d (hS w hw') hu hd hi, Result.andThen_ok]⟩
theorem sl_set2 {w : World} {size n B : Nat} {A : Option Addr} {xs : List Value} (h : Sl w size A n xs) (hne : ∀ ad, A = some ad → ad.block ≠ B) (u v : Value) : Sl ((w.setCell ⟨B, 0, none⟩ u).setCell ⟨B, 1, none⟩ v) size A n xs :=
  (h.only_ne (Only.set w B 0 u) hne).only_ne (Only.set _ B 1 v) hne
set_option maxRecDepth 100000 in
set_option maxHeartbeats 4000000 in
theorem rapply_any (A : Option Addr) (n c m cl : Nat) (AL : Option Addr) (L : List (Int × Int × Int)) (b : Wm.Bs) (w : World) (hs : Sl w 128 A n (U b)) (hb : Wm.isBs b) (hn1 : 1 ≤ n) (hn : n ≤ 64) (hnc : n ≤ c) (hc : c ≤ maxLen) (hsl : Sl w 3 AL m (Ws L)) (hL : L.length = m) (hW : ∀ x ∈ L, isW x) (hm : m ≤ 1000000) :
    Calls Try.prog 26 #[.agg #[.slice A n c], .slice AL m cl] w (GotS n ((Mm.ap b L).getD b) (Mm.ap b L).isSome w) := by
  have HW := Lib.hid hW
  obtain ⟨R, hR⟩ : ∃ R, R = Mm.ap b L := ⟨_, rfl⟩
  rw [← hR]
  have HR := Lib.hid hR
  have HL := Lib.hid hL
  have HBB := Lib.hid (show Wm.isBs b from hb)
  have HSL := Lib.hid fun w' (hl : Later w w') => hsl.keep hl
  have HSA := Lib.hid fun w' (hl : Later w w') => hs.keep hl
  have HNC := Lib.hid (show n ≤ c ∧ c ≤ maxLen from ⟨hnc, hc⟩)
  have HAL := Lib.hid (show ∀ ad, A = some ad → ad.block < w.heap.size from fun ad e => by obtain ⟨_, e', h, _⟩ := hs.2 (by omega); rw [e'] at e; cases e; exact h)
  have bP := ((Blk.new w 24 #[.slice A n c] [.slice A n c] rfl).alloc (.cells #[.slice none 0 0, .bool false] 38)).alloc (.cells #[.slice A n c, .bool true] 38)
  have bR := (Blk.new' (w.alloc (.cells #[.slice A n c] 24)) (w.heap.size + 1) 38 #[.slice none 0 0, .bool false] [.slice none 0 0, .bool false] (by simp) rfl).alloc (.cells #[.slice A n c, .bool true] 38)
  have b5 := Blk.new' ((w.alloc (.cells #[.slice A n c] 24)).alloc (.cells #[.slice none 0 0, .bool false] 38)) (w.heap.size + 1 + 1) 38 #[.slice A n c, .bool true] [.slice A n c, .bool true] (by simp) rfl
  have l0 : Later w (((w.alloc (.cells #[.slice A n c] 24)).alloc (.cells #[.slice none 0 0, .bool false] 38)).alloc (.cells #[.slice A n c, .bool true] 38)) := ((later1 w _).alloc (by simp) _).alloc (by simp; omega) _
  clear hW hR hL hb hsl hs hnc hc
  go_enter Try.func26, Try.ntmps26
  go_wp2
  go_loopw [6] (fun i wr => ∃ (k : Nat) (x : Wm.Bs) (A1 : Option Addr) (c1 : Nat), k ≤ m ∧ i = .int .i64 (k : Int) ∧ Hid (Mm.ap b (L.take k) = some x) ∧ Sl wr 128 A1 n (U x) ∧ Hid (n ≤ c1 ∧ c1 ≤ maxLen ∧ ∀ ad, A1 = some ad → ad.block ≠ w.heap.size + 1 ∧ ad.block ≠ w.heap.size + 1 + 1) ∧ Blk wr w.heap.size 24 [.slice A n c] ∧ Blk wr (w.heap.size + 1) 38 [.slice none 0 0, .bool false] ∧ Blk wr (w.heap.size + 1 + 1) 38 [.slice A1 n c1, .bool true] ∧ Later w wr) (fun i _ => m - (intOf i).toNat)
  case atStart => exact ⟨0, b, A, c, Nat.zero_le _, rfl, Lib.hid (by rw [List.take_zero]; rfl), HSA.out _ l0, Lib.hid ⟨HNC.out.1, HNC.out.2, fun ad e => by have := HAL.out ad e; omega⟩, bP, bR, b5, l0⟩
  case round =>
    clear bP bR b5 l0
    rename_i wr
    obtain ⟨k, x, A1, c1, hk, rfl, HA, sl1, HN1, bP, bR, b5, lr⟩ := hrel
    by_cases hlt : k < m
    · have hkl : k < L.length := by rw [HL.out]; exact hlt
      obtain ⟨adl, rfl⟩ := (HSL.out _ lr).addr (by omega)
      have HCk := Lib.hid fun w' (hl : Later w w') => (HSL.out w' hl).write hkl HL.out
      have hw := HW.out _ (List.getElem_mem hkl)
      have hst := ap_take_succ hkl HA.out
      have hxl : x.length = n * 128 := by have := sl1.1; rwa [U_length] at this
      rw [hxl] at hst
      obtain ⟨a, ha⟩ : ∃ a, a = L[k].1 := ⟨_, rfl⟩
      obtain ⟨s, hs'⟩ : ∃ s, s = L[k].2.1 := ⟨_, rfl⟩
      obtain ⟨v, hv⟩ : ∃ v, v = L[k].2.2 := ⟨_, rfl⟩
      rw [← ha, ← hs', ← hv] at HCk hst
      have hwa : isW (a, s, v) := by rw [ha, hs', hv]; exact hw
      clear ha hs' hv hw hxl
      have kn : (k : Int) < (m : Int) := by omega
      have c50 := b5.drew.cell (j := 0) (v := .slice A1 n c1) rfl
      by_cases ht : Mm.There (n * 128) a s
      · have HST := Lib.hid fun (A' : Option Addr) (c' : Nat) (w' : World) (h : Sl w' 128 A' n (U x)) (_ : Later w w') => (show Calls Try.prog 15 #[.agg #[.slice A' n c'], .agg #[.int .i64 a, .int .i64 s, .int .u32 v]] w' fun e w'' => ∃ g c', e = .returned (.agg #[.slice (some ⟨g, 0, none⟩) n c', .bool true]) ∧ w'.heap.size ≤ g ∧ n ≤ c' ∧ c' ≤ maxLen ∧ Draft w'' g n (Mm.put x a.toNat (Mm.el s.toNat v)) ∧ Later w' w'' by
          obtain ⟨a', rfl⟩ := Int.eq_ofNat_of_zero_le ht.2.1
          obtain ⟨s', rfl⟩ := Int.eq_ofNat_of_zero_le (show 0 ≤ s by have := ht.1; omega)
          exact rstore_there A' n c' a' s' v x w' h hn1 hn ht hwa.2.2.1 hwa.2.2.2)
        rw [if_pos ht] at hst
        have HST' := Lib.hid hst
        clear hst
        go_wp2
        replace bP := bP.drew; replace bR := bR.drew; replace b5 := b5.drew; replace lr := lr.drew; replace sl1 := sl1.drew
        refine wp_region_held_drew (S := fun w' => ∀ j u, [Value.int .i64 a, .int .i64 s, .int .u32 v][j]? = some u → w'.cell? ((adl.add (k * 3)).add j) = some u) (by kernel_rfl) (HCk.out _ lr) (fun hHeld => ?_)
        refine wpAnyH_take (i := 0) (oi := ⟨some 15, .fieldAddr 38 (.tmp 5) 0, _, _, _, none⟩) (v := .pointer (some ⟨w.heap.size + 1 + 1, 0, none⟩)) rfl (by kernel_rfl) (by kernel_rfl) (by kernel_rfl) (fun _ _ _ h => h) (Or.inl ⟨by rfl, fun w _ => by go_simp⟩) hHeld ?_
        simp only [Act.put, List.setIfInBounds_toArray, List.set_cons_zero, List.set_cons_succ]
        refine wpAnyH_take (i := 2) (oi := ⟨some 17, .move (.tmp 1), _, _, _, none⟩) (v := .slice (some adl) m cl) rfl (by kernel_rfl) (by kernel_rfl) (by kernel_rfl) (fun _ _ _ h => h) (Or.inl ⟨by rfl, fun _ _ => rfl⟩) hHeld ?_
        simp only [Act.put, List.setIfInBounds_toArray, List.set_cons_zero, List.set_cons_succ]
        refine wpAnyH_take (i := 3) (oi := ⟨some 18, .move (.tmp 6), _, _, _, none⟩) (v := .int .i64 (k : Int)) rfl (by kernel_rfl) (by kernel_rfl) (by kernel_rfl) (fun _ _ _ h => h) (Or.inl ⟨by rfl, fun _ _ => rfl⟩) hHeld ?_
        simp only [Act.put, List.setIfInBounds_toArray, List.set_cons_zero, List.set_cons_succ]
        refine wpAnyH_take (i := 4) (oi := ⟨some 19, .indexAddr 43 (.tmp 17) (.tmp 18), _, _, _, none⟩) (v := .pointer (some (adl.add (k * 3)))) rfl (by kernel_rfl) (by kernel_rfl) (by kernel_rfl) (fun _ _ _ h => h) (Or.inl ⟨by rfl, fun w _ => by go_simp⟩) hHeld ?_
        simp only [Act.put, List.setIfInBounds_toArray, List.set_cons_zero, List.set_cons_succ]
        refine wpAnyH_take (i := 5) (oi := ⟨some 20, .load 27 (.tmp 19), _, _, _, none⟩) (v := .agg #[.int .i64 a, .int .i64 s, .int .u32 v]) rfl (by kernel_rfl) (by kernel_rfl) (by kernel_rfl) (fun _ _ _ h => h) (yieldsIf_load_addr (by rfl) _ _ rfl _ (by rfl) [.int .i64 a, .int .i64 s, .int .u32 v] _ (fun w h => h) Try.underlying27 rfl (w_sz _ _ _)) hHeld ?_
        simp only [Act.put, List.setIfInBounds_toArray, List.set_cons_zero, List.set_cons_succ]
        refine wpAnyH_ready (rs := [1]) (by kernel_rfl) (by simp) (AllReadyH.cons (o := ⟨some 16, .load 24 (.tmp 15), _, _, _, none⟩) rfl (fun K' hK => ?_) (AllReadyH.nil))
        go_simp
        refine hK.out _ _ (HCk.out _ lr) (fun hHeld => ?_)
        clear hK K'
        try simp only [Act.put, List.setIfInBounds_toArray, List.set_cons_zero, List.set_cons_succ]
        refine wpAnyH_ready (rs := [6]) (by kernel_rfl) (by simp) (AllReadyH.cons (o := ⟨some 21, .call { callee := .value (.func 15), args := #[.tmp 16, .tmp 20], argTypes := #[24, 27] }, _, _, _, none⟩) rfl (fun K' hK => ?_) (AllReadyH.nil))
        go_simp
        refine (HST.out A1 c1 _ sl1 lr).mono ?_
        rintro e w4 ⟨g4, c4, rfl, m1, m2, m3, m4, m5⟩
        have hg4 : w.heap.size + 1 + 1 < g4 := Nat.lt_of_lt_of_le b5.lt m1
        replace bP := bP.keep m5
        replace bR := bR.keep m5
        replace b5 := b5.keep m5
        replace lr := Later.trans_ lr m5
        have x0 := b5.cell (j := 0) (v := .slice A1 n c1) rfl
        have x1 := b5.cell (j := 1) (v := .bool true) rfl
        have y0 := b5.frz 0
        have y1 := b5.frz 1
        clear c50
        refine hK.out _ _ (HCk.out _ lr) (fun hHeld => ?_)
        clear hK K'
        try simp only [Act.put, List.setIfInBounds_toArray, List.set_cons_zero, List.set_cons_succ]
        refine wpAnyH_ready (rs := [7]) (by kernel_rfl) (by simp) (AllReadyH.cons (o := ⟨none, .store 38 (.tmp 5) (.tmp 21), _, _, _, none⟩) rfl (fun K' hK => ?_) (AllReadyH.nil))
        go_simp
        replace bP := (bP.set_other ⟨w.heap.size + 1 + 1, 0, none⟩ (.slice (some ⟨g4, 0, none⟩) n c4) (by simp; omega)).set_other ⟨w.heap.size + 1 + 1, 1, none⟩ (.bool true) (by simp; omega)
        replace bR := (bR.set_other ⟨w.heap.size + 1 + 1, 0, none⟩ (.slice (some ⟨g4, 0, none⟩) n c4) (by simp)).set_other ⟨w.heap.size + 1 + 1, 1, none⟩ (.bool true) (by simp)
        have b5n := (b5.set 0 (.slice (some ⟨g4, 0, none⟩) n c4)).set 1 (.bool true)
        replace lr : Later w (World.setCell (World.setCell _ ⟨w.heap.size + 1 + 1, 0, none⟩ (.slice (some ⟨g4, 0, none⟩) n c4)) ⟨w.heap.size + 1 + 1, 1, none⟩ (.bool true)) := (lr.setCell (by simp; omega) _).setCell (by simp; omega) _
        clear x0 x1 y0 y1
        refine hK.out _ _ (HCk.out _ lr) (fun hHeld => ?_)
        clear hK K'
        try simp only [Act.put, List.setIfInBounds_toArray, List.set_cons_zero, List.set_cons_succ]
        refine wpAnyH_done (by kernel_rfl) ?_ _
        clear hHeld
        have cB := b5n.cell (j := 1) (v := .bool true) rfl
        go_wp2
        go_roundw
        case rel => exact ⟨k + 1, _, _, _, by omega, by go_num, HST', sl_set2 m4.sl (fun _ e => by cases e; show g4 ≠ w.heap.size + 1 + 1; omega) _ _, Lib.hid ⟨m2, m3, fun _ e => by cases e; exact ⟨by show g4 ≠ w.heap.size + 1; omega, by show g4 ≠ w.heap.size + 1 + 1; omega⟩⟩, bP, bR, b5n, lr⟩
        case measure => simp [intOf]; omega
      · have HST := Lib.hid fun (A' : Option Addr) (c' : Nat) (w' : World) (h : Sl w' 128 A' n (U x)) (_ : Later w w') (hq : n ≤ c' ∧ c' ≤ maxLen) => (show Calls Try.prog 15 #[.agg #[.slice A' n c'], .agg #[.int .i64 a, .int .i64 s, .int .u32 v]] w' (GotS n x false w') by
          obtain ⟨ad', rfl⟩ := h.addr (by omega)
          exact rstore_none ad' n c' a s v x w' h hn1 hn hq.1 hq.2 hwa.1 ht)
        rw [if_neg ht] at hst
        have HN := Lib.hid (HR.out.trans (ap_none hst))
        clear hst
        go_wp2
        replace bP := bP.drew; replace bR := bR.drew; replace b5 := b5.drew; replace lr := lr.drew; replace sl1 := sl1.drew
        refine wp_region_held_drew (S := fun w' => ∀ j u, [Value.int .i64 a, .int .i64 s, .int .u32 v][j]? = some u → w'.cell? ((adl.add (k * 3)).add j) = some u) (by kernel_rfl) (HCk.out _ lr) (fun hHeld => ?_)
        refine wpAnyH_take (i := 0) (oi := ⟨some 15, .fieldAddr 38 (.tmp 5) 0, _, _, _, none⟩) (v := .pointer (some ⟨w.heap.size + 1 + 1, 0, none⟩)) rfl (by kernel_rfl) (by kernel_rfl) (by kernel_rfl) (fun _ _ _ h => h) (Or.inl ⟨by rfl, fun w _ => by go_simp⟩) hHeld ?_
        simp only [Act.put, List.setIfInBounds_toArray, List.set_cons_zero, List.set_cons_succ]
        refine wpAnyH_take (i := 2) (oi := ⟨some 17, .move (.tmp 1), _, _, _, none⟩) (v := .slice (some adl) m cl) rfl (by kernel_rfl) (by kernel_rfl) (by kernel_rfl) (fun _ _ _ h => h) (Or.inl ⟨by rfl, fun _ _ => rfl⟩) hHeld ?_
        simp only [Act.put, List.setIfInBounds_toArray, List.set_cons_zero, List.set_cons_succ]
        refine wpAnyH_take (i := 3) (oi := ⟨some 18, .move (.tmp 6), _, _, _, none⟩) (v := .int .i64 (k : Int)) rfl (by kernel_rfl) (by kernel_rfl) (by kernel_rfl) (fun _ _ _ h => h) (Or.inl ⟨by rfl, fun _ _ => rfl⟩) hHeld ?_
        simp only [Act.put, List.setIfInBounds_toArray, List.set_cons_zero, List.set_cons_succ]
        refine wpAnyH_take (i := 4) (oi := ⟨some 19, .indexAddr 43 (.tmp 17) (.tmp 18), _, _, _, none⟩) (v := .pointer (some (adl.add (k * 3)))) rfl (by kernel_rfl) (by kernel_rfl) (by kernel_rfl) (fun _ _ _ h => h) (Or.inl ⟨by rfl, fun w _ => by go_simp⟩) hHeld ?_
        simp only [Act.put, List.setIfInBounds_toArray, List.set_cons_zero, List.set_cons_succ]
        refine wpAnyH_take (i := 5) (oi := ⟨some 20, .load 27 (.tmp 19), _, _, _, none⟩) (v := .agg #[.int .i64 a, .int .i64 s, .int .u32 v]) rfl (by kernel_rfl) (by kernel_rfl) (by kernel_rfl) (fun _ _ _ h => h) (yieldsIf_load_addr (by rfl) _ _ rfl _ (by rfl) [.int .i64 a, .int .i64 s, .int .u32 v] _ (fun w h => h) Try.underlying27 rfl (w_sz _ _ _)) hHeld ?_
        simp only [Act.put, List.setIfInBounds_toArray, List.set_cons_zero, List.set_cons_succ]
        refine wpAnyH_ready (rs := [1]) (by kernel_rfl) (by simp) (AllReadyH.cons (o := ⟨some 16, .load 24 (.tmp 15), _, _, _, none⟩) rfl (fun K' hK => ?_) (AllReadyH.nil))
        go_simp
        refine hK.out _ _ (HCk.out _ lr) (fun hHeld => ?_)
        clear hK K'
        try simp only [Act.put, List.setIfInBounds_toArray, List.set_cons_zero, List.set_cons_succ]
        refine wpAnyH_ready (rs := [6]) (by kernel_rfl) (by simp) (AllReadyH.cons (o := ⟨some 21, .call { callee := .value (.func 15), args := #[.tmp 16, .tmp 20], argTypes := #[24, 27] }, _, _, _, none⟩) rfl (fun K' hK => ?_) (AllReadyH.nil))
        go_simp
        refine (HST.out A1 c1 _ sl1 lr ⟨HN1.out.1, HN1.out.2.1⟩).mono ?_
        rintro e w4 ⟨A4, c4, rfl, m2, m3, m4, m5⟩
        replace bP := bP.keep m5
        replace bR := bR.keep m5
        replace b5 := b5.keep m5
        replace lr := Later.trans_ lr m5
        have x0 := b5.cell (j := 0) (v := .slice A1 n c1) rfl
        have x1 := b5.cell (j := 1) (v := .bool true) rfl
        have y0 := b5.frz 0
        have y1 := b5.frz 1
        clear c50
        refine hK.out _ _ (HCk.out _ lr) (fun hHeld => ?_)
        clear hK K'
        try simp only [Act.put, List.setIfInBounds_toArray, List.set_cons_zero, List.set_cons_succ]
        refine wpAnyH_ready (rs := [7]) (by kernel_rfl) (by simp) (AllReadyH.cons (o := ⟨none, .store 38 (.tmp 5) (.tmp 21), _, _, _, none⟩) rfl (fun K' hK => ?_) (AllReadyH.nil))
        go_simp
        replace bP := (bP.set_other ⟨w.heap.size + 1 + 1, 0, none⟩ (.slice A4 n c4) (by simp; omega)).set_other ⟨w.heap.size + 1 + 1, 1, none⟩ (.bool false) (by simp; omega)
        replace bR := (bR.set_other ⟨w.heap.size + 1 + 1, 0, none⟩ (.slice A4 n c4) (by simp)).set_other ⟨w.heap.size + 1 + 1, 1, none⟩ (.bool false) (by simp)
        have b5n := (b5.set 0 (.slice A4 n c4)).set 1 (.bool false)
        replace lr : Later w (World.setCell (World.setCell _ ⟨w.heap.size + 1 + 1, 0, none⟩ (.slice A4 n c4)) ⟨w.heap.size + 1 + 1, 1, none⟩ (.bool false)) := (lr.setCell (by simp; omega) _).setCell (by simp; omega) _
        clear x0 x1 y0 y1
        refine hK.out _ _ (HCk.out _ lr) (fun hHeld => ?_)
        clear hK K'
        try simp only [Act.put, List.setIfInBounds_toArray, List.set_cons_zero, List.set_cons_succ]
        refine wpAnyH_done (by kernel_rfl) ?_ _
        clear hHeld
        have cB := b5n.cell (j := 1) (v := .bool false) rfl
        have cP := bP.cell (j := 0) (v := .slice A n c) rfl
        have c0 := bR.cell (j := 0) (v := .slice none 0 0) rfl
        have c1 := bR.cell (j := 1) (v := .bool false) rfl
        have f0 := bR.frz 0
        have f1 := bR.frz 1
        go_wp2
        refine bodyPost_ret (results_blk Try.results26 _ _ (w.heap.size + 1) 38 [.slice A n c, .bool false] _ rfl ((bR.set 0 _).set 1 _) Try.underlying38 rfl (sto_sz _ _)) rfl ⟨_, _, by rw [HN.out]; rfl, HNC.out.1, HNC.out.2, ?_, (lr.setCell (by simp) _).setCell (by simp) _⟩
        rw [HN.out]
        exact sl_set2 (HSA.out _ lr) (fun ad e => by have := HAL.out ad e; omega) _ _
    · obtain rfl : k = m := by omega
      have hA := HA.out
      rw [List.take_of_length_le (by rw [HL.out]; exact Nat.le_refl _)] at hA
      have HRx := Lib.hid (HR.out.trans hA)
      have nlt : ¬ ((k : Int) < (k : Int)) := by omega
      have x0 := b5.cell (j := 0) (v := .slice A1 n c1) rfl
      have x1 := b5.cell (j := 1) (v := .bool true) rfl
      have c0 := bR.cell (j := 0) (v := .slice none 0 0) rfl
      have d1 := bR.cell (j := 1) (v := .bool false) rfl
      have f0 := bR.frz 0
      have f1 := bR.frz 1
      clear hA
      go_wp2
      refine bodyPost_ret (results_blk Try.results26 _ _ (w.heap.size + 1) 38 [.slice A1 n c1, .bool true] _ rfl ((bR.set 0 _).set 1 _) Try.underlying38 rfl (sto_sz _ _)) rfl ⟨_, _, by rw [HRx.out]; rfl, HN1.out.1, HN1.out.2.1, ?_, (lr.setCell (by simp) _).setCell (by simp) _⟩
      rw [HRx.out]
      exact sl_set2 sl1 (fun ad e => (HN1.out.2.2 ad e).1) _ _
end Go.Proofs.Ytaihfkcoiagdaaa
