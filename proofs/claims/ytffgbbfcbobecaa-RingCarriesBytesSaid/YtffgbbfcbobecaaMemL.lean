/-
  THE WALK OF Diff.
-/
import Derived.Lib.MinMax
import Derived.Test.YtffgbbfcbobecaaMemK3
import Derived.ChangeKeysEq
namespace Go.Proofs.Ytffgbbfcbobecaa
open Go.RowKit Go.ChangeShapes Go.WideShapes Go.ChangeAt

theorem int_info : (Try.prog.info? 3).map (fun i => (i.zero, i.size, i.bytes)) = some (some (.int .i64 0), 1, 8) := by kernel_rfl
/-- Numbers as cells. -/
def Ni (l : List Nat) : List Value := l.map fun i : Nat => Value.int .i64 (i : Int)
theorem ni_app {w : World} {B : Nat} {e : TypeId} {v : Value} {l : List Nat} {x : Nat} (h : w.ownsRow B e 1 v (l.length + 1) (Ni l ++ [.int .i64 (x : Int)])) : w.ownsRow B e 1 v (l ++ [x]).length (Ni (l ++ [x])) := by
  rw [List.length_append, show Ni (l ++ [x]) = Ni l ++ [.int .i64 (x : Int)] by unfold Ni; simp]
  exact h
/-- What hands back a list of numbers. -/
def GotI (l : List Nat) (w : World) (e : Ending) (w' : World) : Prop := ∃ A c, e = .returned (.slice A l.length c) ∧ l.length ≤ c ∧ c ≤ maxLen ∧ Sl w' 1 A l.length (Ni l) ∧ Later w w'
theorem page_sz {x : Wm.Bs} (h : x.length = 128) : (Try.prog.info? 106).map (·.size) = some (U x).length := by rw [U_length, h]; kernel_rfl
theorem items_eq (d : Nat) (x y : Wm.Bs) (w : World) : ∀ is : List Nat, (∀ i ∈ is, i < x.length ∧ i < y.length) →
    (Op.eqItems (d + 1) 5 1 (U x).toArray (U y).toArray is).run Try.prog w = .ok (is.all fun i => x.getD i 0 == y.getD i 0) w := by
  have hag : (isAgg 5).run Try.prog w = .ok false w := by kernel_rfl
  intro is
  induction is with
  | nil => intro _; simp [Op.eqItems]
  | cons i r ih =>
    intro h
    have hi := h i (List.mem_cons_self)
    have px : (part 5 (U x).toArray (i * 1)).run Try.prog w = .ok (.int .u8 (x.getD i 0)) w := by
      unfold part
      rw [Sem.run_bind, hag]
      have := U_get x i hi.1
      simp [Result.andThen, this]
    have py : (part 5 (U y).toArray (i * 1)).run Try.prog w = .ok (.int .u8 (y.getD i 0)) w := by
      unfold part
      rw [Sem.run_bind, hag]
      have := U_get y i hi.2
      simp [Result.andThen, this]
    have he := run_equalIn_int (P := Try.prog) w d 5 .u8 .u8 (x.getD i 0) (y.getD i 0) Try.underlying5
    have hr := ih (fun j hj => h j (List.mem_cons_of_mem _ hj))
    simp only [Op.eqItems, Sem.run_bind, px, py, he, Result.andThen_ok, List.all_cons]
    cases hb : (x.getD i 0 == y.getD i 0)
    · simp
    · simpa using hr
theorem range_eq {n : Nat} {x y : Wm.Bs} (hx : x.length = n) (hy : y.length = n) : ((List.range n).all fun i => x.getD i 0 == y.getD i 0) = decide (x = y) := by
  by_cases h : x = y
  · subst h; simp
  · rw [decide_eq_false h, Bool.eq_false_iff]
    intro hall
    apply h
    apply List.ext_getElem?
    intro j
    rcases Nat.lt_or_ge j n with hj | hj
    · have := List.all_eq_true.1 hall j (List.mem_range.2 hj)
      rw [List.getD_eq_getElem?_getD, List.getD_eq_getElem?_getD, List.getElem?_eq_getElem (by omega), List.getElem?_eq_getElem (by omega)] at this
      rw [List.getElem?_eq_getElem (by omega), List.getElem?_eq_getElem (by omega)]
      simpa using this
    · rw [List.getElem?_eq_none (by omega), List.getElem?_eq_none (by omega)]
theorem page_eq {x y : Wm.Bs} (hx : x.length = 128) (hy : y.length = 128) (w : World) : (Op.equalIn 10000 106 (.agg (U x).toArray) (.agg (U y).toArray)).run Try.prog w = .ok (decide (x = y)) w := by
  obtain ⟨i0, hi, _, _, _⟩ := info_parts u8_info
  have hc : Try.prog.cellsOf 5 = 1 := by kernel_rfl
  rw [run_equalIn_array w 9999 _ _ Try.underlying106 hi, hc, items_eq 9998 x y w _ (fun i hi => by rw [hx, hy]; have := List.mem_range.1 hi; omega), range_eq hx hy]
theorem page_neq {x y : Wm.Bs} (hx : x.length = 128) (hy : y.length = 128) (w : World) : (binOp .neq 106 (.agg (U x).toArray) (.agg (U y).toArray)).run Try.prog w = .ok (.bool (!decide (x = y))) w := by
  have h := page_eq hx hy w
  have h2 : (Op.equal 106 (.agg (U x).toArray) (.agg (U y).toArray)).run Try.prog w = .ok (decide (x = y)) w := h
  simp [binOp, h2]
theorem min_int (x y m : Nat) (h : m = min x y) : min (x : Int) (y : Int) = (m : Int) := by omega
theorem max_int (x y m : Nat) (h : m = max x y) : max (x : Int) (y : Int) = (m : Int) := by omega

set_option maxRecDepth 100000 in
set_option maxHeartbeats 4000000 in
theorem diff_any (A : Option Addr) (na ca : Nat) (B : Option Addr) (nb cb : Nat) (a b : Wm.Bs) (w : World) (hsa : Sl w 128 A na (U a)) (hsb : Sl w 128 B nb (U b)) (hna : na ≤ 64) (hnb : nb ≤ 64) :
    Calls Try.prog 33 #[.agg #[.slice A na ca], .agg #[.slice B nb cb]] w (GotI (Mm.diff a b na nb) w) := by
  obtain ⟨i0, hi, hz0, hz1, hz2⟩ := info_parts int_info
  have HSA := Lib.hid fun w' (hl : Later w w') => hsa.keep hl
  have HSB := Lib.hid fun w' (hl : Later w w') => hsb.keep hl
  have HLL := Lib.hid (show a.length = na * 128 ∧ b.length = nb * 128 from ⟨by have := hsa.1; rwa [U_length] at this, by have := hsb.1; rwa [U_length] at this⟩)
  have bA := (Blk.new w 24 #[.slice A na ca] [.slice A na ca] rfl).alloc (.cells #[.slice B nb cb] 24)
  have bB := Blk.new' (w.alloc (.cells #[.slice A na ca] 24)) (w.heap.size + 1) 24 #[.slice B nb cb] [.slice B nb cb] (by simp) rfl
  have l0 : Later w ((w.alloc (.cells #[.slice A na ca] 24)).alloc (.cells #[.slice B nb cb] 24)) := (later1 w _).alloc (by simp) _
  obtain ⟨M, hM⟩ : ∃ M, M = max na nb := ⟨_, rfl⟩
  obtain ⟨bo, hbo0⟩ : ∃ M, M = min na nb := ⟨_, rfl⟩
  clear hsa hsb
  go_enter Try.func33, Try.ntmps33
  go_wp2
  rw [min_int na nb bo hbo0, max_int na nb M hM]
  have HBO := Lib.hid hbo0
  have hbo1 : bo ≤ na ∧ bo ≤ nb := ⟨by omega, by omega⟩
  clear hbo0
  have HM := Lib.hid hM
  have hM1 : na ≤ M ∧ nb ≤ M ∧ M ≤ 64 := ⟨by omega, by omega, by omega⟩
  clear hM
  go_loopw [6, 22] (fun v i wr => ∃ k : Nat, k ≤ M ∧ i = .int .i64 (k : Int) ∧ wr.ownsRow (w.heap.size + 2) 3 1 v (Mm.diffTo a b na nb k).length (Ni (Mm.diffTo a b na nb k)) ∧ w.heap.size + 2 ≤ wr.heap.size ∧ Blk wr w.heap.size 24 [.slice A na ca] ∧ Blk wr (w.heap.size + 1) 24 [.slice B nb cb] ∧ Later w wr) (fun _ i _ => M - (intOf i).toNat)
  case atStart => exact ⟨0, Nat.zero_le _, rfl, World.ownsRow_nil _ _ _ _, by simp, bA, bB, l0⟩
  case round =>
    clear bA bB l0
    rename_i wr
    obtain ⟨k, hk, rfl, hor, hz, bA, bB, lr⟩ := hrel
    have hdl := Mm.diffTo_len a b na nb k
    by_cases hkm : k < M
    · have km : (k : Int) < (M : Int) := by omega
      by_cases hbo : bo ≤ k
      · have kb : decide ((bo : Int) ≤ k) = true := decide_eq_true (by omega)
        have hdif : Mm.dif a b na nb k = true := by unfold Mm.dif; rcases (show na ≤ k ∨ nb ≤ k by have := HBO.out; omega) with h | h <;> simp [h]
        have HDT := Lib.hid (Mm.diffTo_succ a b na nb k)
        rw [hdif] at HDT
        simp only [if_true] at HDT
        clear hdif
        go_wp2
        replace bA := bA.drew; replace bB := bB.drew; replace lr := lr.drew; replace hor : wr.drew.ownsRow (w.heap.size + 2) 3 1 _ _ _ := hor; replace hz : w.heap.size + 2 ≤ wr.drew.heap.size := hz
        refine wp_region_held_drew (S := fun w' => w'.cell? ⟨w.heap.size, 0, none⟩ = some (.slice A na ca) ∧ w'.cell? ⟨w.heap.size + 1, 0, none⟩ = some (.slice B nb cb)) (by kernel_rfl) ⟨bA.cell rfl, bB.cell rfl⟩ (fun hHeld => ?_)
        refine wpAnyH_take (i := 0) (oi := ⟨some 25, .move (.tmp 7), _, _, _, none⟩) (v := .int .i64 (k : Int)) rfl (by kernel_rfl) (by kernel_rfl) (by kernel_rfl) (fun _ _ _ h => h) (Or.inl ⟨by rfl, fun _ _ => rfl⟩) hHeld ?_
        simp only [Act.put, List.setIfInBounds_toArray, List.set_cons_zero, List.set_cons_succ]
        refine wpAnyH_take (i := 1) (oi := ⟨some 26, .move (.tmp 5), _, _, _, none⟩) (v := .int .i64 (bo : Int)) rfl (by kernel_rfl) (by kernel_rfl) (by kernel_rfl) (fun _ _ _ h => h) (Or.inl ⟨by rfl, fun _ _ => rfl⟩) hHeld ?_
        simp only [Act.put, List.setIfInBounds_toArray, List.set_cons_zero, List.set_cons_succ]
        refine wpAnyH_take (i := 2) (oi := ⟨some 27, .binOp .geq 3 (.tmp 25) (.tmp 26) 3, _, _, _, none⟩) (v := .bool true) rfl (by kernel_rfl) (by kernel_rfl) (by kernel_rfl) (fun _ _ _ h => h) (Or.inl ⟨by rfl, fun w _ => by go_simp⟩) hHeld ?_
        simp only [Act.put, List.setIfInBounds_toArray, List.set_cons_zero, List.set_cons_succ]
        refine wpAnyH_take (i := 3) (oi := ⟨some 28, .move (.tmp 27), _, _, _, none⟩) (v := .bool true) rfl (by kernel_rfl) (by kernel_rfl) (by kernel_rfl) (fun _ _ _ h => h) (Or.inl ⟨by rfl, fun _ _ => rfl⟩) hHeld ?_
        simp only [Act.put, List.setIfInBounds_toArray, List.set_cons_zero, List.set_cons_succ]
        refine wpAnyH_take (i := 4) (oi := ⟨some 29, .fieldAddr 24 (.tmp 2) 0, _, _, _, _⟩) (v := undef) rfl (by kernel_rfl) (by kernel_rfl) (by kernel_rfl) (fun _ _ _ h => h) (Or.inr ⟨by rfl, rfl⟩) hHeld ?_
        simp only [Act.put, List.setIfInBounds_toArray, List.set_cons_zero, List.set_cons_succ]
        refine wpAnyH_take (i := 5) (oi := ⟨some 30, .load 22 (.tmp 29), _, _, _, _⟩) (v := undef) rfl (by kernel_rfl) (by kernel_rfl) (by kernel_rfl) (fun _ _ _ h => h) (Or.inr ⟨by rfl, rfl⟩) hHeld ?_
        simp only [Act.put, List.setIfInBounds_toArray, List.set_cons_zero, List.set_cons_succ]
        refine wpAnyH_take (i := 6) (oi := ⟨some 31, .move (.tmp 7), _, _, _, _⟩) (v := undef) rfl (by kernel_rfl) (by kernel_rfl) (by kernel_rfl) (fun _ _ _ h => h) (Or.inr ⟨by rfl, rfl⟩) hHeld ?_
        simp only [Act.put, List.setIfInBounds_toArray, List.set_cons_zero, List.set_cons_succ]
        refine wpAnyH_take (i := 7) (oi := ⟨some 32, .indexAddr 22 (.tmp 30) (.tmp 31), _, _, _, _⟩) (v := undef) rfl (by kernel_rfl) (by kernel_rfl) (by kernel_rfl) (fun _ _ _ h => h) (Or.inr ⟨by rfl, rfl⟩) hHeld ?_
        simp only [Act.put, List.setIfInBounds_toArray, List.set_cons_zero, List.set_cons_succ]
        refine wpAnyH_take (i := 8) (oi := ⟨some 33, .load 106 (.tmp 32), _, _, _, _⟩) (v := undef) rfl (by kernel_rfl) (by kernel_rfl) (by kernel_rfl) (fun _ _ _ h => h) (Or.inr ⟨by rfl, rfl⟩) hHeld ?_
        simp only [Act.put, List.setIfInBounds_toArray, List.set_cons_zero, List.set_cons_succ]
        refine wpAnyH_take (i := 9) (oi := ⟨some 34, .fieldAddr 24 (.tmp 3) 0, _, _, _, _⟩) (v := undef) rfl (by kernel_rfl) (by kernel_rfl) (by kernel_rfl) (fun _ _ _ h => h) (Or.inr ⟨by rfl, rfl⟩) hHeld ?_
        simp only [Act.put, List.setIfInBounds_toArray, List.set_cons_zero, List.set_cons_succ]
        refine wpAnyH_take (i := 10) (oi := ⟨some 35, .load 22 (.tmp 34), _, _, _, _⟩) (v := undef) rfl (by kernel_rfl) (by kernel_rfl) (by kernel_rfl) (fun _ _ _ h => h) (Or.inr ⟨by rfl, rfl⟩) hHeld ?_
        simp only [Act.put, List.setIfInBounds_toArray, List.set_cons_zero, List.set_cons_succ]
        refine wpAnyH_take (i := 11) (oi := ⟨some 36, .move (.tmp 7), _, _, _, _⟩) (v := undef) rfl (by kernel_rfl) (by kernel_rfl) (by kernel_rfl) (fun _ _ _ h => h) (Or.inr ⟨by rfl, rfl⟩) hHeld ?_
        simp only [Act.put, List.setIfInBounds_toArray, List.set_cons_zero, List.set_cons_succ]
        refine wpAnyH_take (i := 12) (oi := ⟨some 37, .indexAddr 22 (.tmp 35) (.tmp 36), _, _, _, _⟩) (v := undef) rfl (by kernel_rfl) (by kernel_rfl) (by kernel_rfl) (fun _ _ _ h => h) (Or.inr ⟨by rfl, rfl⟩) hHeld ?_
        simp only [Act.put, List.setIfInBounds_toArray, List.set_cons_zero, List.set_cons_succ]
        refine wpAnyH_take (i := 13) (oi := ⟨some 38, .load 106 (.tmp 37), _, _, _, _⟩) (v := undef) rfl (by kernel_rfl) (by kernel_rfl) (by kernel_rfl) (fun _ _ _ h => h) (Or.inr ⟨by rfl, rfl⟩) hHeld ?_
        simp only [Act.put, List.setIfInBounds_toArray, List.set_cons_zero, List.set_cons_succ]
        refine wpAnyH_take (i := 14) (oi := ⟨some 39, .binOp .neq 106 (.tmp 33) (.tmp 38) 106, _, _, _, _⟩) (v := undef) rfl (by kernel_rfl) (by kernel_rfl) (by kernel_rfl) (fun _ _ _ h => h) (Or.inr ⟨by rfl, rfl⟩) hHeld ?_
        simp only [Act.put, List.setIfInBounds_toArray, List.set_cons_zero, List.set_cons_succ]
        refine wpAnyH_take (i := 15) (oi := ⟨some 40, .pick (.tmp 28) (.const (.bool true)) (.tmp 39), _, _, _, none⟩) (v := .bool true) rfl (by kernel_rfl) (by kernel_rfl) (by kernel_rfl) (fun _ _ _ h => h) (Or.inl ⟨by rfl, fun w _ => by go_simp⟩) hHeld ?_
        simp only [Act.put, List.setIfInBounds_toArray, List.set_cons_zero, List.set_cons_succ]
        refine wpAnyH_done (by kernel_rfl) ?_ _
        clear hHeld
        obtain ⟨wd, hwd⟩ : ∃ wd, wd = wr.drew := ⟨_, rfl⟩
        rw [← hwd] at bA bB lr hor hz ⊢
        clear hwd
        go_wp2_with (at_builtin; refine wpList_append_own _ rfl _ _ 62 rfl (w.heap.size + 2) 3 i0 (.int .i64 0) 1 8 Try.underlying62 hi hz0 hz1 hz2 rfl (by decide) _ _ _ rfl (hor.alloc _) ⟨wd.heap.size, 0, none⟩ 1 1 [.int .i64 _] rfl rfl (cell_one_new _ _ _) (one_int _ _) (by unfold maxLen; omega) (by omega) (by simp; omega) ?_; intro v' w4 hown' hgrow _)
        all_goals
          have hb2 : Below (w.heap.size + 2) (wd.alloc (.cells #[.int .i64 (k : Int)] 3)) w4 := (Below.refl _ _).grown hgrow (by simp; omega) (fun j hj => (hor.lt j hj).1)
          have hb1 : Later w w4 := (lr.alloc (by omega) _).grown hgrow (by simp; omega) (fun j hj => by have := (hor.lt j hj).1; omega)
          have ho2 := ni_app (x := k) hown'
          rw [← HDT.out] at ho2
          replace bA := (bA.alloc (.cells #[.int .i64 (k : Int)] 3)).later hb2 (by omega)
          replace bB := (bB.alloc (.cells #[.int .i64 (k : Int)] 3)).later hb2 (by omega)
          have hz4 : w.heap.size + 2 ≤ w4.heap.size := Nat.le_trans (by simp; omega) hb2.size
          clear hown' hgrow hor hb2
          go_wp2
          go_roundw
          case rel => exact ⟨k + 1, by omega, by go_num, ho2, hz4, bA, bB, hb1⟩
          case measure => simp [intOf]; omega
      · have kb : decide ((bo : Int) ≤ k) = false := decide_eq_false (by omega)
        have ka : (k : Int) < (na : Int) := by omega
        have kb2 : (k : Int) < (nb : Int) := by omega
        obtain ⟨ada, rfl⟩ := (HSA.out _ lr).addr (by omega)
        obtain ⟨adb, rfl⟩ := (HSB.out _ lr).addr (by omega)
        obtain ⟨pa, hpa⟩ : ∃ p, p = Mm.pg a k := ⟨_, rfl⟩
        obtain ⟨pb, hpb⟩ : ∃ p, p = Mm.pg b k := ⟨_, rfl⟩
        have HPA := Lib.hid fun w' (hl : Later w w') => (show ∀ j u, (U pa)[j]? = some u → w'.cell? ((ada.add (k * 128)).add j) = some u by rw [hpa]; exact (HSA.out w' hl).part (o := k * 128) (k := 128) (by omega) (by omega))
        have HPB := Lib.hid fun w' (hl : Later w w') => (show ∀ j u, (U pb)[j]? = some u → w'.cell? ((adb.add (k * 128)).add j) = some u by rw [hpb]; exact (HSB.out w' hl).part (o := k * 128) (k := 128) (by omega) (by omega))
        have HPL := Lib.hid (show pa.length = 128 ∧ pb.length = 128 from ⟨by rw [hpa]; exact Mm.pg_len HLL.out.1 (by omega), by rw [hpb]; exact Mm.pg_len HLL.out.2 (by omega)⟩)
        have hdif0 : Mm.dif a b na nb k = !decide (pa = pb) := by unfold Mm.dif; rw [decide_eq_false (by omega), decide_eq_false (by omega), ← hpa, ← hpb]; rfl
        clear hpa hpb
        by_cases hpe : pa = pb
        · have HDEC := Lib.hid (decide_eq_true hpe)
          have hdif : Mm.dif a b na nb k = false := by rw [hdif0, decide_eq_true hpe]; rfl
          clear hdif0 hpe
          have HDT := Lib.hid (Mm.diffTo_succ a b na nb k)
          rw [hdif] at HDT
          simp only [Bool.false_eq_true, if_false] at HDT
          clear hdif
          go_wp2
          replace bA := bA.drew; replace bB := bB.drew; replace lr := lr.drew; replace hor : wr.drew.ownsRow (w.heap.size + 2) 3 1 _ _ _ := hor; replace hz : w.heap.size + 2 ≤ wr.drew.heap.size := hz
          refine wp_region_held_drew (S := fun w' => w'.cell? ⟨w.heap.size, 0, none⟩ = some (.slice (some ada) na ca) ∧ w'.cell? ⟨w.heap.size + 1, 0, none⟩ = some (.slice (some adb) nb cb) ∧ (∀ j u, (U pa)[j]? = some u → w'.cell? ((ada.add (k * 128)).add j) = some u) ∧ (∀ j u, (U pb)[j]? = some u → w'.cell? ((adb.add (k * 128)).add j) = some u)) (by kernel_rfl) ⟨bA.cell rfl, bB.cell rfl, HPA.out _ lr, HPB.out _ lr⟩ (fun hHeld => ?_)
          refine wpAnyH_take (i := 0) (oi := ⟨some 25, .move (.tmp 7), _, _, _, none⟩) (v := .int .i64 (k : Int)) rfl (by kernel_rfl) (by kernel_rfl) (by kernel_rfl) (fun _ _ _ h => h) (Or.inl ⟨by rfl, fun _ _ => rfl⟩) hHeld ?_
          simp only [Act.put, List.setIfInBounds_toArray, List.set_cons_zero, List.set_cons_succ]
          refine wpAnyH_take (i := 1) (oi := ⟨some 26, .move (.tmp 5), _, _, _, none⟩) (v := .int .i64 (bo : Int)) rfl (by kernel_rfl) (by kernel_rfl) (by kernel_rfl) (fun _ _ _ h => h) (Or.inl ⟨by rfl, fun _ _ => rfl⟩) hHeld ?_
          simp only [Act.put, List.setIfInBounds_toArray, List.set_cons_zero, List.set_cons_succ]
          refine wpAnyH_take (i := 2) (oi := ⟨some 27, .binOp .geq 3 (.tmp 25) (.tmp 26) 3, _, _, _, none⟩) (v := .bool false) rfl (by kernel_rfl) (by kernel_rfl) (by kernel_rfl) (fun _ _ _ h => h) (Or.inl ⟨by rfl, fun w _ => by go_simp⟩) hHeld ?_
          simp only [Act.put, List.setIfInBounds_toArray, List.set_cons_zero, List.set_cons_succ]
          refine wpAnyH_take (i := 3) (oi := ⟨some 28, .move (.tmp 27), _, _, _, none⟩) (v := .bool false) rfl (by kernel_rfl) (by kernel_rfl) (by kernel_rfl) (fun _ _ _ h => h) (Or.inl ⟨by rfl, fun _ _ => rfl⟩) hHeld ?_
          simp only [Act.put, List.setIfInBounds_toArray, List.set_cons_zero, List.set_cons_succ]
          refine wpAnyH_take (i := 4) (oi := ⟨some 29, .fieldAddr 24 (.tmp 2) 0, _, _, _, _⟩) (v := .pointer (some ⟨w.heap.size, 0, none⟩)) rfl (by kernel_rfl) (by kernel_rfl) (by kernel_rfl) (fun _ _ _ h => h) (Or.inl ⟨by rfl, fun w _ => by go_simp⟩) hHeld ?_
          simp only [Act.put, List.setIfInBounds_toArray, List.set_cons_zero, List.set_cons_succ]
          refine wpAnyH_take (i := 5) (oi := ⟨some 30, .load 22 (.tmp 29), _, _, _, _⟩) (v := (.slice (some ada) na ca)) rfl (by kernel_rfl) (by kernel_rfl) (by kernel_rfl) (fun _ _ _ h => h) (Or.inl ⟨by rfl, fun w hSw => by have e1 := hSw.1; clear hSw; go_simp⟩) hHeld ?_
          simp only [Act.put, List.setIfInBounds_toArray, List.set_cons_zero, List.set_cons_succ]
          refine wpAnyH_take (i := 6) (oi := ⟨some 31, .move (.tmp 7), _, _, _, _⟩) (v := .int .i64 (k : Int)) rfl (by kernel_rfl) (by kernel_rfl) (by kernel_rfl) (fun _ _ _ h => h) (Or.inl ⟨by rfl, fun _ _ => rfl⟩) hHeld ?_
          simp only [Act.put, List.setIfInBounds_toArray, List.set_cons_zero, List.set_cons_succ]
          refine wpAnyH_take (i := 7) (oi := ⟨some 32, .indexAddr 22 (.tmp 30) (.tmp 31), _, _, _, _⟩) (v := .pointer (some (ada.add (k * 128)))) rfl (by kernel_rfl) (by kernel_rfl) (by kernel_rfl) (fun _ _ _ h => h) (Or.inl ⟨by rfl, fun w _ => by go_simp⟩) hHeld ?_
          simp only [Act.put, List.setIfInBounds_toArray, List.set_cons_zero, List.set_cons_succ]
          refine wpAnyH_take (i := 8) (oi := ⟨some 33, .load 106 (.tmp 32), _, _, _, _⟩) (v := .agg (U pa).toArray) rfl (by kernel_rfl) (by kernel_rfl) (by kernel_rfl) (fun _ _ _ h => h) (yieldsIf_load_addr (by rfl) _ _ rfl (ada.add (k * 128)) (by rfl) (U pa) _ (fun w h => h.2.2.1) Try.underlying106 rfl (page_sz HPL.out.1)) hHeld ?_
          simp only [Act.put, List.setIfInBounds_toArray, List.set_cons_zero, List.set_cons_succ]
          refine wpAnyH_take (i := 9) (oi := ⟨some 34, .fieldAddr 24 (.tmp 3) 0, _, _, _, _⟩) (v := .pointer (some ⟨w.heap.size + 1, 0, none⟩)) rfl (by kernel_rfl) (by kernel_rfl) (by kernel_rfl) (fun _ _ _ h => h) (Or.inl ⟨by rfl, fun w _ => by go_simp⟩) hHeld ?_
          simp only [Act.put, List.setIfInBounds_toArray, List.set_cons_zero, List.set_cons_succ]
          refine wpAnyH_take (i := 10) (oi := ⟨some 35, .load 22 (.tmp 34), _, _, _, _⟩) (v := (.slice (some adb) nb cb)) rfl (by kernel_rfl) (by kernel_rfl) (by kernel_rfl) (fun _ _ _ h => h) (Or.inl ⟨by rfl, fun w hSw => by have e1 := hSw.2.1; clear hSw; go_simp⟩) hHeld ?_
          simp only [Act.put, List.setIfInBounds_toArray, List.set_cons_zero, List.set_cons_succ]
          refine wpAnyH_take (i := 11) (oi := ⟨some 36, .move (.tmp 7), _, _, _, _⟩) (v := .int .i64 (k : Int)) rfl (by kernel_rfl) (by kernel_rfl) (by kernel_rfl) (fun _ _ _ h => h) (Or.inl ⟨by rfl, fun _ _ => rfl⟩) hHeld ?_
          simp only [Act.put, List.setIfInBounds_toArray, List.set_cons_zero, List.set_cons_succ]
          refine wpAnyH_take (i := 12) (oi := ⟨some 37, .indexAddr 22 (.tmp 35) (.tmp 36), _, _, _, _⟩) (v := .pointer (some (adb.add (k * 128)))) rfl (by kernel_rfl) (by kernel_rfl) (by kernel_rfl) (fun _ _ _ h => h) (Or.inl ⟨by rfl, fun w _ => by go_simp⟩) hHeld ?_
          simp only [Act.put, List.setIfInBounds_toArray, List.set_cons_zero, List.set_cons_succ]
          refine wpAnyH_take (i := 13) (oi := ⟨some 38, .load 106 (.tmp 37), _, _, _, _⟩) (v := .agg (U pb).toArray) rfl (by kernel_rfl) (by kernel_rfl) (by kernel_rfl) (fun _ _ _ h => h) (yieldsIf_load_addr (by rfl) _ _ rfl (adb.add (k * 128)) (by rfl) (U pb) _ (fun w h => h.2.2.2) Try.underlying106 rfl (page_sz HPL.out.2)) hHeld ?_
          simp only [Act.put, List.setIfInBounds_toArray, List.set_cons_zero, List.set_cons_succ]
          refine wpAnyH_take (i := 14) (oi := ⟨some 39, .binOp .neq 106 (.tmp 33) (.tmp 38) 106, _, _, _, _⟩) (v := .bool false) rfl (by kernel_rfl) (by kernel_rfl) (by kernel_rfl) (fun _ _ _ h => h) (Or.inl ⟨by rfl, fun w _ => by have e1 := page_eq HPL.out.1 HPL.out.2 w; rw [HDEC.out] at e1; go_simp⟩) hHeld ?_
          simp only [Act.put, List.setIfInBounds_toArray, List.set_cons_zero, List.set_cons_succ]
          refine wpAnyH_take (i := 15) (oi := ⟨some 40, .pick (.tmp 28) (.const (.bool true)) (.tmp 39), _, _, _, none⟩) (v := .bool false) rfl (by kernel_rfl) (by kernel_rfl) (by kernel_rfl) (fun _ _ _ h => h) (Or.inl ⟨by rfl, fun w _ => by go_simp⟩) hHeld ?_
          simp only [Act.put, List.setIfInBounds_toArray, List.set_cons_zero, List.set_cons_succ]
          refine wpAnyH_done (by kernel_rfl) ?_ _
          clear hHeld
          go_wp2
          go_roundw
          case rel => exact ⟨k + 1, by omega, by go_num, by rw [HDT.out]; exact hor, hz, bA, bB, lr⟩
          case measure => simp [intOf]; omega
        · have HDEC := Lib.hid (decide_eq_false hpe)
          have hdif : Mm.dif a b na nb k = true := by rw [hdif0, decide_eq_false hpe]; rfl
          clear hdif0 hpe
          have HDT := Lib.hid (Mm.diffTo_succ a b na nb k)
          rw [hdif] at HDT
          simp only [if_true] at HDT
          clear hdif
          go_wp2
          replace bA := bA.drew; replace bB := bB.drew; replace lr := lr.drew; replace hor : wr.drew.ownsRow (w.heap.size + 2) 3 1 _ _ _ := hor; replace hz : w.heap.size + 2 ≤ wr.drew.heap.size := hz
          refine wp_region_held_drew (S := fun w' => w'.cell? ⟨w.heap.size, 0, none⟩ = some (.slice (some ada) na ca) ∧ w'.cell? ⟨w.heap.size + 1, 0, none⟩ = some (.slice (some adb) nb cb) ∧ (∀ j u, (U pa)[j]? = some u → w'.cell? ((ada.add (k * 128)).add j) = some u) ∧ (∀ j u, (U pb)[j]? = some u → w'.cell? ((adb.add (k * 128)).add j) = some u)) (by kernel_rfl) ⟨bA.cell rfl, bB.cell rfl, HPA.out _ lr, HPB.out _ lr⟩ (fun hHeld => ?_)
          refine wpAnyH_take (i := 0) (oi := ⟨some 25, .move (.tmp 7), _, _, _, none⟩) (v := .int .i64 (k : Int)) rfl (by kernel_rfl) (by kernel_rfl) (by kernel_rfl) (fun _ _ _ h => h) (Or.inl ⟨by rfl, fun _ _ => rfl⟩) hHeld ?_
          simp only [Act.put, List.setIfInBounds_toArray, List.set_cons_zero, List.set_cons_succ]
          refine wpAnyH_take (i := 1) (oi := ⟨some 26, .move (.tmp 5), _, _, _, none⟩) (v := .int .i64 (bo : Int)) rfl (by kernel_rfl) (by kernel_rfl) (by kernel_rfl) (fun _ _ _ h => h) (Or.inl ⟨by rfl, fun _ _ => rfl⟩) hHeld ?_
          simp only [Act.put, List.setIfInBounds_toArray, List.set_cons_zero, List.set_cons_succ]
          refine wpAnyH_take (i := 2) (oi := ⟨some 27, .binOp .geq 3 (.tmp 25) (.tmp 26) 3, _, _, _, none⟩) (v := .bool false) rfl (by kernel_rfl) (by kernel_rfl) (by kernel_rfl) (fun _ _ _ h => h) (Or.inl ⟨by rfl, fun w _ => by go_simp⟩) hHeld ?_
          simp only [Act.put, List.setIfInBounds_toArray, List.set_cons_zero, List.set_cons_succ]
          refine wpAnyH_take (i := 3) (oi := ⟨some 28, .move (.tmp 27), _, _, _, none⟩) (v := .bool false) rfl (by kernel_rfl) (by kernel_rfl) (by kernel_rfl) (fun _ _ _ h => h) (Or.inl ⟨by rfl, fun _ _ => rfl⟩) hHeld ?_
          simp only [Act.put, List.setIfInBounds_toArray, List.set_cons_zero, List.set_cons_succ]
          refine wpAnyH_take (i := 4) (oi := ⟨some 29, .fieldAddr 24 (.tmp 2) 0, _, _, _, _⟩) (v := .pointer (some ⟨w.heap.size, 0, none⟩)) rfl (by kernel_rfl) (by kernel_rfl) (by kernel_rfl) (fun _ _ _ h => h) (Or.inl ⟨by rfl, fun w _ => by go_simp⟩) hHeld ?_
          simp only [Act.put, List.setIfInBounds_toArray, List.set_cons_zero, List.set_cons_succ]
          refine wpAnyH_take (i := 5) (oi := ⟨some 30, .load 22 (.tmp 29), _, _, _, _⟩) (v := (.slice (some ada) na ca)) rfl (by kernel_rfl) (by kernel_rfl) (by kernel_rfl) (fun _ _ _ h => h) (Or.inl ⟨by rfl, fun w hSw => by have e1 := hSw.1; clear hSw; go_simp⟩) hHeld ?_
          simp only [Act.put, List.setIfInBounds_toArray, List.set_cons_zero, List.set_cons_succ]
          refine wpAnyH_take (i := 6) (oi := ⟨some 31, .move (.tmp 7), _, _, _, _⟩) (v := .int .i64 (k : Int)) rfl (by kernel_rfl) (by kernel_rfl) (by kernel_rfl) (fun _ _ _ h => h) (Or.inl ⟨by rfl, fun _ _ => rfl⟩) hHeld ?_
          simp only [Act.put, List.setIfInBounds_toArray, List.set_cons_zero, List.set_cons_succ]
          refine wpAnyH_take (i := 7) (oi := ⟨some 32, .indexAddr 22 (.tmp 30) (.tmp 31), _, _, _, _⟩) (v := .pointer (some (ada.add (k * 128)))) rfl (by kernel_rfl) (by kernel_rfl) (by kernel_rfl) (fun _ _ _ h => h) (Or.inl ⟨by rfl, fun w _ => by go_simp⟩) hHeld ?_
          simp only [Act.put, List.setIfInBounds_toArray, List.set_cons_zero, List.set_cons_succ]
          refine wpAnyH_take (i := 8) (oi := ⟨some 33, .load 106 (.tmp 32), _, _, _, _⟩) (v := .agg (U pa).toArray) rfl (by kernel_rfl) (by kernel_rfl) (by kernel_rfl) (fun _ _ _ h => h) (yieldsIf_load_addr (by rfl) _ _ rfl (ada.add (k * 128)) (by rfl) (U pa) _ (fun w h => h.2.2.1) Try.underlying106 rfl (page_sz HPL.out.1)) hHeld ?_
          simp only [Act.put, List.setIfInBounds_toArray, List.set_cons_zero, List.set_cons_succ]
          refine wpAnyH_take (i := 9) (oi := ⟨some 34, .fieldAddr 24 (.tmp 3) 0, _, _, _, _⟩) (v := .pointer (some ⟨w.heap.size + 1, 0, none⟩)) rfl (by kernel_rfl) (by kernel_rfl) (by kernel_rfl) (fun _ _ _ h => h) (Or.inl ⟨by rfl, fun w _ => by go_simp⟩) hHeld ?_
          simp only [Act.put, List.setIfInBounds_toArray, List.set_cons_zero, List.set_cons_succ]
          refine wpAnyH_take (i := 10) (oi := ⟨some 35, .load 22 (.tmp 34), _, _, _, _⟩) (v := (.slice (some adb) nb cb)) rfl (by kernel_rfl) (by kernel_rfl) (by kernel_rfl) (fun _ _ _ h => h) (Or.inl ⟨by rfl, fun w hSw => by have e1 := hSw.2.1; clear hSw; go_simp⟩) hHeld ?_
          simp only [Act.put, List.setIfInBounds_toArray, List.set_cons_zero, List.set_cons_succ]
          refine wpAnyH_take (i := 11) (oi := ⟨some 36, .move (.tmp 7), _, _, _, _⟩) (v := .int .i64 (k : Int)) rfl (by kernel_rfl) (by kernel_rfl) (by kernel_rfl) (fun _ _ _ h => h) (Or.inl ⟨by rfl, fun _ _ => rfl⟩) hHeld ?_
          simp only [Act.put, List.setIfInBounds_toArray, List.set_cons_zero, List.set_cons_succ]
          refine wpAnyH_take (i := 12) (oi := ⟨some 37, .indexAddr 22 (.tmp 35) (.tmp 36), _, _, _, _⟩) (v := .pointer (some (adb.add (k * 128)))) rfl (by kernel_rfl) (by kernel_rfl) (by kernel_rfl) (fun _ _ _ h => h) (Or.inl ⟨by rfl, fun w _ => by go_simp⟩) hHeld ?_
          simp only [Act.put, List.setIfInBounds_toArray, List.set_cons_zero, List.set_cons_succ]
          refine wpAnyH_take (i := 13) (oi := ⟨some 38, .load 106 (.tmp 37), _, _, _, _⟩) (v := .agg (U pb).toArray) rfl (by kernel_rfl) (by kernel_rfl) (by kernel_rfl) (fun _ _ _ h => h) (yieldsIf_load_addr (by rfl) _ _ rfl (adb.add (k * 128)) (by rfl) (U pb) _ (fun w h => h.2.2.2) Try.underlying106 rfl (page_sz HPL.out.2)) hHeld ?_
          simp only [Act.put, List.setIfInBounds_toArray, List.set_cons_zero, List.set_cons_succ]
          refine wpAnyH_take (i := 14) (oi := ⟨some 39, .binOp .neq 106 (.tmp 33) (.tmp 38) 106, _, _, _, _⟩) (v := .bool true) rfl (by kernel_rfl) (by kernel_rfl) (by kernel_rfl) (fun _ _ _ h => h) (Or.inl ⟨by rfl, fun w _ => by have e1 := page_eq HPL.out.1 HPL.out.2 w; rw [HDEC.out] at e1; go_simp⟩) hHeld ?_
          simp only [Act.put, List.setIfInBounds_toArray, List.set_cons_zero, List.set_cons_succ]
          refine wpAnyH_take (i := 15) (oi := ⟨some 40, .pick (.tmp 28) (.const (.bool true)) (.tmp 39), _, _, _, none⟩) (v := .bool true) rfl (by kernel_rfl) (by kernel_rfl) (by kernel_rfl) (fun _ _ _ h => h) (Or.inl ⟨by rfl, fun w _ => by go_simp⟩) hHeld ?_
          simp only [Act.put, List.setIfInBounds_toArray, List.set_cons_zero, List.set_cons_succ]
          refine wpAnyH_done (by kernel_rfl) ?_ _
          clear hHeld
          obtain ⟨wd, hwd⟩ : ∃ wd, wd = wr.drew := ⟨_, rfl⟩
          rw [← hwd] at bA bB lr hor hz ⊢
          clear hwd
          go_wp2_with (at_builtin; refine wpList_append_own _ rfl _ _ 62 rfl (w.heap.size + 2) 3 i0 (.int .i64 0) 1 8 Try.underlying62 hi hz0 hz1 hz2 rfl (by decide) _ _ _ rfl (hor.alloc _) ⟨wd.heap.size, 0, none⟩ 1 1 [.int .i64 _] rfl rfl (cell_one_new _ _ _) (one_int _ _) (by unfold maxLen; omega) (by omega) (by simp; omega) ?_; intro v' w4 hown' hgrow _)
          all_goals
            have hb2 : Below (w.heap.size + 2) (wd.alloc (.cells #[.int .i64 (k : Int)] 3)) w4 := (Below.refl _ _).grown hgrow (by simp; omega) (fun j hj => (hor.lt j hj).1)
            have hb1 : Later w w4 := (lr.alloc (by omega) _).grown hgrow (by simp; omega) (fun j hj => by have := (hor.lt j hj).1; omega)
            have ho2 := ni_app (x := k) hown'
            rw [← HDT.out] at ho2
            replace bA := (bA.alloc (.cells #[.int .i64 (k : Int)] 3)).later hb2 (by omega)
            replace bB := (bB.alloc (.cells #[.int .i64 (k : Int)] 3)).later hb2 (by omega)
            have hz4 : w.heap.size + 2 ≤ w4.heap.size := Nat.le_trans (by simp; omega) hb2.size
            clear hown' hgrow hor hb2
            go_wp2
            go_roundw
            case rel => exact ⟨k + 1, by omega, by go_num, ho2, hz4, bA, bB, hb1⟩
            case measure => simp [intOf]; omega
    · obtain rfl : k = M := by omega
      have nkk : ¬ (k : Int) < (k : Int) := by omega
      rw [show Mm.diffTo a b na nb k = Mm.diff a b na nb by rw [HM.out]; rfl] at hor
      obtain ⟨A', c', rfl, o1, o2, o3, _⟩ := own_form hor
      clear hor
      go_wp2
      go_ret
      exact ⟨A', c', rfl, o1, o2, o3, lr⟩
end Go.Proofs.Ytffgbbfcbobecaa
