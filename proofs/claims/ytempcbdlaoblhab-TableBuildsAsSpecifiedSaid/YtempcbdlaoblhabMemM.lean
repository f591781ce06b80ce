/-
  THE WALK OF the reference's SameInts.
-/
import Derived.Test.YtempcbdlaoblhabMemL2
namespace Go.Proofs.Ytempcbdlaoblhab
open Go.RowKit Go.ChangeShapes Go.WideShapes Go.ChangeAt

theorem Ni_get (l : List Nat) (k : Nat) (h : k < l.length) : (Ni l)[k]? = some (.int .i64 ((l.getD k 0 : Nat) : Int)) := by
  unfold Ni
  rw [List.getElem?_map, List.getD_eq_getElem?_getD, List.getElem?_eq_getElem h]
  rfl
theorem take_same {l1 l2 : List Nat} {k : Nat} (h1 : k < l1.length) (h2 : k < l2.length) (h : l1.take k = l2.take k) (e : l1.getD k 0 = l2.getD k 0) : l1.take (k + 1) = l2.take (k + 1) := by
  rw [List.getD_eq_getElem?_getD, List.getD_eq_getElem?_getD, List.getElem?_eq_getElem h1, List.getElem?_eq_getElem h2] at e
  rw [List.take_succ_eq_append_getElem h1, List.take_succ_eq_append_getElem h2, h]
  simp at e
  rw [e]
set_option maxRecDepth 100000 in
set_option maxHeartbeats 2000000 in
theorem sameInts_any (A : Option Addr) (la ca : Nat) (B : Option Addr) (lb cb : Nat) (l1 l2 : List Nat) (w : World) (h1 : l1.length = la) (h2 : l2.length = lb) (hsa : Sl w 1 A la (Ni l1)) (hsb : Sl w 1 B lb (Ni l2)) (hla : la ≤ 1000) (_hlb : lb ≤ 1000) :
    Calls Try.prog 37 #[.slice A la ca, .slice B lb cb] w fun e w' => e = .returned (.bool (decide (l1 = l2))) ∧ Later w w' := by
  have HSA := Lib.hid fun w' (hl : Later w w') => hsa.keep hl
  have HSB := Lib.hid fun w' (hl : Later w w') => hsb.keep hl
  have H1 := Lib.hid h1
  have H2 := Lib.hid h2
  clear hsa hsb h1 h2
  by_cases hl : la = lb
  · have hne : ((la : Int) != (lb : Int)) = false := by rw [hl]; simp
    have HL := Lib.hid hl
    clear hl
    obtain ⟨q, hq⟩ : ∃ q, q = decide (l1 = l2) := ⟨_, rfl⟩
    rw [← hq]
    have HQ := Lib.hid hq
    clear hq
    go_enter Try.func37, Try.ntmps37
    go_wp2
    go_loopw [5] (fun i wr => ∃ k : Nat, k ≤ la ∧ i = .int .i64 (k : Int) ∧ Hid (l1.take k = l2.take k) ∧ Later w wr) (fun i _ => la - (intOf i).toNat)
    case atStart => exact ⟨0, Nat.zero_le _, rfl, Lib.hid (by simp), later0 _⟩
    case round =>
      rename_i wr
      obtain ⟨k, hk, rfl, HT, lr⟩ := hrel
      by_cases hkl : k < la
      · have kl : (k : Int) < (la : Int) := by omega
        have kl2 : (k : Int) < (lb : Int) := by have := HL.out; omega
        obtain ⟨ada, va, rfl, _, hva, hxa⟩ := (HSA.out _ lr.drew).at1 hkl
        obtain ⟨adb, vb, rfl, _, hvb, hxb⟩ := (HSB.out _ lr.drew).at1 (show k < lb by omega)
        rw [Ni_get l1 k (by rw [H1.out]; exact hkl)] at hva
        rw [Ni_get l2 k (by rw [H2.out]; omega)] at hvb
        obtain ⟨x, hx⟩ : ∃ x, x = l1.getD k 0 := ⟨_, rfl⟩
        obtain ⟨y, hy⟩ : ∃ y, y = l2.getD k 0 := ⟨_, rfl⟩
        rw [← hx] at hva
        rw [← hy] at hvb
        cases hva
        cases hvb
        by_cases hxy : x = y
        · have HT2 := Lib.hid (take_same (by rw [H1.out]; exact hkl) (by rw [H2.out]; omega) HT.out (by rw [← hx, ← hy]; exact hxy))
          have exy : ((x : Int) != (y : Int)) = false := by rw [hxy]; simp
          clear hx hy hxy
          go_wp2
          refine wp_region_held_drew (S := fun w' => w'.cell? (ada.add k) = some (.int .i64 (x : Int)) ∧ w'.cell? (adb.add k) = some (.int .i64 (y : Int))) (by kernel_rfl) ⟨hxa, hxb⟩ (fun hHeld => ?_)
          refine wpAnyH_take (i := 0) (oi := ⟨some 17, .move (.tmp 0), _, _, _, none⟩) (v := .slice (some ada) la ca) rfl (by kernel_rfl) (by kernel_rfl) (by kernel_rfl) (fun _ _ _ h => h) (Or.inl ⟨by rfl, fun _ _ => rfl⟩) hHeld ?_
          simp only [Act.put, List.setIfInBounds_toArray, List.set_cons_zero, List.set_cons_succ]
          refine wpAnyH_take (i := 1) (oi := ⟨some 18, .move (.tmp 5), _, _, _, none⟩) (v := .int .i64 (k : Int)) rfl (by kernel_rfl) (by kernel_rfl) (by kernel_rfl) (fun _ _ _ h => h) (Or.inl ⟨by rfl, fun _ _ => rfl⟩) hHeld ?_
          simp only [Act.put, List.setIfInBounds_toArray, List.set_cons_zero, List.set_cons_succ]
          refine wpAnyH_take (i := 2) (oi := ⟨some 19, .indexAddr 30 (.tmp 17) (.tmp 18), _, _, _, none⟩) (v := .pointer (some (ada.add k))) rfl (by kernel_rfl) (by kernel_rfl) (by kernel_rfl) (fun _ _ _ h => h) (Or.inl ⟨by rfl, fun w _ => by go_simp⟩) hHeld ?_
          simp only [Act.put, List.setIfInBounds_toArray, List.set_cons_zero, List.set_cons_succ]
          refine wpAnyH_take (i := 3) (oi := ⟨some 20, .load 3 (.tmp 19), _, _, _, none⟩) (v := .int .i64 (x : Int)) rfl (by kernel_rfl) (by kernel_rfl) (by kernel_rfl) (fun _ _ _ h => h) (Or.inl ⟨by rfl, fun w hSw => by have e1 := hSw.1; clear hSw; go_simp⟩) hHeld ?_
          simp only [Act.put, List.setIfInBounds_toArray, List.set_cons_zero, List.set_cons_succ]
          refine wpAnyH_take (i := 4) (oi := ⟨some 21, .move (.tmp 1), _, _, _, none⟩) (v := .slice (some adb) lb cb) rfl (by kernel_rfl) (by kernel_rfl) (by kernel_rfl) (fun _ _ _ h => h) (Or.inl ⟨by rfl, fun _ _ => rfl⟩) hHeld ?_
          simp only [Act.put, List.setIfInBounds_toArray, List.set_cons_zero, List.set_cons_succ]
          refine wpAnyH_take (i := 5) (oi := ⟨some 22, .move (.tmp 5), _, _, _, none⟩) (v := .int .i64 (k : Int)) rfl (by kernel_rfl) (by kernel_rfl) (by kernel_rfl) (fun _ _ _ h => h) (Or.inl ⟨by rfl, fun _ _ => rfl⟩) hHeld ?_
          simp only [Act.put, List.setIfInBounds_toArray, List.set_cons_zero, List.set_cons_succ]
          refine wpAnyH_take (i := 6) (oi := ⟨some 23, .indexAddr 30 (.tmp 21) (.tmp 22), _, _, _, none⟩) (v := .pointer (some (adb.add k))) rfl (by kernel_rfl) (by kernel_rfl) (by kernel_rfl) (fun _ _ _ h => h) (Or.inl ⟨by rfl, fun w _ => by go_simp⟩) hHeld ?_
          simp only [Act.put, List.setIfInBounds_toArray, List.set_cons_zero, List.set_cons_succ]
          refine wpAnyH_take (i := 7) (oi := ⟨some 24, .load 3 (.tmp 23), _, _, _, none⟩) (v := .int .i64 (y : Int)) rfl (by kernel_rfl) (by kernel_rfl) (by kernel_rfl) (fun _ _ _ h => h) (Or.inl ⟨by rfl, fun w hSw => by have e1 := hSw.2; clear hSw; go_simp⟩) hHeld ?_
          simp only [Act.put, List.setIfInBounds_toArray, List.set_cons_zero, List.set_cons_succ]
          refine wpAnyH_take (i := 8) (oi := ⟨some 25, .binOp .neq 3 (.tmp 20) (.tmp 24) 3, _, _, _, none⟩) (v := .bool false) rfl (by kernel_rfl) (by kernel_rfl) (by kernel_rfl) (fun _ _ _ h => h) (Or.inl ⟨by rfl, fun w _ => by go_simp⟩) hHeld ?_
          simp only [Act.put, List.setIfInBounds_toArray, List.set_cons_zero, List.set_cons_succ]
          refine wpAnyH_done (by kernel_rfl) ?_ _
          clear hHeld
          go_wp2
          go_roundw
          case rel => exact ⟨k + 1, by omega, by go_num, HT2, lr.drew⟩
          case measure => simp [intOf]; omega
        · have HN := Lib.hid (show q = false by rw [HQ.out, decide_eq_false_iff_not]; rintro rfl; exact hxy (hx.trans hy.symm))
          have exy : ((x : Int) != (y : Int)) = true := bne_iff_ne.2 (by omega)
          clear hx hy hxy
          go_wp2
          refine wp_region_held_drew (S := fun w' => w'.cell? (ada.add k) = some (.int .i64 (x : Int)) ∧ w'.cell? (adb.add k) = some (.int .i64 (y : Int))) (by kernel_rfl) ⟨hxa, hxb⟩ (fun hHeld => ?_)
          refine wpAnyH_take (i := 0) (oi := ⟨some 17, .move (.tmp 0), _, _, _, none⟩) (v := .slice (some ada) la ca) rfl (by kernel_rfl) (by kernel_rfl) (by kernel_rfl) (fun _ _ _ h => h) (Or.inl ⟨by rfl, fun _ _ => rfl⟩) hHeld ?_
          simp only [Act.put, List.setIfInBounds_toArray, List.set_cons_zero, List.set_cons_succ]
          refine wpAnyH_take (i := 1) (oi := ⟨some 18, .move (.tmp 5), _, _, _, none⟩) (v := .int .i64 (k : Int)) rfl (by kernel_rfl) (by kernel_rfl) (by kernel_rfl) (fun _ _ _ h => h) (Or.inl ⟨by rfl, fun _ _ => rfl⟩) hHeld ?_
          simp only [Act.put, List.setIfInBounds_toArray, List.set_cons_zero, List.set_cons_succ]
          refine wpAnyH_take (i := 2) (oi := ⟨some 19, .indexAddr 30 (.tmp 17) (.tmp 18), _, _, _, none⟩) (v := .pointer (some (ada.add k))) rfl (by kernel_rfl) (by kernel_rfl) (by kernel_rfl) (fun _ _ _ h => h) (Or.inl ⟨by rfl, fun w _ => by go_simp⟩) hHeld ?_
          simp only [Act.put, List.setIfInBounds_toArray, List.set_cons_zero, List.set_cons_succ]
          refine wpAnyH_take (i := 3) (oi := ⟨some 20, .load 3 (.tmp 19), _, _, _, none⟩) (v := .int .i64 (x : Int)) rfl (by kernel_rfl) (by kernel_rfl) (by kernel_rfl) (fun _ _ _ h => h) (Or.inl ⟨by rfl, fun w hSw => by have e1 := hSw.1; clear hSw; go_simp⟩) hHeld ?_
          simp only [Act.put, List.setIfInBounds_toArray, List.set_cons_zero, List.set_cons_succ]
          refine wpAnyH_take (i := 4) (oi := ⟨some 21, .move (.tmp 1), _, _, _, none⟩) (v := .slice (some adb) lb cb) rfl (by kernel_rfl) (by kernel_rfl) (by kernel_rfl) (fun _ _ _ h => h) (Or.inl ⟨by rfl, fun _ _ => rfl⟩) hHeld ?_
          simp only [Act.put, List.setIfInBounds_toArray, List.set_cons_zero, List.set_cons_succ]
          refine wpAnyH_take (i := 5) (oi := ⟨some 22, .move (.tmp 5), _, _, _, none⟩) (v := .int .i64 (k : Int)) rfl (by kernel_rfl) (by kernel_rfl) (by kernel_rfl) (fun _ _ _ h => h) (Or.inl ⟨by rfl, fun _ _ => rfl⟩) hHeld ?_
          simp only [Act.put, List.setIfInBounds_toArray, List.set_cons_zero, List.set_cons_succ]
          refine wpAnyH_take (i := 6) (oi := ⟨some 23, .indexAddr 30 (.tmp 21) (.tmp 22), _, _, _, none⟩) (v := .pointer (some (adb.add k))) rfl (by kernel_rfl) (by kernel_rfl) (by kernel_rfl) (fun _ _ _ h => h) (Or.inl ⟨by rfl, fun w _ => by go_simp⟩) hHeld ?_
          simp only [Act.put, List.setIfInBounds_toArray, List.set_cons_zero, List.set_cons_succ]
          refine wpAnyH_take (i := 7) (oi := ⟨some 24, .load 3 (.tmp 23), _, _, _, none⟩) (v := .int .i64 (y : Int)) rfl (by kernel_rfl) (by kernel_rfl) (by kernel_rfl) (fun _ _ _ h => h) (Or.inl ⟨by rfl, fun w hSw => by have e1 := hSw.2; clear hSw; go_simp⟩) hHeld ?_
          simp only [Act.put, List.setIfInBounds_toArray, List.set_cons_zero, List.set_cons_succ]
          refine wpAnyH_take (i := 8) (oi := ⟨some 25, .binOp .neq 3 (.tmp 20) (.tmp 24) 3, _, _, _, none⟩) (v := .bool true) rfl (by kernel_rfl) (by kernel_rfl) (by kernel_rfl) (fun _ _ _ h => h) (Or.inl ⟨by rfl, fun w _ => by go_simp⟩) hHeld ?_
          simp only [Act.put, List.setIfInBounds_toArray, List.set_cons_zero, List.set_cons_succ]
          refine wpAnyH_done (by kernel_rfl) ?_ _
          clear hHeld
          go_wp2
          go_ret
          exact ⟨by rw [HN.out]; rfl, lr.drew⟩
      · obtain rfl : k = la := by omega
        have nkk : ¬ (k : Int) < (k : Int) := by omega
        have HN := Lib.hid (show q = true by
          rw [HQ.out, decide_eq_true_eq]
          have := HT.out
          rw [List.take_of_length_le (by rw [H1.out]; exact Nat.le_refl _), List.take_of_length_le (by rw [H2.out, ← HL.out]; exact Nat.le_refl _)] at this
          exact this)
        go_wp2
        go_ret
        exact ⟨by rw [HN.out]; rfl, lr⟩
  · have hne : ((la : Int) != (lb : Int)) = true := bne_iff_ne.2 (by omega)
    have hq : decide (l1 = l2) = false := decide_eq_false (by rintro rfl; exact hl (H1.out.symm.trans H2.out))
    rw [hq]
    clear hq
    go_enter Try.func37, Try.ntmps37
    go_wp2
    go_ret
    exact ⟨rfl, later0 _⟩
end Go.Proofs.Ytempcbdlaoblhab
