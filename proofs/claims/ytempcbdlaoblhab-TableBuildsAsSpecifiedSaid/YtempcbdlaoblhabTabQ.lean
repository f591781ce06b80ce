/-
  THE WALKS OF the reference's comparisons: SameInts, SameMappings, Same, and of Access.
-/
import Derived.Test.YtempcbdlaoblhabTabP
namespace Go.Proofs.Ytempcbdlaoblhab
open Go.RowKit Go.ChangeShapes Go.WideShapes Go.ChangeAt

theorem N64_gt (l : List Int) (k : Nat) (h : k < l.length) : (N64 l)[k]? = some (.int .i64 (l.getD k 0)) := by
  unfold N64
  rw [List.getElem?_map, List.getD_eq_getElem?_getD, List.getElem?_eq_getElem h]
  rfl
theorem take_sameI {l1 l2 : List Int} {k : Nat} (h1 : k < l1.length) (h2 : k < l2.length) (h : l1.take k = l2.take k) (e : l1.getD k 0 = l2.getD k 0) : l1.take (k + 1) = l2.take (k + 1) := by
  rw [List.getD_eq_getElem?_getD, List.getD_eq_getElem?_getD, List.getElem?_eq_getElem h1, List.getElem?_eq_getElem h2] at e
  rw [List.take_succ_eq_append_getElem h1, List.take_succ_eq_append_getElem h2, h]
  simp at e
  rw [e]
set_option maxRecDepth 100000 in
set_option maxHeartbeats 2000000 in
theorem sameInts64_any (A : Option Addr) (la ca : Nat) (B : Option Addr) (lb cb : Nat) (l1 l2 : List Int) (w : World) (h1 : l1.length = la) (h2 : l2.length = lb) (hsa : Sl w 1 A la (N64 l1)) (hsb : Sl w 1 B lb (N64 l2)) (hla : la ≤ 1000) (_hlb : lb ≤ 1000) :
    Calls Try.prog 37 #[.slice A la ca, .slice B lb cb] w fun e w' => e = .returned (.bool (decide (l1 = l2))) ∧ Later w w' := by
  have HSA := Lib.hid fun w' (hl : Later w w') => hsa.keep hl
  have HSB := Lib.hid fun w' (hl : Later w w') => hsb.keep hl
  have H1 := Lib.hid h1
  have H2 := Lib.hid h2
  clear hsa hsb h1 h2
  by_cases hl : la = lb
  · have hne : ((la : Int) != (lb : Int)) = false := by rw [hl]; simp
    have HL := Lib.hid hl
    clear hl
    obtain ⟨q, hq⟩ : ∃ q, q = decide (l1 = l2) := ⟨_, rfl⟩
    rw [← hq]
    have HQ := Lib.hid hq
    clear hq
    go_enter Try.func37, Try.ntmps37
    go_wp2
    go_loopw [5] (fun i wr => ∃ k : Nat, k ≤ la ∧ i = .int .i64 (k : Int) ∧ Hid (l1.take k = l2.take k) ∧ Later w wr) (fun i _ => la - (intOf i).toNat)
    case atStart => exact ⟨0, Nat.zero_le _, rfl, Lib.hid (by simp), later0 _⟩
    case round =>
      rename_i wr
      obtain ⟨k, hk, rfl, HT, lr⟩ := hrel
      by_cases hkl : k < la
      · have kl : (k : Int) < (la : Int) := by omega
        have kl2 : (k : Int) < (lb : Int) := by have := HL.out; omega
        obtain ⟨ada, va, rfl, _, hva, hxa⟩ := (HSA.out _ lr.drew).at1 hkl
        obtain ⟨adb, vb, rfl, _, hvb, hxb⟩ := (HSB.out _ lr.drew).at1 (show k < lb by omega)
        rw [N64_gt l1 k (by rw [H1.out]; exact hkl)] at hva
        rw [N64_gt l2 k (by rw [H2.out]; omega)] at hvb
        obtain ⟨x, hx⟩ : ∃ x, x = l1.getD k 0 := ⟨_, rfl⟩
        obtain ⟨y, hy⟩ : ∃ y, y = l2.getD k 0 := ⟨_, rfl⟩
        rw [← hx] at hva
        rw [← hy] at hvb
        cases hva
        cases hvb
        by_cases hxy : x = y
        · have HT2 := Lib.hid (take_sameI (by rw [H1.out]; exact hkl) (by rw [H2.out]; omega) HT.out (by rw [← hx, ← hy]; exact hxy))
          have exy : (x != y) = false := by rw [hxy]; simp
          clear hx hy hxy
          go_wp2
          refine wp_region_held_drew (S := fun w' => w'.cell? (ada.add k) = some (.int .i64 x) ∧ w'.cell? (adb.add k) = some (.int .i64 y)) (by kernel_rfl) ⟨hxa, hxb⟩ (fun hHeld => ?_)
          refine wpAnyH_take (i := 0) (oi := ⟨some 17, .move (.tmp 0), _, _, _, none⟩) (v := .slice (some ada) la ca) rfl (by kernel_rfl) (by kernel_rfl) (by kernel_rfl) (fun _ _ _ h => h) (Or.inl ⟨by rfl, fun _ _ => rfl⟩) hHeld ?_
          simp only [Act.put, List.setIfInBounds_toArray, List.set_cons_zero, List.set_cons_succ]
          refine wpAnyH_take (i := 1) (oi := ⟨some 18, .move (.tmp 5), _, _, _, none⟩) (v := .int .i64 (k : Int)) rfl (by kernel_rfl) (by kernel_rfl) (by kernel_rfl) (fun _ _ _ h => h) (Or.inl ⟨by rfl, fun _ _ => rfl⟩) hHeld ?_
          simp only [Act.put, List.setIfInBounds_toArray, List.set_cons_zero, List.set_cons_succ]
          refine wpAnyH_take (i := 2) (oi := ⟨some 19, .indexAddr 30 (.tmp 17) (.tmp 18), _, _, _, none⟩) (v := .pointer (some (ada.add k))) rfl (by kernel_rfl) (by kernel_rfl) (by kernel_rfl) (fun _ _ _ h => h) (Or.inl ⟨by rfl, fun w _ => by go_simp⟩) hHeld ?_
          simp only [Act.put, List.setIfInBounds_toArray, List.set_cons_zero, List.set_cons_succ]
          refine wpAnyH_take (i := 3) (oi := ⟨some 20, .load 3 (.tmp 19), _, _, _, none⟩) (v := .int .i64 x) rfl (by kernel_rfl) (by kernel_rfl) (by kernel_rfl) (fun _ _ _ h => h) (Or.inl ⟨by rfl, fun w hSw => by have e1 := hSw.1; clear hSw; go_simp⟩) hHeld ?_
          simp only [Act.put, List.setIfInBounds_toArray, List.set_cons_zero, List.set_cons_succ]
          refine wpAnyH_take (i := 4) (oi := ⟨some 21, .move (.tmp 1), _, _, _, none⟩) (v := .slice (some adb) lb cb) rfl (by kernel_rfl) (by kernel_rfl) (by kernel_rfl) (fun _ _ _ h => h) (Or.inl ⟨by rfl, fun _ _ => rfl⟩) hHeld ?_
          simp only [Act.put, List.setIfInBounds_toArray, List.set_cons_zero, List.set_cons_succ]
          refine wpAnyH_take (i := 5) (oi := ⟨some 22, .move (.tmp 5), _, _, _, none⟩) (v := .int .i64 (k : Int)) rfl (by kernel_rfl) (by kernel_rfl) (by kernel_rfl) (fun _ _ _ h => h) (Or.inl ⟨by rfl, fun _ _ => rfl⟩) hHeld ?_
          simp only [Act.put, List.setIfInBounds_toArray, List.set_cons_zero, List.set_cons_succ]
          refine wpAnyH_take (i := 6) (oi := ⟨some 23, .indexAddr 30 (.tmp 21) (.tmp 22), _, _, _, none⟩) (v := .pointer (some (adb.add k))) rfl (by kernel_rfl) (by kernel_rfl) (by kernel_rfl) (fun _ _ _ h => h) (Or.inl ⟨by rfl, fun w _ => by go_simp⟩) hHeld ?_
          simp only [Act.put, List.setIfInBounds_toArray, List.set_cons_zero, List.set_cons_succ]
          refine wpAnyH_take (i := 7) (oi := ⟨some 24, .load 3 (.tmp 23), _, _, _, none⟩) (v := .int .i64 y) rfl (by kernel_rfl) (by kernel_rfl) (by kernel_rfl) (fun _ _ _ h => h) (Or.inl ⟨by rfl, fun w hSw => by have e1 := hSw.2; clear hSw; go_simp⟩) hHeld ?_
          simp only [Act.put, List.setIfInBounds_toArray, List.set_cons_zero, List.set_cons_succ]
          refine wpAnyH_take (i := 8) (oi := ⟨some 25, .binOp .neq 3 (.tmp 20) (.tmp 24) 3, _, _, _, none⟩) (v := .bool false) rfl (by kernel_rfl) (by kernel_rfl) (by kernel_rfl) (fun _ _ _ h => h) (Or.inl ⟨by rfl, fun w _ => by go_simp⟩) hHeld ?_
          simp only [Act.put, List.setIfInBounds_toArray, List.set_cons_zero, List.set_cons_succ]
          refine wpAnyH_done (by kernel_rfl) ?_ _
          clear hHeld
          go_wp2
          go_roundw
          case rel => exact ⟨k + 1, by omega, by go_num, HT2, lr.drew⟩
          case measure => simp [intOf]; omega
        · have HN := Lib.hid (show q = false by rw [HQ.out, decide_eq_false_iff_not]; rintro rfl; exact hxy (hx.trans hy.symm))
          have exy : (x != y) = true := bne_iff_ne.2 hxy
          clear hx hy hxy
          go_wp2
          refine wp_region_held_drew (S := fun w' => w'.cell? (ada.add k) = some (.int .i64 x) ∧ w'.cell? (adb.add k) = some (.int .i64 y)) (by kernel_rfl) ⟨hxa, hxb⟩ (fun hHeld => ?_)
          refine wpAnyH_take (i := 0) (oi := ⟨some 17, .move (.tmp 0), _, _, _, none⟩) (v := .slice (some ada) la ca) rfl (by kernel_rfl) (by kernel_rfl) (by kernel_rfl) (fun _ _ _ h => h) (Or.inl ⟨by rfl, fun _ _ => rfl⟩) hHeld ?_
          simp only [Act.put, List.setIfInBounds_toArray, List.set_cons_zero, List.set_cons_succ]
          refine wpAnyH_take (i := 1) (oi := ⟨some 18, .move (.tmp 5), _, _, _, none⟩) (v := .int .i64 (k : Int)) rfl (by kernel_rfl) (by kernel_rfl) (by kernel_rfl) (fun _ _ _ h => h) (Or.inl ⟨by rfl, fun _ _ => rfl⟩) hHeld ?_
          simp only [Act.put, List.setIfInBounds_toArray, List.set_cons_zero, List.set_cons_succ]
          refine wpAnyH_take (i := 2) (oi := ⟨some 19, .indexAddr 30 (.tmp 17) (.tmp 18), _, _, _, none⟩) (v := .pointer (some (ada.add k))) rfl (by kernel_rfl) (by kernel_rfl) (by kernel_rfl) (fun _ _ _ h => h) (Or.inl ⟨by rfl, fun w _ => by go_simp⟩) hHeld ?_
          simp only [Act.put, List.setIfInBounds_toArray, List.set_cons_zero, List.set_cons_succ]
          refine wpAnyH_take (i := 3) (oi := ⟨some 20, .load 3 (.tmp 19), _, _, _, none⟩) (v := .int .i64 x) rfl (by kernel_rfl) (by kernel_rfl) (by kernel_rfl) (fun _ _ _ h => h) (Or.inl ⟨by rfl, fun w hSw => by have e1 := hSw.1; clear hSw; go_simp⟩) hHeld ?_
          simp only [Act.put, List.setIfInBounds_toArray, List.set_cons_zero, List.set_cons_succ]
          refine wpAnyH_take (i := 4) (oi := ⟨some 21, .move (.tmp 1), _, _, _, none⟩) (v := .slice (some adb) lb cb) rfl (by kernel_rfl) (by kernel_rfl) (by kernel_rfl) (fun _ _ _ h => h) (Or.inl ⟨by rfl, fun _ _ => rfl⟩) hHeld ?_
          simp only [Act.put, List.setIfInBounds_toArray, List.set_cons_zero, List.set_cons_succ]
          refine wpAnyH_take (i := 5) (oi := ⟨some 22, .move (.tmp 5), _, _, _, none⟩) (v := .int .i64 (k : Int)) rfl (by kernel_rfl) (by kernel_rfl) (by kernel_rfl) (fun _ _ _ h => h) (Or.inl ⟨by rfl, fun _ _ => rfl⟩) hHeld ?_
          simp only [Act.put, List.setIfInBounds_toArray, List.set_cons_zero, List.set_cons_succ]
          refine wpAnyH_take (i := 6) (oi := ⟨some 23, .indexAddr 30 (.tmp 21) (.tmp 22), _, _, _, none⟩) (v := .pointer (some (adb.add k))) rfl (by kernel_rfl) (by kernel_rfl) (by kernel_rfl) (fun _ _ _ h => h) (Or.inl ⟨by rfl, fun w _ => by go_simp⟩) hHeld ?_
          simp only [Act.put, List.setIfInBounds_toArray, List.set_cons_zero, List.set_cons_succ]
          refine wpAnyH_take (i := 7) (oi := ⟨some 24, .load 3 (.tmp 23), _, _, _, none⟩) (v := .int .i64 y) rfl (by kernel_rfl) (by kernel_rfl) (by kernel_rfl) (fun _ _ _ h => h) (Or.inl ⟨by rfl, fun w hSw => by have e1 := hSw.2; clear hSw; go_simp⟩) hHeld ?_
          simp only [Act.put, List.setIfInBounds_toArray, List.set_cons_zero, List.set_cons_succ]
          refine wpAnyH_take (i := 8) (oi := ⟨some 25, .binOp .neq 3 (.tmp 20) (.tmp 24) 3, _, _, _, none⟩) (v := .bool true) rfl (by kernel_rfl) (by kernel_rfl) (by kernel_rfl) (fun _ _ _ h => h) (Or.inl ⟨by rfl, fun w _ => by go_simp⟩) hHeld ?_
          simp only [Act.put, List.setIfInBounds_toArray, List.set_cons_zero, List.set_cons_succ]
          refine wpAnyH_done (by kernel_rfl) ?_ _
          clear hHeld
          go_wp2
          go_ret
          exact ⟨by rw [HN.out]; rfl, lr.drew⟩
      · obtain rfl : k = la := by omega
        have nkk : ¬ (k : Int) < (k : Int) := by omega
        have HN := Lib.hid (show q = true by
          rw [HQ.out, decide_eq_true_eq]
          have := HT.out
          rw [List.take_of_length_le (by rw [H1.out]; exact Nat.le_refl _), List.take_of_length_le (by rw [H2.out, ← HL.out]; exact Nat.le_refl _)] at this
          exact this)
        go_wp2
        go_ret
        exact ⟨by rw [HN.out]; rfl, lr⟩
  · have hne : ((la : Int) != (lb : Int)) = true := bne_iff_ne.2 (by omega)
    have hq : decide (l1 = l2) = false := decide_eq_false (by rintro rfl; exact hl (H1.out.symm.trans H2.out))
    rw [hq]
    clear hq
    go_enter Try.func37, Try.ntmps37
    go_wp2
    go_ret
    exact ⟨rfl, later0 _⟩

/-- The cells of one element of a slice of elements of size cells. -/
theorem Sl.piece {w : World} {z n k : Nat} {ad : Addr} {cs : List Value} (h : Sl w z (some ad) n cs) (hk : k < n) {xs : List Value} (hx : (cs.drop (k * z)).take z = xs) :
    ∀ j u, xs[j]? = some u → w.cell? ((ad.add (k * z)).add j) = some u := by
  intro j u hu
  obtain ⟨_, e, _, hc⟩ := h.2 (by omega)
  cases e
  rw [addr_add_add]
  apply hc
  rw [← hx, List.getElem?_take] at hu
  split at hu
  · rw [List.getElem?_drop] at hu
    exact hu
  · cases hu
theorem flat_part {α : Type} (g : α → List Value) (z : Nat) (hg : ∀ x, (g x).length = z) : ∀ (l : List α) (k : Nat) (hk : k < l.length), ((l.flatMap g).drop (k * z)).take z = g l[k] := by
  intro l
  induction l with
  | nil => intro k hk; cases hk
  | cons x r ih =>
    intro k hk
    rw [List.flatMap_cons]
    cases k with
    | zero => rw [Nat.zero_mul, List.drop_zero, ← hg x, List.take_left]; rfl
    | succ k =>
      rw [show (k + 1) * z = (g x).length + k * z by rw [hg, Nat.succ_mul]; omega, ← List.drop_drop, List.drop_left]
      exact ih k _
theorem take_same3 {α : Type} {l1 l2 : List α} {k : Nat} (h1 : k < l1.length) (h2 : k < l2.length) (h : l1.take k = l2.take k) (e : l1[k] = l2[k]) : l1.take (k + 1) = l2.take (k + 1) := by
  rw [List.take_succ_eq_append_getElem h1, List.take_succ_eq_append_getElem h2, h, e]
theorem map_sz' (x y z : Value) : (Try.prog.info? 65).map (·.size) = some [x, y, z].length := map_sz x y z
set_option maxRecDepth 100000 in
set_option maxHeartbeats 4000000 in
theorem sameMappings_any (A : Option Addr) (la ca : Nat) (B : Option Addr) (lb cb : Nat) (l1 l2 : List Mg) (w : World) (h1 : l1.length = la) (h2 : l2.length = lb) (hsa : Sl w 3 A la (Mgs l1)) (hsb : Sl w 3 B lb (Mgs l2)) (hla : la ≤ 100000) (_hlb : lb ≤ 100000) :
    Calls Try.prog 21 #[.slice A la ca, .slice B lb cb] w fun e w' => e = .returned (.bool (decide (l1 = l2))) ∧ Later w w' := by
  have HSA := Lib.hid fun w' (hl : Later w w') => hsa.keep hl
  have HSB := Lib.hid fun w' (hl : Later w w') => hsb.keep hl
  have H1 := Lib.hid h1
  have H2 := Lib.hid h2
  clear hsa hsb h1 h2
  by_cases hl : la = lb
  · have hne : ((la : Int) != (lb : Int)) = false := by rw [hl]; simp
    have HL := Lib.hid hl
    clear hl
    obtain ⟨q, hq⟩ : ∃ q, q = decide (l1 = l2) := ⟨_, rfl⟩
    rw [← hq]
    have HQ := Lib.hid hq
    clear hq
    go_enter Try.func21, Try.ntmps21
    go_wp2
    go_loopw [5] (fun i wr => ∃ k : Nat, k ≤ la ∧ i = .int .i64 (k : Int) ∧ Hid (l1.take k = l2.take k) ∧ Later w wr) (fun i _ => la - (intOf i).toNat)
    case atStart => exact ⟨0, Nat.zero_le _, rfl, Lib.hid (by simp), later0 _⟩
    case round =>
      rename_i wr
      obtain ⟨k, hk, rfl, HT, lr⟩ := hrel
      by_cases hkl : k < la
      · have kl : (k : Int) < (la : Int) := by omega
        have kl2 : (k : Int) < (lb : Int) := by have := HL.out; omega
        obtain ⟨ada, rfl⟩ := (HSA.out _ lr.drew).addr (by omega)
        obtain ⟨adb, rfl⟩ := (HSB.out _ lr.drew).addr (show 0 < lb by omega)
        have hk1 : k < l1.length := by rw [H1.out]; exact hkl
        have hk2 : k < l2.length := by rw [H2.out]; omega
        have hxa := (HSA.out _ lr.drew).piece hkl (flat_part mgC 3 (fun _ => rfl) l1 k hk1)
        have hxb := (HSB.out _ lr.drew).piece (show k < lb by omega) (flat_part mgC 3 (fun _ => rfl) l2 k hk2)
        have HT2 := Lib.hid (take_same3 hk1 hk2 HT.out)
        have HNE := Lib.hid (fun (h : l1[k] ≠ l2[k]) => (show q = false by rw [HQ.out, decide_eq_false_iff_not]; rintro rfl; exact h rfl))
        obtain ⟨x, hx⟩ : ∃ x, x = l1[k] := ⟨_, rfl⟩
        obtain ⟨y, hy⟩ : ∃ y, y = l2[k] := ⟨_, rfl⟩
        rw [← hx] at hxa HT2 HNE
        rw [← hy] at hxb HT2 HNE
        clear hx hy hk1 hk2
        unfold mgC at hxa hxb
        by_cases hxy : x = y
        · have HT3 := Lib.hid (HT2.out hxy)
          subst hxy
          clear HT2 HNE
          go_wp2
          refine wp_region_held_drew (S := fun w' => (∀ j u, [.int .u32 x.1.1, .int .u32 x.1.2.1, .int .i64 x.1.2.2][j]? = some u → w'.cell? ((ada.add (k * 3)).add j) = some u) ∧ (∀ j u, [.int .u32 x.1.1, .int .u32 x.1.2.1, .int .i64 x.1.2.2][j]? = some u → w'.cell? ((adb.add (k * 3)).add j) = some u)) (by kernel_rfl) ⟨hxa, hxb⟩ (fun hHeld => ?_)
          refine wpAnyH_take (i := 0) (oi := ⟨some 17, .move (.tmp 0), _, _, _, none⟩) (v := .slice (some ada) la ca) rfl (by kernel_rfl) (by kernel_rfl) (by kernel_rfl) (fun _ _ _ h => h) (Or.inl ⟨by rfl, fun _ _ => rfl⟩) hHeld ?_
          simp only [Act.put, List.setIfInBounds_toArray, List.set_cons_zero, List.set_cons_succ]
          refine wpAnyH_take (i := 1) (oi := ⟨some 18, .move (.tmp 5), _, _, _, none⟩) (v := .int .i64 (k : Int)) rfl (by kernel_rfl) (by kernel_rfl) (by kernel_rfl) (fun _ _ _ h => h) (Or.inl ⟨by rfl, fun _ _ => rfl⟩) hHeld ?_
          simp only [Act.put, List.setIfInBounds_toArray, List.set_cons_zero, List.set_cons_succ]
          refine wpAnyH_take (i := 2) (oi := ⟨some 19, .indexAddr 52 (.tmp 17) (.tmp 18), _, _, _, none⟩) (v := .pointer (some (ada.add (k * 3)))) rfl (by kernel_rfl) (by kernel_rfl) (by kernel_rfl) (fun _ _ _ h => h) (Or.inl ⟨by rfl, fun w _ => by go_simp⟩) hHeld ?_
          simp only [Act.put, List.setIfInBounds_toArray, List.set_cons_zero, List.set_cons_succ]
          refine wpAnyH_take (i := 3) (oi := ⟨some 20, .load 65 (.tmp 19), _, _, _, none⟩) (v := .agg #[.int .u32 x.1.1, .int .u32 x.1.2.1, .int .i64 x.1.2.2]) rfl (by kernel_rfl) (by kernel_rfl) (by kernel_rfl) (fun _ _ _ h => h) (Or.inl ⟨by rfl, fun w hSw => by have c0 : w.cell? (ada.add (k * 3)) = some _ := hSw.1 0 _ rfl; have c1 : w.cell? ⟨(ada.add (k * 3)).block, (ada.add (k * 3)).off + 1, none⟩ = some _ := hSw.1 1 _ rfl; have c2 : w.cell? ⟨(ada.add (k * 3)).block, (ada.add (k * 3)).off + 2, none⟩ = some _ := hSw.1 2 _ rfl; clear hSw; go_simp⟩) hHeld ?_
          simp only [Act.put, List.setIfInBounds_toArray, List.set_cons_zero, List.set_cons_succ]
          refine wpAnyH_take (i := 4) (oi := ⟨some 21, .move (.tmp 1), _, _, _, none⟩) (v := .slice (some adb) lb cb) rfl (by kernel_rfl) (by kernel_rfl) (by kernel_rfl) (fun _ _ _ h => h) (Or.inl ⟨by rfl, fun _ _ => rfl⟩) hHeld ?_
          simp only [Act.put, List.setIfInBounds_toArray, List.set_cons_zero, List.set_cons_succ]
          refine wpAnyH_take (i := 5) (oi := ⟨some 22, .move (.tmp 5), _, _, _, none⟩) (v := .int .i64 (k : Int)) rfl (by kernel_rfl) (by kernel_rfl) (by kernel_rfl) (fun _ _ _ h => h) (Or.inl ⟨by rfl, fun _ _ => rfl⟩) hHeld ?_
          simp only [Act.put, List.setIfInBounds_toArray, List.set_cons_zero, List.set_cons_succ]
          refine wpAnyH_take (i := 6) (oi := ⟨some 23, .indexAddr 52 (.tmp 21) (.tmp 22), _, _, _, none⟩) (v := .pointer (some (adb.add (k * 3)))) rfl (by kernel_rfl) (by kernel_rfl) (by kernel_rfl) (fun _ _ _ h => h) (Or.inl ⟨by rfl, fun w _ => by go_simp⟩) hHeld ?_
          simp only [Act.put, List.setIfInBounds_toArray, List.set_cons_zero, List.set_cons_succ]
          refine wpAnyH_take (i := 7) (oi := ⟨some 24, .load 65 (.tmp 23), _, _, _, none⟩) (v := .agg #[.int .u32 x.1.1, .int .u32 x.1.2.1, .int .i64 x.1.2.2]) rfl (by kernel_rfl) (by kernel_rfl) (by kernel_rfl) (fun _ _ _ h => h) (Or.inl ⟨by rfl, fun w hSw => by have c0 : w.cell? (adb.add (k * 3)) = some _ := hSw.2 0 _ rfl; have c1 : w.cell? ⟨(adb.add (k * 3)).block, (adb.add (k * 3)).off + 1, none⟩ = some _ := hSw.2 1 _ rfl; have c2 : w.cell? ⟨(adb.add (k * 3)).block, (adb.add (k * 3)).off + 2, none⟩ = some _ := hSw.2 2 _ rfl; clear hSw; go_simp⟩) hHeld ?_
          simp only [Act.put, List.setIfInBounds_toArray, List.set_cons_zero, List.set_cons_succ]
          refine wpAnyH_take (i := 8) (oi := ⟨some 25, .binOp .neq 65 (.tmp 20) (.tmp 24) 65, _, _, _, none⟩) (v := .bool false) rfl (by kernel_rfl) (by kernel_rfl) (by kernel_rfl) (fun _ _ _ h => h) (Or.inl ⟨by rfl, fun w _ => by go_simp⟩) hHeld ?_
          simp only [Act.put, List.setIfInBounds_toArray, List.set_cons_zero, List.set_cons_succ]
          refine wpAnyH_done (by kernel_rfl) ?_ _
          clear hHeld
          go_wp2
          go_roundw
          case rel => exact ⟨k + 1, by omega, by go_num, HT3, lr.drew⟩
          case measure => simp [intOf]; omega
        · have HN := Lib.hid (HNE.out hxy)
          have HX := Lib.hid (fun (h1 : x.1.1 = y.1.1) (h2 : x.1.2.1 = y.1.2.1) (h3 : x.1.2.2 = y.1.2.2) => hxy (Subtype.ext (Prod.ext h1 (Prod.ext h2 h3))))
          clear HT2 HNE hxy
          go_wp2
          refine wp_region_held_drew (S := fun w' => (∀ j u, [.int .u32 x.1.1, .int .u32 x.1.2.1, .int .i64 x.1.2.2][j]? = some u → w'.cell? ((ada.add (k * 3)).add j) = some u) ∧ (∀ j u, [.int .u32 y.1.1, .int .u32 y.1.2.1, .int .i64 y.1.2.2][j]? = some u → w'.cell? ((adb.add (k * 3)).add j) = some u)) (by kernel_rfl) ⟨hxa, hxb⟩ (fun hHeld => ?_)
          refine wpAnyH_take (i := 0) (oi := ⟨some 17, .move (.tmp 0), _, _, _, none⟩) (v := .slice (some ada) la ca) rfl (by kernel_rfl) (by kernel_rfl) (by kernel_rfl) (fun _ _ _ h => h) (Or.inl ⟨by rfl, fun _ _ => rfl⟩) hHeld ?_
          simp only [Act.put, List.setIfInBounds_toArray, List.set_cons_zero, List.set_cons_succ]
          refine wpAnyH_take (i := 1) (oi := ⟨some 18, .move (.tmp 5), _, _, _, none⟩) (v := .int .i64 (k : Int)) rfl (by kernel_rfl) (by kernel_rfl) (by kernel_rfl) (fun _ _ _ h => h) (Or.inl ⟨by rfl, fun _ _ => rfl⟩) hHeld ?_
          simp only [Act.put, List.setIfInBounds_toArray, List.set_cons_zero, List.set_cons_succ]
          refine wpAnyH_take (i := 2) (oi := ⟨some 19, .indexAddr 52 (.tmp 17) (.tmp 18), _, _, _, none⟩) (v := .pointer (some (ada.add (k * 3)))) rfl (by kernel_rfl) (by kernel_rfl) (by kernel_rfl) (fun _ _ _ h => h) (Or.inl ⟨by rfl, fun w _ => by go_simp⟩) hHeld ?_
          simp only [Act.put, List.setIfInBounds_toArray, List.set_cons_zero, List.set_cons_succ]
          refine wpAnyH_take (i := 3) (oi := ⟨some 20, .load 65 (.tmp 19), _, _, _, none⟩) (v := .agg #[.int .u32 x.1.1, .int .u32 x.1.2.1, .int .i64 x.1.2.2]) rfl (by kernel_rfl) (by kernel_rfl) (by kernel_rfl) (fun _ _ _ h => h) (Or.inl ⟨by rfl, fun w hSw => by have c0 : w.cell? (ada.add (k * 3)) = some _ := hSw.1 0 _ rfl; have c1 : w.cell? ⟨(ada.add (k * 3)).block, (ada.add (k * 3)).off + 1, none⟩ = some _ := hSw.1 1 _ rfl; have c2 : w.cell? ⟨(ada.add (k * 3)).block, (ada.add (k * 3)).off + 2, none⟩ = some _ := hSw.1 2 _ rfl; clear hSw; go_simp⟩) hHeld ?_
          simp only [Act.put, List.setIfInBounds_toArray, List.set_cons_zero, List.set_cons_succ]
          refine wpAnyH_take (i := 4) (oi := ⟨some 21, .move (.tmp 1), _, _, _, none⟩) (v := .slice (some adb) lb cb) rfl (by kernel_rfl) (by kernel_rfl) (by kernel_rfl) (fun _ _ _ h => h) (Or.inl ⟨by rfl, fun _ _ => rfl⟩) hHeld ?_
          simp only [Act.put, List.setIfInBounds_toArray, List.set_cons_zero, List.set_cons_succ]
          refine wpAnyH_take (i := 5) (oi := ⟨some 22, .move (.tmp 5), _, _, _, none⟩) (v := .int .i64 (k : Int)) rfl (by kernel_rfl) (by kernel_rfl) (by kernel_rfl) (fun _ _ _ h => h) (Or.inl ⟨by rfl, fun _ _ => rfl⟩) hHeld ?_
          simp only [Act.put, List.setIfInBounds_toArray, List.set_cons_zero, List.set_cons_succ]
          refine wpAnyH_take (i := 6) (oi := ⟨some 23, .indexAddr 52 (.tmp 21) (.tmp 22), _, _, _, none⟩) (v := .pointer (some (adb.add (k * 3)))) rfl (by kernel_rfl) (by kernel_rfl) (by kernel_rfl) (fun _ _ _ h => h) (Or.inl ⟨by rfl, fun w _ => by go_simp⟩) hHeld ?_
          simp only [Act.put, List.setIfInBounds_toArray, List.set_cons_zero, List.set_cons_succ]
          refine wpAnyH_take (i := 7) (oi := ⟨some 24, .load 65 (.tmp 23), _, _, _, none⟩) (v := .agg #[.int .u32 y.1.1, .int .u32 y.1.2.1, .int .i64 y.1.2.2]) rfl (by kernel_rfl) (by kernel_rfl) (by kernel_rfl) (fun _ _ _ h => h) (Or.inl ⟨by rfl, fun w hSw => by have c0 : w.cell? (adb.add (k * 3)) = some _ := hSw.2 0 _ rfl; have c1 : w.cell? ⟨(adb.add (k * 3)).block, (adb.add (k * 3)).off + 1, none⟩ = some _ := hSw.2 1 _ rfl; have c2 : w.cell? ⟨(adb.add (k * 3)).block, (adb.add (k * 3)).off + 2, none⟩ = some _ := hSw.2 2 _ rfl; clear hSw; go_simp⟩) hHeld ?_
          simp only [Act.put, List.setIfInBounds_toArray, List.set_cons_zero, List.set_cons_succ]
          refine wpAnyH_take (i := 8) (oi := ⟨some 25, .binOp .neq 65 (.tmp 20) (.tmp 24) 65, _, _, _, none⟩) (v := .bool true) rfl (by kernel_rfl) (by kernel_rfl) (by kernel_rfl) (fun _ _ _ h => h) (Or.inl ⟨by rfl, fun w _ => by by_cases h1 : x.1.1 = y.1.1 <;> by_cases h2 : x.1.2.1 = y.1.2.1 <;> by_cases h3 : x.1.2.2 = y.1.2.2 <;> first | exact (HX.out h1 h2 h3).elim | go_simp⟩) hHeld ?_
          simp only [Act.put, List.setIfInBounds_toArray, List.set_cons_zero, List.set_cons_succ]
          refine wpAnyH_done (by kernel_rfl) ?_ _
          clear hHeld
          go_wp2
          go_ret
          exact ⟨by rw [HN.out]; rfl, lr.drew⟩
      · obtain rfl : k = la := by omega
        have nkk : ¬ (k : Int) < (k : Int) := by omega
        have HN := Lib.hid (show q = true by
          rw [HQ.out, decide_eq_true_eq]
          have := HT.out
          rw [List.take_of_length_le (by rw [H1.out]; exact Nat.le_refl _), List.take_of_length_le (by rw [H2.out, ← HL.out]; exact Nat.le_refl _)] at this
          exact this)
        go_wp2
        go_ret
        exact ⟨by rw [HN.out]; rfl, lr⟩
  · have hne : ((la : Int) != (lb : Int)) = true := bne_iff_ne.2 (by omega)
    have hq : decide (l1 = l2) = false := decide_eq_false (by rintro rfl; exact hl (H1.out.symm.trans H2.out))
    rw [hq]
    clear hq
    go_enter Try.func21, Try.ntmps21
    go_wp2
    go_ret
    exact ⟨rfl, later0 _⟩
theorem access_any (n : Int) (w : World) : Calls Try.prog 9 #[.int .i64 n] w fun e w' => e = .returned (.bool (decide (1 ≤ n ∧ n ≤ 4))) ∧ w = w' := by
  by_cases a : 1 ≤ n
  · by_cases b : n ≤ 4
    · rw [decide_eq_true ⟨a, b⟩]
      go_enter Try.func9, Try.ntmps9
      go_wp2
      go_ret
      exact ⟨rfl, rfl⟩
    · rw [decide_eq_false (fun h => b h.2)]
      go_enter Try.func9, Try.ntmps9
      go_wp2
      go_ret
      exact ⟨rfl, rfl⟩
  · rw [decide_eq_false (fun h => a h.1)]
    go_enter Try.func9, Try.ntmps9
    go_wp2
    go_ret
    exact ⟨rfl, rfl⟩
end Go.Proofs.Ytempcbdlaoblhab
