/-
  THE WALK OF the reference's Same.
-/
import Derived.Test.YtempcbdlaoblhabTabQ
namespace Go.Proofs.Ytempcbdlaoblhab
open Go.RowKit Go.ChangeShapes Go.WideShapes Go.ChangeAt
set_option maxRecDepth 100000 in
set_option maxHeartbeats 4000000 in
theorem wsame_any (a l a' l' : Int) (A : Option Addr) (la ca : Nat) (B : Option Addr) (lb cb : Nat) (AR : Option Addr) (ra cra : Nat) (BR : Option Addr) (rb crb : Nat) (s1 s2 : List (Int × Int × Int)) (r1 r2 : List Int) (w : World)
    (h1 : s1.length = la) (h2 : s2.length = lb) (h3 : r1.length = ra) (h4 : r2.length = rb) (hsa : Sl w 3 A la (Ws s1)) (hsb : Sl w 3 B lb (Ws s2)) (hra : Sl w 1 AR ra (N64 r1)) (hrb : Sl w 1 BR rb (N64 r2)) (hla : la ≤ 1000) (_hlb : lb ≤ 1000) (hlr : ra ≤ 1000) (hlr' : rb ≤ 1000) :
    Calls Try.prog 13 #[.agg #[.int .i64 a, .int .i64 l, .slice A la ca, .slice AR ra cra], .agg #[.int .i64 a', .int .i64 l', .slice B lb cb, .slice BR rb crb]] w fun e w' => e = .returned (.bool (decide (a = a' ∧ l = l' ∧ s1 = s2 ∧ r1 = r2))) ∧ Later w w' := by
  have HSA := Lib.hid fun w' (hl : Later w w') => hsa.keep hl
  have HSB := Lib.hid fun w' (hl : Later w w') => hsb.keep hl
  have H1 := Lib.hid h1
  have H2 := Lib.hid h2
  have HI := Lib.hid fun w' (hl : Later w w') => sameInts64_any AR ra cra BR rb crb r1 r2 w' h3 h4 (hra.keep hl) (hrb.keep hl) hlr hlr'
  have bA := (Blk.new w 32 #[.int .i64 a, .int .i64 l, .slice A la ca, .slice AR ra cra] [.int .i64 a, .int .i64 l, .slice A la ca, .slice AR ra cra] rfl).alloc (.cells #[.int .i64 a', .int .i64 l', .slice B lb cb, .slice BR rb crb] 32)
  have bB := Blk.new' (w.alloc (.cells #[.int .i64 a, .int .i64 l, .slice A la ca, .slice AR ra cra] 32)) (w.heap.size + 1) 32 #[.int .i64 a', .int .i64 l', .slice B lb cb, .slice BR rb crb] [.int .i64 a', .int .i64 l', .slice B lb cb, .slice BR rb crb] (by simp) rfl
  clear hsa hsb hra hrb h3 h4 h1 h2
  by_cases ea : a = a'
  rotate_left
  · have na : (a != a') = true := bne_iff_ne.2 ea
    have hq : decide (a = a' ∧ l = l' ∧ s1 = s2 ∧ r1 = r2) = false := decide_eq_false (fun h => ea h.1)
    rw [hq]
    clear hq
    go_enter Try.func13, Try.ntmps13
    go_wp2_with (first
      | (go_at_call 37; refine (HI.out _ ((later1 _ _).alloc (by simp) _)).mono ?_; rintro e w1 ⟨rfl, l1⟩; replace bA := bA.keep l1; replace bB := bB.keep l1; have lw := Later.trans_ ((later1 w (.cells #[.int .i64 a, .int .i64 l, .slice A la ca, .slice AR ra cra] 32)).alloc (by simp) (.cells #[.int .i64 a', .int .i64 l', .slice B lb cb, .slice BR rb crb] 32)) l1))
    go_ret
    exact ⟨rfl, (later1 _ _).alloc (by simp) _⟩
  by_cases el : l = l'
  rotate_left
  · have na : (a != a') = false := by rw [ea]; simp
    have nl : (l != l') = true := bne_iff_ne.2 el
    have hq : decide (a = a' ∧ l = l' ∧ s1 = s2 ∧ r1 = r2) = false := decide_eq_false (fun h => el h.2.1)
    rw [hq]
    clear hq
    go_enter Try.func13, Try.ntmps13
    go_wp2_with (first
      | (go_at_call 37; refine (HI.out _ ((later1 _ _).alloc (by simp) _)).mono ?_; rintro e w1 ⟨rfl, l1⟩; replace bA := bA.keep l1; replace bB := bB.keep l1; have lw := Later.trans_ ((later1 w (.cells #[.int .i64 a, .int .i64 l, .slice A la ca, .slice AR ra cra] 32)).alloc (by simp) (.cells #[.int .i64 a', .int .i64 l', .slice B lb cb, .slice BR rb crb] 32)) l1))
    go_ret
    exact ⟨rfl, (later1 _ _).alloc (by simp) _⟩
  by_cases hl : la = lb
  rotate_left
  · have na : (a != a') = false := by rw [ea]; simp
    have nl : (l != l') = false := by rw [el]; simp
    have nn : ((la : Int) != (lb : Int)) = true := bne_iff_ne.2 (by omega)
    have hq : decide (a = a' ∧ l = l' ∧ s1 = s2 ∧ r1 = r2) = false := decide_eq_false (fun h => hl (by rw [← H1.out, ← H2.out, h.2.2.1]))
    rw [hq]
    clear hq
    go_enter Try.func13, Try.ntmps13
    go_wp2_with (first
      | (go_at_call 37; refine (HI.out _ ((later1 _ _).alloc (by simp) _)).mono ?_; rintro e w1 ⟨rfl, l1⟩; replace bA := bA.keep l1; replace bB := bB.keep l1; have lw := Later.trans_ ((later1 w (.cells #[.int .i64 a, .int .i64 l, .slice A la ca, .slice AR ra cra] 32)).alloc (by simp) (.cells #[.int .i64 a', .int .i64 l', .slice B lb cb, .slice BR rb crb] 32)) l1))
    go_ret
    exact ⟨rfl, (later1 _ _).alloc (by simp) _⟩
  have na : (a != a') = false := by rw [ea]; simp
  have nl : (l != l') = false := by rw [el]; simp
  have nn : ((la : Int) != (lb : Int)) = false := by rw [hl]; simp
  by_cases hr : r1 = r2
  rotate_left
  · rw [decide_eq_false hr] at HI
    have hq : decide (a = a' ∧ l = l' ∧ s1 = s2 ∧ r1 = r2) = false := decide_eq_false (fun h => hr h.2.2.2)
    rw [hq]
    clear hq ea el hl hr
    go_enter Try.func13, Try.ntmps13
    go_wp2_with (first
      | (go_at_call 37; refine (HI.out _ ((later1 _ _).alloc (by simp) _)).mono ?_; rintro e w1 ⟨rfl, l1⟩; replace bA := bA.keep l1; replace bB := bB.keep l1; have lw := Later.trans_ ((later1 w (.cells #[.int .i64 a, .int .i64 l, .slice A la ca, .slice AR ra cra] 32)).alloc (by simp) (.cells #[.int .i64 a', .int .i64 l', .slice B lb cb, .slice BR rb crb] 32)) l1))
    go_ret
    exact ⟨rfl, lw⟩
  rw [decide_eq_true hr] at HI
  have HL := Lib.hid hl
  have hq0 : decide (a = a' ∧ l = l' ∧ s1 = s2 ∧ r1 = r2) = decide (s1 = s2) := by simp [ea, el, hr]
  rw [hq0]
  clear hq0 ea el hl hr
  obtain ⟨q, hq⟩ : ∃ q, q = decide (s1 = s2) := ⟨_, rfl⟩
  rw [← hq]
  have HQ := Lib.hid hq
  clear hq
  go_enter Try.func13, Try.ntmps13
  go_wp2_with (first
    | (go_at_call 37; refine (HI.out _ ((later1 _ _).alloc (by simp) _)).mono ?_; rintro e w1 ⟨rfl, l1⟩; replace bA := bA.keep l1; replace bB := bB.keep l1; have lw := Later.trans_ ((later1 w (.cells #[.int .i64 a, .int .i64 l, .slice A la ca, .slice AR ra cra] 32)).alloc (by simp) (.cells #[.int .i64 a', .int .i64 l', .slice B lb cb, .slice BR rb crb] 32)) l1))
  go_loopw [5] (fun i wr => ∃ k : Nat, k ≤ la ∧ i = .int .i64 (k : Int) ∧ Hid (s1.take k = s2.take k) ∧ Later w1 wr) (fun i _ => la - (intOf i).toNat)
  case atStart => exact ⟨0, Nat.zero_le _, rfl, Lib.hid (by simp), later0 _⟩
  case round =>
    rename_i wr
    obtain ⟨k, hk, rfl, HT, lr⟩ := hrel
    have lx : Later w wr := Later.trans_ lw lr
    have cA := (bA.keep lr.drew).cell (j := 2) (v := .slice A la ca) rfl
    have cB := (bB.keep lr.drew).cell (j := 2) (v := .slice B lb cb) rfl
    have cA' := (bA.keep lr).cell (j := 2) (v := .slice A la ca) rfl
    by_cases hkl : k < la
    · have kl : (k : Int) < (la : Int) := by omega
      have kl2 : (k : Int) < (lb : Int) := by have := HL.out; omega
      obtain ⟨ada, rfl⟩ := (HSA.out _ lx.drew).addr (by omega)
      obtain ⟨adb, rfl⟩ := (HSB.out _ lx.drew).addr (show 0 < lb by omega)
      have hk1 : k < s1.length := by rw [H1.out]; exact hkl
      have hk2 : k < s2.length := by rw [H2.out]; omega
      have hxa := (HSA.out _ lx.drew).piece hkl (flat_part Wc 3 (fun _ => rfl) s1 k hk1)
      have hxb := (HSB.out _ lx.drew).piece (show k < lb by omega) (flat_part Wc 3 (fun _ => rfl) s2 k hk2)
      have HT2 := Lib.hid (take_same3 hk1 hk2 HT.out)
      have HNE := Lib.hid (fun (h : s1[k] ≠ s2[k]) => (show q = false by rw [HQ.out, decide_eq_false_iff_not]; rintro rfl; exact h rfl))
      obtain ⟨x, hx⟩ : ∃ x, x = s1[k] := ⟨_, rfl⟩
      obtain ⟨y, hy⟩ : ∃ y, y = s2[k] := ⟨_, rfl⟩
      rw [← hx] at hxa HT2 HNE
      rw [← hy] at hxb HT2 HNE
      clear hx hy hk1 hk2
      unfold Wc at hxa hxb
      by_cases hxy : x = y
      · have HT3 := Lib.hid (HT2.out hxy)
        subst hxy
        clear HT2 HNE
        go_wp2
        refine wp_region_held_drew (S := fun w' => w'.cell? ⟨w.heap.size, 2, none⟩ = some (.slice (some ada) la ca) ∧ w'.cell? ⟨w.heap.size + 1, 2, none⟩ = some (.slice (some adb) lb cb) ∧ (∀ j u, [.int .i64 x.1, .int .i64 x.2.1, .int .u32 x.2.2][j]? = some u → w'.cell? ((ada.add (k * 3)).add j) = some u) ∧ (∀ j u, [.int .i64 x.1, .int .i64 x.2.1, .int .u32 x.2.2][j]? = some u → w'.cell? ((adb.add (k * 3)).add j) = some u)) (by kernel_rfl) ⟨cA, cB, hxa, hxb⟩ (fun hHeld => ?_)
        refine wpAnyH_take (i := 0) (oi := ⟨some 42, .fieldAddr 32 (.tmp 2) 2, _, _, _, none⟩) (v := .pointer (some ⟨w.heap.size, 2, none⟩)) rfl (by kernel_rfl) (by kernel_rfl) (by kernel_rfl) (fun _ _ _ h => h) (Or.inl ⟨by rfl, fun w _ => by go_simp⟩) hHeld ?_
        simp only [Act.put, List.setIfInBounds_toArray, List.set_cons_zero, List.set_cons_succ]
        refine wpAnyH_take (i := 1) (oi := ⟨some 43, .load 29 (.tmp 42), _, _, _, none⟩) (v := .slice (some ada) la ca) rfl (by kernel_rfl) (by kernel_rfl) (by kernel_rfl) (fun _ _ _ h => h) (Or.inl ⟨by rfl, fun w hSw => by have e1 := hSw.1; clear hSw; go_simp⟩) hHeld ?_
        simp only [Act.put, List.setIfInBounds_toArray, List.set_cons_zero, List.set_cons_succ]
        refine wpAnyH_take (i := 2) (oi := ⟨some 44, .move (.tmp 5), _, _, _, none⟩) (v := .int .i64 (k : Int)) rfl (by kernel_rfl) (by kernel_rfl) (by kernel_rfl) (fun _ _ _ h => h) (Or.inl ⟨by rfl, fun _ _ => rfl⟩) hHeld ?_
        simp only [Act.put, List.setIfInBounds_toArray, List.set_cons_zero, List.set_cons_succ]
        refine wpAnyH_take (i := 3) (oi := ⟨some 45, .indexAddr 29 (.tmp 43) (.tmp 44), _, _, _, none⟩) (v := .pointer (some (ada.add (k * 3)))) rfl (by kernel_rfl) (by kernel_rfl) (by kernel_rfl) (fun _ _ _ h => h) (Or.inl ⟨by rfl, fun w _ => by go_simp⟩) hHeld ?_
        simp only [Act.put, List.setIfInBounds_toArray, List.set_cons_zero, List.set_cons_succ]
        refine wpAnyH_take (i := 4) (oi := ⟨some 46, .load 57 (.tmp 45), _, _, _, none⟩) (v := .agg #[.int .i64 x.1, .int .i64 x.2.1, .int .u32 x.2.2]) rfl (by kernel_rfl) (by kernel_rfl) (by kernel_rfl) (fun _ _ _ h => h) (Or.inl ⟨by rfl, fun w hSw => by have c0 : w.cell? (ada.add (k * 3)) = some _ := hSw.2.2.1 0 _ rfl; have c1 : w.cell? ⟨(ada.add (k * 3)).block, (ada.add (k * 3)).off + 1, none⟩ = some _ := hSw.2.2.1 1 _ rfl; have c2 : w.cell? ⟨(ada.add (k * 3)).block, (ada.add (k * 3)).off + 2, none⟩ = some _ := hSw.2.2.1 2 _ rfl; clear hSw; go_simp⟩) hHeld ?_
        simp only [Act.put, List.setIfInBounds_toArray, List.set_cons_zero, List.set_cons_succ]
        refine wpAnyH_take (i := 5) (oi := ⟨some 47, .fieldAddr 32 (.tmp 3) 2, _, _, _, none⟩) (v := .pointer (some ⟨w.heap.size + 1, 2, none⟩)) rfl (by kernel_rfl) (by kernel_rfl) (by kernel_rfl) (fun _ _ _ h => h) (Or.inl ⟨by rfl, fun w _ => by go_simp⟩) hHeld ?_
        simp only [Act.put, List.setIfInBounds_toArray, List.set_cons_zero, List.set_cons_succ]
        refine wpAnyH_take (i := 6) (oi := ⟨some 48, .load 29 (.tmp 47), _, _, _, none⟩) (v := .slice (some adb) lb cb) rfl (by kernel_rfl) (by kernel_rfl) (by kernel_rfl) (fun _ _ _ h => h) (Or.inl ⟨by rfl, fun w hSw => by have e1 := hSw.2.1; clear hSw; go_simp⟩) hHeld ?_
        simp only [Act.put, List.setIfInBounds_toArray, List.set_cons_zero, List.set_cons_succ]
        refine wpAnyH_take (i := 7) (oi := ⟨some 49, .move (.tmp 5), _, _, _, none⟩) (v := .int .i64 (k : Int)) rfl (by kernel_rfl) (by kernel_rfl) (by kernel_rfl) (fun _ _ _ h => h) (Or.inl ⟨by rfl, fun _ _ => rfl⟩) hHeld ?_
        simp only [Act.put, List.setIfInBounds_toArray, List.set_cons_zero, List.set_cons_succ]
        refine wpAnyH_take (i := 8) (oi := ⟨some 50, .indexAddr 29 (.tmp 48) (.tmp 49), _, _, _, none⟩) (v := .pointer (some (adb.add (k * 3)))) rfl (by kernel_rfl) (by kernel_rfl) (by kernel_rfl) (fun _ _ _ h => h) (Or.inl ⟨by rfl, fun w _ => by go_simp⟩) hHeld ?_
        simp only [Act.put, List.setIfInBounds_toArray, List.set_cons_zero, List.set_cons_succ]
        refine wpAnyH_take (i := 9) (oi := ⟨some 51, .load 57 (.tmp 50), _, _, _, none⟩) (v := .agg #[.int .i64 x.1, .int .i64 x.2.1, .int .u32 x.2.2]) rfl (by kernel_rfl) (by kernel_rfl) (by kernel_rfl) (fun _ _ _ h => h) (Or.inl ⟨by rfl, fun w hSw => by have c0 : w.cell? (adb.add (k * 3)) = some _ := hSw.2.2.2 0 _ rfl; have c1 : w.cell? ⟨(adb.add (k * 3)).block, (adb.add (k * 3)).off + 1, none⟩ = some _ := hSw.2.2.2 1 _ rfl; have c2 : w.cell? ⟨(adb.add (k * 3)).block, (adb.add (k * 3)).off + 2, none⟩ = some _ := hSw.2.2.2 2 _ rfl; clear hSw; go_simp⟩) hHeld ?_
        simp only [Act.put, List.setIfInBounds_toArray, List.set_cons_zero, List.set_cons_succ]
        refine wpAnyH_take (i := 10) (oi := ⟨some 52, .binOp .neq 57 (.tmp 46) (.tmp 51) 57, _, _, _, none⟩) (v := .bool false) rfl (by kernel_rfl) (by kernel_rfl) (by kernel_rfl) (fun _ _ _ h => h) (Or.inl ⟨by rfl, fun w _ => by go_simp⟩) hHeld ?_
        simp only [Act.put, List.setIfInBounds_toArray, List.set_cons_zero, List.set_cons_succ]
        refine wpAnyH_done (by kernel_rfl) ?_ _
        clear hHeld
        go_wp2
        go_roundw
        case rel => exact ⟨k + 1, by omega, by go_num, HT3, lr.drew⟩
        case measure => simp [intOf]; omega
      · have HN := Lib.hid (HNE.out hxy)
        have HX := Lib.hid (fun (h1 : x.1 = y.1) (h2 : x.2.1 = y.2.1) (h3 : x.2.2 = y.2.2) => hxy (Prod.ext h1 (Prod.ext h2 h3)))
        clear HT2 HNE hxy
        go_wp2
        refine wp_region_held_drew (S := fun w' => w'.cell? ⟨w.heap.size, 2, none⟩ = some (.slice (some ada) la ca) ∧ w'.cell? ⟨w.heap.size + 1, 2, none⟩ = some (.slice (some adb) lb cb) ∧ (∀ j u, [.int .i64 x.1, .int .i64 x.2.1, .int .u32 x.2.2][j]? = some u → w'.cell? ((ada.add (k * 3)).add j) = some u) ∧ (∀ j u, [.int .i64 y.1, .int .i64 y.2.1, .int .u32 y.2.2][j]? = some u → w'.cell? ((adb.add (k * 3)).add j) = some u)) (by kernel_rfl) ⟨cA, cB, hxa, hxb⟩ (fun hHeld => ?_)
        refine wpAnyH_take (i := 0) (oi := ⟨some 42, .fieldAddr 32 (.tmp 2) 2, _, _, _, none⟩) (v := .pointer (some ⟨w.heap.size, 2, none⟩)) rfl (by kernel_rfl) (by kernel_rfl) (by kernel_rfl) (fun _ _ _ h => h) (Or.inl ⟨by rfl, fun w _ => by go_simp⟩) hHeld ?_
        simp only [Act.put, List.setIfInBounds_toArray, List.set_cons_zero, List.set_cons_succ]
        refine wpAnyH_take (i := 1) (oi := ⟨some 43, .load 29 (.tmp 42), _, _, _, none⟩) (v := .slice (some ada) la ca) rfl (by kernel_rfl) (by kernel_rfl) (by kernel_rfl) (fun _ _ _ h => h) (Or.inl ⟨by rfl, fun w hSw => by have e1 := hSw.1; clear hSw; go_simp⟩) hHeld ?_
        simp only [Act.put, List.setIfInBounds_toArray, List.set_cons_zero, List.set_cons_succ]
        refine wpAnyH_take (i := 2) (oi := ⟨some 44, .move (.tmp 5), _, _, _, none⟩) (v := .int .i64 (k : Int)) rfl (by kernel_rfl) (by kernel_rfl) (by kernel_rfl) (fun _ _ _ h => h) (Or.inl ⟨by rfl, fun _ _ => rfl⟩) hHeld ?_
        simp only [Act.put, List.setIfInBounds_toArray, List.set_cons_zero, List.set_cons_succ]
        refine wpAnyH_take (i := 3) (oi := ⟨some 45, .indexAddr 29 (.tmp 43) (.tmp 44), _, _, _, none⟩) (v := .pointer (some (ada.add (k * 3)))) rfl (by kernel_rfl) (by kernel_rfl) (by kernel_rfl) (fun _ _ _ h => h) (Or.inl ⟨by rfl, fun w _ => by go_simp⟩) hHeld ?_
        simp only [Act.put, List.setIfInBounds_toArray, List.set_cons_zero, List.set_cons_succ]
        refine wpAnyH_take (i := 4) (oi := ⟨some 46, .load 57 (.tmp 45), _, _, _, none⟩) (v := .agg #[.int .i64 x.1, .int .i64 x.2.1, .int .u32 x.2.2]) rfl (by kernel_rfl) (by kernel_rfl) (by kernel_rfl) (fun _ _ _ h => h) (Or.inl ⟨by rfl, fun w hSw => by have c0 : w.cell? (ada.add (k * 3)) = some _ := hSw.2.2.1 0 _ rfl; have c1 : w.cell? ⟨(ada.add (k * 3)).block, (ada.add (k * 3)).off + 1, none⟩ = some _ := hSw.2.2.1 1 _ rfl; have c2 : w.cell? ⟨(ada.add (k * 3)).block, (ada.add (k * 3)).off + 2, none⟩ = some _ := hSw.2.2.1 2 _ rfl; clear hSw; go_simp⟩) hHeld ?_
        simp only [Act.put, List.setIfInBounds_toArray, List.set_cons_zero, List.set_cons_succ]
        refine wpAnyH_take (i := 5) (oi := ⟨some 47, .fieldAddr 32 (.tmp 3) 2, _, _, _, none⟩) (v := .pointer (some ⟨w.heap.size + 1, 2, none⟩)) rfl (by kernel_rfl) (by kernel_rfl) (by kernel_rfl) (fun _ _ _ h => h) (Or.inl ⟨by rfl, fun w _ => by go_simp⟩) hHeld ?_
        simp only [Act.put, List.setIfInBounds_toArray, List.set_cons_zero, List.set_cons_succ]
        refine wpAnyH_take (i := 6) (oi := ⟨some 48, .load 29 (.tmp 47), _, _, _, none⟩) (v := .slice (some adb) lb cb) rfl (by kernel_rfl) (by kernel_rfl) (by kernel_rfl) (fun _ _ _ h => h) (Or.inl ⟨by rfl, fun w hSw => by have e1 := hSw.2.1; clear hSw; go_simp⟩) hHeld ?_
        simp only [Act.put, List.setIfInBounds_toArray, List.set_cons_zero, List.set_cons_succ]
        refine wpAnyH_take (i := 7) (oi := ⟨some 49, .move (.tmp 5), _, _, _, none⟩) (v := .int .i64 (k : Int)) rfl (by kernel_rfl) (by kernel_rfl) (by kernel_rfl) (fun _ _ _ h => h) (Or.inl ⟨by rfl, fun _ _ => rfl⟩) hHeld ?_
        simp only [Act.put, List.setIfInBounds_toArray, List.set_cons_zero, List.set_cons_succ]
        refine wpAnyH_take (i := 8) (oi := ⟨some 50, .indexAddr 29 (.tmp 48) (.tmp 49), _, _, _, none⟩) (v := .pointer (some (adb.add (k * 3)))) rfl (by kernel_rfl) (by kernel_rfl) (by kernel_rfl) (fun _ _ _ h => h) (Or.inl ⟨by rfl, fun w _ => by go_simp⟩) hHeld ?_
        simp only [Act.put, List.setIfInBounds_toArray, List.set_cons_zero, List.set_cons_succ]
        refine wpAnyH_take (i := 9) (oi := ⟨some 51, .load 57 (.tmp 50), _, _, _, none⟩) (v := .agg #[.int .i64 y.1, .int .i64 y.2.1, .int .u32 y.2.2]) rfl (by kernel_rfl) (by kernel_rfl) (by kernel_rfl) (fun _ _ _ h => h) (Or.inl ⟨by rfl, fun w hSw => by have c0 : w.cell? (adb.add (k * 3)) = some _ := hSw.2.2.2 0 _ rfl; have c1 : w.cell? ⟨(adb.add (k * 3)).block, (adb.add (k * 3)).off + 1, none⟩ = some _ := hSw.2.2.2 1 _ rfl; have c2 : w.cell? ⟨(adb.add (k * 3)).block, (adb.add (k * 3)).off + 2, none⟩ = some _ := hSw.2.2.2 2 _ rfl; clear hSw; go_simp⟩) hHeld ?_
        simp only [Act.put, List.setIfInBounds_toArray, List.set_cons_zero, List.set_cons_succ]
        refine wpAnyH_take (i := 10) (oi := ⟨some 52, .binOp .neq 57 (.tmp 46) (.tmp 51) 57, _, _, _, none⟩) (v := .bool true) rfl (by kernel_rfl) (by kernel_rfl) (by kernel_rfl) (fun _ _ _ h => h) (Or.inl ⟨by rfl, fun w _ => by by_cases h1 : x.1 = y.1 <;> by_cases h2 : x.2.1 = y.2.1 <;> by_cases h3 : x.2.2 = y.2.2 <;> first | exact (HX.out h1 h2 h3).elim | go_simp⟩) hHeld ?_
        simp only [Act.put, List.setIfInBounds_toArray, List.set_cons_zero, List.set_cons_succ]
        refine wpAnyH_done (by kernel_rfl) ?_ _
        clear hHeld
        go_wp2
        go_ret
        exact ⟨by rw [HN.out]; rfl, lx.drew⟩
    · obtain rfl : k = la := by omega
      have nkk : ¬ (k : Int) < (k : Int) := by omega
      have HN := Lib.hid (show q = true by
        rw [HQ.out, decide_eq_true_eq]
        have := HT.out
        rw [List.take_of_length_le (by rw [H1.out]; exact Nat.le_refl _), List.take_of_length_le (by rw [H2.out, ← HL.out]; exact Nat.le_refl _)] at this
        exact this)
      go_wp2
      go_ret
      exact ⟨by rw [HN.out]; rfl, lx⟩
end Go.Proofs.Ytempcbdlaoblhab
