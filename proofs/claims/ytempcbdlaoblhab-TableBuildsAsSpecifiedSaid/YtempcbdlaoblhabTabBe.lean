/-
  THE CONTRACTS OF the reference's MapLarge, Unmap and Map: they hand back what the program's do.
-/
import Derived.Test.YtempcbdlaoblhabTabBb
import Derived.Test.YtempcbdlaoblhabTabBc
namespace Go.Proofs.Ytempcbdlaoblhab
open Go.RowKit Go.ChangeShapes Go.WideShapes Go.ChangeAt

namespace Tm
theorem There_fA {n : Nat} {root va : Int} (h : pageB n root = true) (h0 : 0 ≤ root) (hv : 0 ≤ va ∧ va < 131072) : Mm.There (n * 128) (fA root va) 4 := by
  have := pageB_lt h
  unfold fA
  exact ⟨Or.inr ⟨rfl, by omega⟩, by omega, by omega⟩
theorem There_sA {n : Nat} {t va : Int} (h : pageB n t = true) (h0 : 0 ≤ t) : Mm.There (n * 128) (sA t va) 4 := by
  have := pageB_lt h
  unfold sA
  exact ⟨Or.inr ⟨rfl, by omega⟩, by omega, by omega⟩
theorem large_bad {n : Nat} {b : Wm.Bs} {root va pa r : Int} (h : mapB n root va pa r 4096 = false) : largeE n b root va pa r = 1 ∧ largeM n b root va pa r = b := by
  have h1 : largeE n b root va pa r = 1 := by unfold largeE errL; rw [h]; rfl
  refine ⟨h1, ?_⟩
  unfold largeM
  rw [h1, if_neg (by decide)]
theorem large_E {n : Nat} {b : Wm.Bs} {root va pa r : Int} {E : Int} (h : largeE n b root va pa r = E) (h0 : E ≠ 0) : largeM n b root va pa r = b := by
  unfold largeM
  rw [h, if_neg h0]
theorem map_E {n : Nat} {b : Wm.Bs} {root va pa r tb : Int} {E : Int} (h : mapE n b root va pa r tb = E) (h0 : E ≠ 0) : mapM n b root va pa r tb = b := by
  unfold mapM
  rw [h, if_neg h0]
theorem unmap_E {n : Nat} {b : Wm.Bs} {root va : Int} {E : Int} (h : unmapE n b root va = E) (h0 : E ≠ 0) : unmapM n b root va = b := by
  unfold unmapM
  rw [h, if_neg h0]
theorem map_bad {n : Nat} {b : Wm.Bs} {root va pa r tb : Int} (h : mapB n root va pa r 128 = false) : mapE n b root va pa r tb = 1 := by
  unfold mapE errB
  rw [h]
  rfl
theorem isE_adr {b : Wm.Bs} (hb : Wm.isBs b) (a : Int) : 0 ≤ adr (wd b a) ∧ adr (wd b a) < 4294967296 := adr_e (wd_e hb a)
theorem mapB_ok {n : Nat} {root va pa r s : Int} (h1 : va < 131072) (h2 : va % s = 0) (h3 : pageB n pa = true) (h4 : pa % s = 0) (h5 : rightsB r = true) (h6 : root ≠ 0) (h7 : pageB n root = true) : mapB n root va pa r s = true ∧ 0 ≤ r ∧ r ≤ 14 := by
  unfold rightsB at h5
  simp only [Bool.and_eq_true, decide_eq_true_eq] at h5
  refine ⟨?_, h5.1, h5.2.2⟩
  unfold mapB rootB
  simp [h1, h2, h3, h4, h5.1, h5.2.1, h5.2.2, h6, h7]
theorem rights_no {r : Int} (h : rightsB r = false) : decide (0 ≤ r ∧ r % 2 = 0 ∧ r ≤ 14) = false := by
  unfold rightsB at h
  simpa using h
end Tm
set_option maxRecDepth 100000 in
theorem rlarge_any (A : Option Addr) (n c : Nat) (root va pa r : Int) (b : Wm.Bs) (w : World) (hs : Sl w 128 A n (U b)) (hb : Wm.isBs b) (h1 : 1 ≤ n ∧ n ≤ 64) (hr : 0 ≤ root ∧ root < 4294967296) (hv : 0 ≤ va ∧ va < 4294967296) (hp : 0 ≤ pa ∧ pa < 4294967296) :
    Calls Try.prog 18 #[.agg #[.slice A n c], .int .u32 root, .int .u32 va, .int .u32 pa, .int .i64 r] w (GotMd n (Tm.largeM n b root va pa r) (Tm.largeE n b root va pa r) w) := by
  have bad : ∀ hB : Tm.mapB n root va pa r 4096 = false, Calls Try.prog 18 #[.agg #[.slice A n c], .int .u32 root, .int .u32 va, .int .u32 pa, .int .i64 r] w (GotMd n b 1 w) → Calls Try.prog 18 #[.agg #[.slice A n c], .int .u32 root, .int .u32 va, .int .u32 pa, .int .i64 r] w (GotMd n (Tm.largeM n b root va pa r) (Tm.largeE n b root va pa r) w) := by
    intro hB h
    rw [(Tm.large_bad hB).1, (Tm.large_bad hB).2]
    exact h
  by_cases c1 : va < 131072
  rotate_left
  · exact bad (by unfold Tm.mapB; simp [c1]) (rlarge_b1 A n c root va pa r b w hs h1 hr hv hp c1)
  by_cases c2 : va % 4096 = 0
  rotate_left
  · exact bad (by unfold Tm.mapB; simp [c2]) (rlarge_b2 A n c root va pa r b w hs h1 hr hv hp c1 c2)
  cases c3 : Tm.pageB n pa with
  | false => exact bad (by unfold Tm.mapB; simp [c3]) (rlarge_b3 A n c root va pa r b w hs h1 hr hv hp c1 c2 c3)
  | true =>
  by_cases c4 : pa % 4096 = 0
  rotate_left
  · exact bad (by unfold Tm.mapB; simp [c4]) (rlarge_b4 A n c root va pa r b w hs h1 hr hv hp c1 c2 c3 c4)
  cases c5 : Tm.rightsB r with
  | false => exact bad (by unfold Tm.mapB; rw [Tm.rights_no c5]; simp) (rlarge_b5 A n c root va pa r b w hs h1 hr hv hp c1 c2 c3 c4 c5)
  | true =>
  by_cases c6 : root = 0
  · exact bad (by unfold Tm.mapB Tm.rootB; simp [c6]) (rlarge_b6 A n c root va pa r b w hs h1 hr hv hp c1 c2 c3 c4 c5 c6)
  cases c7 : Tm.pageB n root with
  | false => exact bad (by unfold Tm.mapB Tm.rootB; simp [c7]) (rlarge_b7 A n c root va pa r b w hs h1 hr hv hp c1 c2 c3 c4 c5 c6 c7)
  | true =>
  obtain ⟨hB, r0, r1⟩ := Tm.mapB_ok c1 c2 c3 c4 c5 c6 c7
  have KT := fun w' (hl : Later w w') => rtop_any A n c root va b w' (hs.keep hl) hb h1.2 hr ⟨hv.1, c1⟩
  cases hvl : Tm.has (Tm.wd b (Tm.fA root va)) 1 with
  | true =>
    rw [hvl] at KT
    have hE : Tm.largeE n b root va pa r = 6 := by unfold Tm.largeE Tm.errL; rw [hB, hvl]; rfl
    rw [Tm.large_E hE (by decide), hE]
    exact rlarge_twice A n c root va pa r b w hs h1 hr hv hp c1 c2 c3 c4 c5 c6 c7 _ _ _ _ (Lib.hid KT)
  | false =>
    rw [hvl] at KT
    have hE : Tm.largeE n b root va pa r = 0 := by unfold Tm.largeE Tm.errL; rw [hB, hvl]; rfl
    have hpa := Tm.pageB_lt c3
    have hM : Tm.largeM n b root va pa r = Mm.st b (Tm.fA root va) 4 (pa + 65 + r) := by unfold Tm.largeM; rw [hE, if_pos rfl]
    rw [hM, hE]
    exact rlarge_ok A n c root va pa r b w hs h1 hr hv hp c1 c2 c3 c4 c5 c6 c7 ⟨r0, by omega⟩ _ _ _ _ (Lib.hid KT) (pa + 65 + r) rfl _ (Lib.hid fun w' hl => rset_any A n c _ _ b w' (hs.keep hl) h1 (Tm.There_fA c7 hr.1 ⟨hv.1, c1⟩) (by omega))
set_option maxRecDepth 100000 in
theorem runmap_any (A : Option Addr) (n c : Nat) (root va : Int) (b : Wm.Bs) (w : World) (hs : Sl w 128 A n (U b)) (hb : Wm.isBs b) (h1 : 1 ≤ n ∧ n ≤ 64) (hr : 0 ≤ root ∧ root < 4294967296) (hv : 0 ≤ va ∧ va < 4294967296) :
    Calls Try.prog 19 #[.agg #[.slice A n c], .int .u32 root, .int .u32 va] w (GotMd n (Tm.unmapM n b root va) (Tm.unmapE n b root va) w) := by
  by_cases c1 : va < 131072
  rotate_left
  · have hE : Tm.unmapE n b root va = 1 := by unfold Tm.unmapE Tm.errU; simp [c1]
    rw [Tm.unmap_E hE (by decide), hE]
    exact runmap_b1 A n c root va b w hs h1 hr hv c1
  by_cases c6 : root = 0
  · have hE : Tm.unmapE n b root va = 1 := by unfold Tm.unmapE Tm.errU Tm.rootB; simp [c6]
    rw [Tm.unmap_E hE (by decide), hE]
    exact runmap_b2 A n c root va b w hs h1 hr hv c1 c6
  cases c7 : Tm.pageB n root with
  | false =>
    have hE : Tm.unmapE n b root va = 1 := by unfold Tm.unmapE Tm.errU Tm.rootB; simp [c7]
    rw [Tm.unmap_E hE (by decide), hE]
    exact runmap_b3 A n c root va b w hs h1 hr hv c1 c6 c7
  | true =>
  have hroot : Tm.rootB n root = true := by unfold Tm.rootB; simp [c6, c7]
  have KT := fun w' (hl : Later w w') => rtop_any A n c root va b w' (hs.keep hl) hb h1.2 hr ⟨hv.1, c1⟩
  have hS := fun w' (hl : Later w w') (a : Int) (ha : Mm.There (n * 128) a 4) => rset_any A n c a 0 b w' (hs.keep hl) h1 ha (by omega)
  have hA := Tm.isE_adr hb (Tm.fA root va)
  have hrf1 := rF_page (n := n) (e := Tm.wd b (Tm.fA root va))
  have he := Tm.wd_e hb (Tm.fA root va)
  unfold Tm.unmapM Tm.unmapE
  rw [hroot, decide_eq_true c1]
  obtain ⟨e, hE⟩ : ∃ e, e = Tm.wd b (Tm.fA root va) := ⟨_, rfl⟩
  rw [← hE] at KT hA hrf1 he ⊢
  cases hvl : Tm.has e 1 with
  | false =>
    rw [hvl] at KT
    show Calls _ _ _ _ (GotMd n (if (5 : Int) = 0 then _ else b) 5 w)
    rw [if_neg (by decide)]
    exact runmap_name A n c root va b w hs h1 hr hv c1 c6 c7 _ _ _ _ (Lib.hid KT)
  | true =>
  rw [hvl] at KT
  cases hrf : Tm.rF n e with
  | false =>
    rw [hrf] at KT
    show Calls _ _ _ _ (GotMd n (if (3 : Int) = 0 then _ else b) 3 w)
    rw [if_neg (by decide)]
    exact runmap_form A n c root va b w hs h1 hr hv c1 c6 c7 _ _ _ (Lib.hid KT)
  | true =>
  rw [hrf] at KT
  cases hlg : Tm.has e 64 with
  | true =>
    rw [hlg] at KT
    show Calls _ _ _ _ (GotMd n (if (0 : Int) = 0 then (Mm.st b (if true = true then _ else _) 4 0) else b) 0 w)
    rw [if_pos rfl, if_pos rfl]
    exact runmap_large A n c root va b w hs h1 hr hv c1 c6 c7 _ _ (Lib.hid KT) _ (Lib.hid fun w' hl => hS w' hl _ (Tm.There_fA c7 hr.1 ⟨hv.1, c1⟩))
  | false =>
  rw [hlg] at KT
  have hpg := hrf1 hrf hlg
  have hb2 := Tm.There_sA (va := va) hpg hA.1
  have KB := fun w' => rbelow_any (Tm.fA root va) e va true true false w' ⟨he.1, by have := he.2; omega⟩ ⟨hv.1, by omega⟩
  have hq : Tm.adr e + 4 * (va / 128 % 32) = Tm.sA (Tm.adr e) va := by unfold Tm.sA; omega
  rw [hq] at KB
  have KW := fun w' (hl : Later w w') => rword_any A n c (Tm.sA (Tm.adr e) va) b w' (hs.keep hl) hb h1.2 ⟨hb2.2.1, by have := hb2.2.2; omega⟩
  have he2 := Tm.wd_e hb (Tm.sA (Tm.adr e) va)
  have KH := fun w' => rhas_any (Tm.wd b (Tm.sA (Tm.adr e) va)) 1 w' ⟨he2.1, by have := he2.2; omega⟩ (by omega)
  cases hv2 : Tm.has (Tm.wd b (Tm.sA (Tm.adr e) va)) 1 with
  | false =>
    rw [hv2] at KH
    show Calls _ _ _ _ (GotMd n (if (5 : Int) = 0 then _ else b) 5 w)
    rw [if_neg (by decide)]
    exact runmap_none A n c root va b w hs h1 hr hv c1 c6 c7 _ _ (Lib.hid KT) _ _ (Lib.hid KB) (Lib.hid KW) (Lib.hid KH)
  | true =>
    rw [hv2] at KH
    show Calls _ _ _ _ (GotMd n (if (0 : Int) = 0 then (Mm.st b (if false = true then _ else _) 4 0) else b) 0 w)
    rw [if_pos rfl, if_neg (by decide)]
    exact runmap_second A n c root va b w hs h1 hr hv c1 c6 c7 _ _ (Lib.hid KT) _ _ (Lib.hid KB) (Lib.hid KW) (Lib.hid KH) _ (Lib.hid fun w' hl => hS w' hl _ hb2)
theorem ofS_ofN {b : Wm.Bs} (h : Wm.isBs b) : Wm.ofS (strOfNums b) = b := by
  unfold Wm.ofS strOfNums
  show ((b.map fun x => UInt8.ofNat x.toNat).toArray.toList).map _ = b
  rw [List.toList_toArray, List.map_map]
  conv => rhs; rw [← List.map_id b]
  apply List.map_congr_left
  intro x hx
  have hx2 := h x hx
  show (((UInt8.ofNat x.toNat).toNat : Nat) : Int) = x
  rw [UInt8.toNat_ofNat']
  show ((x.toNat % 256 : Nat) : Int) = x
  omega
/-- A page of zeros. -/
def Z128 : Wm.Bs := List.replicate 128 0
theorem Z128_bs : Wm.isBs Z128 := fun x hx => by rw [List.eq_of_mem_replicate hx]; decide
/-- A page made zero word by word. -/
theorem zl_ap {b : Wm.Bs} {n tb : Nat} (hb : b.length = n * 128) (h : tb + 128 ≤ n * 128) (h4 : tb % 4 = 0) : ∀ k, k ≤ 32 → Mm.ap b ((zl (tb : Int)).take k) = some (Mm.put b tb (List.replicate (k * 4) 0)) := by
  intro k
  induction k with
  | zero =>
    intro _
    rw [List.take_zero, Mm.ap_nil, Nat.zero_mul, List.replicate_zero, Mm.put_nil]
  | succ k ih =>
    intro hk
    have h1 := ih (by omega)
    have hkl : k < (zl (tb : Int)).length := by rw [zl_len]; omega
    have hg : (zl (tb : Int))[k] = ((tb : Int) + (k : Int) * 4, 4, 0) := by
      have := zl_get (tb : Int) k (by omega)
      rw [List.getElem?_eq_getElem hkl] at this
      exact Option.some.inj this
    have hl : (Mm.put b tb (List.replicate (k * 4) 0)).length = n * 128 := by rw [Mm.put_len (by rw [List.length_replicate]; omega), hb]
    rw [ap_take_succ hkl h1, hg, hl, if_pos ⟨Or.inr ⟨rfl, by show ((tb : Int) + (k : Int) * 4) % 4 = 0; omega⟩, by show 0 ≤ (tb : Int) + (k : Int) * 4; omega, by show (4 : Int) ≤ ((n * 128 : Nat) : Int) - ((tb : Int) + (k : Int) * 4); omega⟩]
    have he : Mm.el (4 : Int).toNat 0 = List.replicate 4 0 := rfl
    have ht : ((tb : Int) + (k : Int) * 4).toNat = tb + (List.replicate (k * 4) (0 : Int)).length := by rw [List.length_replicate]; omega
    show some (Mm.put _ ((tb : Int) + (k : Int) * 4).toNat (Mm.el (4 : Int).toNat 0)) = _
    rw [he, ht, Mm.put_app _ _ _ _ (by rw [List.length_replicate, List.length_replicate]; omega), List.replicate_append_replicate, Nat.add_mul]
theorem newM_is {b : Wm.Bs} {n tb : Nat} {fa sa u v : Int} (hb : b.length = n * 128) (h : tb + 128 ≤ n * 128) (h4 : tb % 4 = 0) (hf : Mm.There (n * 128) fa 4) (hs : Mm.There (n * 128) sa 4) :
    (Mm.ap b (zl (tb : Int) ++ [(fa, 4, u)] ++ [(sa, 4, v)])).getD b = Mm.st (Mm.st (Mm.put b tb Z128) fa 4 u) sa 4 v := by
  have h1 := zl_ap hb h h4 32 (Nat.le_refl _)
  rw [List.take_of_length_le (by rw [zl_len]; omega)] at h1
  have l1 : (Mm.put b tb Z128).length = n * 128 := by rw [Mm.put_len (by show tb + (List.replicate 128 _).length ≤ _; rw [List.length_replicate, hb]; exact h), hb]
  rw [Mm.ap_snoc, Mm.ap_snoc, h1]
  have l2 := Mm.st_len (Mm.put b tb Z128) fa 4 u
  have e1 : Mm.st (Mm.put b tb Z128) fa 4 u = Mm.put (Mm.put b tb Z128) fa.toNat (Mm.el (4 : Int).toNat u) := by
    unfold Mm.st
    rw [l1, if_pos hf]
  rw [l1] at l2
  have e2 : Mm.st (Mm.st (Mm.put b tb Z128) fa 4 u) sa 4 v = Mm.put (Mm.st (Mm.put b tb Z128) fa 4 u) sa.toNat (Mm.el (4 : Int).toNat v) := by
    show (if _ then _ else _) = _
    rw [l2, if_pos hs]
  show Option.getD (((if Mm.There (Mm.put b tb Z128).length fa 4 then some (Mm.put (Mm.put b tb Z128) fa.toNat (Mm.el (4 : Int).toNat u)) else none)).bind _) b = _
  rw [l1, if_pos hf, e2, ← e1]
  show Option.getD (if Mm.There (Mm.st (Mm.put b tb Z128) fa 4 u).length sa 4 then some (Mm.put (Mm.st (Mm.put b tb Z128) fa 4 u) sa.toNat (Mm.el (4 : Int).toNat v)) else none) b = _
  rw [l2, if_pos hs]
  rfl
/-- A word of the new table is zero. -/
theorem new_word {b : Wm.Bs} {n tb : Nat} {fa sa u : Int} (hb : b.length = n * 128) (h : tb + 128 ≤ n * 128) (hf : Mm.There (n * 128) fa 4) (hs : Mm.There (n * 128) sa 4) (hs1 : (tb : Int) ≤ sa ∧ sa + 4 ≤ (tb : Int) + 128) (hne : fa + 4 ≤ (tb : Int) ∨ (tb : Int) + 128 ≤ fa) :
    Tm.wd (Mm.st (Mm.put b tb Z128) fa 4 u) sa = 0 := by
  have zl : Z128.length = 128 := by show (List.replicate 128 _).length = _; rw [List.length_replicate]
  have l1 : (Mm.put b tb Z128).length = n * 128 := by rw [Mm.put_len (by rw [zl, hb]; exact h), hb]
  have l2 := Mm.st_len (Mm.put b tb Z128) fa 4 u
  rw [l1] at l2
  unfold Tm.wd Mm.ld
  rw [l2, if_pos hs]
  have e1 : Mm.st (Mm.put b tb Z128) fa 4 u = Mm.put (Mm.put b tb Z128) fa.toNat (Mm.el (4 : Int).toNat u) := by
    unfold Mm.st
    rw [l1, if_pos hf]
  have f1 := hf.2.1
  have f2 := hf.2.2
  have s1 := hs.2.1
  rw [e1, Mm.put_other (by rw [Mm.el_len, l1]; show fa.toNat + 4 ≤ _; omega) (by rw [Mm.el_len]; show sa.toNat + 4 ≤ fa.toNat ∨ fa.toNat + 4 ≤ sa.toNat; omega)]
  have e3 : ((Mm.put b tb Z128).drop sa.toNat).take (4 : Int).toNat = [0, 0, 0, 0] := by
    apply List.ext_getElem?
    intro i
    rw [List.getElem?_take]
    by_cases hi : i < 4
    · rw [if_pos (show i < (4 : Int).toNat from hi), List.getElem?_drop, Mm.put_get (by rw [zl, hb]; exact h), if_neg (by omega), if_pos (by rw [zl]; omega)]
      show (List.replicate 128 (0 : Int))[_]? = _
      rw [List.getElem?_replicate, if_pos (by omega)]
      rcases (show i = 0 ∨ i = 1 ∨ i = 2 ∨ i = 3 by omega) with rfl | rfl | rfl | rfl <;> rfl
    · rw [if_neg (show ¬ i < (4 : Int).toNat from hi), List.getElem?_eq_none (by simpa using hi)]
  rw [e3]
  rfl
set_option maxRecDepth 100000 in
theorem rmap_any (A : Option Addr) (n c : Nat) (root va pa r tb : Int) (b : Wm.Bs) (w : World) (hs : Sl w 128 A n (U b)) (hb : Wm.isBs b) (h1 : 1 ≤ n ∧ n ≤ 64) (hnc : n ≤ c ∧ c ≤ maxLen) (hr : 0 ≤ root ∧ root < 4294967296) (hv : 0 ≤ va ∧ va < 4294967296) (hp : 0 ≤ pa ∧ pa < 4294967296) (ht : 0 ≤ tb ∧ tb < 4294967296) :
    Calls Try.prog 17 #[.agg #[.slice A n c], .int .u32 root, .int .u32 va, .int .u32 pa, .int .i64 r, .int .u32 tb] w (GotMd n (Tm.mapM n b root va pa r tb) (Tm.mapE n b root va pa r tb) w) := by
  have fin : ∀ E, Tm.mapE n b root va pa r tb = E → E ≠ 0 → Calls Try.prog 17 #[.agg #[.slice A n c], .int .u32 root, .int .u32 va, .int .u32 pa, .int .i64 r, .int .u32 tb] w (GotMd n b E w) → Calls Try.prog 17 #[.agg #[.slice A n c], .int .u32 root, .int .u32 va, .int .u32 pa, .int .i64 r, .int .u32 tb] w (GotMd n (Tm.mapM n b root va pa r tb) (Tm.mapE n b root va pa r tb) w) := by
    intro E hE h0 h
    rw [Tm.map_E hE h0, hE]
    exact h
  by_cases c1 : va < 131072
  rotate_left
  · exact fin 1 (Tm.map_bad (by unfold Tm.mapB; simp [c1])) (by decide) (rmap_b1 A n c root va pa r tb b w hs h1 hr hv hp ht c1)
  by_cases c2 : va % 128 = 0
  rotate_left
  · exact fin 1 (Tm.map_bad (by unfold Tm.mapB; simp [c2])) (by decide) (rmap_b2 A n c root va pa r tb b w hs h1 hr hv hp ht c1 c2)
  cases c3 : Tm.pageB n pa with
  | false => exact fin 1 (Tm.map_bad (by unfold Tm.mapB; simp [c3])) (by decide) (rmap_b3 A n c root va pa r tb b w hs h1 hr hv hp ht c1 c2 c3)
  | true =>
  cases c5 : Tm.rightsB r with
  | false => exact fin 1 (Tm.map_bad (by unfold Tm.mapB; rw [Tm.rights_no c5]; simp)) (by decide) (rmap_b4 A n c root va pa r tb b w hs h1 hr hv hp ht c1 c2 c3 c5)
  | true =>
  by_cases c6 : root = 0
  · exact fin 1 (Tm.map_bad (by unfold Tm.mapB Tm.rootB; simp [c6])) (by decide) (rmap_b5 A n c root va pa r tb b w hs h1 hr hv hp ht c1 c2 c3 c5 c6)
  cases c7 : Tm.pageB n root with
  | false => exact fin 1 (Tm.map_bad (by unfold Tm.mapB Tm.rootB; simp [c7])) (by decide) (rmap_b6 A n c root va pa r tb b w hs h1 hr hv hp ht c1 c2 c3 c5 c6 c7)
  | true =>
  obtain ⟨hB, r0, r1⟩ := Tm.mapB_ok c1 c2 c3 (Tm.pageB_lt c3).1 c5 c6 c7
  have hbl : b.length = n * 128 := by have := hs.1; rwa [U_length] at this
  have KT := fun w' (hl : Later w w') => rtop_any A n c root va b w' (hs.keep hl) hb h1.2 hr ⟨hv.1, c1⟩
  have hA := Tm.isE_adr hb (Tm.fA root va)
  have hrf1 := rF_page (n := n) (e := Tm.wd b (Tm.fA root va))
  have he := Tm.wd_e hb (Tm.fA root va)
  have hpa := Tm.pageB_lt c3
  have hroot := Tm.pageB_lt c7
  have hE0 : Tm.mapE n b root va pa r tb = Tm.errB true (Tm.has (Tm.wd b (Tm.fA root va)) 1) (tb == root) (Tm.rootB n tb) (Tm.rF n (Tm.wd b (Tm.fA root va))) (Tm.has (Tm.wd b (Tm.fA root va)) 64) (Tm.has (Tm.wd b (Tm.sA (Tm.adr (Tm.wd b (Tm.fA root va))) va)) 1) := by unfold Tm.mapE; rw [hB]
  have hM0 : Tm.mapE n b root va pa r tb = 0 → Tm.mapM n b root va pa r tb = (if Tm.has (Tm.wd b (Tm.fA root va)) 1 then Mm.st b (Tm.sA (Tm.adr (Tm.wd b (Tm.fA root va))) va) 4 (pa + 1 + r) else (Mm.ap b (Tm.newL root va pa r tb)).getD b) := fun h => by unfold Tm.mapM; rw [h, if_pos rfl]
  obtain ⟨e, hE⟩ : ∃ e, e = Tm.wd b (Tm.fA root va) := ⟨_, rfl⟩
  rw [← hE] at KT hA hrf1 he hE0 hM0
  cases hvl : Tm.has e 1 with
  | true =>
    rw [hvl] at KT hE0 hM0
    cases hrf : Tm.rF n e with
    | false =>
      rw [hrf] at KT hE0
      exact fin 3 hE0 (by decide) (rmap_form A n c root va pa r tb b w hs h1 hr hv hp ht c1 c2 c3 c5 c6 c7 _ _ _ (Lib.hid KT))
    | true =>
    rw [hrf] at KT hE0
    cases hlg : Tm.has e 64 with
    | true =>
      rw [hlg] at KT hE0
      exact fin 6 hE0 (by decide) (rmap_twice A n c root va pa r tb b w hs h1 hr hv hp ht c1 c2 c3 c5 c6 c7 _ _ (Lib.hid KT))
    | false =>
    rw [hlg] at KT hE0
    have hpg := hrf1 hrf hlg
    have hb2 := Tm.There_sA (va := va) hpg hA.1
    have KB := fun w' => rbelow_any (Tm.fA root va) e va true true false w' ⟨he.1, by have := he.2; omega⟩ ⟨hv.1, by omega⟩
    have hq : Tm.adr e + 4 * (va / 128 % 32) = Tm.sA (Tm.adr e) va := by unfold Tm.sA; omega
    rw [hq] at KB
    have KW := fun w' (hl : Later w w') => rword_any A n c (Tm.sA (Tm.adr e) va) b w' (hs.keep hl) hb h1.2 ⟨hb2.2.1, by have := hb2.2.2; omega⟩
    have he2 := Tm.wd_e hb (Tm.sA (Tm.adr e) va)
    have KH := fun w' => rhas_any (Tm.wd b (Tm.sA (Tm.adr e) va)) 1 w' ⟨he2.1, by have := he2.2; omega⟩ (by omega)
    cases hv2 : Tm.has (Tm.wd b (Tm.sA (Tm.adr e) va)) 1 with
    | true =>
      rw [hv2] at KH hE0
      exact fin 6 hE0 (by decide) (rmap_twice2 A n c root va pa r tb b w hs h1 hr hv hp ht c1 c2 c3 c5 c6 c7 _ _ (Lib.hid KT) _ _ (Lib.hid KB) (Lib.hid KW) (Lib.hid KH))
    | false =>
      rw [hv2] at KH hE0
      rw [hM0 hE0, if_pos rfl, hE0]
      exact rmap_ok2 A n c root va pa r tb b w hs h1 hr hv hp ht c1 c2 c3 c5 c6 c7 ⟨r0, by omega⟩ _ _ (Lib.hid KT) _ _ (Lib.hid KB) (Lib.hid KW) (Lib.hid KH) (pa + 1 + r) rfl _ (Lib.hid fun w' hl => rset_any A n c _ _ b w' (hs.keep hl) h1 hb2 (by omega))
  | false =>
    rw [hvl] at KT hE0 hM0
    by_cases t0 : tb = 0
    · have hz : Tm.rootB n tb = false := by unfold Tm.rootB; simp [t0]
      rw [hz] at hE0
      exact fin 1 (hE0.trans (by cases (tb == root) <;> rfl)) (by decide) (rmap_n1 A n c root va pa r tb b w hs h1 hr hv hp ht c1 c2 c3 c5 c6 c7 t0 _ _ _ _ (Lib.hid KT))
    by_cases t1 : tb = root
    · have hz : (tb == root) = true := by simpa using t1
      rw [hz] at hE0
      exact fin 1 hE0 (by decide) (rmap_n2 A n c root va pa r tb b w hs h1 hr hv hp ht c1 c2 c3 c5 c6 c7 t0 t1 _ _ _ _ (Lib.hid KT))
    cases t2 : Tm.pageB n tb with
    | false =>
      have hz : Tm.rootB n tb = false := by unfold Tm.rootB; simp [t2]
      rw [hz] at hE0
      exact fin 1 (hE0.trans (by cases (tb == root) <;> rfl)) (by decide) (rmap_n3 A n c root va pa r tb b w hs h1 hr hv hp ht c1 c2 c3 c5 c6 c7 t0 t1 t2 _ _ _ _ (Lib.hid KT))
    | true =>
      have hz : Tm.rootB n tb = true := by unfold Tm.rootB; simp [t0, t2]
      have hz2 : (tb == root) = false := by simpa using t1
      rw [hz, hz2] at hE0
      have hE1 : Tm.mapE n b root va pa r tb = 0 := hE0
      have htb := Tm.pageB_lt t2
      obtain ⟨T, rfl⟩ := Int.eq_ofNat_of_zero_le ht.1
      have hT : T + 128 ≤ n * 128 := by omega
      have hT4 : T % 4 = 0 := by omega
      have hf := Tm.There_fA c7 hr.1 ⟨hv.1, c1⟩
      have hsa := Tm.There_sA (va := va) t2 ht.1
      have hq : Tm.sA (T : Int) va = (T : Int) + 4 * (va / 128 % 32) := by unfold Tm.sA; omega
      have hfa : Tm.fA root va = root + va / 4096 * 4 := rfl
      have zl1 : Z128.length = 128 := by show (List.replicate 128 _).length = _; rw [List.length_replicate]
      have l1 : (Mm.put b T Z128).length = n * 128 := by rw [Mm.put_len (by rw [zl1, hbl]; exact hT), hbl]
      have x1 := Mm.put_bs hb Z128_bs (o := T)
      have x2 := Mm.st_bs x1 (Tm.fA root va) 4 ((T : Int) + 1)
      have hX : (Mm.ap b (Tm.newL root va pa r (T : Int))).getD b = Mm.st (Mm.st (Mm.put b T Z128) (Tm.fA root va) 4 ((T : Int) + 1)) (Tm.sA (T : Int) va) 4 (pa + 1 + r) := newM_is hbl hT hT4 hf hsa
      have hW := new_word (u := (T : Int) + 1) hbl hT hf hsa (by omega) (by omega)
      rw [hM0 hE1, if_neg (by decide), hX, hE1]
      have KWr : ∀ w', Later w w' → Calls Try.prog 54 #[.agg #[.slice A n c], .int .i64 (T : Int), .string (strOfNums (List.replicate 128 0))] w' (GotS n (Mm.put b T Z128) true w') := fun w' hl => by
        have hsz : (Wm.ofS (strOfNums Z128)) = Z128 := ofS_ofN Z128_bs
        have hsl : (strOfNums Z128).size = 128 := by rw [← Wm.ofS_length, hsz, zl1]
        have h := rwrite_any A n c (T : Int) (strOfNums Z128) b w' (hs.keep hl) h1.1 h1.2 hnc.1 hnc.2 (by omega)
        have hin : Mm.Inside (n * 128) (T : Int) (128 : Nat) := ⟨by omega, by omega, by show ((128 : Nat) : Int) ≤ _; omega⟩
        rw [hsz, hsl, decide_eq_true hin] at h
        have e : Mm.wr b (T : Int) Z128 = Mm.put b T Z128 := by
          unfold Mm.wr
          rw [hbl, zl1, if_pos hin]
          rfl
        rw [e] at h
        exact h
      exact rmap_new A n c root va pa r (T : Int) b w hs h1 hr hv hp ht c1 c2 c3 c5 c6 c7 ⟨r0, by omega⟩ t0 t1 t2 _ _ _ _ (Lib.hid KT) _ _ _ (Lib.hid KWr)
        (Lib.hid fun A1 c1 w' h => rset_any A1 n c1 _ _ _ w' h h1 hf (by omega)) (Tm.sA (T : Int) va) 0 (pa + 1 + r)
        (Lib.hid fun A1 c1 w' h => by have := rword_any A1 n c1 (Tm.sA (T : Int) va) _ w' h x2 h1.2 ⟨hsa.2.1, by have := hsa.2.2; omega⟩; rwa [hW] at this)
        (Lib.hid fun A1 c1 w' h => rset_any A1 n c1 _ _ _ w' h h1 hsa (by omega))
        (Lib.hid fun w' => rhas_any 0 1 w' (by omega) (by omega)) hq rfl
end Go.Proofs.Ytempcbdlaoblhab
