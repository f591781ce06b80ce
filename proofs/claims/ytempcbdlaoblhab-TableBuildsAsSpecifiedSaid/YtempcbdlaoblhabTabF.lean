/-
  THE WALK OF Map.
-/
import Derived.Test.YtempcbdlaoblhabTabE
namespace Go.Proofs.Ytempcbdlaoblhab
open Go.RowKit Go.ChangeShapes Go.WideShapes Go.ChangeAt

namespace Tm
theorem errB_zero {bm v eq rt rf lg v2 : Bool} (h : errB bm v eq rt rf lg v2 = 0) : bm = true ∧ ((v = false ∧ eq = false ∧ rt = true) ∨ (v = true ∧ rf = true ∧ lg = false ∧ v2 = false)) := by
  revert h
  cases bm <;> cases v <;> cases eq <;> cases rt <;> cases rf <;> cases lg <;> cases v2 <;> decide
/-- The stores of Map that make a new table. -/
def newL (root va pa r tb : Int) : List (Int × Int × Int) := zl tb ++ [(fA root va, 4, tb + 1)] ++ [(sA tb va, 4, pa + 1 + r)]
def mapM (n : Nat) (b : Wm.Bs) (root va pa r tb : Int) : Wm.Bs :=
  if mapE n b root va pa r tb = 0 then (if has (wd b (fA root va)) 1 then Mm.st b (sA (adr (wd b (fA root va))) va) 4 (pa + 1 + r) else (Mm.ap b (newL root va pa r tb)).getD b) else b
end Tm
theorem own_blk {w : World} {g base : Nat} {t : TypeId} {cs : List Value} {n size : Nat} (h : Blk w g t cs) (hb : base ≤ g) (hl : cs.length = n * size) (hn : n ≤ maxLen) : w.ownsRow base t size (.slice (some ⟨g, 0, none⟩) n n) n cs :=
  ⟨hl, .inr ⟨g, n, cs.toArray, rfl, hb, h, Nat.le_refl _, hn, by rw [List.size_toArray]; exact hl, by rw [← hl]; simp⟩⟩
theorem Blk.grown {w w' : World} {B : Nat} {t : TypeId} {cs : List Value} {row : Option Nat} (h : Blk w B t cs) (g : w.grownBy w' row) (hne : some B ≠ row) : Blk w' B t cs := (g.block B h.lt hne).trans h
theorem news_blk {w : World} {B : Nat} {t : TypeId} {cs : List Value} (h : Blk w B t cs) : ∀ j u, cs[j]? = some u → w.cell? ((⟨B, 0, none⟩ : Addr).add j) = some u := fun j u hu => by
  rw [Addr.add_mid, Nat.zero_add]; exact h.cell hu
theorem Ws_app (a b : List (Int × Int × Int)) : Ws (a ++ b) = Ws a ++ Ws b := by unfold Ws; exact List.flatMap_append
set_option maxRecDepth 100000 in
set_option maxHeartbeats 4000000 in
theorem map_any (A : Option Addr) (n c : Nat) (root va pa r tb : Int) (b : Wm.Bs) (w : World) (hs : Sl w 128 A n (U b)) (hb : Wm.isBs b) (hn1 : 1 ≤ n) (hn : n ≤ 64) (hr : 0 ≤ root ∧ root < 4294967296) (hv : 0 ≤ va ∧ va < 4294967296) (hp : 0 ≤ pa ∧ pa < 4294967296) (hq : -9223372036854775808 ≤ r ∧ r ≤ 9223372036854775807) (ht : 0 ≤ tb ∧ tb < 4294967296) :
    Calls Try.prog 14 #[.agg #[.slice A n c], .int .u32 root, .int .u32 va, .int .u32 pa, .int .i64 r, .int .u32 tb] w (GotME n (Tm.mapM n b root va pa r tb) (Tm.mapE n b root va pa r tb) w) := by
  have HE := Lib.hid fun w' (hl : Later w w') => mapError_any A n c root va pa r tb b w' (hs.keep hl) hb hn1 hn hr hv hp hq ht
  have HW := Lib.hid fun w' (hl : Later w w') => with0_any A n c b w' (hs.keep hl) hb hn1 hn
  unfold Tm.mapM
  obtain ⟨E, hE⟩ : ∃ E, E = Tm.mapE n b root va pa r tb := ⟨_, rfl⟩
  rw [← hE] at HE ⊢
  by_cases hz : E = 0
  rotate_left
  · rw [if_neg hz]
    have e0 : (E != 0) = true := by simpa using hz
    clear hz hE hs hb hn hr hv hp hq ht
    have b6 := ((Blk.new w 24 #[.slice A n c] [.slice A n c] rfl).alloc (.cells #[.slice none 0 0] 24))
    have bR := (Blk.new' (w.alloc (.cells #[.slice A n c] 24)) (w.heap.size + 1) 24 #[.slice none 0 0] [.slice none 0 0] (by simp) rfl)
    have lw := (later1 w (.cells #[.slice A n c] 24)).alloc (by simp) (.cells #[.slice none 0 0] 24)
    have c6 := b6.cell (j := 0) (v := .slice A n c) rfl
    go_enter Try.func14, Try.ntmps14
    go_wp2_with (first
      | (go_at_call 38; refine (HE.out _ lw).mono ?_; rintro e w1 ⟨rfl, l1⟩; replace b6 := b6.keep l1; replace bR := bR.keep l1; replace lw := Later.trans_ lw l1; clear c6; have c6 := b6.cell (j := 0) (v := .slice A n c) rfl)
      | (go_at_call 39; refine (HW.out _ lw).mono ?_; rintro e w2 ⟨g, c', rfl, hg, hc, hc2, hd, l2⟩; have hRl := bR.lt; have hsz2 := lw.size; replace bR := bR.keep l2; have cR := bR.cell (j := 0) (v := .slice none 0 0) rfl; have fR := bR.frz 0))
    exact bodyPost_ret (v := .tuple #[.agg #[.slice (some ⟨g, 0, none⟩) n c'], .int .i64 E]) (results_cell_tmp Try.results14 _ _ (w.heap.size + 1) 24 _ _ _ rfl rfl (bR.set 0 (.slice (some ⟨g, 0, none⟩) n c')) Try.underlying24 rfl mem_sz) rfl
      ⟨g, c', rfl, by omega, hc, hc2, hd.only (Only.set _ _ _ _) (by omega), (Later.trans_ lw l2).setCell (by simp) _⟩
  have hz' := hz
  rw [hE] at hz'
  obtain ⟨hbm, hcs⟩ := Tm.errB_zero (show Tm.errB (Tm.mapB n root va pa r 128) (Tm.has (Tm.wd b (Tm.fA root va)) 1) (tb == root) (Tm.rootB n tb) (Tm.rF n (Tm.wd b (Tm.fA root va))) (Tm.has (Tm.wd b (Tm.fA root va)) 64) (Tm.has (Tm.wd b (Tm.sA (Tm.adr (Tm.wd b (Tm.fA root va))) va)) 1) = 0 from hz')
  rw [if_pos hz]
  subst hz
  clear hE hz'
  obtain ⟨v1, _, hpp, hpa, hrr, hroot⟩ := Tm.mapB_lt hbm
  obtain ⟨rn0, rn1, rn2⟩ := Tm.rootB_lt hroot
  have hfA : 0 ≤ Tm.fA root va ∧ Tm.fA root va < 4294967296 := by unfold Tm.fA; omega
  have HF := Lib.hid fun w' => inFirst_any root va w' (by omega) hv
  have HL := Lib.hid fun w' (hl : Later w w') => tload_any A n c (Tm.fA root va) b w' (hs.keep hl) hb hn1 hn hfA
  have hx := Tm.wd_e hb (Tm.fA root va)
  have hnl : Tm.newL root va pa r tb = zl tb ++ [(Tm.fA root va, 4, tb + 1)] ++ [(Tm.sA tb va, 4, pa + 1 + r)] := rfl
  obtain ⟨f, hf⟩ : ∃ f, f = Tm.fA root va := ⟨_, rfl⟩
  rw [← hf] at HF HL hx hfA hcs hnl ⊢
  obtain ⟨x, hX⟩ : ∃ x, x = Tm.wd b f := ⟨_, rfl⟩
  rw [← hX] at HL hx hcs ⊢
  have HV := Lib.hid fun w' => isValid_any x w' hx
  have HA := Lib.hid fun w' => address_any x w' hx
  obtain ⟨hpp1, hpp2⟩ := Tm.pageB_lt hpp
  have o1 := or_page hp hpp1 (m := 1) (by omega) (by omega)
  have o3 := or_rights hp hpp1 1 (Or.inl rfl) hrr
  have O1 := Lib.hid o1
  have O3 := Lib.hid (show bits .or .u32 (pa + 1) r = pa + 1 + r from o3)
  obtain ⟨lf, hlf⟩ : ∃ lf, lf = pa + 1 + r := ⟨_, rfl⟩
  rw [← hlf] at O3 hnl ⊢
  have hlfE : 0 ≤ lf ∧ lf < 4294967296 := by omega
  have hrr0 : 0 ≤ r := hrr.1
  have hrr1 : r ≤ 14 := hrr.2.2
  have hf0 := hfA.1
  have hf1 := hfA.2
  obtain ⟨i0, hi, hz0, hz1, hz2⟩ := info_parts write_info
  have HI := Lib.hid (show _ ∧ _ ∧ _ ∧ _ from ⟨hi, hz0, hz1, hz2⟩)
  clear hi hz0 hz1 hz2
  rcases hcs with ⟨hv0, heq, hrt⟩ | ⟨hv1, hrf, hlg, _⟩
  · rw [hv0, if_neg (by decide)]
    rw [hv0] at HV
    obtain ⟨tn0, tn1, tn2⟩ := Tm.rootB_lt hrt
    have ot := or_page ht tn1 (m := 1) (by omega) (by omega)
    have OT := Lib.hid ot
    have HZ := Lib.hid fun w' => zeros_any tb w' ht.1 (by omega)
    have HS0 := Lib.hid fun w' => estore_any (tb + 1) f w' hfA
    have HIS := Lib.hid fun w' => inSecond_any tb va w' (by omega) hv
    have hsA : 0 ≤ Tm.sA tb va ∧ Tm.sA tb va < 4294967296 := by unfold Tm.sA; omega
    obtain ⟨s2, hs2⟩ : ∃ s2, s2 = Tm.sA tb va := ⟨_, rfl⟩
    rw [← hs2] at HIS hsA hnl
    obtain ⟨hs20, hs21⟩ := hsA
    have HS := Lib.hid fun w' => estore_any lf s2 w' ⟨hs20, hs21⟩
    have HW1 := Lib.hid fun w' AL cl (hl : Later w w') (h : Sl w' 3 AL 34 (Ws (zl tb) ++ [.int .i64 f, .int .i64 4, .int .u32 (tb + 1)] ++ [.int .i64 s2, .int .i64 4, .int .u32 lf])) => (show Calls Try.prog 39 #[.agg #[.slice A n c], .slice AL 34 cl] w' (GotM n ((Mm.ap b (Tm.newL root va pa r tb)).getD b) w') from
      with_any A n c 34 cl AL (Tm.newL root va pa r tb) b w' (hs.keep hl) hb hn1 hn (by rw [hnl, Ws_app, Ws_app]; exact h) (by rw [hnl]; simp [zl_len]) (by
        intro z hz
        rw [hnl] at hz
        simp only [List.mem_append, List.mem_cons, List.not_mem_nil, or_false] at hz
        rcases hz with (hz | rfl) | rfl
        · unfold zl at hz
          obtain ⟨k, hk, rfl⟩ := List.mem_map.1 hz
          have := List.mem_range.1 hk
          simp only [isW]; omega
        · simp only [isW]; omega
        · simp only [isW]; omega) (by omega))
    obtain ⟨X, hXX⟩ : ∃ X, X = (Mm.ap b (Tm.newL root va pa r tb)).getD b := ⟨_, rfl⟩
    rw [← hXX] at HW1 ⊢
    have ht0 := ht.1
    have hZL : (Ws (zl tb)).length = 32 * 3 := by rw [Ws_len, zl_len]
    have HZL := Lib.hid hZL
    clear hZL hXX hnl hlf hf hX hbm hs hb hr hv hp hq hroot hpp hpa o1 o3 ot hrr hfA hrt hs2 heq hv0 ht hx
    have b6 := ((Blk.new w 24 #[.slice A n c] [.slice A n c] rfl).alloc (.cells #[.slice none 0 0] 24))
    have bR := (Blk.new' (w.alloc (.cells #[.slice A n c] 24)) (w.heap.size + 1) 24 #[.slice none 0 0] [.slice none 0 0] (by simp) rfl)
    have lw := (later1 w (.cells #[.slice A n c] 24)).alloc (by simp) (.cells #[.slice none 0 0] 24)
    have c6 := b6.cell (j := 0) (v := .slice A n c) rfl
    go_enter Try.func14, Try.ntmps14
    go_wp2_with (first
      | (go_at_call 38; refine (HE.out _ lw).mono ?_; rintro e w1 ⟨rfl, l1⟩; replace b6 := b6.keep l1; replace bR := bR.keep l1; replace lw := Later.trans_ lw l1; clear c6; have c6 := b6.cell (j := 0) (v := .slice A n c) rfl)
      | (go_at_call 40; refine (HF.out _).mono ?_; rintro e w' ⟨rfl, rfl⟩)
      | (go_at_call 41; refine (HL.out _ lw).mono ?_; rintro e w3 ⟨rfl, l3⟩; replace b6 := b6.keep l3; replace bR := bR.keep l3; replace lw := Later.trans_ lw l3; clear c6; have c6 := b6.cell (j := 0) (v := .slice A n c) rfl)
      | (go_at_call 42; refine (HV.out _).mono ?_; rintro e w' ⟨rfl, rfl⟩)
      | (go_at_call 44; refine (HZ.out _).mono ?_; rintro e w4 ⟨gz, rfl, hgz, bz, l4⟩; have hzw := lw.size; have hbz := bR.lt; have NZ0 : (some w.heap.size) ≠ (Value.slice (some ⟨gz, 0, none⟩) 32 32).ownBlock := (fun e => (by have h2 : w.heap.size = gz := Option.some.inj e; omega)); have NZ1 : (some (w.heap.size + 1)) ≠ (Value.slice (some ⟨gz, 0, none⟩) 32 32).ownBlock := (fun e => (by have h2 : w.heap.size + 1 = gz := Option.some.inj e; omega)); have oz := own_blk (base := w.heap.size) (n := 32) (size := 3) bz (by omega) HZL.out (by unfold maxLen; omega); have ot := OT.out; replace b6 := b6.keep l4; replace bR := bR.keep l4; replace lw := Later.trans_ lw l4; clear c6; have c6 := b6.cell (j := 0) (v := .slice A n c) rfl)
      | (go_at_call 45; refine (HS0.out _).mono ?_; rintro e w5 ⟨rfl, l5⟩; clear ot; replace oz := own_below oz l5; replace b6 := b6.keep l5; replace bR := bR.keep l5; replace lw := Later.trans_ lw l5; clear c6; have c6 := b6.cell (j := 0) (v := .slice A n c) rfl; have bn := Blk.new w5 57 #[.int .i64 f, .int .i64 4, .int .u32 (tb + 1)] [.int .i64 f, .int .i64 4, .int .u32 (tb + 1)] rfl; replace oz := oz.alloc (.cells #[.int .i64 f, .int .i64 4, .int .u32 (tb + 1)] 57); replace b6 := b6.alloc (.cells #[.int .i64 f, .int .i64 4, .int .u32 (tb + 1)] 57); replace bR := bR.alloc (.cells #[.int .i64 f, .int .i64 4, .int .u32 (tb + 1)] 57); replace lw := lw.alloc lw.size (.cells #[.int .i64 f, .int .i64 4, .int .u32 (tb + 1)] 57))
      | (at_builtin; refine wpList_append_lies _ rfl _ _ 29 rfl w.heap.size 57 i0 (.agg #[.int .i64 0, .int .i64 0, .int .u32 0]) 3 24 Try.underlying29 HI.out.1 HI.out.2.1 HI.out.2.2.1 HI.out.2.2.2 rfl (by decide) _ _ _ rfl oz ⟨w5.heap.size, 0, none⟩ 1 1 [.int .i64 f, .int .i64 4, .int .u32 (tb + 1)] rfl rfl (news_blk bn) (wc_one _ _ _) (by decide) (by unfold maxLen; omega) (by omega) lw.size _ rfl ?_; intro g6 cap6 w6 own6 grow6 hat6 hlt6; have hzw6 := lw.size; have hbl := bR.lt; replace b6 := b6.grown grow6 NZ0; replace bR := bR.grown grow6 NZ1; replace lw := lw.grown grow6 lw.size (fun b hb => (oz.lt b hb).1); have hg6 : w.heap.size + 1 < g6 := hat6.elim (fun h => (by have h2 : gz = g6 := Option.some.inj h; omega)) (fun h => (by rw [h]; exact hbl))))
    rw [O1.out, O3.out]
    clear c6
    replace b6 := b6.drew; replace bR := bR.drew; replace lw : Later w w6.drew := lw.drew
    have ow : w6.drew.ownsRow w.heap.size 57 3 (.slice (some ⟨g6, 0, none⟩) 33 cap6) 33 (Ws (zl tb) ++ [.int .i64 f, .int .i64 4, .int .u32 (tb + 1)]) := own6
    have NE0 : (some w.heap.size) ≠ (Value.slice (some ⟨g6, 0, none⟩) 33 cap6).ownBlock := by simp [Value.ownBlock]; omega
    have NE1 : (some (w.heap.size + 1)) ≠ (Value.slice (some ⟨g6, 0, none⟩) 33 cap6).ownBlock := by simp [Value.ownBlock]; omega
    refine wp_region_held_drew (S := fun w' => w'.cell? ⟨w.heap.size, 0, none⟩ = some (.slice A n c)) (by kernel_rfl) (b6.cell (j := 0) rfl) (fun hHeld => ?_)
    refine wpAnyH_take (i := 0) (oi := ⟨some 54, .load 24 (.tmp 6), _, _, _, none⟩) (v := .agg #[.slice A n c]) rfl (by kernel_rfl) (by kernel_rfl) (by kernel_rfl) (fun _ _ _ h => h) (Or.inl ⟨by rfl, fun w hS => by have h0 := hS; go_simp⟩) hHeld ?_
    simp only [Act.put, List.setIfInBounds_toArray, List.set_cons_zero, List.set_cons_succ]
    refine wpAnyH_take (i := 1) (oi := ⟨some 55, .move (.tmp 15), _, _, _, none⟩) (v := .slice (some ⟨g6, 0, none⟩) 33 cap6) rfl (by kernel_rfl) (by kernel_rfl) (by kernel_rfl) (fun _ _ _ h => h) (Or.inl ⟨by rfl, fun _ _ => rfl⟩) hHeld ?_
    simp only [Act.put, List.setIfInBounds_toArray, List.set_cons_zero, List.set_cons_succ]
    refine wpAnyH_take (i := 2) (oi := ⟨some 56, .move (.tmp 18), _, _, _, none⟩) (v := .int .u32 lf) rfl (by kernel_rfl) (by kernel_rfl) (by kernel_rfl) (fun _ _ _ h => h) (Or.inl ⟨by rfl, fun _ _ => rfl⟩) hHeld ?_
    simp only [Act.put, List.setIfInBounds_toArray, List.set_cons_zero, List.set_cons_succ]
    refine wpAnyH_take (i := 3) (oi := ⟨some 57, .move (.tmp 5), _, _, _, none⟩) (v := .int .u32 tb) rfl (by kernel_rfl) (by kernel_rfl) (by kernel_rfl) (fun _ _ _ h => h) (Or.inl ⟨by rfl, fun _ _ => rfl⟩) hHeld ?_
    simp only [Act.put, List.setIfInBounds_toArray, List.set_cons_zero, List.set_cons_succ]
    refine wpAnyH_take (i := 4) (oi := ⟨some 58, .move (.tmp 2), _, _, _, none⟩) (v := .int .u32 va) rfl (by kernel_rfl) (by kernel_rfl) (by kernel_rfl) (fun _ _ _ h => h) (Or.inl ⟨by rfl, fun _ _ => rfl⟩) hHeld ?_
    simp only [Act.put, List.setIfInBounds_toArray, List.set_cons_zero, List.set_cons_succ]
    refine wpAnyH_ready (rs := [5]) (by kernel_rfl) (by simp) (AllReadyH.cons (o := ⟨some 59, .call { callee := .value (.func 46), args := #[.tmp 57, .tmp 58], argTypes := #[25, 25] }, _, _, _, none⟩) rfl (fun K' hK => ?_) (AllReadyH.nil))
    go_simp
    refine (HIS.out _).mono ?_
    rintro e w' ⟨rfl, rfl⟩
    refine hK.out _ _ (b6.cell (j := 0) rfl) (fun hHeld => ?_)
    clear hK K'
    try simp only [Act.put, List.setIfInBounds_toArray, List.set_cons_zero, List.set_cons_succ]
    refine wpAnyH_ready (rs := [6]) (by kernel_rfl) (by simp) (AllReadyH.cons (o := ⟨some 60, .call { callee := .value (.func 45), args := #[.tmp 56, .tmp 59], argTypes := #[81, 25] }, _, _, _, none⟩) rfl (fun K' hK => ?_) (AllReadyH.nil))
    go_simp
    refine (HS.out _).mono ?_
    rintro e w8 ⟨rfl, l8⟩
    replace b6 := b6.keep l8
    replace bR := bR.keep l8
    replace lw := Later.trans_ lw l8
    replace ow := own_below ow l8
    refine hK.out _ _ (b6.cell (j := 0) rfl) (fun hHeld => ?_)
    clear hK K'
    try simp only [Act.put, List.setIfInBounds_toArray, List.set_cons_zero, List.set_cons_succ]
    refine wpAnyH_ready (rs := [7]) (by kernel_rfl) (by simp) (AllReadyH.cons (o := ⟨some 61, .buildSlice 29 1 #[(0, .tmp 60)], _, _, _, none⟩) rfl (fun K' hK => ?_) (AllReadyH.nil))
    go_simp
    have bW := Blk.new w8 57 #[.int .i64 s2, .int .i64 4, .int .u32 lf] [.int .i64 s2, .int .i64 4, .int .u32 lf] rfl
    replace b6 := b6.alloc (.cells #[.int .i64 s2, .int .i64 4, .int .u32 lf] 57)
    replace bR := bR.alloc (.cells #[.int .i64 s2, .int .i64 4, .int .u32 lf] 57)
    replace lw := lw.alloc lw.size (.cells #[.int .i64 s2, .int .i64 4, .int .u32 lf] 57)
    replace ow := ow.alloc (.cells #[.int .i64 s2, .int .i64 4, .int .u32 lf] 57)
    refine hK.out _ _ (b6.cell (j := 0) rfl) (fun hHeld => ?_)
    clear hK K'
    try simp only [Act.put, List.setIfInBounds_toArray, List.set_cons_zero, List.set_cons_succ]
    refine wpAnyH_ready (rs := [8]) (by kernel_rfl) (by simp) (AllReadyH.cons (o := ⟨some 62, .call { callee := .builtin .append, args := #[.tmp 55, .tmp 61], argTypes := #[29, 29] }, _, _, _, none⟩) rfl (fun K' hK => ?_) (AllReadyH.nil))
    refine wp_append_lies _ (.tmp 55) (.tmp 61) 29 rfl w.heap.size 57 i0 (.agg #[.int .i64 0, .int .i64 0, .int .u32 0]) 3 24 Try.underlying29 HI.out.1 HI.out.2.1 HI.out.2.2.1 HI.out.2.2.2 rfl (by decide) (.slice (some ⟨g6, 0, none⟩) 33 cap6) 33 (Ws (zl tb) ++ [.int .i64 f, .int .i64 4, .int .u32 (tb + 1)]) rfl ow ⟨w8.heap.size, 0, none⟩ 1 1 [.int .i64 s2, .int .i64 4, .int .u32 lf] rfl rfl (news_blk bW) (wc_one _ _ _) (by decide) (by unfold maxLen; omega) (by omega) lw.size _ rfl ?_
    intro g1 cap1 wa own1 grow1 hat1 hlt1
    replace b6 := b6.grown grow1 NE0
    replace bR := bR.grown grow1 NE1
    replace lw := lw.grown grow1 lw.size (fun b hb => (ow.lt b hb).1)
    obtain ⟨AL, cl, hAL, _, _, hsl, _⟩ := own_form own1
    cases hAL
    refine hK.out _ _ (b6.cell (j := 0) rfl) (fun hHeld => ?_)
    clear hK K'
    try simp only [Act.put, List.setIfInBounds_toArray, List.set_cons_zero, List.set_cons_succ]
    refine wpAnyH_ready (rs := [9]) (by kernel_rfl) (by simp) (AllReadyH.cons (o := ⟨some 63, .call { callee := .value (.func 39), args := #[.tmp 54, .tmp 62], argTypes := #[24, 29] }, _, _, _, none⟩) rfl (fun K' hK => ?_) (AllReadyH.nil))
    go_simp
    have hRl := bR.lt
    have hz5 := lw.size
    refine (HW1.out _ _ _ lw hsl).mono ?_
    rintro e w9 ⟨g, c', rfl, hg, hc, hc2, hd, l9⟩
    replace b6 := b6.keep l9
    replace bR := bR.keep l9
    replace lw := Later.trans_ lw l9
    have cR := bR.cell (j := 0) (v := .slice none 0 0) rfl
    have fR := bR.frz 0
    refine hK.out _ _ (b6.cell (j := 0) rfl) (fun hHeld => ?_)
    clear hK K'
    try simp only [Act.put, List.setIfInBounds_toArray, List.set_cons_zero, List.set_cons_succ]
    refine wpAnyH_ready (rs := [10]) (by kernel_rfl) (by simp) (AllReadyH.cons (o := ⟨none, .store 24 (.tmp 12) (.tmp 63), _, _, _, none⟩) rfl (fun K' hK => ?_) (AllReadyH.nil))
    go_simp
    replace b6 := b6.set_other ⟨w.heap.size + 1, 0, none⟩ (.slice (some ⟨g, 0, none⟩) n c') (by show w.heap.size ≠ w.heap.size + 1; omega)
    refine hK.out _ _ (b6.cell (j := 0) rfl) (fun hHeld => ?_)
    clear hK K'
    try simp only [Act.put, List.setIfInBounds_toArray, List.set_cons_zero, List.set_cons_succ]
    refine wpAnyH_take (i := 11) (oi := ⟨some 13, .assign (.const (.int .i64 0)), _, _, _, none⟩) (v := .int .i64 0) rfl (by kernel_rfl) (by kernel_rfl) (by kernel_rfl) (fun _ _ _ h => h) (Or.inl ⟨by rfl, fun _ _ => rfl⟩) hHeld ?_
    simp only [Act.put, List.setIfInBounds_toArray, List.set_cons_zero, List.set_cons_succ]
    refine wpAnyH_done (by kernel_rfl) ?_ _
    clear hHeld
    go_wp2
    exact bodyPost_ret (v := .tuple #[.agg #[.slice (some ⟨g, 0, none⟩) n c'], .int .i64 0]) (results_cell_tmp Try.results14 _ _ (w.heap.size + 1) 24 _ _ _ rfl rfl (bR.set 0 (.slice (some ⟨g, 0, none⟩) n c')) Try.underlying24 rfl mem_sz) rfl
      ⟨g, c', rfl, by omega, hc, hc2, hd.only (Only.set _ _ _ _) (by omega), lw.setCell (by simp) _⟩
  · rw [hv1, if_pos rfl]
    rw [hv1] at HV
    obtain ⟨an1, an2⟩ := Tm.pageB_lt (rF_page hrf hlg)
    have hxa := Tm.adr_e hx
    have ha0 := hxa.1
    have HIS := Lib.hid fun w' => inSecond_any (Tm.adr x) va w' (by omega) hv
    have hsA : 0 ≤ Tm.sA (Tm.adr x) va ∧ Tm.sA (Tm.adr x) va < 4294967296 := by unfold Tm.sA; omega
    obtain ⟨ax, hax⟩ : ∃ ax, ax = Tm.adr x := ⟨_, rfl⟩
    rw [← hax] at HIS HA hsA an1 an2 ha0 ⊢
    obtain ⟨s2, hs2⟩ : ∃ s2, s2 = Tm.sA ax va := ⟨_, rfl⟩
    rw [← hs2] at HIS hsA ⊢
    obtain ⟨hs20, hs21⟩ := hsA
    have HS := Lib.hid fun w' => estore_any lf s2 w' ⟨hs20, hs21⟩
    have HW1 := Lib.hid fun w' AL cl (hl : Later w w') (h : Sl w' 3 AL 1 [.int .i64 s2, .int .i64 4, .int .u32 lf]) => (show Calls Try.prog 39 #[.agg #[.slice A n c], .slice AL 1 cl] w' (GotM n (Mm.st b s2 4 lf) w') from by
      have h1 := with_any A n c 1 cl AL [(s2, 4, lf)] b w' (hs.keep hl) hb hn1 hn h rfl (fun z hz => by
        obtain rfl : z = (s2, 4, lf) := by simpa using hz
        simp only [isW]; omega) (by omega)
      rw [(ap_one b s2 4 lf).1] at h1
      exact h1)
    obtain ⟨X, hXX⟩ : ∃ X, X = Mm.st b s2 4 lf := ⟨_, rfl⟩
    rw [← hXX] at HW1 ⊢
    clear hXX hnl hlf hf hX hbm hs hb hr hv hp hq hroot hpp hpa o1 o3 hrr hfA hs2 hax hv1 ht hx hxa hrf hlg
    have b6 := ((Blk.new w 24 #[.slice A n c] [.slice A n c] rfl).alloc (.cells #[.slice none 0 0] 24))
    have bR := (Blk.new' (w.alloc (.cells #[.slice A n c] 24)) (w.heap.size + 1) 24 #[.slice none 0 0] [.slice none 0 0] (by simp) rfl)
    have lw := (later1 w (.cells #[.slice A n c] 24)).alloc (by simp) (.cells #[.slice none 0 0] 24)
    have c6 := b6.cell (j := 0) (v := .slice A n c) rfl
    go_enter Try.func14, Try.ntmps14
    go_wp2_with (first
      | (go_at_call 38; refine (HE.out _ lw).mono ?_; rintro e w1 ⟨rfl, l1⟩; replace b6 := b6.keep l1; replace bR := bR.keep l1; replace lw := Later.trans_ lw l1; clear c6; have c6 := b6.cell (j := 0) (v := .slice A n c) rfl)
      | (go_at_call 40; refine (HF.out _).mono ?_; rintro e w' ⟨rfl, rfl⟩)
      | (go_at_call 41; refine (HL.out _ lw).mono ?_; rintro e w3 ⟨rfl, l3⟩; replace b6 := b6.keep l3; replace bR := bR.keep l3; replace lw := Later.trans_ lw l3; clear c6; have c6 := b6.cell (j := 0) (v := .slice A n c) rfl)
      | (go_at_call 42; refine (HV.out _).mono ?_; rintro e w' ⟨rfl, rfl⟩)
      | (go_at_call 43; refine (HA.out _).mono ?_; rintro e w' ⟨rfl, rfl⟩))
    rw [O1.out, O3.out]
    clear c6
    replace b6 := b6.drew; replace bR := bR.drew; replace lw : Later w w3.drew := lw.drew
    have ow := World.ownsRow_nil w3.drew w.heap.size 57 3
    have NE0 : (some w.heap.size) ≠ (Value.slice none 0 0).ownBlock := by simp [Value.ownBlock]
    have NE1 : (some (w.heap.size + 1)) ≠ (Value.slice none 0 0).ownBlock := by simp [Value.ownBlock]
    refine wp_region_held_drew (S := fun w' => w'.cell? ⟨w.heap.size, 0, none⟩ = some (.slice A n c)) (by kernel_rfl) (b6.cell (j := 0) rfl) (fun hHeld => ?_)
    refine wpAnyH_take (i := 0) (oi := ⟨some 54, .load 24 (.tmp 6), _, _, _, none⟩) (v := .agg #[.slice A n c]) rfl (by kernel_rfl) (by kernel_rfl) (by kernel_rfl) (fun _ _ _ h => h) (Or.inl ⟨by rfl, fun w hS => by have h0 := hS; go_simp⟩) hHeld ?_
    simp only [Act.put, List.setIfInBounds_toArray, List.set_cons_zero, List.set_cons_succ]
    refine wpAnyH_take (i := 1) (oi := ⟨some 55, .move (.tmp 15), _, _, _, none⟩) (v := .slice none 0 0) rfl (by kernel_rfl) (by kernel_rfl) (by kernel_rfl) (fun _ _ _ h => h) (Or.inl ⟨by rfl, fun _ _ => rfl⟩) hHeld ?_
    simp only [Act.put, List.setIfInBounds_toArray, List.set_cons_zero, List.set_cons_succ]
    refine wpAnyH_take (i := 2) (oi := ⟨some 56, .move (.tmp 18), _, _, _, none⟩) (v := .int .u32 lf) rfl (by kernel_rfl) (by kernel_rfl) (by kernel_rfl) (fun _ _ _ h => h) (Or.inl ⟨by rfl, fun _ _ => rfl⟩) hHeld ?_
    simp only [Act.put, List.setIfInBounds_toArray, List.set_cons_zero, List.set_cons_succ]
    refine wpAnyH_take (i := 3) (oi := ⟨some 57, .move (.tmp 5), _, _, _, none⟩) (v := .int .u32 ax) rfl (by kernel_rfl) (by kernel_rfl) (by kernel_rfl) (fun _ _ _ h => h) (Or.inl ⟨by rfl, fun _ _ => rfl⟩) hHeld ?_
    simp only [Act.put, List.setIfInBounds_toArray, List.set_cons_zero, List.set_cons_succ]
    refine wpAnyH_take (i := 4) (oi := ⟨some 58, .move (.tmp 2), _, _, _, none⟩) (v := .int .u32 va) rfl (by kernel_rfl) (by kernel_rfl) (by kernel_rfl) (fun _ _ _ h => h) (Or.inl ⟨by rfl, fun _ _ => rfl⟩) hHeld ?_
    simp only [Act.put, List.setIfInBounds_toArray, List.set_cons_zero, List.set_cons_succ]
    refine wpAnyH_ready (rs := [5]) (by kernel_rfl) (by simp) (AllReadyH.cons (o := ⟨some 59, .call { callee := .value (.func 46), args := #[.tmp 57, .tmp 58], argTypes := #[25, 25] }, _, _, _, none⟩) rfl (fun K' hK => ?_) (AllReadyH.nil))
    go_simp
    refine (HIS.out _).mono ?_
    rintro e w' ⟨rfl, rfl⟩
    refine hK.out _ _ (b6.cell (j := 0) rfl) (fun hHeld => ?_)
    clear hK K'
    try simp only [Act.put, List.setIfInBounds_toArray, List.set_cons_zero, List.set_cons_succ]
    refine wpAnyH_ready (rs := [6]) (by kernel_rfl) (by simp) (AllReadyH.cons (o := ⟨some 60, .call { callee := .value (.func 45), args := #[.tmp 56, .tmp 59], argTypes := #[81, 25] }, _, _, _, none⟩) rfl (fun K' hK => ?_) (AllReadyH.nil))
    go_simp
    refine (HS.out _).mono ?_
    rintro e w8 ⟨rfl, l8⟩
    replace b6 := b6.keep l8
    replace bR := bR.keep l8
    replace lw := Later.trans_ lw l8
    replace ow := own_below ow l8
    refine hK.out _ _ (b6.cell (j := 0) rfl) (fun hHeld => ?_)
    clear hK K'
    try simp only [Act.put, List.setIfInBounds_toArray, List.set_cons_zero, List.set_cons_succ]
    refine wpAnyH_ready (rs := [7]) (by kernel_rfl) (by simp) (AllReadyH.cons (o := ⟨some 61, .buildSlice 29 1 #[(0, .tmp 60)], _, _, _, none⟩) rfl (fun K' hK => ?_) (AllReadyH.nil))
    go_simp
    have bW := Blk.new w8 57 #[.int .i64 s2, .int .i64 4, .int .u32 lf] [.int .i64 s2, .int .i64 4, .int .u32 lf] rfl
    replace b6 := b6.alloc (.cells #[.int .i64 s2, .int .i64 4, .int .u32 lf] 57)
    replace bR := bR.alloc (.cells #[.int .i64 s2, .int .i64 4, .int .u32 lf] 57)
    replace lw := lw.alloc lw.size (.cells #[.int .i64 s2, .int .i64 4, .int .u32 lf] 57)
    replace ow := ow.alloc (.cells #[.int .i64 s2, .int .i64 4, .int .u32 lf] 57)
    refine hK.out _ _ (b6.cell (j := 0) rfl) (fun hHeld => ?_)
    clear hK K'
    try simp only [Act.put, List.setIfInBounds_toArray, List.set_cons_zero, List.set_cons_succ]
    refine wpAnyH_ready (rs := [8]) (by kernel_rfl) (by simp) (AllReadyH.cons (o := ⟨some 62, .call { callee := .builtin .append, args := #[.tmp 55, .tmp 61], argTypes := #[29, 29] }, _, _, _, none⟩) rfl (fun K' hK => ?_) (AllReadyH.nil))
    refine wp_append_lies _ (.tmp 55) (.tmp 61) 29 rfl w.heap.size 57 i0 (.agg #[.int .i64 0, .int .i64 0, .int .u32 0]) 3 24 Try.underlying29 HI.out.1 HI.out.2.1 HI.out.2.2.1 HI.out.2.2.2 rfl (by decide) (.slice none 0 0) 0 ([]) rfl ow ⟨w8.heap.size, 0, none⟩ 1 1 [.int .i64 s2, .int .i64 4, .int .u32 lf] rfl rfl (news_blk bW) (wc_one _ _ _) (by decide) (by unfold maxLen; omega) (by omega) lw.size _ rfl ?_
    intro g1 cap1 wa own1 grow1 hat1 hlt1
    replace b6 := b6.grown grow1 NE0
    replace bR := bR.grown grow1 NE1
    replace lw := lw.grown grow1 lw.size (fun b hb => (ow.lt b hb).1)
    obtain ⟨AL, cl, hAL, _, _, hsl, _⟩ := own_form own1
    cases hAL
    refine hK.out _ _ (b6.cell (j := 0) rfl) (fun hHeld => ?_)
    clear hK K'
    try simp only [Act.put, List.setIfInBounds_toArray, List.set_cons_zero, List.set_cons_succ]
    refine wpAnyH_ready (rs := [9]) (by kernel_rfl) (by simp) (AllReadyH.cons (o := ⟨some 63, .call { callee := .value (.func 39), args := #[.tmp 54, .tmp 62], argTypes := #[24, 29] }, _, _, _, none⟩) rfl (fun K' hK => ?_) (AllReadyH.nil))
    go_simp
    have hRl := bR.lt
    have hz5 := lw.size
    refine (HW1.out _ _ _ lw hsl).mono ?_
    rintro e w9 ⟨g, c', rfl, hg, hc, hc2, hd, l9⟩
    replace b6 := b6.keep l9
    replace bR := bR.keep l9
    replace lw := Later.trans_ lw l9
    have cR := bR.cell (j := 0) (v := .slice none 0 0) rfl
    have fR := bR.frz 0
    refine hK.out _ _ (b6.cell (j := 0) rfl) (fun hHeld => ?_)
    clear hK K'
    try simp only [Act.put, List.setIfInBounds_toArray, List.set_cons_zero, List.set_cons_succ]
    refine wpAnyH_ready (rs := [10]) (by kernel_rfl) (by simp) (AllReadyH.cons (o := ⟨none, .store 24 (.tmp 12) (.tmp 63), _, _, _, none⟩) rfl (fun K' hK => ?_) (AllReadyH.nil))
    go_simp
    replace b6 := b6.set_other ⟨w.heap.size + 1, 0, none⟩ (.slice (some ⟨g, 0, none⟩) n c') (by show w.heap.size ≠ w.heap.size + 1; omega)
    refine hK.out _ _ (b6.cell (j := 0) rfl) (fun hHeld => ?_)
    clear hK K'
    try simp only [Act.put, List.setIfInBounds_toArray, List.set_cons_zero, List.set_cons_succ]
    refine wpAnyH_take (i := 11) (oi := ⟨some 13, .assign (.const (.int .i64 0)), _, _, _, none⟩) (v := .int .i64 0) rfl (by kernel_rfl) (by kernel_rfl) (by kernel_rfl) (fun _ _ _ h => h) (Or.inl ⟨by rfl, fun _ _ => rfl⟩) hHeld ?_
    simp only [Act.put, List.setIfInBounds_toArray, List.set_cons_zero, List.set_cons_succ]
    refine wpAnyH_done (by kernel_rfl) ?_ _
    clear hHeld
    go_wp2
    exact bodyPost_ret (v := .tuple #[.agg #[.slice (some ⟨g, 0, none⟩) n c'], .int .i64 0]) (results_cell_tmp Try.results14 _ _ (w.heap.size + 1) 24 _ _ _ rfl rfl (bR.set 0 (.slice (some ⟨g, 0, none⟩) n c')) Try.underlying24 rfl mem_sz) rfl
      ⟨g, c', rfl, by omega, hc, hc2, hd.only (Only.set _ _ _ _) (by omega), lw.setCell (by simp) _⟩
end Go.Proofs.Ytempcbdlaoblhab
