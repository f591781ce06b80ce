/-
  WALKS: what appends to Many's path.
-/
import Derived.Test.YtaihfkcoiagdaabDoorGh
import Derived.Defers
import Derived.Deep.RegionHeld3
namespace Go.Proofs.YtaihfkcoiagdaabDoor
open Go.RowKit Go.ChangeShapes Go.WideShapes Go.ChangeAt
attribute [local go_sem] run_store_fn

def fvM (Q F : Nat) : Value := .func (.func 43) #[] #[.pointer (some ⟨Q, 0, none⟩), .pointer (some ⟨F, 0, none⟩)]

theorem many_len (N : Nat) : ∀ (l : List Wm.Bs) (b : Int) (ps : List Int), l.length ≤ N → 1 ≤ l.length → (Mk.many nodeD emptyD l b ps).length ≤ l.length := by
  induction N with
  | zero => intro l b ps h1 h2; omega
  | succ N ih =>
    intro l b ps h h1
    by_cases h0 : ps = []
    · subst h0; rw [Mk.many_none]; exact h1
    · by_cases h2 : 2 ≤ l.length
      · have a1 := Mk.sp_lt h2
        have a0 := Mk.sp_pos l.length
        rw [Mk.many_two _ _ _ _ _ h0 h2, List.length_append]
        have i1 := ih (l.take (Mk.sp l.length)) b (ps.take (Mk.cnt ps (b + Mk.sp l.length))) (by rw [List.length_take]; omega) (by rw [List.length_take]; omega)
        have i2 := ih (l.drop (Mk.sp l.length)) (b + Mk.sp l.length) (ps.drop (Mk.cnt ps (b + Mk.sp l.length))) (by rw [List.length_drop]; omega) (by rw [List.length_drop]; omega)
        rw [List.length_take] at i1; rw [List.length_drop] at i2; omega
      · rw [Mk.many_small _ _ _ _ _ h0 h2]; simp
theorem many_isD (N : Nat) : ∀ (l : List Wm.Bs) (b : Int) (ps : List Int), l.length ≤ N → isD l → isD (Mk.many nodeD emptyD l b ps) := by
  have one : ∀ l : List Wm.Bs, isD l → isD [Mk.root nodeD emptyD l] := fun l hl x hx => by
    obtain rfl : x = Mk.root nodeD emptyD l := by simpa using hx
    exact root_isD hl
  induction N with
  | zero =>
    intro l b ps h hl
    by_cases h0 : ps = []
    · subst h0; rw [Mk.many_none]; exact one l hl
    · rw [Mk.many_small _ _ _ _ _ h0 (by omega)]; exact fun x hx => by cases hx
  | succ N ih =>
    intro l b ps h hl
    by_cases h0 : ps = []
    · subst h0; rw [Mk.many_none]; exact one l hl
    · by_cases h2 : 2 ≤ l.length
      · have a1 := Mk.sp_lt h2
        have a0 := Mk.sp_pos l.length
        rw [Mk.many_two _ _ _ _ _ h0 h2]
        intro x hx
        rcases List.mem_append.1 hx with hx | hx
        · exact ih _ _ _ (by rw [List.length_take]; omega) (isD_take hl _) x hx
        · exact ih _ _ _ (by rw [List.length_drop]; omega) (isD_drop hl _) x hx
      · rw [Mk.many_small _ _ _ _ _ h0 h2]; exact fun x hx => by cases hx

set_option maxRecDepth 100000 in
set_option maxHeartbeats 1000000 in
theorem many1_any (base : Nat) (N : Nat) : ∀ (A : Option Addr) (n c b : Nat) (A1 : Option Addr) (k c1 Q F : Nat) (l : List Wm.Bs) (ps : List Int) (acc : List Wm.Bs) (v : Value) (w : World), n ≤ N → 1 ≤ n → b + n ≤ 4611686018427387904 → n ≤ c → c ≤ 9223372036854775807 → Sl w 16 A n (Ds l) → isD l → (∀ ad, A = some ad → ad.block < base) →
    Sl w 1 A1 k (N64 ps) → ps.Pairwise (· < ·) → (0 < k → ∀ ad, A1 = some ad → ad.block < base) → k < 4611686018427387904 → k ≤ c1 → c1 ≤ 9223372036854775807 →
    Pth w base Q F 77 (fvM Q F) v acc → Tab w → 0 < base → acc.length + n ≤ 8000000000000 →
    Calls Tryd.prog 43 #[.slice A n c, .int .i64 b, .slice A1 k c1, .pointer (some ⟨Q, 0, none⟩), .pointer (some ⟨F, 0, none⟩)] w fun e w' => e = .returned (.tuple #[]) ∧ Below base w w' ∧ ∃ v', Pth w' base Q F 77 (fvM Q F) v' (acc ++ Mk.many nodeD emptyD l b ps) := by
  induction N with
  | zero => intro A n c b A1 k c1 Q F l ps acc v w h1 h2; omega
  | succ N ih =>
    intro A n c b A1 k c1 Q F l ps acc v w hN hn hbig hnc hc hs hl hA hsp hasc hA1 hk hkc hc1 hP tab hb1 hacc
    have hll := hs.dlen hl
    have hpl := hsp.ilen
    obtain ⟨ad, rfl, _, _⟩ := hs.2 (by omega)
    have hab := hA ad rfl
    have hbw : base ≤ w.heap.size := Nat.le_of_lt (Nat.lt_of_le_of_lt hP.leQ hP.blk.lt)
    by_cases h0 : k = 0
    · subst h0
      have e : ps = [] := List.eq_nil_of_length_eq_zero hpl
      subst e
      obtain ⟨i0, hI⟩ := dgI
      have HI := Lib.hid hI
      have e1 : Mk.many nodeD emptyD l b [] = [rootD l] := Mk.many_none _ _ _ _
      rw [e1]
      have HR2 := Lib.hid fun (w' : World) (hw : Later w w') => root_any n (some ad) n c l w' (Nat.le_refl _) (hs.keep hw) hl (by omega) hnc hc (tab.keep hw)
      have hR := rootD_dig hl
      obtain ⟨R, hRe⟩ : ∃ R, R = rootD l := ⟨_, rfl⟩
      rw [← hRe] at HR2 hR ⊢
      have P2 := Lib.hid hP
      have hA2 : acc.length ≤ 8000000000000 - 1 := by omega
      have hb2 : Below base w w := Below.refl _ _
      clear hI hRe hP hs hl hll ih tab e1 hA hA1 hsp hasc hpl
      go_enter Tryd.func43, Tryd.ntmps43
      go_wp2_with fail
      refine wp_region_held_drew (S := fun w' => True) (by kernel_rfl) trivial (fun hHeld => ?_)
      refine wpAnyH_take (i := 1) (oi := ⟨some 17, .move (.tmp 0), _, _, _, none⟩) (v := .slice (some ad) n c) rfl (by kernel_rfl) (by kernel_rfl) (by kernel_rfl) (fun _ _ _ h => h) (Or.inl ⟨by rfl, fun _ _ => rfl⟩) hHeld ?_
      simp only [Act.put, List.setIfInBounds_toArray, List.set_cons_zero, List.set_cons_succ]
      refine wpAnyH_ready (rs := [0, 2]) (by kernel_rfl) (by simp) (AllReadyH.cons (o := ⟨some 16, .load 22 (.tmp 3), _, _, _, none⟩) rfl (fun K' hK => ?_) (AllReadyH.cons (o := ⟨some 18, .call { callee := .value (.func 15), args := #[.tmp 17], argTypes := #[22] }, _, _, _, none⟩) rfl (fun K' hK => ?_) (AllReadyH.nil)))
      · have hcL := (Pth.later P2.out (Below.refl _ _).drew).blk.cell (j := 0) (v := v) rfl
        go_simp
        clear hcL
        refine hK.out _ _ trivial (fun hHeld => ?_)
        clear hK K'
        try simp only [Act.put, List.setIfInBounds_toArray, List.set_cons_zero, List.set_cons_succ]
        refine wpAnyH_ready (rs := [2]) (by kernel_rfl) (by simp) (AllReadyH.cons (o := ⟨some 18, .call { callee := .value (.func 15), args := #[.tmp 17], argTypes := #[22] }, _, _, _, none⟩) rfl (fun K' hK => ?_) (AllReadyH.nil))
        go_simp
        refine (HR2.out _ (Below.refl _ _).drew).mono ?_
        rintro e wc ⟨rfl, lc⟩
        have pc := Pth.later P2.out (Later.trans_ (Below.refl w.heap.size w).drew lc)
        refine hK.out _ _ trivial (fun hHeld => ?_)
        clear hK K'
        try simp only [Act.put, List.setIfInBounds_toArray, List.set_cons_zero, List.set_cons_succ]
        refine wpAnyH_ready (rs := [3]) (by kernel_rfl) (by simp) (AllReadyH.cons (o := ⟨some 19, .buildSlice 22 1 #[(0, .tmp 18)], _, _, _, none⟩) rfl (fun K' hK => ?_) (AllReadyH.nil))
        refine wp_build1 _ 31 _ rfl (U R).toArray i0 _ Tryd.underlying22 HI.out.hi HI.out.hz (by rw [HI.out.hs, List.size_toArray, U_length, hR.1]) (by rw [List.size_toArray, U_length, hR.1]; decide) (by rw [List.size_toArray, U_length, hR.1]; decide) rfl ?_
        refine hK.out _ _ trivial (fun hHeld => ?_)
        clear hK K'
        try simp only [Act.put, List.setIfInBounds_toArray, List.set_cons_zero, List.set_cons_succ]
        refine wpAnyH_ready (rs := [4]) (by kernel_rfl) (by simp) (AllReadyH.cons (o := ⟨some 20, .call { callee := .builtin .append, args := #[.tmp 16, .tmp 19], argTypes := #[22, 22] }, _, _, _, none⟩) rfl (fun K' hK => ?_) (AllReadyH.nil))
        refine wp_append_lies _ (.tmp 16) (.tmp 19) 22 rfl base 31 i0 _ 16 16 Tryd.underlying22 HI.out.hi HI.out.hz HI.out.hs HI.out.hb rfl (by decide) v acc.length (Ds acc) rfl (pc.own.alloc _) ⟨wc.heap.size, 0, none⟩ 1 1 (U R) rfl (by rw [U_length, hR.1]) (fun j u hu => World.news_of_block (heap_alloc_new wc _) j u (by simpa using hu)) (U_one _) (by decide) (by unfold maxLen; omega) (by omega) (Nat.le_of_lt (Nat.lt_of_le_of_lt pc.leQ (by have := pc.blk.lt; simp; omega))) _ rfl ?_
        intro g cap wa hown hgrow hat hlt
        have pa := Pth.later pc ((Below.refl wc.heap.size wc).alloc (Nat.le_refl _) (.cells (U R).toArray 31))
        refine hK.out _ _ trivial (fun hHeld => ?_)
        clear hK K'
        try simp only [Act.put, List.setIfInBounds_toArray, List.set_cons_zero, List.set_cons_succ]
        refine wpAnyH_ready (rs := [5]) (by kernel_rfl) (by simp) (AllReadyH.cons (o := ⟨none, .store 22 (.tmp 3) (.tmp 20), _, _, _, none⟩) rfl (fun K' hK => ?_) (AllReadyH.nil))
        have hcq := (pa.grown hgrow).1.cell (j := 0) (v := v) rfl
        have hfq := (pa.grown hgrow).1.frz 0
        go_simp
        clear hcq hfq
        refine hK.out _ _ trivial (fun hHeld => ?_)
        clear hK K'
        try simp only [Act.put]
        refine wpAnyH_done (by kernel_rfl) ?_ _
        clear hHeld
        have w5P := pa.push hgrow hown hat
        have w5B := push_below (u := .slice (some ⟨g, 0, none⟩) (acc.length + 1) cap) pa ((hb2.trans ((Below.refl base w).drew.trans (lc.mono (Nat.le_of_lt (Nat.lt_of_le_of_lt P2.out.leQ P2.out.blk.lt))))).alloc (Nat.le_of_lt (Nat.lt_of_le_of_lt pc.leQ pc.blk.lt)) (.cells (U R).toArray 31)) hgrow
        clear pa hgrow hown hat pc lc
        go_wp2
        exact bodyPost_ret (results_none Tryd.results43 _ _ _) rfl ⟨rfl, w5B, _, w5P⟩
      · go_simp
        refine (HR2.out _ (Below.refl _ _).drew).mono ?_
        rintro e wc ⟨rfl, lc⟩
        have pc := Pth.later P2.out (Later.trans_ (Below.refl w.heap.size w).drew lc)
        refine hK.out _ _ trivial (fun hHeld => ?_)
        clear hK K'
        try simp only [Act.put, List.setIfInBounds_toArray, List.set_cons_zero, List.set_cons_succ]
        refine wpAnyH_ready (rs := [0, 3]) (by kernel_rfl) (by simp) (AllReadyH.cons (o := ⟨some 16, .load 22 (.tmp 3), _, _, _, none⟩) rfl (fun K' hK => ?_) (AllReadyH.cons (o := ⟨some 19, .buildSlice 22 1 #[(0, .tmp 18)], _, _, _, none⟩) rfl (fun K' hK => ?_) (AllReadyH.nil)))
        · have hcL := (pc).blk.cell (j := 0) (v := v) rfl
          go_simp
          clear hcL
          refine hK.out _ _ trivial (fun hHeld => ?_)
          clear hK K'
          try simp only [Act.put, List.setIfInBounds_toArray, List.set_cons_zero, List.set_cons_succ]
          refine wpAnyH_ready (rs := [3]) (by kernel_rfl) (by simp) (AllReadyH.cons (o := ⟨some 19, .buildSlice 22 1 #[(0, .tmp 18)], _, _, _, none⟩) rfl (fun K' hK => ?_) (AllReadyH.nil))
          refine wp_build1 _ 31 _ rfl (U R).toArray i0 _ Tryd.underlying22 HI.out.hi HI.out.hz (by rw [HI.out.hs, List.size_toArray, U_length, hR.1]) (by rw [List.size_toArray, U_length, hR.1]; decide) (by rw [List.size_toArray, U_length, hR.1]; decide) rfl ?_
          refine hK.out _ _ trivial (fun hHeld => ?_)
          clear hK K'
          try simp only [Act.put, List.setIfInBounds_toArray, List.set_cons_zero, List.set_cons_succ]
          refine wpAnyH_ready (rs := [4]) (by kernel_rfl) (by simp) (AllReadyH.cons (o := ⟨some 20, .call { callee := .builtin .append, args := #[.tmp 16, .tmp 19], argTypes := #[22, 22] }, _, _, _, none⟩) rfl (fun K' hK => ?_) (AllReadyH.nil))
          refine wp_append_lies _ (.tmp 16) (.tmp 19) 22 rfl base 31 i0 _ 16 16 Tryd.underlying22 HI.out.hi HI.out.hz HI.out.hs HI.out.hb rfl (by decide) v acc.length (Ds acc) rfl (pc.own.alloc _) ⟨wc.heap.size, 0, none⟩ 1 1 (U R) rfl (by rw [U_length, hR.1]) (fun j u hu => World.news_of_block (heap_alloc_new wc _) j u (by simpa using hu)) (U_one _) (by decide) (by unfold maxLen; omega) (by omega) (Nat.le_of_lt (Nat.lt_of_le_of_lt pc.leQ (by have := pc.blk.lt; simp; omega))) _ rfl ?_
          intro g cap wa hown hgrow hat hlt
          have pa := Pth.later pc ((Below.refl wc.heap.size wc).alloc (Nat.le_refl _) (.cells (U R).toArray 31))
          refine hK.out _ _ trivial (fun hHeld => ?_)
          clear hK K'
          try simp only [Act.put, List.setIfInBounds_toArray, List.set_cons_zero, List.set_cons_succ]
          refine wpAnyH_ready (rs := [5]) (by kernel_rfl) (by simp) (AllReadyH.cons (o := ⟨none, .store 22 (.tmp 3) (.tmp 20), _, _, _, none⟩) rfl (fun K' hK => ?_) (AllReadyH.nil))
          have hcq := (pa.grown hgrow).1.cell (j := 0) (v := v) rfl
          have hfq := (pa.grown hgrow).1.frz 0
          go_simp
          clear hcq hfq
          refine hK.out _ _ trivial (fun hHeld => ?_)
          clear hK K'
          try simp only [Act.put]
          refine wpAnyH_done (by kernel_rfl) ?_ _
          clear hHeld
          have w5P := pa.push hgrow hown hat
          have w5B := push_below (u := .slice (some ⟨g, 0, none⟩) (acc.length + 1) cap) pa ((hb2.trans ((Below.refl base w).drew.trans (lc.mono (Nat.le_of_lt (Nat.lt_of_le_of_lt P2.out.leQ P2.out.blk.lt))))).alloc (Nat.le_of_lt (Nat.lt_of_le_of_lt pc.leQ pc.blk.lt)) (.cells (U R).toArray 31)) hgrow
          clear pa hgrow hown hat pc lc
          go_wp2
          exact bodyPost_ret (results_none Tryd.results43 _ _ _) rfl ⟨rfl, w5B, _, w5P⟩
        · refine wp_build1 _ 31 _ rfl (U R).toArray i0 _ Tryd.underlying22 HI.out.hi HI.out.hz (by rw [HI.out.hs, List.size_toArray, U_length, hR.1]) (by rw [List.size_toArray, U_length, hR.1]; decide) (by rw [List.size_toArray, U_length, hR.1]; decide) rfl ?_
          refine hK.out _ _ trivial (fun hHeld => ?_)
          clear hK K'
          try simp only [Act.put, List.setIfInBounds_toArray, List.set_cons_zero, List.set_cons_succ]
          refine wpAnyH_ready (rs := [0]) (by kernel_rfl) (by simp) (AllReadyH.cons (o := ⟨some 16, .load 22 (.tmp 3), _, _, _, none⟩) rfl (fun K' hK => ?_) (AllReadyH.nil))
          have hcL := (Pth.later pc ((Below.refl wc.heap.size wc).alloc (Nat.le_refl _) (.cells (U R).toArray 31))).blk.cell (j := 0) (v := v) rfl
          go_simp
          clear hcL
          refine hK.out _ _ trivial (fun hHeld => ?_)
          clear hK K'
          try simp only [Act.put, List.setIfInBounds_toArray, List.set_cons_zero, List.set_cons_succ]
          refine wpAnyH_ready (rs := [4]) (by kernel_rfl) (by simp) (AllReadyH.cons (o := ⟨some 20, .call { callee := .builtin .append, args := #[.tmp 16, .tmp 19], argTypes := #[22, 22] }, _, _, _, none⟩) rfl (fun K' hK => ?_) (AllReadyH.nil))
          refine wp_append_lies _ (.tmp 16) (.tmp 19) 22 rfl base 31 i0 _ 16 16 Tryd.underlying22 HI.out.hi HI.out.hz HI.out.hs HI.out.hb rfl (by decide) v acc.length (Ds acc) rfl (pc.own.alloc _) ⟨wc.heap.size, 0, none⟩ 1 1 (U R) rfl (by rw [U_length, hR.1]) (fun j u hu => World.news_of_block (heap_alloc_new wc _) j u (by simpa using hu)) (U_one _) (by decide) (by unfold maxLen; omega) (by omega) (Nat.le_of_lt (Nat.lt_of_le_of_lt pc.leQ (by have := pc.blk.lt; simp; omega))) _ rfl ?_
          intro g cap wa hown hgrow hat hlt
          have pa := Pth.later pc ((Below.refl wc.heap.size wc).alloc (Nat.le_refl _) (.cells (U R).toArray 31))
          refine hK.out _ _ trivial (fun hHeld => ?_)
          clear hK K'
          try simp only [Act.put, List.setIfInBounds_toArray, List.set_cons_zero, List.set_cons_succ]
          refine wpAnyH_ready (rs := [5]) (by kernel_rfl) (by simp) (AllReadyH.cons (o := ⟨none, .store 22 (.tmp 3) (.tmp 20), _, _, _, none⟩) rfl (fun K' hK => ?_) (AllReadyH.nil))
          have hcq := (pa.grown hgrow).1.cell (j := 0) (v := v) rfl
          have hfq := (pa.grown hgrow).1.frz 0
          go_simp
          clear hcq hfq
          refine hK.out _ _ trivial (fun hHeld => ?_)
          clear hK K'
          try simp only [Act.put]
          refine wpAnyH_done (by kernel_rfl) ?_ _
          clear hHeld
          have w5P := pa.push hgrow hown hat
          have w5B := push_below (u := .slice (some ⟨g, 0, none⟩) (acc.length + 1) cap) pa ((hb2.trans ((Below.refl base w).drew.trans (lc.mono (Nat.le_of_lt (Nat.lt_of_le_of_lt P2.out.leQ P2.out.blk.lt))))).alloc (Nat.le_of_lt (Nat.lt_of_le_of_lt pc.leQ pc.blk.lt)) (.cells (U R).toArray 31)) hgrow
          clear pa hgrow hown hat pc lc
          go_wp2
          exact bodyPost_ret (results_none Tryd.results43 _ _ _) rfl ⟨rfl, w5B, _, w5P⟩
    · have hk0 : ((k : Int) == 0) = false := by rw [beq_eq_false_iff_ne]; omega
      have hps : ps ≠ [] := fun e => h0 (by rw [← hpl, e]; rfl)
      by_cases hn1 : n = 1
      · subst hn1
        rw [Mk.many_small _ _ _ _ _ hps (by omega), List.append_nil]
        have HP := Lib.hid hP
        clear hP hs hl hll ih tab hsp hasc hA hA1 hps hpl
        go_enter Tryd.func43, Tryd.ntmps43
        go_wp2_with fail
        exact bodyPost_ret (results_none Tryd.results43 _ _ _) rfl ⟨rfl, Below.refl _ _, v, HP.out⟩
      · have h2 : 2 ≤ n := by omega
        obtain ⟨ad1, rfl, _, _⟩ := hsp.2 (by omega)
        have hab1 := hA1 (by omega) ad1 rfl
        have k1 := Mk.sp_lt h2
        have k0 := Mk.sp_pos n
        have hPt := Lib.hid fun w' => parts_any ad n c w' h2 (by omega) hnc hc
        have HS1 := fun (w' : World) (hw : Below base w w') => Sl.later hs hw (fun a e _ => by cases e; exact hab)
        have HS2 := fun (w' : World) (hw : Below base w w') => Sl.later hsp hw (fun a e _ => by cases e; exact hab1)
        have HTb := fun (w' : World) (hw : Below base w w') => tab.below hw hb1
        have hn1' : ((n : Int) == 1) = false := by rw [beq_eq_false_iff_ne]; omega
        have hq := Mk.cnt_le ps ((b : Int) + (Mk.sp n : Nat))
        have HB := Lib.hid fun (w' : World) (hw : Later w w') => bsearch_any (some ad1) k c1 ps ((b : Int) + (Mk.sp n : Nat)) w' (hsp.keep hw) hasc hk
        have m2 := Mk.many_two nodeD emptyD l b ps hps (by omega)
        rw [hll] at m2
        rw [m2, ← List.append_assoc]
        clear m2
        obtain ⟨q, hqe⟩ : ∃ q, q = Mk.cnt ps ((b : Int) + (Mk.sp n : Nat)) := ⟨_, rfl⟩
        rw [← hqe] at HB hq ⊢
        rw [hpl] at hq
        have hl1 := many_len l.length (l.take (Mk.sp n)) b (ps.take q) (by rw [List.length_take]; omega) (by rw [List.length_take]; omega)
        rw [List.length_take, hll] at hl1
        have HF1 := Lib.hid fun (w' : World) (hw : Below base w w') (hp : Pth w' base Q F 77 (fvM Q F) v acc) => ih (some ad) (Mk.sp n) (Mk.sp n) b (some ad1) q c1 Q F (l.take (Mk.sp n)) (ps.take q) acc v w' (by omega) k0 (by omega) (Nat.le_refl _) (by omega) ((HS1 w' hw).dfront hl (by omega)) (isD_take hl _) hA
          (by have h1 := (HS2 w' hw).front hq; rwa [Nat.mul_one, N64_take] at h1) (hasc.sublist (List.take_sublist _ _)) (fun _ => hA1 (by omega)) (by omega) (by omega) hc1 hp (HTb w' hw) hb1 (by omega)
        obtain ⟨J, hJ⟩ : ∃ J, J = Mk.many nodeD emptyD (l.take (Mk.sp n)) b (ps.take q) := ⟨_, rfl⟩
        rw [← hJ] at HF1 hl1 ⊢
        obtain ⟨ac, hac⟩ : ∃ ac, ac = acc ++ J := ⟨_, rfl⟩
        rw [← hac] at HF1 ⊢
        have hal : ac.length + (n - Mk.sp n) ≤ 8000000000000 := by rw [hac, List.length_append]; omega
        have HF2 := Lib.hid fun (w' : World) (v' : Value) (hw : Below base w w') (hp : Pth w' base Q F 77 (fvM Q F) v' ac) => ih (some (ad.add (Mk.sp n * 16))) (n - Mk.sp n) (n - Mk.sp n) (b + Mk.sp n) _ (k - q) (c1 - q) Q F (l.drop (Mk.sp n)) (ps.drop q) ac v' w' (by omega) (by omega) (by omega) (Nat.le_refl _) (by omega) ((HS1 w' hw).dcut hl (by omega)) (isD_drop hl _) (fun a e => by cases e; rw [addr_add_block]; exact hab)
          (by have h1 := (HS2 w' hw).cut (k := q) (cap := c1) hq hkc; rwa [Nat.mul_one, N64_drop] at h1) (hasc.sublist (List.drop_sublist _ _)) (fun _ a e => by (split at e) <;> cases e <;> first | exact hab1 | (rw [addr_add_block]; exact hab1)) (by omega) (by omega) (by omega) hp (HTb w' hw) hb1 hal
        rw [show (b : Int) + ((Mk.sp n : Nat) : Int) = ((b + Mk.sp n : Nat) : Int) by omega]
        obtain ⟨J2, hJ2⟩ : ∃ J2, J2 = Mk.many nodeD emptyD (l.drop (Mk.sp n)) ((b + Mk.sp n : Nat) : Int) (ps.drop q) := ⟨_, rfl⟩
        rw [← hJ2] at HF2 ⊢
        obtain ⟨K, hK⟩ : ∃ K, K = Mk.sp n := ⟨_, rfl⟩
        rw [← hK] at HF1 HF2 HB hPt k1 k0
        rw [show ((b + K : Nat) : Int) = (b : Int) + (K : Int) by omega] at HF2
        have HP := Lib.hid hP
        clear hal hac hK hJ hJ2 hqe hP ih hs hl hll HS1 HS2 HTb tab hA hA1 hsp hasc hps hpl hl1
        have z1 : (0 : Int) ≤ (b : Int) + (K : Int) := by omega
        have z2 : (b : Int) + (K : Int) ≤ 4611686018427387904 := by omega
        have z5 : (q : Int) ≤ (k : Int) := by omega
        have z6 : (k : Int) ≤ (c1 : Int) := by omega
        have z8 : (q : Int) ≤ (c1 : Int) := by omega
        have y1 : IntKind.i64.wrap ((b : Int) + (K : Int)) = (b : Int) + (K : Int) := IntWalk.i64_in _ (by omega)
        go_enter Tryd.func43, Tryd.ntmps43
        go_wp2_with (first
          | (go_at_call 33; (with_reducible refine (hPt.out _).mono ?_); rintro e w1 ⟨rfl, l1⟩)
          | (go_at_call 44; (with_reducible refine (HB.out _ l1).mono ?_); rintro e w1' ⟨⟨fnd, rfl⟩, dr, rfl⟩))
        have P1 := HP.out.later (Later.trans_ l1 (later_drewN _ dr))
        have B1 : Below base w (w1.drewN dr) := (Later.trans_ l1 (later_drewN _ dr)).mono hbw
        generalize w1.drewN dr = w2 at P1 B1 ⊢
        refine wp_region_held_drew (S := fun w' => w'.cell? ⟨F, 0, none⟩ = some (fvM Q F)) (by kernel_rfl) (P1.fn.cell (j := 0) rfl) (fun hHeld => ?_)
        refine wpAnyH_take (i := 0) (oi := ⟨some 39, .load 77 (.tmp 4), _, _, _, none⟩) (v := .func (.func 43) #[] #[.pointer (some ⟨Q, 0, none⟩), .pointer (some ⟨F, 0, none⟩)]) rfl (by kernel_rfl) (by kernel_rfl) (by kernel_rfl) (fun _ _ _ h => h) (Or.inl ⟨by rfl, fun w hS => by have hS' : w.cell? ⟨F, 0, none⟩ = some (.func (.func 43) #[] #[.pointer (some ⟨Q, 0, none⟩), .pointer (some ⟨F, 0, none⟩)]) := hS; clear hS; go_simp⟩) hHeld ?_
        simp only [Act.put, List.setIfInBounds_toArray, List.set_cons_zero, List.set_cons_succ]
        refine wpAnyH_take (i := 1) (oi := ⟨some 40, .move (.tmp 8), _, _, _, none⟩) (v := .slice (some ad) K K) rfl (by kernel_rfl) (by kernel_rfl) (by kernel_rfl) (fun _ _ _ h => h) (Or.inl ⟨by rfl, fun _ _ => rfl⟩) hHeld ?_
        simp only [Act.put, List.setIfInBounds_toArray, List.set_cons_zero, List.set_cons_succ]
        refine wpAnyH_take (i := 2) (oi := ⟨some 41, .move (.tmp 1), _, _, _, none⟩) (v := .int .i64 b) rfl (by kernel_rfl) (by kernel_rfl) (by kernel_rfl) (fun _ _ _ h => h) (Or.inl ⟨by rfl, fun _ _ => rfl⟩) hHeld ?_
        simp only [Act.put, List.setIfInBounds_toArray, List.set_cons_zero, List.set_cons_succ]
        refine wpAnyH_take (i := 3) (oi := ⟨some 42, .move (.tmp 2), _, _, _, none⟩) (v := .slice (some ad1) k c1) rfl (by kernel_rfl) (by kernel_rfl) (by kernel_rfl) (fun _ _ _ h => h) (Or.inl ⟨by rfl, fun _ _ => rfl⟩) hHeld ?_
        simp only [Act.put, List.setIfInBounds_toArray, List.set_cons_zero, List.set_cons_succ]
        refine wpAnyH_take (i := 4) (oi := ⟨some 43, .move (.tmp 11), _, _, _, none⟩) (v := .int .i64 q) rfl (by kernel_rfl) (by kernel_rfl) (by kernel_rfl) (fun _ _ _ h => h) (Or.inl ⟨by rfl, fun _ _ => rfl⟩) hHeld ?_
        simp only [Act.put, List.setIfInBounds_toArray, List.set_cons_zero, List.set_cons_succ]
        refine wpAnyH_take (i := 5) (oi := ⟨some 44, .slice 37 (.tmp 42) none (some (.tmp 43)) none, _, _, _, none⟩) (v := .slice (some ad1) q c1) rfl (by kernel_rfl) (by kernel_rfl) (by kernel_rfl) (fun _ _ _ h => h) (Or.inl ⟨by rfl, fun w _ => by go_simp⟩) hHeld ?_
        simp only [Act.put, List.setIfInBounds_toArray, List.set_cons_zero, List.set_cons_succ]
        refine wpAnyH_ready (rs := [6]) (by kernel_rfl) (by simp) (AllReadyH.cons (o := ⟨some 45, .call { callee := .value (.tmp 39), args := #[.tmp 40, .tmp 41, .tmp 44], argTypes := #[22, 3, 37] }, _, _, _, none⟩) rfl (fun K' hK => ?_) (AllReadyH.nil))
        go_simp
        refine (HF1.out _ (B1.trans (Below.refl base w2).drew) (P1.later (Below.refl _ _).drew)).mono ?_
        rintro e w3 ⟨rfl, l3, v3, p3⟩
        refine hK.out _ _ (p3.fn.cell (j := 0) rfl) (fun hHeld => ?_)
        clear hK K'
        try simp only [Act.put, List.setIfInBounds_toArray, List.set_cons_zero, List.set_cons_succ]
        refine wpAnyH_done (by kernel_rfl) ?_ _
        clear hHeld
        try simp only [Act.put]
        have B3 : Below base w w3 := (B1.trans (Below.refl base w2).drew).trans l3
        clear P1 B1 l3 HF1 HB
        go_wp2_with fail
        refine wp_region_held_drew (S := fun w' => w'.cell? ⟨F, 0, none⟩ = some (fvM Q F)) (by kernel_rfl) (p3.fn.cell (j := 0) rfl) (fun hHeld => ?_)
        refine wpAnyH_take (i := 0) (oi := ⟨some 46, .load 77 (.tmp 4), _, _, _, none⟩) (v := .func (.func 43) #[] #[.pointer (some ⟨Q, 0, none⟩), .pointer (some ⟨F, 0, none⟩)]) rfl (by kernel_rfl) (by kernel_rfl) (by kernel_rfl) (fun _ _ _ h => h) (Or.inl ⟨by rfl, fun w hS => by have hS' : w.cell? ⟨F, 0, none⟩ = some (.func (.func 43) #[] #[.pointer (some ⟨Q, 0, none⟩), .pointer (some ⟨F, 0, none⟩)]) := hS; clear hS; go_simp⟩) hHeld ?_
        simp only [Act.put, List.setIfInBounds_toArray, List.set_cons_zero, List.set_cons_succ]
        refine wpAnyH_take (i := 1) (oi := ⟨some 47, .move (.tmp 9), _, _, _, none⟩) (v := .slice (some (ad.add (K * 16))) (n - K) (n - K)) rfl (by kernel_rfl) (by kernel_rfl) (by kernel_rfl) (fun _ _ _ h => h) (Or.inl ⟨by rfl, fun _ _ => rfl⟩) hHeld ?_
        simp only [Act.put, List.setIfInBounds_toArray, List.set_cons_zero, List.set_cons_succ]
        refine wpAnyH_take (i := 2) (oi := ⟨some 48, .move (.tmp 10), _, _, _, none⟩) (v := .int .i64 ((b : Int) + (K : Int))) rfl (by kernel_rfl) (by kernel_rfl) (by kernel_rfl) (fun _ _ _ h => h) (Or.inl ⟨by rfl, fun _ _ => rfl⟩) hHeld ?_
        simp only [Act.put, List.setIfInBounds_toArray, List.set_cons_zero, List.set_cons_succ]
        refine wpAnyH_take (i := 3) (oi := ⟨some 49, .move (.tmp 2), _, _, _, none⟩) (v := .slice (some ad1) k c1) rfl (by kernel_rfl) (by kernel_rfl) (by kernel_rfl) (fun _ _ _ h => h) (Or.inl ⟨by rfl, fun _ _ => rfl⟩) hHeld ?_
        simp only [Act.put, List.setIfInBounds_toArray, List.set_cons_zero, List.set_cons_succ]
        refine wpAnyH_take (i := 4) (oi := ⟨some 50, .move (.tmp 11), _, _, _, none⟩) (v := .int .i64 q) rfl (by kernel_rfl) (by kernel_rfl) (by kernel_rfl) (fun _ _ _ h => h) (Or.inl ⟨by rfl, fun _ _ => rfl⟩) hHeld ?_
        simp only [Act.put, List.setIfInBounds_toArray, List.set_cons_zero, List.set_cons_succ]
        refine wpAnyH_take (i := 5) (oi := ⟨some 51, .slice 37 (.tmp 49) (some (.tmp 50)) none none, _, _, _, none⟩) (v := .slice (if c1 = q then some ad1 else some (ad1.add q)) (k - q) (c1 - q)) rfl (by kernel_rfl) (by kernel_rfl) (by kernel_rfl) (fun _ _ _ h => h) (Or.inl ⟨by rfl, fun w _ => by by_cases hcq : c1 = q <;> go_simp⟩) hHeld ?_
        simp only [Act.put, List.setIfInBounds_toArray, List.set_cons_zero, List.set_cons_succ]
        refine wpAnyH_ready (rs := [6]) (by kernel_rfl) (by simp) (AllReadyH.cons (o := ⟨some 52, .call { callee := .value (.tmp 46), args := #[.tmp 47, .tmp 48, .tmp 51], argTypes := #[22, 3, 37] }, _, _, _, none⟩) rfl (fun K' hK => ?_) (AllReadyH.nil))
        go_simp
        refine (HF2.out _ v3 (B3.trans (Below.refl base w3).drew) (p3.later (Below.refl _ _).drew)).mono ?_
        rintro e w4 ⟨rfl, l4, v4, p4⟩
        refine hK.out _ _ (p4.fn.cell (j := 0) rfl) (fun hHeld => ?_)
        clear hK K'
        try simp only [Act.put, List.setIfInBounds_toArray, List.set_cons_zero, List.set_cons_succ]
        refine wpAnyH_done (by kernel_rfl) ?_ _
        clear hHeld
        try simp only [Act.put]
        have B4 : Below base w w4 := (B3.trans (Below.refl base w3).drew).trans l4
        go_wp2_with fail
        all_goals go_end0
        all_goals exact ⟨rfl, B4, v4, p4⟩
end Go.Proofs.YtaihfkcoiagdaabDoor

/-
  WALKS: arePlaces.
-/
namespace Go.Proofs.YtaihfkcoiagdaabDoor
open Go.RowKit Go.ChangeShapes Go.WideShapes Go.ChangeAt

def arePl (last : Int) : List Int → Int → Bool
  | [], _ => true
  | p :: r, n => if p ≤ last ∨ n ≤ p then false else arePl p r n
theorem arePl_spec (ps : List Int) : ∀ (last n : Int), arePl last ps n = true → (∀ p ∈ ps, last < p ∧ p < n) ∧ ps.Pairwise (· < ·) := by
  induction ps with
  | nil => intro last n _; exact ⟨(fun p hp => by cases hp), List.Pairwise.nil⟩
  | cons a r ih =>
    intro last n h
    unfold arePl at h
    split at h
    · cases h
    · rename_i hn
      obtain ⟨h1, h2⟩ := ih a n h
      refine ⟨fun p hp => ?_, ?_⟩
      · rcases List.mem_cons.1 hp with rfl | hp
        · omega
        · have := h1 p hp; omega
      · rw [List.pairwise_cons]
        exact ⟨fun p hp => (h1 p hp).1, h2⟩
theorem arePl_of (ps : List Int) : ∀ (last n : Int), (∀ p ∈ ps, last < p ∧ p < n) → ps.Pairwise (· < ·) → arePl last ps n = true := by
  induction ps with
  | nil => intro last n _ _; rfl
  | cons a r ih =>
    intro last n h1 h2
    rw [List.pairwise_cons] at h2
    have ha := h1 a List.mem_cons_self
    unfold arePl
    rw [if_neg (by omega)]
    exact ih a n (fun p hp => ⟨h2.1 p hp, (h1 p (List.mem_cons_of_mem _ hp)).2⟩) h2.2
/-- Ascending places of a list of n elements are at most n. -/
theorem asc_len (ps : List Int) : ∀ (b : Int) (n : Nat), (∀ p ∈ ps, b ≤ p ∧ p < b + n) → ps.Pairwise (· < ·) → ps.length ≤ n := by
  induction ps with
  | nil => intro b n _ _; exact Nat.zero_le _
  | cons a r ih =>
    intro b n h1 h2
    rw [List.pairwise_cons] at h2
    have ha := h1 a List.mem_cons_self
    have := ih (a + 1) (b + n - (a + 1)).toNat (fun p hp => by have := h2.1 p hp; have := (h1 p (List.mem_cons_of_mem _ hp)).2; omega) h2.2
    rw [List.length_cons]; omega
theorem arePl_next {ps : List Int} {x n : Int} {k : Nat} (h : k < ps.length) : arePl x (ps.drop k) n = if ps.getD k 0 ≤ x ∨ n ≤ ps.getD k 0 then false else arePl (ps.getD k 0) (ps.drop (k + 1)) n := by
  rw [List.drop_eq_getElem_cons h, List.getD_eq_getElem?_getD, List.getElem?_eq_getElem h]; rfl

set_option maxRecDepth 100000 in
set_option maxHeartbeats 1000000 in
theorem arePlaces_any (A : Option Addr) (k c : Nat) (ps : List Int) (n : Int) (w : World) (hs : Sl w 1 A k (N64 ps)) (hk : k ≤ 9223372036854775807) :
    Calls Tryd.prog 42 #[.slice A k c, .int .i64 n] w fun e w' => e = .returned (.bool (arePl (-1) ps n)) ∧ w' = w := by
  have hl := hs.ilen
  obtain ⟨FL, hFL⟩ : ∃ FL, FL = arePl (-1) ps n := ⟨_, rfl⟩
  rw [← hFL]
  have HS : Hid (∀ j, j < k → ∃ ad, A = some ad ∧ w.cell? (ad.add j) = some (.int .i64 (ps.getD j 0))) := Lib.hid fun j hj => by
    obtain ⟨b, off, e, _, hc⟩ := hs.icells (by omega)
    refine ⟨_, e, ?_⟩
    have h1 := hc j (by omega)
    have e2 : (⟨b, off, none⟩ : Addr).add j = ⟨b, off + j, none⟩ := by
      unfold Addr.add; split
      · rename_i h; subst h; rfl
      · rfl
    rw [e2]; exact h1
  have HFL := Lib.hid hFL
  have HL := Lib.hid hl
  clear hs hl hFL
  go_enter Tryd.func42, Tryd.ntmps42
  go_wp2
  go_loopw [5, 10] (fun l i wr => ∃ (j : Nat) (x : Int), j ≤ k ∧ i = .int .i64 j ∧ l = .int .i64 x ∧ Hid (arePl x (ps.drop j) n = FL) ∧ w = wr) (fun _ i _ => k - (intOf i).toNat)
  case atStart => exact ⟨0, -1, by omega, by go_num, rfl, Lib.hid (by rw [List.drop_zero]; exact HFL.out.symm), rfl⟩
  case round =>
    obtain ⟨j, x, hj, rfl, rfl, hx, rfl⟩ := hrel
    by_cases hlt : j < k
    · obtain ⟨ad, rfl, hc⟩ := HS.out j hlt
      have hn := arePl_next (ps := ps) (x := x) (n := n) (k := j) (by rw [HL.out]; exact hlt)
      rw [hx.out] at hn
      obtain ⟨p, hp⟩ : ∃ p, p = ps.getD j 0 := ⟨_, rfl⟩
      rw [← hp] at hn hc
      have k0 : (0 : Int) ≤ (j : Int) := by omega
      have kn : (j : Int) < (k : Int) := by omega
      clear hp
      by_cases h1 : p ≤ x
      · rw [if_pos (.inl h1)] at hn
        have HN := Lib.hid hn
        clear hn
        go_wp2
        go_ret
        exact ⟨by rw [HN.out]; rfl, rfl⟩
      · by_cases h2 : n ≤ p
        · rw [if_pos (.inr h2)] at hn
          have HN := Lib.hid hn
          clear hn
          go_wp2
          go_ret
          exact ⟨by rw [HN.out]; rfl, rfl⟩
        · rw [if_neg (by omega)] at hn
          have HN := Lib.hid hn
          clear hn
          go_wp2
          go_roundw
          case rel => exact ⟨j + 1, p, by omega, by go_num, rfl, Lib.hid HN.out.symm, by trivial⟩
          case measure => simp [intOf]; omega
    · obtain rfl : j = k := by omega
      have HN : Hid (true = FL) := Lib.hid (by have h := hx.out; rw [List.drop_of_length_le (by rw [HL.out]; exact Nat.le_refl _)] at h; exact h)
      clear hx
      go_wp2
      go_ret
      exact ⟨by rw [← HN.out]; rfl, rfl⟩
end Go.Proofs.YtaihfkcoiagdaabDoor

/-
  WALKS: Many.
-/
namespace Go.Proofs.YtaihfkcoiagdaabDoor
open Go.RowKit Go.ChangeShapes Go.WideShapes Go.ChangeAt
attribute [local go_sem] run_store_fn

set_option maxRecDepth 100000 in
set_option maxHeartbeats 1000000 in
theorem many_bad (A A1 : Option Addr) (n c k c1 : Nat) (ps : List Int) (w : World) (hsp : Sl w 1 A1 k (N64 ps)) (hk : k ≤ 9223372036854775807) (hb : arePl (-1) ps n = false) :
    Calls Tryd.prog 21 #[.slice A n c, .slice A1 k c1] w fun e w' => e = .returned (.tuple #[.slice none 0 0, .int .i64 1]) ∧ w' = w := by
  have HP := Lib.hid (by have h := arePlaces_any A1 k c1 ps (n : Int) w hsp hk; rw [hb] at h; exact h)
  clear hsp hb
  go_enter Tryd.func21, Tryd.ntmps21
  go_wp2_with (go_at_call 42; refine HP.out.mono ?_; rintro e w' ⟨rfl, rfl⟩)
  go_ret2
  exact ⟨rfl, rfl⟩

set_option maxRecDepth 100000 in
set_option maxHeartbeats 1000000 in
theorem many_zero (A A1 : Option Addr) (c k c1 : Nat) (ps : List Int) (w : World) (hsp : Sl w 1 A1 k (N64 ps)) (hk : k ≤ 9223372036854775807) (hb : arePl (-1) ps (0 : Nat) = true) :
    Calls Tryd.prog 21 #[.slice A 0 c, .slice A1 k c1] w fun e w' => GotPath [] w e w' := by
  have HP := Lib.hid (by have h := arePlaces_any A1 k c1 ps ((0 : Nat) : Int) w hsp hk; rw [hb] at h; exact h)
  clear hsp hb
  go_enter Tryd.func21, Tryd.ntmps21
  go_wp2_with (go_at_call 42; refine HP.out.mono ?_; rintro e w' ⟨rfl, rfl⟩)
  go_ret2
  exact ⟨some ⟨w'.heap.size, 0, none⟩, 0, rfl, Nat.le_refl _, by decide, ⟨rfl, fun h => absurd h (by decide)⟩, (fun (x : Wm.Bs) (hx : x ∈ []) => by cases hx), ((Below.refl _ _).alloc (Nat.le_refl _) _).alloc (by simp) _⟩

set_option maxRecDepth 100000 in
set_option maxHeartbeats 1000000 in
theorem many_any (A A1 : Option Addr) (n c k c1 : Nat) (l : List Wm.Bs) (ps : List Int) (w : World) (h1 : 1 ≤ n) (hbig : n ≤ 4000000000000) (hnc : n ≤ c) (hc : c ≤ 9223372036854775807) (hs : Sl w 16 A n (Ds l)) (hl : isD l)
    (hsp : Sl w 1 A1 k (N64 ps)) (hkc : k ≤ c1) (hc1 : c1 ≤ 9223372036854775807) (hb : arePl (-1) ps n = true) (tab : Tab w) :
    Calls Tryd.prog 21 #[.slice A n c, .slice A1 k c1] w fun e w' => GotPath (Mk.many nodeD emptyD l 0 ps) w e w' := by
  have HP := Lib.hid (by have h := arePlaces_any A1 k c1 ps (n : Int) w hsp (by omega); rw [hb] at h; exact h)
  obtain ⟨hin, hasc⟩ := arePl_spec ps _ _ hb
  have hpl := hsp.ilen
  have hkn : k ≤ n := by rw [← hpl]; exact asc_len ps 0 n (fun p hp => by have := hin p hp; omega) hasc
  have k2 : ((n : Int) == 0) = false := by rw [beq_eq_false_iff_ne]; omega
  have b7 : Blk (((w.alloc (.cells #[] 31)).alloc (.cells #[.slice (some ⟨w.heap.size, 0, none⟩) 0 0] 22)).alloc (.cells #[.nilFunc] 77)) (w.heap.size + 1 + 1) 77 [.nilFunc] := Blk.new' _ _ _ _ _ (by simp) rfl
  have c7 := b7.cell (j := 0) (v := .nilFunc) rfl
  have f7 := b7.frz 0
  have hi := many_isD _ l 0 ps (Nat.le_refl _) hl
  have HI := Lib.hid fun (w' : World) (hw : Later w w') (hp : Pth w' w.heap.size (w.heap.size + 1) (w.heap.size + 1 + 1) 77 (fvM (w.heap.size + 1) (w.heap.size + 1 + 1)) (.slice (some ⟨w.heap.size, 0, none⟩) 0 0) []) =>
    many1_any w.heap.size n A n c 0 A1 k c1 (w.heap.size + 1) (w.heap.size + 1 + 1) l ps [] _ w' (Nat.le_refl _) h1 (by omega) hnc hc (hs.keep hw) hl (fun ad e => by obtain ⟨a, e', hb, _⟩ := hs.2 (by omega); rw [e] at e'; cases e'; exact hb)
      (hsp.keep hw) hasc (fun h0 ad e => by obtain ⟨a, e', hb, _⟩ := hsp.2 h0; rw [e] at e'; cases e'; exact hb) (by omega) hkc hc1 hp (tab.keep hw) tab.lt (by simp; omega)
  have e0 : ((0 : Nat) : Int) = 0 := rfl
  rw [e0] at HI
  obtain ⟨J, hJ⟩ : ∃ J, J = Mk.many nodeD emptyD l 0 ps := ⟨_, rfl⟩
  rw [← hJ] at HI hi ⊢
  clear hJ hs hl tab b7 hsp hasc hin hb hpl e0
  go_enter Tryd.func21, Tryd.ntmps21
  go_wp2_with (first
    | (go_at_call 42; refine HP.out.mono ?_; rintro e w' ⟨rfl, rfl⟩)
    | (go_at_call 43; refine (HI.out _ ((((Below.refl _ _).alloc (Nat.le_refl _) _).alloc (by simp) _).alloc (by simp; omega) _) (path0 _ _ _)).mono ?_; rintro e w4 ⟨rfl, l4, v4, p4⟩; rw [List.nil_append] at p4; have c4 := p4.blk.cell (j := 0) (v := v4) rfl))
  have l4' := Below.trans ((((Below.refl _ _).alloc (Nat.le_refl _) _).alloc (by simp) _).alloc (by simp; omega) _) l4
  obtain ⟨A2, c2, rfl, q1, q2, q3, _⟩ := own_form p4.own
  go_ret2
  exact ⟨A2, c2, rfl, q1, q2, q3, hi, l4'⟩
end Go.Proofs.YtaihfkcoiagdaabDoor

/-
  WALKS: the end of a check.
-/
namespace Go.Proofs.YtaihfkcoiagdaabDoor
open Go.RowKit Go.ChangeShapes Go.WideShapes Go.ChangeAt

set_option maxRecDepth 100000 in
set_option maxHeartbeats 1000000 in
theorem end_any (T O : Nat) (A : Option Addr) (n c : Nat) (s ok : Bool) (w : World) (hT : Blk w T 82 (TrC A n c s)) (hO : Blk w O 4 [.bool ok]) :
    CallsD Tryd.prog 47 #[.pointer (some ⟨T, 0, none⟩), .pointer (some ⟨O, 0, none⟩)] .returning w fun e u w' => u = .returning ∧ e = .returned (.tuple #[]) ∧ w' = w.setCell ⟨O, 0, none⟩ (.bool (ok && !s && decide (n = 0))) := by
  have t0 := hT.cell (j := 0) (v := .slice A n c) rfl
  have t1 := hT.cell (j := 1) (v := .bool s) rfl
  have o0 := hO.cell (j := 0) (v := .bool ok) rfl
  have f0 := hO.frz 0
  clear hT hO
  cases ok with
  | false =>
    go_enter_d Tryd.func47, Tryd.ntmps47
    go_wp2
    go_end0
    exact ⟨rfl, by simp⟩
  | true =>
    cases s with
    | true =>
      go_enter_d Tryd.func47, Tryd.ntmps47
      go_wp2
      go_end0
      exact ⟨rfl, by simp⟩
    | false =>
      by_cases hn : n = 0
      · subst hn
        go_enter_d Tryd.func47, Tryd.ntmps47
        go_wp2
        go_end0
        exact ⟨rfl, by simp⟩
      · have hn' : ((n : Int) == 0) = false := by rw [beq_eq_false_iff_ne]; omega
        go_enter_d Tryd.func47, Tryd.ntmps47
        go_wp2
        go_end0
        exact ⟨rfl, by simp [hn]⟩

/-- A result of one cell that holds a bool. -/
theorem results_bool {fn : Func} {p : Tmp} (h : fn.results = #[.cell p 4]) (tmps : Array Value) (w : World) (B : Nat) (b : Bool) (hp : tmps.getD p undef = .pointer (some ⟨B, 0, none⟩)) (hg : Blk w B 4 [.bool b]) :
    (results fn tmps).run Tryd.prog w = .ok (.bool b) w := by
  have hp' : tmps[p]?.getD undef = .pointer (some ⟨B, 0, none⟩) := by simpa using hp
  have hc := hg.cell (j := 0) (v := .bool b) rfl
  simp [results, h, hp', asAddr, go_sem, hc]

set_option maxRecDepth 100000 in
set_option maxHeartbeats 1000000 in
theorem checkIncl_bad (leaf rt : Wm.Bs) (i n : Int) (v : Value) (w : World) (h : i < 0 ∨ n ≤ i ∨ 1099511627776 < n) :
    Calls Tryd.prog 29 #[.agg (U leaf).toArray, .int .i64 i, .int .i64 n, v, .agg (U rt).toArray] w fun e w' => e = .returned (.bool false) ∧ Later w w' := by
  obtain ⟨X, hX⟩ : ∃ X, X = (U leaf).toArray := ⟨_, rfl⟩
  obtain ⟨Y, hY⟩ : ∃ Y, Y = (U rt).toArray := ⟨_, rfl⟩
  rw [← hX, ← hY]
  clear hX hY
  have b10 : Blk (((w.alloc (.cells X 31)).alloc (.cells Y 31)).alloc (.cells #[.bool false] 4)) (w.heap.size + 1 + 1) 4 [.bool false] := Blk.new' _ _ _ _ _ (by simp) rfl
  have l3 : Later w (((w.alloc (.cells X 31)).alloc (.cells Y 31)).alloc (.cells #[.bool false] 4)) := (((Below.refl _ _).alloc (Nat.le_refl _) _).alloc (by simp) _).alloc (by simp; omega) _
  by_cases h1 : i < 0
  · go_enter_defers Tryd.func29, Tryd.ntmps29
    go_wp2
    exact ⟨_, results_bool Tryd.results29 _ _ _ _ rfl b10, rfl, l3⟩
  · have h1' : 0 ≤ i := by omega
    by_cases h2 : n ≤ i
    · go_enter_defers Tryd.func29, Tryd.ntmps29
      go_wp2
      exact ⟨_, results_bool Tryd.results29 _ _ _ _ rfl b10, rfl, l3⟩
    · have h2' : i < n := by omega
      have h3 : 1099511627776 < n := by omega
      go_enter_defers Tryd.func29, Tryd.ntmps29
      go_wp2
      exact ⟨_, results_bool Tryd.results29 _ _ _ _ rfl b10, rfl, l3⟩

set_option maxRecDepth 100000 in
set_option maxHeartbeats 1000000 in
theorem checkIncl_any (leaf rt : Wm.Bs) (i n : Nat) (A : Option Addr) (k c : Nat) (l : List Wm.Bs) (w : World) (hi : i < n) (hn : n ≤ 1099511627776) (hdl : leaf.length = 16 ∧ Wm.isBs leaf) (hdr : rt.length = 16 ∧ Wm.isBs rt)
    (hs : Sl w 16 A k (Ds l)) (hl : isD l) (hkc : k ≤ c) (hc : c ≤ maxLen) (tab : Tab w) :
    Calls Tryd.prog 29 #[.agg (U leaf).toArray, .int .i64 i, .int .i64 n, .slice A k c, .agg (U rt).toArray] w fun e w' => e = .returned (.bool (decide ((Mk.climb nodeD zD leaf i n ⟨l, false⟩).1 = rt) && !(Mk.climb nodeD zD leaf i n ⟨l, false⟩).2.short && decide ((Mk.climb nodeD zD leaf i n ⟨l, false⟩).2.rest = []))) ∧ Later w w' := by
  have htl := tab.lt
  have HC := Lib.hid fun (w' : World) (B : Nat) (ht : Trl w' w.heap.size B ⟨l, false⟩) (hp : w.heap.size ≤ w'.heap.size) (tb : Tab w') (hB : B ≠ 0) => climb_any w.heap.size n B leaf i n ⟨l, false⟩ w' (Nat.le_refl _) (by omega) (by omega) hi hdl ht hp tb hB
  have hcd := climb_dig leaf hdl i n ⟨l, false⟩
  obtain ⟨C, hC⟩ : ∃ C, C = Mk.climb nodeD zD leaf i n ⟨l, false⟩ := ⟨_, rfl⟩
  rw [← hC] at HC hcd ⊢
  have HTr : Hid (∀ w' B, Later w w' → w.heap.size ≤ B → Blk w' B 82 (TrC A k c false) → Trl w' w.heap.size B ⟨l, false⟩) := Lib.hid fun w' B hw hB hb => ⟨A, k, c, hb, hs.keep hw, hl, hkc, hc, fun h0 ad e => by
    obtain ⟨a, e', hlt, _⟩ := hs.2 h0
    rw [e] at e'; cases e'
    exact ⟨hlt, by omega⟩⟩
  have HTb := Lib.hid fun (w' : World) (hw : Later w w') => tab.keep hw
  have heq : ∀ w' : World, (Op.equalIn 10000 31 (.agg (U C.1).toArray) (.agg (U rt).toArray)).run Tryd.prog w' = .ok (decide (C.1 = rt)) w' := fun w' => dig_eq hcd.1 hdr.1 w'
  have hgd : Tryd.prog.eqGuardType Tryd.prog.depth 31 = false := by kernel_rfl
  obtain ⟨X, hX⟩ : ∃ X, X = (U leaf).toArray := ⟨_, rfl⟩
  obtain ⟨Y, hY⟩ : ∃ Y, Y = (U rt).toArray := ⟨_, rfl⟩
  rw [← hX, ← hY]
  have HX := Lib.hid hX; have HY := Lib.hid hY; have HL := Lib.hid hdl.1; have HRt := Lib.hid hdr.1
  have h0 : (0 : Int) ≤ (i : Int) := by omega
  have h1 : (i : Int) < (n : Int) := by omega
  have h2 : (n : Int) ≤ 1099511627776 := by omega
  obtain ⟨b, hb⟩ : ∃ b, b = decide (C.1 = rt) := ⟨_, rfl⟩
  rw [← hb] at heq ⊢
  clear hb hX hY hC hcd hdl hdr tab hs hl
  go_enter_defers Tryd.func29, Tryd.ntmps29
  go_wp2_with fail
  have g5 : Blk ((((w.alloc (.cells X 31)).alloc (.cells Y 31)).alloc (.cells #[.bool false] 4)).alloc (.cells #[.slice A k c, .bool false] 82)) w.heap.size 31 (U leaf) := (((Blk.new w 31 X (U leaf) HX.out).alloc _).alloc _).alloc _
  have g9 : Blk ((((w.alloc (.cells X 31)).alloc (.cells Y 31)).alloc (.cells #[.bool false] 4)).alloc (.cells #[.slice A k c, .bool false] 82)) (w.heap.size + 1) 31 (U rt) := ((Blk.new' _ _ _ _ _ (by simp) HY.out).alloc _).alloc _
  have g10 : Blk ((((w.alloc (.cells X 31)).alloc (.cells Y 31)).alloc (.cells #[.bool false] 4)).alloc (.cells #[.slice A k c, .bool false] 82)) (w.heap.size + 1 + 1) 4 [.bool false] := (Blk.new' _ _ _ _ _ (by simp) rfl).alloc _
  have g11 : Blk ((((w.alloc (.cells X 31)).alloc (.cells Y 31)).alloc (.cells #[.bool false] 4)).alloc (.cells #[.slice A k c, .bool false] 82)) (w.heap.size + 1 + 1 + 1) 82 (TrC A k c false) := Blk.new' _ _ _ _ _ (by simp) rfl
  have l4 : Later w ((((w.alloc (.cells X 31)).alloc (.cells Y 31)).alloc (.cells #[.bool false] 4)).alloc (.cells #[.slice A k c, .bool false] 82)) := ((((Below.refl _ _).alloc (Nat.le_refl _) _).alloc (by simp) _).alloc (by simp; omega) _).alloc (by simp; omega) _
  generalize ((((w.alloc (.cells X 31)).alloc (.cells Y 31)).alloc (.cells #[.bool false] 4)).alloc (.cells #[.slice A k c, .bool false] 82)) = w4 at g5 g9 g10 g11 l4 ⊢
  have t4 := HTr.out w4 _ l4 (by omega) g11
  have tb4 := HTb.out w4.drew (Later.trans_ l4 (Below.refl _ _).drew)
  refine wp_region_noPanic ?_
  refine wp_region_held_drew (S := fun w' => w'.rangeAt w.heap.size 0 (U leaf) ∧ w'.rangeAt (w.heap.size + 1) 0 (U rt)) (by kernel_rfl) ⟨blk_at g5.drew, blk_at g9.drew⟩ (fun hHeld => ?_)
  refine wpAnyH_take (i := 0) (oi := ⟨some 25, .load 31 (.tmp 5), _, _, _, none⟩) (v := .agg (U leaf).toArray) rfl (by kernel_rfl) (by kernel_rfl) (by kernel_rfl) (fun _ _ _ h => h) (yieldsIf_load_mid (by rfl) _ _ rfl _ _ rfl _ _ (fun w h => h.1) Tryd.underlying31 rfl (dig_sz HL.out)) hHeld ?_
  simp only [Act.put, List.setIfInBounds_toArray, List.set_cons_zero, List.set_cons_succ]
  refine wpAnyH_take (i := 4) (oi := ⟨some 29, .load 31 (.tmp 9), _, _, _, none⟩) (v := .agg (U rt).toArray) rfl (by kernel_rfl) (by kernel_rfl) (by kernel_rfl) (fun _ _ _ h => h) (yieldsIf_load_mid (by rfl) _ _ rfl _ _ rfl _ _ (fun w h => h.2) Tryd.underlying31 rfl (dig_sz HRt.out)) hHeld ?_
  simp only [Act.put, List.setIfInBounds_toArray, List.set_cons_zero, List.set_cons_succ]
  refine wpAnyH_take (i := 1) (oi := ⟨some 26, .move (.tmp 1), _, _, _, none⟩) (v := .int .i64 i) rfl (by kernel_rfl) (by kernel_rfl) (by kernel_rfl) (fun _ _ _ h => h) (Or.inl ⟨by rfl, fun _ _ => rfl⟩) hHeld ?_
  simp only [Act.put, List.setIfInBounds_toArray, List.set_cons_zero, List.set_cons_succ]
  refine wpAnyH_take (i := 2) (oi := ⟨some 27, .move (.tmp 2), _, _, _, none⟩) (v := .int .i64 n) rfl (by kernel_rfl) (by kernel_rfl) (by kernel_rfl) (fun _ _ _ h => h) (Or.inl ⟨by rfl, fun _ _ => rfl⟩) hHeld ?_
  simp only [Act.put, List.setIfInBounds_toArray, List.set_cons_zero, List.set_cons_succ]
  refine wpAnyH_ready (rs := [3]) (by kernel_rfl) (by simp) (AllReadyH.cons (o := ⟨some 28, .call { callee := .value (.func 52), args := #[.tmp 11, .tmp 25, .tmp 26, .tmp 27], argTypes := #[82, 31, 3, 3] }, _, _, _, none⟩) rfl (fun K' hK => ?_) (AllReadyH.nil))
  go_simp
  refine (HC.out w4.drew _ t4 l4.size tb4 (by omega)).mono ?_
  rintro e w5 ⟨rfl, x5, t5⟩
  have k10 := g10.drew.lx x5 (by omega)
  refine hK.out _ _ ⟨blk_at (g5.drew.lx x5 (by omega)), blk_at (g9.drew.lx x5 (by omega))⟩ (fun hHeld => ?_)
  clear hK K'
  try simp only [Act.put, List.setIfInBounds_toArray, List.set_cons_zero, List.set_cons_succ]
  refine wpAnyH_take (i := 5) (oi := ⟨some 30, .binOp .eql 31 (.tmp 28) (.tmp 29) 31, _, _, _, none⟩) (v := .bool b) rfl (by kernel_rfl) (by kernel_rfl) (by kernel_rfl) (fun _ _ _ h => h) (Or.inl ⟨by rfl, fun w _ => by go_simp⟩) hHeld ?_
  simp only [Act.put, List.setIfInBounds_toArray, List.set_cons_zero, List.set_cons_succ]
  refine wpAnyH_ready (rs := [6]) (by kernel_rfl) (by simp) (AllReadyH.cons (o := ⟨none, .store 4 (.tmp 10) (.tmp 30), _, _, _, none⟩) rfl (fun K' hK => ?_) (AllReadyH.nil))
  have hcq := k10.cell (j := 0) (v := .bool false) rfl
  have hfq := k10.frz 0
  go_simp
  clear hcq hfq
  refine hK.out _ _ ⟨blk_at ((g5.drew.lx x5 (by omega)).set_other _ _ (by show _ ≠ w.heap.size + 1 + 1; omega)), blk_at ((g9.drew.lx x5 (by omega)).set_other _ _ (by show _ ≠ w.heap.size + 1 + 1; omega))⟩ (fun hHeld => ?_)
  clear hK K'
  try simp only [Act.put]
  refine wpAnyH_done (by kernel_rfl) ?_ _
  clear hHeld
  refine NoPanic.normal ?_
  go_wp2
  refine leaves_cons (f := 47) (args := #[.pointer (some ⟨w.heap.size + 1 + 1 + 1, 0, none⟩), .pointer (some ⟨w.heap.size + 1 + 1, 0, none⟩)]) (by simp) (by simp [go_sem]) ?_
  obtain ⟨A', n', c', hb', hs', hD', _⟩ := t5
  have hn' := hs'.dlen hD'
  have kO := k10.set 0 (.bool b)
  refine (end_any _ _ A' n' c' C.2.short b _ (hb'.set_other _ _ (by show _ ≠ w.heap.size + 1 + 1; omega)) kO).mono ?_
  rintro e u w7 ⟨rfl, rfl, rfl⟩
  have hz : decide (n' = 0) = decide (C.2.rest = []) := by rw [← hn']; simp
  rw [hz]
  exact ⟨_, results_bool Tryd.results29 _ _ _ _ rfl (kO.set 0 _), rfl, Below.only (Below.only (Lx.back (Later.trans_ l4 (Below.refl _ _).drew) x5 (by omega)) (Only.set _ _ _ _) (by omega)) (Only.set _ _ _ _) (by omega)⟩
end Go.Proofs.YtaihfkcoiagdaabDoor

/-
  WALKS: CheckMany.
-/
namespace Go.Proofs.YtaihfkcoiagdaabDoor
open Go.RowKit Go.ChangeShapes Go.WideShapes Go.ChangeAt

set_option maxRecDepth 100000 in
set_option maxHeartbeats 1000000 in
theorem checkMany_bad (rt : Wm.Bs) (n : Int) (A1 : Option Addr) (kp c1 : Nat) (ps : List Int) (A2 : Option Addr) (kf c2 : Nat) (v : Value) (w : World) (hsp : Sl w 1 A1 kp (N64 ps)) (hk : kp ≤ 9223372036854775807)
    (h : n < 0 ∨ 1099511627776 < n ∨ arePl (-1) ps n = false ∨ kf ≠ kp) :
    Calls Tryd.prog 23 #[.int .i64 n, .slice A1 kp c1, .slice A2 kf c2, v, .agg (U rt).toArray] w fun e w' => e = .returned (.bool false) ∧ Later w w' := by
  obtain ⟨Y, hY⟩ : ∃ Y, Y = (U rt).toArray := ⟨_, rfl⟩
  rw [← hY]
  clear hY
  have HP := Lib.hid fun (w' : World) (hw : Later w w') => arePlaces_any A1 kp c1 ps n w' (hsp.keep hw) hk
  have b10 : Blk ((w.alloc (.cells Y 31)).alloc (.cells #[.bool false] 4)) (w.heap.size + 1) 4 [.bool false] := Blk.new' _ _ _ _ _ (by simp) rfl
  have l3 : Later w ((w.alloc (.cells Y 31)).alloc (.cells #[.bool false] 4)) := ((Below.refl _ _).alloc (Nat.le_refl _) _).alloc (by simp) _
  have HL3 := Lib.hid l3
  clear hsp l3
  by_cases h1 : n < 0
  · go_enter_defers Tryd.func23, Tryd.ntmps23
    go_wp2
    exact ⟨_, results_bool Tryd.results23 _ _ _ _ rfl b10, rfl, HL3.out⟩
  · have h1' : 0 ≤ n := by omega
    by_cases h2 : 1099511627776 < n
    · go_enter_defers Tryd.func23, Tryd.ntmps23
      go_wp2
      exact ⟨_, results_bool Tryd.results23 _ _ _ _ rfl b10, rfl, HL3.out⟩
    · have h2' : n ≤ 1099511627776 := by omega
      cases hb : arePl (-1) ps n with
      | false =>
        rw [hb] at HP
        clear h hb
        go_enter_defers Tryd.func23, Tryd.ntmps23
        go_wp2_with (go_at_call 42; refine (HP.out _ HL3.out).mono ?_; rintro e w' ⟨rfl, rfl⟩)
        exact ⟨_, results_bool Tryd.results23 _ _ _ _ rfl b10, rfl, HL3.out⟩
      | true =>
        have h3 : kf ≠ kp := by
          rcases h with h | h | h | h
          · omega
          · omega
          · rw [hb] at h; cases h
          · exact h
        have h3' : ((kf : Int) == (kp : Int)) = false := by rw [beq_eq_false_iff_ne]; omega
        have h3'' : ¬ kf = kp := h3
        rw [hb] at HP
        clear h hb
        go_enter_defers Tryd.func23, Tryd.ntmps23
        go_wp2_with (go_at_call 42; refine (HP.out _ HL3.out).mono ?_; rintro e w' ⟨rfl, rfl⟩)
        exact ⟨_, results_bool Tryd.results23 _ _ _ _ rfl b10, rfl, HL3.out⟩

set_option maxRecDepth 100000 in
set_option maxHeartbeats 1000000 in
theorem checkMany_zero (rt : Wm.Bs) (A1 A2 : Option Addr) (c1 c2 : Nat) (A : Option Addr) (k c : Nat) (l : List Wm.Bs) (w : World) (hdr : rt.length = 16 ∧ Wm.isBs rt)
    (hs : Sl w 16 A k (Ds l)) (hl : isD l) (hkc : k ≤ c) (hc : c ≤ maxLen) (tab : Tab w) :
    Calls Tryd.prog 23 #[.int .i64 0, .slice A1 0 c1, .slice A2 0 c2, .slice A k c, .agg (U rt).toArray] w fun e w' => e = .returned (.bool (decide (rt = emptyD) && !(⟨l, false⟩ : Mk.Tr Wm.Bs).short && decide ((⟨l, false⟩ : Mk.Tr Wm.Bs).rest = []))) ∧ Later w w' := by
  have htl := tab.lt
  have HTr : Hid (∀ w' B, Later w w' → w.heap.size ≤ B → Blk w' B 82 (TrC A k c false) → Trl w' w.heap.size B ⟨l, false⟩) := Lib.hid fun w' B hw hB hb => ⟨A, k, c, hb, hs.keep hw, hl, hkc, hc, fun h0 ad e => by
    obtain ⟨a, e', hlt, _⟩ := hs.2 h0
    rw [e] at e'; cases e'
    exact ⟨hlt, by omega⟩⟩
  have HTb := Lib.hid fun (w' : World) (hw : Later w w') => tab.keep hw
  have hgd : Tryd.prog.eqGuardType Tryd.prog.depth 31 = false := by kernel_rfl
  obtain ⟨Y, hY⟩ : ∃ Y, Y = (U rt).toArray := ⟨_, rfl⟩
  have HP := Lib.hid fun (w' : World) => arePlaces_any A1 0 c1 [] 0 w' ⟨by simp [N64], fun h => absurd h (by decide)⟩ (by decide)
  have HE := Lib.hid fun (w' : World) (tb : Tab w') => empty_any w' tb
  have hel : emptyD.length = 16 := digOf_len _
  obtain ⟨ED, hED⟩ : ∃ ED, ED = emptyD := ⟨_, rfl⟩
  rw [← hED] at HE hel ⊢
  have heq : ∀ w' : World, (Op.equalIn 10000 31 (.agg (U rt).toArray) (.agg (U ED).toArray)).run Tryd.prog w' = .ok (decide (rt = ED)) w' := fun w' => dig_eq hdr.1 hel w'
  rw [← hY]
  have HY := Lib.hid hY; have HRt := Lib.hid hdr.1
  obtain ⟨b, hb⟩ : ∃ b, b = decide (rt = ED) := ⟨_, rfl⟩
  rw [← hb] at heq ⊢
  clear hb hY hED hel hdr tab hs hl
  go_enter_defers Tryd.func23, Tryd.ntmps23
  go_wp2_with (go_at_call 42; refine (HP.out _).mono ?_; rintro e w' ⟨rfl, rfl⟩)
  have g9 : Blk (((w.alloc (.cells Y 31)).alloc (.cells #[.bool false] 4)).alloc (.cells #[.slice A k c, .bool false] 82)) w.heap.size 31 (U rt) := ((Blk.new _ _ _ _ HY.out).alloc _).alloc _
  have g10 : Blk (((w.alloc (.cells Y 31)).alloc (.cells #[.bool false] 4)).alloc (.cells #[.slice A k c, .bool false] 82)) (w.heap.size + 1) 4 [.bool false] := (Blk.new' _ _ _ _ _ (by simp) rfl).alloc _
  have g11 : Blk (((w.alloc (.cells Y 31)).alloc (.cells #[.bool false] 4)).alloc (.cells #[.slice A k c, .bool false] 82)) (w.heap.size + 1 + 1) 82 (TrC A k c false) := Blk.new' _ _ _ _ _ (by simp) rfl
  have l4 : Later w (((w.alloc (.cells Y 31)).alloc (.cells #[.bool false] 4)).alloc (.cells #[.slice A k c, .bool false] 82)) := (((Below.refl _ _).alloc (Nat.le_refl _) _).alloc (by simp) _).alloc (by simp; omega) _
  generalize (((w.alloc (.cells Y 31)).alloc (.cells #[.bool false] 4)).alloc (.cells #[.slice A k c, .bool false] 82)) = w4 at g9 g10 g11 l4 ⊢
  have l4d := Later.trans_ l4 (Below.refl w4.heap.size w4).drew
  have t4 := HTr.out w4.drew _ l4d (by omega) g11
  have tb4 := HTb.out w4.drew l4d
  refine wp_region_noPanic ?_
  refine wp_region_held_drew (S := fun w' => w'.rangeAt w.heap.size 0 (U rt)) (by kernel_rfl) (blk_at g9.drew) (fun hHeld => ?_)
  refine wpAnyH_take (i := 0) (oi := ⟨some 35, .load 31 (.tmp 9), _, _, _, none⟩) (v := .agg (U rt).toArray) rfl (by kernel_rfl) (by kernel_rfl) (by kernel_rfl) (fun _ _ _ h => h) (yieldsIf_load_mid (by rfl) _ _ rfl _ _ rfl _ _ (fun w h => h) Tryd.underlying31 rfl (dig_sz HRt.out)) hHeld ?_
  simp only [Act.put, List.setIfInBounds_toArray, List.set_cons_zero, List.set_cons_succ]
  refine wpAnyH_ready (rs := [1]) (by kernel_rfl) (by simp) (AllReadyH.cons (o := ⟨some 36, .call { callee := .value (.func 38), args := #[], argTypes := #[] }, _, _, _, none⟩) rfl (fun K' hK => ?_) (AllReadyH.nil))
  go_simp
  refine (HE.out w4.drew tb4).mono ?_
  rintro e w5 ⟨rfl, l5⟩
  have k10 := g10.drew.keep l5
  have t5 := t4.later l5
  refine hK.out _ _ (blk_at (g9.drew.keep l5)) (fun hHeld => ?_)
  clear hK K'
  try simp only [Act.put, List.setIfInBounds_toArray, List.set_cons_zero, List.set_cons_succ]
  refine wpAnyH_take (i := 2) (oi := ⟨some 37, .binOp .eql 31 (.tmp 35) (.tmp 36) 31, _, _, _, none⟩) (v := .bool b) rfl (by kernel_rfl) (by kernel_rfl) (by kernel_rfl) (fun _ _ _ h => h) (Or.inl ⟨by rfl, fun w _ => by go_simp⟩) hHeld ?_
  simp only [Act.put, List.setIfInBounds_toArray, List.set_cons_zero, List.set_cons_succ]
  refine wpAnyH_ready (rs := [3]) (by kernel_rfl) (by simp) (AllReadyH.cons (o := ⟨none, .store 4 (.tmp 10) (.tmp 37), _, _, _, none⟩) rfl (fun K' hK => ?_) (AllReadyH.nil))
  have hcq := k10.cell (j := 0) (v := .bool false) rfl
  have hfq := k10.frz 0
  go_simp
  clear hcq hfq
  refine hK.out _ _ (blk_at ((g9.drew.keep l5).set_other _ _ (by show _ ≠ w.heap.size + 1; omega))) (fun hHeld => ?_)
  clear hK K'
  try simp only [Act.put]
  refine wpAnyH_done (by kernel_rfl) ?_ _
  clear hHeld
  refine NoPanic.normal ?_
  go_wp2
  refine leaves_cons (f := 47) (args := #[.pointer (some ⟨w.heap.size + 1 + 1, 0, none⟩), .pointer (some ⟨w.heap.size + 1, 0, none⟩)]) (by simp) (by simp [go_sem]) ?_
  obtain ⟨A', n', c', hb', hs', hD', _⟩ := t5
  have hn' := hs'.dlen hD'
  have kO := k10.set 0 (.bool b)
  refine (end_any _ _ A' n' c' (⟨l, false⟩ : Mk.Tr Wm.Bs).short b _ (hb'.set_other _ _ (by show _ ≠ w.heap.size + 1; omega)) kO).mono ?_
  rintro e u w7 ⟨rfl, rfl, rfl⟩
  have hz : decide (n' = 0) = decide ((⟨l, false⟩ : Mk.Tr Wm.Bs).rest = []) := by rw [← hn']; simp
  rw [hz]
  exact ⟨_, results_bool Tryd.results23 _ _ _ _ rfl (kO.set 0 _), rfl, Below.only (Below.only (Later.trans_ l4d l5) (Only.set _ _ _ _) (by omega)) (Only.set _ _ _ _) (by omega)⟩


set_option maxRecDepth 100000 in
set_option maxHeartbeats 1000000 in
theorem checkMany_any (rt : Wm.Bs) (n : Nat) (A1 A2 : Option Addr) (kp c1 c2 : Nat) (ps : List Int) (fs : List Wm.Bs) (A : Option Addr) (k c : Nat) (l : List Wm.Bs) (w : World) (hn1 : 1 ≤ n) (hn : n ≤ 1099511627776) (hdr : rt.length = 16 ∧ Wm.isBs rt)
    (hsp : Sl w 1 A1 kp (N64 ps)) (hsf : Sl w 16 A2 kp (Ds fs)) (hlf : isD fs) (hb : arePl (-1) ps n = true) (hk1 : kp ≤ c1) (hk2 : kp ≤ c2) (hc1 : c1 ≤ 9223372036854775807) (hc2 : c2 ≤ 9223372036854775807)
    (hs : Sl w 16 A k (Ds l)) (hl : isD l) (hkc : k ≤ c) (hc : c ≤ maxLen) (tab : Tab w) :
    Calls Tryd.prog 23 #[.int .i64 n, .slice A1 kp c1, .slice A2 kp c2, .slice A k c, .agg (U rt).toArray] w fun e w' => e = .returned (.bool (decide ((Mk.gather nodeD zD 0 n ps fs ⟨l, false⟩).1 = rt) && !(Mk.gather nodeD zD 0 n ps fs ⟨l, false⟩).2.short && decide ((Mk.gather nodeD zD 0 n ps fs ⟨l, false⟩).2.rest = []))) ∧ Later w w' := by
  have htl := tab.lt
  have HTr : Hid (∀ w' B, Later w w' → w.heap.size ≤ B → Blk w' B 82 (TrC A k c false) → Trl w' w.heap.size B ⟨l, false⟩) := Lib.hid fun w' B hw hB hb => ⟨A, k, c, hb, hs.keep hw, hl, hkc, hc, fun h0 ad e => by
    obtain ⟨a, e', hlt, _⟩ := hs.2 h0
    rw [e] at e'; cases e'
    exact ⟨hlt, by omega⟩⟩
  have HTb := Lib.hid fun (w' : World) (hw : Later w w') => tab.keep hw
  have hgd : Tryd.prog.eqGuardType Tryd.prog.depth 31 = false := by kernel_rfl
  obtain ⟨Y, hY⟩ : ∃ Y, Y = (U rt).toArray := ⟨_, rfl⟩
  have HP := Lib.hid fun (w' : World) (hw : Later w w') => by have h := arePlaces_any A1 kp c1 ps (n : Int) w' (hsp.keep hw) (by omega); rw [hb] at h; exact h
  obtain ⟨hin, hasc⟩ := arePl_spec ps _ _ hb
  have hpl := hsp.ilen
  have hkn : kp ≤ n := by rw [← hpl]; exact asc_len ps 0 n (fun p hp => by have := hin p hp; omega) hasc
  have HC := Lib.hid fun (w' : World) (B : Nat) (hw : Later w w') (ht : Trl w' w.heap.size B ⟨l, false⟩) (tb : Tab w') (hB : B ≠ 0) (hBw : w.heap.size ≤ B) =>
    gather_any w.heap.size n B 0 n A1 A2 kp c1 c2 ps fs ⟨l, false⟩ w' (Nat.le_refl _) hn1 (by omega) ⟨hsp.keep hw, hsf.keep hw, hlf, hasc, by omega, hk1, hk2, hc1, hc2,
      fun h0 ad e => by (obtain ⟨a, e', hlt, _⟩ := hsp.2 h0; rw [e] at e'; cases e'; omega), fun h0 ad e => by (obtain ⟨a, e', hlt, _⟩ := hsf.2 h0; rw [e] at e'; cases e'; omega)⟩ ht hw.size tb hB
  have hcd := gather_dig 0 n ps fs ⟨l, false⟩ hl hlf
  have e0 : ((0 : Nat) : Int) = 0 := rfl
  rw [e0] at HC
  obtain ⟨C, hC⟩ : ∃ C, C = Mk.gather nodeD zD 0 n ps fs ⟨l, false⟩ := ⟨_, rfl⟩
  rw [← hC] at HC hcd ⊢
  have heq : ∀ w' : World, (Op.equalIn 10000 31 (.agg (U C.1).toArray) (.agg (U rt).toArray)).run Tryd.prog w' = .ok (decide (C.1 = rt)) w' := fun w' => dig_eq hcd.1 hdr.1 w'
  rw [← hY]
  have HY := Lib.hid hY; have HRt := Lib.hid hdr.1
  have h0 : (0 : Int) ≤ (n : Int) := by omega
  have h2 : (n : Int) ≤ 1099511627776 := by omega
  have h3 : ((n : Int) == 0) = false := by rw [beq_eq_false_iff_ne]; omega
  obtain ⟨b, hb'⟩ : ∃ b, b = decide (C.1 = rt) := ⟨_, rfl⟩
  rw [← hb'] at heq ⊢
  clear hb' hb hY hC hcd hdr tab hs hl hsp hsf hlf hin hasc hpl e0
  have HL2 := Lib.hid (show Later w ((w.alloc (.cells Y 31)).alloc (.cells #[.bool false] 4)) from ((Below.refl _ _).alloc (Nat.le_refl _) _).alloc (by simp) _)
  go_enter_defers Tryd.func23, Tryd.ntmps23
  go_wp2_with (go_at_call 42; refine (HP.out _ HL2.out).mono ?_; rintro e w' ⟨rfl, rfl⟩)
  have g9 : Blk (((w.alloc (.cells Y 31)).alloc (.cells #[.bool false] 4)).alloc (.cells #[.slice A k c, .bool false] 82)) w.heap.size 31 (U rt) := ((Blk.new _ _ _ _ HY.out).alloc _).alloc _
  have g10 : Blk (((w.alloc (.cells Y 31)).alloc (.cells #[.bool false] 4)).alloc (.cells #[.slice A k c, .bool false] 82)) (w.heap.size + 1) 4 [.bool false] := (Blk.new' _ _ _ _ _ (by simp) rfl).alloc _
  have g11 : Blk (((w.alloc (.cells Y 31)).alloc (.cells #[.bool false] 4)).alloc (.cells #[.slice A k c, .bool false] 82)) (w.heap.size + 1 + 1) 82 (TrC A k c false) := Blk.new' _ _ _ _ _ (by simp) rfl
  have l4 : Later w (((w.alloc (.cells Y 31)).alloc (.cells #[.bool false] 4)).alloc (.cells #[.slice A k c, .bool false] 82)) := (((Below.refl _ _).alloc (Nat.le_refl _) _).alloc (by simp) _).alloc (by simp; omega) _
  generalize (((w.alloc (.cells Y 31)).alloc (.cells #[.bool false] 4)).alloc (.cells #[.slice A k c, .bool false] 82)) = w4 at g9 g10 g11 l4 ⊢
  have l4d := Later.trans_ l4 (Below.refl w4.heap.size w4).drew
  have t4 := HTr.out w4.drew _ l4d (by omega) g11
  have tb4 := HTb.out w4.drew l4d
  refine wp_region_noPanic ?_
  refine wp_region_held_drew (S := fun w' => w'.rangeAt w.heap.size 0 (U rt)) (by kernel_rfl) (blk_at g9.drew) (fun hHeld => ?_)
  refine wpAnyH_take (i := 4) (oi := ⟨some 42, .load 31 (.tmp 9), _, _, _, none⟩) (v := .agg (U rt).toArray) rfl (by kernel_rfl) (by kernel_rfl) (by kernel_rfl) (fun _ _ _ h => h) (yieldsIf_load_mid (by rfl) _ _ rfl _ _ rfl _ _ (fun w h => h) Tryd.underlying31 rfl (dig_sz HRt.out)) hHeld ?_
  simp only [Act.put, List.setIfInBounds_toArray, List.set_cons_zero, List.set_cons_succ]
  refine wpAnyH_take (i := 0) (oi := ⟨some 38, .move (.tmp 0), _, _, _, none⟩) (v := .int .i64 n) rfl (by kernel_rfl) (by kernel_rfl) (by kernel_rfl) (fun _ _ _ h => h) (Or.inl ⟨by rfl, fun _ _ => rfl⟩) hHeld ?_
  simp only [Act.put, List.setIfInBounds_toArray, List.set_cons_zero, List.set_cons_succ]
  refine wpAnyH_take (i := 1) (oi := ⟨some 39, .move (.tmp 1), _, _, _, none⟩) (v := .slice A1 kp c1) rfl (by kernel_rfl) (by kernel_rfl) (by kernel_rfl) (fun _ _ _ h => h) (Or.inl ⟨by rfl, fun _ _ => rfl⟩) hHeld ?_
  simp only [Act.put, List.setIfInBounds_toArray, List.set_cons_zero, List.set_cons_succ]
  refine wpAnyH_take (i := 2) (oi := ⟨some 40, .move (.tmp 2), _, _, _, none⟩) (v := .slice A2 kp c2) rfl (by kernel_rfl) (by kernel_rfl) (by kernel_rfl) (fun _ _ _ h => h) (Or.inl ⟨by rfl, fun _ _ => rfl⟩) hHeld ?_
  simp only [Act.put, List.setIfInBounds_toArray, List.set_cons_zero, List.set_cons_succ]
  refine wpAnyH_ready (rs := [3]) (by kernel_rfl) (by simp) (AllReadyH.cons (o := ⟨some 41, .call { callee := .value (.func 48), args := #[.tmp 11, .const (.int .i64 0), .tmp 38, .tmp 39, .tmp 40], argTypes := #[82, 3, 3, 37, 22] }, _, _, _, none⟩) rfl (fun K' hK => ?_) (AllReadyH.nil))
  go_simp
  refine (HC.out w4.drew _ l4d t4 tb4 (by omega) (by omega)).mono ?_
  rintro e w5 ⟨rfl, x5, t5⟩
  have k10 := g10.drew.lx x5 (by omega)
  refine hK.out _ _ (blk_at (g9.drew.lx x5 (by omega))) (fun hHeld => ?_)
  clear hK K'
  try simp only [Act.put, List.setIfInBounds_toArray, List.set_cons_zero, List.set_cons_succ]
  refine wpAnyH_take (i := 5) (oi := ⟨some 43, .binOp .eql 31 (.tmp 41) (.tmp 42) 31, _, _, _, none⟩) (v := .bool b) rfl (by kernel_rfl) (by kernel_rfl) (by kernel_rfl) (fun _ _ _ h => h) (Or.inl ⟨by rfl, fun w _ => by go_simp⟩) hHeld ?_
  simp only [Act.put, List.setIfInBounds_toArray, List.set_cons_zero, List.set_cons_succ]
  refine wpAnyH_ready (rs := [6]) (by kernel_rfl) (by simp) (AllReadyH.cons (o := ⟨none, .store 4 (.tmp 10) (.tmp 43), _, _, _, none⟩) rfl (fun K' hK => ?_) (AllReadyH.nil))
  have hcq := k10.cell (j := 0) (v := .bool false) rfl
  have hfq := k10.frz 0
  go_simp
  clear hcq hfq
  refine hK.out _ _ (blk_at ((g9.drew.lx x5 (by omega)).set_other _ _ (by show _ ≠ w.heap.size + 1; omega))) (fun hHeld => ?_)
  clear hK K'
  try simp only [Act.put]
  refine wpAnyH_done (by kernel_rfl) ?_ _
  clear hHeld
  refine NoPanic.normal ?_
  go_wp2
  refine leaves_cons (f := 47) (args := #[.pointer (some ⟨w.heap.size + 1 + 1, 0, none⟩), .pointer (some ⟨w.heap.size + 1, 0, none⟩)]) (by simp) (by simp [go_sem]) ?_
  obtain ⟨A', n', c', hb', hs', hD', _⟩ := t5
  have hn' := hs'.dlen hD'
  have kO := k10.set 0 (.bool b)
  refine (end_any _ _ A' n' c' C.2.short b _ (hb'.set_other _ _ (by show _ ≠ w.heap.size + 1; omega)) kO).mono ?_
  rintro e u w7 ⟨rfl, rfl, rfl⟩
  have hz : decide (n' = 0) = decide (C.2.rest = []) := by rw [← hn']; simp
  rw [hz]
  exact ⟨_, results_bool Tryd.results23 _ _ _ _ rfl (kO.set 0 _), rfl, Below.only (Below.only (Lx.back l4d x5 (by omega)) (Only.set _ _ _ _) (by omega)) (Only.set _ _ _ _) (by omega)⟩

end Go.Proofs.YtaihfkcoiagdaabDoor

/-
  WALKS: CheckConsistency.
-/
namespace Go.Proofs.YtaihfkcoiagdaabDoor
open Go.RowKit Go.ChangeShapes Go.WideShapes Go.ChangeAt

set_option maxRecDepth 100000 in
set_option maxHeartbeats 1000000 in
theorem checkCons_bad (old rt : Wm.Bs) (m n : Int) (v : Value) (w : World) (h : m < 0 ∨ n < m ∨ 1099511627776 < n) :
    Calls Tryd.prog 30 #[.int .i64 m, .int .i64 n, .agg (U old).toArray, .agg (U rt).toArray, v] w fun e w' => e = .returned (.bool false) ∧ Later w w' := by
  obtain ⟨X, hX⟩ : ∃ X, X = (U old).toArray := ⟨_, rfl⟩
  obtain ⟨Y, hY⟩ : ∃ Y, Y = (U rt).toArray := ⟨_, rfl⟩
  rw [← hX, ← hY]
  clear hX hY
  have b10 : Blk (((w.alloc (.cells X 31)).alloc (.cells Y 31)).alloc (.cells #[.bool false] 4)) (w.heap.size + 1 + 1) 4 [.bool false] := Blk.new' _ _ _ _ _ (by simp) rfl
  have HL3 := Lib.hid (show Later w (((w.alloc (.cells X 31)).alloc (.cells Y 31)).alloc (.cells #[.bool false] 4)) from (((Below.refl _ _).alloc (Nat.le_refl _) _).alloc (by simp) _).alloc (by simp; omega) _)
  by_cases h1 : m < 0
  · go_enter_defers Tryd.func30, Tryd.ntmps30
    go_wp2
    exact ⟨_, results_bool Tryd.results30 _ _ _ _ rfl b10, rfl, HL3.out⟩
  · have h1' : 0 ≤ m := by omega
    by_cases h2 : n < m
    · go_enter_defers Tryd.func30, Tryd.ntmps30
      go_wp2
      exact ⟨_, results_bool Tryd.results30 _ _ _ _ rfl b10, rfl, HL3.out⟩
    · have h2' : m ≤ n := by omega
      have h3 : 1099511627776 < n := by omega
      go_enter_defers Tryd.func30, Tryd.ntmps30
      go_wp2
      exact ⟨_, results_bool Tryd.results30 _ _ _ _ rfl b10, rfl, HL3.out⟩

set_option maxRecDepth 100000 in
set_option maxHeartbeats 1000000 in
theorem checkCons_zero (old rt : Wm.Bs) (n : Nat) (A : Option Addr) (k c : Nat) (l : List Wm.Bs) (w : World) (hn : n ≤ 1099511627776) (hdo : old.length = 16 ∧ Wm.isBs old)
    (hs : Sl w 16 A k (Ds l)) (hl : isD l) (hkc : k ≤ c) (hc : c ≤ maxLen) (tab : Tab w) :
    Calls Tryd.prog 30 #[.int .i64 0, .int .i64 n, .agg (U old).toArray, .agg (U rt).toArray, .slice A k c] w fun e w' => e = .returned (.bool (decide (old = emptyD) && !(⟨l, false⟩ : Mk.Tr Wm.Bs).short && decide ((⟨l, false⟩ : Mk.Tr Wm.Bs).rest = []))) ∧ Later w w' := by
  have htl := tab.lt
  have HTr : Hid (∀ w' B, Later w w' → w.heap.size ≤ B → Blk w' B 82 (TrC A k c false) → Trl w' w.heap.size B ⟨l, false⟩) := Lib.hid fun w' B hw hB hb => ⟨A, k, c, hb, hs.keep hw, hl, hkc, hc, fun h0 ad e => by
    obtain ⟨a, e', hlt, _⟩ := hs.2 h0
    rw [e] at e'; cases e'
    exact ⟨hlt, by omega⟩⟩
  have HTb := Lib.hid fun (w' : World) (hw : Later w w') => tab.keep hw
  have hgd : Tryd.prog.eqGuardType Tryd.prog.depth 31 = false := by kernel_rfl
  obtain ⟨X, hX⟩ : ∃ X, X = (U old).toArray := ⟨_, rfl⟩
  obtain ⟨Y, hY⟩ : ∃ Y, Y = (U rt).toArray := ⟨_, rfl⟩
  have HE := Lib.hid fun (w' : World) (tb : Tab w') => empty_any w' tb
  have hel : emptyD.length = 16 := digOf_len _
  obtain ⟨ED, hED⟩ : ∃ ED, ED = emptyD := ⟨_, rfl⟩
  rw [← hED] at HE hel ⊢
  have heq : ∀ w' : World, (Op.equalIn 10000 31 (.agg (U old).toArray) (.agg (U ED).toArray)).run Tryd.prog w' = .ok (decide (old = ED)) w' := fun w' => dig_eq hdo.1 hel w'
  rw [← hX, ← hY]
  have HX := Lib.hid hX; have HY := Lib.hid hY; have HL := Lib.hid hdo.1
  have h0 : (0 : Int) ≤ (n : Int) := by omega
  have h2 : (n : Int) ≤ 1099511627776 := by omega
  obtain ⟨b, hb⟩ : ∃ b, b = decide (old = ED) := ⟨_, rfl⟩
  rw [← hb] at heq ⊢
  clear hb hX hY hED hel hdo tab hs hl
  go_enter_defers Tryd.func30, Tryd.ntmps30
  go_wp2_with fail
  have g7 : Blk ((((w.alloc (.cells X 31)).alloc (.cells Y 31)).alloc (.cells #[.bool false] 4)).alloc (.cells #[.slice A k c, .bool false] 82)) w.heap.size 31 (U old) := (((Blk.new _ _ _ _ HX.out).alloc _).alloc _).alloc _
  have g8 : Blk ((((w.alloc (.cells X 31)).alloc (.cells Y 31)).alloc (.cells #[.bool false] 4)).alloc (.cells #[.slice A k c, .bool false] 82)) (w.heap.size + 1) 31 (U rt) := ((Blk.new' _ _ _ _ _ (by simp) HY.out).alloc _).alloc _
  have g10 : Blk ((((w.alloc (.cells X 31)).alloc (.cells Y 31)).alloc (.cells #[.bool false] 4)).alloc (.cells #[.slice A k c, .bool false] 82)) (w.heap.size + 1 + 1) 4 [.bool false] := (Blk.new' _ _ _ _ _ (by simp) rfl).alloc _
  have g11 : Blk ((((w.alloc (.cells X 31)).alloc (.cells Y 31)).alloc (.cells #[.bool false] 4)).alloc (.cells #[.slice A k c, .bool false] 82)) (w.heap.size + 1 + 1 + 1) 82 (TrC A k c false) := Blk.new' _ _ _ _ _ (by simp) rfl
  have l4 : Later w ((((w.alloc (.cells X 31)).alloc (.cells Y 31)).alloc (.cells #[.bool false] 4)).alloc (.cells #[.slice A k c, .bool false] 82)) := ((((Below.refl _ _).alloc (Nat.le_refl _) _).alloc (by simp) _).alloc (by simp; omega) _).alloc (by simp; omega) _
  generalize ((((w.alloc (.cells X 31)).alloc (.cells Y 31)).alloc (.cells #[.bool false] 4)).alloc (.cells #[.slice A k c, .bool false] 82)) = w4 at g7 g8 g10 g11 l4 ⊢
  have l4d := Later.trans_ l4 (Below.refl w4.heap.size w4).drew
  have t4 := HTr.out w4.drew _ l4d (by omega) g11
  have tb4 := HTb.out w4.drew l4d
  refine wp_region_noPanic ?_
  refine wp_region_held_drew (S := fun w' => w'.rangeAt w.heap.size 0 (U old)) (by kernel_rfl) (blk_at g7.drew) (fun hHeld => ?_)
  refine wpAnyH_take (i := 0) (oi := ⟨some 29, .load 31 (.tmp 7), _, _, _, none⟩) (v := .agg (U old).toArray) rfl (by kernel_rfl) (by kernel_rfl) (by kernel_rfl) (fun _ _ _ h => h) (yieldsIf_load_mid (by rfl) _ _ rfl _ _ rfl _ _ (fun w h => h) Tryd.underlying31 rfl (dig_sz HL.out)) hHeld ?_
  simp only [Act.put, List.setIfInBounds_toArray, List.set_cons_zero, List.set_cons_succ]
  refine wpAnyH_ready (rs := [1]) (by kernel_rfl) (by simp) (AllReadyH.cons (o := ⟨some 30, .call { callee := .value (.func 38), args := #[], argTypes := #[] }, _, _, _, none⟩) rfl (fun K' hK => ?_) (AllReadyH.nil))
  go_simp
  refine (HE.out w4.drew tb4).mono ?_
  rintro e w5 ⟨rfl, l5⟩
  have k10 := g10.drew.keep l5
  have t5 := t4.later l5
  refine hK.out _ _ (blk_at (g7.drew.keep l5)) (fun hHeld => ?_)
  clear hK K'
  try simp only [Act.put, List.setIfInBounds_toArray, List.set_cons_zero, List.set_cons_succ]
  refine wpAnyH_take (i := 2) (oi := ⟨some 31, .binOp .eql 31 (.tmp 29) (.tmp 30) 31, _, _, _, none⟩) (v := .bool b) rfl (by kernel_rfl) (by kernel_rfl) (by kernel_rfl) (fun _ _ _ h => h) (Or.inl ⟨by rfl, fun w _ => by go_simp⟩) hHeld ?_
  simp only [Act.put, List.setIfInBounds_toArray, List.set_cons_zero, List.set_cons_succ]
  refine wpAnyH_ready (rs := [3]) (by kernel_rfl) (by simp) (AllReadyH.cons (o := ⟨none, .store 4 (.tmp 10) (.tmp 31), _, _, _, none⟩) rfl (fun K' hK => ?_) (AllReadyH.nil))
  have hcq := k10.cell (j := 0) (v := .bool false) rfl
  have hfq := k10.frz 0
  go_simp
  clear hcq hfq
  refine hK.out _ _ (blk_at ((g7.drew.keep l5).set_other _ _ (by show _ ≠ w.heap.size + 1 + 1; omega))) (fun hHeld => ?_)
  clear hK K'
  try simp only [Act.put]
  refine wpAnyH_done (by kernel_rfl) ?_ _
  clear hHeld
  refine NoPanic.normal ?_
  go_wp2
  refine leaves_cons (f := 47) (args := #[.pointer (some ⟨w.heap.size + 1 + 1 + 1, 0, none⟩), .pointer (some ⟨w.heap.size + 1 + 1, 0, none⟩)]) (by simp) (by simp [go_sem]) ?_
  obtain ⟨A', n', c', hb', hs', hD', _⟩ := t5
  have hn' := hs'.dlen hD'
  have kO := k10.set 0 (.bool b)
  refine (end_any _ _ A' n' c' (⟨l, false⟩ : Mk.Tr Wm.Bs).short b _ (hb'.set_other _ _ (by show _ ≠ w.heap.size + 1 + 1; omega)) kO).mono ?_
  rintro e u w7 ⟨rfl, rfl, rfl⟩
  have hz : decide (n' = 0) = decide ((⟨l, false⟩ : Mk.Tr Wm.Bs).rest = []) := by rw [← hn']; simp
  rw [hz]
  exact ⟨_, results_bool Tryd.results30 _ _ _ _ rfl (kO.set 0 _), rfl, Below.only (Below.only (Later.trans_ l4d l5) (Only.set _ _ _ _) (by omega)) (Only.set _ _ _ _) (by omega)⟩


set_option maxRecDepth 100000 in
set_option maxHeartbeats 1000000 in
theorem checkCons_any (old rt : Wm.Bs) (m n : Nat) (A : Option Addr) (k c : Nat) (l : List Wm.Bs) (w : World) (hm1 : 1 ≤ m) (hmn : m ≤ n) (hn : n ≤ 1099511627776) (hdo : old.length = 16 ∧ Wm.isBs old) (hdr : rt.length = 16 ∧ Wm.isBs rt)
    (hs : Sl w 16 A k (Ds l)) (hl : isD l) (hkc : k ≤ c) (hc : c ≤ maxLen) (tab : Tab w) :
    Calls Tryd.prog 30 #[.int .i64 m, .int .i64 n, .agg (U old).toArray, .agg (U rt).toArray, .slice A k c] w fun e w' => e = .returned (.bool (decide ((Mk.grow nodeD zD old m n true ⟨l, false⟩).1.1 = old) && decide ((Mk.grow nodeD zD old m n true ⟨l, false⟩).1.2 = rt) && !(Mk.grow nodeD zD old m n true ⟨l, false⟩).2.short && decide ((Mk.grow nodeD zD old m n true ⟨l, false⟩).2.rest = []))) ∧ Later w w' := by
  have htl := tab.lt
  have HTr : Hid (∀ w' B, Later w w' → w.heap.size ≤ B → Blk w' B 82 (TrC A k c false) → Trl w' w.heap.size B ⟨l, false⟩) := Lib.hid fun w' B hw hB hb => ⟨A, k, c, hb, hs.keep hw, hl, hkc, hc, fun h0 ad e => by
    obtain ⟨a, e', hlt, _⟩ := hs.2 h0
    rw [e] at e'; cases e'
    exact ⟨hlt, by omega⟩⟩
  have HTb := Lib.hid fun (w' : World) (hw : Later w w') => tab.keep hw
  have hgd : Tryd.prog.eqGuardType Tryd.prog.depth 31 = false := by kernel_rfl
  obtain ⟨X, hX⟩ : ∃ X, X = (U old).toArray := ⟨_, rfl⟩
  obtain ⟨Y, hY⟩ : ∃ Y, Y = (U rt).toArray := ⟨_, rfl⟩
  have HC := Lib.hid fun (w' : World) (B : Nat) (hw : Later w w') (ht : Trl w' w.heap.size B ⟨l, false⟩) (tb : Tab w') (hB : B ≠ 0) => grow_any w.heap.size n B old m n true ⟨l, false⟩ w' (Nat.le_refl _) hm1 hmn (by omega) hdo ht hw.size tb hB
  have hcd := grow_dig old hdo ⟨l, false⟩ hl n m n true (Nat.le_refl _)
  obtain ⟨C, hC⟩ : ∃ C, C = Mk.grow nodeD zD old m n true ⟨l, false⟩ := ⟨_, rfl⟩
  rw [← hC] at HC hcd ⊢
  have HC1 := Lib.hid hcd.1; have HC2 := Lib.hid hcd.2
  have heq1 : ∀ w' : World, (Op.equalIn 10000 31 (.agg (U C.1.1).toArray) (.agg (U old).toArray)).run Tryd.prog w' = .ok (decide (C.1.1 = old)) w' := fun w' => dig_eq hcd.1.1 hdo.1 w'
  have heq2 : ∀ w' : World, (Op.equalIn 10000 31 (.agg (U C.1.2).toArray) (.agg (U rt).toArray)).run Tryd.prog w' = .ok (decide (C.1.2 = rt)) w' := fun w' => dig_eq hcd.2.1 hdr.1 w'
  rw [← hX, ← hY]
  rw [← hX] at HC
  have HX := Lib.hid hX; have HY := Lib.hid hY; have HL := Lib.hid hdo.1; have HRt := Lib.hid hdr.1
  rw [hX] at HC
  have h0 : (0 : Int) ≤ (m : Int) := by omega
  have h1 : (m : Int) ≤ (n : Int) := by omega
  have h2 : (n : Int) ≤ 1099511627776 := by omega
  have h3 : ((m : Int) == 0) = false := by rw [beq_eq_false_iff_ne]; omega
  obtain ⟨b1, hb1⟩ : ∃ b1, b1 = decide (C.1.1 = old) := ⟨_, rfl⟩
  obtain ⟨b2, hb2⟩ : ∃ b2, b2 = decide (C.1.2 = rt) := ⟨_, rfl⟩
  rw [← hb1] at heq1 ⊢
  rw [← hb2] at heq2 ⊢
  clear hb1 hb2 hX hY hC hcd hdo hdr tab hs hl
  have g7 : Blk ((((w.alloc (.cells X 31)).alloc (.cells Y 31)).alloc (.cells #[.bool false] 4)).alloc (.cells #[.slice A k c, .bool false] 82)) w.heap.size 31 (U old) := (((Blk.new _ _ _ _ HX.out).alloc _).alloc _).alloc _
  have g8 : Blk ((((w.alloc (.cells X 31)).alloc (.cells Y 31)).alloc (.cells #[.bool false] 4)).alloc (.cells #[.slice A k c, .bool false] 82)) (w.heap.size + 1) 31 (U rt) := ((Blk.new' _ _ _ _ _ (by simp) HY.out).alloc _).alloc _
  have g10 : Blk ((((w.alloc (.cells X 31)).alloc (.cells Y 31)).alloc (.cells #[.bool false] 4)).alloc (.cells #[.slice A k c, .bool false] 82)) (w.heap.size + 1 + 1) 4 [.bool false] := (Blk.new' _ _ _ _ _ (by simp) rfl).alloc _
  have g11 : Blk ((((w.alloc (.cells X 31)).alloc (.cells Y 31)).alloc (.cells #[.bool false] 4)).alloc (.cells #[.slice A k c, .bool false] 82)) (w.heap.size + 1 + 1 + 1) 82 (TrC A k c false) := Blk.new' _ _ _ _ _ (by simp) rfl
  have l4 : Later w ((((w.alloc (.cells X 31)).alloc (.cells Y 31)).alloc (.cells #[.bool false] 4)).alloc (.cells #[.slice A k c, .bool false] 82)) := ((((Below.refl _ _).alloc (Nat.le_refl _) _).alloc (by simp) _).alloc (by simp; omega) _).alloc (by simp; omega) _
  cases b1 with
  | false =>
    go_enter_defers Tryd.func30, Tryd.ntmps30
    go_wp2_with (first
      | ((with_reducible refine wpList_load_blk (o := ⟨some 33, .load 31 (.tmp 7), _, _, _, none⟩) rfl _ _ rfl w.heap.size 31 (U old) _ ?_ g7 Tryd.underlying31 rfl (dig_sz HL.out) ?_); rfl)
      | (go_at_call 53; refine (HC.out _ _ l4 (HTr.out _ _ l4 (by omega) g11) (HTb.out _ l4) (by omega)).mono ?_; rintro e w5 ⟨rfl, x5, t5⟩; have r7 := g7.lx x5 (by omega); have r8 := g8.lx x5 (by omega); have r10 := g10.lx x5 (by omega); have hs5 := r10.lt; have ht5 := t5.lt; have l5 : Later w w5 := Lx.back l4 x5 (by omega))
      | ((with_reducible refine wpList_store_abs (o := ⟨none, .store 31 (.tmp 12) (.tmp 37), _, _, _, none⟩) rfl _ _ _ rfl w5.heap.size 31 (PartB [] 16) (U C.1.1) ?_ ?_ ((Blk.new w5 _ _ _ rfl).alloc _) (dig_sz HC1.out.1) (dig_z HC1.out.1) (U_one _) ?_); rfl; rfl; intro w6 g12 o6; have g13' := (Blk.new' (w5.alloc (.cells (PartB [] 16).toArray 31)) (w5.heap.size + 1) 31 (PartB [] 16).toArray (PartB [] 16) (by simp) rfl).only o6 (by omega))
      | ((with_reducible refine wpList_store_abs (o := ⟨none, .store 31 (.tmp 13) (.tmp 38), _, _, _, none⟩) rfl _ _ _ rfl (w5.heap.size + 1) 31 (PartB [] 16) (U C.1.2) ?_ ?_ g13' (dig_sz HC2.out.1) (dig_z HC2.out.1) (U_one _) ?_); rfl; rfl; intro w8 g13 o8; have q12 := g12.only o8 (by omega); have q7 := ((((r7.alloc (.cells (PartB [] 16).toArray 31)).alloc (.cells (PartB [] 16).toArray 31)).only o6 (by omega)).only o8 (by omega)); have q8 := ((((r8.alloc (.cells (PartB [] 16).toArray 31)).alloc (.cells (PartB [] 16).toArray 31)).only o6 (by omega)).only o8 (by omega)); have k10 := ((((r10.alloc (.cells (PartB [] 16).toArray 31)).alloc (.cells (PartB [] 16).toArray 31)).only o6 (by omega)).only o8 (by omega)); have hcq := k10.cell (j := 0) (v := .bool false) rfl; have hfq := k10.frz 0)
      | ((with_reducible refine wpList_load_blk (o := ⟨some 39, .load 31 (.tmp 12), _, _, _, none⟩) rfl _ _ rfl w5.heap.size 31 (U C.1.1) _ ?_ q12 Tryd.underlying31 rfl (dig_sz HC1.out.1) ?_); rfl)
      | ((with_reducible refine wpList_load_blk (o := ⟨some 40, .load 31 (.tmp 7), _, _, _, none⟩) rfl _ _ rfl w.heap.size 31 (U old) _ ?_ q7 Tryd.underlying31 rfl (dig_sz HL.out) ?_); rfl))
    have l8 : Later w w8 := Below.only (Below.only ((l5.alloc l5.size _).alloc (by have := l5.size; simp; omega) _) o6 (by omega)) o8 (by omega)
    replace t5 := (((t5.later ((Below.refl _ _).alloc (Nat.le_refl _) (.cells (PartB [] 16).toArray 31))).later ((Below.refl _ _).alloc (Nat.le_refl _) (.cells (PartB [] 16).toArray 31))).only o6 (by omega) (by omega)).only o8 (by omega) (by omega)
    refine leaves_cons (f := 47) (args := #[.pointer (some ⟨w.heap.size + 1 + 1 + 1, 0, none⟩), .pointer (some ⟨w.heap.size + 1 + 1, 0, none⟩)]) (by simp) (by simp [go_sem]) ?_
    obtain ⟨A', n', c', hb', hs', hD', _⟩ := t5
    have hn' := hs'.dlen hD'
    have kO := k10.set 0 (.bool false)
    refine (end_any _ _ A' n' c' C.2.short false _ (hb'.set_other _ _ (by show _ ≠ w.heap.size + 1 + 1; omega)) kO).mono ?_
    rintro e u w7 ⟨rfl, rfl, rfl⟩
    have hz : decide (n' = 0) = decide (C.2.rest = []) := by rw [← hn']; simp
    rw [hz]
    exact ⟨_, results_bool Tryd.results30 _ _ _ _ rfl (kO.set 0 _), rfl, Below.only (Below.only l8 (Only.set _ _ _ _) (by omega)) (Only.set _ _ _ _) (by omega)⟩
  | true =>
    go_enter_defers Tryd.func30, Tryd.ntmps30
    go_wp2_with (first
      | ((with_reducible refine wpList_load_blk (o := ⟨some 33, .load 31 (.tmp 7), _, _, _, none⟩) rfl _ _ rfl w.heap.size 31 (U old) _ ?_ g7 Tryd.underlying31 rfl (dig_sz HL.out) ?_); rfl)
      | (go_at_call 53; refine (HC.out _ _ l4 (HTr.out _ _ l4 (by omega) g11) (HTb.out _ l4) (by omega)).mono ?_; rintro e w5 ⟨rfl, x5, t5⟩; have r7 := g7.lx x5 (by omega); have r8 := g8.lx x5 (by omega); have r10 := g10.lx x5 (by omega); have hs5 := r10.lt; have ht5 := t5.lt; have l5 : Later w w5 := Lx.back l4 x5 (by omega))
      | ((with_reducible refine wpList_store_abs (o := ⟨none, .store 31 (.tmp 12) (.tmp 37), _, _, _, none⟩) rfl _ _ _ rfl w5.heap.size 31 (PartB [] 16) (U C.1.1) ?_ ?_ ((Blk.new w5 _ _ _ rfl).alloc _) (dig_sz HC1.out.1) (dig_z HC1.out.1) (U_one _) ?_); rfl; rfl; intro w6 g12 o6; have g13' := (Blk.new' (w5.alloc (.cells (PartB [] 16).toArray 31)) (w5.heap.size + 1) 31 (PartB [] 16).toArray (PartB [] 16) (by simp) rfl).only o6 (by omega))
      | ((with_reducible refine wpList_store_abs (o := ⟨none, .store 31 (.tmp 13) (.tmp 38), _, _, _, none⟩) rfl _ _ _ rfl (w5.heap.size + 1) 31 (PartB [] 16) (U C.1.2) ?_ ?_ g13' (dig_sz HC2.out.1) (dig_z HC2.out.1) (U_one _) ?_); rfl; rfl; intro w8 g13 o8; have q12 := g12.only o8 (by omega); have q7 := ((((r7.alloc (.cells (PartB [] 16).toArray 31)).alloc (.cells (PartB [] 16).toArray 31)).only o6 (by omega)).only o8 (by omega)); have q8 := ((((r8.alloc (.cells (PartB [] 16).toArray 31)).alloc (.cells (PartB [] 16).toArray 31)).only o6 (by omega)).only o8 (by omega)); have k10 := ((((r10.alloc (.cells (PartB [] 16).toArray 31)).alloc (.cells (PartB [] 16).toArray 31)).only o6 (by omega)).only o8 (by omega)); have hcq := k10.cell (j := 0) (v := .bool false) rfl; have hfq := k10.frz 0)
      | ((with_reducible refine wpList_load_blk (o := ⟨some 39, .load 31 (.tmp 12), _, _, _, none⟩) rfl _ _ rfl w5.heap.size 31 (U C.1.1) _ ?_ q12 Tryd.underlying31 rfl (dig_sz HC1.out.1) ?_); rfl)
      | ((with_reducible refine wpList_load_blk (o := ⟨some 40, .load 31 (.tmp 7), _, _, _, none⟩) rfl _ _ rfl w.heap.size 31 (U old) _ ?_ q7 Tryd.underlying31 rfl (dig_sz HL.out) ?_); rfl)
      | ((with_reducible refine wpList_load_g (o := ⟨some 43, .load 31 (.tmp 13), _, _, _, _⟩) _ _ rfl (w5.heap.size + 1) 31 (U C.1.2) _ ?_ ?_ g13 Tryd.underlying31 ?_ (dig_sz HC2.out.1) ?_); rfl; rfl; rfl)
      | ((with_reducible refine wpList_load_g (o := ⟨some 44, .load 31 (.tmp 8), _, _, _, _⟩) _ _ rfl (w.heap.size + 1) 31 (U rt) _ ?_ ?_ q8 Tryd.underlying31 ?_ (dig_sz HRt.out) ?_); rfl; rfl; rfl))
    have l8 : Later w w8 := Below.only (Below.only ((l5.alloc l5.size _).alloc (by have := l5.size; simp; omega) _) o6 (by omega)) o8 (by omega)
    replace t5 := (((t5.later ((Below.refl _ _).alloc (Nat.le_refl _) (.cells (PartB [] 16).toArray 31))).later ((Below.refl _ _).alloc (Nat.le_refl _) (.cells (PartB [] 16).toArray 31))).only o6 (by omega) (by omega)).only o8 (by omega) (by omega)
    refine leaves_cons (f := 47) (args := #[.pointer (some ⟨w.heap.size + 1 + 1 + 1, 0, none⟩), .pointer (some ⟨w.heap.size + 1 + 1, 0, none⟩)]) (by simp) (by simp [go_sem]) ?_
    obtain ⟨A', n', c', hb', hs', hD', _⟩ := t5
    have hn' := hs'.dlen hD'
    have kO := k10.set 0 (.bool b2)
    refine (end_any _ _ A' n' c' C.2.short b2 _ (hb'.set_other _ _ (by show _ ≠ w.heap.size + 1 + 1; omega)) kO).mono ?_
    rintro e u w7 ⟨rfl, rfl, rfl⟩
    have hz : decide (n' = 0) = decide (C.2.rest = []) := by rw [← hn']; simp
    rw [hz]
    exact ⟨_, results_bool Tryd.results30 _ _ _ _ rfl (kO.set 0 _), rfl, Below.only (Below.only l8 (Only.set _ _ _ _) (by omega)) (Only.set _ _ _ _) (by omega)⟩
end Go.Proofs.YtaihfkcoiagdaabDoor
