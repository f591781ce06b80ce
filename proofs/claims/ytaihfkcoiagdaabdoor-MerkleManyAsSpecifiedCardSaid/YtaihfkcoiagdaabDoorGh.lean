/-
  WALKS: what appends to Inclusion's path.
-/
import Derived.Test.YtaihfkcoiagdaabDoorGg
namespace Go.Proofs.YtaihfkcoiagdaabDoor
open Go.RowKit Go.ChangeShapes Go.WideShapes Go.ChangeAt
attribute [local go_sem] run_store_fn

def fvI (Q F : Nat) : Value := .func (.func 32) #[] #[.pointer (some ⟨F, 0, none⟩), .pointer (some ⟨Q, 0, none⟩)]

theorem incl_len (l : List Wm.Bs) : ∀ (N i : Nat), l.length ≤ N → (Mk.incl nodeD emptyD l i).length ≤ l.length - 1 := by
  intro N
  induction N generalizing l with
  | zero => intro i h; rw [Mk.incl_small _ _ _ _ (by omega)]; simp
  | succ N ih =>
    intro i h
    by_cases h2 : 2 ≤ l.length
    · have a1 := Mk.sp_lt h2
      have a0 := Mk.sp_pos l.length
      by_cases hi : i < Mk.sp l.length
      · rw [Mk.incl_left _ _ _ _ h2 hi, List.length_append, List.length_singleton]
        have := ih (l.take (Mk.sp l.length)) i (by rw [List.length_take]; omega)
        rw [List.length_take] at this; omega
      · rw [Mk.incl_right _ _ _ _ h2 hi, List.length_append, List.length_singleton]
        have := ih (l.drop (Mk.sp l.length)) (i - Mk.sp l.length) (by rw [List.length_drop]; omega)
        rw [List.length_drop] at this; omega
    · rw [Mk.incl_small _ _ _ _ (by omega)]; simp

set_option maxRecDepth 100000 in
set_option maxHeartbeats 1000000 in
theorem incl1_any (base : Nat) (N : Nat) : ∀ (A : Option Addr) (n c i Q F : Nat) (l acc : List Wm.Bs) (v : Value) (w : World), n ≤ N → i < n → n ≤ 4611686018427387904 → n ≤ c → c ≤ 9223372036854775807 → Sl w 16 A n (Ds l) → isD l → (∀ ad, A = some ad → ad.block < base) →
    Pth w base Q F 64 (fvI Q F) v acc → Tab w → 0 < base → acc.length + n ≤ 8000000000000 →
    Calls Tryd.prog 32 #[.slice A n c, .int .i64 i, .pointer (some ⟨F, 0, none⟩), .pointer (some ⟨Q, 0, none⟩)] w fun e w' => e = .returned (.tuple #[]) ∧ Below base w w' ∧ ∃ v', Pth w' base Q F 64 (fvI Q F) v' (acc ++ Mk.incl nodeD emptyD l i) := by
  induction N with
  | zero => intro A n c i Q F l acc v w h1 h2; omega
  | succ N ih =>
    intro A n c i Q F l acc v w hN hi hbig hnc hc hs hl hA hP tab hb1 hacc
    have hll := hs.dlen hl
    by_cases hn1 : n = 1
    · subst hn1
      rw [Mk.incl_small _ _ _ _ (by omega), List.append_nil]
      have HP := Lib.hid hP
      clear hP hs hl hll ih tab
      go_enter Tryd.func32, Tryd.ntmps32
      go_wp2_with fail
      exact bodyPost_ret (results_none Tryd.results32 _ _ _) rfl ⟨rfl, Below.refl _ _, v, HP.out⟩
    · have h2 : 2 ≤ n := by omega
      obtain ⟨ad, rfl, _, _⟩ := hs.2 (by omega)
      have hab := hA ad rfl
      have k1 := Mk.sp_lt h2
      have k0 := Mk.sp_pos n
      have hPt := Lib.hid fun w' => parts_any ad n c w' h2 hbig hnc hc
      have hbw : base ≤ w.heap.size := Nat.le_of_lt (Nat.lt_of_le_of_lt hP.leQ hP.blk.lt)
      have HS1 := Lib.hid fun (w' : World) (hw : Below base w w') => Sl.later hs hw (fun a e _ => by cases e; exact hab)
      have HTb := Lib.hid fun (w' : World) (hw : Below base w w') => tab.below hw hb1
      have HP := Lib.hid hP
      have hn1' : ((n : Int) == 1) = false := by rw [beq_eq_false_iff_ne]; omega
      obtain ⟨i0, hI⟩ := dgI
      have HI := Lib.hid hI
      clear hI
      by_cases hlt : i < Mk.sp n
      · rw [Mk.incl_left _ _ _ _ (by omega) (by rw [hll]; exact hlt), hll, ← List.append_assoc]
        have HF := Lib.hid fun (w' : World) (hw : Below base w w') (hp : Pth w' base Q F 64 (fvI Q F) v acc) => ih (some ad) (Mk.sp n) (Mk.sp n) i Q F (l.take (Mk.sp n)) acc v w' (by omega) hlt (by omega) (Nat.le_refl _) (by omega) ((HS1.out w' hw).dfront hl (by omega)) (isD_take hl _) hA hp (HTb.out w' hw) hb1 (by omega)
        have HR := Lib.hid fun (w' : World) (hw : Below base w w') => root_any (n - Mk.sp n) (some (ad.add (Mk.sp n * 16))) (n - Mk.sp n) (n - Mk.sp n) (l.drop (Mk.sp n)) w' (Nat.le_refl _) ((HS1.out w' hw).dcut hl (by omega)) (isD_drop hl _) (by omega) (Nat.le_refl _) (by omega) (HTb.out w' hw)
        have hR := rootD_dig (isD_drop hl (Mk.sp n))
        have hlen := incl_len (l.take (Mk.sp n)) l.length i (by rw [List.length_take]; omega)
        rw [List.length_take, hll] at hlen
        obtain ⟨R, hRe⟩ : ∃ R, R = rootD (l.drop (Mk.sp n)) := ⟨_, rfl⟩
        have hRe' : Mk.root nodeD emptyD (l.drop (Mk.sp n)) = R := hRe.symm
        rw [hRe']
        rw [← hRe] at HR hR
        obtain ⟨J, hJ⟩ : ∃ J, J = Mk.incl nodeD emptyD (l.take (Mk.sp n)) i := ⟨_, rfl⟩
        rw [← hJ] at HF hlen ⊢
        obtain ⟨K, hK⟩ : ∃ K, K = Mk.sp n := ⟨_, rfl⟩
        rw [← hK] at HF HR hlt hPt k1 k0 hlen
        have hA2 : (acc ++ J).length ≤ 8000000000000 - 1 := by rw [List.length_append]; omega
        obtain ⟨ac, hac⟩ : ∃ ac, ac = acc ++ J := ⟨_, rfl⟩
        rw [← hac] at HF hA2 ⊢
        clear hac hK hJ hRe hRe' ih hs hl hll HS1 HTb tab hA
        have hlt' : (i : Int) < (K : Int) := by omega
        have cF := HP.out.fn.cell (j := 0) rfl
        have hCF := Lib.hid fun (w' : World) (hp : Pth w' base Q F 64 (fvI Q F) v acc) => hp.fn.cell (j := 0) rfl
        clear cF hP
        go_enter Tryd.func32, Tryd.ntmps32
        go_wp2_with (first
          | (go_at_call 33; (with_reducible refine (hPt.out _).mono ?_); rintro e w1 ⟨rfl, l1⟩; have cF1 : w1.cell? ⟨F, 0, none⟩ = some (.func (.func 32) #[] #[.pointer (some ⟨F, 0, none⟩), .pointer (some ⟨Q, 0, none⟩)]) := (HP.out.later l1).fn.cell (j := 0) rfl)
          | (go_at_call 32; refine (HF.out _ (l1.mono hbw) (HP.out.later l1)).mono ?_; rintro e w2 ⟨rfl, l2, v2, p2⟩))
        have hb2 : Below base w w2 := (l1.mono hbw).trans l2
        have HR2 := Lib.hid fun (w' : World) (hw : Later w2 w') => HR.out w' (hb2.trans (hw.mono (Nat.le_of_lt (Nat.lt_of_le_of_lt p2.leQ p2.blk.lt))))
        have P2 := Lib.hid p2
        clear l1 l2 p2 HR cF1 hCF HF
        refine wp_region_held_drew (S := fun w' => True) (by kernel_rfl) trivial (fun hHeld => ?_)
        refine wpAnyH_take (i := 1) (oi := ⟨some 25, .move (.tmp 7), _, _, _, none⟩) (v := .slice (some (ad.add (K * 16))) (n - K) (n - K)) rfl (by kernel_rfl) (by kernel_rfl) (by kernel_rfl) (fun _ _ _ h => h) (Or.inl ⟨by rfl, fun _ _ => rfl⟩) hHeld ?_
        simp only [Act.put, List.setIfInBounds_toArray, List.set_cons_zero, List.set_cons_succ]
        refine wpAnyH_ready (rs := [0, 2]) (by kernel_rfl) (by simp) (AllReadyH.cons (o := ⟨some 24, .load 22 (.tmp 3), _, _, _, none⟩) rfl (fun K' hK => ?_) (AllReadyH.cons (o := ⟨some 26, .call { callee := .value (.func 15), args := #[.tmp 25], argTypes := #[22] }, _, _, _, none⟩) rfl (fun K' hK => ?_) (AllReadyH.nil)))
        · have hcL := (Pth.later P2.out (Below.refl _ _).drew).blk.cell (j := 0) (v := v2) rfl
          go_simp
          clear hcL
          refine hK.out _ _ trivial (fun hHeld => ?_)
          clear hK K'
          try simp only [Act.put, List.setIfInBounds_toArray, List.set_cons_zero, List.set_cons_succ]
          refine wpAnyH_ready (rs := [2]) (by kernel_rfl) (by simp) (AllReadyH.cons (o := ⟨some 26, .call { callee := .value (.func 15), args := #[.tmp 25], argTypes := #[22] }, _, _, _, none⟩) rfl (fun K' hK => ?_) (AllReadyH.nil))
          go_simp
          refine (HR2.out _ (Below.refl _ _).drew).mono ?_
          rintro e wc ⟨rfl, lc⟩
          have pc := Pth.later P2.out (Later.trans_ (Below.refl w2.heap.size w2).drew lc)
          refine hK.out _ _ trivial (fun hHeld => ?_)
          clear hK K'
          try simp only [Act.put, List.setIfInBounds_toArray, List.set_cons_zero, List.set_cons_succ]
          refine wpAnyH_ready (rs := [3]) (by kernel_rfl) (by simp) (AllReadyH.cons (o := ⟨some 27, .buildSlice 22 1 #[(0, .tmp 26)], _, _, _, none⟩) rfl (fun K' hK => ?_) (AllReadyH.nil))
          refine wp_build1 _ 31 _ rfl (U R).toArray i0 _ Tryd.underlying22 HI.out.hi HI.out.hz (by rw [HI.out.hs, List.size_toArray, U_length, hR.1]) (by rw [List.size_toArray, U_length, hR.1]; decide) (by rw [List.size_toArray, U_length, hR.1]; decide) rfl ?_
          refine hK.out _ _ trivial (fun hHeld => ?_)
          clear hK K'
          try simp only [Act.put, List.setIfInBounds_toArray, List.set_cons_zero, List.set_cons_succ]
          refine wpAnyH_ready (rs := [4]) (by kernel_rfl) (by simp) (AllReadyH.cons (o := ⟨some 28, .call { callee := .builtin .append, args := #[.tmp 24, .tmp 27], argTypes := #[22, 22] }, _, _, _, none⟩) rfl (fun K' hK => ?_) (AllReadyH.nil))
          refine wp_append_lies _ (.tmp 24) (.tmp 27) 22 rfl base 31 i0 _ 16 16 Tryd.underlying22 HI.out.hi HI.out.hz HI.out.hs HI.out.hb rfl (by decide) v2 ac.length (Ds ac) rfl (pc.own.alloc _) ⟨wc.heap.size, 0, none⟩ 1 1 (U R) rfl (by rw [U_length, hR.1]) (fun j u hu => World.news_of_block (heap_alloc_new wc _) j u (by simpa using hu)) (U_one _) (by decide) (by unfold maxLen; omega) (by omega) (Nat.le_of_lt (Nat.lt_of_le_of_lt pc.leQ (by have := pc.blk.lt; simp; omega))) _ rfl ?_
          intro g cap wa hown hgrow hat hlt
          have pa := Pth.later pc ((Below.refl wc.heap.size wc).alloc (Nat.le_refl _) (.cells (U R).toArray 31))
          refine hK.out _ _ trivial (fun hHeld => ?_)
          clear hK K'
          try simp only [Act.put, List.setIfInBounds_toArray, List.set_cons_zero, List.set_cons_succ]
          refine wpAnyH_ready (rs := [5]) (by kernel_rfl) (by simp) (AllReadyH.cons (o := ⟨none, .store 22 (.tmp 3) (.tmp 28), _, _, _, none⟩) rfl (fun K' hK => ?_) (AllReadyH.nil))
          have hcq := (pa.grown hgrow).1.cell (j := 0) (v := v2) rfl
          have hfq := (pa.grown hgrow).1.frz 0
          go_simp
          clear hcq hfq
          refine hK.out _ _ trivial (fun hHeld => ?_)
          clear hK K'
          try simp only [Act.put]
          refine wpAnyH_done (by kernel_rfl) ?_ _
          clear hHeld
          have w5P := pa.push hgrow hown hat
          have w5B := push_below (u := .slice (some ⟨g, 0, none⟩) (ac.length + 1) cap) pa ((hb2.trans ((Below.refl base w2).drew.trans (lc.mono (Nat.le_of_lt (Nat.lt_of_le_of_lt P2.out.leQ P2.out.blk.lt))))).alloc (Nat.le_of_lt (Nat.lt_of_le_of_lt pc.leQ pc.blk.lt)) (.cells (U R).toArray 31)) hgrow
          clear pa hgrow hown hat pc lc
          go_wp2
          go_end0
          exact ⟨rfl, w5B, _, w5P⟩
        · go_simp
          refine (HR2.out _ (Below.refl _ _).drew).mono ?_
          rintro e wc ⟨rfl, lc⟩
          have pc := Pth.later P2.out (Later.trans_ (Below.refl w2.heap.size w2).drew lc)
          refine hK.out _ _ trivial (fun hHeld => ?_)
          clear hK K'
          try simp only [Act.put, List.setIfInBounds_toArray, List.set_cons_zero, List.set_cons_succ]
          refine wpAnyH_ready (rs := [0, 3]) (by kernel_rfl) (by simp) (AllReadyH.cons (o := ⟨some 24, .load 22 (.tmp 3), _, _, _, none⟩) rfl (fun K' hK => ?_) (AllReadyH.cons (o := ⟨some 27, .buildSlice 22 1 #[(0, .tmp 26)], _, _, _, none⟩) rfl (fun K' hK => ?_) (AllReadyH.nil)))
          · have hcL := (pc).blk.cell (j := 0) (v := v2) rfl
            go_simp
            clear hcL
            refine hK.out _ _ trivial (fun hHeld => ?_)
            clear hK K'
            try simp only [Act.put, List.setIfInBounds_toArray, List.set_cons_zero, List.set_cons_succ]
            refine wpAnyH_ready (rs := [3]) (by kernel_rfl) (by simp) (AllReadyH.cons (o := ⟨some 27, .buildSlice 22 1 #[(0, .tmp 26)], _, _, _, none⟩) rfl (fun K' hK => ?_) (AllReadyH.nil))
            refine wp_build1 _ 31 _ rfl (U R).toArray i0 _ Tryd.underlying22 HI.out.hi HI.out.hz (by rw [HI.out.hs, List.size_toArray, U_length, hR.1]) (by rw [List.size_toArray, U_length, hR.1]; decide) (by rw [List.size_toArray, U_length, hR.1]; decide) rfl ?_
            refine hK.out _ _ trivial (fun hHeld => ?_)
            clear hK K'
            try simp only [Act.put, List.setIfInBounds_toArray, List.set_cons_zero, List.set_cons_succ]
            refine wpAnyH_ready (rs := [4]) (by kernel_rfl) (by simp) (AllReadyH.cons (o := ⟨some 28, .call { callee := .builtin .append, args := #[.tmp 24, .tmp 27], argTypes := #[22, 22] }, _, _, _, none⟩) rfl (fun K' hK => ?_) (AllReadyH.nil))
            refine wp_append_lies _ (.tmp 24) (.tmp 27) 22 rfl base 31 i0 _ 16 16 Tryd.underlying22 HI.out.hi HI.out.hz HI.out.hs HI.out.hb rfl (by decide) v2 ac.length (Ds ac) rfl (pc.own.alloc _) ⟨wc.heap.size, 0, none⟩ 1 1 (U R) rfl (by rw [U_length, hR.1]) (fun j u hu => World.news_of_block (heap_alloc_new wc _) j u (by simpa using hu)) (U_one _) (by decide) (by unfold maxLen; omega) (by omega) (Nat.le_of_lt (Nat.lt_of_le_of_lt pc.leQ (by have := pc.blk.lt; simp; omega))) _ rfl ?_
            intro g cap wa hown hgrow hat hlt
            have pa := Pth.later pc ((Below.refl wc.heap.size wc).alloc (Nat.le_refl _) (.cells (U R).toArray 31))
            refine hK.out _ _ trivial (fun hHeld => ?_)
            clear hK K'
            try simp only [Act.put, List.setIfInBounds_toArray, List.set_cons_zero, List.set_cons_succ]
            refine wpAnyH_ready (rs := [5]) (by kernel_rfl) (by simp) (AllReadyH.cons (o := ⟨none, .store 22 (.tmp 3) (.tmp 28), _, _, _, none⟩) rfl (fun K' hK => ?_) (AllReadyH.nil))
            have hcq := (pa.grown hgrow).1.cell (j := 0) (v := v2) rfl
            have hfq := (pa.grown hgrow).1.frz 0
            go_simp
            clear hcq hfq
            refine hK.out _ _ trivial (fun hHeld => ?_)
            clear hK K'
            try simp only [Act.put]
            refine wpAnyH_done (by kernel_rfl) ?_ _
            clear hHeld
            have w5P := pa.push hgrow hown hat
            have w5B := push_below (u := .slice (some ⟨g, 0, none⟩) (ac.length + 1) cap) pa ((hb2.trans ((Below.refl base w2).drew.trans (lc.mono (Nat.le_of_lt (Nat.lt_of_le_of_lt P2.out.leQ P2.out.blk.lt))))).alloc (Nat.le_of_lt (Nat.lt_of_le_of_lt pc.leQ pc.blk.lt)) (.cells (U R).toArray 31)) hgrow
            clear pa hgrow hown hat pc lc
            go_wp2
            go_end0
            exact ⟨rfl, w5B, _, w5P⟩
          · refine wp_build1 _ 31 _ rfl (U R).toArray i0 _ Tryd.underlying22 HI.out.hi HI.out.hz (by rw [HI.out.hs, List.size_toArray, U_length, hR.1]) (by rw [List.size_toArray, U_length, hR.1]; decide) (by rw [List.size_toArray, U_length, hR.1]; decide) rfl ?_
            refine hK.out _ _ trivial (fun hHeld => ?_)
            clear hK K'
            try simp only [Act.put, List.setIfInBounds_toArray, List.set_cons_zero, List.set_cons_succ]
            refine wpAnyH_ready (rs := [0]) (by kernel_rfl) (by simp) (AllReadyH.cons (o := ⟨some 24, .load 22 (.tmp 3), _, _, _, none⟩) rfl (fun K' hK => ?_) (AllReadyH.nil))
            have hcL := (Pth.later pc ((Below.refl wc.heap.size wc).alloc (Nat.le_refl _) (.cells (U R).toArray 31))).blk.cell (j := 0) (v := v2) rfl
            go_simp
            clear hcL
            refine hK.out _ _ trivial (fun hHeld => ?_)
            clear hK K'
            try simp only [Act.put, List.setIfInBounds_toArray, List.set_cons_zero, List.set_cons_succ]
            refine wpAnyH_ready (rs := [4]) (by kernel_rfl) (by simp) (AllReadyH.cons (o := ⟨some 28, .call { callee := .builtin .append, args := #[.tmp 24, .tmp 27], argTypes := #[22, 22] }, _, _, _, none⟩) rfl (fun K' hK => ?_) (AllReadyH.nil))
            refine wp_append_lies _ (.tmp 24) (.tmp 27) 22 rfl base 31 i0 _ 16 16 Tryd.underlying22 HI.out.hi HI.out.hz HI.out.hs HI.out.hb rfl (by decide) v2 ac.length (Ds ac) rfl (pc.own.alloc _) ⟨wc.heap.size, 0, none⟩ 1 1 (U R) rfl (by rw [U_length, hR.1]) (fun j u hu => World.news_of_block (heap_alloc_new wc _) j u (by simpa using hu)) (U_one _) (by decide) (by unfold maxLen; omega) (by omega) (Nat.le_of_lt (Nat.lt_of_le_of_lt pc.leQ (by have := pc.blk.lt; simp; omega))) _ rfl ?_
            intro g cap wa hown hgrow hat hlt
            have pa := Pth.later pc ((Below.refl wc.heap.size wc).alloc (Nat.le_refl _) (.cells (U R).toArray 31))
            refine hK.out _ _ trivial (fun hHeld => ?_)
            clear hK K'
            try simp only [Act.put, List.setIfInBounds_toArray, List.set_cons_zero, List.set_cons_succ]
            refine wpAnyH_ready (rs := [5]) (by kernel_rfl) (by simp) (AllReadyH.cons (o := ⟨none, .store 22 (.tmp 3) (.tmp 28), _, _, _, none⟩) rfl (fun K' hK => ?_) (AllReadyH.nil))
            have hcq := (pa.grown hgrow).1.cell (j := 0) (v := v2) rfl
            have hfq := (pa.grown hgrow).1.frz 0
            go_simp
            clear hcq hfq
            refine hK.out _ _ trivial (fun hHeld => ?_)
            clear hK K'
            try simp only [Act.put]
            refine wpAnyH_done (by kernel_rfl) ?_ _
            clear hHeld
            have w5P := pa.push hgrow hown hat
            have w5B := push_below (u := .slice (some ⟨g, 0, none⟩) (ac.length + 1) cap) pa ((hb2.trans ((Below.refl base w2).drew.trans (lc.mono (Nat.le_of_lt (Nat.lt_of_le_of_lt P2.out.leQ P2.out.blk.lt))))).alloc (Nat.le_of_lt (Nat.lt_of_le_of_lt pc.leQ pc.blk.lt)) (.cells (U R).toArray 31)) hgrow
            clear pa hgrow hown hat pc lc
            go_wp2
            go_end0
            exact ⟨rfl, w5B, _, w5P⟩
      · rw [Mk.incl_right _ _ _ _ (by omega) (by rw [hll]; exact hlt), hll, ← List.append_assoc]
        have HF := Lib.hid fun (w' : World) (hw : Below base w w') (hp : Pth w' base Q F 64 (fvI Q F) v acc) => ih (some (ad.add (Mk.sp n * 16))) (n - Mk.sp n) (n - Mk.sp n) (i - Mk.sp n) Q F (l.drop (Mk.sp n)) acc v w' (by omega) (by omega) (by omega) (Nat.le_refl _) (by omega) ((HS1.out w' hw).dcut hl (by omega)) (isD_drop hl _) (fun a e => by cases e; rw [addr_add_block]; exact hab) hp (HTb.out w' hw) hb1 (by omega)
        have HR := Lib.hid fun (w' : World) (hw : Below base w w') => root_any (Mk.sp n) (some ad) (Mk.sp n) (Mk.sp n) (l.take (Mk.sp n)) w' (Nat.le_refl _) ((HS1.out w' hw).dfront hl (by omega)) (isD_take hl _) (by omega) (Nat.le_refl _) (by omega) (HTb.out w' hw)
        have hR := rootD_dig (isD_take hl (Mk.sp n))
        have hlen := incl_len (l.drop (Mk.sp n)) l.length (i - Mk.sp n) (by rw [List.length_drop]; omega)
        rw [List.length_drop, hll] at hlen
        obtain ⟨R, hRe⟩ : ∃ R, R = rootD (l.take (Mk.sp n)) := ⟨_, rfl⟩
        have hRe' : Mk.root nodeD emptyD (l.take (Mk.sp n)) = R := hRe.symm
        rw [hRe']
        rw [← hRe] at HR hR
        obtain ⟨J, hJ⟩ : ∃ J, J = Mk.incl nodeD emptyD (l.drop (Mk.sp n)) (i - Mk.sp n) := ⟨_, rfl⟩
        rw [← hJ] at HF hlen ⊢
        obtain ⟨K, hK⟩ : ∃ K, K = Mk.sp n := ⟨_, rfl⟩
        rw [← hK] at HF HR hlt hPt k1 k0 hlen
        have hA2 : (acc ++ J).length ≤ 8000000000000 - 1 := by rw [List.length_append]; omega
        obtain ⟨ac, hac⟩ : ∃ ac, ac = acc ++ J := ⟨_, rfl⟩
        rw [← hac] at HF hA2 ⊢
        clear hac hK hJ hRe hRe' ih hs hl hll HS1 HTb tab hA
        have hlt' : ¬ ((i : Int) < (K : Int)) := by omega
        have b0 : (K : Int) ≤ (i : Int) := by omega
        have b1 : (i : Int) - (K : Int) ≤ 4611686018427387904 := by omega
        have b2 : (0 : Int) ≤ (i : Int) - (K : Int) := by omega
        rw [show ((i - K : Nat) : Int) = (i : Int) - (K : Int) by omega] at HF
        have cF := HP.out.fn.cell (j := 0) rfl
        have hCF := Lib.hid fun (w' : World) (hp : Pth w' base Q F 64 (fvI Q F) v acc) => hp.fn.cell (j := 0) rfl
        clear cF hP
        go_enter Tryd.func32, Tryd.ntmps32
        go_wp2_with (first
          | (go_at_call 33; (with_reducible refine (hPt.out _).mono ?_); rintro e w1 ⟨rfl, l1⟩; have cF1 : w1.cell? ⟨F, 0, none⟩ = some (.func (.func 32) #[] #[.pointer (some ⟨F, 0, none⟩), .pointer (some ⟨Q, 0, none⟩)]) := (HP.out.later l1).fn.cell (j := 0) rfl)
          | (go_at_call 32; refine (HF.out _ (l1.mono hbw) (HP.out.later l1)).mono ?_; rintro e w2 ⟨rfl, l2, v2, p2⟩))
        have hb2 : Below base w w2 := (l1.mono hbw).trans l2
        have HR2 := Lib.hid fun (w' : World) (hw : Later w2 w') => HR.out w' (hb2.trans (hw.mono (Nat.le_of_lt (Nat.lt_of_le_of_lt p2.leQ p2.blk.lt))))
        have P2 := Lib.hid p2
        clear l1 l2 p2 HR cF1 hCF HF
        refine wp_region_held_drew (S := fun w' => True) (by kernel_rfl) trivial (fun hHeld => ?_)
        refine wpAnyH_take (i := 1) (oi := ⟨some 37, .move (.tmp 6), _, _, _, none⟩) (v := .slice (some ad) K K) rfl (by kernel_rfl) (by kernel_rfl) (by kernel_rfl) (fun _ _ _ h => h) (Or.inl ⟨by rfl, fun _ _ => rfl⟩) hHeld ?_
        simp only [Act.put, List.setIfInBounds_toArray, List.set_cons_zero, List.set_cons_succ]
        refine wpAnyH_ready (rs := [0, 2]) (by kernel_rfl) (by simp) (AllReadyH.cons (o := ⟨some 36, .load 22 (.tmp 3), _, _, _, none⟩) rfl (fun K' hK => ?_) (AllReadyH.cons (o := ⟨some 38, .call { callee := .value (.func 15), args := #[.tmp 37], argTypes := #[22] }, _, _, _, none⟩) rfl (fun K' hK => ?_) (AllReadyH.nil)))
        · have hcL := (Pth.later P2.out (Below.refl _ _).drew).blk.cell (j := 0) (v := v2) rfl
          go_simp
          clear hcL
          refine hK.out _ _ trivial (fun hHeld => ?_)
          clear hK K'
          try simp only [Act.put, List.setIfInBounds_toArray, List.set_cons_zero, List.set_cons_succ]
          refine wpAnyH_ready (rs := [2]) (by kernel_rfl) (by simp) (AllReadyH.cons (o := ⟨some 38, .call { callee := .value (.func 15), args := #[.tmp 37], argTypes := #[22] }, _, _, _, none⟩) rfl (fun K' hK => ?_) (AllReadyH.nil))
          go_simp
          refine (HR2.out _ (Below.refl _ _).drew).mono ?_
          rintro e wc ⟨rfl, lc⟩
          have pc := Pth.later P2.out (Later.trans_ (Below.refl w2.heap.size w2).drew lc)
          refine hK.out _ _ trivial (fun hHeld => ?_)
          clear hK K'
          try simp only [Act.put, List.setIfInBounds_toArray, List.set_cons_zero, List.set_cons_succ]
          refine wpAnyH_ready (rs := [3]) (by kernel_rfl) (by simp) (AllReadyH.cons (o := ⟨some 39, .buildSlice 22 1 #[(0, .tmp 38)], _, _, _, none⟩) rfl (fun K' hK => ?_) (AllReadyH.nil))
          refine wp_build1 _ 31 _ rfl (U R).toArray i0 _ Tryd.underlying22 HI.out.hi HI.out.hz (by rw [HI.out.hs, List.size_toArray, U_length, hR.1]) (by rw [List.size_toArray, U_length, hR.1]; decide) (by rw [List.size_toArray, U_length, hR.1]; decide) rfl ?_
          refine hK.out _ _ trivial (fun hHeld => ?_)
          clear hK K'
          try simp only [Act.put, List.setIfInBounds_toArray, List.set_cons_zero, List.set_cons_succ]
          refine wpAnyH_ready (rs := [4]) (by kernel_rfl) (by simp) (AllReadyH.cons (o := ⟨some 40, .call { callee := .builtin .append, args := #[.tmp 36, .tmp 39], argTypes := #[22, 22] }, _, _, _, none⟩) rfl (fun K' hK => ?_) (AllReadyH.nil))
          refine wp_append_lies _ (.tmp 36) (.tmp 39) 22 rfl base 31 i0 _ 16 16 Tryd.underlying22 HI.out.hi HI.out.hz HI.out.hs HI.out.hb rfl (by decide) v2 ac.length (Ds ac) rfl (pc.own.alloc _) ⟨wc.heap.size, 0, none⟩ 1 1 (U R) rfl (by rw [U_length, hR.1]) (fun j u hu => World.news_of_block (heap_alloc_new wc _) j u (by simpa using hu)) (U_one _) (by decide) (by unfold maxLen; omega) (by omega) (Nat.le_of_lt (Nat.lt_of_le_of_lt pc.leQ (by have := pc.blk.lt; simp; omega))) _ rfl ?_
          intro g cap wa hown hgrow hat hlt
          have pa := Pth.later pc ((Below.refl wc.heap.size wc).alloc (Nat.le_refl _) (.cells (U R).toArray 31))
          refine hK.out _ _ trivial (fun hHeld => ?_)
          clear hK K'
          try simp only [Act.put, List.setIfInBounds_toArray, List.set_cons_zero, List.set_cons_succ]
          refine wpAnyH_ready (rs := [5]) (by kernel_rfl) (by simp) (AllReadyH.cons (o := ⟨none, .store 22 (.tmp 3) (.tmp 40), _, _, _, none⟩) rfl (fun K' hK => ?_) (AllReadyH.nil))
          have hcq := (pa.grown hgrow).1.cell (j := 0) (v := v2) rfl
          have hfq := (pa.grown hgrow).1.frz 0
          go_simp
          clear hcq hfq
          refine hK.out _ _ trivial (fun hHeld => ?_)
          clear hK K'
          try simp only [Act.put]
          refine wpAnyH_done (by kernel_rfl) ?_ _
          clear hHeld
          have w5P := pa.push hgrow hown hat
          have w5B := push_below (u := .slice (some ⟨g, 0, none⟩) (ac.length + 1) cap) pa ((hb2.trans ((Below.refl base w2).drew.trans (lc.mono (Nat.le_of_lt (Nat.lt_of_le_of_lt P2.out.leQ P2.out.blk.lt))))).alloc (Nat.le_of_lt (Nat.lt_of_le_of_lt pc.leQ pc.blk.lt)) (.cells (U R).toArray 31)) hgrow
          clear pa hgrow hown hat pc lc
          go_wp2
          go_end0
          exact ⟨rfl, w5B, _, w5P⟩
        · go_simp
          refine (HR2.out _ (Below.refl _ _).drew).mono ?_
          rintro e wc ⟨rfl, lc⟩
          have pc := Pth.later P2.out (Later.trans_ (Below.refl w2.heap.size w2).drew lc)
          refine hK.out _ _ trivial (fun hHeld => ?_)
          clear hK K'
          try simp only [Act.put, List.setIfInBounds_toArray, List.set_cons_zero, List.set_cons_succ]
          refine wpAnyH_ready (rs := [0, 3]) (by kernel_rfl) (by simp) (AllReadyH.cons (o := ⟨some 36, .load 22 (.tmp 3), _, _, _, none⟩) rfl (fun K' hK => ?_) (AllReadyH.cons (o := ⟨some 39, .buildSlice 22 1 #[(0, .tmp 38)], _, _, _, none⟩) rfl (fun K' hK => ?_) (AllReadyH.nil)))
          · have hcL := (pc).blk.cell (j := 0) (v := v2) rfl
            go_simp
            clear hcL
            refine hK.out _ _ trivial (fun hHeld => ?_)
            clear hK K'
            try simp only [Act.put, List.setIfInBounds_toArray, List.set_cons_zero, List.set_cons_succ]
            refine wpAnyH_ready (rs := [3]) (by kernel_rfl) (by simp) (AllReadyH.cons (o := ⟨some 39, .buildSlice 22 1 #[(0, .tmp 38)], _, _, _, none⟩) rfl (fun K' hK => ?_) (AllReadyH.nil))
            refine wp_build1 _ 31 _ rfl (U R).toArray i0 _ Tryd.underlying22 HI.out.hi HI.out.hz (by rw [HI.out.hs, List.size_toArray, U_length, hR.1]) (by rw [List.size_toArray, U_length, hR.1]; decide) (by rw [List.size_toArray, U_length, hR.1]; decide) rfl ?_
            refine hK.out _ _ trivial (fun hHeld => ?_)
            clear hK K'
            try simp only [Act.put, List.setIfInBounds_toArray, List.set_cons_zero, List.set_cons_succ]
            refine wpAnyH_ready (rs := [4]) (by kernel_rfl) (by simp) (AllReadyH.cons (o := ⟨some 40, .call { callee := .builtin .append, args := #[.tmp 36, .tmp 39], argTypes := #[22, 22] }, _, _, _, none⟩) rfl (fun K' hK => ?_) (AllReadyH.nil))
            refine wp_append_lies _ (.tmp 36) (.tmp 39) 22 rfl base 31 i0 _ 16 16 Tryd.underlying22 HI.out.hi HI.out.hz HI.out.hs HI.out.hb rfl (by decide) v2 ac.length (Ds ac) rfl (pc.own.alloc _) ⟨wc.heap.size, 0, none⟩ 1 1 (U R) rfl (by rw [U_length, hR.1]) (fun j u hu => World.news_of_block (heap_alloc_new wc _) j u (by simpa using hu)) (U_one _) (by decide) (by unfold maxLen; omega) (by omega) (Nat.le_of_lt (Nat.lt_of_le_of_lt pc.leQ (by have := pc.blk.lt; simp; omega))) _ rfl ?_
            intro g cap wa hown hgrow hat hlt
            have pa := Pth.later pc ((Below.refl wc.heap.size wc).alloc (Nat.le_refl _) (.cells (U R).toArray 31))
            refine hK.out _ _ trivial (fun hHeld => ?_)
            clear hK K'
            try simp only [Act.put, List.setIfInBounds_toArray, List.set_cons_zero, List.set_cons_succ]
            refine wpAnyH_ready (rs := [5]) (by kernel_rfl) (by simp) (AllReadyH.cons (o := ⟨none, .store 22 (.tmp 3) (.tmp 40), _, _, _, none⟩) rfl (fun K' hK => ?_) (AllReadyH.nil))
            have hcq := (pa.grown hgrow).1.cell (j := 0) (v := v2) rfl
            have hfq := (pa.grown hgrow).1.frz 0
            go_simp
            clear hcq hfq
            refine hK.out _ _ trivial (fun hHeld => ?_)
            clear hK K'
            try simp only [Act.put]
            refine wpAnyH_done (by kernel_rfl) ?_ _
            clear hHeld
            have w5P := pa.push hgrow hown hat
            have w5B := push_below (u := .slice (some ⟨g, 0, none⟩) (ac.length + 1) cap) pa ((hb2.trans ((Below.refl base w2).drew.trans (lc.mono (Nat.le_of_lt (Nat.lt_of_le_of_lt P2.out.leQ P2.out.blk.lt))))).alloc (Nat.le_of_lt (Nat.lt_of_le_of_lt pc.leQ pc.blk.lt)) (.cells (U R).toArray 31)) hgrow
            clear pa hgrow hown hat pc lc
            go_wp2
            go_end0
            exact ⟨rfl, w5B, _, w5P⟩
          · refine wp_build1 _ 31 _ rfl (U R).toArray i0 _ Tryd.underlying22 HI.out.hi HI.out.hz (by rw [HI.out.hs, List.size_toArray, U_length, hR.1]) (by rw [List.size_toArray, U_length, hR.1]; decide) (by rw [List.size_toArray, U_length, hR.1]; decide) rfl ?_
            refine hK.out _ _ trivial (fun hHeld => ?_)
            clear hK K'
            try simp only [Act.put, List.setIfInBounds_toArray, List.set_cons_zero, List.set_cons_succ]
            refine wpAnyH_ready (rs := [0]) (by kernel_rfl) (by simp) (AllReadyH.cons (o := ⟨some 36, .load 22 (.tmp 3), _, _, _, none⟩) rfl (fun K' hK => ?_) (AllReadyH.nil))
            have hcL := (Pth.later pc ((Below.refl wc.heap.size wc).alloc (Nat.le_refl _) (.cells (U R).toArray 31))).blk.cell (j := 0) (v := v2) rfl
            go_simp
            clear hcL
            refine hK.out _ _ trivial (fun hHeld => ?_)
            clear hK K'
            try simp only [Act.put, List.setIfInBounds_toArray, List.set_cons_zero, List.set_cons_succ]
            refine wpAnyH_ready (rs := [4]) (by kernel_rfl) (by simp) (AllReadyH.cons (o := ⟨some 40, .call { callee := .builtin .append, args := #[.tmp 36, .tmp 39], argTypes := #[22, 22] }, _, _, _, none⟩) rfl (fun K' hK => ?_) (AllReadyH.nil))
            refine wp_append_lies _ (.tmp 36) (.tmp 39) 22 rfl base 31 i0 _ 16 16 Tryd.underlying22 HI.out.hi HI.out.hz HI.out.hs HI.out.hb rfl (by decide) v2 ac.length (Ds ac) rfl (pc.own.alloc _) ⟨wc.heap.size, 0, none⟩ 1 1 (U R) rfl (by rw [U_length, hR.1]) (fun j u hu => World.news_of_block (heap_alloc_new wc _) j u (by simpa using hu)) (U_one _) (by decide) (by unfold maxLen; omega) (by omega) (Nat.le_of_lt (Nat.lt_of_le_of_lt pc.leQ (by have := pc.blk.lt; simp; omega))) _ rfl ?_
            intro g cap wa hown hgrow hat hlt
            have pa := Pth.later pc ((Below.refl wc.heap.size wc).alloc (Nat.le_refl _) (.cells (U R).toArray 31))
            refine hK.out _ _ trivial (fun hHeld => ?_)
            clear hK K'
            try simp only [Act.put, List.setIfInBounds_toArray, List.set_cons_zero, List.set_cons_succ]
            refine wpAnyH_ready (rs := [5]) (by kernel_rfl) (by simp) (AllReadyH.cons (o := ⟨none, .store 22 (.tmp 3) (.tmp 40), _, _, _, none⟩) rfl (fun K' hK => ?_) (AllReadyH.nil))
            have hcq := (pa.grown hgrow).1.cell (j := 0) (v := v2) rfl
            have hfq := (pa.grown hgrow).1.frz 0
            go_simp
            clear hcq hfq
            refine hK.out _ _ trivial (fun hHeld => ?_)
            clear hK K'
            try simp only [Act.put]
            refine wpAnyH_done (by kernel_rfl) ?_ _
            clear hHeld
            have w5P := pa.push hgrow hown hat
            have w5B := push_below (u := .slice (some ⟨g, 0, none⟩) (ac.length + 1) cap) pa ((hb2.trans ((Below.refl base w2).drew.trans (lc.mono (Nat.le_of_lt (Nat.lt_of_le_of_lt P2.out.leQ P2.out.blk.lt))))).alloc (Nat.le_of_lt (Nat.lt_of_le_of_lt pc.leQ pc.blk.lt)) (.cells (U R).toArray 31)) hgrow
            clear pa hgrow hown hat pc lc
            go_wp2
            go_end0
            exact ⟨rfl, w5B, _, w5P⟩
end Go.Proofs.YtaihfkcoiagdaabDoor

/-
  WALKS: Inclusion.
-/
namespace Go.Proofs.YtaihfkcoiagdaabDoor
open Go.RowKit Go.ChangeShapes Go.WideShapes Go.ChangeAt
attribute [local go_sem] run_store_fn

/-- A list of digests made anew. -/
def GotPath (l : List Wm.Bs) (w : World) (e : Ending) (w' : World) : Prop :=
  ∃ A c, e = .returned (.tuple #[.slice A l.length c, .int .i64 0]) ∧ l.length ≤ c ∧ c ≤ 9223372036854775807 ∧ Sl w' 16 A l.length (Ds l) ∧ isD l ∧ Later w w'
theorem path0 (w : World) (tf : TypeId) (fv : Value) : Pth (((w.alloc (.cells #[] 31)).alloc (.cells #[.slice (some ⟨w.heap.size, 0, none⟩) 0 0] 22)).alloc (.cells #[fv] tf)) w.heap.size (w.heap.size + 1) (w.heap.size + 1 + 1) tf fv (.slice (some ⟨w.heap.size, 0, none⟩) 0 0) [] := by
  refine ⟨(Blk.new' _ _ _ _ _ (by simp) rfl).alloc _, ?_, Blk.new' _ _ _ _ _ (by simp) rfl, by omega, by omega, by omega, fun g hg => ?_⟩
  · refine ⟨rfl, .inr ⟨w.heap.size, 0, #[], rfl, Nat.le_refl _, ?_, Nat.le_refl _, Nat.zero_le _, rfl, rfl⟩⟩
    exact ((Blk.new w 31 #[] [] rfl).alloc _).alloc _
  · have : g = w.heap.size := by simpa [Value.ownBlock] using hg.symm
    omega
theorem root_isD {l : List Wm.Bs} (h : isD l) : (Mk.root nodeD emptyD l).length = 16 ∧ Wm.isBs (Mk.root nodeD emptyD l) := rootD_dig h
theorem incl_isD (N : Nat) : ∀ (l : List Wm.Bs) (i : Nat), l.length ≤ N → isD l → isD (Mk.incl nodeD emptyD l i) := by
  induction N with
  | zero => intro l i h _; rw [Mk.incl_small _ _ _ _ (by omega)]; exact fun x hx => by cases hx
  | succ N ih =>
    intro l i h hl
    by_cases h2 : 2 ≤ l.length
    · have a1 := Mk.sp_lt h2
      have a0 := Mk.sp_pos l.length
      by_cases hi : i < Mk.sp l.length
      · rw [Mk.incl_left _ _ _ _ h2 hi]
        exact isD_snoc (ih _ _ (by rw [List.length_take]; omega) (isD_take hl _)) (root_isD (isD_drop hl _))
      · rw [Mk.incl_right _ _ _ _ h2 hi]
        exact isD_snoc (ih _ _ (by rw [List.length_drop]; omega) (isD_drop hl _)) (root_isD (isD_take hl _))
    · rw [Mk.incl_small _ _ _ _ (by omega)]; exact fun x hx => by cases hx

set_option maxRecDepth 100000 in
set_option maxHeartbeats 1000000 in
theorem inclusion_bad (A : Option Addr) (n c : Nat) (i : Int) (w : World) (h1 : i < 0 ∨ (n : Int) ≤ i) :
    Calls Tryd.prog 10 #[.slice A n c, .int .i64 i] w fun e w' => e = .returned (.tuple #[.slice none 0 0, .int .i64 1]) ∧ w' = w := by
  by_cases h0 : i < 0
  · go_enter Tryd.func10, Tryd.ntmps10
    go_wp2_with fail
    go_ret2
    exact ⟨rfl, rfl⟩
  · have k0 : 0 ≤ i := by omega
    have k1 : (n : Int) ≤ i := by omega
    go_enter Tryd.func10, Tryd.ntmps10
    go_wp2_with fail
    go_ret2
    exact ⟨rfl, rfl⟩

set_option maxRecDepth 100000 in
set_option maxHeartbeats 1000000 in
theorem inclusion_any (A : Option Addr) (n c i : Nat) (l : List Wm.Bs) (w : World) (h1 : i < n) (hbig : n ≤ 4000000000000) (hnc : n ≤ c) (hc : c ≤ 9223372036854775807) (hs : Sl w 16 A n (Ds l)) (hl : isD l) (tab : Tab w) :
    Calls Tryd.prog 10 #[.slice A n c, .int .i64 i] w fun e w' => GotPath (Mk.incl nodeD emptyD l i) w e w' := by
  have k0 : (0 : Int) ≤ (i : Int) := by omega
  have k1 : (i : Int) < (n : Int) := by omega
  have b7 : Blk (((w.alloc (.cells #[] 31)).alloc (.cells #[.slice (some ⟨w.heap.size, 0, none⟩) 0 0] 22)).alloc (.cells #[.nilFunc] 64)) (w.heap.size + 1 + 1) 64 [.nilFunc] := Blk.new' _ _ _ _ _ (by simp) rfl
  have c7 := b7.cell (j := 0) (v := .nilFunc) rfl
  have f7 := b7.frz 0
  have hi := incl_isD _ l i (Nat.le_refl _) hl
  have HI := Lib.hid fun (w' : World) (hw : Later w w') (hp : Pth w' w.heap.size (w.heap.size + 1) (w.heap.size + 1 + 1) 64 (fvI (w.heap.size + 1) (w.heap.size + 1 + 1)) (.slice (some ⟨w.heap.size, 0, none⟩) 0 0) []) =>
    incl1_any w.heap.size n A n c i (w.heap.size + 1) (w.heap.size + 1 + 1) l [] _ w' (Nat.le_refl _) h1 (by omega) hnc hc (hs.keep hw) hl (fun ad e => by obtain ⟨a, e', hb, _⟩ := hs.2 (by omega); rw [e] at e'; cases e'; exact hb) hp (tab.keep hw) tab.lt (by simp; omega)
  obtain ⟨J, hJ⟩ : ∃ J, J = Mk.incl nodeD emptyD l i := ⟨_, rfl⟩
  rw [← hJ] at HI hi ⊢
  clear hJ hs hl tab b7
  go_enter Tryd.func10, Tryd.ntmps10
  go_wp2_with (first
    | (go_at_call 32; refine (HI.out _ ((((Below.refl _ _).alloc (Nat.le_refl _) _).alloc (by simp) _).alloc (by simp; omega) _) (path0 w _ _)).mono ?_; rintro e w4 ⟨rfl, l4, v4, p4⟩; rw [List.nil_append] at p4; have c4 := p4.blk.cell (j := 0) (v := v4) rfl))
  have l4' : Later w w4 := Below.trans ((((Below.refl _ _).alloc (Nat.le_refl _) _).alloc (by simp) _).alloc (by simp; omega) _) l4
  obtain ⟨A2, c2, rfl, q1, q2, q3, _⟩ := own_form p4.own
  go_ret2
  exact ⟨A2, c2, rfl, q1, q2, q3, hi, l4'⟩
end Go.Proofs.YtaihfkcoiagdaabDoor

/-
  WALKS: what appends to Consistency's path.
-/
namespace Go.Proofs.YtaihfkcoiagdaabDoor
open Go.RowKit Go.ChangeShapes Go.WideShapes Go.ChangeAt
attribute [local go_sem] run_store_fn

def fvC (Q F : Nat) : Value := .func (.func 34) #[] #[.pointer (some ⟨Q, 0, none⟩), .pointer (some ⟨F, 0, none⟩)]

theorem cons_none (l : List Wm.Bs) (m : Nat) (b : Bool) (h : m ≠ l.length) (h2 : ¬ 2 ≤ l.length) : Mk.cons nodeD emptyD l m b = [] := by rw [Mk.cons, if_neg h, dif_neg h2]
theorem cons_len (l : List Wm.Bs) : ∀ (N m : Nat) (b : Bool), l.length ≤ N → 1 ≤ m → m ≤ l.length → (Mk.cons nodeD emptyD l m b).length ≤ l.length := by
  intro N
  induction N generalizing l with
  | zero => intro m b h h1 h2; omega
  | succ N ih =>
    intro m b h h1 hm
    by_cases he : m = l.length
    · subst he; rw [Mk.cons_all]; cases b <;> simp; omega
    · have h2 : 2 ≤ l.length := by omega
      have a1 := Mk.sp_lt h2
      have a0 := Mk.sp_pos l.length
      by_cases hi : m ≤ Mk.sp l.length
      · rw [Mk.cons_left _ _ _ _ _ h2 he hi, List.length_append, List.length_singleton]
        have := ih (l.take (Mk.sp l.length)) m b (by rw [List.length_take]; omega) h1 (by rw [List.length_take]; omega)
        rw [List.length_take] at this; omega
      · rw [Mk.cons_right _ _ _ _ _ h2 he hi, List.length_append, List.length_singleton]
        have := ih (l.drop (Mk.sp l.length)) (m - Mk.sp l.length) false (by rw [List.length_drop]; omega) (by omega) (by rw [List.length_drop]; omega)
        rw [List.length_drop] at this; omega
theorem cons_isD (N : Nat) : ∀ (l : List Wm.Bs) (m : Nat) (b : Bool), l.length ≤ N → isD l → isD (Mk.cons nodeD emptyD l m b) := by
  have none : isD ([] : List Wm.Bs) := fun x hx => by cases hx
  have one : ∀ l : List Wm.Bs, isD l → isD [Mk.root nodeD emptyD l] := fun l hl x hx => by
    obtain rfl : x = Mk.root nodeD emptyD l := by simpa using hx
    exact root_isD hl
  induction N with
  | zero =>
    intro l m b h hl
    by_cases he : m = l.length
    · subst he; rw [Mk.cons_all]; cases b
      · exact one l hl
      · exact none
    · rw [cons_none _ _ _ he (by omega)]; exact none
  | succ N ih =>
    intro l m b h hl
    by_cases he : m = l.length
    · subst he; rw [Mk.cons_all]; cases b
      · exact one l hl
      · exact none
    · by_cases h2 : 2 ≤ l.length
      · have a1 := Mk.sp_lt h2
        have a0 := Mk.sp_pos l.length
        by_cases hi : m ≤ Mk.sp l.length
        · rw [Mk.cons_left _ _ _ _ _ h2 he hi]
          exact isD_snoc (ih _ _ _ (by rw [List.length_take]; omega) (isD_take hl _)) (root_isD (isD_drop hl _))
        · rw [Mk.cons_right _ _ _ _ _ h2 he hi]
          exact isD_snoc (ih _ _ _ (by rw [List.length_drop]; omega) (isD_drop hl _)) (root_isD (isD_take hl _))
      · rw [cons_none _ _ _ he h2]; exact none

set_option maxRecDepth 100000 in
set_option maxHeartbeats 1000000 in
theorem cons1_any (base : Nat) (N : Nat) : ∀ (A : Option Addr) (n c m Q F : Nat) (known : Bool) (l acc : List Wm.Bs) (v : Value) (w : World), n ≤ N → 1 ≤ m → m ≤ n → n ≤ 4611686018427387904 → n ≤ c → c ≤ 9223372036854775807 → Sl w 16 A n (Ds l) → isD l → (∀ ad, A = some ad → ad.block < base) →
    Pth w base Q F 67 (fvC Q F) v acc → Tab w → 0 < base → acc.length + n ≤ 8000000000000 →
    Calls Tryd.prog 34 #[.slice A n c, .int .i64 m, .bool known, .pointer (some ⟨Q, 0, none⟩), .pointer (some ⟨F, 0, none⟩)] w fun e w' => e = .returned (.tuple #[]) ∧ Below base w w' ∧ ∃ v', Pth w' base Q F 67 (fvC Q F) v' (acc ++ Mk.cons nodeD emptyD l m known) := by
  induction N with
  | zero => intro A n c m Q F known l acc v w h1 h2; omega
  | succ N ih =>
    intro A n c m Q F known l acc v w hN hm1 hmn hbig hnc hc hs hl hA hP tab hb1 hacc
    have hll := hs.dlen hl
    obtain ⟨ad, rfl, _, _⟩ := hs.2 (by omega)
    have hab := hA ad rfl
    have hbw : base ≤ w.heap.size := Nat.le_of_lt (Nat.lt_of_le_of_lt hP.leQ hP.blk.lt)
    have HS1 := Lib.hid fun (w' : World) (hw : Below base w w') => Sl.later hs hw (fun a e _ => by cases e; exact hab)
    have HTb := Lib.hid fun (w' : World) (hw : Below base w w') => tab.below hw hb1
    obtain ⟨i0, hI⟩ := dgI
    have HI := Lib.hid hI
    clear hI
    by_cases he : m = n
    · subst he
      have e1 : Mk.cons nodeD emptyD l m known = if known then [] else [rootD l] := by
        have h := Mk.cons_all nodeD emptyD l known
        rw [hll] at h; exact h
      rw [e1]
      cases known with
      | true =>
        rw [if_pos rfl, List.append_nil]
        have HP := Lib.hid hP
        clear hP hs hl hll ih tab e1
        go_enter Tryd.func34, Tryd.ntmps34
        go_wp2_with fail
        exact bodyPost_ret (results_none Tryd.results34 _ _ _) rfl ⟨rfl, Below.refl _ _, v, HP.out⟩
      | false =>
        rw [if_neg (by decide)]
        have HR2 := Lib.hid fun (w' : World) (hw : Later w w') => root_any m (some ad) m c l w' (Nat.le_refl _) (hs.keep hw) hl hbig hnc hc (tab.keep hw)
        have hR := rootD_dig hl
        obtain ⟨R, hRe⟩ : ∃ R, R = rootD l := ⟨_, rfl⟩
        rw [← hRe] at HR2 hR ⊢
        have P2 := Lib.hid hP
        have hA2 : acc.length ≤ 8000000000000 - 1 := by omega
        have hb2 : Below base w w := Below.refl _ _
        clear hRe hP hs hl hll ih tab e1 HS1 HTb hA
        go_enter Tryd.func34, Tryd.ntmps34
        go_wp2_with fail
        refine wp_region_held_drew (S := fun w' => True) (by kernel_rfl) trivial (fun hHeld => ?_)
        refine wpAnyH_take (i := 1) (oi := ⟨some 17, .move (.tmp 0), _, _, _, none⟩) (v := .slice (some ad) m c) rfl (by kernel_rfl) (by kernel_rfl) (by kernel_rfl) (fun _ _ _ h => h) (Or.inl ⟨by rfl, fun _ _ => rfl⟩) hHeld ?_
        simp only [Act.put, List.setIfInBounds_toArray, List.set_cons_zero, List.set_cons_succ]
        refine wpAnyH_ready (rs := [0, 2]) (by kernel_rfl) (by simp) (AllReadyH.cons (o := ⟨some 16, .load 22 (.tmp 3), _, _, _, none⟩) rfl (fun K' hK => ?_) (AllReadyH.cons (o := ⟨some 18, .call { callee := .value (.func 15), args := #[.tmp 17], argTypes := #[22] }, _, _, _, none⟩) rfl (fun K' hK => ?_) (AllReadyH.nil)))
        · have hcL := (Pth.later P2.out (Below.refl _ _).drew).blk.cell (j := 0) (v := v) rfl
          go_simp
          clear hcL
          refine hK.out _ _ trivial (fun hHeld => ?_)
          clear hK K'
          try simp only [Act.put, List.setIfInBounds_toArray, List.set_cons_zero, List.set_cons_succ]
          refine wpAnyH_ready (rs := [2]) (by kernel_rfl) (by simp) (AllReadyH.cons (o := ⟨some 18, .call { callee := .value (.func 15), args := #[.tmp 17], argTypes := #[22] }, _, _, _, none⟩) rfl (fun K' hK => ?_) (AllReadyH.nil))
          go_simp
          refine (HR2.out _ (Below.refl _ _).drew).mono ?_
          rintro e wc ⟨rfl, lc⟩
          have pc := Pth.later P2.out (Later.trans_ (Below.refl w.heap.size w).drew lc)
          refine hK.out _ _ trivial (fun hHeld => ?_)
          clear hK K'
          try simp only [Act.put, List.setIfInBounds_toArray, List.set_cons_zero, List.set_cons_succ]
          refine wpAnyH_ready (rs := [3]) (by kernel_rfl) (by simp) (AllReadyH.cons (o := ⟨some 19, .buildSlice 22 1 #[(0, .tmp 18)], _, _, _, none⟩) rfl (fun K' hK => ?_) (AllReadyH.nil))
          refine wp_build1 _ 31 _ rfl (U R).toArray i0 _ Tryd.underlying22 HI.out.hi HI.out.hz (by rw [HI.out.hs, List.size_toArray, U_length, hR.1]) (by rw [List.size_toArray, U_length, hR.1]; decide) (by rw [List.size_toArray, U_length, hR.1]; decide) rfl ?_
          refine hK.out _ _ trivial (fun hHeld => ?_)
          clear hK K'
          try simp only [Act.put, List.setIfInBounds_toArray, List.set_cons_zero, List.set_cons_succ]
          refine wpAnyH_ready (rs := [4]) (by kernel_rfl) (by simp) (AllReadyH.cons (o := ⟨some 20, .call { callee := .builtin .append, args := #[.tmp 16, .tmp 19], argTypes := #[22, 22] }, _, _, _, none⟩) rfl (fun K' hK => ?_) (AllReadyH.nil))
          refine wp_append_lies _ (.tmp 16) (.tmp 19) 22 rfl base 31 i0 _ 16 16 Tryd.underlying22 HI.out.hi HI.out.hz HI.out.hs HI.out.hb rfl (by decide) v acc.length (Ds acc) rfl (pc.own.alloc _) ⟨wc.heap.size, 0, none⟩ 1 1 (U R) rfl (by rw [U_length, hR.1]) (fun j u hu => World.news_of_block (heap_alloc_new wc _) j u (by simpa using hu)) (U_one _) (by decide) (by unfold maxLen; omega) (by omega) (Nat.le_of_lt (Nat.lt_of_le_of_lt pc.leQ (by have := pc.blk.lt; simp; omega))) _ rfl ?_
          intro g cap wa hown hgrow hat hlt
          have pa := Pth.later pc ((Below.refl wc.heap.size wc).alloc (Nat.le_refl _) (.cells (U R).toArray 31))
          refine hK.out _ _ trivial (fun hHeld => ?_)
          clear hK K'
          try simp only [Act.put, List.setIfInBounds_toArray, List.set_cons_zero, List.set_cons_succ]
          refine wpAnyH_ready (rs := [5]) (by kernel_rfl) (by simp) (AllReadyH.cons (o := ⟨none, .store 22 (.tmp 3) (.tmp 20), _, _, _, none⟩) rfl (fun K' hK => ?_) (AllReadyH.nil))
          have hcq := (pa.grown hgrow).1.cell (j := 0) (v := v) rfl
          have hfq := (pa.grown hgrow).1.frz 0
          go_simp
          clear hcq hfq
          refine hK.out _ _ trivial (fun hHeld => ?_)
          clear hK K'
          try simp only [Act.put]
          refine wpAnyH_done (by kernel_rfl) ?_ _
          clear hHeld
          have w5P := pa.push hgrow hown hat
          have w5B := push_below (u := .slice (some ⟨g, 0, none⟩) (acc.length + 1) cap) pa ((hb2.trans ((Below.refl base w).drew.trans (lc.mono (Nat.le_of_lt (Nat.lt_of_le_of_lt P2.out.leQ P2.out.blk.lt))))).alloc (Nat.le_of_lt (Nat.lt_of_le_of_lt pc.leQ pc.blk.lt)) (.cells (U R).toArray 31)) hgrow
          clear pa hgrow hown hat pc lc
          go_wp2
          exact bodyPost_ret (results_none Tryd.results34 _ _ _) rfl ⟨rfl, w5B, _, w5P⟩
        · go_simp
          refine (HR2.out _ (Below.refl _ _).drew).mono ?_
          rintro e wc ⟨rfl, lc⟩
          have pc := Pth.later P2.out (Later.trans_ (Below.refl w.heap.size w).drew lc)
          refine hK.out _ _ trivial (fun hHeld => ?_)
          clear hK K'
          try simp only [Act.put, List.setIfInBounds_toArray, List.set_cons_zero, List.set_cons_succ]
          refine wpAnyH_ready (rs := [0, 3]) (by kernel_rfl) (by simp) (AllReadyH.cons (o := ⟨some 16, .load 22 (.tmp 3), _, _, _, none⟩) rfl (fun K' hK => ?_) (AllReadyH.cons (o := ⟨some 19, .buildSlice 22 1 #[(0, .tmp 18)], _, _, _, none⟩) rfl (fun K' hK => ?_) (AllReadyH.nil)))
          · have hcL := (pc).blk.cell (j := 0) (v := v) rfl
            go_simp
            clear hcL
            refine hK.out _ _ trivial (fun hHeld => ?_)
            clear hK K'
            try simp only [Act.put, List.setIfInBounds_toArray, List.set_cons_zero, List.set_cons_succ]
            refine wpAnyH_ready (rs := [3]) (by kernel_rfl) (by simp) (AllReadyH.cons (o := ⟨some 19, .buildSlice 22 1 #[(0, .tmp 18)], _, _, _, none⟩) rfl (fun K' hK => ?_) (AllReadyH.nil))
            refine wp_build1 _ 31 _ rfl (U R).toArray i0 _ Tryd.underlying22 HI.out.hi HI.out.hz (by rw [HI.out.hs, List.size_toArray, U_length, hR.1]) (by rw [List.size_toArray, U_length, hR.1]; decide) (by rw [List.size_toArray, U_length, hR.1]; decide) rfl ?_
            refine hK.out _ _ trivial (fun hHeld => ?_)
            clear hK K'
            try simp only [Act.put, List.setIfInBounds_toArray, List.set_cons_zero, List.set_cons_succ]
            refine wpAnyH_ready (rs := [4]) (by kernel_rfl) (by simp) (AllReadyH.cons (o := ⟨some 20, .call { callee := .builtin .append, args := #[.tmp 16, .tmp 19], argTypes := #[22, 22] }, _, _, _, none⟩) rfl (fun K' hK => ?_) (AllReadyH.nil))
            refine wp_append_lies _ (.tmp 16) (.tmp 19) 22 rfl base 31 i0 _ 16 16 Tryd.underlying22 HI.out.hi HI.out.hz HI.out.hs HI.out.hb rfl (by decide) v acc.length (Ds acc) rfl (pc.own.alloc _) ⟨wc.heap.size, 0, none⟩ 1 1 (U R) rfl (by rw [U_length, hR.1]) (fun j u hu => World.news_of_block (heap_alloc_new wc _) j u (by simpa using hu)) (U_one _) (by decide) (by unfold maxLen; omega) (by omega) (Nat.le_of_lt (Nat.lt_of_le_of_lt pc.leQ (by have := pc.blk.lt; simp; omega))) _ rfl ?_
            intro g cap wa hown hgrow hat hlt
            have pa := Pth.later pc ((Below.refl wc.heap.size wc).alloc (Nat.le_refl _) (.cells (U R).toArray 31))
            refine hK.out _ _ trivial (fun hHeld => ?_)
            clear hK K'
            try simp only [Act.put, List.setIfInBounds_toArray, List.set_cons_zero, List.set_cons_succ]
            refine wpAnyH_ready (rs := [5]) (by kernel_rfl) (by simp) (AllReadyH.cons (o := ⟨none, .store 22 (.tmp 3) (.tmp 20), _, _, _, none⟩) rfl (fun K' hK => ?_) (AllReadyH.nil))
            have hcq := (pa.grown hgrow).1.cell (j := 0) (v := v) rfl
            have hfq := (pa.grown hgrow).1.frz 0
            go_simp
            clear hcq hfq
            refine hK.out _ _ trivial (fun hHeld => ?_)
            clear hK K'
            try simp only [Act.put]
            refine wpAnyH_done (by kernel_rfl) ?_ _
            clear hHeld
            have w5P := pa.push hgrow hown hat
            have w5B := push_below (u := .slice (some ⟨g, 0, none⟩) (acc.length + 1) cap) pa ((hb2.trans ((Below.refl base w).drew.trans (lc.mono (Nat.le_of_lt (Nat.lt_of_le_of_lt P2.out.leQ P2.out.blk.lt))))).alloc (Nat.le_of_lt (Nat.lt_of_le_of_lt pc.leQ pc.blk.lt)) (.cells (U R).toArray 31)) hgrow
            clear pa hgrow hown hat pc lc
            go_wp2
            exact bodyPost_ret (results_none Tryd.results34 _ _ _) rfl ⟨rfl, w5B, _, w5P⟩
          · refine wp_build1 _ 31 _ rfl (U R).toArray i0 _ Tryd.underlying22 HI.out.hi HI.out.hz (by rw [HI.out.hs, List.size_toArray, U_length, hR.1]) (by rw [List.size_toArray, U_length, hR.1]; decide) (by rw [List.size_toArray, U_length, hR.1]; decide) rfl ?_
            refine hK.out _ _ trivial (fun hHeld => ?_)
            clear hK K'
            try simp only [Act.put, List.setIfInBounds_toArray, List.set_cons_zero, List.set_cons_succ]
            refine wpAnyH_ready (rs := [0]) (by kernel_rfl) (by simp) (AllReadyH.cons (o := ⟨some 16, .load 22 (.tmp 3), _, _, _, none⟩) rfl (fun K' hK => ?_) (AllReadyH.nil))
            have hcL := (Pth.later pc ((Below.refl wc.heap.size wc).alloc (Nat.le_refl _) (.cells (U R).toArray 31))).blk.cell (j := 0) (v := v) rfl
            go_simp
            clear hcL
            refine hK.out _ _ trivial (fun hHeld => ?_)
            clear hK K'
            try simp only [Act.put, List.setIfInBounds_toArray, List.set_cons_zero, List.set_cons_succ]
            refine wpAnyH_ready (rs := [4]) (by kernel_rfl) (by simp) (AllReadyH.cons (o := ⟨some 20, .call { callee := .builtin .append, args := #[.tmp 16, .tmp 19], argTypes := #[22, 22] }, _, _, _, none⟩) rfl (fun K' hK => ?_) (AllReadyH.nil))
            refine wp_append_lies _ (.tmp 16) (.tmp 19) 22 rfl base 31 i0 _ 16 16 Tryd.underlying22 HI.out.hi HI.out.hz HI.out.hs HI.out.hb rfl (by decide) v acc.length (Ds acc) rfl (pc.own.alloc _) ⟨wc.heap.size, 0, none⟩ 1 1 (U R) rfl (by rw [U_length, hR.1]) (fun j u hu => World.news_of_block (heap_alloc_new wc _) j u (by simpa using hu)) (U_one _) (by decide) (by unfold maxLen; omega) (by omega) (Nat.le_of_lt (Nat.lt_of_le_of_lt pc.leQ (by have := pc.blk.lt; simp; omega))) _ rfl ?_
            intro g cap wa hown hgrow hat hlt
            have pa := Pth.later pc ((Below.refl wc.heap.size wc).alloc (Nat.le_refl _) (.cells (U R).toArray 31))
            refine hK.out _ _ trivial (fun hHeld => ?_)
            clear hK K'
            try simp only [Act.put, List.setIfInBounds_toArray, List.set_cons_zero, List.set_cons_succ]
            refine wpAnyH_ready (rs := [5]) (by kernel_rfl) (by simp) (AllReadyH.cons (o := ⟨none, .store 22 (.tmp 3) (.tmp 20), _, _, _, none⟩) rfl (fun K' hK => ?_) (AllReadyH.nil))
            have hcq := (pa.grown hgrow).1.cell (j := 0) (v := v) rfl
            have hfq := (pa.grown hgrow).1.frz 0
            go_simp
            clear hcq hfq
            refine hK.out _ _ trivial (fun hHeld => ?_)
            clear hK K'
            try simp only [Act.put]
            refine wpAnyH_done (by kernel_rfl) ?_ _
            clear hHeld
            have w5P := pa.push hgrow hown hat
            have w5B := push_below (u := .slice (some ⟨g, 0, none⟩) (acc.length + 1) cap) pa ((hb2.trans ((Below.refl base w).drew.trans (lc.mono (Nat.le_of_lt (Nat.lt_of_le_of_lt P2.out.leQ P2.out.blk.lt))))).alloc (Nat.le_of_lt (Nat.lt_of_le_of_lt pc.leQ pc.blk.lt)) (.cells (U R).toArray 31)) hgrow
            clear pa hgrow hown hat pc lc
            go_wp2
            exact bodyPost_ret (results_none Tryd.results34 _ _ _) rfl ⟨rfl, w5B, _, w5P⟩
    · have h2 : 2 ≤ n := by omega
      have k1 := Mk.sp_lt h2
      have k0 := Mk.sp_pos n
      have hPt := Lib.hid fun w' => parts_any ad n c w' h2 hbig hnc hc
      have HP := Lib.hid hP
      have hn1' : ((m : Int) == (n : Int)) = false := by rw [beq_eq_false_iff_ne]; omega
      by_cases hlt : m ≤ Mk.sp n
      · rw [Mk.cons_left _ _ _ _ _ (by omega) (by rw [hll]; exact he) (by rw [hll]; exact hlt), hll, ← List.append_assoc]
        have HF := Lib.hid fun (w' : World) (hw : Below base w w') (hp : Pth w' base Q F 67 (fvC Q F) v acc) => ih (some ad) (Mk.sp n) (Mk.sp n) m Q F known (l.take (Mk.sp n)) acc v w' (by omega) hm1 hlt (by omega) (Nat.le_refl _) (by omega) ((HS1.out w' hw).dfront hl (by omega)) (isD_take hl _) hA hp (HTb.out w' hw) hb1 (by omega)
        have HR := Lib.hid fun (w' : World) (hw : Below base w w') => root_any (n - Mk.sp n) (some (ad.add (Mk.sp n * 16))) (n - Mk.sp n) (n - Mk.sp n) (l.drop (Mk.sp n)) w' (Nat.le_refl _) ((HS1.out w' hw).dcut hl (by omega)) (isD_drop hl _) (by omega) (Nat.le_refl _) (by omega) (HTb.out w' hw)
        have hR := rootD_dig (isD_drop hl (Mk.sp n))
        have hlen := cons_len (l.take (Mk.sp n)) l.length m known (by rw [List.length_take]; omega) hm1 (by rw [List.length_take, hll]; omega)
        rw [List.length_take, hll] at hlen
        obtain ⟨R, hRe⟩ : ∃ R, R = rootD (l.drop (Mk.sp n)) := ⟨_, rfl⟩
        have hRe' : Mk.root nodeD emptyD (l.drop (Mk.sp n)) = R := hRe.symm
        rw [hRe']
        rw [← hRe] at HR hR
        obtain ⟨J, hJ⟩ : ∃ J, J = Mk.cons nodeD emptyD (l.take (Mk.sp n)) m known := ⟨_, rfl⟩
        rw [← hJ] at HF hlen ⊢
        obtain ⟨K, hK⟩ : ∃ K, K = Mk.sp n := ⟨_, rfl⟩
        rw [← hK] at HF HR hlt hPt k1 k0 hlen
        have hA2 : (acc ++ J).length ≤ 8000000000000 - 1 := by rw [List.length_append]; omega
        obtain ⟨ac, hac⟩ : ∃ ac, ac = acc ++ J := ⟨_, rfl⟩
        rw [← hac] at HF hA2 ⊢
        clear hac hK hJ hRe hRe' ih hs hl hll HS1 HTb tab hA
        have hlt' : (m : Int) ≤ (K : Int) := by omega
        have cF := HP.out.fn.cell (j := 0) rfl
        have hCF := Lib.hid fun (w' : World) (hp : Pth w' base Q F 67 (fvC Q F) v acc) => hp.fn.cell (j := 0) rfl
        clear cF hP
        go_enter Tryd.func34, Tryd.ntmps34
        go_wp2_with (first
          | (go_at_call 33; (with_reducible refine (hPt.out _).mono ?_); rintro e w1 ⟨rfl, l1⟩; have cF1 : w1.cell? ⟨F, 0, none⟩ = some (.func (.func 34) #[] #[.pointer (some ⟨Q, 0, none⟩), .pointer (some ⟨F, 0, none⟩)]) := (HP.out.later l1).fn.cell (j := 0) rfl)
          | (go_at_call 34; refine (HF.out _ (l1.mono hbw) (HP.out.later l1)).mono ?_; rintro e w2 ⟨rfl, l2, v2, p2⟩))
        have hb2 : Below base w w2 := (l1.mono hbw).trans l2
        have HR2 := Lib.hid fun (w' : World) (hw : Later w2 w') => HR.out w' (hb2.trans (hw.mono (Nat.le_of_lt (Nat.lt_of_le_of_lt p2.leQ p2.blk.lt))))
        have P2 := Lib.hid p2
        clear l1 l2 p2 HR cF1 hCF HF
        refine wp_region_held_drew (S := fun w' => True) (by kernel_rfl) trivial (fun hHeld => ?_)
        refine wpAnyH_take (i := 1) (oi := ⟨some 36, .move (.tmp 9), _, _, _, none⟩) (v := .slice (some (ad.add (K * 16))) (n - K) (n - K)) rfl (by kernel_rfl) (by kernel_rfl) (by kernel_rfl) (fun _ _ _ h => h) (Or.inl ⟨by rfl, fun _ _ => rfl⟩) hHeld ?_
        simp only [Act.put, List.setIfInBounds_toArray, List.set_cons_zero, List.set_cons_succ]
        refine wpAnyH_ready (rs := [0, 2]) (by kernel_rfl) (by simp) (AllReadyH.cons (o := ⟨some 35, .load 22 (.tmp 3), _, _, _, none⟩) rfl (fun K' hK => ?_) (AllReadyH.cons (o := ⟨some 37, .call { callee := .value (.func 15), args := #[.tmp 36], argTypes := #[22] }, _, _, _, none⟩) rfl (fun K' hK => ?_) (AllReadyH.nil)))
        · have hcL := (Pth.later P2.out (Below.refl _ _).drew).blk.cell (j := 0) (v := v2) rfl
          go_simp
          clear hcL
          refine hK.out _ _ trivial (fun hHeld => ?_)
          clear hK K'
          try simp only [Act.put, List.setIfInBounds_toArray, List.set_cons_zero, List.set_cons_succ]
          refine wpAnyH_ready (rs := [2]) (by kernel_rfl) (by simp) (AllReadyH.cons (o := ⟨some 37, .call { callee := .value (.func 15), args := #[.tmp 36], argTypes := #[22] }, _, _, _, none⟩) rfl (fun K' hK => ?_) (AllReadyH.nil))
          go_simp
          refine (HR2.out _ (Below.refl _ _).drew).mono ?_
          rintro e wc ⟨rfl, lc⟩
          have pc := Pth.later P2.out (Later.trans_ (Below.refl w2.heap.size w2).drew lc)
          refine hK.out _ _ trivial (fun hHeld => ?_)
          clear hK K'
          try simp only [Act.put, List.setIfInBounds_toArray, List.set_cons_zero, List.set_cons_succ]
          refine wpAnyH_ready (rs := [3]) (by kernel_rfl) (by simp) (AllReadyH.cons (o := ⟨some 38, .buildSlice 22 1 #[(0, .tmp 37)], _, _, _, none⟩) rfl (fun K' hK => ?_) (AllReadyH.nil))
          refine wp_build1 _ 31 _ rfl (U R).toArray i0 _ Tryd.underlying22 HI.out.hi HI.out.hz (by rw [HI.out.hs, List.size_toArray, U_length, hR.1]) (by rw [List.size_toArray, U_length, hR.1]; decide) (by rw [List.size_toArray, U_length, hR.1]; decide) rfl ?_
          refine hK.out _ _ trivial (fun hHeld => ?_)
          clear hK K'
          try simp only [Act.put, List.setIfInBounds_toArray, List.set_cons_zero, List.set_cons_succ]
          refine wpAnyH_ready (rs := [4]) (by kernel_rfl) (by simp) (AllReadyH.cons (o := ⟨some 39, .call { callee := .builtin .append, args := #[.tmp 35, .tmp 38], argTypes := #[22, 22] }, _, _, _, none⟩) rfl (fun K' hK => ?_) (AllReadyH.nil))
          refine wp_append_lies _ (.tmp 35) (.tmp 38) 22 rfl base 31 i0 _ 16 16 Tryd.underlying22 HI.out.hi HI.out.hz HI.out.hs HI.out.hb rfl (by decide) v2 ac.length (Ds ac) rfl (pc.own.alloc _) ⟨wc.heap.size, 0, none⟩ 1 1 (U R) rfl (by rw [U_length, hR.1]) (fun j u hu => World.news_of_block (heap_alloc_new wc _) j u (by simpa using hu)) (U_one _) (by decide) (by unfold maxLen; omega) (by omega) (Nat.le_of_lt (Nat.lt_of_le_of_lt pc.leQ (by have := pc.blk.lt; simp; omega))) _ rfl ?_
          intro g cap wa hown hgrow hat hlt
          have pa := Pth.later pc ((Below.refl wc.heap.size wc).alloc (Nat.le_refl _) (.cells (U R).toArray 31))
          refine hK.out _ _ trivial (fun hHeld => ?_)
          clear hK K'
          try simp only [Act.put, List.setIfInBounds_toArray, List.set_cons_zero, List.set_cons_succ]
          refine wpAnyH_ready (rs := [5]) (by kernel_rfl) (by simp) (AllReadyH.cons (o := ⟨none, .store 22 (.tmp 3) (.tmp 39), _, _, _, none⟩) rfl (fun K' hK => ?_) (AllReadyH.nil))
          have hcq := (pa.grown hgrow).1.cell (j := 0) (v := v2) rfl
          have hfq := (pa.grown hgrow).1.frz 0
          go_simp
          clear hcq hfq
          refine hK.out _ _ trivial (fun hHeld => ?_)
          clear hK K'
          try simp only [Act.put]
          refine wpAnyH_done (by kernel_rfl) ?_ _
          clear hHeld
          have w5P := pa.push hgrow hown hat
          have w5B := push_below (u := .slice (some ⟨g, 0, none⟩) (ac.length + 1) cap) pa ((hb2.trans ((Below.refl base w2).drew.trans (lc.mono (Nat.le_of_lt (Nat.lt_of_le_of_lt P2.out.leQ P2.out.blk.lt))))).alloc (Nat.le_of_lt (Nat.lt_of_le_of_lt pc.leQ pc.blk.lt)) (.cells (U R).toArray 31)) hgrow
          clear pa hgrow hown hat pc lc
          go_wp2
          go_end0
          exact ⟨rfl, w5B, _, w5P⟩
        · go_simp
          refine (HR2.out _ (Below.refl _ _).drew).mono ?_
          rintro e wc ⟨rfl, lc⟩
          have pc := Pth.later P2.out (Later.trans_ (Below.refl w2.heap.size w2).drew lc)
          refine hK.out _ _ trivial (fun hHeld => ?_)
          clear hK K'
          try simp only [Act.put, List.setIfInBounds_toArray, List.set_cons_zero, List.set_cons_succ]
          refine wpAnyH_ready (rs := [0, 3]) (by kernel_rfl) (by simp) (AllReadyH.cons (o := ⟨some 35, .load 22 (.tmp 3), _, _, _, none⟩) rfl (fun K' hK => ?_) (AllReadyH.cons (o := ⟨some 38, .buildSlice 22 1 #[(0, .tmp 37)], _, _, _, none⟩) rfl (fun K' hK => ?_) (AllReadyH.nil)))
          · have hcL := (pc).blk.cell (j := 0) (v := v2) rfl
            go_simp
            clear hcL
            refine hK.out _ _ trivial (fun hHeld => ?_)
            clear hK K'
            try simp only [Act.put, List.setIfInBounds_toArray, List.set_cons_zero, List.set_cons_succ]
            refine wpAnyH_ready (rs := [3]) (by kernel_rfl) (by simp) (AllReadyH.cons (o := ⟨some 38, .buildSlice 22 1 #[(0, .tmp 37)], _, _, _, none⟩) rfl (fun K' hK => ?_) (AllReadyH.nil))
            refine wp_build1 _ 31 _ rfl (U R).toArray i0 _ Tryd.underlying22 HI.out.hi HI.out.hz (by rw [HI.out.hs, List.size_toArray, U_length, hR.1]) (by rw [List.size_toArray, U_length, hR.1]; decide) (by rw [List.size_toArray, U_length, hR.1]; decide) rfl ?_
            refine hK.out _ _ trivial (fun hHeld => ?_)
            clear hK K'
            try simp only [Act.put, List.setIfInBounds_toArray, List.set_cons_zero, List.set_cons_succ]
            refine wpAnyH_ready (rs := [4]) (by kernel_rfl) (by simp) (AllReadyH.cons (o := ⟨some 39, .call { callee := .builtin .append, args := #[.tmp 35, .tmp 38], argTypes := #[22, 22] }, _, _, _, none⟩) rfl (fun K' hK => ?_) (AllReadyH.nil))
            refine wp_append_lies _ (.tmp 35) (.tmp 38) 22 rfl base 31 i0 _ 16 16 Tryd.underlying22 HI.out.hi HI.out.hz HI.out.hs HI.out.hb rfl (by decide) v2 ac.length (Ds ac) rfl (pc.own.alloc _) ⟨wc.heap.size, 0, none⟩ 1 1 (U R) rfl (by rw [U_length, hR.1]) (fun j u hu => World.news_of_block (heap_alloc_new wc _) j u (by simpa using hu)) (U_one _) (by decide) (by unfold maxLen; omega) (by omega) (Nat.le_of_lt (Nat.lt_of_le_of_lt pc.leQ (by have := pc.blk.lt; simp; omega))) _ rfl ?_
            intro g cap wa hown hgrow hat hlt
            have pa := Pth.later pc ((Below.refl wc.heap.size wc).alloc (Nat.le_refl _) (.cells (U R).toArray 31))
            refine hK.out _ _ trivial (fun hHeld => ?_)
            clear hK K'
            try simp only [Act.put, List.setIfInBounds_toArray, List.set_cons_zero, List.set_cons_succ]
            refine wpAnyH_ready (rs := [5]) (by kernel_rfl) (by simp) (AllReadyH.cons (o := ⟨none, .store 22 (.tmp 3) (.tmp 39), _, _, _, none⟩) rfl (fun K' hK => ?_) (AllReadyH.nil))
            have hcq := (pa.grown hgrow).1.cell (j := 0) (v := v2) rfl
            have hfq := (pa.grown hgrow).1.frz 0
            go_simp
            clear hcq hfq
            refine hK.out _ _ trivial (fun hHeld => ?_)
            clear hK K'
            try simp only [Act.put]
            refine wpAnyH_done (by kernel_rfl) ?_ _
            clear hHeld
            have w5P := pa.push hgrow hown hat
            have w5B := push_below (u := .slice (some ⟨g, 0, none⟩) (ac.length + 1) cap) pa ((hb2.trans ((Below.refl base w2).drew.trans (lc.mono (Nat.le_of_lt (Nat.lt_of_le_of_lt P2.out.leQ P2.out.blk.lt))))).alloc (Nat.le_of_lt (Nat.lt_of_le_of_lt pc.leQ pc.blk.lt)) (.cells (U R).toArray 31)) hgrow
            clear pa hgrow hown hat pc lc
            go_wp2
            go_end0
            exact ⟨rfl, w5B, _, w5P⟩
          · refine wp_build1 _ 31 _ rfl (U R).toArray i0 _ Tryd.underlying22 HI.out.hi HI.out.hz (by rw [HI.out.hs, List.size_toArray, U_length, hR.1]) (by rw [List.size_toArray, U_length, hR.1]; decide) (by rw [List.size_toArray, U_length, hR.1]; decide) rfl ?_
            refine hK.out _ _ trivial (fun hHeld => ?_)
            clear hK K'
            try simp only [Act.put, List.setIfInBounds_toArray, List.set_cons_zero, List.set_cons_succ]
            refine wpAnyH_ready (rs := [0]) (by kernel_rfl) (by simp) (AllReadyH.cons (o := ⟨some 35, .load 22 (.tmp 3), _, _, _, none⟩) rfl (fun K' hK => ?_) (AllReadyH.nil))
            have hcL := (Pth.later pc ((Below.refl wc.heap.size wc).alloc (Nat.le_refl _) (.cells (U R).toArray 31))).blk.cell (j := 0) (v := v2) rfl
            go_simp
            clear hcL
            refine hK.out _ _ trivial (fun hHeld => ?_)
            clear hK K'
            try simp only [Act.put, List.setIfInBounds_toArray, List.set_cons_zero, List.set_cons_succ]
            refine wpAnyH_ready (rs := [4]) (by kernel_rfl) (by simp) (AllReadyH.cons (o := ⟨some 39, .call { callee := .builtin .append, args := #[.tmp 35, .tmp 38], argTypes := #[22, 22] }, _, _, _, none⟩) rfl (fun K' hK => ?_) (AllReadyH.nil))
            refine wp_append_lies _ (.tmp 35) (.tmp 38) 22 rfl base 31 i0 _ 16 16 Tryd.underlying22 HI.out.hi HI.out.hz HI.out.hs HI.out.hb rfl (by decide) v2 ac.length (Ds ac) rfl (pc.own.alloc _) ⟨wc.heap.size, 0, none⟩ 1 1 (U R) rfl (by rw [U_length, hR.1]) (fun j u hu => World.news_of_block (heap_alloc_new wc _) j u (by simpa using hu)) (U_one _) (by decide) (by unfold maxLen; omega) (by omega) (Nat.le_of_lt (Nat.lt_of_le_of_lt pc.leQ (by have := pc.blk.lt; simp; omega))) _ rfl ?_
            intro g cap wa hown hgrow hat hlt
            have pa := Pth.later pc ((Below.refl wc.heap.size wc).alloc (Nat.le_refl _) (.cells (U R).toArray 31))
            refine hK.out _ _ trivial (fun hHeld => ?_)
            clear hK K'
            try simp only [Act.put, List.setIfInBounds_toArray, List.set_cons_zero, List.set_cons_succ]
            refine wpAnyH_ready (rs := [5]) (by kernel_rfl) (by simp) (AllReadyH.cons (o := ⟨none, .store 22 (.tmp 3) (.tmp 39), _, _, _, none⟩) rfl (fun K' hK => ?_) (AllReadyH.nil))
            have hcq := (pa.grown hgrow).1.cell (j := 0) (v := v2) rfl
            have hfq := (pa.grown hgrow).1.frz 0
            go_simp
            clear hcq hfq
            refine hK.out _ _ trivial (fun hHeld => ?_)
            clear hK K'
            try simp only [Act.put]
            refine wpAnyH_done (by kernel_rfl) ?_ _
            clear hHeld
            have w5P := pa.push hgrow hown hat
            have w5B := push_below (u := .slice (some ⟨g, 0, none⟩) (ac.length + 1) cap) pa ((hb2.trans ((Below.refl base w2).drew.trans (lc.mono (Nat.le_of_lt (Nat.lt_of_le_of_lt P2.out.leQ P2.out.blk.lt))))).alloc (Nat.le_of_lt (Nat.lt_of_le_of_lt pc.leQ pc.blk.lt)) (.cells (U R).toArray 31)) hgrow
            clear pa hgrow hown hat pc lc
            go_wp2
            go_end0
            exact ⟨rfl, w5B, _, w5P⟩
      · rw [Mk.cons_right _ _ _ _ _ (by omega) (by rw [hll]; exact he) (by rw [hll]; exact hlt), hll, ← List.append_assoc]
        have HF := Lib.hid fun (w' : World) (hw : Below base w w') (hp : Pth w' base Q F 67 (fvC Q F) v acc) => ih (some (ad.add (Mk.sp n * 16))) (n - Mk.sp n) (n - Mk.sp n) (m - Mk.sp n) Q F false (l.drop (Mk.sp n)) acc v w' (by omega) (by omega) (by omega) (by omega) (Nat.le_refl _) (by omega) ((HS1.out w' hw).dcut hl (by omega)) (isD_drop hl _) (fun a e => by cases e; rw [addr_add_block]; exact hab) hp (HTb.out w' hw) hb1 (by omega)
        have HR := Lib.hid fun (w' : World) (hw : Below base w w') => root_any (Mk.sp n) (some ad) (Mk.sp n) (Mk.sp n) (l.take (Mk.sp n)) w' (Nat.le_refl _) ((HS1.out w' hw).dfront hl (by omega)) (isD_take hl _) (by omega) (Nat.le_refl _) (by omega) (HTb.out w' hw)
        have hR := rootD_dig (isD_take hl (Mk.sp n))
        have hlen := cons_len (l.drop (Mk.sp n)) l.length (m - Mk.sp n) false (by rw [List.length_drop]; omega) (by omega) (by rw [List.length_drop, hll]; omega)
        rw [List.length_drop, hll] at hlen
        obtain ⟨R, hRe⟩ : ∃ R, R = rootD (l.take (Mk.sp n)) := ⟨_, rfl⟩
        have hRe' : Mk.root nodeD emptyD (l.take (Mk.sp n)) = R := hRe.symm
        rw [hRe']
        rw [← hRe] at HR hR
        obtain ⟨J, hJ⟩ : ∃ J, J = Mk.cons nodeD emptyD (l.drop (Mk.sp n)) (m - Mk.sp n) false := ⟨_, rfl⟩
        rw [← hJ] at HF hlen ⊢
        obtain ⟨K, hK⟩ : ∃ K, K = Mk.sp n := ⟨_, rfl⟩
        rw [← hK] at HF HR hlt hPt k1 k0 hlen
        have hA2 : (acc ++ J).length ≤ 8000000000000 - 1 := by rw [List.length_append]; omega
        obtain ⟨ac, hac⟩ : ∃ ac, ac = acc ++ J := ⟨_, rfl⟩
        rw [← hac] at HF hA2 ⊢
        clear hac hK hJ hRe hRe' ih hs hl hll HS1 HTb tab hA
        have hlt' : ¬ ((m : Int) ≤ (K : Int)) := by omega
        have b0 : (K : Int) ≤ (m : Int) := by omega
        have b1 : (m : Int) - (K : Int) ≤ 4611686018427387904 := by omega
        have b2 : (0 : Int) ≤ (m : Int) - (K : Int) := by omega
        rw [show ((m - K : Nat) : Int) = (m : Int) - (K : Int) by omega] at HF
        have cF := HP.out.fn.cell (j := 0) rfl
        have hCF := Lib.hid fun (w' : World) (hp : Pth w' base Q F 67 (fvC Q F) v acc) => hp.fn.cell (j := 0) rfl
        clear cF hP
        go_enter Tryd.func34, Tryd.ntmps34
        go_wp2_with (first
          | (go_at_call 33; (with_reducible refine (hPt.out _).mono ?_); rintro e w1 ⟨rfl, l1⟩; have cF1 : w1.cell? ⟨F, 0, none⟩ = some (.func (.func 34) #[] #[.pointer (some ⟨Q, 0, none⟩), .pointer (some ⟨F, 0, none⟩)]) := (HP.out.later l1).fn.cell (j := 0) rfl)
          | (go_at_call 34; refine (HF.out _ (l1.mono hbw) (HP.out.later l1)).mono ?_; rintro e w2 ⟨rfl, l2, v2, p2⟩))
        have hb2 : Below base w w2 := (l1.mono hbw).trans l2
        have HR2 := Lib.hid fun (w' : World) (hw : Later w2 w') => HR.out w' (hb2.trans (hw.mono (Nat.le_of_lt (Nat.lt_of_le_of_lt p2.leQ p2.blk.lt))))
        have P2 := Lib.hid p2
        clear l1 l2 p2 HR cF1 hCF HF
        refine wp_region_held_drew (S := fun w' => True) (by kernel_rfl) trivial (fun hHeld => ?_)
        refine wpAnyH_take (i := 1) (oi := ⟨some 48, .move (.tmp 8), _, _, _, none⟩) (v := .slice (some ad) K K) rfl (by kernel_rfl) (by kernel_rfl) (by kernel_rfl) (fun _ _ _ h => h) (Or.inl ⟨by rfl, fun _ _ => rfl⟩) hHeld ?_
        simp only [Act.put, List.setIfInBounds_toArray, List.set_cons_zero, List.set_cons_succ]
        refine wpAnyH_ready (rs := [0, 2]) (by kernel_rfl) (by simp) (AllReadyH.cons (o := ⟨some 47, .load 22 (.tmp 3), _, _, _, none⟩) rfl (fun K' hK => ?_) (AllReadyH.cons (o := ⟨some 49, .call { callee := .value (.func 15), args := #[.tmp 48], argTypes := #[22] }, _, _, _, none⟩) rfl (fun K' hK => ?_) (AllReadyH.nil)))
        · have hcL := (Pth.later P2.out (Below.refl _ _).drew).blk.cell (j := 0) (v := v2) rfl
          go_simp
          clear hcL
          refine hK.out _ _ trivial (fun hHeld => ?_)
          clear hK K'
          try simp only [Act.put, List.setIfInBounds_toArray, List.set_cons_zero, List.set_cons_succ]
          refine wpAnyH_ready (rs := [2]) (by kernel_rfl) (by simp) (AllReadyH.cons (o := ⟨some 49, .call { callee := .value (.func 15), args := #[.tmp 48], argTypes := #[22] }, _, _, _, none⟩) rfl (fun K' hK => ?_) (AllReadyH.nil))
          go_simp
          refine (HR2.out _ (Below.refl _ _).drew).mono ?_
          rintro e wc ⟨rfl, lc⟩
          have pc := Pth.later P2.out (Later.trans_ (Below.refl w2.heap.size w2).drew lc)
          refine hK.out _ _ trivial (fun hHeld => ?_)
          clear hK K'
          try simp only [Act.put, List.setIfInBounds_toArray, List.set_cons_zero, List.set_cons_succ]
          refine wpAnyH_ready (rs := [3]) (by kernel_rfl) (by simp) (AllReadyH.cons (o := ⟨some 50, .buildSlice 22 1 #[(0, .tmp 49)], _, _, _, none⟩) rfl (fun K' hK => ?_) (AllReadyH.nil))
          refine wp_build1 _ 31 _ rfl (U R).toArray i0 _ Tryd.underlying22 HI.out.hi HI.out.hz (by rw [HI.out.hs, List.size_toArray, U_length, hR.1]) (by rw [List.size_toArray, U_length, hR.1]; decide) (by rw [List.size_toArray, U_length, hR.1]; decide) rfl ?_
          refine hK.out _ _ trivial (fun hHeld => ?_)
          clear hK K'
          try simp only [Act.put, List.setIfInBounds_toArray, List.set_cons_zero, List.set_cons_succ]
          refine wpAnyH_ready (rs := [4]) (by kernel_rfl) (by simp) (AllReadyH.cons (o := ⟨some 51, .call { callee := .builtin .append, args := #[.tmp 47, .tmp 50], argTypes := #[22, 22] }, _, _, _, none⟩) rfl (fun K' hK => ?_) (AllReadyH.nil))
          refine wp_append_lies _ (.tmp 47) (.tmp 50) 22 rfl base 31 i0 _ 16 16 Tryd.underlying22 HI.out.hi HI.out.hz HI.out.hs HI.out.hb rfl (by decide) v2 ac.length (Ds ac) rfl (pc.own.alloc _) ⟨wc.heap.size, 0, none⟩ 1 1 (U R) rfl (by rw [U_length, hR.1]) (fun j u hu => World.news_of_block (heap_alloc_new wc _) j u (by simpa using hu)) (U_one _) (by decide) (by unfold maxLen; omega) (by omega) (Nat.le_of_lt (Nat.lt_of_le_of_lt pc.leQ (by have := pc.blk.lt; simp; omega))) _ rfl ?_
          intro g cap wa hown hgrow hat hlt
          have pa := Pth.later pc ((Below.refl wc.heap.size wc).alloc (Nat.le_refl _) (.cells (U R).toArray 31))
          refine hK.out _ _ trivial (fun hHeld => ?_)
          clear hK K'
          try simp only [Act.put, List.setIfInBounds_toArray, List.set_cons_zero, List.set_cons_succ]
          refine wpAnyH_ready (rs := [5]) (by kernel_rfl) (by simp) (AllReadyH.cons (o := ⟨none, .store 22 (.tmp 3) (.tmp 51), _, _, _, none⟩) rfl (fun K' hK => ?_) (AllReadyH.nil))
          have hcq := (pa.grown hgrow).1.cell (j := 0) (v := v2) rfl
          have hfq := (pa.grown hgrow).1.frz 0
          go_simp
          clear hcq hfq
          refine hK.out _ _ trivial (fun hHeld => ?_)
          clear hK K'
          try simp only [Act.put]
          refine wpAnyH_done (by kernel_rfl) ?_ _
          clear hHeld
          have w5P := pa.push hgrow hown hat
          have w5B := push_below (u := .slice (some ⟨g, 0, none⟩) (ac.length + 1) cap) pa ((hb2.trans ((Below.refl base w2).drew.trans (lc.mono (Nat.le_of_lt (Nat.lt_of_le_of_lt P2.out.leQ P2.out.blk.lt))))).alloc (Nat.le_of_lt (Nat.lt_of_le_of_lt pc.leQ pc.blk.lt)) (.cells (U R).toArray 31)) hgrow
          clear pa hgrow hown hat pc lc
          go_wp2
          go_end0
          exact ⟨rfl, w5B, _, w5P⟩
        · go_simp
          refine (HR2.out _ (Below.refl _ _).drew).mono ?_
          rintro e wc ⟨rfl, lc⟩
          have pc := Pth.later P2.out (Later.trans_ (Below.refl w2.heap.size w2).drew lc)
          refine hK.out _ _ trivial (fun hHeld => ?_)
          clear hK K'
          try simp only [Act.put, List.setIfInBounds_toArray, List.set_cons_zero, List.set_cons_succ]
          refine wpAnyH_ready (rs := [0, 3]) (by kernel_rfl) (by simp) (AllReadyH.cons (o := ⟨some 47, .load 22 (.tmp 3), _, _, _, none⟩) rfl (fun K' hK => ?_) (AllReadyH.cons (o := ⟨some 50, .buildSlice 22 1 #[(0, .tmp 49)], _, _, _, none⟩) rfl (fun K' hK => ?_) (AllReadyH.nil)))
          · have hcL := (pc).blk.cell (j := 0) (v := v2) rfl
            go_simp
            clear hcL
            refine hK.out _ _ trivial (fun hHeld => ?_)
            clear hK K'
            try simp only [Act.put, List.setIfInBounds_toArray, List.set_cons_zero, List.set_cons_succ]
            refine wpAnyH_ready (rs := [3]) (by kernel_rfl) (by simp) (AllReadyH.cons (o := ⟨some 50, .buildSlice 22 1 #[(0, .tmp 49)], _, _, _, none⟩) rfl (fun K' hK => ?_) (AllReadyH.nil))
            refine wp_build1 _ 31 _ rfl (U R).toArray i0 _ Tryd.underlying22 HI.out.hi HI.out.hz (by rw [HI.out.hs, List.size_toArray, U_length, hR.1]) (by rw [List.size_toArray, U_length, hR.1]; decide) (by rw [List.size_toArray, U_length, hR.1]; decide) rfl ?_
            refine hK.out _ _ trivial (fun hHeld => ?_)
            clear hK K'
            try simp only [Act.put, List.setIfInBounds_toArray, List.set_cons_zero, List.set_cons_succ]
            refine wpAnyH_ready (rs := [4]) (by kernel_rfl) (by simp) (AllReadyH.cons (o := ⟨some 51, .call { callee := .builtin .append, args := #[.tmp 47, .tmp 50], argTypes := #[22, 22] }, _, _, _, none⟩) rfl (fun K' hK => ?_) (AllReadyH.nil))
            refine wp_append_lies _ (.tmp 47) (.tmp 50) 22 rfl base 31 i0 _ 16 16 Tryd.underlying22 HI.out.hi HI.out.hz HI.out.hs HI.out.hb rfl (by decide) v2 ac.length (Ds ac) rfl (pc.own.alloc _) ⟨wc.heap.size, 0, none⟩ 1 1 (U R) rfl (by rw [U_length, hR.1]) (fun j u hu => World.news_of_block (heap_alloc_new wc _) j u (by simpa using hu)) (U_one _) (by decide) (by unfold maxLen; omega) (by omega) (Nat.le_of_lt (Nat.lt_of_le_of_lt pc.leQ (by have := pc.blk.lt; simp; omega))) _ rfl ?_
            intro g cap wa hown hgrow hat hlt
            have pa := Pth.later pc ((Below.refl wc.heap.size wc).alloc (Nat.le_refl _) (.cells (U R).toArray 31))
            refine hK.out _ _ trivial (fun hHeld => ?_)
            clear hK K'
            try simp only [Act.put, List.setIfInBounds_toArray, List.set_cons_zero, List.set_cons_succ]
            refine wpAnyH_ready (rs := [5]) (by kernel_rfl) (by simp) (AllReadyH.cons (o := ⟨none, .store 22 (.tmp 3) (.tmp 51), _, _, _, none⟩) rfl (fun K' hK => ?_) (AllReadyH.nil))
            have hcq := (pa.grown hgrow).1.cell (j := 0) (v := v2) rfl
            have hfq := (pa.grown hgrow).1.frz 0
            go_simp
            clear hcq hfq
            refine hK.out _ _ trivial (fun hHeld => ?_)
            clear hK K'
            try simp only [Act.put]
            refine wpAnyH_done (by kernel_rfl) ?_ _
            clear hHeld
            have w5P := pa.push hgrow hown hat
            have w5B := push_below (u := .slice (some ⟨g, 0, none⟩) (ac.length + 1) cap) pa ((hb2.trans ((Below.refl base w2).drew.trans (lc.mono (Nat.le_of_lt (Nat.lt_of_le_of_lt P2.out.leQ P2.out.blk.lt))))).alloc (Nat.le_of_lt (Nat.lt_of_le_of_lt pc.leQ pc.blk.lt)) (.cells (U R).toArray 31)) hgrow
            clear pa hgrow hown hat pc lc
            go_wp2
            go_end0
            exact ⟨rfl, w5B, _, w5P⟩
          · refine wp_build1 _ 31 _ rfl (U R).toArray i0 _ Tryd.underlying22 HI.out.hi HI.out.hz (by rw [HI.out.hs, List.size_toArray, U_length, hR.1]) (by rw [List.size_toArray, U_length, hR.1]; decide) (by rw [List.size_toArray, U_length, hR.1]; decide) rfl ?_
            refine hK.out _ _ trivial (fun hHeld => ?_)
            clear hK K'
            try simp only [Act.put, List.setIfInBounds_toArray, List.set_cons_zero, List.set_cons_succ]
            refine wpAnyH_ready (rs := [0]) (by kernel_rfl) (by simp) (AllReadyH.cons (o := ⟨some 47, .load 22 (.tmp 3), _, _, _, none⟩) rfl (fun K' hK => ?_) (AllReadyH.nil))
            have hcL := (Pth.later pc ((Below.refl wc.heap.size wc).alloc (Nat.le_refl _) (.cells (U R).toArray 31))).blk.cell (j := 0) (v := v2) rfl
            go_simp
            clear hcL
            refine hK.out _ _ trivial (fun hHeld => ?_)
            clear hK K'
            try simp only [Act.put, List.setIfInBounds_toArray, List.set_cons_zero, List.set_cons_succ]
            refine wpAnyH_ready (rs := [4]) (by kernel_rfl) (by simp) (AllReadyH.cons (o := ⟨some 51, .call { callee := .builtin .append, args := #[.tmp 47, .tmp 50], argTypes := #[22, 22] }, _, _, _, none⟩) rfl (fun K' hK => ?_) (AllReadyH.nil))
            refine wp_append_lies _ (.tmp 47) (.tmp 50) 22 rfl base 31 i0 _ 16 16 Tryd.underlying22 HI.out.hi HI.out.hz HI.out.hs HI.out.hb rfl (by decide) v2 ac.length (Ds ac) rfl (pc.own.alloc _) ⟨wc.heap.size, 0, none⟩ 1 1 (U R) rfl (by rw [U_length, hR.1]) (fun j u hu => World.news_of_block (heap_alloc_new wc _) j u (by simpa using hu)) (U_one _) (by decide) (by unfold maxLen; omega) (by omega) (Nat.le_of_lt (Nat.lt_of_le_of_lt pc.leQ (by have := pc.blk.lt; simp; omega))) _ rfl ?_
            intro g cap wa hown hgrow hat hlt
            have pa := Pth.later pc ((Below.refl wc.heap.size wc).alloc (Nat.le_refl _) (.cells (U R).toArray 31))
            refine hK.out _ _ trivial (fun hHeld => ?_)
            clear hK K'
            try simp only [Act.put, List.setIfInBounds_toArray, List.set_cons_zero, List.set_cons_succ]
            refine wpAnyH_ready (rs := [5]) (by kernel_rfl) (by simp) (AllReadyH.cons (o := ⟨none, .store 22 (.tmp 3) (.tmp 51), _, _, _, none⟩) rfl (fun K' hK => ?_) (AllReadyH.nil))
            have hcq := (pa.grown hgrow).1.cell (j := 0) (v := v2) rfl
            have hfq := (pa.grown hgrow).1.frz 0
            go_simp
            clear hcq hfq
            refine hK.out _ _ trivial (fun hHeld => ?_)
            clear hK K'
            try simp only [Act.put]
            refine wpAnyH_done (by kernel_rfl) ?_ _
            clear hHeld
            have w5P := pa.push hgrow hown hat
            have w5B := push_below (u := .slice (some ⟨g, 0, none⟩) (ac.length + 1) cap) pa ((hb2.trans ((Below.refl base w2).drew.trans (lc.mono (Nat.le_of_lt (Nat.lt_of_le_of_lt P2.out.leQ P2.out.blk.lt))))).alloc (Nat.le_of_lt (Nat.lt_of_le_of_lt pc.leQ pc.blk.lt)) (.cells (U R).toArray 31)) hgrow
            clear pa hgrow hown hat pc lc
            go_wp2
            go_end0
            exact ⟨rfl, w5B, _, w5P⟩
end Go.Proofs.YtaihfkcoiagdaabDoor

/-
  WALKS: Consistency.
-/
namespace Go.Proofs.YtaihfkcoiagdaabDoor
open Go.RowKit Go.ChangeShapes Go.WideShapes Go.ChangeAt
attribute [local go_sem] run_store_fn

set_option maxRecDepth 100000 in
set_option maxHeartbeats 1000000 in
theorem consistency_bad (A : Option Addr) (n c : Nat) (m : Int) (w : World) (h1 : m < 0 ∨ (n : Int) < m) :
    Calls Tryd.prog 11 #[.slice A n c, .int .i64 m] w fun e w' => e = .returned (.tuple #[.slice none 0 0, .int .i64 1]) ∧ w' = w := by
  by_cases h0 : m < 0
  · go_enter Tryd.func11, Tryd.ntmps11
    go_wp2_with fail
    go_ret2
    exact ⟨rfl, rfl⟩
  · have k0 : 0 ≤ m := by omega
    have k1 : (n : Int) < m := by omega
    go_enter Tryd.func11, Tryd.ntmps11
    go_wp2_with fail
    go_ret2
    exact ⟨rfl, rfl⟩

set_option maxRecDepth 100000 in
set_option maxHeartbeats 1000000 in
theorem consistency_zero (A : Option Addr) (n c : Nat) (w : World) :
    Calls Tryd.prog 11 #[.slice A n c, .int .i64 0] w fun e w' => GotPath [] w e w' := by
  have k0 : (0 : Int) ≤ (n : Int) := by omega
  go_enter Tryd.func11, Tryd.ntmps11
  go_wp2_with fail
  go_ret2
  exact ⟨some ⟨w.heap.size, 0, none⟩, 0, rfl, Nat.le_refl _, by decide, ⟨rfl, fun h => absurd h (by decide)⟩, (fun (x : Wm.Bs) (hx : x ∈ []) => by cases hx), ((Below.refl _ _).alloc (Nat.le_refl _) _).alloc (by simp) _⟩

set_option maxRecDepth 100000 in
set_option maxHeartbeats 1000000 in
theorem consistency_any (A : Option Addr) (n c m : Nat) (l : List Wm.Bs) (w : World) (h1 : 1 ≤ m) (h2 : m ≤ n) (hbig : n ≤ 4000000000000) (hnc : n ≤ c) (hc : c ≤ 9223372036854775807) (hs : Sl w 16 A n (Ds l)) (hl : isD l) (tab : Tab w) :
    Calls Tryd.prog 11 #[.slice A n c, .int .i64 m] w fun e w' => GotPath (Mk.cons nodeD emptyD l m true) w e w' := by
  have k0 : (0 : Int) ≤ (m : Int) := by omega
  have k1 : (m : Int) ≤ (n : Int) := by omega
  have k2 : ((m : Int) == 0) = false := by rw [beq_eq_false_iff_ne]; omega
  have b7 : Blk (((w.alloc (.cells #[] 31)).alloc (.cells #[.slice (some ⟨w.heap.size, 0, none⟩) 0 0] 22)).alloc (.cells #[.nilFunc] 67)) (w.heap.size + 1 + 1) 67 [.nilFunc] := Blk.new' _ _ _ _ _ (by simp) rfl
  have c7 := b7.cell (j := 0) (v := .nilFunc) rfl
  have f7 := b7.frz 0
  have hi := cons_isD _ l m true (Nat.le_refl _) hl
  have HI := Lib.hid fun (w' : World) (hw : Later w w') (hp : Pth w' w.heap.size (w.heap.size + 1) (w.heap.size + 1 + 1) 67 (fvC (w.heap.size + 1) (w.heap.size + 1 + 1)) (.slice (some ⟨w.heap.size, 0, none⟩) 0 0) []) =>
    cons1_any w.heap.size n A n c m (w.heap.size + 1) (w.heap.size + 1 + 1) true l [] _ w' (Nat.le_refl _) h1 h2 (by omega) hnc hc (hs.keep hw) hl (fun ad e => by obtain ⟨a, e', hb, _⟩ := hs.2 (by omega); rw [e] at e'; cases e'; exact hb) hp (tab.keep hw) tab.lt (by simp; omega)
  obtain ⟨J, hJ⟩ : ∃ J, J = Mk.cons nodeD emptyD l m true := ⟨_, rfl⟩
  rw [← hJ] at HI hi ⊢
  clear hJ hs hl tab b7
  go_enter Tryd.func11, Tryd.ntmps11
  go_wp2_with (first
    | (go_at_call 34; refine (HI.out _ ((((Below.refl _ _).alloc (Nat.le_refl _) _).alloc (by simp) _).alloc (by simp; omega) _) (path0 w _ _)).mono ?_; rintro e w4 ⟨rfl, l4, v4, p4⟩; rw [List.nil_append] at p4; have c4 := p4.blk.cell (j := 0) (v := v4) rfl))
  have l4' : Later w w4 := Below.trans ((((Below.refl _ _).alloc (Nat.le_refl _) _).alloc (by simp) _).alloc (by simp; omega) _) l4
  obtain ⟨A2, c2, rfl, q1, q2, q3, _⟩ := own_form p4.own
  go_ret2
  exact ⟨A2, c2, rfl, q1, q2, q3, hi, l4'⟩
end Go.Proofs.YtaihfkcoiagdaabDoor
