/-
  THE STATEMENT ConsoleKeepsOrder: what was read, and then what waits, are the bytes that came and were not lost, in order; what was put out is what the values say; for at most 300 bytes that come, are read, or put out.
-/
import Derived.Test.YtkhgaikfomcjeaaConI
import Derived.Deep.RegionHeld
import Derived.Deep.DeepCutAuto
namespace Go.Proofs.Ytkhgaikfomcjeaa
open Go.RowKit Go.ChangeShapes Go.WideShapes Go.ChangeAt

/-- A byte that comes, is read, or put out. -/
structure Tn where
  (kd b : Int)
def Tn.cells (a : Tn) : List Value := [.int .u8 a.kd, .int .u8 a.b]
structure Tn.wf (a : Tn) : Prop where
  kd : 0 ≤ a.kd ∧ a.kd ≤ 255
  b : 0 ≤ a.b ∧ a.b ≤ 255
instance : Inhabited Tn := ⟨⟨0, 0⟩⟩
section
variable {H : Type} {enc : TypeId × Value → H} {W : World} {r : Reach} {b0 : Nat} {v : Value} {d : DataW H} {p : List MemPlace}
theorem tn_trod {n : Nat} {cs : List Value} {y : DataW H × List MemPlace} (h : DataW.trod enc Try.prog W 0 (fun _ => true) true n 51 cs = some y) : ∃ a : Tn, cs = a.cells ∧ a.wf := by
  obtain ⟨y0, y1, m, _, hl, k0, k1⟩ := trod_struct2 Try.underlying51 h
  rw [show Try.prog.cellsOf 5 = 1 by kernel_rfl] at k0 k1
  rw [show Try.prog.cellsOf 51 = 2 by kernel_rfl] at hl
  obtain ⟨z0, e0, _, w0⟩ := DataW.trod_int Try.underlying5 k0
  obtain ⟨z1, e1, _, w1⟩ := DataW.trod_int Try.underlying5 k1
  have a2 : IntKind.u8.min = 0 := rfl
  have a3 : IntKind.u8.max = 255 := rfl
  simp only [Lit.wf, Bool.and_eq_true, decide_eq_true_eq] at w0 w1
  refine ⟨⟨z0, z1⟩, ?_, ⟨(show 0 ≤ z0 ∧ z0 ≤ 255 by omega), (show 0 ≤ z1 ∧ z1 ≤ 255 by omega)⟩⟩
  match cs, hl with
  | [a, b], _ =>
    have f0 : [a] = [Value.int .u8 z0] := e0
    have f1 : [b] = [Value.int .u8 z1] := e1
    injection f0 with f0
    injection f1 with f1
    rw [f0, f1]
    rfl
def Tx (l : List Tn) : List Value := l.flatMap Tn.cells
theorem Tx_len (l : List Tn) : (Tx l).length = l.length * 2 := by
  induction l with
  | nil => rfl
  | cons w r ih =>
    show (w.cells ++ Tx r).length = _
    rw [List.length_append, ih]
    simp [Tn.cells]
    omega
theorem Tx_at : ∀ (l : List Tn) (i : Nat) (hi : i < l.length) (j : Nat), j < 2 → (Tx l)[i * 2 + j]? = (l[i].cells)[j]? := by
  intro l
  induction l with
  | nil => intro i hi; simp at hi
  | cons w r ih =>
    intro i hi j hj
    show (w.cells ++ Tx r)[i * 2 + j]? = _
    cases i with
    | zero => rw [Nat.zero_mul, Nat.zero_add, List.getElem?_append_left (by simpa [Tn.cells] using hj)]; rfl
    | succ i =>
      rw [List.getElem?_append_right (by simp [Tn.cells]; omega), show (i + 1) * 2 + j - (w.cells).length = i * 2 + j by simp [Tn.cells]; omega]
      exact ih i (by simpa using hi) j hj
theorem acts_open (hv : Value.okWide Try.prog W r b0 49 v) (h : DataW.Trod enc Try.prog W 0 (fun _ => true) true 49 v d p) : ∃ A n c l, v = .slice A n c ∧ n ≤ c ∧ c ≤ maxLen ∧ Sl W 2 A n (Tx l) ∧ l.length = n ∧ ∀ a ∈ l, a.wf := by
  obtain ⟨a0, len, cap, rfl⟩ := okWide_slice Try.underlying49 hv
  obtain ⟨fuel, hf⟩ := h
  have hct : Try.prog.cellsOf 51 = 2 := by kernel_rfl
  rcases Deep.open_slice Try.underlying49 hf with ⟨hcs, hx⟩ | ⟨a, len', cap', m, n, D, Pl, hcs, _, hl, hm, hmm, hx, hel⟩
  · simp [Value.cells] at hcs
    obtain ⟨rfl, rfl, rfl⟩ := hcs
    exact ⟨none, 0, 0, [], rfl, Nat.le_refl _, Nat.zero_le _, Sl.nil _ _ _, rfl, fun x hx => by cases hx⟩
  · simp [Value.cells] at hcs
    obtain ⟨rfl, rfl, rfl⟩ := hcs
    simp only [if_true] at hmm
    have each : ∀ i, i < len → ∃ w : Tn, w.wf ∧ ∀ j, j < 2 → W.cell? ((a.add (i * 2)).add j) = w.cells[j]? := by
      intro i hi
      obtain ⟨cs', h3, h4⟩ := hel i (by omega)
      rw [hct] at h3
      obtain ⟨w, rfl, h5⟩ := tn_trod h4
      exact ⟨w, h5, (cells_at h3).2⟩
    obtain ⟨f, hfl⟩ := Deep.choose_lt each
    refine ⟨some a, len, cap, (List.range len).map f, rfl, hl, hm, ⟨by rw [Tx_len]; simp, fun hn => ⟨a, rfl, ?_, ?_⟩⟩, by simp, fun w hw => ?_⟩
    · have h3 := (hfl 0 hn).2 0 (by omega)
      have h4 := World.block_lt_of_cell? W _ (h3.trans (show ((f 0).cells)[0]? = some _ from rfl))
      rwa [addr_add_block, addr_add_block] at h4
    · intro j y hy
      have hj : j < len * 2 := by
        rcases Nat.lt_or_ge j (len * 2) with h | h
        · exact h
        · rw [List.getElem?_eq_none (by rw [Tx_len]; simpa using h)] at hy; cases hy
      have h3 := (hfl (j / 2) (by omega)).2 (j % 2) (by omega)
      rw [addr_add_add, show j / 2 * 2 + j % 2 = j by omega] at h3
      rw [h3]
      have h4 := Tx_at ((List.range len).map f) (j / 2) (by simp; omega) (j % 2) (by omega)
      rw [show j / 2 * 2 + j % 2 = j by omega] at h4
      rw [← hy, h4]
      simp
    · obtain ⟨i, hi, rfl⟩ := List.mem_map.1 hw
      exact (hfl i (by simpa using hi)).1
end
theorem add_pos (q : Addr) {n : Nat} (h : n ≠ 0) : q.add n = ⟨q.block, q.off + n, none⟩ := by unfold Addr.add; rw [if_neg h]
theorem app_assoc (a b c : ByteArray) : a ++ b ++ c = a ++ (b ++ c) := by
  apply ByteArray.ext
  simp [ByteArray.data_append, Array.append_assoc]
theorem app_nil (a : ByteArray) : a ++ noS = a := by
  apply ByteArray.ext
  simp [ByteArray.data_append, noS]
theorem one_rest (s : ByteArray) (h : 0 < s.size) : one (firstV s) ++ restS s = s := by
  have h1 : one (firstV s) = ⟨#[s[0]'h]⟩ := by
    unfold one firstV
    rw [dif_pos h]
    unfold strOfNums
    simp
  rw [h1]
  apply ByteArray.ext
  apply Array.ext'
  have h2 : s.data.toList = (s[0]'h) :: s.data.toList.drop 1 := by
    have hl : 0 < s.data.toList.length := by rw [Array.length_toList]; exact h
    have := List.drop_eq_getElem_cons hl
    rw [List.drop_zero] at this
    exact this
  rw [ByteArray.data_append, Array.toList_append]
  unfold restS
  rw [ByteArray.data_extract, Array.toList_extract]
  conv => rhs; rw [h2]
  have h3 : s.data.toList.length = s.size := by rw [Array.length_toList]; rfl
  simp only [List.extract_eq_take_drop, List.singleton_append]
  rw [List.take_of_length_le (by rw [List.length_drop, h3]; omega)]
set_option maxRecDepth 100000 in
set_option maxHeartbeats 16000000 in
theorem order_all (S : Option Addr) (m c : Nat) (L : List Tn) (w : World) (hs : Sl w 2 S m (Tx L)) (hL : L.length = m) (hwf : ∀ a ∈ L, a.wf) : Calls Try.prog 5 #[.slice S m c] w fun e w' => e = .returned (.bool true) ∧ Later w w' := by
  have KS := Lib.hid fun w' => sanity_any w'
  by_cases h300 : 300 < (m : Int)
  · have d300 : decide (300 < (m : Int)) = true := decide_eq_true h300
    clear hs hL hwf h300
    go_enter Try.func5, Try.ntmps5
    go_wp2_with (first
      | (go_at_call 7; (with_reducible refine (KS.out _).mono ?_); rintro e w3 ⟨rfl, l1⟩))
    go_ret
    exact ⟨rfl, l1⟩
  have d300 : decide (300 < (m : Int)) = false := decide_eq_false h300
  have HS := Lib.hid fun (w' : World) (hl : Later w w') => hs.keep hl
  have HLN := Lib.hid hL
  have HWF := Lib.hid hwf
  clear hs hL hwf
  go_enter Try.func5, Try.ntmps5
  go_upto_region 4 with (first
    | ((with_reducible refine wpList_bld (o := ⟨some 24, .build 23 #[], _, _, _, none⟩) rfl _ #[] #[] (zC.cells).toArray rfl ?_ (run_c0 _) ?_); rfl)
    | ((with_reducible refine wpList_store_abs (o := ⟨none, .store 23 (.tmp 3) (.tmp 24), _, _, _, none⟩) rfl _ _ _ rfl w.heap.size 23 zC.cells zC.cells ?_ ?_ ?_ ?_ ?_ ?_ ?_); rfl; rfl; exact (Blk.new _ _ _ _ rfl); exact cn_sz _; rfl; exact cn_one _; intro u3 b3 o3; have lw := Below.only (later1 w (.cells zC.cells.toArray 23)) o3 (Nat.le_refl _); clear o3))
  clear d300
  go_wp2
  go_loopw [4, 5, 6, 7, 8, 9] (fun s4 s5 s6 s7 s8 i wr => ∃ (j : Nat) (x : Cn) (a b p : ByteArray) (q : Int), j ≤ m ∧ s4 = .string a ∧ s5 = .string b ∧ s6 = .string p ∧ s7 = .string p ∧ s8 = .int .i64 q ∧ i = .int .i64 j ∧ Hid (b ++ x.s = a ∧ x.s.size ≤ 64 ∧ 0 ≤ x.n ∧ (a.size : Int) + x.n = q ∧ q ≤ j ∧ b.size ≤ j ∧ p.size ≤ j) ∧ Blk wr w.heap.size 23 x.cells ∧ Later w wr) (fun _ _ _ _ _ i _ => m - (intOf i).toNat)
  case atStart => exact ⟨0, zC, noS, noS, noS, 0, by omega, rfl, rfl, rfl, rfl, rfl, rfl, ⟨rfl, by decide, by decide, by decide, by decide, by decide, by decide⟩, b3, lw⟩
  case round =>
    clear b3 lw
    have m300 : (m : Int) ≤ 300 := by omega
    clear h300
    obtain ⟨j, x, a, b, p, q, hj, rfl, rfl, rfl, rfl, rfl, rfl, HI, b3, lw⟩ := hrel
    obtain ⟨i1, i2, i3, i4, i5, i6, i7⟩ := HI.out
    by_cases hjm : j < m
    · have hjmi : (j : Int) < (m : Int) := by omega
      have hj0 : (0 : Int) ≤ j := by omega
      have hLj : j < L.length := by rw [HLN.out]; exact hjm
      obtain ⟨t, htL⟩ : ∃ t, t = L[j] := ⟨_, rfl⟩
      have HAW := Lib.hid (show t.wf by rw [htL]; exact HWF.out _ (List.getElem_mem _))
      obtain ⟨ad, hAd, hadb, _⟩ := (HS.out wr lw).2 (by omega)
      have HC := Lib.hid (show ∀ (w' : World), Later w w' → ∀ (i : Nat) (v : Value), t.cells[i]? = some v → w'.cell? ((ad.add (j * 2)).add i) = some v from by
        intro w' hl i v hi
        have hi3 : i < 2 := by
          rcases Nat.lt_or_ge i 2 with h | h
          · exact h
          · rw [List.getElem?_eq_none (show t.cells.length ≤ i from h)] at hi; cases hi
        obtain ⟨ad2, hA2, _, hc2⟩ := (HS.out w' hl).2 (by omega)
        have e2 : ad = ad2 := by rw [hAd] at hA2; exact Option.some.inj hA2
        subst e2
        rw [addr_add_add]
        refine hc2 _ v ?_
        rw [Tx_at L j hLj i hi3, ← htL]
        exact hi)
      subst hAd
      have HC1 := Lib.hid (fun (w' : World) (hl : Later w w') => (show w'.cell? ⟨(ad.add (j * 2)).block, (ad.add (j * 2)).off + 1, none⟩ = some (.int .u8 t.b) from by have := HC.out w' hl 1 _ rfl; rwa [add_pos _ (by decide)] at this))
      have c0 : wr.cell? (ad.add (j * 2)) = some (.int .u8 t.kd) := HC.out wr lw 0 _ rfl
      have c1 := HC1.out wr lw
      have H3 := Lib.hid b3.lt
      clear htL hLj i1
      have i1 := True.intro
      go_upto_region 13 with fail
      by_cases r0 : t.kd % 3 = 0
      · have q0 : t.kd.tmod 3 = 0 := by rw [Int.tmod_eq_emod_of_nonneg HAW.out.kd.1]; exact r0
        clear r0
        have aw : IntKind.i64.wrap (q + 1) = q + 1 := by rw [IntKind.wrap_i64]; omega
        have KO0 := fun w' => feed_any x t.b w' i3 (by omega)
        by_cases h64 : 64 ≤ x.s.size
        · obtain ⟨y, hy⟩ : ∃ y, y = x.feedC t.b := ⟨_, rfl⟩
          have hy2 : y = ⟨x.s, min (x.n + 1) 1099511627776⟩ := by rw [hy]; exact if_pos h64
          have hfd : x.fed = false := by unfold Cn.fed; rw [decide_eq_true h64]; rfl
          rw [← hy, hfd] at KO0
          have KO := Lib.hid KO0
          have hys : y.s = x.s := by rw [hy2]
          have hyn : y.n = x.n + 1 := by rw [hy2]; show min (x.n + 1) 1099511627776 = x.n + 1; omega
          have HN := Lib.hid (show b ++ y.s = a ∧ y.s.size ≤ 64 ∧ 0 ≤ y.n ∧ (a.size : Int) + y.n = q + 1 ∧ q + 1 ≤ ((j + 1 : Nat) : Int) ∧ b.size ≤ j + 1 ∧ p.size ≤ j + 1 from ⟨by rw [hys]; exact HI.out.1, by rw [hys]; omega, by omega, by omega, by omega, by omega, by omega⟩)
          clear hy hy2 hfd hys hyn h64 i1 i2 i3 i4 i5 i6 i7 KO0
          go_upto_region 14 with fail
          clear q0
          go_cut [10, 11] (fun q10 q11 wx => ∃ g : Nat, q10 = .pointer (some ⟨g, 0, none⟩) ∧ q11 = .bool false ∧ Blk wx g 23 y.cells ∧ wr.heap.size ≤ g ∧ Blk wx w.heap.size 23 x.cells ∧ Later w wx)
          case first => as_aux_lemma =>
            replace b3 := b3.drew
            replace lw := lw.drew
            refine wp_region_held_drew (S := fun w' => World.rangeAt w' w.heap.size 0 x.cells ∧ w'.cell? ⟨(ad.add (j * 2)).block, (ad.add (j * 2)).off + 1, none⟩ = some (.int .u8 t.b)) (by kernel_rfl) ⟨(show World.rangeAt _ w.heap.size 0 x.cells from b3.range 0 2), HC1.out _ lw⟩ (fun hHeld => ?_)
            refine wpAnyH_take (i := 0) (oi := ⟨some 40, .load 23 (.tmp 3), _, _, _, none⟩) (v := .agg x.cells.toArray) rfl (by kernel_rfl) (by kernel_rfl) (by kernel_rfl) (fun _ _ _ h => h) (yieldsIf_load_mid (by rfl) _ _ rfl _ _ rfl x.cells _ (fun w h => h.1) Try.underlying23 rfl (cn_sz _)) hHeld ?_
            simp only [Act.put, List.setIfInBounds_toArray, List.set_cons_zero, List.set_cons_succ]
            refine wpAnyH_take (i := 1) (oi := ⟨some 41, .move (.tmp 0), _, _, _, none⟩) (v := .slice (some ad) m c) rfl (by kernel_rfl) (by kernel_rfl) (by kernel_rfl) (fun _ _ _ h => h) (Or.inl ⟨by rfl, fun _ _ => rfl⟩) hHeld ?_
            simp only [Act.put, List.setIfInBounds_toArray, List.set_cons_zero, List.set_cons_succ]
            refine wpAnyH_take (i := 2) (oi := ⟨some 42, .move (.tmp 9), _, _, _, none⟩) (v := .int .i64 (j : Int)) rfl (by kernel_rfl) (by kernel_rfl) (by kernel_rfl) (fun _ _ _ h => h) (Or.inl ⟨by rfl, fun _ _ => rfl⟩) hHeld ?_
            simp only [Act.put, List.setIfInBounds_toArray, List.set_cons_zero, List.set_cons_succ]
            refine wpAnyH_take (i := 3) (oi := ⟨some 43, .indexAddr 49 (.tmp 41) (.tmp 42), _, _, _, none⟩) (v := .pointer (some (ad.add (j * 2)))) rfl (by kernel_rfl) (by kernel_rfl) (by kernel_rfl) (fun _ _ _ h => h) (Or.inl ⟨by rfl, fun w _ => by go_simp⟩) hHeld ?_
            simp only [Act.put, List.setIfInBounds_toArray, List.set_cons_zero, List.set_cons_succ]
            refine wpAnyH_take (i := 4) (oi := ⟨some 44, .fieldAddr 51 (.tmp 43) 1, _, _, _, none⟩) (v := .pointer (some ⟨(ad.add (j * 2)).block, (ad.add (j * 2)).off + 1, none⟩)) rfl (by kernel_rfl) (by kernel_rfl) (by kernel_rfl) (fun _ _ _ h => h) (Or.inl ⟨by rfl, fun w _ => by go_simp⟩) hHeld ?_
            simp only [Act.put, List.setIfInBounds_toArray, List.set_cons_zero, List.set_cons_succ]
            refine wpAnyH_take (i := 5) (oi := ⟨some 45, .load 5 (.tmp 44), _, _, _, none⟩) (v := .int .u8 t.b) rfl (by kernel_rfl) (by kernel_rfl) (by kernel_rfl) (fun _ _ _ h => h) (Or.inl ⟨by rfl, fun w hSw => by have e1 := hSw.2; clear hSw; go_simp⟩) hHeld ?_
            simp only [Act.put, List.setIfInBounds_toArray, List.set_cons_zero, List.set_cons_succ]
            refine wpAnyH_ready (rs := [6, 10]) (by kernel_rfl) (by simp) (AllReadyH.cons (o := ⟨some 46, .call { callee := .value (.func 12), args := #[.tmp 40, .tmp 45], argTypes := #[23, 5] }, _, _, _, none⟩) rfl (fun K' hK => ?_) (AllReadyH.cons (o := ⟨some 10, .alloc 23, _, _, _, none⟩) rfl (fun K' hK => ?_) AllReadyH.nil))
            · go_simp
              (with_reducible refine (KO.out _).mono ?_)
              rintro e v7 ⟨rfl, l1⟩
              replace b3 := b3.keep l1
              replace lw := Later.trans_ lw l1
              try replace bf := bf.keep l1
              refine hK.out _ _ ⟨(show World.rangeAt _ w.heap.size 0 x.cells from b3.range 0 2), HC1.out _ lw⟩ (fun hHeld => ?_)
              clear hK K'
              try simp only [Act.put, List.setIfInBounds_toArray, List.set_cons_zero, List.set_cons_succ]
              refine wpAnyH_take (i := 7) (oi := ⟨some 39, .move (.tmp 46), _, _, _, none⟩) (v := (.tuple #[.agg y.cells.toArray, .bool false])) rfl (by kernel_rfl) (by kernel_rfl) (by kernel_rfl) (fun _ _ _ h => h) (Or.inl ⟨by rfl, fun _ _ => rfl⟩) hHeld ?_
              simp only [Act.put, List.setIfInBounds_toArray, List.set_cons_zero, List.set_cons_succ]
              refine wpAnyH_take (i := 8) (oi := ⟨some 47, .extract (.tmp 39) 0, _, _, _, none⟩) (v := .agg y.cells.toArray) rfl (by kernel_rfl) (by kernel_rfl) (by kernel_rfl) (fun _ _ _ h => h) (Or.inl ⟨by rfl, fun w _ => by go_simp⟩) hHeld ?_
              simp only [Act.put, List.setIfInBounds_toArray, List.set_cons_zero, List.set_cons_succ]
              refine wpAnyH_take (i := 9) (oi := ⟨some 48, .extract (.tmp 39) 1, _, _, _, none⟩) (v := .bool false) rfl (by kernel_rfl) (by kernel_rfl) (by kernel_rfl) (fun _ _ _ h => h) (Or.inl ⟨by rfl, fun w _ => by go_simp⟩) hHeld ?_
              simp only [Act.put, List.setIfInBounds_toArray, List.set_cons_zero, List.set_cons_succ]
              refine wpAnyH_ready (rs := [10]) (by kernel_rfl) (by simp) (AllReadyH.cons (o := ⟨some 10, .alloc 23, _, _, _, none⟩) rfl (fun K' hK => ?_) AllReadyH.nil)
              go_simp
              have hgs : wr.heap.size ≤ v7.heap.size := (by first | exact Nat.le_refl _ | exact l1.size)
              have n3 := Nat.ne_of_lt b3.lt
              have m2 := lw.size
              have bf := Blk.new v7 23 zC.cells.toArray zC.cells rfl
              replace b3 := b3.alloc (.cells zC.cells.toArray 23)
              replace lw := lw.alloc m2 (.cells zC.cells.toArray 23)
              refine hK.out _ _ ⟨(show World.rangeAt _ w.heap.size 0 x.cells from b3.range 0 2), HC1.out _ lw⟩ (fun hHeld => ?_)
              clear hK K'
              try simp only [Act.put, List.setIfInBounds_toArray, List.set_cons_zero, List.set_cons_succ]
              refine wpAnyH_ready (rs := [11]) (by kernel_rfl) (by simp) (AllReadyH.cons (o := ⟨none, .store 23 (.tmp 10) (.tmp 47), _, _, _, none⟩) rfl (fun K' hK => ?_) AllReadyH.nil)
              refine wp_store_blk 23 _ _ rfl (v7.heap.size) 23 zC.cells y.cells rfl rfl bf (cn_sz _) rfl (cn_one _) ?_
              intro wq bq oq
              clear bf
              have bf := bq
              clear bq
              replace b3 := b3.only oq n3
              replace lw := Below.only lw oq m2
              clear oq
              refine hK.out _ _ ⟨(show World.rangeAt _ w.heap.size 0 x.cells from b3.range 0 2), HC1.out _ lw⟩ (fun hHeld => ?_)
              clear hK K'
              try simp only [Act.put]
              refine wpAnyH_take (i := 12) (oi := ⟨some 11, .assign (.tmp 48), _, _, _, none⟩) (v := .bool false) rfl (by kernel_rfl) (by kernel_rfl) (by kernel_rfl) (fun _ _ _ h => h) (Or.inl ⟨by rfl, fun _ _ => rfl⟩) hHeld ?_
              simp only [Act.put, List.setIfInBounds_toArray, List.set_cons_zero, List.set_cons_succ]
              refine wpAnyH_done (by kernel_rfl) ?_ _
              clear hHeld
              go_wp2
              go_meet
              exact ⟨_, rfl, rfl, bf, hgs, b3, lw⟩
            · go_simp
              have hgs : wr.heap.size ≤ wr.heap.size := (by first | exact Nat.le_refl _ | exact l1.size)
              have n3 := Nat.ne_of_lt b3.lt
              have m2 := lw.size
              have bf := Blk.new wr.drew 23 zC.cells.toArray zC.cells rfl
              replace b3 := b3.alloc (.cells zC.cells.toArray 23)
              replace lw := lw.alloc m2 (.cells zC.cells.toArray 23)
              refine hK.out _ _ ⟨(show World.rangeAt _ w.heap.size 0 x.cells from b3.range 0 2), HC1.out _ lw⟩ (fun hHeld => ?_)
              clear hK K'
              try simp only [Act.put, List.setIfInBounds_toArray, List.set_cons_zero, List.set_cons_succ]
              refine wpAnyH_ready (rs := [6]) (by kernel_rfl) (by simp) (AllReadyH.cons (o := ⟨some 46, .call { callee := .value (.func 12), args := #[.tmp 40, .tmp 45], argTypes := #[23, 5] }, _, _, _, none⟩) rfl (fun K' hK => ?_) AllReadyH.nil)
              go_simp
              (with_reducible refine (KO.out _).mono ?_)
              rintro e v7 ⟨rfl, l1⟩
              replace b3 := b3.keep l1
              replace lw := Later.trans_ lw l1
              try replace bf := bf.keep l1
              refine hK.out _ _ ⟨(show World.rangeAt _ w.heap.size 0 x.cells from b3.range 0 2), HC1.out _ lw⟩ (fun hHeld => ?_)
              clear hK K'
              try simp only [Act.put, List.setIfInBounds_toArray, List.set_cons_zero, List.set_cons_succ]
              refine wpAnyH_take (i := 7) (oi := ⟨some 39, .move (.tmp 46), _, _, _, none⟩) (v := (.tuple #[.agg y.cells.toArray, .bool false])) rfl (by kernel_rfl) (by kernel_rfl) (by kernel_rfl) (fun _ _ _ h => h) (Or.inl ⟨by rfl, fun _ _ => rfl⟩) hHeld ?_
              simp only [Act.put, List.setIfInBounds_toArray, List.set_cons_zero, List.set_cons_succ]
              refine wpAnyH_take (i := 8) (oi := ⟨some 47, .extract (.tmp 39) 0, _, _, _, none⟩) (v := .agg y.cells.toArray) rfl (by kernel_rfl) (by kernel_rfl) (by kernel_rfl) (fun _ _ _ h => h) (Or.inl ⟨by rfl, fun w _ => by go_simp⟩) hHeld ?_
              simp only [Act.put, List.setIfInBounds_toArray, List.set_cons_zero, List.set_cons_succ]
              refine wpAnyH_take (i := 9) (oi := ⟨some 48, .extract (.tmp 39) 1, _, _, _, none⟩) (v := .bool false) rfl (by kernel_rfl) (by kernel_rfl) (by kernel_rfl) (fun _ _ _ h => h) (Or.inl ⟨by rfl, fun w _ => by go_simp⟩) hHeld ?_
              simp only [Act.put, List.setIfInBounds_toArray, List.set_cons_zero, List.set_cons_succ]
              refine wpAnyH_ready (rs := [11]) (by kernel_rfl) (by simp) (AllReadyH.cons (o := ⟨none, .store 23 (.tmp 10) (.tmp 47), _, _, _, none⟩) rfl (fun K' hK => ?_) AllReadyH.nil)
              refine wp_store_blk 23 _ _ rfl (wr.heap.size) 23 zC.cells y.cells rfl rfl bf (cn_sz _) rfl (cn_one _) ?_
              intro wq bq oq
              clear bf
              have bf := bq
              clear bq
              replace b3 := b3.only oq n3
              replace lw := Below.only lw oq m2
              clear oq
              refine hK.out _ _ ⟨(show World.rangeAt _ w.heap.size 0 x.cells from b3.range 0 2), HC1.out _ lw⟩ (fun hHeld => ?_)
              clear hK K'
              try simp only [Act.put]
              refine wpAnyH_take (i := 12) (oi := ⟨some 11, .assign (.tmp 48), _, _, _, none⟩) (v := .bool false) rfl (by kernel_rfl) (by kernel_rfl) (by kernel_rfl) (fun _ _ _ h => h) (Or.inl ⟨by rfl, fun _ _ => rfl⟩) hHeld ?_
              simp only [Act.put, List.setIfInBounds_toArray, List.set_cons_zero, List.set_cons_succ]
              refine wpAnyH_done (by kernel_rfl) ?_ _
              clear hHeld
              go_wp2
              go_meet
              exact ⟨_, rfl, rfl, bf, hgs, b3, lw⟩
          case rest =>
            clear b3 lw c0 c1
            obtain ⟨g, rfl, rfl, bf, hgs, b3, lw⟩ := hcut
            have g3 : g ≠ w.heap.size := by have := H3.out; omega
            clear hgs
            go_upto_region 32 with (first
              | ((with_reducible refine wpList_load_blk (o := ⟨some 61, .load 23 (.tmp 10), _, _, _, none⟩) rfl _ _ rfl g 23 y.cells _ ?_ ?_ Try.underlying23 rfl (cn_sz _) ?_); rfl; exact bf)
              | ((with_reducible refine wpList_store_abs (o := ⟨none, .store 23 (.tmp 3) (.tmp 61), _, _, _, none⟩) rfl _ _ _ rfl w.heap.size 23 x.cells y.cells ?_ ?_ ?_ ?_ ?_ ?_ ?_); rfl; rfl; exact b3; exact cn_sz _; rfl; exact cn_one _; intro u22 bq oq; clear b3; have b3 := bq; clear bq; replace lw := Below.only lw oq (Nat.le_refl _); clear oq; have e0 := b3.cell (cn_s y); have e1 := b3.cell (cn_n y)))
            have d64 : decide ((64 : Int) < (y.s.size : Int)) = false := decide_eq_false (by have := HN.out.2.1; omega)
            have hby := HN.out.1
            have hsz : b.size ≤ 301 ∧ y.s.size ≤ 64 := ⟨by have := HN.out.2.2.2.2.2.1; omega, HN.out.2.1⟩
            obtain ⟨hb300, hy64⟩ := hsz
            have hwr : IntKind.i64.wrap ((a.size : Int) + y.n) = q + 1 := by rw [IntKind.wrap_i64]; have := HN.out.2.2; omega
            go_wp2
            go_roundw
            case rel => exact ⟨j + 1, y, a, b, p, q + 1, by omega, rfl, rfl, rfl, rfl, rfl, by go_num, HN.out, b3, lw⟩
            case measure => simp [intOf]; omega
        · have hlt : x.s.size < 64 := by omega
          obtain ⟨y, hy⟩ : ∃ y, y = x.feedC t.b := ⟨_, rfl⟩
          have hy2 : y = ⟨x.s ++ one t.b, x.n⟩ := by rw [hy]; exact if_neg h64
          have hfd : x.fed = true := by unfold Cn.fed; rw [decide_eq_false h64]; rfl
          rw [← hy, hfd] at KO0
          have KO := Lib.hid KO0
          obtain ⟨a2, ha2⟩ : ∃ z, z = a ++ one t.b := ⟨_, rfl⟩
          have hs2 : a2.size = a.size + 1 := by rw [ha2, ByteArray.size_append]; rfl
          have hys : y.s.size = x.s.size + 1 := by rw [hy2]; show (x.s ++ one t.b).size = _; rw [ByteArray.size_append]; rfl
          have hyn : y.n = x.n := by rw [hy2]
          have hby : b ++ y.s = a2 := by rw [hy2, ha2, ← HI.out.1]; exact (app_assoc _ _ _).symm
          have HN := Lib.hid (show b ++ y.s = a2 ∧ y.s.size ≤ 64 ∧ 0 ≤ y.n ∧ (a2.size : Int) + y.n = q + 1 ∧ q + 1 ≤ ((j + 1 : Nat) : Int) ∧ b.size ≤ j + 1 ∧ p.size ≤ j + 1 from ⟨hby, by omega, by omega, by omega, by omega, by omega, by omega⟩)
          have hcat := Lib.hid ha2.symm
          have HA1 := Lib.hid (show a.size ≤ 300 by omega)
          clear hy hy2 hfd ha2 hs2 hys hyn hby h64 hlt i1 i2 i3 i4 i5 i6 i7 KO0
          go_upto_region 14 with fail
          clear q0
          go_cut [10, 11] (fun q10 q11 wx => ∃ g : Nat, q10 = .pointer (some ⟨g, 0, none⟩) ∧ q11 = .bool true ∧ Blk wx g 23 y.cells ∧ wr.heap.size ≤ g ∧ Blk wx w.heap.size 23 x.cells ∧ Later w wx)
          case first => as_aux_lemma =>
            replace b3 := b3.drew
            replace lw := lw.drew
            refine wp_region_held_drew (S := fun w' => World.rangeAt w' w.heap.size 0 x.cells ∧ w'.cell? ⟨(ad.add (j * 2)).block, (ad.add (j * 2)).off + 1, none⟩ = some (.int .u8 t.b)) (by kernel_rfl) ⟨(show World.rangeAt _ w.heap.size 0 x.cells from b3.range 0 2), HC1.out _ lw⟩ (fun hHeld => ?_)
            refine wpAnyH_take (i := 0) (oi := ⟨some 40, .load 23 (.tmp 3), _, _, _, none⟩) (v := .agg x.cells.toArray) rfl (by kernel_rfl) (by kernel_rfl) (by kernel_rfl) (fun _ _ _ h => h) (yieldsIf_load_mid (by rfl) _ _ rfl _ _ rfl x.cells _ (fun w h => h.1) Try.underlying23 rfl (cn_sz _)) hHeld ?_
            simp only [Act.put, List.setIfInBounds_toArray, List.set_cons_zero, List.set_cons_succ]
            refine wpAnyH_take (i := 1) (oi := ⟨some 41, .move (.tmp 0), _, _, _, none⟩) (v := .slice (some ad) m c) rfl (by kernel_rfl) (by kernel_rfl) (by kernel_rfl) (fun _ _ _ h => h) (Or.inl ⟨by rfl, fun _ _ => rfl⟩) hHeld ?_
            simp only [Act.put, List.setIfInBounds_toArray, List.set_cons_zero, List.set_cons_succ]
            refine wpAnyH_take (i := 2) (oi := ⟨some 42, .move (.tmp 9), _, _, _, none⟩) (v := .int .i64 (j : Int)) rfl (by kernel_rfl) (by kernel_rfl) (by kernel_rfl) (fun _ _ _ h => h) (Or.inl ⟨by rfl, fun _ _ => rfl⟩) hHeld ?_
            simp only [Act.put, List.setIfInBounds_toArray, List.set_cons_zero, List.set_cons_succ]
            refine wpAnyH_take (i := 3) (oi := ⟨some 43, .indexAddr 49 (.tmp 41) (.tmp 42), _, _, _, none⟩) (v := .pointer (some (ad.add (j * 2)))) rfl (by kernel_rfl) (by kernel_rfl) (by kernel_rfl) (fun _ _ _ h => h) (Or.inl ⟨by rfl, fun w _ => by go_simp⟩) hHeld ?_
            simp only [Act.put, List.setIfInBounds_toArray, List.set_cons_zero, List.set_cons_succ]
            refine wpAnyH_take (i := 4) (oi := ⟨some 44, .fieldAddr 51 (.tmp 43) 1, _, _, _, none⟩) (v := .pointer (some ⟨(ad.add (j * 2)).block, (ad.add (j * 2)).off + 1, none⟩)) rfl (by kernel_rfl) (by kernel_rfl) (by kernel_rfl) (fun _ _ _ h => h) (Or.inl ⟨by rfl, fun w _ => by go_simp⟩) hHeld ?_
            simp only [Act.put, List.setIfInBounds_toArray, List.set_cons_zero, List.set_cons_succ]
            refine wpAnyH_take (i := 5) (oi := ⟨some 45, .load 5 (.tmp 44), _, _, _, none⟩) (v := .int .u8 t.b) rfl (by kernel_rfl) (by kernel_rfl) (by kernel_rfl) (fun _ _ _ h => h) (Or.inl ⟨by rfl, fun w hSw => by have e1 := hSw.2; clear hSw; go_simp⟩) hHeld ?_
            simp only [Act.put, List.setIfInBounds_toArray, List.set_cons_zero, List.set_cons_succ]
            refine wpAnyH_ready (rs := [6, 10]) (by kernel_rfl) (by simp) (AllReadyH.cons (o := ⟨some 46, .call { callee := .value (.func 12), args := #[.tmp 40, .tmp 45], argTypes := #[23, 5] }, _, _, _, none⟩) rfl (fun K' hK => ?_) (AllReadyH.cons (o := ⟨some 10, .alloc 23, _, _, _, none⟩) rfl (fun K' hK => ?_) AllReadyH.nil))
            · go_simp
              (with_reducible refine (KO.out _).mono ?_)
              rintro e v7 ⟨rfl, l1⟩
              replace b3 := b3.keep l1
              replace lw := Later.trans_ lw l1
              try replace bf := bf.keep l1
              refine hK.out _ _ ⟨(show World.rangeAt _ w.heap.size 0 x.cells from b3.range 0 2), HC1.out _ lw⟩ (fun hHeld => ?_)
              clear hK K'
              try simp only [Act.put, List.setIfInBounds_toArray, List.set_cons_zero, List.set_cons_succ]
              refine wpAnyH_take (i := 7) (oi := ⟨some 39, .move (.tmp 46), _, _, _, none⟩) (v := (.tuple #[.agg y.cells.toArray, .bool true])) rfl (by kernel_rfl) (by kernel_rfl) (by kernel_rfl) (fun _ _ _ h => h) (Or.inl ⟨by rfl, fun _ _ => rfl⟩) hHeld ?_
              simp only [Act.put, List.setIfInBounds_toArray, List.set_cons_zero, List.set_cons_succ]
              refine wpAnyH_take (i := 8) (oi := ⟨some 47, .extract (.tmp 39) 0, _, _, _, none⟩) (v := .agg y.cells.toArray) rfl (by kernel_rfl) (by kernel_rfl) (by kernel_rfl) (fun _ _ _ h => h) (Or.inl ⟨by rfl, fun w _ => by go_simp⟩) hHeld ?_
              simp only [Act.put, List.setIfInBounds_toArray, List.set_cons_zero, List.set_cons_succ]
              refine wpAnyH_take (i := 9) (oi := ⟨some 48, .extract (.tmp 39) 1, _, _, _, none⟩) (v := .bool true) rfl (by kernel_rfl) (by kernel_rfl) (by kernel_rfl) (fun _ _ _ h => h) (Or.inl ⟨by rfl, fun w _ => by go_simp⟩) hHeld ?_
              simp only [Act.put, List.setIfInBounds_toArray, List.set_cons_zero, List.set_cons_succ]
              refine wpAnyH_ready (rs := [10]) (by kernel_rfl) (by simp) (AllReadyH.cons (o := ⟨some 10, .alloc 23, _, _, _, none⟩) rfl (fun K' hK => ?_) AllReadyH.nil)
              go_simp
              have hgs : wr.heap.size ≤ v7.heap.size := (by first | exact Nat.le_refl _ | exact l1.size)
              have n3 := Nat.ne_of_lt b3.lt
              have m2 := lw.size
              have bf := Blk.new v7 23 zC.cells.toArray zC.cells rfl
              replace b3 := b3.alloc (.cells zC.cells.toArray 23)
              replace lw := lw.alloc m2 (.cells zC.cells.toArray 23)
              refine hK.out _ _ ⟨(show World.rangeAt _ w.heap.size 0 x.cells from b3.range 0 2), HC1.out _ lw⟩ (fun hHeld => ?_)
              clear hK K'
              try simp only [Act.put, List.setIfInBounds_toArray, List.set_cons_zero, List.set_cons_succ]
              refine wpAnyH_ready (rs := [11]) (by kernel_rfl) (by simp) (AllReadyH.cons (o := ⟨none, .store 23 (.tmp 10) (.tmp 47), _, _, _, none⟩) rfl (fun K' hK => ?_) AllReadyH.nil)
              refine wp_store_blk 23 _ _ rfl (v7.heap.size) 23 zC.cells y.cells rfl rfl bf (cn_sz _) rfl (cn_one _) ?_
              intro wq bq oq
              clear bf
              have bf := bq
              clear bq
              replace b3 := b3.only oq n3
              replace lw := Below.only lw oq m2
              clear oq
              refine hK.out _ _ ⟨(show World.rangeAt _ w.heap.size 0 x.cells from b3.range 0 2), HC1.out _ lw⟩ (fun hHeld => ?_)
              clear hK K'
              try simp only [Act.put]
              refine wpAnyH_take (i := 12) (oi := ⟨some 11, .assign (.tmp 48), _, _, _, none⟩) (v := .bool true) rfl (by kernel_rfl) (by kernel_rfl) (by kernel_rfl) (fun _ _ _ h => h) (Or.inl ⟨by rfl, fun _ _ => rfl⟩) hHeld ?_
              simp only [Act.put, List.setIfInBounds_toArray, List.set_cons_zero, List.set_cons_succ]
              refine wpAnyH_done (by kernel_rfl) ?_ _
              clear hHeld
              go_wp2
              go_meet
              exact ⟨_, rfl, rfl, bf, hgs, b3, lw⟩
            · go_simp
              have hgs : wr.heap.size ≤ wr.heap.size := (by first | exact Nat.le_refl _ | exact l1.size)
              have n3 := Nat.ne_of_lt b3.lt
              have m2 := lw.size
              have bf := Blk.new wr.drew 23 zC.cells.toArray zC.cells rfl
              replace b3 := b3.alloc (.cells zC.cells.toArray 23)
              replace lw := lw.alloc m2 (.cells zC.cells.toArray 23)
              refine hK.out _ _ ⟨(show World.rangeAt _ w.heap.size 0 x.cells from b3.range 0 2), HC1.out _ lw⟩ (fun hHeld => ?_)
              clear hK K'
              try simp only [Act.put, List.setIfInBounds_toArray, List.set_cons_zero, List.set_cons_succ]
              refine wpAnyH_ready (rs := [6]) (by kernel_rfl) (by simp) (AllReadyH.cons (o := ⟨some 46, .call { callee := .value (.func 12), args := #[.tmp 40, .tmp 45], argTypes := #[23, 5] }, _, _, _, none⟩) rfl (fun K' hK => ?_) AllReadyH.nil)
              go_simp
              (with_reducible refine (KO.out _).mono ?_)
              rintro e v7 ⟨rfl, l1⟩
              replace b3 := b3.keep l1
              replace lw := Later.trans_ lw l1
              try replace bf := bf.keep l1
              refine hK.out _ _ ⟨(show World.rangeAt _ w.heap.size 0 x.cells from b3.range 0 2), HC1.out _ lw⟩ (fun hHeld => ?_)
              clear hK K'
              try simp only [Act.put, List.setIfInBounds_toArray, List.set_cons_zero, List.set_cons_succ]
              refine wpAnyH_take (i := 7) (oi := ⟨some 39, .move (.tmp 46), _, _, _, none⟩) (v := (.tuple #[.agg y.cells.toArray, .bool true])) rfl (by kernel_rfl) (by kernel_rfl) (by kernel_rfl) (fun _ _ _ h => h) (Or.inl ⟨by rfl, fun _ _ => rfl⟩) hHeld ?_
              simp only [Act.put, List.setIfInBounds_toArray, List.set_cons_zero, List.set_cons_succ]
              refine wpAnyH_take (i := 8) (oi := ⟨some 47, .extract (.tmp 39) 0, _, _, _, none⟩) (v := .agg y.cells.toArray) rfl (by kernel_rfl) (by kernel_rfl) (by kernel_rfl) (fun _ _ _ h => h) (Or.inl ⟨by rfl, fun w _ => by go_simp⟩) hHeld ?_
              simp only [Act.put, List.setIfInBounds_toArray, List.set_cons_zero, List.set_cons_succ]
              refine wpAnyH_take (i := 9) (oi := ⟨some 48, .extract (.tmp 39) 1, _, _, _, none⟩) (v := .bool true) rfl (by kernel_rfl) (by kernel_rfl) (by kernel_rfl) (fun _ _ _ h => h) (Or.inl ⟨by rfl, fun w _ => by go_simp⟩) hHeld ?_
              simp only [Act.put, List.setIfInBounds_toArray, List.set_cons_zero, List.set_cons_succ]
              refine wpAnyH_ready (rs := [11]) (by kernel_rfl) (by simp) (AllReadyH.cons (o := ⟨none, .store 23 (.tmp 10) (.tmp 47), _, _, _, none⟩) rfl (fun K' hK => ?_) AllReadyH.nil)
              refine wp_store_blk 23 _ _ rfl (wr.heap.size) 23 zC.cells y.cells rfl rfl bf (cn_sz _) rfl (cn_one _) ?_
              intro wq bq oq
              clear bf
              have bf := bq
              clear bq
              replace b3 := b3.only oq n3
              replace lw := Below.only lw oq m2
              clear oq
              refine hK.out _ _ ⟨(show World.rangeAt _ w.heap.size 0 x.cells from b3.range 0 2), HC1.out _ lw⟩ (fun hHeld => ?_)
              clear hK K'
              try simp only [Act.put]
              refine wpAnyH_take (i := 12) (oi := ⟨some 11, .assign (.tmp 48), _, _, _, none⟩) (v := .bool true) rfl (by kernel_rfl) (by kernel_rfl) (by kernel_rfl) (fun _ _ _ h => h) (Or.inl ⟨by rfl, fun _ _ => rfl⟩) hHeld ?_
              simp only [Act.put, List.setIfInBounds_toArray, List.set_cons_zero, List.set_cons_succ]
              refine wpAnyH_done (by kernel_rfl) ?_ _
              clear hHeld
              go_wp2
              go_meet
              exact ⟨_, rfl, rfl, bf, hgs, b3, lw⟩
          case rest =>
            clear b3 lw c0 c1
            obtain ⟨g, rfl, rfl, bf, hgs, b3, lw⟩ := hcut
            have g3 : g ≠ w.heap.size := by have := H3.out; omega
            clear hgs
            go_upto_region 17 with fail
            have hc := conv_one t.b wc
            have c1 := HC1.out _ (lw.alloc lw.size (.cells #[.int .u8 t.b] 5))
            have c10 := HC1.out _ lw
            have o1s : (one t.b).size = 1 := rfl
            have ha3 := HA1.out
            obtain ⟨o1, ho1⟩ : ∃ z, z = one t.b := ⟨_, rfl⟩
            rw [← ho1] at hc o1s
            have hca := hcat.out
            rw [← ho1] at hca
            replace b3 := b3.alloc (.cells #[.int .u8 t.b] 5)
            replace bf := bf.alloc (.cells #[.int .u8 t.b] 5)
            replace lw := lw.alloc lw.size (.cells #[.int .u8 t.b] 5)
            clear ho1
            go_upto_region 18 with fail
            clear hc c1 c10 o1s ha3 hca
            go_upto_region 32 with (first
              | ((with_reducible refine wpList_load_blk (o := ⟨some 61, .load 23 (.tmp 10), _, _, _, none⟩) rfl _ _ rfl g 23 y.cells _ ?_ ?_ Try.underlying23 rfl (cn_sz _) ?_); rfl; exact bf)
              | ((with_reducible refine wpList_store_abs (o := ⟨none, .store 23 (.tmp 3) (.tmp 61), _, _, _, none⟩) rfl _ _ _ rfl w.heap.size 23 x.cells y.cells ?_ ?_ ?_ ?_ ?_ ?_ ?_); rfl; rfl; exact b3; exact cn_sz _; rfl; exact cn_one _; intro u22 bq oq; clear b3; have b3 := bq; clear bq; replace lw := Below.only lw oq (Nat.le_refl _); clear oq; have e0 := b3.cell (cn_s y); have e1 := b3.cell (cn_n y)))
            have d64 : decide ((64 : Int) < (y.s.size : Int)) = false := decide_eq_false (by have := HN.out.2.1; omega)
            have hby := HN.out.1
            have hsz : b.size ≤ 301 ∧ y.s.size ≤ 64 := ⟨by have := HN.out.2.2.2.2.2.1; omega, HN.out.2.1⟩
            obtain ⟨hb300, hy64⟩ := hsz
            have hwr : IntKind.i64.wrap ((a2.size : Int) + y.n) = q + 1 := by rw [IntKind.wrap_i64]; have := HN.out.2.2; omega
            go_wp2
            go_roundw
            case rel => exact ⟨j + 1, y, a2, b, p, q + 1, by omega, rfl, rfl, rfl, rfl, rfl, by go_num, HN.out, b3, lw⟩
            case measure => simp [intOf]; omega
      · by_cases r1 : t.kd % 3 = 1
        · have q0 : t.kd.tmod 3 = 1 := by rw [Int.tmod_eq_emod_of_nonneg HAW.out.kd.1]; exact r1
          clear r0 r1
          have KO0 := fun w' => (show Calls Try.prog 13 #[.agg x.cells.toArray, .agg #[.bool true, .int .i64 33, .int .u32 0]] w' fun e w'' => e = .returned (.tuple #[.agg (⟨restS x.s, x.n⟩ : Cn).cells.toArray, .int .u32 (firstV x.s), .string ⟨#[]⟩, .bool true]) ∧ Later w' w'' from port_take x 0 w' i2)
          by_cases h0 : 0 < x.s.size
          · have hr := firstV_r x.s h0
            have h1r := one_rest x.s h0
            have hys0 : (restS x.s).size + 1 = x.s.size := by
              have h9 := congrArg ByteArray.size h1r
              rw [ByteArray.size_append, show (one (firstV x.s)).size = 1 from rfl] at h9
              omega
            obtain ⟨y, hy⟩ : ∃ y, y = (⟨restS x.s, x.n⟩ : Cn) := ⟨_, rfl⟩
            have hys : y.s = restS x.s := by rw [hy]
            have hyn : y.n = x.n := by rw [hy]
            rw [← hy] at KO0
            obtain ⟨V, hV⟩ : ∃ V, V = firstV x.s := ⟨_, rfl⟩
            rw [← hV] at KO0 hr h1r
            have KO := Lib.hid KO0
            obtain ⟨b2, hb2⟩ : ∃ z, z = b ++ one V := ⟨_, rfl⟩
            have hs2 : b2.size = b.size + 1 := by rw [hb2, ByteArray.size_append]; rfl
            have hby : b2 ++ y.s = a := by rw [hb2, hys, app_assoc, h1r]; exact HI.out.1
            have HN := Lib.hid (show b2 ++ y.s = a ∧ y.s.size ≤ 64 ∧ 0 ≤ y.n ∧ (a.size : Int) + y.n = q ∧ q ≤ ((j + 1 : Nat) : Int) ∧ b2.size ≤ j + 1 ∧ p.size ≤ j + 1 from ⟨hby, by rw [hys]; omega, by omega, by omega, by omega, by omega, by omega⟩)
            have hcat := Lib.hid hb2.symm
            have HB1 := Lib.hid (show b.size ≤ 300 by omega)
            have v1 : (V == 4294967295) = false := beq_false_of_ne (by omega)
            have v1' : (V != 4294967295) = true := by simp; omega
            have v2 : ((x.s.size : Int) == 0) = false := beq_false_of_ne (by omega)
            have v3 : decide (255 < V) = false := decide_eq_false (by omega)
            have v4 : decide (V ≤ 255) = true := decide_eq_true (by omega)
            have v5 : V % 256 = V := by omega
            clear hy hys hys0 hyn hV hb2 hs2 hby hr h1r i1 i2 i3 i4 i5 i6 i7 KO0 h0
            go_upto_region 24 with (first
              | ((with_reducible refine wpList_load_blk (o := ⟨some 65, .load 23 (.tmp 3), _, _, _, none⟩) rfl _ _ rfl w.heap.size 23 x.cells _ ?_ ?_ Try.underlying23 rfl (cn_sz _) ?_); rfl; exact b3)
              | (go_at_call 13; clear c0 c1; (with_reducible refine (KO.out _).mono ?_); rintro e v7 ⟨rfl, l1⟩; replace b3 := b3.keep l1; replace lw := Later.trans_ lw l1)
              | ((with_reducible refine wpList_store_abs (o := ⟨none, .store 23 (.tmp 12) (.tmp 68), _, _, _, none⟩) rfl _ _ _ rfl v7.heap.size 23 zC.cells y.cells ?_ ?_ ?_ ?_ ?_ ?_ ?_); rfl; rfl; exact (Blk.new _ _ _ _ rfl); exact cn_sz _; rfl; exact cn_one _; have n3 := Nat.ne_of_lt b3.lt; intro uu bf ob; replace b3 := (b3.alloc (.cells zC.cells.toArray 23)).only ob n3; replace lw := Below.only (lw.alloc lw.size (.cells zC.cells.toArray 23)) ob lw.size; clear ob; have e0 := b3.cell (cn_s x)))
            have hc := conv_one V uu
            have o1s : (one V).size = 1 := rfl
            have ha3 := HB1.out
            obtain ⟨o1, ho1⟩ : ∃ z, z = one V := ⟨_, rfl⟩
            rw [← ho1] at hc o1s
            have hca := hcat.out
            rw [← ho1] at hca
            replace b3 := b3.alloc (.cells #[.int .u8 V] 5)
            replace bf := bf.alloc (.cells #[.int .u8 V] 5)
            replace lw := lw.alloc lw.size (.cells #[.int .u8 V] 5)
            clear ho1 e0
            go_upto_region 25 with fail
            clear hc o1s ha3 hca v1 v1' v2 v3 v4 v5
            go_upto_region 32 with (first
              | ((with_reducible refine wpList_load_blk (o := ⟨some 103, .load 23 (.tmp 12), _, _, _, none⟩) rfl _ _ rfl v7.heap.size 23 y.cells _ ?_ ?_ Try.underlying23 rfl (cn_sz _) ?_); rfl; exact bf)
              | ((with_reducible refine wpList_store_abs (o := ⟨none, .store 23 (.tmp 3) (.tmp 103), _, _, _, none⟩) rfl _ _ _ rfl w.heap.size 23 x.cells y.cells ?_ ?_ ?_ ?_ ?_ ?_ ?_); rfl; rfl; exact b3; exact cn_sz _; rfl; exact cn_one _; intro u22 bq oq; clear b3; have b3 := bq; clear bq; replace lw := Below.only lw oq (Nat.le_refl _); clear oq; have e0 := b3.cell (cn_s y); have e1 := b3.cell (cn_n y)))
            have d64 : decide ((64 : Int) < (y.s.size : Int)) = false := decide_eq_false (by have := HN.out.2.1; omega)
            have hby := HN.out.1
            have hb300 : b2.size ≤ 301 := by have := HN.out.2.2.2.2.2.1; omega
            have hy64 : y.s.size ≤ 64 := HN.out.2.1
            have hwr : IntKind.i64.wrap ((a.size : Int) + y.n) = q := by rw [IntKind.wrap_i64]; have := HN.out.2.2; omega
            go_wp2
            go_roundw
            case rel => exact ⟨j + 1, y, a, b2, p, q, by omega, rfl, rfl, rfl, rfl, rfl, by go_num, HN.out, b3, lw⟩
            case measure => simp [intOf]; omega
          · have hx0 : x.s.size = 0 := by omega
            obtain ⟨y, hy⟩ : ∃ y, y = (⟨restS x.s, x.n⟩ : Cn) := ⟨_, rfl⟩
            have hys : y.s = x.s := by rw [hy]; show restS x.s = x.s; rw [restS_nil x.s h0]; exact (nil_S hx0).symm
            have hyn : y.n = x.n := by rw [hy]
            rw [← hy, show firstV x.s = 4294967295 from dif_neg h0] at KO0
            have KO := Lib.hid KO0
            have HN := Lib.hid (show b ++ y.s = a ∧ y.s.size ≤ 64 ∧ 0 ≤ y.n ∧ (a.size : Int) + y.n = q ∧ q ≤ ((j + 1 : Nat) : Int) ∧ b.size ≤ j + 1 ∧ p.size ≤ j + 1 from ⟨by rw [hys]; exact HI.out.1, by rw [hys]; omega, by omega, by omega, by omega, by omega, by omega⟩)
            have v2 : ((x.s.size : Int) == 0) = true := by rw [hx0]; rfl
            clear hy hys hyn hx0 i1 i2 i3 i4 i5 i6 i7 KO0 h0
            go_upto_region 23 with (first
              | ((with_reducible refine wpList_load_blk (o := ⟨some 65, .load 23 (.tmp 3), _, _, _, none⟩) rfl _ _ rfl w.heap.size 23 x.cells _ ?_ ?_ Try.underlying23 rfl (cn_sz _) ?_); rfl; exact b3)
              | (go_at_call 13; clear c0 c1; (with_reducible refine (KO.out _).mono ?_); rintro e v7 ⟨rfl, l1⟩; replace b3 := b3.keep l1; replace lw := Later.trans_ lw l1)
              | ((with_reducible refine wpList_store_abs (o := ⟨none, .store 23 (.tmp 12) (.tmp 68), _, _, _, none⟩) rfl _ _ _ rfl v7.heap.size 23 zC.cells y.cells ?_ ?_ ?_ ?_ ?_ ?_ ?_); rfl; rfl; exact (Blk.new _ _ _ _ rfl); exact cn_sz _; rfl; exact cn_one _; have n3 := Nat.ne_of_lt b3.lt; intro uu bf ob; replace b3 := (b3.alloc (.cells zC.cells.toArray 23)).only ob n3; replace lw := Below.only (lw.alloc lw.size (.cells zC.cells.toArray 23)) ob lw.size; clear ob; have e0 := b3.cell (cn_s x)))
            clear e0 v2
            go_upto_region 32 with (first
              | ((with_reducible refine wpList_load_blk (o := ⟨some 103, .load 23 (.tmp 12), _, _, _, none⟩) rfl _ _ rfl v7.heap.size 23 y.cells _ ?_ ?_ Try.underlying23 rfl (cn_sz _) ?_); rfl; exact bf)
              | ((with_reducible refine wpList_store_abs (o := ⟨none, .store 23 (.tmp 3) (.tmp 103), _, _, _, none⟩) rfl _ _ _ rfl w.heap.size 23 x.cells y.cells ?_ ?_ ?_ ?_ ?_ ?_ ?_); rfl; rfl; exact b3; exact cn_sz _; rfl; exact cn_one _; intro u22 bq oq; clear b3; have b3 := bq; clear bq; replace lw := Below.only lw oq (Nat.le_refl _); clear oq; have e0 := b3.cell (cn_s y); have e1 := b3.cell (cn_n y)))
            have d64 : decide ((64 : Int) < (y.s.size : Int)) = false := decide_eq_false (by have := HN.out.2.1; omega)
            have hby := HN.out.1
            have hb300 : b.size ≤ 301 := by have := HN.out.2.2.2.2.2.1; omega
            have hy64 : y.s.size ≤ 64 := HN.out.2.1
            have hwr : IntKind.i64.wrap ((a.size : Int) + y.n) = q := by rw [IntKind.wrap_i64]; have := HN.out.2.2; omega
            go_wp2
            go_roundw
            case rel => exact ⟨j + 1, y, a, b, p, q, by omega, rfl, rfl, rfl, rfl, rfl, by go_num, HN.out, b3, lw⟩
            case measure => simp [intOf]; omega
        · have q0 : t.kd.tmod 3 = 2 := by rw [Int.tmod_eq_emod_of_nonneg HAW.out.kd.1]; have := HAW.out.kd; omega
          clear r0 r1
          have hbb := HAW.out.b
          have u1 : IntKind.u32.wrap t.b = t.b := by rw [IntKind.wrap_u32]; omega
          have u2 : t.b % 4294967296 = t.b := by omega
          have u3 : IntKind.u32.wrap (256 + t.b) = 256 + t.b := by rw [IntKind.wrap_u32]; omega
          have u4 : (256 + t.b) % 4294967296 = 256 + t.b := by omega
          have u5 : (256 + t.b) % 256 = t.b := by omega
          have KO0 := fun w' => port_put x (256 + t.b) w' i2
          rw [u5] at KO0
          have hc0 := fun (u : World) => conv_one t.b u
          have o1s0 : (one t.b).size = 1 := rfl
          obtain ⟨o1, ho1⟩ : ∃ z, z = one t.b := ⟨_, rfl⟩
          rw [← ho1] at KO0 hc0 o1s0
          have KO := Lib.hid KO0
          have HC0 := Lib.hid hc0
          have O1S := Lib.hid o1s0
          obtain ⟨p2, hp2⟩ : ∃ z, z = p ++ o1 := ⟨_, rfl⟩
          have hs2 : p2.size = p.size + 1 := by rw [hp2, ByteArray.size_append, o1s0]
          have HN := Lib.hid (show b ++ x.s = a ∧ x.s.size ≤ 64 ∧ 0 ≤ x.n ∧ (a.size : Int) + x.n = q ∧ q ≤ ((j + 1 : Nat) : Int) ∧ b.size ≤ j + 1 ∧ p2.size ≤ j + 1 from ⟨HI.out.1, by omega, by omega, by omega, by omega, by omega, by omega⟩)
          have hcat := Lib.hid hp2.symm
          have HP1 := Lib.hid (show p.size ≤ 300 by omega)
          have hqx := Lib.hid (cn_same x)
          clear u5 KO0 hc0 o1s0 ho1 hp2 hs2 i1 i2 i3 i4 i5 i6 i7
          go_upto_region 27 with fail
          clear q0
          go_cut [16, 17, 18, 19] (fun q16 q17 q18 q19 wx => ∃ g : Nat, q16 = .pointer (some ⟨g, 0, none⟩) ∧ q17 = .int .u32 0 ∧ q18 = .string o1 ∧ q19 = .bool true ∧ Blk wx g 23 x.cells ∧ wr.heap.size ≤ g ∧ Blk wx w.heap.size 23 x.cells ∧ Later w wx)
          case first => as_aux_lemma =>
            replace b3 := b3.drew
            replace lw := lw.drew
            refine wp_region_held_drew (S := fun w' => World.rangeAt w' w.heap.size 0 x.cells ∧ w'.cell? ⟨(ad.add (j * 2)).block, (ad.add (j * 2)).off + 1, none⟩ = some (.int .u8 t.b)) (by kernel_rfl) ⟨(show World.rangeAt _ w.heap.size 0 x.cells from b3.range 0 2), HC1.out _ lw⟩ (fun hHeld => ?_)
            refine wpAnyH_take (i := 0) (oi := ⟨some 107, .load 23 (.tmp 3), _, _, _, none⟩) (v := .agg x.cells.toArray) rfl (by kernel_rfl) (by kernel_rfl) (by kernel_rfl) (fun _ _ _ h => h) (yieldsIf_load_mid (by rfl) _ _ rfl _ _ rfl x.cells _ (fun w h => h.1) Try.underlying23 rfl (cn_sz _)) hHeld ?_
            simp only [Act.put, List.setIfInBounds_toArray, List.set_cons_zero, List.set_cons_succ]
            refine wpAnyH_take (i := 1) (oi := ⟨some 108, .move (.tmp 0), _, _, _, none⟩) (v := .slice (some ad) m c) rfl (by kernel_rfl) (by kernel_rfl) (by kernel_rfl) (fun _ _ _ h => h) (Or.inl ⟨by rfl, fun _ _ => rfl⟩) hHeld ?_
            simp only [Act.put, List.setIfInBounds_toArray, List.set_cons_zero, List.set_cons_succ]
            refine wpAnyH_take (i := 2) (oi := ⟨some 109, .move (.tmp 9), _, _, _, none⟩) (v := .int .i64 (j : Int)) rfl (by kernel_rfl) (by kernel_rfl) (by kernel_rfl) (fun _ _ _ h => h) (Or.inl ⟨by rfl, fun _ _ => rfl⟩) hHeld ?_
            simp only [Act.put, List.setIfInBounds_toArray, List.set_cons_zero, List.set_cons_succ]
            refine wpAnyH_take (i := 3) (oi := ⟨some 110, .indexAddr 49 (.tmp 108) (.tmp 109), _, _, _, none⟩) (v := .pointer (some (ad.add (j * 2)))) rfl (by kernel_rfl) (by kernel_rfl) (by kernel_rfl) (fun _ _ _ h => h) (Or.inl ⟨by rfl, fun w _ => by go_simp⟩) hHeld ?_
            simp only [Act.put, List.setIfInBounds_toArray, List.set_cons_zero, List.set_cons_succ]
            refine wpAnyH_take (i := 4) (oi := ⟨some 111, .fieldAddr 51 (.tmp 110) 1, _, _, _, none⟩) (v := .pointer (some ⟨(ad.add (j * 2)).block, (ad.add (j * 2)).off + 1, none⟩)) rfl (by kernel_rfl) (by kernel_rfl) (by kernel_rfl) (fun _ _ _ h => h) (Or.inl ⟨by rfl, fun w _ => by go_simp⟩) hHeld ?_
            simp only [Act.put, List.setIfInBounds_toArray, List.set_cons_zero, List.set_cons_succ]
            refine wpAnyH_take (i := 5) (oi := ⟨some 112, .load 5 (.tmp 111), _, _, _, none⟩) (v := .int .u8 t.b) rfl (by kernel_rfl) (by kernel_rfl) (by kernel_rfl) (fun _ _ _ h => h) (Or.inl ⟨by rfl, fun w hSw => by have e1 := hSw.2; clear hSw; go_simp⟩) hHeld ?_
            simp only [Act.put, List.setIfInBounds_toArray, List.set_cons_zero, List.set_cons_succ]
            refine wpAnyH_take (i := 6) (oi := ⟨some 113, .convert 5 24 (.tmp 112), _, _, _, none⟩) (v := .int .u32 t.b) rfl (by kernel_rfl) (by kernel_rfl) (by kernel_rfl) (fun _ _ _ h => h) (Or.inl ⟨by rfl, fun w _ => by go_simp⟩) hHeld ?_
            simp only [Act.put, List.setIfInBounds_toArray, List.set_cons_zero, List.set_cons_succ]
            refine wpAnyH_take (i := 7) (oi := ⟨some 114, .binOp .add 24 (.const (.int .u32 256)) (.tmp 113) 24, _, _, _, none⟩) (v := .int .u32 (256 + t.b)) rfl (by kernel_rfl) (by kernel_rfl) (by kernel_rfl) (fun _ _ _ h => h) (Or.inl ⟨by rfl, fun w _ => by go_simp⟩) hHeld ?_
            simp only [Act.put, List.setIfInBounds_toArray, List.set_cons_zero, List.set_cons_succ]
            refine wpAnyH_take (i := 8) (oi := ⟨some 115, .build 26 #[(1, .const (.int .i64 32)), (2, .tmp 114)], _, _, _, none⟩) (v := .agg #[.bool false, .int .i64 32, .int .u32 (256 + t.b)]) rfl (by kernel_rfl) (by kernel_rfl) (by kernel_rfl) (fun _ _ _ h => h) (Or.inl ⟨by rfl, fun w _ => by go_simp⟩) hHeld ?_
            simp only [Act.put, List.setIfInBounds_toArray, List.set_cons_zero, List.set_cons_succ]
            refine wpAnyH_ready (rs := [9, 15]) (by kernel_rfl) (by simp) (AllReadyH.cons (o := ⟨some 116, .call { callee := .value (.func 13), args := #[.tmp 107, .tmp 115], argTypes := #[23, 26] }, _, _, _, none⟩) rfl (fun K' hK => ?_) (AllReadyH.cons (o := ⟨some 16, .alloc 23, _, _, _, none⟩) rfl (fun K' hK => ?_) AllReadyH.nil))
            · go_simp
              (with_reducible refine (KO.out _).mono ?_)
              rintro e v7 ⟨rfl, l1⟩
              replace b3 := b3.keep l1
              replace lw := Later.trans_ lw l1
              try replace bf := bf.keep l1
              refine hK.out _ _ ⟨(show World.rangeAt _ w.heap.size 0 x.cells from b3.range 0 2), HC1.out _ lw⟩ (fun hHeld => ?_)
              clear hK K'
              try simp only [Act.put, List.setIfInBounds_toArray, List.set_cons_zero, List.set_cons_succ]
              refine wpAnyH_take (i := 10) (oi := ⟨some 106, .move (.tmp 116), _, _, _, none⟩) (v := (.tuple #[.agg x.cells.toArray, .int .u32 0, .string o1, .bool true])) rfl (by kernel_rfl) (by kernel_rfl) (by kernel_rfl) (fun _ _ _ h => h) (Or.inl ⟨by rfl, fun _ _ => rfl⟩) hHeld ?_
              simp only [Act.put, List.setIfInBounds_toArray, List.set_cons_zero, List.set_cons_succ]
              refine wpAnyH_take (i := 11) (oi := ⟨some 117, .extract (.tmp 106) 0, _, _, _, none⟩) (v := .agg x.cells.toArray) rfl (by kernel_rfl) (by kernel_rfl) (by kernel_rfl) (fun _ _ _ h => h) (Or.inl ⟨by rfl, fun w _ => by go_simp⟩) hHeld ?_
              simp only [Act.put, List.setIfInBounds_toArray, List.set_cons_zero, List.set_cons_succ]
              refine wpAnyH_take (i := 12) (oi := ⟨some 118, .extract (.tmp 106) 1, _, _, _, none⟩) (v := .int .u32 0) rfl (by kernel_rfl) (by kernel_rfl) (by kernel_rfl) (fun _ _ _ h => h) (Or.inl ⟨by rfl, fun w _ => by go_simp⟩) hHeld ?_
              simp only [Act.put, List.setIfInBounds_toArray, List.set_cons_zero, List.set_cons_succ]
              refine wpAnyH_take (i := 13) (oi := ⟨some 119, .extract (.tmp 106) 2, _, _, _, none⟩) (v := .string o1) rfl (by kernel_rfl) (by kernel_rfl) (by kernel_rfl) (fun _ _ _ h => h) (Or.inl ⟨by rfl, fun w _ => by go_simp⟩) hHeld ?_
              simp only [Act.put, List.setIfInBounds_toArray, List.set_cons_zero, List.set_cons_succ]
              refine wpAnyH_take (i := 14) (oi := ⟨some 120, .extract (.tmp 106) 3, _, _, _, none⟩) (v := .bool true) rfl (by kernel_rfl) (by kernel_rfl) (by kernel_rfl) (fun _ _ _ h => h) (Or.inl ⟨by rfl, fun w _ => by go_simp⟩) hHeld ?_
              simp only [Act.put, List.setIfInBounds_toArray, List.set_cons_zero, List.set_cons_succ]
              refine wpAnyH_ready (rs := [15]) (by kernel_rfl) (by simp) (AllReadyH.cons (o := ⟨some 16, .alloc 23, _, _, _, none⟩) rfl (fun K' hK => ?_) AllReadyH.nil)
              go_simp
              have hgs : wr.heap.size ≤ v7.heap.size := (by first | exact Nat.le_refl _ | exact l1.size)
              have n3 := Nat.ne_of_lt b3.lt
              have m2 := lw.size
              have bf := Blk.new v7 23 zC.cells.toArray zC.cells rfl
              replace b3 := b3.alloc (.cells zC.cells.toArray 23)
              replace lw := lw.alloc m2 (.cells zC.cells.toArray 23)
              refine hK.out _ _ ⟨(show World.rangeAt _ w.heap.size 0 x.cells from b3.range 0 2), HC1.out _ lw⟩ (fun hHeld => ?_)
              clear hK K'
              try simp only [Act.put, List.setIfInBounds_toArray, List.set_cons_zero, List.set_cons_succ]
              refine wpAnyH_ready (rs := [16]) (by kernel_rfl) (by simp) (AllReadyH.cons (o := ⟨none, .store 23 (.tmp 16) (.tmp 117), _, _, _, none⟩) rfl (fun K' hK => ?_) AllReadyH.nil)
              refine wp_store_blk 23 _ _ rfl (v7.heap.size) 23 zC.cells x.cells rfl rfl bf (cn_sz _) rfl (cn_one _) ?_
              intro wq bq oq
              clear bf
              have bf := bq
              clear bq
              replace b3 := b3.only oq n3
              replace lw := Below.only lw oq m2
              clear oq
              refine hK.out _ _ ⟨(show World.rangeAt _ w.heap.size 0 x.cells from b3.range 0 2), HC1.out _ lw⟩ (fun hHeld => ?_)
              clear hK K'
              try simp only [Act.put]
              refine wpAnyH_take (i := 17) (oi := ⟨some 17, .assign (.tmp 118), _, _, _, none⟩) (v := .int .u32 0) rfl (by kernel_rfl) (by kernel_rfl) (by kernel_rfl) (fun _ _ _ h => h) (Or.inl ⟨by rfl, fun _ _ => rfl⟩) hHeld ?_
              simp only [Act.put, List.setIfInBounds_toArray, List.set_cons_zero, List.set_cons_succ]
              refine wpAnyH_take (i := 18) (oi := ⟨some 18, .assign (.tmp 119), _, _, _, none⟩) (v := .string o1) rfl (by kernel_rfl) (by kernel_rfl) (by kernel_rfl) (fun _ _ _ h => h) (Or.inl ⟨by rfl, fun _ _ => rfl⟩) hHeld ?_
              simp only [Act.put, List.setIfInBounds_toArray, List.set_cons_zero, List.set_cons_succ]
              refine wpAnyH_take (i := 19) (oi := ⟨some 19, .assign (.tmp 120), _, _, _, none⟩) (v := .bool true) rfl (by kernel_rfl) (by kernel_rfl) (by kernel_rfl) (fun _ _ _ h => h) (Or.inl ⟨by rfl, fun _ _ => rfl⟩) hHeld ?_
              simp only [Act.put, List.setIfInBounds_toArray, List.set_cons_zero, List.set_cons_succ]
              refine wpAnyH_done (by kernel_rfl) ?_ _
              clear hHeld
              go_wp2
              go_meet
              exact ⟨_, rfl, rfl, rfl, rfl, bf, hgs, b3, lw⟩
            · go_simp
              have hgs : wr.heap.size ≤ wr.heap.size := (by first | exact Nat.le_refl _ | exact l1.size)
              have n3 := Nat.ne_of_lt b3.lt
              have m2 := lw.size
              have bf := Blk.new wr.drew 23 zC.cells.toArray zC.cells rfl
              replace b3 := b3.alloc (.cells zC.cells.toArray 23)
              replace lw := lw.alloc m2 (.cells zC.cells.toArray 23)
              refine hK.out _ _ ⟨(show World.rangeAt _ w.heap.size 0 x.cells from b3.range 0 2), HC1.out _ lw⟩ (fun hHeld => ?_)
              clear hK K'
              try simp only [Act.put, List.setIfInBounds_toArray, List.set_cons_zero, List.set_cons_succ]
              refine wpAnyH_ready (rs := [9]) (by kernel_rfl) (by simp) (AllReadyH.cons (o := ⟨some 116, .call { callee := .value (.func 13), args := #[.tmp 107, .tmp 115], argTypes := #[23, 26] }, _, _, _, none⟩) rfl (fun K' hK => ?_) AllReadyH.nil)
              go_simp
              (with_reducible refine (KO.out _).mono ?_)
              rintro e v7 ⟨rfl, l1⟩
              replace b3 := b3.keep l1
              replace lw := Later.trans_ lw l1
              try replace bf := bf.keep l1
              refine hK.out _ _ ⟨(show World.rangeAt _ w.heap.size 0 x.cells from b3.range 0 2), HC1.out _ lw⟩ (fun hHeld => ?_)
              clear hK K'
              try simp only [Act.put, List.setIfInBounds_toArray, List.set_cons_zero, List.set_cons_succ]
              refine wpAnyH_take (i := 10) (oi := ⟨some 106, .move (.tmp 116), _, _, _, none⟩) (v := (.tuple #[.agg x.cells.toArray, .int .u32 0, .string o1, .bool true])) rfl (by kernel_rfl) (by kernel_rfl) (by kernel_rfl) (fun _ _ _ h => h) (Or.inl ⟨by rfl, fun _ _ => rfl⟩) hHeld ?_
              simp only [Act.put, List.setIfInBounds_toArray, List.set_cons_zero, List.set_cons_succ]
              refine wpAnyH_take (i := 11) (oi := ⟨some 117, .extract (.tmp 106) 0, _, _, _, none⟩) (v := .agg x.cells.toArray) rfl (by kernel_rfl) (by kernel_rfl) (by kernel_rfl) (fun _ _ _ h => h) (Or.inl ⟨by rfl, fun w _ => by go_simp⟩) hHeld ?_
              simp only [Act.put, List.setIfInBounds_toArray, List.set_cons_zero, List.set_cons_succ]
              refine wpAnyH_take (i := 12) (oi := ⟨some 118, .extract (.tmp 106) 1, _, _, _, none⟩) (v := .int .u32 0) rfl (by kernel_rfl) (by kernel_rfl) (by kernel_rfl) (fun _ _ _ h => h) (Or.inl ⟨by rfl, fun w _ => by go_simp⟩) hHeld ?_
              simp only [Act.put, List.setIfInBounds_toArray, List.set_cons_zero, List.set_cons_succ]
              refine wpAnyH_take (i := 13) (oi := ⟨some 119, .extract (.tmp 106) 2, _, _, _, none⟩) (v := .string o1) rfl (by kernel_rfl) (by kernel_rfl) (by kernel_rfl) (fun _ _ _ h => h) (Or.inl ⟨by rfl, fun w _ => by go_simp⟩) hHeld ?_
              simp only [Act.put, List.setIfInBounds_toArray, List.set_cons_zero, List.set_cons_succ]
              refine wpAnyH_take (i := 14) (oi := ⟨some 120, .extract (.tmp 106) 3, _, _, _, none⟩) (v := .bool true) rfl (by kernel_rfl) (by kernel_rfl) (by kernel_rfl) (fun _ _ _ h => h) (Or.inl ⟨by rfl, fun w _ => by go_simp⟩) hHeld ?_
              simp only [Act.put, List.setIfInBounds_toArray, List.set_cons_zero, List.set_cons_succ]
              refine wpAnyH_ready (rs := [16]) (by kernel_rfl) (by simp) (AllReadyH.cons (o := ⟨none, .store 23 (.tmp 16) (.tmp 117), _, _, _, none⟩) rfl (fun K' hK => ?_) AllReadyH.nil)
              refine wp_store_blk 23 _ _ rfl (wr.heap.size) 23 zC.cells x.cells rfl rfl bf (cn_sz _) rfl (cn_one _) ?_
              intro wq bq oq
              clear bf
              have bf := bq
              clear bq
              replace b3 := b3.only oq n3
              replace lw := Below.only lw oq m2
              clear oq
              refine hK.out _ _ ⟨(show World.rangeAt _ w.heap.size 0 x.cells from b3.range 0 2), HC1.out _ lw⟩ (fun hHeld => ?_)
              clear hK K'
              try simp only [Act.put]
              refine wpAnyH_take (i := 17) (oi := ⟨some 17, .assign (.tmp 118), _, _, _, none⟩) (v := .int .u32 0) rfl (by kernel_rfl) (by kernel_rfl) (by kernel_rfl) (fun _ _ _ h => h) (Or.inl ⟨by rfl, fun _ _ => rfl⟩) hHeld ?_
              simp only [Act.put, List.setIfInBounds_toArray, List.set_cons_zero, List.set_cons_succ]
              refine wpAnyH_take (i := 18) (oi := ⟨some 18, .assign (.tmp 119), _, _, _, none⟩) (v := .string o1) rfl (by kernel_rfl) (by kernel_rfl) (by kernel_rfl) (fun _ _ _ h => h) (Or.inl ⟨by rfl, fun _ _ => rfl⟩) hHeld ?_
              simp only [Act.put, List.setIfInBounds_toArray, List.set_cons_zero, List.set_cons_succ]
              refine wpAnyH_take (i := 19) (oi := ⟨some 19, .assign (.tmp 120), _, _, _, none⟩) (v := .bool true) rfl (by kernel_rfl) (by kernel_rfl) (by kernel_rfl) (fun _ _ _ h => h) (Or.inl ⟨by rfl, fun _ _ => rfl⟩) hHeld ?_
              simp only [Act.put, List.setIfInBounds_toArray, List.set_cons_zero, List.set_cons_succ]
              refine wpAnyH_done (by kernel_rfl) ?_ _
              clear hHeld
              go_wp2
              go_meet
              exact ⟨_, rfl, rfl, rfl, rfl, bf, hgs, b3, lw⟩
          case rest =>
            clear b3 lw c0 c1
            obtain ⟨g, rfl, rfl, rfl, rfl, bf, hgs, b3, lw⟩ := hcut
            have g3 : g ≠ w.heap.size := by have := H3.out; omega
            clear hgs
            go_upto_region 28 with fail
            have hc := HC0.out wc
            have c1 := HC1.out _ (lw.alloc lw.size (.cells #[.int .u8 t.b] 5))
            have c10 := HC1.out _ lw
            have o1s := O1S.out
            have hp3 := HP1.out
            have hca := hcat.out
            replace b3 := b3.alloc (.cells #[.int .u8 t.b] 5)
            replace bf := bf.alloc (.cells #[.int .u8 t.b] 5)
            replace lw := lw.alloc lw.size (.cells #[.int .u8 t.b] 5)
            go_upto_region 30 with fail
            clear hc c1 c10 o1s hp3 hca u1 u2 u3 u4
            have hqq := hqx.out
            go_upto_region 32 with (first
              | ((with_reducible refine wpList_load_g (o := ⟨some 140, .load 23 (.tmp 16), _, _, _, _⟩) _ _ rfl g 23 x.cells _ ?_ ?_ ?_ Try.underlying23 ?_ (cn_sz _) ?_); rfl; rfl; exact bf; rfl)
              | ((with_reducible refine wpList_load_g (o := ⟨some 141, .load 23 (.tmp 3), _, _, _, _⟩) _ _ rfl w.heap.size 23 x.cells _ ?_ ?_ ?_ Try.underlying23 ?_ (cn_sz _) ?_); rfl; rfl; exact b3; rfl))
            clear hqq
            have e0 := b3.cell (cn_s x)
            have e1 := b3.cell (cn_n x)
            have d64 : decide ((64 : Int) < (x.s.size : Int)) = false := decide_eq_false (by have := HN.out.2.1; omega)
            have hby := HN.out.1
            have hb300 : b.size ≤ 301 := by have := HN.out.2.2.2.2.2.1; omega
            have hy64 : x.s.size ≤ 64 := HN.out.2.1
            have hwr : IntKind.i64.wrap ((a.size : Int) + x.n) = q := by rw [IntKind.wrap_i64]; have := HN.out.2.2; omega
            go_wp2
            go_roundw
            case rel => exact ⟨j + 1, x, a, b, p2, q, by omega, rfl, rfl, rfl, rfl, rfl, by go_num, HN.out, b3, lw⟩
            case measure => simp [intOf]; omega
    · obtain rfl : j = m := by omega
      have KV := Lib.hid fun w' => valid_any x w'
      rw [show x.ok = true from by unfold Cn.ok; rw [decide_eq_true i2, decide_eq_true i3, decide_eq_true (by omega)]; rfl] at KV
      clear hjm hj i1 i2 i3 i4 i5 i6 i7
      go_wp2_with (first
      | (go_at_call 7; (with_reducible refine (KS.out _).mono ?_); rintro e w8 ⟨rfl, l1⟩; replace b3 := b3.keep l1; replace lw := Later.trans_ lw l1)
      | ((with_reducible refine wpList_load_g (o := ⟨some 172, .load 23 (.tmp 3), _, _, _, _⟩) _ _ rfl w.heap.size 23 x.cells _ ?_ ?_ ?_ Try.underlying23 ?_ (cn_sz _) ?_); rfl; rfl; exact b3; rfl)
      | (go_at_call 8; (with_reducible refine (KV.out _).mono ?_); rintro e w9 ⟨rfl, l1⟩; replace b3 := b3.keep l1; replace lw := Later.trans_ lw l1))
      go_ret
      exact ⟨rfl, lw⟩

set_option maxRecDepth 100000 in
theorem consoleKeepsOrder_lifted (os : Os) (started : os.Started) (H : Type) (enc : TypeId × Value → H) :
    ReturnsInHanded {} Try.checked os 5 .any (Rows.consoleKeepsOrderSpec.pre6 enc Try.prog Try.f5 Rows.consoleKeepsOrderRow.domain false) (Rows.consoleKeepsOrderSpec.post enc Try.prog Try.f5 false true false false) := by
  refine returnsInHanded_of_change (C := Try.checked) ownK started (by kernel_rfl) Try.func5
    (ChangeSpec.witness6 (enc := enc) (C := Try.checked) false ⟨#[], #[.slice none 0 0], []⟩ 8 (by kernel_rfl) (by kernel_rfl) (by kernel_rfl) (by kernel_rfl)) ?_
  intro W base args ds gs before hval0 hW hcnd _
  have hval : ∀ (j : Nat) t v, Try.f5.params[j]? = some t → args[j]? = some v → Value.okWide Try.prog W .any base t v := hval0
  have hW' := hW
  obtain ⟨p, q, hA0, hV, rfl, hfz, hnd⟩ := hW
  have hA : DataW.TrodAll enc Try.prog W 0 (fun _ => true) true Try.f5.params.toList args.toList ds p := hA0
  rw [Try.params5] at hA hval
  obtain ⟨v0, vs0, d0, ds0, p0, q0, hargs, rfl, rfl, h0, r0⟩ := trodAll_cons hA
  obtain ⟨rfl, rfl, rfl⟩ := trodAll_nil r0
  obtain rfl : args = #[v0] := by cases args; simp_all
  obtain ⟨rfl, rfl⟩ := trodVars_none hV
  obtain ⟨A0, n0, c0, l0, rfl, x0, y0, s0, hl0, z0⟩ := acts_open (hval 0 49 v0 rfl rfl) h0
  clear hA0 hval0
  simp only [List.append_nil] at hW'
  refine (order_all A0 n0 c0 l0 W s0 hl0 z0).mono fun e W' ⟨he, hw⟩ => ?_
  subst he
  exact ⟨_, rfl, law_post laidK rfl (by kernel_rfl) (by kernel_rfl) Try.underlying4 (by kernel_rfl) hW' rfl hw⟩
set_option maxRecDepth 100000 in
/-- The statement. -/
theorem consoleKeepsOrder_said : Rows.ConsoleKeepsOrderSaid :=
  OpenClaim.holds_of_wide 5 Try.f5 rfl rfl rfl rfl rfl rfl rfl ⟨rfl, rfl, rfl, rfl, rfl⟩ rfl rfl rfl rfl rfl (by kernel_rfl) Try.func5 (by kernel_rfl)
    (of_decide_eq_true (by kernel_rfl)) (by unfold Func.isWrapper; first | (rw [if_pos (by decide +kernel)]; kernel_rfl) | (rw [if_neg (by decide +kernel)]; exact ⟨rfl, rfl⟩))
    (fun os started H enc _ => consoleKeepsOrder_lifted os started H enc)
#print axioms consoleKeepsOrder_said
end Go.Proofs.Ytkhgaikfomcjeaa
