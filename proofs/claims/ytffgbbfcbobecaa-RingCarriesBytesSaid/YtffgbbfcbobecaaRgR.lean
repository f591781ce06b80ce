/-
  A RING: Gather, both.
-/
import Derived.Test.YtffgbbfcbobecaaRgQ
namespace Go.Proofs.Ytffgbbfcbobecaa
open Go.RowKit Go.ChangeShapes Go.WideShapes Go.ChangeAt

theorem str_app (x y : Wm.Bs) : strOfNums (x ++ y) = strOfNums x ++ strOfNums y := by
  apply ByteArray.ext
  rw [ByteArray.data_append]
  apply Array.toList_inj.1
  rw [Array.toList_append, strOfNums_data, strOfNums_data, strOfNums_data, List.map_append]
theorem str_cut (x : Wm.Bs) (i j : Nat) (_hj : j ≤ x.length) (_hi : i ≤ j) : (strOfNums x).extract i j = strOfNums ((x.drop i).take (j - i)) := by
  apply ByteArray.ext
  rw [ByteArray.data_extract]
  apply Array.toList_inj.1
  rw [Array.toList_extract, strOfNums_data, strOfNums_data]
  simp [List.map_take, List.map_drop]

theorem gat_succ (b : Wm.Bs) (l : List Rg.Pt) {k : Nat} (hk : k < l.length) : Rg.gat b (l.take (k + 1)) = Rg.gat b (l.take k) ++ (if l[k].2.2.2 then [] else Mm.rd b l[k].2.1 l[k].2.2.1) := by
  unfold Rg.gat
  rw [List.take_succ_eq_append_getElem hk, List.flatMap_append]
  simp
theorem rd_len (b : Wm.Bs) (a n : Int) : (Mm.rd b a n).length ≤ n.toNat := by
  unfold Mm.rd
  split
  · rw [List.length_take]; omega
  · exact Nat.zero_le _
theorem gat_len (b : Wm.Bs) {l : List Rg.Pt} (h : ∀ p ∈ l, p.2.2.1 ≤ 512) : (Rg.gat b l).length ≤ 512 * l.length := by
  unfold Rg.gat
  induction l with
  | nil => exact Nat.le_refl _
  | cons p r ih =>
    have h1 := ih (fun q hq => h q (List.mem_cons_of_mem _ hq))
    have h2 := h p List.mem_cons_self
    have h3 := rd_len b p.2.1 p.2.2.1
    rw [List.flatMap_cons, List.length_append, List.length_cons]
    split
    · rw [List.length_nil]; omega
    · omega
theorem str_len (x : Wm.Bs) : (strOfNums x).size = x.length := by
  have h : (strOfNums x).data.toList.length = x.length := by rw [strOfNums_data, List.length_map]
  exact h
theorem fld_b (x y : Value) (w : World) : (Instr.field 103 (.agg #[x, y]) 0).run Try.prog w = .ok x w := by kernel_rfl
set_option maxRecDepth 100000 in
set_option maxHeartbeats 4000000 in
theorem rgather_any (A : Option Addr) (n c : Nat) (b : Wm.Bs) (A' : Option Addr) (m c' : Nat) (l : List Rg.Pt) (w : World) (hs : Sl w 128 A n (U b)) (hn : n ≤ 64) (hsl : Sl w 4 A' m (Ps l)) (hl : l.length = m) (hsm : Sml l) :
    Calls Try.prog 27 #[.agg #[.slice A n c], .slice A' m c'] w fun e w' => e = .returned (.string (strOfNums (Rg.gat b l))) ∧ Later w w' := by
  have hm : m ≤ 4 := by have := hsm.1; omega
  have HL := Lib.hid hl
  have HG := Lib.hid fun k => (show (Rg.gat b (l.take k)).length ≤ 2048 from by
    have h1 := gat_len b (l := l.take k) (fun p hp => (hsm.2 p (List.mem_of_mem_take hp)).2.1)
    have h2 : (l.take k).length ≤ 4 := by rw [List.length_take]; have := hsm.1; omega
    omega)
  have HE := Lib.hid hsm.2
  have KR0 := Lib.hid fun (a r : Int) (ha : -9223372036854775808 ≤ a ∧ a ≤ 9223372036854775807) w' (k : Later w w') => rread_any A n c a r b w' (hs.keep k) hn ha
  clear hl hsm
  have b2 : Blk _ w.heap.size 24 ([.slice A n c]) := (Blk.new' w w.heap.size 24 ([.slice A n c]).toArray ([.slice A n c]) (by simp) rfl)
  have lw := (later1 w (.cells ([.slice A n c]).toArray 24))
  obtain ⟨u0, hu⟩ : ∃ u, (w.alloc (.cells ([.slice A n c]).toArray 24)) = u := ⟨_, rfl⟩
  rw [hu] at b2 lw
  replace hsl := hsl.keep lw
  clear hs
  go_enter Try.func27, Try.ntmps27
  go_upto_region 1 with fail
  have hu2 : (w.alloc (.cells #[.slice A n c] 24)) = u0 := hu
  try rw [hu2]
  clear hu hu2
  go_wp2
  go_loopw [5, 6] (fun s v wr => ∃ k : Nat, k ≤ m ∧ v = .int .i64 (k : Int) ∧ s = .string (strOfNums (Rg.gat b (l.take k))) ∧ Blk wr w.heap.size 24 [.slice A n c] ∧ Sl wr 4 A' m (Ps l) ∧ Later w wr) (fun _ v _ => m - (intOf v).toNat)
  case atStart => exact ⟨0, Nat.zero_le _, rfl, rfl, b2, hsl, lw⟩
  case round =>
    clear hsl b2 lw
    rename_i wr
    obtain ⟨k, hk, rfl, rfl, b2, hs, lr⟩ := hrel
    by_cases hlt : k < m
    · have hkl : k < l.length := by rw [HL.out]; exact hlt
      obtain ⟨ad, hA⟩ := hs.addr (by omega)
      subst hA
      have HF := Lib.hid fun w' (h : Sl w' 4 (some ad) m (Ps l)) => h.ptF hkl HL.out
      have HX := Lib.hid (gat_succ b l hkl)
      obtain ⟨s1, s2, s3, s4⟩ := HE.out _ (List.getElem_mem hkl)
      have kn : (k : Int) < (m : Int) := by omega
      have z1 := HG.out k
      obtain ⟨q, hq⟩ : ∃ q, q = l[k] := ⟨_, rfl⟩
      rw [← hq] at HF HX s1 s2 s3 s4
      clear hq
      have KR := Lib.hid (KR0.out q.2.1 q.2.2.1 ⟨by omega, by omega⟩)
      obtain ⟨s0, hs0⟩ : ∃ s0, s0 = strOfNums (Rg.gat b (l.take k)) := ⟨_, rfl⟩
      rw [← hs0]
      obtain ⟨t0, ht0⟩ : ∃ t0, t0 = strOfNums (Mm.rd b q.2.1 q.2.2.1) := ⟨_, rfl⟩
      obtain ⟨qb, hqb⟩ : ∃ qb, qb = decide (Mm.Inside (n * 128) q.2.1 q.2.2.1) := ⟨_, rfl⟩
      rw [← ht0, ← hqb] at KR
      have z2 : s0.size ≤ 2048 := by rw [hs0, str_len]; exact z1
      have z3 : t0.size ≤ 512 := by rw [ht0, str_len]; have := rd_len b q.2.1 q.2.2.1; omega
      have hz0 : s0.size + t0.size ≤ 9223372036854775807 := by omega
      have HS0 := Lib.hid hs0
      have HT0 := Lib.hid ht0
      have hfl := fld_b
      clear hs0 ht0 hqb z1
      have f3 := (HF.out _ hs).2.2.2
      cases hw : q.2.2.2
      · have HY := Lib.hid (show strOfNums (Rg.gat b (l.take (k + 1))) = s0 ++ t0 from by rw [HX.out, hw, HS0.out, HT0.out]; exact str_app _ _)
        rw [hw] at f3
        clear hw
        go_upto_region 6 with fail
        clear f3
        replace b2 := b2.drew
        replace lr := lr.drew
        replace hs : Sl wr.drew 4 (some ad) m (Ps l) := hs
        refine wp_region_held_drew (S := fun w' => World.rangeAt w' w.heap.size 0 [.slice A n c] ∧ w'.cell? ⟨(ad.add (k * 4)).block, (ad.add (k * 4)).off + 1, none⟩ = some (.int .i64 q.2.1) ∧ w'.cell? ⟨(ad.add (k * 4)).block, (ad.add (k * 4)).off + 2, none⟩ = some (.int .i64 q.2.2.1)) (by kernel_rfl) ⟨b2.range 0 1, (HF.out _ hs).2.1, (HF.out _ hs).2.2.1⟩ (fun hHeld => ?_)
        refine wpAnyH_take (i := 0) (oi := ⟨some 19, .move (.tmp 5), _, _, _, none⟩) (v := .string s0) rfl (by kernel_rfl) (by kernel_rfl) (by kernel_rfl) (fun _ _ _ h => h) (Or.inl ⟨by rfl, fun _ _ => rfl⟩) hHeld ?_
        simp only [Act.put, List.setIfInBounds_toArray, List.set_cons_zero, List.set_cons_succ]
        refine wpAnyH_take (i := 1) (oi := ⟨some 20, .load 24 (.tmp 2), _, _, _, none⟩) (v := .agg ([.slice A n c]).toArray) rfl (by kernel_rfl) (by kernel_rfl) (by kernel_rfl) (fun _ _ _ h => h) (yieldsIf_load_mid (by rfl) _ _ rfl w.heap.size 0 rfl ([.slice A n c]) _ (fun wz hSw => hSw.1) Try.underlying24 rfl memS) hHeld ?_
        simp only [Act.put, List.setIfInBounds_toArray, List.set_cons_zero, List.set_cons_succ]
        refine wpAnyH_take (i := 2) (oi := ⟨some 21, .move (.tmp 1), _, _, _, none⟩) (v := (.slice (some ad) m c')) rfl (by kernel_rfl) (by kernel_rfl) (by kernel_rfl) (fun _ _ _ h => h) (Or.inl ⟨by rfl, fun _ _ => rfl⟩) hHeld ?_
        simp only [Act.put, List.setIfInBounds_toArray, List.set_cons_zero, List.set_cons_succ]
        refine wpAnyH_take (i := 3) (oi := ⟨some 22, .move (.tmp 6), _, _, _, none⟩) (v := .int .i64 (k : Int)) rfl (by kernel_rfl) (by kernel_rfl) (by kernel_rfl) (fun _ _ _ h => h) (Or.inl ⟨by rfl, fun _ _ => rfl⟩) hHeld ?_
        simp only [Act.put, List.setIfInBounds_toArray, List.set_cons_zero, List.set_cons_succ]
        refine wpAnyH_take (i := 4) (oi := ⟨some 23, .indexAddr 35 (.tmp 21) (.tmp 22), _, _, _, none⟩) (v := .pointer (some (ad.add (k * 4)))) rfl (by kernel_rfl) (by kernel_rfl) (by kernel_rfl) (fun _ _ _ h => h) (Or.inl ⟨by rfl, fun w _ => by go_simp⟩) hHeld ?_
        simp only [Act.put, List.setIfInBounds_toArray, List.set_cons_zero, List.set_cons_succ]
        refine wpAnyH_take (i := 5) (oi := ⟨some 24, .fieldAddr 59 (.tmp 23) 1, _, _, _, none⟩) (v := .pointer (some ⟨(ad.add (k * 4)).block, (ad.add (k * 4)).off + 1, none⟩)) rfl (by kernel_rfl) (by kernel_rfl) (by kernel_rfl) (fun _ _ _ h => h) (Or.inl ⟨by rfl, fun w _ => by go_simp⟩) hHeld ?_
        simp only [Act.put, List.setIfInBounds_toArray, List.set_cons_zero, List.set_cons_succ]
        refine wpAnyH_take (i := 6) (oi := ⟨some 25, .load 3 (.tmp 24), _, _, _, none⟩) (v := .int .i64 q.2.1) rfl (by kernel_rfl) (by kernel_rfl) (by kernel_rfl) (fun _ _ _ h => h) (Or.inl ⟨by rfl, fun wz hSw => by have e1 := hSw.2.1; clear hSw; go_simp⟩) hHeld ?_
        simp only [Act.put, List.setIfInBounds_toArray, List.set_cons_zero, List.set_cons_succ]
        refine wpAnyH_take (i := 7) (oi := ⟨some 26, .move (.tmp 1), _, _, _, none⟩) (v := (.slice (some ad) m c')) rfl (by kernel_rfl) (by kernel_rfl) (by kernel_rfl) (fun _ _ _ h => h) (Or.inl ⟨by rfl, fun _ _ => rfl⟩) hHeld ?_
        simp only [Act.put, List.setIfInBounds_toArray, List.set_cons_zero, List.set_cons_succ]
        refine wpAnyH_take (i := 8) (oi := ⟨some 27, .move (.tmp 6), _, _, _, none⟩) (v := .int .i64 (k : Int)) rfl (by kernel_rfl) (by kernel_rfl) (by kernel_rfl) (fun _ _ _ h => h) (Or.inl ⟨by rfl, fun _ _ => rfl⟩) hHeld ?_
        simp only [Act.put, List.setIfInBounds_toArray, List.set_cons_zero, List.set_cons_succ]
        refine wpAnyH_take (i := 9) (oi := ⟨some 28, .indexAddr 35 (.tmp 26) (.tmp 27), _, _, _, none⟩) (v := .pointer (some (ad.add (k * 4)))) rfl (by kernel_rfl) (by kernel_rfl) (by kernel_rfl) (fun _ _ _ h => h) (Or.inl ⟨by rfl, fun w _ => by go_simp⟩) hHeld ?_
        simp only [Act.put, List.setIfInBounds_toArray, List.set_cons_zero, List.set_cons_succ]
        refine wpAnyH_take (i := 10) (oi := ⟨some 29, .fieldAddr 59 (.tmp 28) 2, _, _, _, none⟩) (v := .pointer (some ⟨(ad.add (k * 4)).block, (ad.add (k * 4)).off + 2, none⟩)) rfl (by kernel_rfl) (by kernel_rfl) (by kernel_rfl) (fun _ _ _ h => h) (Or.inl ⟨by rfl, fun w _ => by go_simp⟩) hHeld ?_
        simp only [Act.put, List.setIfInBounds_toArray, List.set_cons_zero, List.set_cons_succ]
        refine wpAnyH_take (i := 11) (oi := ⟨some 30, .load 3 (.tmp 29), _, _, _, none⟩) (v := .int .i64 q.2.2.1) rfl (by kernel_rfl) (by kernel_rfl) (by kernel_rfl) (fun _ _ _ h => h) (Or.inl ⟨by rfl, fun wz hSw => by have e1 := hSw.2.2; clear hSw; go_simp⟩) hHeld ?_
        simp only [Act.put, List.setIfInBounds_toArray, List.set_cons_zero, List.set_cons_succ]
        refine wpAnyH_ready (rs := [12]) (by kernel_rfl) (by simp) (AllReadyH.cons (o := ⟨some 31, .call { callee := .value (.func 56), args := #[.tmp 20, .tmp 25, .tmp 30], argTypes := #[24, 3, 3] }, _, _, _, none⟩) rfl (fun K' hK => ?_) (AllReadyH.nil))
        go_simp
        (with_reducible refine (KR.out _ lr).mono ?_)
        rintro e1 w1 ⟨rfl, l1⟩
        replace b2 := b2.keep l1
        replace hs := hs.keep l1
        replace lr := Later.trans_ lr l1
        refine hK.out _ _ ⟨b2.range 0 1, (HF.out _ hs).2.1, (HF.out _ hs).2.2.1⟩ (fun hHeld => ?_)
        clear hK K'
        try simp only [Act.put, List.setIfInBounds_toArray, List.set_cons_zero, List.set_cons_succ]
        refine wpAnyH_take (i := 13) (oi := ⟨some 32, .field 103 (.tmp 31) 0, _, _, _, none⟩) (v := .string t0) rfl (by kernel_rfl) (by kernel_rfl) (by kernel_rfl) (fun _ _ _ h => h) (Or.inl ⟨by rfl, fun w _ => by go_simp⟩) hHeld ?_
        simp only [Act.put, List.setIfInBounds_toArray, List.set_cons_zero, List.set_cons_succ]
        refine wpAnyH_take (i := 14) (oi := ⟨some 33, .binOp .add 9 (.tmp 19) (.tmp 32) 9, _, _, _, none⟩) (v := .string (s0 ++ t0)) rfl (by kernel_rfl) (by kernel_rfl) (by kernel_rfl) (fun _ _ _ h => h) (Or.inl ⟨by rfl, fun w _ => by go_simp⟩) hHeld ?_
        simp only [Act.put, List.setIfInBounds_toArray, List.set_cons_zero, List.set_cons_succ]
        refine wpAnyH_take (i := 15) (oi := ⟨some 5, .assign (.tmp 33), _, _, _, none⟩) (v := .string (s0 ++ t0)) rfl (by kernel_rfl) (by kernel_rfl) (by kernel_rfl) (fun _ _ _ h => h) (Or.inl ⟨by rfl, fun _ _ => rfl⟩) hHeld ?_
        simp only [Act.put, List.setIfInBounds_toArray, List.set_cons_zero, List.set_cons_succ]
        refine wpAnyH_done (by kernel_rfl) ?_ _
        clear hHeld
        go_wp2
        go_roundw
        case rel => exact ⟨k + 1, by omega, by go_num, by rw [HY.out], b2, hs, lr⟩
        case measure => simp [intOf]; omega
      · have HY := Lib.hid (show strOfNums (Rg.gat b (l.take (k + 1))) = s0 from by rw [HX.out, hw, HS0.out]; simp)
        rw [hw] at f3
        clear hw
        go_wp2
        go_roundw
        case rel => exact ⟨k + 1, by omega, by go_num, by rw [HY.out], b2, hs, lr⟩
        case measure => simp [intOf]; omega
    · obtain rfl : k = m := by omega
      have nlt : ¬ ((k : Int) < (k : Int)) := by omega
      have HN := Lib.hid (show Rg.gat b (l.take k) = Rg.gat b l from by rw [List.take_of_length_le (by rw [HL.out]; exact Nat.le_refl _)])
      rw [HN.out]
      go_wp2
      go_ret
      exact ⟨rfl, lr⟩
end Go.Proofs.Ytffgbbfcbobecaa
