/-
  A RING: lists of parts compared; Room, both; upTo.
-/
import Derived.Test.YtffgbbfcbobecaaRgP
namespace Go.Proofs.Ytffgbbfcbobecaa
open Go.RowKit Go.ChangeShapes Go.WideShapes Go.ChangeAt

set_option maxRecDepth 100000 in
theorem pt_eq (p : Rg.Pt) (w : World) : (Op.equalIn 10000 59 (.agg (Pc p).toArray) (.agg (Pc p).toArray)).run Try.prog w = .ok true w := by
  obtain ⟨fs, hfs, hu⟩ : ∃ fs, Try.prog.fieldsOf 59 = fs ∧ Try.prog.underlying 59 = some (.struct fs) := ⟨_, by kernel_rfl, Try.underlying59⟩
  rw [run_equalIn_struct w 9999 _ _ _ (by rw [hfs]; exact hu) (by kernel_rfl), hfs]
  have hfs2 := hu.symm.trans Try.underlying59
  injection hfs2 with h1
  injection h1 with h2
  subst h2
  have hag : (isAgg 3).run Try.prog w = .ok false w := by kernel_rfl
  have hag2 : (isAgg 4).run Try.prog w = .ok false w := by kernel_rfl
  have he := fun a b => run_equalIn_int (P := Try.prog) w 9998 3 .i64 .i64 a b Try.underlying3
  have hb : (Op.equalIn 9999 4 (.bool p.2.2.2) (.bool p.2.2.2)).run Try.prog w = .ok true w := by
    rw [run_equalIn_bool (P := Try.prog) w 9998 4 _ _ Try.underlying4]
    simp
  simp [Op.eqFields, part, hag, hag2, he, hb, Result.andThen, Pc]
set_option maxRecDepth 100000 in
set_option maxHeartbeats 2000000 in
theorem same_parts (A1 A2 : Option Addr) (m c1 c2 : Nat) (l : List Rg.Pt) (w : World) (hs : Sl w 4 A1 m (Ps l)) (ht : Sl w 4 A2 m (Ps l)) (hl : l.length = m) (hm : m ≤ 1000) :
    Calls Try.prog 18 #[.slice A1 m c1, .slice A2 m c2] w fun e w' => e = .returned (.bool true) ∧ Later w w' := by
  have HL := Lib.hid hl
  clear hl
  go_enter Try.func18, Try.ntmps18
  go_wp2
  go_loopw [5] (fun v wr => ∃ k : Nat, k ≤ m ∧ v = .int .i64 (k : Int) ∧ Sl wr 4 A1 m (Ps l) ∧ Sl wr 4 A2 m (Ps l) ∧ Later w wr) (fun v _ => m - (intOf v).toNat)
  case atStart => exact ⟨0, Nat.zero_le _, rfl, hs, ht, later0 _⟩
  case round =>
    clear hs ht
    rename_i wr
    obtain ⟨k, hk, rfl, hs, ht, lr⟩ := hrel
    by_cases hlt : k < m
    · have hkl : k < l.length := by rw [HL.out]; exact hlt
      obtain ⟨ad, hA⟩ := hs.addr (by omega)
      subst hA
      obtain ⟨ae, hA⟩ := ht.addr (by omega)
      subst hA
      have HC := Lib.hid (hs.ptAt hkl HL.out)
      have HD := Lib.hid (ht.ptAt hkl HL.out)
      have kn : (k : Int) < (m : Int) := by omega
      obtain ⟨q, hq⟩ : ∃ q, q = l[k] := ⟨_, rfl⟩
      rw [← hq] at HC HD
      clear hq
      have hpe := fun w => pt_eq q w
      go_upto_region 6 with fail
      replace lr := lr.drew
      replace hs : Sl wr.drew 4 (some ad) m (Ps l) := hs
      replace ht : Sl wr.drew 4 (some ae) m (Ps l) := ht
      refine wp_region_held_drew (S := fun w' => (∀ j u, (Pc q)[j]? = some u → w'.cell? ((ad.add (k * 4)).add j) = some u) ∧ (∀ j u, (Pc q)[j]? = some u → w'.cell? ((ae.add (k * 4)).add j) = some u)) (by kernel_rfl) ⟨HC.out, HD.out⟩ (fun hHeld => ?_)
      refine wpAnyH_take (i := 0) (oi := ⟨some 17, .move (.tmp 0), _, _, _, none⟩) (v := (.slice (some ad) m c1)) rfl (by kernel_rfl) (by kernel_rfl) (by kernel_rfl) (fun _ _ _ h => h) (Or.inl ⟨by rfl, fun _ _ => rfl⟩) hHeld ?_
      simp only [Act.put, List.setIfInBounds_toArray, List.set_cons_zero, List.set_cons_succ]
      refine wpAnyH_take (i := 1) (oi := ⟨some 18, .move (.tmp 5), _, _, _, none⟩) (v := .int .i64 (k : Int)) rfl (by kernel_rfl) (by kernel_rfl) (by kernel_rfl) (fun _ _ _ h => h) (Or.inl ⟨by rfl, fun _ _ => rfl⟩) hHeld ?_
      simp only [Act.put, List.setIfInBounds_toArray, List.set_cons_zero, List.set_cons_succ]
      refine wpAnyH_take (i := 2) (oi := ⟨some 19, .indexAddr 35 (.tmp 17) (.tmp 18), _, _, _, none⟩) (v := .pointer (some (ad.add (k * 4)))) rfl (by kernel_rfl) (by kernel_rfl) (by kernel_rfl) (fun _ _ _ h => h) (Or.inl ⟨by rfl, fun w _ => by go_simp⟩) hHeld ?_
      simp only [Act.put, List.setIfInBounds_toArray, List.set_cons_zero, List.set_cons_succ]
      refine wpAnyH_take (i := 3) (oi := ⟨some 20, .load 59 (.tmp 19), _, _, _, none⟩) (v := .agg (Pc q).toArray) rfl (by kernel_rfl) (by kernel_rfl) (by kernel_rfl) (fun _ _ _ h => h) (yieldsIf_load_addr (by rfl) _ _ rfl (ad.add (k * 4)) rfl (Pc q) _ (fun wz hSw => hSw.1) Try.underlying59 rfl (pt_sz _)) hHeld ?_
      simp only [Act.put, List.setIfInBounds_toArray, List.set_cons_zero, List.set_cons_succ]
      refine wpAnyH_take (i := 4) (oi := ⟨some 21, .move (.tmp 1), _, _, _, none⟩) (v := (.slice (some ae) m c2)) rfl (by kernel_rfl) (by kernel_rfl) (by kernel_rfl) (fun _ _ _ h => h) (Or.inl ⟨by rfl, fun _ _ => rfl⟩) hHeld ?_
      simp only [Act.put, List.setIfInBounds_toArray, List.set_cons_zero, List.set_cons_succ]
      refine wpAnyH_take (i := 5) (oi := ⟨some 22, .move (.tmp 5), _, _, _, none⟩) (v := .int .i64 (k : Int)) rfl (by kernel_rfl) (by kernel_rfl) (by kernel_rfl) (fun _ _ _ h => h) (Or.inl ⟨by rfl, fun _ _ => rfl⟩) hHeld ?_
      simp only [Act.put, List.setIfInBounds_toArray, List.set_cons_zero, List.set_cons_succ]
      refine wpAnyH_take (i := 6) (oi := ⟨some 23, .indexAddr 35 (.tmp 21) (.tmp 22), _, _, _, none⟩) (v := .pointer (some (ae.add (k * 4)))) rfl (by kernel_rfl) (by kernel_rfl) (by kernel_rfl) (fun _ _ _ h => h) (Or.inl ⟨by rfl, fun w _ => by go_simp⟩) hHeld ?_
      simp only [Act.put, List.setIfInBounds_toArray, List.set_cons_zero, List.set_cons_succ]
      refine wpAnyH_take (i := 7) (oi := ⟨some 24, .load 59 (.tmp 23), _, _, _, none⟩) (v := .agg (Pc q).toArray) rfl (by kernel_rfl) (by kernel_rfl) (by kernel_rfl) (fun _ _ _ h => h) (yieldsIf_load_addr (by rfl) _ _ rfl (ae.add (k * 4)) rfl (Pc q) _ (fun wz hSw => hSw.2) Try.underlying59 rfl (pt_sz _)) hHeld ?_
      simp only [Act.put, List.setIfInBounds_toArray, List.set_cons_zero, List.set_cons_succ]
      refine wpAnyH_take (i := 8) (oi := ⟨some 25, .binOp .neq 59 (.tmp 20) (.tmp 24) 59, _, _, _, none⟩) (v := .bool false) rfl (by kernel_rfl) (by kernel_rfl) (by kernel_rfl) (fun _ _ _ h => h) (Or.inl ⟨by rfl, fun w _ => by go_simp⟩) hHeld ?_
      simp only [Act.put, List.setIfInBounds_toArray, List.set_cons_zero, List.set_cons_succ]
      refine wpAnyH_done (by kernel_rfl) ?_ _
      clear hHeld
      go_wp2
      go_roundw
      case rel => exact ⟨k + 1, by omega, by go_num, hs, ht, lr⟩
      case measure => simp [intOf]; omega
    · obtain rfl : k = m := by omega
      have nlt : ¬ ((k : Int) < (k : Int)) := by omega
      go_wp2
      go_ret
      exact ⟨rfl, lr⟩
/-- The room of some parts so far. -/
theorem room_succ (l : List Rg.Pt) {k : Nat} (hk : k < l.length) : Rg.room (l.take (k + 1)) = Rg.room (l.take k) + if l[k].2.2.2 then l[k].2.2.1 else 0 := by
  unfold Rg.room
  rw [List.take_succ_eq_append_getElem hk, List.map_append, List.sum_append]
  simp
/-- Parts as small as a request's. -/
def Sml (l : List Rg.Pt) : Prop := l.length ≤ 4 ∧ ∀ p ∈ l, 1 ≤ p.2.2.1 ∧ p.2.2.1 ≤ 512 ∧ 0 ≤ p.2.1 ∧ p.2.1 ≤ 8192
theorem room_rng {l : List Rg.Pt} (h : ∀ p ∈ l, 1 ≤ p.2.2.1 ∧ p.2.2.1 ≤ 512) : 0 ≤ Rg.room l ∧ Rg.room l ≤ 512 * l.length := by
  unfold Rg.room
  induction l with
  | nil => exact ⟨Int.le_refl _, Int.le_refl _⟩
  | cons p r ih =>
    have h1 := ih (fun q hq => h q (List.mem_cons_of_mem _ hq))
    have h2 := h p List.mem_cons_self
    rw [List.map_cons, List.sum_cons, List.length_cons]
    split <;> omega
set_option maxRecDepth 100000 in
set_option maxHeartbeats 2000000 in
theorem room_any (A' : Option Addr) (m c' : Nat) (l : List Rg.Pt) (w : World) (hs : Sl w 4 A' m (Ps l)) (hl : l.length = m) (hsm : Sml l) :
    Calls Try.prog 28 #[.slice A' m c'] w fun e w' => e = .returned (.int .i64 (Rg.room l)) ∧ Later w w' := by
  have hm : m ≤ 4 := by have := hsm.1; omega
  have HL := Lib.hid hl
  have HB := Lib.hid fun k => room_rng (l := l.take k) (fun p hp => ⟨(hsm.2 p (List.mem_of_mem_take hp)).1, (hsm.2 p (List.mem_of_mem_take hp)).2.1⟩)
  have HE := Lib.hid hsm.2
  clear hl hsm
  go_enter Try.func28, Try.ntmps28
  go_wp2
  go_loopw [3, 8] (fun r v wr => ∃ k : Nat, k ≤ m ∧ v = .int .i64 (k : Int) ∧ r = .int .i64 (Rg.room (l.take k)) ∧ Sl wr 4 A' m (Ps l) ∧ Later w wr) (fun _ v _ => m - (intOf v).toNat)
  case atStart => exact ⟨0, Nat.zero_le _, rfl, rfl, hs, later0 _⟩
  case round =>
    clear hs
    rename_i wr
    obtain ⟨k, hk, rfl, rfl, hs, lr⟩ := hrel
    obtain ⟨r0, r1⟩ := HB.out k
    have r2 : ((l.take k).length : Int) ≤ 4 := by rw [List.length_take]; have := HL.out; omega
    by_cases hlt : k < m
    · have hkl : k < l.length := by rw [HL.out]; exact hlt
      obtain ⟨ad, hA⟩ := hs.addr (by omega)
      subst hA
      have HC := Lib.hid (hs.ptAt hkl HL.out)
      have HF := Lib.hid (hs.ptF hkl HL.out)
      have HX := Lib.hid (room_succ l hkl)
      obtain ⟨s1, s2, s3, s4⟩ := HE.out _ (List.getElem_mem hkl)
      have kn : (k : Int) < (m : Int) := by omega
      obtain ⟨R0, hR0⟩ : ∃ z, z = Rg.room (l.take k) := ⟨_, rfl⟩
      obtain ⟨R1, hR1⟩ : ∃ z, z = Rg.room (l.take (k + 1)) := ⟨_, rfl⟩
      obtain ⟨q, hq⟩ : ∃ q, q = l[k] := ⟨_, rfl⟩
      rw [← hR0, ← hR1, ← hq] at HX
      rw [← hq] at HC HF s1 s2
      rw [← hR0] at r0 r1 ⊢
      have HR1 := Lib.hid hR1
      have r3 : R0 ≤ 2048 := by omega
      clear hR0 hR1 hq s3 s4 r1 r2
      cases hw : q.2.2.2
      · have HY := Lib.hid (show R1 = R0 from by rw [HX.out, hw]; exact Int.add_zero _)
        go_wp2_with (first
          | ((with_reducible refine wpList_load_addr (o := ⟨some 11, .load 59 (.tmp 10), _, _, _, none⟩) rfl _ _ rfl (ad.add (k * 4)) (Pc q) _ ?_ HC.out Try.underlying59 rfl (pt_sz _) ?_); rfl)
          | ((with_reducible refine wpList_store_abs (o := ⟨none, .store 59 (.tmp 5) (.tmp 11), _, _, _, none⟩) rfl _ _ _ rfl wr.heap.size 59 ([.int .i64 0, .int .i64 0, .int .i64 0, .bool false]) (Pc q) ?_ ?_ ?_ ?_ ?_ ?_ ?_); rfl; rfl; exact (Blk.new _ _ _ _ rfl); exact (pt_sz _); rfl; exact (pt_one _); intro w2 b9 o9; have l2 := Below.only (later1 wr (.cells #[.int .i64 0, .int .i64 0, .int .i64 0, .bool false] 59)) o9 (Nat.le_refl _); have e3 := b9.cell (j := 3) (v := .bool q.2.2.2) rfl; rw [hw] at e3; have e2 := b9.cell (j := 2) (v := .int .i64 q.2.2.1) rfl))
        go_roundw
        case rel => exact ⟨k + 1, by omega, by go_num, by rw [← HR1.out, HY.out], hs.keep l2, Later.trans_ lr l2⟩
        case measure => simp [intOf]; omega
      · have HY := Lib.hid (show R1 = R0 + q.2.2.1 from by rw [HX.out, hw]; rfl)
        go_wp2_with (first
          | ((with_reducible refine wpList_load_addr (o := ⟨some 11, .load 59 (.tmp 10), _, _, _, none⟩) rfl _ _ rfl (ad.add (k * 4)) (Pc q) _ ?_ HC.out Try.underlying59 rfl (pt_sz _) ?_); rfl)
          | ((with_reducible refine wpList_store_abs (o := ⟨none, .store 59 (.tmp 5) (.tmp 11), _, _, _, none⟩) rfl _ _ _ rfl wr.heap.size 59 ([.int .i64 0, .int .i64 0, .int .i64 0, .bool false]) (Pc q) ?_ ?_ ?_ ?_ ?_ ?_ ?_); rfl; rfl; exact (Blk.new _ _ _ _ rfl); exact (pt_sz _); rfl; exact (pt_one _); intro w2 b9 o9; have l2 := Below.only (later1 wr (.cells #[.int .i64 0, .int .i64 0, .int .i64 0, .bool false] 59)) o9 (Nat.le_refl _); have e3 := b9.cell (j := 3) (v := .bool q.2.2.2) rfl; rw [hw] at e3; have e2 := b9.cell (j := 2) (v := .int .i64 q.2.2.1) rfl))
        go_roundw
        case rel => exact ⟨k + 1, by omega, by go_num, by rw [← HR1.out, HY.out], hs.keep l2, Later.trans_ lr l2⟩
        case measure => simp [intOf]; omega
    · obtain rfl : k = m := by omega
      have nlt : ¬ ((k : Int) < (k : Int)) := by omega
      have HN := Lib.hid (show Rg.room (l.take k) = Rg.room l from by rw [List.take_of_length_le (by rw [HL.out]; exact Nat.le_refl _)])
      rw [HN.out]
      clear r0 r1 r2
      go_wp2
      go_ret
      exact ⟨rfl, lr⟩
set_option maxRecDepth 100000 in
set_option maxHeartbeats 2000000 in
theorem rroom_any (A' : Option Addr) (m c' : Nat) (l : List Rg.Pt) (w : World) (hs : Sl w 4 A' m (Ps l)) (hl : l.length = m) (hsm : Sml l) :
    Calls Try.prog 29 #[.slice A' m c'] w fun e w' => e = .returned (.int .i64 (Rg.room l)) ∧ Later w w' := by
  have hm : m ≤ 4 := by have := hsm.1; omega
  have HL := Lib.hid hl
  have HB := Lib.hid fun k => room_rng (l := l.take k) (fun p hp => ⟨(hsm.2 p (List.mem_of_mem_take hp)).1, (hsm.2 p (List.mem_of_mem_take hp)).2.1⟩)
  have HE := Lib.hid hsm.2
  clear hl hsm
  go_enter Try.func29, Try.ntmps29
  go_wp2
  go_loopw [3, 4] (fun r v wr => ∃ k : Nat, k ≤ m ∧ v = .int .i64 (k : Int) ∧ r = .int .i64 (Rg.room (l.take k)) ∧ Sl wr 4 A' m (Ps l) ∧ Later w wr) (fun _ v _ => m - (intOf v).toNat)
  case atStart => exact ⟨0, Nat.zero_le _, rfl, rfl, hs, later0 _⟩
  case round =>
    clear hs
    rename_i wr
    obtain ⟨k, hk, rfl, rfl, hs, lr⟩ := hrel
    obtain ⟨r0, r1⟩ := HB.out k
    have r2 : ((l.take k).length : Int) ≤ 4 := by rw [List.length_take]; have := HL.out; omega
    by_cases hlt : k < m
    · have hkl : k < l.length := by rw [HL.out]; exact hlt
      obtain ⟨ad, hA⟩ := hs.addr (by omega)
      subst hA
      have HC := Lib.hid (hs.ptAt hkl HL.out)
      have HF := Lib.hid (hs.ptF hkl HL.out)
      have HX := Lib.hid (room_succ l hkl)
      obtain ⟨s1, s2, s3, s4⟩ := HE.out _ (List.getElem_mem hkl)
      have kn : (k : Int) < (m : Int) := by omega
      obtain ⟨R0, hR0⟩ : ∃ z, z = Rg.room (l.take k) := ⟨_, rfl⟩
      obtain ⟨R1, hR1⟩ : ∃ z, z = Rg.room (l.take (k + 1)) := ⟨_, rfl⟩
      obtain ⟨q, hq⟩ : ∃ q, q = l[k] := ⟨_, rfl⟩
      rw [← hR0, ← hR1, ← hq] at HX
      rw [← hq] at HC HF s1 s2
      rw [← hR0] at r0 r1 ⊢
      have HR1 := Lib.hid hR1
      have r3 : R0 ≤ 2048 := by omega
      clear hR0 hR1 hq s3 s4 r1 r2
      cases hw : q.2.2.2
      · have HY := Lib.hid (show R1 = R0 from by rw [HX.out, hw]; exact Int.add_zero _)
        have f3 := HF.out.2.2.2
        rw [hw] at f3
        have f2 := HF.out.2.2.1
        clear hw
        go_wp2
        go_roundw
        case rel => exact ⟨k + 1, by omega, by go_num, by rw [← HR1.out, HY.out], hs, lr⟩
        case measure => simp [intOf]; omega
      · have HY := Lib.hid (show R1 = R0 + q.2.2.1 from by rw [HX.out, hw]; rfl)
        have f3 := HF.out.2.2.2
        rw [hw] at f3
        have f2 := HF.out.2.2.1
        clear hw
        go_wp2
        go_roundw
        case rel => exact ⟨k + 1, by omega, by go_num, by rw [← HR1.out, HY.out], hs, lr⟩
        case measure => simp [intOf]; omega
    · obtain rfl : k = m := by omega
      have nlt : ¬ ((k : Int) < (k : Int)) := by omega
      have HN := Lib.hid (show Rg.room (l.take k) = Rg.room l from by rw [List.take_of_length_le (by rw [HL.out]; exact Nat.le_refl _)])
      rw [HN.out]
      clear r0 r1 r2
      go_wp2
      go_ret
      exact ⟨rfl, lr⟩
theorem upTo_any (t : ByteArray) (x : Int) (w : World) (h0 : 0 ≤ x) (h1 : x ≤ 1000) (ht : t.size ≤ 1000000) : Calls Try.prog 51 #[.string t, .int .i64 x] w fun e w' => e = .returned (.string (t.extract 0 x.toNat)) ∧ w = w' := by
  obtain ⟨z, hz⟩ : ∃ z : Int, min x (t.size : Int) = z := ⟨_, rfl⟩
  have hz2 : max 0 z = z := by omega
  have hz3 : z.toNat ≤ t.size := by omega
  have hz0 : 0 ≤ z := by omega
  have hz4 : z ≤ (t.size : Int) := by omega
  have HZ := Lib.hid (show t.extract 0 z.toNat = t.extract 0 x.toNat from by
    by_cases hx : x ≤ (t.size : Int)
    · rw [show z = x by omega]
    · apply ByteArray.ext
      apply Array.ext'
      rw [show z.toNat = t.size by omega]
      simp only [ByteArray.data_extract, Array.toList_extract, List.extract_eq_take_drop]
      have h5 : t.data.toList.length = t.size := Array.length_toList
      rw [List.take_of_length_le (by rw [List.length_drop]; omega), List.take_of_length_le (by rw [List.length_drop]; omega)])
  go_enter Try.func51, Try.ntmps51
  go_wp2
  go_ret
  rw [HZ.out]
  exact ⟨rfl, rfl⟩
end Go.Proofs.Ytffgbbfcbobecaa
