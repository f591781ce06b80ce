/-
  THE WALKS OF wire's GetInts, GetStrings, GetDigests, and of the reference's GetDigests.
-/
import Derived.Test.YtaknnccmohgmpaaWireH
namespace Go.Proofs.Ytaknnccmohgmpaa
open Go.RowKit

set_option maxHeartbeats 400000 in
theorem wireGetInts_any (A : Option Addr) (n c : Nat) (b : Wm.Bs) (w : World) (hs : Sl w 1 A n (U b)) (hb : Wm.isBs b) (hnc : n ≤ c) (hn : c ≤ maxLen) (hsm : n ≤ 1000000) :
    Calls Try.prog 28 #[.slice A n c] w (GotInts (Wm.decL Wm.decI 1 b) w) := by
  have H := Lib.hid (decodeInts_any A n c b w hs hb hnc hn hsm)
  go_enter Try.func28, Try.ntmps28
  go_wp2_with (go_at_call 46; refine (H.out).mono ?_; rintro e w' ⟨A2, n2, c2, rfl, h1, h2, h3, h4⟩)
  go_ret3
  exact ⟨A2, n2, c2, rfl, h1, h2, h3, h4⟩
set_option maxHeartbeats 400000 in
theorem wireGetStrs_any (A : Option Addr) (n c : Nat) (b : Wm.Bs) (w : World) (hs : Sl w 1 A n (U b)) (hb : Wm.isBs b) (hnc : n ≤ c) (hn : c ≤ maxLen) (hsm : n ≤ 1000000) :
    Calls Try.prog 31 #[.slice A n c] w (GotStrs (Wm.decL Wm.decB 1 b) w) := by
  have H := Lib.hid (decodeStrs_any A n c b w hs hb hnc hn hsm)
  go_enter Try.func31, Try.ntmps31
  go_wp2_with (go_at_call 48; refine (H.out).mono ?_; rintro e w' ⟨A2, n2, c2, rfl, h1, h2, h3, h4⟩)
  go_ret3
  exact ⟨A2, n2, c2, rfl, h1, h2, h3, h4⟩
set_option maxHeartbeats 400000 in
theorem wireGetDigs_any (A : Option Addr) (n c : Nat) (b : Wm.Bs) (w : World) (hs : Sl w 1 A n (U b)) (hb : Wm.isBs b) (hnc : n ≤ c) (hn : c ≤ maxLen) (hsm : n ≤ 1000000) :
    Calls Try.prog 34 #[.slice A n c] w (GotDigs (Wm.decL decD 16 b) w) := by
  have H := Lib.hid (decodeDigs_any A n c b w hs hb hnc hn hsm)
  go_enter Try.func34, Try.ntmps34
  go_wp2_with (go_at_call 49; refine (H.out).mono ?_; rintro e w' ⟨A2, n2, c2, rfl, h1, h2, h3, h4⟩)
  go_ret3
  exact ⟨A2, n2, c2, rfl, h1, h2, h3, h4⟩

/-- A digest that is being filled: the first i bytes are there. -/
def Cur (D : Wm.Bs) (i : Nat) : List Value := (U D).take i ++ List.replicate (16 - i) (.int .u8 0)
theorem Cur.zero (D : Wm.Bs) : Cur D 0 = zeros16 := by simp [Cur, zeros16]
theorem Cur.all {D : Wm.Bs} (h : D.length = 16) : Cur D 16 = U D := by
  unfold Cur
  rw [List.take_of_length_le (by rw [U_length]; omega), Nat.sub_self]
  simp
theorem Cur.len {D : Wm.Bs} (h : D.length = 16) {i : Nat} (hi : i ≤ 16) : (Cur D i).length = 16 := by
  unfold Cur; rw [List.length_append, List.length_take, U_length, List.length_replicate]; omega
theorem Cur.next {D : Wm.Bs} (h : D.length = 16) {i : Nat} (hi : i < 16) : (Cur D i).set i (.int .u8 (D.getD i 0)) = Cur D (i + 1) := by
  unfold Cur
  have hl : ((U D).take i).length = i := by rw [List.length_take, U_length]; omega
  have e1 : 16 - i = (16 - (i + 1)) + 1 := by omega
  have hU : i < (U D).length := by rw [U_length]; omega
  have hg : (U D)[i] = .int .u8 (D.getD i 0) := by
    have := U_get D i (by omega)
    rw [List.getElem?_eq_getElem hU] at this
    exact Option.some.inj this
  rw [List.set_append_right _ _ (by omega), hl, Nat.sub_self, e1, List.replicate_succ, List.set_cons_zero, List.take_succ_eq_append_getElem hU, hg, List.append_assoc]
  rfl

set_option maxRecDepth 100000 in
set_option maxHeartbeats 800000 in
theorem refGetDigs_any (A : Option Addr) (n c : Nat) (b : Wm.Bs) (w : World) (hs : Sl w 1 A n (U b)) (hb : Wm.isBs b) (hnc : n ≤ c) (hn : c ≤ maxLen) (hsm : n ≤ 1000000) :
    Calls Try.prog 35 #[.slice A n c] w (GotDigs (Wm.decL decD 16 b) w) := by
  obtain ⟨i0, hi, hz0, hz1, hz2⟩ := info_parts dig_info
  have hc := refLength_any A n c b 16 w hs hb (by omega) (by omega) (by omega)
  unfold maxLen at hn
  obtain ⟨z, u, e, hr⟩ : ∃ z u e, Wm.decLen b 16 = (z, u, e) := ⟨_, _, _, rfl⟩
  have H := Lib.hid (Calls.out3 hc hr)
  have hok := Wm.decLen_ok hb (by decide) hr
  rw [hs.blen] at hok
  rcases hok with ⟨he, h1, h2, h3, h4, h5, _⟩ | ⟨hz, hu, he⟩
  · subst he
    obtain ⟨m, rfl⟩ := Int.eq_ofNat_of_zero_le h1
    have hst := Wm.Going.start (get := decD) hr
    rw [Int.toNat_natCast] at h5
    obtain ⟨fin, hfin⟩ : ∃ fin, Wm.decL decD 16 b = fin := ⟨_, rfl⟩
    rw [hfin] at hst ⊢
    clear hr hc hfin h1 h2
    have t1 : ((0 : Int) != 0) = false := rfl
    go_enter Try.func35, Try.ntmps35
    go_wp2_with (go_at_call 47; refine (H.out).mono ?_; rintro e w' ⟨rfl, rfl⟩)
    go_loopw [6, 8, 9] (fun at_ lv i wr => ∃ (k p : Nat) (acc : List Wm.Bs), k ≤ m ∧ p + (m - k) * 16 ≤ n ∧ i = .int .i64 k ∧ at_ = .int .i64 p ∧ acc.length ≤ k ∧ isD acc ∧ Wm.Going decD b m k acc p fin ∧ wr.ownsRow w.heap.size 57 16 lv acc.length (Ds acc) ∧ Later w wr) (fun _ _ i _ => m - (intOf i).toNat)
    case atStart => exact ⟨0, u, [], Nat.zero_le _, by omega, rfl, rfl, Nat.le_refl _, (fun _ h => by cases h), hst, World.ownsRow_nil _ _ _ _, Below.refl _ _⟩
    case round =>
      obtain ⟨k, p, acc, hk, hp, rfl, rfl, hal, hid, hgo, hor, hbr⟩ := hrel
      by_cases hlt : k < m
      · have hpn : p + 16 ≤ n := by have : 1 ≤ m - k := by omega
                                    have := Nat.mul_le_mul_right 16 this
                                    omega
        have hgn := hgo.next hlt (x := (b.drop p).take 16) (k := 16) rfl
        have hdl : ((b.drop p).take 16).length = 16 := by have := hs.blen; rw [List.length_take, List.length_drop]; omega
        have hdb : Wm.isBs ((b.drop p).take 16) := fun x hx => isBs_drop hb p x (List.mem_of_mem_take hx)
        have hdg : ∀ i, i < 16 → ((b.drop p).take 16).getD i 0 = b.getD (p + i) 0 := fun i hi => by
          rw [List.getD_eq_getElem?_getD, List.getD_eq_getElem?_getD, List.getElem?_take_of_lt hi, List.getElem?_drop]
        obtain ⟨D, hD⟩ : ∃ D, D = (b.drop p).take 16 := ⟨_, rfl⟩
        rw [← hD] at hgn hdl hdb hdg
        clear hD hgo
        have HDl := Lib.hid hdl; clear hdl
        have HDg := Lib.hid hdg; clear hdg
        obtain ⟨wo, rfl⟩ : ∃ wo : World, wo = wr := ⟨_, rfl⟩
        have hst2 : (wo.alloc (.cells zeros16.toArray 57)).heap[wo.heap.size]? = some (.cells (Cur D 0).toArray 57 (0, 0)) := by rw [Cur.zero]; exact heap_alloc_new wo _
        have HST := Lib.hid hst2; clear hst2
        go_wp2
        go_loopw [11] (fun i wr => ∃ j : Nat, j ≤ 16 ∧ i = .int .i64 j ∧ wr.heap[wo.heap.size]? = some (.cells (Cur D j).toArray 57 (0, 0)) ∧ Later wo wr) (fun i _ => 16 - (intOf i).toNat)
        case atStart => exact ⟨0, by omega, rfl, HST.out, (Below.refl _ _).alloc (Nat.le_refl _) _⟩
        case round =>
          obtain ⟨j, hj, rfl, hcur, hlw⟩ := hrel
          by_cases hj16 : j < 16
          · obtain ⟨ad, hade, _, hcb⟩ := ((hs.keep hbr).keep hlw).byte (show p + j < n by omega)
            obtain rfl := hade
            rw [← HDg.out j hj16] at hcb
            have hcd : wr.cell? ⟨wo.heap.size, j, none⟩ = some ((Cur D j)[j]'(by rw [Cur.len HDl.out hj]; exact hj16)) := by
              rw [cell_of_row wr wo.heap.size j _ _ _ hcur]
              simp
            have hfz : wr.frozen? ⟨wo.heap.size, j, none⟩ = false := frozen_of_row wr wo.heap.size j _ _ hcur
            have hnx : (wr.setCell ⟨wo.heap.size, j, none⟩ (.int .u8 (D.getD j 0))).heap[wo.heap.size]? = some (.cells (Cur D (j + 1)).toArray 57 (0, 0)) := by
              rw [heap_setCell_same wr wo.heap.size j _ _ _ hcur, ← Cur.next HDl.out hj16]
              simp
            have hlw2 : Later wo (wr.setCell ⟨wo.heap.size, j, none⟩ (.int .u8 (D.getD j 0))) := hlw.setCell (Nat.le_refl _) _
            have HNX := Lib.hid hnx; clear hnx
            have HLW := Lib.hid hlw2; clear hlw2
            obtain ⟨y, hy⟩ : ∃ y, y = D.getD j 0 := ⟨_, rfl⟩
            rw [← hy] at hcb HNX HLW
            obtain ⟨y0, hy0⟩ : ∃ y0, y0 = (Cur D j)[j]'(by rw [Cur.len HDl.out hj]; exact hj16) := ⟨_, rfl⟩
            rw [← hy0] at hcd
            clear hy hy0 hcur
            go_wp2
            go_roundw
            case rel => exact ⟨j + 1, by omega, by go_num, HNX.out, HLW.out⟩
            case measure => simp [intOf]; omega
          · obtain rfl : j = 16 := by omega
            rw [Cur.all HDl.out] at hcur
            obtain ⟨X, hX⟩ : ∃ X, X = (U D).toArray := ⟨_, rfl⟩
            rw [← hX] at hcur
            have hXs : (Try.prog.info? 57).map (·.size) = some (U D).length := by rw [U_length, HDl.out]; exact dig_size
            have hcX : ∀ j v, (U D)[j]? = some v → wr.cell? ((⟨wo.heap.size, 0, none⟩ : Addr).add j) = some v := fun j v h => World.news_of_block hcur j v (by rw [hX]; simpa using h)
            have HXl : Hid (16 = X.size) := by show 16 = X.size; rw [hX, List.size_toArray, U_length, HDl.out]
            have hor2 := own_below hor hlw
            have hb3 : Later w wr := hbr.trans_ hlw
            have hsl : Sl (wr.alloc (.cells X 57)) 16 (some ⟨wr.heap.size, 0, none⟩) 1 (U D) := ⟨by rw [U_length, HDl.out], fun _ => ⟨_, rfl, by simp, fun j u hu => World.news_of_block (heap_alloc_new wr _) j u (by rw [hX]; simpa using hu)⟩⟩
            have HSL := Lib.hid hsl
            have HX := Lib.hid hX
            clear hX hcur hsl
            go_wp2_with (first
              | ((with_reducible refine wpList_load_addr (o := ⟨some 39, .load 57 (.tmp 10), _, _, _, none⟩) rfl _ _ rfl ⟨wo.heap.size, 0, none⟩ (U D) _ ?_ hcX dig_under rfl hXs ?_); rfl; rw [← HX.out])
              | ((with_reducible refine wpList_build1 (o := ⟨some 40, .buildSlice 24 1 #[(0, .tmp 39)], _, _, _, none⟩) rfl _ _ _ rfl X i0 _ Try.underlying24 hi hz0 ?_ ?_ ?_ ?_ wr.heap.size rfl ?_); exact hz1.trans HXl.out; (rw [← HXl.out]; decide); (rw [← HXl.out]; decide); rfl)
              | (at_builtin; refine wpList_app _ rfl _ _ 24 rfl w.heap.size 57 i0 _ 16 16 Try.underlying24 hi hz0 hz1 hz2 rfl (by decide) _ _ _ rfl (hor2.alloc _) (some ⟨wr.heap.size, 0, none⟩) 1 1 (U D) rfl HSL.out (U_one _) (by unfold maxLen; omega) (by omega) (by have := hb3.size; simp; omega) ?_; intro v3 w3 ho3 hg3))
            have hsz3 := hb3.size
            have hb4 : Later w w3 := (hb3.alloc hb3.size _).grown hg3 (by simp; omega) (fun j hj => (hor2.lt j hj).1)
            have ho4 := own_snocD ho3
            have hid2 := isD_snoc hid HDl.out hdb
            clear ho3 hg3 hor hor2
            go_wp2
            go_roundw
            case rel => exact ⟨k + 1, p + 16, _, by omega, by omega, by go_num, by go_num, by simp; omega, hid2, hgn, ho4, hb4⟩
            case measure => simp [intOf]; omega
      · obtain rfl : k = m := by omega
        have hgn := Lib.hid hgo.end_
        obtain ⟨A2, c2, hv2, hc2, hc3, hs2, _⟩ := own_form hor
        rw [hv2]
        clear hgo hv2
        go_wp2
        go_ret3
        rw [hgn.out]
        exact ⟨A2, _, c2, rfl, hc2, hc3, hs2, hbr⟩
  · subst hz hu
    have hq : Wm.decL decD 16 b = ([], 0, e) := by unfold Wm.decL; rw [hr]; rw [if_pos (by simp only; omega)]
    have HQ := Lib.hid hq; clear hq hr hc
    have t1 : (e != 0) = true := neq_true (by omega)
    go_enter Try.func35, Try.ntmps35
    go_wp2_with (go_at_call 47; refine (H.out).mono ?_; rintro e w' ⟨rfl, rfl⟩)
    go_ret3
    rw [HQ.out]
    exact ⟨none, 0, 0, rfl, Nat.le_refl _, Nat.zero_le _, Sl.nil _ _ _, Below.refl _ _⟩

end Go.Proofs.Ytaknnccmohgmpaa
