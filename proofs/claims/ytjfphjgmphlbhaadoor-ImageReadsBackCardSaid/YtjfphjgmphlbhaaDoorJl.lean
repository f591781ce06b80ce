/-
  THE WALK OF Check.
-/
import Derived.Test.YtjfphjgmphlbhaaDoorJk
import Derived.Test.YtjfphjgmphlbhaaDoorJj
namespace Go.Proofs.YtjfphjgmphlbhaaDoor
open Go.RowKit Go.ChangeShapes Go.WideShapes Go.ChangeAt

set_option maxRecDepth 100000 in
set_option maxHeartbeats 2000000 in
theorem check_any (en p : Int) (A : Option Addr) (n c : Nat) (L : List Im.Seg) (B : Option Addr) (m d : Nat) (w : World) (hs : Sl w 2 A n (Gs L)) (hL : inSeg L) (hn : n ≤ maxLen) (hm : m ≤ maxLen) (hp : -9223372036854775808 ≤ p ∧ p ≤ 9223372036854775807) :
    Calls Tryd.prog 17 #[.agg #[.int .i64 en, .int .i64 p, .slice A n c, .slice B m d]] w fun e w' => e = .returned (.int .i64 (Im.chk en p L m)) ∧ Later w w' := by
  have HLN := hs.seglen
  have hn0 := hn
  unfold maxLen at hn hm
  have HE := Lib.hid fun w' => isEntry_any en (p * 128) w'
  by_cases h1 : 1 ≤ p
  · by_cases h2 : p ≤ 64
    · have HO := Lib.hid fun w' (hl : Later w w') => inOrder_any A n c L (p * 128) w' (hs.keep hl) hL hn0 (by omega)
      have l0 := later1 w (.cells #[.int .i64 en, .int .i64 p, .slice A n c, .slice B m d] 29)
      unfold Im.chk
      rw [HLN]
      obtain ⟨q, hq⟩ : ∃ q, q = Im.entry en (p * 128) := ⟨_, rfl⟩
      obtain ⟨r, hr⟩ : ∃ r, r = Im.ord (p * 128) 0 L := ⟨_, rfl⟩
      rw [← hq] at HE ⊢
      rw [← hr] at HO ⊢
      have hsz : IntKind.i64.wrap (p * 128) = p * 128 := wraps_i64 _ (by omega) (by omega)
      clear hq hr HLN hL hs
      have hp0 : ¬ (p < 1) := by omega
      have hp1 : ¬ (p > 64) := by omega
      cases q with
      | false =>
        rw [if_neg (by simp)]
        go_enter Tryd.func17, Tryd.ntmps17
        go_wp2_with (first
          | (go_at_call 28; refine (HE.out _).mono ?_; rintro e w1 ⟨rfl, rfl⟩))
        go_ret
        exact ⟨rfl, l0⟩
      | true =>
        rw [if_pos ⟨h1, h2, rfl⟩]
        by_cases h3 : 64 < n
        · rw [if_pos (.inl h3)]
          have h3' : (n : Int) > 64 := by omega
          go_enter Tryd.func17, Tryd.ntmps17
          go_wp2_with (first
            | (go_at_call 28; refine (HE.out _).mono ?_; rintro e w1 ⟨rfl, rfl⟩))
          go_ret
          exact ⟨rfl, l0⟩
        · by_cases h4 : 64 < m
          · rw [if_pos (.inr h4)]
            have h4' : (m : Int) > 64 := by omega
            go_enter Tryd.func17, Tryd.ntmps17
            go_wp2_with (first
              | (go_at_call 28; refine (HE.out _).mono ?_; rintro e w1 ⟨rfl, rfl⟩))
            go_ret
            exact ⟨rfl, l0⟩
          · rw [if_neg (by omega)]
            have h3' : ¬ ((n : Int) > 64) := by omega
            have h4' : ¬ ((m : Int) > 64) := by omega
            cases r with
            | false =>
              rw [if_neg (by simp)]
              go_enter Tryd.func17, Tryd.ntmps17
              go_wp2_with (first
                | (go_at_call 43; refine (HO.out _ l0).mono ?_; rintro e w2 ⟨rfl, l2⟩)
                | (go_at_call 28; refine (HE.out _).mono ?_; rintro e w1 ⟨rfl, rfl⟩))
              go_ret
              exact ⟨rfl, Later.trans_ l0 l2⟩
            | true =>
              rw [if_pos rfl]
              go_enter Tryd.func17, Tryd.ntmps17
              go_wp2_with (first
                | (go_at_call 43; refine (HO.out _ l0).mono ?_; rintro e w2 ⟨rfl, l2⟩)
                | (go_at_call 28; refine (HE.out _).mono ?_; rintro e w1 ⟨rfl, rfl⟩))
              go_ret
              exact ⟨rfl, Later.trans_ l0 l2⟩
    · unfold Im.chk
      rw [if_neg (by omega)]
      have hp0 : ¬ (p < 1) := by omega
      have hp1 : p > 64 := by omega
      have l0 := later1 w (.cells #[.int .i64 en, .int .i64 p, .slice A n c, .slice B m d] 29)
      clear HE
      go_enter Tryd.func17, Tryd.ntmps17
      go_wp2
      go_ret
      exact ⟨rfl, l0⟩
  · unfold Im.chk
    rw [if_neg (by omega)]
    have hp0 : p < 1 := by omega
    have l0 := later1 w (.cells #[.int .i64 en, .int .i64 p, .slice A n c, .slice B m d] 29)
    clear HE
    go_enter Tryd.func17, Tryd.ntmps17
    go_wp2
    go_ret
    exact ⟨rfl, l0⟩
end Go.Proofs.YtjfphjgmphlbhaaDoor

/-
  THE WALK OF Load.
-/
namespace Go.Proofs.YtjfphjgmphlbhaaDoor
open Go.RowKit Go.ChangeShapes Go.WideShapes Go.ChangeAt

set_option maxRecDepth 100000 in
/-- What hands back a memory of the call's own, and no error. -/
def GotL (n : Nat) (b : Wm.Bs) (w : World) (e : Ending) (w' : World) : Prop := ∃ g c', e = .returned (.tuple #[.agg #[.slice (some ⟨g, 0, none⟩) n c'], .int .i64 0]) ∧ w.heap.size ≤ g ∧ n ≤ c' ∧ c' ≤ maxLen ∧ Draft w' g n b ∧ Later w w'
set_option maxRecDepth 100000 in
set_option maxHeartbeats 4000000 in
theorem load_ok (en : Int) (p : Nat) (A : Option Addr) (n c : Nat) (L : List Im.Seg) (B : Option Addr) (m d : Nat) (w : World) (hs : Sl w 2 A n (Gs L)) (hL : inSeg L) (hm : m ≤ maxLen) (hn : n ≤ maxLen) (hok : Im.chk en (p : Int) L m = 0) :
    Calls Tryd.prog 16 #[.agg #[.int .i64 en, .int .i64 (p : Int), .slice A n c, .slice B m d]] w (GotL p (Im.lay (Im.Zr (p * 128)) L) w) := by
  obtain ⟨⟨p1, p2⟩, _, hL64, _, hord⟩ := Im.chk_ok hok
  have HCK := Lib.hid fun w' (hl : Later w w') => check_any en (p : Int) A n c L B m d w' (hs.keep hl) hL hn hm (by omega)
  rw [hok] at HCK
  have HLN := Lib.hid hs.seglen
  have HAD := Lib.hid (show ∀ ad, A = some ad → 0 < n → ad.block < w.heap.size from fun ad e h => by obtain ⟨ad', e', hb, _⟩ := hs.2 h; rw [e] at e'; cases e'; exact hb)
  have hn64 : n ≤ 64 := by rw [← HLN.out]; exact hL64
  have hp1 : 1 ≤ p := by omega
  have hp2 : p ≤ 64 := by omega
  have HORD := Lib.hid hord
  have HNW := Lib.hid fun w' => new_ok p w' ⟨hp1, hp2⟩
  obtain ⟨R, hR⟩ : ∃ R, R = Im.lay (Im.Zr (p * 128)) L := ⟨_, rfl⟩
  have hRl : R.length = p * 128 := by rw [hR]; exact Im.lay_len (e := 0) (by omega) (by rw [Int.natCast_mul]; exact hord) (by simp [Im.Zr])
  have hRb : Wm.isBs R := by rw [hR]; exact Im.lay_bs (fun x hx => by rw [Im.Zr, List.mem_replicate] at hx; omega)
  have HWR := Lib.hid fun (g c' : Nat) (w' : World) (hd : Draft w' g p (Zs p)) => write_any (some ⟨g, 0, none⟩) p c' 0 (strOfNums R) (Zs p) w' hd.sl hp1 hp2 (by omega)
  have hwr : Mm.wr (Zs p) 0 (Wm.ofS (strOfNums R)) = R := by
    rw [Wm.ofS_str hRb]
    unfold Mm.wr
    have hz : (Zs p).length = p * 128 := by simp [Zs]
    rw [if_pos (by unfold Mm.Inside; rw [hz, hRl]; omega)]
    exact put_whole (by rw [hRl, hz])
  rw [hwr] at HWR
  have hin : Mm.Inside (p * 128) 0 (strOfNums R).size := by unfold Mm.Inside; rw [Im.strN_size, hRl]; omega
  rw [decide_eq_true hin] at HWR
  rw [← hR]
  have HR := Lib.hid hR
  have HRL := Lib.hid (show R.length = p * 128 ∧ Wm.isBs R from ⟨hRl, hRb⟩)
  clear hR hRl hRb hwr hin hok hord hL64
  obtain ⟨N, hN⟩ : ∃ N, N = p * 128 := ⟨_, rfl⟩
  have hNZ : IntKind.i64.wrap ((p : Int) * 128) = (N : Int) := by rw [IntKind.wrap_i64]; omega
  obtain ⟨i0, hi, hz0, hz1, hz2⟩ := info_parts u8_info
  have hmk := fun w' => run_makeSlice (P := Tryd.prog) w' 25 5 i0 _ Tryd.underlying25 hi hz0 .i64 .i64 (N : Int) (N : Int) (by omega) (by omega) (by rw [hz1]; omega) (by rw [hz2]; omega) (by omega)
  rw [Int.toNat_natCast, hz1, make_bytes] at hmk
  rw [← hN] at HRL
  have HP := Lib.hid hN
  have hN8 : N ≤ 8192 := by omega
  clear hN
  have l0 := later1 w (.cells #[.int .i64 en, .int .i64 (p : Int), .slice A n c, .slice B m d] 29)
  have b1 := (Blk.new w 29 #[.int .i64 en, .int .i64 (p : Int), .slice A n c, .slice B m d] [.int .i64 en, .int .i64 (p : Int), .slice A n c, .slice B m d] rfl).alloc (.cells #[.slice none 0 0] 24)
  have b2 := Blk.new' (w.alloc (.cells #[.int .i64 en, .int .i64 (p : Int), .slice A n c, .slice B m d] 29)) (w.heap.size + 1) 24 #[.slice none 0 0] [.slice none 0 0] (by simp) rfl
  go_enter Tryd.func16, Tryd.ntmps16
  go_wp2_with (first
    | (go_at_call 17; refine (HCK.out _ (l0.alloc l0.size _)).mono ?_; rintro e w1 ⟨rfl, l1⟩; replace b1 := b1.keep l1; replace b2 := b2.keep l1; have c11 := b1.cell (j := 1) (v := .int .i64 (p : Int)) rfl; have c12 : ∀ o, (w1.alloc o).cell? ⟨w.heap.size, 2, none⟩ = some (.slice A n c) := fun o => (b1.alloc o).cell (j := 2) rfl))
  have l2 := Later.trans_ (l0.alloc l0.size _) l1
  have hbk := Blk.new w1 5 (U (List.replicate N 0)).toArray (U (List.replicate N 0)) rfl
  replace b1 := b1.alloc (.cells (U (List.replicate N 0)).toArray 5)
  replace b2 := b2.alloc (.cells (U (List.replicate N 0)).toArray 5)
  have l3 := l2.alloc l2.size (.cells (U (List.replicate N 0)).toArray 5)
  have hC2 : w.heap.size + 2 ≤ w1.heap.size := by have := l1.size; simpa using this
  obtain ⟨C, hC⟩ : ∃ C, C = w1.heap.size := ⟨_, rfl⟩
  rw [← hC] at hbk hC2 ⊢
  clear l1 l2 hC c11 c12
  go_loopw [25] (fun i wr => ∃ (k : Nat) (X : Wm.Bs), k ≤ n ∧ i = .int .i64 (k : Int) ∧ Hid (X = Im.lay (Im.Zr N) (L.take k) ∧ X.length = N) ∧ Blk wr C 5 (U X) ∧ Sl wr 2 A n (Gs L) ∧ Blk wr w.heap.size 29 [.int .i64 en, .int .i64 (p : Int), .slice A n c, .slice B m d] ∧ Blk wr (w.heap.size + 1) 24 [.slice none 0 0] ∧ Later w wr) (fun i _ => n - (intOf i).toNat)
  case atStart => exact ⟨0, List.replicate N 0, Nat.zero_le _, rfl, Lib.hid ⟨rfl, by simp⟩, hbk, hs.keep l3, b1, b2, l3⟩
  case round =>
    clear hbk hs b1 b2 l3
    rename_i wr
    obtain ⟨k, X, hk, rfl, HX, hbk, hs, b1, b2, lr⟩ := hrel
    by_cases hlt : k < n
    · have hkl : k < L.length := by rw [HLN.out]; exact hlt
      obtain ⟨ad, rfl⟩ := hs.addr (by omega)
      have HC := Lib.hid (hs.seg hkl)
      obtain ⟨m1, m2, m3⟩ := Im.ord_mem HORD.out _ (List.getElem_mem hkl)
      have HT := Lib.hid (show Im.lay (Im.Zr N) (L.take (k + 1)) = Mm.put X L[k].1.toNat (Wm.ofS L[k].2) by rw [List.take_succ_eq_append_getElem hkl, Im.lay_snoc, HX.out.1])
      obtain ⟨a0, ha⟩ : ∃ a, a = L[k].1 := ⟨_, rfl⟩
      obtain ⟨s, hs'⟩ : ∃ s, s = L[k].2 := ⟨_, rfl⟩
      rw [← ha] at HC HT m2 m3
      rw [← hs'] at HC HT m1 m3
      clear ha hs'
      obtain ⟨a, rfl⟩ := Int.eq_ofNat_of_zero_le m2
      rw [Int.toNat_natCast] at HT
      have hfit : a + s.size ≤ N := by have := HP.out; omega
      have HK := Lib.hid (show (Wm.ofS s = (Wm.ofS s).take s.size ∧ (Wm.ofS s).length = s.size) ∧ s.size = Nat.min s.size (N - a) ∧ a + s.size ≤ (U X).length from
        ⟨⟨by rw [List.take_of_length_le (by rw [Wm.ofS_length]; exact Nat.le_refl _)], Wm.ofS_length s⟩, (Nat.min_eq_left (by omega)).symm, by rw [U_length, HX.out.2]; exact hfit⟩)
      have kn : (k : Int) < (n : Int) := by omega
      have haN : a ≤ N := by omega
      have haN2 : N ≠ a := by omega
      have hCl := hbk.lt
      have hwl := lr.size
      clear m1 m2 m3
      go_wp2_with (first
        | ((with_reducible refine wpList_load_addr (o := ⟨some 28, .load 47 (.tmp 27), _, _, _, none⟩) rfl _ _ rfl (ad.add (k * 2)) [.int .i64 (a : Int), .string s] _ ?_ HC.out Tryd.underlying47 rfl (seg_sz _ _) ?_); rfl))
      have b7 := (Blk.new wr 47 #[.int .i64 (a : Int), .string s] [.int .i64 (a : Int), .string s] rfl).drew
      replace hbk := (hbk.alloc (.cells #[.int .i64 (a : Int), .string s] 47)).drew
      replace b1 := (b1.alloc (.cells #[.int .i64 (a : Int), .string s] 47)).drew
      replace b2 := (b2.alloc (.cells #[.int .i64 (a : Int), .string s] 47)).drew
      replace hs := (hs.alloc (.cells #[.int .i64 (a : Int), .string s] 47)).drew
      have lr2 : Later w (wr.alloc (.cells #[.int .i64 (a : Int), .string s] 47)).drew := (lr.alloc lr.size _).drew
      have HNE := Lib.hid (show wr.heap.size ≠ C ∧ w.heap.size ≠ C ∧ w.heap.size + 1 ≠ C by omega)
      obtain ⟨B7, hB7⟩ : ∃ B7, B7 = wr.heap.size := ⟨_, rfl⟩
      rw [← hB7] at b7 HNE ⊢
      clear hB7
      refine wp_region_held_drew (S := fun w' => w'.cell? ⟨B7, 0, none⟩ = some (.int .i64 (a : Int)) ∧ w'.cell? ⟨B7, 1, none⟩ = some (.string s)) (by kernel_rfl) ⟨b7.cell (j := 0) rfl, b7.cell (j := 1) rfl⟩ (fun hHeld => ?_)
      refine wpAnyH_take (i := 0) (oi := ⟨some 29, .move (.tmp 5), _, _, _, none⟩) (v := .slice (some ⟨C, 0, none⟩) N N) rfl (by kernel_rfl) (by kernel_rfl) (by kernel_rfl) (fun _ _ _ h => h) (Or.inl ⟨by rfl, fun _ _ => rfl⟩) hHeld ?_
      simp only [Act.put, List.setIfInBounds_toArray, List.set_cons_zero, List.set_cons_succ]
      refine wpAnyH_take (i := 1) (oi := ⟨some 30, .fieldAddr 47 (.tmp 7) 0, _, _, _, none⟩) (v := .pointer (some ⟨B7, 0, none⟩)) rfl (by kernel_rfl) (by kernel_rfl) (by kernel_rfl) (fun _ _ _ h => h) (Or.inl ⟨by rfl, fun w _ => by go_simp⟩) hHeld ?_
      simp only [Act.put, List.setIfInBounds_toArray, List.set_cons_zero, List.set_cons_succ]
      refine wpAnyH_take (i := 2) (oi := ⟨some 31, .load 3 (.tmp 30), _, _, _, none⟩) (v := .int .i64 (a : Int)) rfl (by kernel_rfl) (by kernel_rfl) (by kernel_rfl) (fun _ _ _ h => h) (Or.inl ⟨by rfl, fun w hS => by obtain ⟨h0, h1⟩ := hS; go_simp⟩) hHeld ?_
      simp only [Act.put, List.setIfInBounds_toArray, List.set_cons_zero, List.set_cons_succ]
      refine wpAnyH_take (i := 3) (oi := ⟨some 32, .slice 25 (.tmp 29) (some (.tmp 31)) none none, _, _, _, none⟩) (v := .slice (some ⟨C, a, none⟩) (N - a) (N - a)) rfl (by kernel_rfl) (by kernel_rfl) (by kernel_rfl) (fun _ _ _ h => h) (Or.inl ⟨by rfl, fun w _ => by go_simp⟩) hHeld ?_
      simp only [Act.put, List.setIfInBounds_toArray, List.set_cons_zero, List.set_cons_succ]
      refine wpAnyH_take (i := 4) (oi := ⟨some 33, .fieldAddr 47 (.tmp 7) 1, _, _, _, none⟩) (v := .pointer (some ⟨B7, 1, none⟩)) rfl (by kernel_rfl) (by kernel_rfl) (by kernel_rfl) (fun _ _ _ h => h) (Or.inl ⟨by rfl, fun w _ => by go_simp⟩) hHeld ?_
      simp only [Act.put, List.setIfInBounds_toArray, List.set_cons_zero, List.set_cons_succ]
      refine wpAnyH_take (i := 5) (oi := ⟨some 34, .load 9 (.tmp 33), _, _, _, none⟩) (v := .string s) rfl (by kernel_rfl) (by kernel_rfl) (by kernel_rfl) (fun _ _ _ h => h) (Or.inl ⟨by rfl, fun w hS => by obtain ⟨h0, h1⟩ := hS; go_simp⟩) hHeld ?_
      simp only [Act.put, List.setIfInBounds_toArray, List.set_cons_zero, List.set_cons_succ]
      refine wpAnyH_ready (rs := [6]) (by kernel_rfl) (by simp) (AllReadyH.cons (o := ⟨some 35, .call { callee := .builtin .copy, args := #[.tmp 32, .tmp 34], argTypes := #[25, 9] }, _, _, _, none⟩) rfl (fun K' hK => ?_) (AllReadyH.nil))
      refine wp_copy_str _ _ rfl Tryd.underlying25 u8_sz C a _ _ rfl s rfl (Wm.ofS s) s.size HK.out.1 HK.out.2.1 5 (U X) hbk HK.out.2.2 ?_
      intro w6 b6 o6
      replace b7 := b7.only o6 HNE.out.1
      refine hK.out _ _ ⟨b7.cell (j := 0) rfl, b7.cell (j := 1) rfl⟩ (fun hHeld => ?_)
      clear hK K'
      try simp only [Act.put, List.setIfInBounds_toArray, List.set_cons_zero, List.set_cons_succ]
      refine wpAnyH_done (by kernel_rfl) ?_ _
      clear hHeld
      go_wp2
      go_roundw
      case rel =>
        refine ⟨k + 1, Mm.put X a (Wm.ofS s), by omega, by go_num, Lib.hid ⟨HT.out.symm, by rw [Mm.put_len (by rw [HX.out.2, Wm.ofS_length]; exact hfit), HX.out.2]⟩, ?_, hs.only_ne o6 (fun ad' e => ?_), b1.only o6 HNE.out.2.1, b2.only o6 HNE.out.2.2, Below.only lr2 o6 (by omega)⟩
        · rw [← U_put]; exact b6
        · cases e; have := HAD.out _ rfl (by omega); omega
      case measure => simp [intOf]; omega
    · obtain rfl : k = n := by omega
      have hXR : X = R := by rw [HX.out.1, List.take_of_length_le (by rw [HLN.out]; exact Nat.le_refl _), HR.out, HP.out]
      subst hXR
      have nlt : ¬ ((k : Int) < (k : Int)) := by omega
      have c1 := b1.cell (j := 1) (v := .int .i64 (p : Int)) rfl
      have hwl := lr.size
      have hCl := hbk.lt
      go_wp2_with (first
        | (go_at_call 24; refine (HNW.out _).mono ?_; rintro e w3 ⟨g0, rfl, g1, d3, l3⟩; replace hbk := hbk.keep l3; replace b2 := b2.keep l3; replace lr := Later.trans_ lr l3; have hstr := fun o => run_str (P := Tryd.prog) 25 9 5 Tryd.underlying25 Tryd.underlying5 Tryd.underlying9 (blk_sl1 (hbk.alloc o) HRL.out.1) N)
        | (go_at_call 25; refine (HWR.out g0 p _ (d3.keep (later1 _ _))).mono ?_; rintro e w4 ⟨g, c', rfl, k1, k2, k3, d4, l4⟩; replace b2 := (b2.alloc (.cells #[.slice (some ⟨g0, 0, none⟩) p p] 24)).keep l4; replace lr := Later.trans_ (lr.alloc lr.size (.cells #[.slice (some ⟨g0, 0, none⟩) p p] 24)) l4; replace b2 := b2.alloc (.cells #[.slice (some ⟨g, 0, none⟩) p c'] 24); replace lr := lr.alloc lr.size (.cells #[.slice (some ⟨g, 0, none⟩) p c'] 24); have c2 := b2.cell (j := 0) (v := .slice none 0 0) rfl; have f2 := b2.frz 0))
      have hg := lr.size
      have hk1 : w3.heap.size + 1 ≤ g := by simpa using k1
      have hl3 := l3.size
      exact bodyPost_ret (v := .tuple #[.agg #[.slice (some ⟨g, 0, none⟩) p c'], .int .i64 0]) (results_cell_tmp Tryd.results16 _ _ (w.heap.size + 1) 24 _ _ _ rfl rfl (b2.set 0 (.slice (some ⟨g, 0, none⟩) p c')) Tryd.underlying24 rfl mem_sz) rfl
        ⟨g, c', rfl, by omega, k2, k3, (d4.keep (later1 _ _)).only (Only.set _ _ _ _) (by omega), lr.setCell (by simp) _⟩

set_option maxRecDepth 100000 in
theorem load_bad (en p : Int) (A : Option Addr) (n c : Nat) (L : List Im.Seg) (B : Option Addr) (m d : Nat) (w : World) (hs : Sl w 2 A n (Gs L)) (hL : inSeg L) (hm : m ≤ maxLen) (hn : n ≤ maxLen) (hp : -9223372036854775808 ≤ p ∧ p ≤ 9223372036854775807) (hok : Im.chk en p L m ≠ 0) :
    Calls Tryd.prog 16 #[.agg #[.int .i64 en, .int .i64 p, .slice A n c, .slice B m d]] w fun e w' => e = .returned (.tuple #[.agg #[.slice none 0 0], .int .i64 (Im.chk en p L m)]) ∧ Later w w' := by
  have HCK := Lib.hid fun w' (hl : Later w w') => check_any en p A n c L B m d w' (hs.keep hl) hL hn hm hp
  obtain ⟨q, hq⟩ : ∃ q, q = Im.chk en p L m := ⟨_, rfl⟩
  rw [← hq] at HCK hok ⊢
  have f1 : (q != 0) = true := by simpa using hok
  clear hq hs hL hm hn hp hok
  have l0 := later1 w (.cells #[.int .i64 en, .int .i64 p, .slice A n c, .slice B m d] 29)
  have b2 := Blk.new' (w.alloc (.cells #[.int .i64 en, .int .i64 p, .slice A n c, .slice B m d] 29)) (w.heap.size + 1) 24 #[.slice none 0 0] [.slice none 0 0] (by simp) rfl
  go_enter Tryd.func16, Tryd.ntmps16
  go_wp2_with (first
    | (go_at_call 17; refine (HCK.out _ (l0.alloc l0.size _)).mono ?_; rintro e w1 ⟨rfl, l1⟩; replace b2 := b2.keep l1; have c2 := b2.cell (j := 0) (v := .slice none 0 0) rfl; have f2 := b2.frz 0; have l2 := Later.trans_ (l0.alloc l0.size _) l1))
  exact bodyPost_ret (v := .tuple #[.agg #[.slice none 0 0], .int .i64 q]) (results_cell_tmp Tryd.results16 _ _ (w.heap.size + 1) 24 _ _ _ rfl rfl (b2.set 0 (.slice none 0 0)) Tryd.underlying24 rfl mem_sz) rfl ⟨rfl, l2.setCell (by simp) _⟩
end Go.Proofs.YtjfphjgmphlbhaaDoor

/-
  THE WALK OF CPUs.
-/
namespace Go.Proofs.YtjfphjgmphlbhaaDoor
open Go.RowKit Go.ChangeShapes Go.WideShapes Go.ChangeAt

set_option maxRecDepth 100000 in
/-- A processor as cells. -/
def cpuC (pc id : Int) (wt : Bool) : List Value := [.int .u32 pc] ++ List.replicate 16 (.int .u32 0) ++ List.replicate 8 (.int .u32 0) ++ [.int .u32 id, .bool false, .bool wt, .bool false, .int .i64 0]
set_option maxRecDepth 100000 in
def cpuK (en : Int) (k j : Nat) : List Value := if j < k then cpuC en (j : Int) (decide (0 < j)) else cpuC 0 0 false
set_option maxRecDepth 100000 in
def cpuR (en : Int) (n k : Nat) : List Value := (List.range n).flatMap (cpuK en k)
set_option maxRecDepth 100000 in
theorem cpuC_len (pc id : Int) (wt : Bool) : (cpuC pc id wt).length = 30 := by simp [cpuC]
set_option maxRecDepth 100000 in
theorem cpuK_len (en : Int) (k j : Nat) : (cpuK en k j).length = 30 := by unfold cpuK; split <;> exact cpuC_len _ _ _
set_option maxRecDepth 100000 in
theorem flat_len_I {α β : Type} (f : α → List β) (K : Nat) (l : List α) (h : ∀ x, (f x).length = K) : (l.flatMap f).length = l.length * K := by
  induction l with
  | nil => simp
  | cons x r ih => rw [List.flatMap_cons, List.length_append, ih, h, List.length_cons, Nat.add_mul]; omega
set_option maxRecDepth 100000 in
theorem cpuR_len (en : Int) (n k : Nat) : (cpuR en n k).length = n * 30 := by
  unfold cpuR; rw [flat_len_I _ 30 _ (cpuK_len en k), List.length_range]
set_option maxRecDepth 100000 in
theorem cpu_info : (Tryd.prog.info? 61).map (fun i => (i.zero.map (fun z => z.cells.toList), i.size, i.bytes)) = some (some (cpuC 0 0 false), 30, 120) := by kernel_rfl
set_option maxRecDepth 100000 in
theorem cpu_parts : ∃ i z, Tryd.prog.info? 61 = some i ∧ i.zero = some z ∧ z.cells.toList = cpuC 0 0 false ∧ i.size = 30 ∧ i.bytes = 120 := by
  have h := cpu_info
  cases hi : Tryd.prog.info? 61 with
  | none => rw [hi] at h; cases h
  | some i =>
    rw [hi] at h
    simp only [Option.map_some, Option.some.injEq, Prod.mk.injEq] at h
    obtain ⟨h1, h2, h3⟩ := h
    cases hz : i.zero with
    | none => rw [hz] at h1; cases h1
    | some z =>
      rw [hz] at h1
      simp only [Option.map_some, Option.some.injEq] at h1
      exact ⟨i, z, rfl, hz, h1, h2, h3⟩
set_option maxRecDepth 100000 in
theorem cpu_z1 : madeCells (cpuC 0 0 false).toArray (1 * 30) = (cpuR 0 1 0).toArray := by kernel_rfl
set_option maxRecDepth 100000 in
theorem cpu_z2 : madeCells (cpuC 0 0 false).toArray (2 * 30) = (cpuR 0 2 0).toArray := by kernel_rfl
set_option maxRecDepth 100000 in
theorem cpu_z3 : madeCells (cpuC 0 0 false).toArray (3 * 30) = (cpuR 0 3 0).toArray := by kernel_rfl
set_option maxRecDepth 100000 in
theorem cpu_z4 : madeCells (cpuC 0 0 false).toArray (4 * 30) = (cpuR 0 4 0).toArray := by kernel_rfl
set_option maxRecDepth 100000 in
theorem cpu_start (en : Int) {z : Value} (hz : z.cells.toList = cpuC 0 0 false) (n : Nat) (h1 : 1 ≤ n) (h2 : n ≤ 4) : madeCells z.cells (n * 30) = (cpuR en n 0).toArray := by
  have e : z.cells = (cpuC 0 0 false).toArray := by rw [← hz]
  have e2 : cpuR en n 0 = cpuR 0 n 0 := by
    unfold cpuR cpuK
    simp only [Nat.not_lt_zero, if_false]
  rw [e, e2]
  rcases n with _ | _ | _ | _ | _ | n
  · omega
  · exact cpu_z1
  · exact cpu_z2
  · exact cpu_z3
  · exact cpu_z4
  · omega
set_option maxRecDepth 100000 in
theorem cpu_next (pc : Int) (n k : Nat) (h2 : n ≤ 4) (hk : k < n) : (((cpuR pc n k).set (k * 30) (.int .u32 pc)).set (k * 30 + 17 + 8) (.int .u32 (k : Int))).set (k * 30 + 27) (.bool (decide (0 < k))) = cpuR pc n (k + 1) := by
  rcases n with _ | _ | _ | _ | _ | n <;> rcases k with _ | _ | _ | _ | k <;> first | omega | rfl
set_option maxRecDepth 100000 in
theorem cpu_cell (pc : Int) (n k : Nat) (h2 : n ≤ 4) (hk : k < n) : (cpuR pc n k)[k * 30]? = some (.int .u32 0) ∧ (cpuR pc n k)[k * 30 + 17 + 8]? = some (.int .u32 0) ∧ (cpuR pc n k)[k * 30 + 27]? = some (.bool false) := by
  rcases n with _ | _ | _ | _ | _ | n <;> rcases k with _ | _ | _ | _ | k <;> first | omega | exact ⟨rfl, rfl, rfl⟩

set_option maxRecDepth 100000 in
/-- What hands back the processors. -/
def GotCpus (pc : Int) (n : Nat) (w : World) (e : Ending) (w' : World) : Prop := ∃ g, e = .returned (.tuple #[.slice (some ⟨g, 0, none⟩) n n, .int .i64 0]) ∧ w.heap.size ≤ g ∧ Blk w' g 61 (cpuR pc n n) ∧ Later w w'
set_option maxRecDepth 100000 in
set_option maxHeartbeats 4000000 in
theorem cpus_ok (en p : Int) (x : Nat) (A : Option Addr) (n c : Nat) (L : List Im.Seg) (B : Option Addr) (m d : Nat) (w : World) (hs : Sl w 2 A n (Gs L)) (hL : inSeg L) (hm : m ≤ maxLen) (hn : n ≤ maxLen) (hp : -9223372036854775808 ≤ p ∧ p ≤ 9223372036854775807) (hok : Im.chk en p L m = 0) (hx1 : 1 ≤ x) (hx2 : x ≤ 4) :
    Calls Tryd.prog 21 #[.agg #[.int .i64 en, .int .i64 p, .slice A n c, .slice B m d], .int .i64 (x : Int)] w (GotCpus (IntKind.u32.wrap en) x w) := by
  have HCK := Lib.hid fun w' (hl : Later w w') => check_any en p A n c L B m d w' (hs.keep hl) hL hn hm hp
  rw [hok] at HCK
  obtain ⟨i0, z, hi, hz0, hz, hz1, hz2⟩ := cpu_parts
  obtain ⟨pc, hpc⟩ : ∃ pc, pc = IntKind.u32.wrap en := ⟨_, rfl⟩
  have hmk := fun w' => run_makeSlice (P := Tryd.prog) w' 55 61 i0 _ Tryd.underlying55 hi hz0 .i64 .i64 (x : Int) (x : Int) (by omega) (by omega) (by rw [hz1]; omega) (by rw [hz2]; omega) (by omega)
  rw [Int.toNat_natCast, hz1, cpu_start pc hz x hx1 hx2] at hmk
  clear hs hL hm hn hp hok hi hz0 hz hz1 hz2
  rw [← hpc]
  have hcp := hpc.symm
  clear hpc
  have l0 := later1 w (.cells #[.int .i64 en, .int .i64 p, .slice A n c, .slice B m d] 29)
  have b1 := Blk.new w 29 #[.int .i64 en, .int .i64 p, .slice A n c, .slice B m d] [.int .i64 en, .int .i64 p, .slice A n c, .slice B m d] rfl
  have hx3 : ¬ ((x : Int) < 1) := by omega
  have hx4 : ¬ ((x : Int) > 4) := by omega
  go_enter Tryd.func21, Tryd.ntmps21
  go_wp2_with (first
    | (go_at_call 17; refine (HCK.out _ l0).mono ?_; rintro e w1 ⟨rfl, l1⟩; replace b1 := b1.keep l1))
  have l2 := Later.trans_ l0 l1
  have hbk := Blk.new w1 61 (cpuR pc x 0).toArray (cpuR pc x 0) rfl
  replace b1 := b1.alloc (.cells (cpuR pc x 0).toArray 61)
  have l3 := l2.alloc l2.size (.cells (cpuR pc x 0).toArray 61)
  have hC2 : w.heap.size + 1 ≤ w1.heap.size := by have := l1.size; simpa using this
  obtain ⟨C, hC⟩ : ∃ C, C = w1.heap.size := ⟨_, rfl⟩
  rw [← hC] at hbk hC2 ⊢
  clear l1 l2 hC
  go_loopw [23] (fun i wr => ∃ (k : Nat), k ≤ x ∧ i = .int .i64 (k : Int) ∧ Blk wr C 61 (cpuR pc x k) ∧ Blk wr w.heap.size 29 [.int .i64 en, .int .i64 p, .slice A n c, .slice B m d] ∧ Later w wr) (fun i _ => x - (intOf i).toNat)
  case atStart => exact ⟨0, Nat.zero_le _, rfl, hbk, b1, l3⟩
  case round =>
    clear hbk b1 l3
    rename_i wr
    obtain ⟨k, hk, rfl, hbk, b1, lr⟩ := hrel
    by_cases hlt : k < x
    · have kn : (k : Int) < (x : Int) := by omega
      have hwk : IntKind.u32.wrap (k : Int) = (k : Int) := by rw [IntKind.wrap_u32]; omega
      obtain ⟨v1, v2, v3⟩ := cpu_cell pc x k hx2 hlt
      have c0 := b1.cell (j := 0) (v := .int .i64 en) rfl
      have c1 := hbk.cell v1
      have f1 := hbk.frz (k * 30)
      have hb2 := hbk.set (k * 30) (.int .u32 pc)
      have c2 := hb2.cell (j := k * 30 + 17 + 8) (v := .int .u32 0) (by rw [List.getElem?_set_ne (by omega)]; exact v2)
      have f2 := hb2.frz (k * 30 + 17 + 8)
      have hb3 := hb2.set (k * 30 + 17 + 8) (.int .u32 (k : Int))
      have c3 := hb3.cell (j := k * 30 + 27) (v := .bool false) (by rw [List.getElem?_set_ne (by omega), List.getElem?_set_ne (by omega)]; exact v3)
      have f3 := hb3.frz (k * 30 + 27)
      have hb4 := hb3.set (k * 30 + 27) (.bool (decide (0 < k)))
      rw [cpu_next pc x k hx2 hlt] at hb4
      go_wp2
      have hCl := hbk.lt
      have hwl := lr.size
      go_roundw
      case rel => exact ⟨k + 1, by omega, by go_num, hb4, ((b1.set_other _ _ (by show w.heap.size ≠ C; omega)).set_other _ _ (by show w.heap.size ≠ C; omega)).set_other _ _ (by show w.heap.size ≠ C; omega), ((lr.setCell (by show w.heap.size ≤ C; omega) _).setCell (by show w.heap.size ≤ C; omega) _).setCell (by show w.heap.size ≤ C; omega) _⟩
      case measure => simp [intOf]; omega
    · obtain rfl : k = x := by omega
      have nlt : ¬ ((k : Int) < (k : Int)) := by omega
      go_wp2
      go_ret2
      exact ⟨C, rfl, by omega, hbk, lr⟩

set_option maxRecDepth 100000 in
theorem cpus_bad (en p x : Int) (A : Option Addr) (n c : Nat) (L : List Im.Seg) (B : Option Addr) (m d : Nat) (w : World) (hs : Sl w 2 A n (Gs L)) (hL : inSeg L) (hm : m ≤ maxLen) (hn : n ≤ maxLen) (hp : -9223372036854775808 ≤ p ∧ p ≤ 9223372036854775807) (hok : Im.chk en p L m ≠ 0) :
    Calls Tryd.prog 21 #[.agg #[.int .i64 en, .int .i64 p, .slice A n c, .slice B m d], .int .i64 x] w fun e w' => e = .returned (.tuple #[.slice none 0 0, .int .i64 (Im.chk en p L m)]) ∧ Later w w' := by
  have HCK := Lib.hid fun w' (hl : Later w w') => check_any en p A n c L B m d w' (hs.keep hl) hL hn hm hp
  obtain ⟨q, hq⟩ : ∃ q, q = Im.chk en p L m := ⟨_, rfl⟩
  rw [← hq] at HCK hok ⊢
  have f1 : (q != 0) = true := by simpa using hok
  clear hq hs hL hm hn hp hok
  have l0 := later1 w (.cells #[.int .i64 en, .int .i64 p, .slice A n c, .slice B m d] 29)
  go_enter Tryd.func21, Tryd.ntmps21
  go_wp2_with (first
    | (go_at_call 17; refine (HCK.out _ l0).mono ?_; rintro e w1 ⟨rfl, l1⟩))
  go_ret2
  exact ⟨rfl, Later.trans_ l0 l1⟩
set_option maxRecDepth 100000 in
theorem cpus_arg (en p x : Int) (A : Option Addr) (n c : Nat) (L : List Im.Seg) (B : Option Addr) (m d : Nat) (w : World) (hs : Sl w 2 A n (Gs L)) (hL : inSeg L) (hm : m ≤ maxLen) (hn : n ≤ maxLen) (hp : -9223372036854775808 ≤ p ∧ p ≤ 9223372036854775807) (hok : Im.chk en p L m = 0) (hx : ¬ (1 ≤ x ∧ x ≤ 4)) :
    Calls Tryd.prog 21 #[.agg #[.int .i64 en, .int .i64 p, .slice A n c, .slice B m d], .int .i64 x] w fun e w' => e = .returned (.tuple #[.slice none 0 0, .int .i64 1]) ∧ Later w w' := by
  have HCK := Lib.hid fun w' (hl : Later w w') => check_any en p A n c L B m d w' (hs.keep hl) hL hn hm hp
  rw [hok] at HCK
  clear hs hL hm hn hp hok
  have l0 := later1 w (.cells #[.int .i64 en, .int .i64 p, .slice A n c, .slice B m d] 29)
  by_cases h1 : x < 1
  · clear hx
    go_enter Tryd.func21, Tryd.ntmps21
    go_wp2_with (first
      | (go_at_call 17; refine (HCK.out _ l0).mono ?_; rintro e w1 ⟨rfl, l1⟩))
    go_ret2
    exact ⟨rfl, Later.trans_ l0 l1⟩
  · have h2 : x > 4 := by omega
    clear hx
    go_enter Tryd.func21, Tryd.ntmps21
    go_wp2_with (first
      | (go_at_call 17; refine (HCK.out _ l0).mono ?_; rintro e w1 ⟨rfl, l1⟩))
    go_ret2
    exact ⟨rfl, Later.trans_ l0 l1⟩
end Go.Proofs.YtjfphjgmphlbhaaDoor

/-
  AN IMAGE AS IT LIES; THE WALK OF the reference's Same, of two images with one encoding.
-/
namespace Go.Proofs.YtjfphjgmphlbhaaDoor
open Go.RowKit Go.ChangeShapes Go.WideShapes Go.ChangeAt

set_option maxRecDepth 100000 in
theorem wpAnyH_more0 {P : Program} {md : Region.Mode} {ops : Array Oper} {Q : Exit → Act → World → Prop} {S S' : World → Prop} (h : ∀ w, S' w → S w) : ∀ (fuel : Nat) (listed : Array Bool) (a : Act) (w : World), wpAnyH P md ops Q S' fuel listed a w → wpAnyH P md ops Q S fuel listed a w
  | 0, _, _, _, k => k
  | fuel + 1, _, _, _, k => ⟨k.1, fun i hi => wpOp_mono (fun a' w' h' => ⟨h _ h'.1, wpAnyH_more0 h fuel _ a' w' h'.2⟩) (k.2 i hi)⟩
set_option maxRecDepth 100000 in
theorem wpAnyH_more {P : Program} {md : Region.Mode} {ops : Array Oper} {Q : Exit → Act → World → Prop} {S S' : World → Prop} {fuel : Nat} {listed : Array Bool} {a : Act} {w : World} (h : ∀ w, S' w → S w) (k : wpAnyH P md ops Q S' fuel listed a w) : wpAnyH P md ops Q S fuel listed a w := wpAnyH_more0 h fuel listed a w k
structure Dat where
  en : Int
  p : Int
  L : List Im.Seg
  d : Wm.Bs
  m : Nat
set_option maxRecDepth 100000 in
def Dat.enc (x : Dat) : Wm.Bs := encS x.en x.p x.L x.d x.m
set_option maxRecDepth 100000 in
def Dat.chk (x : Dat) : Int := Im.chk x.en x.p x.L x.m
set_option maxRecDepth 100000 in
/-- AN IMAGE AS IT LIES. -/
def Img (w : World) (v : Value) (x : Dat) : Prop := ∃ A n c B cd, v = .agg #[.int .i64 x.en, .int .i64 x.p, .slice A n c, .slice B x.m cd] ∧ Sl w 2 A n (Gs x.L) ∧ Sl w 128 B x.m (U x.d) ∧ inSeg x.L ∧ n ≤ 1000000 ∧ x.m ≤ 1000000 ∧
  (-9223372036854775808 ≤ x.en ∧ x.en ≤ 9223372036854775807) ∧ (-9223372036854775808 ≤ x.p ∧ x.p ≤ 9223372036854775807) ∧ x.m ≤ cd ∧ cd ≤ maxLen
set_option maxRecDepth 100000 in
theorem Img.keep {w w' : World} {v : Value} {x : Dat} (h : Img w v x) (l : Later w w') : Img w' v x := by
  obtain ⟨A, n, c, B, cd, e, h1, h2, h3⟩ := h
  exact ⟨A, n, c, B, cd, e, h1.keep l, h2.keep l, h3⟩
set_option maxRecDepth 100000 in
theorem img_sz (a b c d : Value) : (Tryd.prog.info? 29).map (·.size) = some [a, b, c, d].length := by
  show _ = some 4
  kernel_rfl
set_option maxRecDepth 100000 in
theorem run_str_ex {w w' : World} {A : Option Addr} {b : Wm.Bs} (h : Sl w 1 A b.length (U b)) (l : Later w w') (c : Nat) : (convert 25 9 (.slice A b.length c)).run Tryd.prog w' = .ok (.string (strOfNums b)) w' :=
  run_str (P := Tryd.prog) 25 9 5 Tryd.underlying25 Tryd.underlying5 Tryd.underlying9 (h.keep l) c
set_option maxRecDepth 100000 in
set_option maxHeartbeats 4000000 in
theorem same_any (v1 v2 : Value) (x1 x2 : Dat) (w : World) (h1 : Img w v1 x1) (h2 : Img w v2 x2) (he : x1.enc = x2.enc) (hM : x1.enc.length ≤ 140737488355328) :
    Calls Tryd.prog 13 #[v1, v2] w fun e w' => e = .returned (.bool true) ∧ Later w w' := by
  have hM2 : x2.enc.length ≤ 140737488355328 := by rw [← he]; exact hM
  obtain ⟨A1, n1, c1, B1, cd1, rfl, p1, p2, p3, p4, p5, p6, p7, _, _⟩ := h1
  obtain ⟨A2, n2, c2, B2, cd2, rfl, q1, q2, q3, q4, q5, q6, q7, _, _⟩ := h2
  have H1 := Lib.hid fun w' (hl : Later w w') => rencode_any x1.en x1.p A1 n1 c1 x1.L B1 x1.m cd1 x1.d w' (p1.keep hl) (p2.keep hl) p3 p4 p5 p6 p7 hM
  have H2 := Lib.hid fun w' (hl : Later w w') => rencode_any x2.en x2.p A2 n2 c2 x2.L B2 x2.m cd2 x2.d w' (q1.keep hl) (q2.keep hl) q3 q4 q5 q6 q7 hM2
  obtain ⟨E, hE⟩ : ∃ E, E = x1.enc := ⟨_, rfl⟩
  have e2 : x2.enc = E := by rw [hE, he]
  unfold Dat.enc at hE e2
  rw [← hE] at H1
  rw [e2] at H2
  clear hE e2 he hM hM2 p1 p2 p3 p4 p5 p6 p7 q1 q2 q3 q4 q5 q6 q7
  have ba := (Blk.new w 29 #[.int .i64 x1.en, .int .i64 x1.p, .slice A1 n1 c1, .slice B1 x1.m cd1] [.int .i64 x1.en, .int .i64 x1.p, .slice A1 n1 c1, .slice B1 x1.m cd1] rfl).alloc (.cells #[.int .i64 x2.en, .int .i64 x2.p, .slice A2 n2 c2, .slice B2 x2.m cd2] 29)
  have bb := Blk.new' (w.alloc (.cells #[.int .i64 x1.en, .int .i64 x1.p, .slice A1 n1 c1, .slice B1 x1.m cd1] 29)) (w.heap.size + 1) 29 #[.int .i64 x2.en, .int .i64 x2.p, .slice A2 n2 c2, .slice B2 x2.m cd2] [.int .i64 x2.en, .int .i64 x2.p, .slice A2 n2 c2, .slice B2 x2.m cd2] (by simp) rfl
  have lr := (later1 w (.cells #[.int .i64 x1.en, .int .i64 x1.p, .slice A1 n1 c1, .slice B1 x1.m cd1] 29)).alloc (by simp) (.cells #[.int .i64 x2.en, .int .i64 x2.p, .slice A2 n2 c2, .slice B2 x2.m cd2] 29)
  go_enter Tryd.func13, Tryd.ntmps13
  go_wp2
  obtain ⟨Ba, hBa⟩ : ∃ B, B = w.heap.size := ⟨_, rfl⟩
  obtain ⟨Bb, hBb⟩ : ∃ B, B = w.heap.size + 1 := ⟨_, rfl⟩
  rw [← hBb] at bb ⊢
  rw [← hBa] at ba ⊢
  clear hBa hBb
  replace ba := ba.drew
  replace bb := bb.drew
  replace lr := lr.drew
  refine wp_region_held_drew (S := fun w' => (w'.rangeAt Ba 0 [.int .i64 x1.en, .int .i64 x1.p, .slice A1 n1 c1, .slice B1 x1.m cd1] ∧ w'.rangeAt Bb 0 [.int .i64 x2.en, .int .i64 x2.p, .slice A2 n2 c2, .slice B2 x2.m cd2]) ∧ True) (by kernel_rfl) ⟨⟨blk_at ba, blk_at bb⟩, trivial⟩ (fun hHeld => ?_)
  refine wpAnyH_take (i := 0) (oi := ⟨some 5, .load 29 (.tmp 2), _, _, _, none⟩) (v := .agg #[.int .i64 x1.en, .int .i64 x1.p, .slice A1 n1 c1, .slice B1 x1.m cd1]) rfl (by kernel_rfl) (by kernel_rfl) (by kernel_rfl) (fun _ _ _ h => h) (yieldsIf_load_mid (by rfl) _ _ rfl _ _ rfl [.int .i64 x1.en, .int .i64 x1.p, .slice A1 n1 c1, .slice B1 x1.m cd1] _ (fun w h => h.1.1) Tryd.underlying29 rfl (img_sz _ _ _ _)) hHeld ?_
  simp only [Act.put, List.setIfInBounds_toArray, List.set_cons_zero, List.set_cons_succ]
  refine wpAnyH_take (i := 3) (oi := ⟨some 8, .load 29 (.tmp 3), _, _, _, none⟩) (v := .agg #[.int .i64 x2.en, .int .i64 x2.p, .slice A2 n2 c2, .slice B2 x2.m cd2]) rfl (by kernel_rfl) (by kernel_rfl) (by kernel_rfl) (fun _ _ _ h => h) (yieldsIf_load_mid (by rfl) _ _ rfl _ _ rfl [.int .i64 x2.en, .int .i64 x2.p, .slice A2 n2 c2, .slice B2 x2.m cd2] _ (fun w h => h.1.2) Tryd.underlying29 rfl (img_sz _ _ _ _)) hHeld ?_
  simp only [Act.put, List.setIfInBounds_toArray, List.set_cons_zero, List.set_cons_succ]
  refine wpAnyH_ready (rs := [1]) (by kernel_rfl) (by simp) (AllReadyH.cons (o := ⟨some 6, .call { callee := .value (.func 42), args := #[.tmp 5], argTypes := #[29] }, _, _, _, none⟩) rfl (fun K' hK => ?_) (AllReadyH.nil))
  go_simp
  refine (made_as (H1.out _ lr)).mono ?_
  rintro e w1 ⟨A5, c5, rfl, _, _, _, s5, l5⟩
  replace ba := ba.keep l5
  replace bb := bb.keep l5
  replace lr := Later.trans_ lr l5
  refine hK.out _ _ ⟨⟨blk_at ba, blk_at bb⟩, trivial⟩ (fun hHeld => ?_)
  clear hK K'
  try simp only [Act.put, List.setIfInBounds_toArray, List.set_cons_zero, List.set_cons_succ]
  refine wpAnyH_more (S' := fun w' => (w'.rangeAt Ba 0 [.int .i64 x1.en, .int .i64 x1.p, .slice A1 n1 c1, .slice B1 x1.m cd1] ∧ w'.rangeAt Bb 0 [.int .i64 x2.en, .int .i64 x2.p, .slice A2 n2 c2, .slice B2 x2.m cd2]) ∧ Later w1 w') (fun _ h => ⟨h.1, trivial⟩) ?_
  replace hHeld := And.intro hHeld.1 (later0 w1)
  refine wpAnyH_take (i := 2) (oi := ⟨some 7, .convert 25 9 (.tmp 6), _, _, _, none⟩) (v := .string (strOfNums E)) rfl (by kernel_rfl) (by kernel_rfl) (by kernel_rfl) (fun _ _ _ h => h) (Or.inl ⟨by rfl, fun w hS => by have h5 := run_str_ex s5 hS.2 c5; go_simp⟩) hHeld ?_
  simp only [Act.put, List.setIfInBounds_toArray, List.set_cons_zero, List.set_cons_succ]
  refine wpAnyH_ready (rs := [4]) (by kernel_rfl) (by simp) (AllReadyH.cons (o := ⟨some 9, .call { callee := .value (.func 42), args := #[.tmp 8], argTypes := #[29] }, _, _, _, none⟩) rfl (fun K' hK => ?_) (AllReadyH.nil))
  go_simp
  refine (made_as (H2.out _ lr)).mono ?_
  rintro e w2 ⟨A6, c6, rfl, _, _, _, s6, l6⟩
  replace ba := ba.keep l6
  replace bb := bb.keep l6
  replace s5 := s5.keep l6
  replace lr := Later.trans_ lr l6
  refine hK.out _ _ ⟨⟨blk_at ba, blk_at bb⟩, l6⟩ (fun hHeld => ?_)
  clear hK K'
  try simp only [Act.put, List.setIfInBounds_toArray, List.set_cons_zero, List.set_cons_succ]
  refine wpAnyH_more (S' := fun w' => (w'.rangeAt Ba 0 [.int .i64 x1.en, .int .i64 x1.p, .slice A1 n1 c1, .slice B1 x1.m cd1] ∧ w'.rangeAt Bb 0 [.int .i64 x2.en, .int .i64 x2.p, .slice A2 n2 c2, .slice B2 x2.m cd2]) ∧ Later w2 w') (fun _ h => ⟨h.1, Later.trans_ l6 h.2⟩) ?_
  replace hHeld := And.intro hHeld.1 (later0 w2)
  refine wpAnyH_take (i := 5) (oi := ⟨some 10, .convert 25 9 (.tmp 9), _, _, _, none⟩) (v := .string (strOfNums E)) rfl (by kernel_rfl) (by kernel_rfl) (by kernel_rfl) (fun _ _ _ h => h) (Or.inl ⟨by rfl, fun w hS => by have h5 := run_str_ex s6 hS.2 c6; go_simp⟩) hHeld ?_
  simp only [Act.put, List.setIfInBounds_toArray, List.set_cons_zero, List.set_cons_succ]
  refine wpAnyH_take (i := 6) (oi := ⟨some 11, .binOp .eql 9 (.tmp 7) (.tmp 10) 9, _, _, _, none⟩) (v := .bool true) rfl (by kernel_rfl) (by kernel_rfl) (by kernel_rfl) (fun _ _ _ h => h) (Or.inl ⟨by rfl, fun w _ => by go_simp⟩) hHeld ?_
  simp only [Act.put, List.setIfInBounds_toArray, List.set_cons_zero, List.set_cons_succ]
  refine wpAnyH_take (i := 7) (oi := ⟨some 4, .assign (.tmp 11), _, _, _, none⟩) (v := .bool true) rfl (by kernel_rfl) (by kernel_rfl) (by kernel_rfl) (fun _ _ _ h => h) (Or.inl ⟨by rfl, fun _ _ => rfl⟩) hHeld ?_
  simp only [Act.put, List.setIfInBounds_toArray, List.set_cons_zero, List.set_cons_succ]
  refine wpAnyH_done (by kernel_rfl) ?_ _
  clear hHeld
  go_wp2
  go_ret
  exact ⟨rfl, lr⟩
end Go.Proofs.YtjfphjgmphlbhaaDoor
