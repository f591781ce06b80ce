/-
  THE STATEMENT ImageHasItsBytes: its walk.
-/
import Derived.Test.YtjfphjgmphlbhaaDoorJr
namespace Go.Proofs.YtjfphjgmphlbhaaDoor
open Go.RowKit Go.ChangeShapes Go.WideShapes Go.ChangeAt

set_option maxRecDepth 100000 in
theorem ld_one {b : Wm.Bs} {k : Int} (h0 : 0 ≤ k) (h1 : k < b.length) : Mm.ld b k 1 = b.getD k.toNat 0 := by
  unfold Mm.ld
  rw [if_pos ⟨.inl rfl, h0, by omega⟩]
  have h2 : k.toNat < b.length := by omega
  rw [show (1 : Int).toNat = 0 + 1 from rfl, List.take_add_one, List.take_zero, List.getElem?_drop, List.nil_append, List.getD_eq_getElem?_getD, Nat.add_zero, List.getElem?_eq_getElem h2]
  simp [Mm.le]
set_option maxRecDepth 100000 in
theorem ofS_getD (s : ByteArray) (i : Nat) (h : i < s.size) : ((s[i]'h).toNat : Int) = (Wm.ofS s).getD i 0 := by
  unfold Wm.ofS
  rw [List.getD_eq_getElem?_getD, List.getElem?_map, List.getElem?_eq_getElem (by simpa using h)]
  rfl
set_option maxRecDepth 100000 in
theorem ofS_in (s : ByteArray) (i : Nat) : 0 ≤ (Wm.ofS s).getD i 0 ∧ (Wm.ofS s).getD i 0 < 256 := by
  rw [List.getD_eq_getElem?_getD]
  rcases Nat.lt_or_ge i (Wm.ofS s).length with h | h
  · rw [List.getElem?_eq_getElem h]
    exact Wm.ofS_bytes s _ (List.getElem_mem h)
  · rw [List.getElem?_eq_none h]
    exact ⟨Int.le_refl _, by show (0 : Int) < 256; omega⟩
set_option maxRecDepth 100000 in
theorem scan_take (k v h : Int) (L : List Im.Seg) (j : Nat) (hj : j < L.length) : Im.scan k v h (L.take (j + 1)) = if L[j].1 ≤ k ∧ k < L[j].1 + L[j].2.size then ((Wm.ofS L[j].2).getD (k - L[j].1).toNat 0, (Im.scan k v h (L.take j)).2 + 1) else Im.scan k v h (L.take j) := by
  rw [List.take_add_one, List.getElem?_eq_getElem hj]
  exact Im.scan_snoc k v h (L.take j) L[j]
set_option maxRecDepth 100000 in
set_option maxHeartbeats 4000000 in
theorem bytes_any (en p : Int) (A : Option Addr) (n c : Nat) (L : List Im.Seg) (B : Option Addr) (m cd : Nat) (x : Int) (w : World) (hs : Sl w 2 A n (Gs L)) (hL : inSeg L) (hn : n ≤ maxLen) (hm : m ≤ maxLen) (hp : -9223372036854775808 ≤ p ∧ p ≤ 9223372036854775807) (hx : 0 ≤ x ∧ x < 65536) (tab : Tab w) :
    Calls Tryd.prog 5 #[.agg #[.int .i64 en, .int .i64 p, .slice A n c, .slice B m cd], .int .u16 x] w fun e w' => e = .returned (.bool true) ∧ Later w w' := by
  have HF := Lib.hid fun w' (hl : Later w w') => few_any en p A n c L B m cd w' (hs.keep hl) hn hm
  have HC := Lib.hid fun w' (hl : Later w w') => rcheck_any en p A n c L B m cd w' (hs.keep hl) hL hn hm hp
  have HS := Lib.hid fun w' (hl : Later w w') => sanity_any w' (tab.keep hl)
  obtain ⟨q, hq⟩ : ∃ q, q = fewQ L m := ⟨_, rfl⟩
  rw [← hq] at HF
  have b0 := Blk.new w 29 #[.int .i64 en, .int .i64 p, .slice A n c, .slice B m cd] [.int .i64 en, .int .i64 p, .slice A n c, .slice B m cd] rfl
  have l0 := later1 w (.cells #[.int .i64 en, .int .i64 p, .slice A n c, .slice B m cd] 29)
  clear hq
  cases q with
  | false =>
    clear hs hL hn hm hp tab HC
    go_enter Tryd.func5, Tryd.ntmps5
    go_wp2_with (first
    | (go_at_call 14; refine (HF.out _ l0).mono ?_; rintro e w1 ⟨rfl, l1⟩; have b1 := b0.keep l1; have lw := Later.trans_ l0 l1; have c0 := b1.cell (j := 0) (v := .int .i64 en) rfl; have c1 := b1.cell (j := 1) (v := .int .i64 p) rfl; have c2 := b1.cell (j := 2) (v := .slice A n c) rfl; have c3 := b1.cell (j := 3) (v := .slice B m cd) rfl)
    | (go_at_call 8; refine (HS.out _ lw).mono ?_; rintro e w9 ⟨rfl, l9⟩; replace lw := Later.trans_ lw l9))
    go_ret
    exact ⟨rfl, lw⟩
  | true =>
    by_cases hr : Im.chk en p L m = 0
    · rw [hr] at HC
      obtain ⟨h1, h2, h3, h4, h5⟩ := Im.chk_ok hr
      obtain ⟨P, rfl⟩ : ∃ P : Nat, p = (P : Int) := ⟨p.toNat, by omega⟩
      have HLN := Lib.hid hs.seglen
      have hn64 : n ≤ 64 := by have := HLN.out; omega
      have HL := Lib.hid fun w' (hl : Later w w') => load_ok en P A n c L B m cd w' (hs.keep hl) hL hm hn hr
      obtain ⟨M, hM⟩ : ∃ M, M = Im.lay (Im.Zr (P * 128)) L := ⟨_, rfl⟩
      have hz : (Im.Zr (P * 128)).length = P * 128 := by unfold Im.Zr; rw [List.length_replicate]
      have h5' : Im.ord ((P * 128 : Nat) : Int) 0 L = true := by rw [show ((P * 128 : Nat) : Int) = (P : Int) * 128 by omega]; exact h5
      have hMl : M.length = P * 128 := by rw [hM]; exact Im.lay_len (Int.le_refl 0) h5' hz
      have hMb : Wm.isBs M := by rw [hM]; exact Im.lay_bs (fun y hy => by unfold Im.Zr at hy; rw [List.eq_of_mem_replicate hy]; omega)
      obtain ⟨k, hk⟩ : ∃ k : Int, k = x % ((P : Int) * 128) := ⟨_, rfl⟩
      have hk0 : 0 ≤ k := by rw [hk]; exact Int.emod_nonneg _ (by omega)
      have hk1 : k < (P : Int) * 128 := by rw [hk]; exact Int.emod_lt_of_pos _ (by omega)
      have HM := Lib.hid fun g cm w' (hd : Draft w' g P M) => load_any (some ⟨g, 0, none⟩) P cm k 1 M w' hd.sl hMb (by omega) (by omega) (by omega)
      have hth : decide (Mm.There (P * 128) k 1) = true := decide_eq_true ⟨.inl rfl, hk0, by omega⟩
      rw [hth, ld_one hk0 (by rw [hMl]; omega)] at HM
      obtain ⟨V, hV⟩ : ∃ V, V = M.getD k.toNat 0 := ⟨_, rfl⟩
      have HSC : Hid ((Im.scan k 0 0 L).2 ≤ 1 ∧ (Im.scan k 0 0 L).1 = V) := Lib.hid (by
        rcases Im.scan_lay (b := Im.Zr (P * 128)) (Int.le_refl 0) hk0 h5' 0 0 hz with ⟨e1, e2⟩ | e1
        · rw [e1, hV, hM, e2]
          refine ⟨by show (0 : Int) ≤ 1; omega, ?_⟩
          show 0 = (Im.Zr (P * 128)).getD k.toNat 0
          unfold Im.Zr
          rw [List.getD_eq_getElem?_getD, List.getElem?_replicate]
          split <;> rfl
        · rw [e1, hV, hM]
          exact ⟨by show (0 : Int) + 1 ≤ 1; omega, rfl⟩)
      have HVR : Hid (0 ≤ V ∧ V < 256) := Lib.hid (by
        rw [hV, List.getD_eq_getElem?_getD]
        rcases Nat.lt_or_ge k.toNat M.length with h | h
        · rw [List.getElem?_eq_getElem h]; exact hMb _ (List.getElem_mem h)
        · rw [List.getElem?_eq_none h]; exact ⟨Int.le_refl _, by show (0 : Int) < 256; omega⟩)
      rw [← hV] at HM
      rw [← hM] at HL
      have hwz : IntKind.i64.wrap ((P : Int) * 128) = (P : Int) * 128 := wraps_i64 _ (by omega) (by omega)
      have htm : x.tmod ((P : Int) * 128) = k := by rw [hk]; exact Int.tmod_eq_emod_of_nonneg hx.1
      have hxw : IntKind.i64.wrap x = x := wraps_i64 _ (by omega) (by omega)
      have hkw : IntKind.i64.wrap k = k := wraps_i64 _ (by omega) (by omega)
      have hne : ((P : Int) * 128 == 0) = false := neq_false' (by omega)
      have HOM := Lib.hid (Im.ord_mem h5)
      have hs0 := hs
      clear hr h2 h3 h4 h5 h5' hz hMl hMb hth hM hV hk hL hm hp tab
      go_enter Tryd.func5, Tryd.ntmps5
      go_wp2_with (first
    | (go_at_call 14; refine (HF.out _ l0).mono ?_; rintro e w1 ⟨rfl, l1⟩; have b1 := b0.keep l1; have lw := Later.trans_ l0 l1; have c0 := b1.cell (j := 0) (v := .int .i64 en) rfl; have c1 := b1.cell (j := 1) (v := .int .i64 (P : Int)) rfl; have c2 := b1.cell (j := 2) (v := .slice A n c) rfl; have c3 := b1.cell (j := 3) (v := .slice B m cd) rfl)
    | (go_at_call 15; refine (HC.out _ lw).mono ?_; rintro e w2 ⟨rfl, l2⟩; clear c0 c1 c2 c3; replace b1 := b1.keep l2; replace lw := Later.trans_ lw l2; have c0 := b1.cell (j := 0) (v := .int .i64 en) rfl; have c1 := b1.cell (j := 1) (v := .int .i64 (P : Int)) rfl; have c2 := b1.cell (j := 2) (v := .slice A n c) rfl; have c3 := b1.cell (j := 3) (v := .slice B m cd) rfl)
    | (go_at_call 16; (with_reducible refine (HL.out _ lw).mono ?_); rintro e w3 ⟨g, cm, rfl, _, _, _, dm, l3⟩; clear c0 c1 c2 c3; replace b1 := b1.keep l3; replace lw := Later.trans_ lw l3; have a3 := later1 w3 (.cells #[.slice (some ⟨g, 0, none⟩) P cm] 24); replace b1 := b1.keep a3; replace lw := Later.trans_ lw a3; replace dm := dm.keep a3; have bm := Blk.new w3 24 #[.slice (some ⟨g, 0, none⟩) P cm] [.slice (some ⟨g, 0, none⟩) P cm] rfl; have cm0 := bm.cell (j := 0) (v := .slice (some ⟨g, 0, none⟩) P cm) rfl; have c0 := b1.cell (j := 0) (v := .int .i64 en) rfl; have c1 := b1.cell (j := 1) (v := .int .i64 (P : Int)) rfl; have c2 := b1.cell (j := 2) (v := .slice A n c) rfl; have c3 := b1.cell (j := 3) (v := .slice B m cd) rfl)
    | (go_at_call 19; (with_reducible refine (HM.out _ _ _ dm).mono ?_); rintro e w4 ⟨rfl, l4⟩; clear c0 c1 c2 c3 cm0 bm dm; replace b1 := b1.keep l4; replace lw := Later.trans_ lw l4; have c0 := b1.cell (j := 0) (v := .int .i64 en) rfl; have c1 := b1.cell (j := 1) (v := .int .i64 (P : Int)) rfl; have c2 := b1.cell (j := 2) (v := .slice A n c) rfl; have c3 := b1.cell (j := 3) (v := .slice B m cd) rfl)
    | (go_at_call 8; refine (HS.out _ lw).mono ?_; rintro e w9 ⟨rfl, l9⟩; replace lw := Later.trans_ lw l9))
      clear c0 c1 c2 c3
      go_loopw [10, 11, 12] (fun vv hv i wr => ∃ (j : Nat) (v h : Int), j ≤ n ∧ i = .int .i64 (j : Int) ∧ vv = .int .u8 v ∧ hv = .int .i64 h ∧ Hid (Im.scan k 0 0 (L.take j) = (v, h)) ∧ 0 ≤ h ∧ h ≤ (j : Int) ∧ Blk wr w.heap.size 29 [.int .i64 en, .int .i64 (P : Int), .slice A n c, .slice B m cd] ∧ Sl wr 2 A n (Gs L) ∧ Later w wr) (fun _ _ i _ => n - (intOf i).toNat)
      case atStart => exact ⟨0, 0, 0, Nat.zero_le _, rfl, rfl, rfl, Lib.hid (by rw [List.take_zero]; rfl), by omega, by omega, b1, hs0.keep lw, lw⟩
      case round =>
        clear b1 lw hs0 hs
        rename_i wr
        obtain ⟨j, v, h, hj, rfl, rfl, rfl, HQ, h0, h0', b1, s0, lw⟩ := hrel
        by_cases hlt : j < n
        · have hkl : j < L.length := by rw [HLN.out]; exact hlt
          obtain ⟨ad, rfl⟩ := s0.addr (by omega)
          have HCC := Lib.hid (s0.seg hkl)
          obtain ⟨m1, m2, m3⟩ := HOM.out _ (List.getElem_mem hkl)
          have hst := scan_take k 0 0 L j hkl
          rw [HQ.out] at hst
          obtain ⟨a, ha⟩ : ∃ a, a = L[j].1 := ⟨_, rfl⟩
          obtain ⟨s, hs'⟩ : ∃ s, s = L[j].2 := ⟨_, rfl⟩
          rw [← ha] at HCC m2 m3 hst
          rw [← hs'] at HCC m1 m3 hst
          have kn : (j : Int) < (n : Int) := by omega
          have c2 := b1.cell (j := 2) (v := .slice (some ad) n c) rfl
          have haw : IntKind.i64.wrap (a + (s.size : Int)) = a + (s.size : Int) := wraps_i64 _ (by omega) (by omega)
          have hhw : IntKind.i64.wrap (h + 1) = h + 1 := wraps_i64 _ (by omega) (by omega)
          by_cases g1 : a ≤ k
          · by_cases g2 : k < a + (s.size : Int)
            · rw [if_pos ⟨g1, g2⟩] at hst
              have hin : (k - a).toNat < s.size := by omega
              have hE := ofS_getD s (k - a).toNat hin
              have HX := Lib.hid hst
              obtain ⟨y, hy⟩ : ∃ y, y = (Wm.ofS s).getD (k - a).toNat 0 := ⟨_, rfl⟩
              have hyr := ofS_in s (k - a).toNat
              rw [← hy] at hE HX hyr
              have i1 : 0 ≤ k - a := by omega
              have hka : IntKind.i64.wrap (k - a) = k - a := wraps_i64 _ (by omega) (by omega)
              have i2 : k - a < (s.size : Int) := by omega
              have hix : ∀ w' : World, (Instr.index 9 (.string s) (.int .i64 (k - a))).run Tryd.prog w' = .ok (.int .u8 y) w' := fun w' => by
                rw [run_index_string w' 9 s .i64 (k - a) Tryd.underlying9, dif_pos ⟨i1, i2⟩, hE]
              clear hst ha hs' hy hE
              have e1 : decide (a ≤ k) = true := decide_eq_true g1
              have e2 : decide (k < a + (s.size : Int)) = true := decide_eq_true g2
              go_wp2_with (first
                | ((with_reducible refine wpList_load_addr (o := ⟨some 57, .load 47 (.tmp 56), _, _, _, none⟩) rfl _ _ rfl (ad.add (j * 2)) [.int .i64 a, .string s] _ ?_ HCC.out Tryd.underlying47 rfl (seg_sz _ _) ?_); rfl))
              go_roundw
              case rel => exact ⟨j + 1, y, h + 1, by omega, by go_num, rfl, by go_num, HX, by omega, by omega, b1.alloc _, s0.keep (later1 _ _), Later.trans_ lw (later1 _ _)⟩
              case measure => simp [intOf]; omega
            · rw [if_neg (fun hh => g2 hh.2)] at hst
              have HX := Lib.hid hst
              clear hst ha hs'
              have e1 : decide (a ≤ k) = true := decide_eq_true g1
              have e2 : decide (k < a + (s.size : Int)) = false := decide_eq_false g2
              go_wp2_with (first
                | ((with_reducible refine wpList_load_addr (o := ⟨some 57, .load 47 (.tmp 56), _, _, _, none⟩) rfl _ _ rfl (ad.add (j * 2)) [.int .i64 a, .string s] _ ?_ HCC.out Tryd.underlying47 rfl (seg_sz _ _) ?_); rfl))
              go_roundw
              case rel => exact ⟨j + 1, v, h, by omega, by go_num, rfl, rfl, HX, by omega, by omega, b1.alloc _, s0.keep (later1 _ _), Later.trans_ lw (later1 _ _)⟩
              case measure => simp [intOf]; omega
          · rw [if_neg (fun hh => g1 hh.1)] at hst
            have HX := Lib.hid hst
            clear hst ha hs'
            have e1 : decide (a ≤ k) = false := decide_eq_false g1
            go_wp2_with (first
              | ((with_reducible refine wpList_load_addr (o := ⟨some 57, .load 47 (.tmp 56), _, _, _, none⟩) rfl _ _ rfl (ad.add (j * 2)) [.int .i64 a, .string s] _ ?_ HCC.out Tryd.underlying47 rfl (seg_sz _ _) ?_); rfl))
            go_roundw
            case rel => exact ⟨j + 1, v, h, by omega, by go_num, rfl, rfl, HX, by omega, by omega, b1.alloc _, s0.keep (later1 _ _), Later.trans_ lw (later1 _ _)⟩
            case measure => simp [intOf]; omega
        · obtain rfl : j = n := by omega
          have hq := HQ.out
          rw [List.take_of_length_le (by rw [HLN.out]; exact Nat.le_refl _)] at hq
          have hf := HSC.out
          rw [hq] at hf
          obtain ⟨f1, f2⟩ := hf
          obtain rfl : v = V := f2
          have f3 : h ≤ 1 := f1
          have c2 := b1.cell (j := 2) (v := .slice A j c) rfl
          have nlt : ¬ ((j : Int) < (j : Int)) := by omega
          have hvw : IntKind.u32.wrap v = v := by rw [IntKind.wrap_u32]; have := HVR.out; omega
          clear hq f1
          go_wp2_with (first
    | (go_at_call 8; refine (HS.out _ lw).mono ?_; rintro e w9 ⟨rfl, l9⟩; replace lw := Later.trans_ lw l9))
          go_ret
          exact ⟨rfl, lw⟩
    · obtain ⟨r, hr2⟩ : ∃ r, r = Im.chk en p L m := ⟨_, rfl⟩
      rw [← hr2] at HC hr
      have hr1 : (r == 0) = false := neq_false' hr
      clear hs hL hn hm hp tab hr2
      go_enter Tryd.func5, Tryd.ntmps5
      go_wp2_with (first
    | (go_at_call 14; refine (HF.out _ l0).mono ?_; rintro e w1 ⟨rfl, l1⟩; have b1 := b0.keep l1; have lw := Later.trans_ l0 l1; have c0 := b1.cell (j := 0) (v := .int .i64 en) rfl; have c1 := b1.cell (j := 1) (v := .int .i64 p) rfl; have c2 := b1.cell (j := 2) (v := .slice A n c) rfl; have c3 := b1.cell (j := 3) (v := .slice B m cd) rfl)
    | (go_at_call 15; refine (HC.out _ lw).mono ?_; rintro e w2 ⟨rfl, l2⟩; clear c0 c1 c2 c3; replace b1 := b1.keep l2; replace lw := Later.trans_ lw l2; have c0 := b1.cell (j := 0) (v := .int .i64 en) rfl; have c1 := b1.cell (j := 1) (v := .int .i64 p) rfl; have c2 := b1.cell (j := 2) (v := .slice A n c) rfl; have c3 := b1.cell (j := 3) (v := .slice B m cd) rfl)
    | (go_at_call 8; refine (HS.out _ lw).mono ?_; rintro e w9 ⟨rfl, l9⟩; replace lw := Later.trans_ lw l9))
      go_ret
      exact ⟨rfl, lw⟩
end Go.Proofs.YtjfphjgmphlbhaaDoor
