/-
  PLAIN FACTS of the segments of a memory, and how long an encoding is.
-/
import Derived.Test.YtjfphjgmphlbhaaDoorJt
import Derived.Deep.RegionHeld3
namespace Go.Proofs.YtjfphjgmphlbhaaDoor
open Go.RowKit Go.ChangeShapes Go.WideShapes Go.ChangeAt

set_option maxRecDepth 100000 in
theorem sgs_each {b : Wm.Bs} (n : Nat) : ∀ x ∈ Im.sgs b n, ∃ k, k < n ∧ Im.pseg b k = [x] := by
  induction n with
  | zero => intro x hx; cases hx
  | succ n ih =>
    intro x hx
    rw [Im.sgs] at hx
    rcases List.mem_append.1 hx with hx | hx
    · obtain ⟨k, h1, h2⟩ := ih x hx
      exact ⟨k, by omega, h2⟩
    · refine ⟨n, by omega, ?_⟩
      unfold Im.pseg at hx ⊢
      split at hx
      · cases hx
      · rename_i h
        rw [if_neg h, List.mem_singleton.1 hx]
set_option maxRecDepth 100000 in
theorem ord_next {M e : Int} {L : List Im.Seg} (h : Im.ord M e L = true) (j : Nat) (hj : j + 1 < L.length) : L[j].1 + L[j].2.size ≤ L[j + 1].1 := by
  induction L generalizing e j with
  | nil => simp at hj
  | cons x r ih =>
    rw [Im.ord_cons] at h
    cases j with
    | zero =>
      match r, h, hj with
      | y :: t, h, _ =>
        have h2 := h.2
        rw [Im.ord_cons] at h2
        exact h2.1.2.1
    | succ j => exact ih h.2 j (by simpa using hj)
set_option maxRecDepth 100000 in
theorem pseg_form {b : Wm.Bs} {n k : Nat} (hb : Wm.isBs b) (h : b.length = n * 128) (hk : k < n) {x : Im.Seg} (hx : Im.pseg b k = [x]) :
    0 < x.2.size ∧ x.2.size ≤ 128 ∧ (k : Int) * 128 ≤ x.1 ∧ x.1 + x.2.size ≤ (k : Int) * 128 + 128 ∧ (Wm.ofS x.2).getD 0 0 ≠ 0 ∧ (Wm.ofS x.2).getD (x.2.size - 1) 0 ≠ 0 := by
  have hp := Im.page_len h hk
  have hc := Im.core_len (Im.page b k)
  unfold Im.pseg at hx
  split at hx
  · cases hx
  · rename_i hne
    have hx2 := (List.cons.inj hx).1
    have hpos : 0 < (Im.core (Im.page b k)).length := List.length_pos_iff.2 hne
    have hof : Wm.ofS x.2 = Im.core (Im.page b k) := by rw [← hx2]; exact Wm.ofS_str (Im.core_bs (Im.page_bs hb k))
    have hsz : x.2.size = (Im.core (Im.page b k)).length := by rw [← hx2]; exact Im.strN_size _
    have h1 : x.1 = ((k * 128 + ((Im.rt (Im.page b k)).length - (Im.core (Im.page b k)).length) : Nat) : Int) := by rw [← hx2]
    rw [hof, hsz, h1]
    have hh := Im.core_head (Im.page b k)
    have hl := Im.core_last (Im.page b k)
    obtain ⟨C, hC⟩ : ∃ C, C = Im.core (Im.page b k) := ⟨_, rfl⟩
    rw [← hC] at hpos hc hh hl ⊢
    refine ⟨hpos, by omega, by omega, by omega, ?_, ?_⟩
    · match C, hpos, hh with
      | y :: t, _, hh => exact hh y t rfl
    · have hcne : C ≠ [] := List.length_pos_iff.1 hpos
      have := hl (C.getLast hcne) C.dropLast (List.dropLast_concat_getLast hcne).symm
      rw [List.getD_eq_getElem?_getD, List.getElem?_eq_getElem (by omega)]
      rw [List.getLast_eq_getElem] at this
      exact this
set_option maxRecDepth 100000 in
theorem page_ne {b : Wm.Bs} {n : Nat} (hb : Wm.isBs b) (h : b.length = n * 128) (j : Nat) (hj : j + 1 < (Im.sgs b n).length) : (Im.sgs b n)[j + 1].1 / 128 ≠ (Im.sgs b n)[j].1 / 128 := by
  obtain ⟨k, k1, k2⟩ := sgs_each (b := b) n _ (List.getElem_mem hj)
  obtain ⟨k', l1, l2⟩ := sgs_each (b := b) n _ (List.getElem_mem (show j < (Im.sgs b n).length by omega))
  have e1 := pseg_form hb h k1 k2
  have e2 := pseg_form hb h l1 l2
  have e3 := ord_next (Im.sgs_fin h n (Nat.le_refl n)).1 j hj
  intro he
  obtain rfl : k = k' := by omega
  rw [k2] at l2
  have e4 := (List.cons.inj l2).1
  rw [e4] at e3
  omega
set_option maxRecDepth 100000 in
theorem flat_le {α β : Type} (f : α → List β) (K : Nat) (l : List α) (h : ∀ x ∈ l, (f x).length ≤ K) : (l.flatMap f).length ≤ l.length * K := by
  induction l with
  | nil => simp
  | cons x r ih =>
    have h1 := ih (fun y hy => h y (List.mem_cons_of_mem _ hy))
    have h2 := h x List.mem_cons_self
    rw [List.flatMap_cons, List.length_append, List.length_cons, Nat.add_mul]
    omega
set_option maxRecDepth 100000 in
theorem enc_small (x : Dat) (hL : inSeg x.L) (hl : x.L.length ≤ 80) (hz : ∀ y ∈ x.L, y.2.size ≤ 20000) (hm : x.m ≤ 80) (hen : -9223372036854775808 ≤ x.en ∧ x.en ≤ 9223372036854775807) (hp : -9223372036854775808 ≤ x.p ∧ x.p ≤ 9223372036854775807) : x.enc.length ≤ 10000000 := by
  unfold Dat.enc encS Wm.encL
  have e1 : (Im.nums x.en x.p x.L x.m).length = 3 + x.L.length := by unfold Im.nums; simp; omega
  have e2 : (txS x.L x.d x.m).length = x.L.length + x.m := txS_len _ _ _
  have b1 := flat_le Wm.encI 10 (Im.nums x.en x.p x.L x.m) (fun y hy => by
    unfold Im.nums at hy
    rcases List.mem_append.1 hy with hy | hy
    · have hy2 : y = x.en ∨ y = x.p ∨ y = (x.m : Int) := by simpa using hy
      rcases hy2 with rfl | rfl | rfl
      · exact Wm.encI_len hen.1 hen.2
      · exact Wm.encI_len hp.1 hp.2
      · exact Wm.encI_len (by omega) (by omega)
    · obtain ⟨z, hz1, rfl⟩ := List.mem_map.1 hy
      exact Wm.encI_len (hL z hz1).1 (hL z hz1).2.1)
  have b2 := flat_le encT 20010 (txS x.L x.d x.m) (fun s hs => by
    have h1 : s.size ≤ 20000 := by
      unfold txS at hs
      rcases List.mem_append.1 hs with hs | hs
      · obtain ⟨z, hz1, rfl⟩ := List.mem_map.1 hs
        exact hz z hz1
      · unfold secS at hs
        obtain ⟨z, _, rfl⟩ := List.mem_map.1 hs
        rw [Im.strN_size]
        unfold Im.page
        rw [List.length_take]
        omega
    have h2 : (Wm.encB (Wm.ofS s)).length ≤ s.size + 10 := encB_le s (by omega)
    show (encT s).length ≤ _
    unfold encT
    omega)
  have c1 := Wm.encI_len (n := ((Im.nums x.en x.p x.L x.m).length : Int)) (by omega) (by omega)
  have c2 := Wm.encI_len (n := ((txS x.L x.d x.m).length : Int)) (by omega) (by omega)
  rw [List.length_append, List.length_append, List.length_append]
  rw [e1] at b1
  rw [e2] at b2
  omega
end Go.Proofs.YtjfphjgmphlbhaaDoor

/-
  THE STATEMENT ImageOfLoads: its walk.
-/
namespace Go.Proofs.YtjfphjgmphlbhaaDoor
open Go.RowKit Go.ChangeShapes Go.WideShapes Go.ChangeAt

set_option maxRecDepth 100000 in
set_option maxHeartbeats 4000000 in
theorem loads_any (en p : Int) (A : Option Addr) (n c : Nat) (L : List Im.Seg) (B : Option Addr) (m cd : Nat) (bb : Wm.Bs) (w : World) (hs : Sl w 2 A n (Gs L)) (hL : inSeg L) (hn : n ≤ maxLen) (hm : m ≤ maxLen) (hen : -9223372036854775808 ≤ en ∧ en ≤ 9223372036854775807) (hp : -9223372036854775808 ≤ p ∧ p ≤ 9223372036854775807) (hd : Sl w 128 B m (U bb)) (tab : Tab w) :
    Calls Tryd.prog 4 #[.agg #[.int .i64 en, .int .i64 p, .slice A n c, .slice B m cd]] w fun e w' => e = .returned (.bool true) ∧ Later w w' := by
  have HF := Lib.hid fun w' (hl : Later w w') => few_any en p A n c L B m cd w' (hs.keep hl) hn hm
  have HC := Lib.hid fun w' (hl : Later w w') => rcheck_any en p A n c L B m cd w' (hs.keep hl) hL hn hm hp
  have HS := Lib.hid fun w' (hl : Later w w') => sanity_any w' (tab.keep hl)
  obtain ⟨q, hq⟩ : ∃ q, q = fewQ L m := ⟨_, rfl⟩
  rw [← hq] at HF
  have b0 := Blk.new w 29 #[.int .i64 en, .int .i64 p, .slice A n c, .slice B m cd] [.int .i64 en, .int .i64 p, .slice A n c, .slice B m cd] rfl
  have l0 := later1 w (.cells #[.int .i64 en, .int .i64 p, .slice A n c, .slice B m cd] 29)
  clear hq
  cases q with
  | false =>
    clear hs hL hn hm hp tab HC hd hen
    go_enter Tryd.func4, Tryd.ntmps4
    go_wp2_with (first
    | (go_at_call 14; refine (HF.out _ l0).mono ?_; rintro e w1 ⟨rfl, l1⟩; have b1 := b0.keep l1; have lw := Later.trans_ l0 l1; have c0 := b1.cell (j := 0) (v := .int .i64 en) rfl; have c1 := b1.cell (j := 1) (v := .int .i64 p) rfl; have c2 := b1.cell (j := 2) (v := .slice A n c) rfl; have c3 := b1.cell (j := 3) (v := .slice B m cd) rfl)
    | (go_at_call 8; refine (HS.out _ lw).mono ?_; rintro e w19 ⟨rfl, l19⟩; replace lw := Later.trans_ lw l19))
    go_ret
    exact ⟨rfl, lw⟩
  | true =>
    by_cases hr : Im.chk en p L m = 0
    · rw [hr] at HC
      obtain ⟨h1, h2, h3, h4, h5⟩ := Im.chk_ok hr
      obtain ⟨P, rfl⟩ : ∃ P : Nat, p = (P : Int) := ⟨p.toNat, by omega⟩
      have HL := Lib.hid fun w' (hl : Later w w') => load_ok en P A n c L B m cd w' (hs.keep hl) hL hm hn hr
      obtain ⟨M, hM⟩ : ∃ M, M = Im.lay (Im.Zr (P * 128)) L := ⟨_, rfl⟩
      have hz : (Im.Zr (P * 128)).length = P * 128 := by unfold Im.Zr; rw [List.length_replicate]
      have ePP : ((P * 128 : Nat) : Int) = (P : Int) * 128 := by omega
      have h5' : Im.ord ((P * 128 : Nat) : Int) 0 L = true := by rw [ePP]; exact h5
      have hMl : M.length = P * 128 := by rw [hM]; exact Im.lay_len (Int.le_refl 0) h5' hz
      have hMb : Wm.isBs M := by rw [hM]; exact Im.lay_bs (fun y hy => by unfold Im.Zr at hy; rw [List.eq_of_mem_replicate hy]; omega)
      rw [← hM] at HL
      have hen2 : Im.entry en ((P * 128 : Nat) : Int) = true := by rw [ePP]; exact decide_eq_true h2
      have HO := Lib.hid fun g cm w' (hl : Later w w') (dd : Draft w' g P M) => of_ok (some ⟨g, 0, none⟩) P cm en B m cd M bb w' dd.sl hMb (hd.keep hl) (by omega) hen2 h4 hen
      obtain ⟨f1, f2, f3⟩ := Im.sgs_fin hMl P (Nat.le_refl P)
      have hck : Im.chk en (P : Int) (Im.sgs M P) m = 0 := Im.chk_mk h1 h2 (by omega) h4 (by rw [← ePP]; exact f1)
      have hal := Im.lay_all hMb hMl
      have HEA := Lib.hid (sgs_each (b := M) P)
      have HFO := Lib.hid fun k (hk : k < P) x (hx : Im.pseg M k = [x]) => (by have h := pseg_form hMb hMl hk hx; exact h)
      have HL2 := Lib.hid fun v w' (hi : Img w' v ⟨en, (P : Int), Im.sgs M P, bb, m⟩) => (by
        obtain ⟨A1, n1, c1, B1, cd1, rfl, k1, k2, k3, k4, k5, k6, k7, k8, k9⟩ := hi
        have h := load_ok en P A1 n1 c1 (Im.sgs M P) B1 m cd1 w' k1 k3 (by unfold maxLen; omega) (by unfold maxLen; omega) hck
        rw [hal] at h
        exact h : Calls Tryd.prog 16 #[v] w' (GotL P M w'))
      have HCK := Lib.hid fun v w' (hi : Img w' v ⟨en, (P : Int), Im.sgs M P, bb, m⟩) => (by
        have h := checkI w' v _ hi
        rwa [show Dat.chk ⟨en, (P : Int), Im.sgs M P, bb, m⟩ = 0 from hck] at h : Calls Tryd.prog 17 #[v] w' fun e w'' => e = .returned (.int .i64 0) ∧ Later w' w'')
      have HDF := Lib.hid fun g1 c1 g2 c2 w' (d1 : Draft w' g1 P M) (d2 : Draft w' g2 P M) => (by
        have h := diff_any (some ⟨g1, 0, none⟩) P c1 (some ⟨g2, 0, none⟩) P c2 M M w' d1.sl d2.sl (by omega) (by omega)
        rw [(Mm.diff_nil hMl hMl).2 rfl] at h
        exact h : Calls Tryd.prog 18 #[.agg #[.slice (some ⟨g1, 0, none⟩) P c1], .agg #[.slice (some ⟨g2, 0, none⟩) P c2]] w' (GotI [] w'))
      have HSM := Lib.hid fun v1 v2 w' (i1 : Img w' v1 ⟨en, (P : Int), Im.sgs M P, bb, m⟩) (i2 : Img w' v2 ⟨en, (P : Int), Im.sgs M P, bb, m⟩) => same_any v1 v2 _ _ w' i1 i2 rfl (by
        have h := enc_small ⟨en, (P : Int), Im.sgs M P, bb, m⟩ (sgs_in M P (by omega)) (by show (Im.sgs M P).length ≤ 80; omega) (fun y hy => by
          obtain ⟨k, k1, k2⟩ := sgs_each (b := M) P y hy
          have := pseg_form hMb hMl k1 k2
          omega) (by show m ≤ 80; omega) hen hp
        omega)
      obtain ⟨L1, hL1⟩ : ∃ L1, L1 = Im.sgs M P := ⟨_, rfl⟩
      have HPN := Lib.hid (show ∀ (j : Nat) (hj : j + 1 < L1.length), L1[j + 1].1 / 128 ≠ L1[j].1 / 128 by subst hL1; exact page_ne hMb hMl)
      rw [← hL1] at HO HL2 HCK HSM HEA f3
      have HF3 := Lib.hid f3
      clear hr h2 h3 h5 h5' hz hMl hMb hM hL hm tab hen2 f1 f2 f3 hck hal hL1 hs hd ePP
      go_enter Tryd.func4, Tryd.ntmps4
      go_wp2_with (first
    | (go_at_call 14; refine (HF.out _ l0).mono ?_; rintro e w1 ⟨rfl, l1⟩; have b1 := b0.keep l1; have lw := Later.trans_ l0 l1; have c0 := b1.cell (j := 0) (v := .int .i64 en) rfl; have c1 := b1.cell (j := 1) (v := .int .i64 (P : Int)) rfl; have c2 := b1.cell (j := 2) (v := .slice A n c) rfl; have c3 := b1.cell (j := 3) (v := .slice B m cd) rfl)
    | (go_at_call 15; refine (HC.out _ lw).mono ?_; rintro e w2 ⟨rfl, l2⟩; clear c0 c1 c2 c3; replace b1 := b1.keep l2; replace lw := Later.trans_ lw l2; have c0 := b1.cell (j := 0) (v := .int .i64 en) rfl; have c1 := b1.cell (j := 1) (v := .int .i64 (P : Int)) rfl; have c2 := b1.cell (j := 2) (v := .slice A n c) rfl; have c3 := b1.cell (j := 3) (v := .slice B m cd) rfl)
    | (go_at_call 16; (with_reducible refine (HL2.out _ _ i4).mono ?_); rintro e w5 ⟨g2, cm2, rfl, _, _, _, dm2, l5⟩; clear d0 d1 d2 d3; replace b1 := b1.keep l5; replace b5 := b5.keep l5; replace i4 := i4.keep l5; replace dm := dm.keep l5; replace bm := bm.keep l5; replace lw := Later.trans_ lw l5; have a5 := later1 w5 (.cells #[.slice (some ⟨g2, 0, none⟩) P cm2] 24); have bm2 := Blk.new w5 24 #[.slice (some ⟨g2, 0, none⟩) P cm2] [.slice (some ⟨g2, 0, none⟩) P cm2] rfl; replace b1 := b1.keep a5; replace b5 := b5.keep a5; replace i4 := i4.keep a5; replace dm := dm.keep a5; replace bm := bm.keep a5; replace lw := Later.trans_ lw a5; replace dm2 := dm2.keep a5; have cn0 := bm2.cell (j := 0) (v := .slice (some ⟨g2, 0, none⟩) P cm2) rfl; have c0 := b1.cell (j := 0) (v := .int .i64 en) rfl; have c1 := b1.cell (j := 1) (v := .int .i64 (P : Int)) rfl; have c2 := b1.cell (j := 2) (v := .slice A n c) rfl; have c3 := b1.cell (j := 3) (v := .slice B m cd) rfl)
    | (go_at_call 16; (with_reducible refine (HL.out _ lw).mono ?_); rintro e w3 ⟨g, cm, rfl, _, _, _, dm, l3⟩; clear c0 c1 c2 c3; replace b1 := b1.keep l3; replace lw := Later.trans_ lw l3; have a3 := later1 w3 (.cells #[.slice (some ⟨g, 0, none⟩) P cm] 24); have bm := Blk.new w3 24 #[.slice (some ⟨g, 0, none⟩) P cm] [.slice (some ⟨g, 0, none⟩) P cm] rfl; replace b1 := b1.keep a3; replace lw := Later.trans_ lw a3; replace dm := dm.keep a3; have cm0 := bm.cell (j := 0) (v := .slice (some ⟨g, 0, none⟩) P cm) rfl; have c0 := b1.cell (j := 0) (v := .int .i64 en) rfl; have c1 := b1.cell (j := 1) (v := .int .i64 (P : Int)) rfl; have c2 := b1.cell (j := 2) (v := .slice A n c) rfl; have c3 := b1.cell (j := 3) (v := .slice B m cd) rfl)
    | (go_at_call 9; (with_reducible refine (HO.out _ _ _ lw dm2).mono ?_); rintro e w6 ⟨v6, rfl, i6, l6⟩; clear cn0; clear c0 c1 c2 c3; obtain ⟨A2, n2, c2', B2, cd2, e6, _⟩ := Img.parts i6; obtain rfl : v6 = .agg #[.int .i64 en, .int .i64 (P : Int), .slice A2 n2 c2', .slice B2 m cd2] := e6; replace b1 := b1.keep l6; replace b5 := b5.keep l6; replace i4 := i4.keep l6; replace dm := dm.keep l6; replace bm := bm.keep l6; replace lw := Later.trans_ lw l6; replace dm2 := dm2.keep l6; replace bm2 := bm2.keep l6; have a6 := later1 w6 (.cells #[.int .i64 en, .int .i64 (P : Int), .slice A2 n2 c2', .slice B2 m cd2] 29); have b9 := Blk.new w6 29 #[.int .i64 en, .int .i64 (P : Int), .slice A2 n2 c2', .slice B2 m cd2] [.int .i64 en, .int .i64 (P : Int), .slice A2 n2 c2', .slice B2 m cd2] rfl; replace b1 := b1.keep a6; replace b5 := b5.keep a6; replace i4 := i4.keep a6; replace dm := dm.keep a6; replace bm := bm.keep a6; replace lw := Later.trans_ lw a6; replace dm2 := dm2.keep a6; replace bm2 := bm2.keep a6; replace i6 := i6.keep a6; have d0 := b5.cell (j := 0) (v := .int .i64 en) rfl; have d1 := b5.cell (j := 1) (v := .int .i64 (P : Int)) rfl; have d2 := b5.cell (j := 2) (v := .slice A1 n1 c1') rfl; have d3 := b5.cell (j := 3) (v := .slice B1 m cd1) rfl)
    | (go_at_call 9; (with_reducible refine (HO.out _ _ _ lw dm).mono ?_); rintro e w4 ⟨v4, rfl, i4, l4⟩; clear cm0; clear c0 c1 c2 c3; obtain ⟨A1, n1, c1', B1, cd1, e4, _⟩ := Img.parts i4; obtain rfl : v4 = .agg #[.int .i64 en, .int .i64 (P : Int), .slice A1 n1 c1', .slice B1 m cd1] := e4; replace b1 := b1.keep l4; replace dm := dm.keep l4; replace bm := bm.keep l4; replace lw := Later.trans_ lw l4; have a4 := later1 w4 (.cells #[.int .i64 en, .int .i64 (P : Int), .slice A1 n1 c1', .slice B1 m cd1] 29); have b5 := Blk.new w4 29 #[.int .i64 en, .int .i64 (P : Int), .slice A1 n1 c1', .slice B1 m cd1] [.int .i64 en, .int .i64 (P : Int), .slice A1 n1 c1', .slice B1 m cd1] rfl; replace b1 := b1.keep a4; replace dm := dm.keep a4; replace bm := bm.keep a4; replace lw := Later.trans_ lw a4; replace i4 := i4.keep a4; have d0 := b5.cell (j := 0) (v := .int .i64 en) rfl; have d1 := b5.cell (j := 1) (v := .int .i64 (P : Int)) rfl; have d2 := b5.cell (j := 2) (v := .slice A1 n1 c1') rfl; have d3 := b5.cell (j := 3) (v := .slice B1 m cd1) rfl)
    | (go_at_call 17; (with_reducible refine (HCK.out _ _ i4).mono ?_); rintro e w7 ⟨rfl, l7⟩; clear d0 d1 d2 d3; replace b1 := b1.keep l7; replace b5 := b5.keep l7; replace i4 := i4.keep l7; replace dm := dm.keep l7; replace bm := bm.keep l7; replace lw := Later.trans_ lw l7; replace dm2 := dm2.keep l7; replace bm2 := bm2.keep l7; replace i6 := i6.keep l7; replace b9 := b9.keep l7; have cm0 := bm.cell (j := 0) (v := .slice (some ⟨g, 0, none⟩) P cm) rfl; have cn0 := bm2.cell (j := 0) (v := .slice (some ⟨g2, 0, none⟩) P cm2) rfl)
    | (go_at_call 18; (with_reducible refine (HDF.out _ _ _ _ _ dm dm2).mono ?_); rintro e w8 ⟨AD, cD, rfl, _, _, _, l8⟩; clear cm0 cn0; replace b1 := b1.keep l8; replace b5 := b5.keep l8; replace i4 := i4.keep l8; replace dm := dm.keep l8; replace bm := bm.keep l8; replace lw := Later.trans_ lw l8; replace dm2 := dm2.keep l8; replace bm2 := bm2.keep l8; replace i6 := i6.keep l8; replace b9 := b9.keep l8; have d0 := b5.cell (j := 0) (v := .int .i64 en) rfl; have d1 := b5.cell (j := 1) (v := .int .i64 (P : Int)) rfl; have d2 := b5.cell (j := 2) (v := .slice A1 n1 c1') rfl; have d3 := b5.cell (j := 3) (v := .slice B1 m cd1) rfl; have f0 := b9.cell (j := 0) (v := .int .i64 en) rfl; have f1 := b9.cell (j := 1) (v := .int .i64 (P : Int)) rfl; have f2 := b9.cell (j := 2) (v := .slice A2 n2 c2') rfl; have f3 := b9.cell (j := 3) (v := .slice B2 m cd2) rfl)
    | (go_at_call 13; (with_reducible refine (HSM.out _ _ _ i4 i6).mono ?_); rintro e w9 ⟨rfl, l9⟩; clear d0 d1 d2 d3; clear f0 f1 f2 f3; clear i6 b9 bm2 dm2 bm dm; replace b1 := b1.keep l9; replace b5 := b5.keep l9; replace i4 := i4.keep l9; replace lw := Later.trans_ lw l9; have d2 := b5.cell (j := 2) (v := .slice A1 n1 c1') rfl)
    | (go_at_call 8; refine (HS.out _ lw).mono ?_; rintro e w19 ⟨rfl, l19⟩; replace lw := Later.trans_ lw l19))
      have hi4 := i4
      obtain ⟨A1', n1', c1'', B1', cd1', e4', s1, _⟩ := hi4
      have HN1 := Lib.hid s1.seglen
      simp at e4'
      obtain ⟨⟨rfl, rfl, rfl⟩, rfl, rfl⟩ := e4'
      obtain ⟨T5, hT5⟩ : ∃ T5, T5 = w4.heap.size := ⟨_, rfl⟩
      rw [← hT5] at b5 d2 ⊢
      clear hT5 i4 d2
      go_loopw [11] (fun i wr => ∃ j : Nat, j ≤ n1 ∧ i = .int .i64 (j : Int) ∧ Blk wr w.heap.size 29 [.int .i64 en, .int .i64 (P : Int), .slice A n c, .slice B m cd] ∧ Blk wr T5 29 [.int .i64 en, .int .i64 (P : Int), .slice A1 n1 c1', .slice B1 m cd1] ∧ Sl wr 2 A1 n1 (Gs L1) ∧ Later w wr) (fun i _ => n1 - (intOf i).toNat)
      case atStart => exact ⟨0, Nat.zero_le _, rfl, b1, b5, s1, lw⟩
      case round =>
        clear b1 b5 lw s1
        rename_i wr
        obtain ⟨j, hj, rfl, b1, b5, s1, lw⟩ := hrel
        by_cases hlt : j < n1
        · have hkl : j < L1.length := by rw [HN1.out]; exact hlt
          obtain ⟨ad, rfl⟩ := s1.addr (by omega)
          have HCC := Lib.hid (s1.seg hkl)
          obtain ⟨k, hk1, hk2⟩ := HEA.out _ (List.getElem_mem hkl)
          obtain ⟨q1, q2, q3, q4, q5, q6⟩ := HFO.out k hk1 _ hk2
          have hpn := HPN.out
          have hpv : ∀ i, j = i + 1 → ∃ hi : i < L1.length, L1[j].1 / 128 ≠ L1[i].1 / 128 ∧ wr.cell? (ad.add (i * 2)) = some (.int .i64 L1[i].1) ∧ 0 ≤ L1[i].1 ∧ L1[i].1 ≤ 8192 := by
            rintro i rfl
            have hi : i < L1.length := by omega
            refine ⟨hi, hpn i hkl, s1.seg0 hi, ?_⟩
            obtain ⟨k', u1, u2⟩ := HEA.out _ (List.getElem_mem hi)
            have u3 := HFO.out k' u1 _ u2
            omega
          obtain ⟨a, ha⟩ : ∃ a, a = L1[j].1 := ⟨_, rfl⟩
          obtain ⟨s, hs'⟩ : ∃ s, s = L1[j].2 := ⟨_, rfl⟩
          rw [← ha] at HCC q3 q4
          rw [← hs'] at HCC q1 q2 q4 q5 q6
          have hpw : ∀ i, j = i + 1 → ∃ a0, a / 128 ≠ a0 / 128 ∧ wr.cell? (ad.add (i * 2)) = some (.int .i64 a0) ∧ 0 ≤ a0 ∧ a0 ≤ 8192 := fun i e => by
            obtain ⟨hi, z⟩ := hpv i e
            rw [← ha] at z
            exact ⟨_, z⟩
          have HPW := Lib.hid hpw
          have kn : (j : Int) < (n1 : Int) := by omega
          have hn1 := HF3.out
          have hn2 := HN1.out
          have hjj : j ≤ 64 := by omega
          clear hn1 hn2
          have f1 : ((s.size : Int) == 0) = false := neq_false' (by omega)
          obtain ⟨y0, hy0⟩ : ∃ y, y = (Wm.ofS s).getD 0 0 := ⟨_, rfl⟩
          obtain ⟨y1, hy1⟩ : ∃ y, y = (Wm.ofS s).getD (s.size - 1) 0 := ⟨_, rfl⟩
          rw [← hy0] at q5
          rw [← hy1] at q6
          have HI0 := Lib.hid fun w' : World => (show (Instr.index 9 (.string s) (.int .i64 0)).run Tryd.prog w' = .ok (.int .u8 y0) w' by
            rw [run_index_string w' 9 s .i64 0 Tryd.underlying9, dif_pos ⟨Int.le_refl _, by omega⟩, ofS_getD s _ (by omega), hy0]; rfl)
          have HI1 := Lib.hid fun w' : World => (show (Instr.index 9 (.string s) (.int .i64 ((s.size : Int) - 1))).run Tryd.prog w' = .ok (.int .u8 y1) w' by
            rw [run_index_string w' 9 s .i64 ((s.size : Int) - 1) Tryd.underlying9, dif_pos ⟨by omega, by omega⟩, ofS_getD s _ (by omega), hy1]
            congr 3
            omega)
          have g0 : (y0 == 0) = false := neq_false' q5
          have g1 : (y1 == 0) = false := neq_false' q6
          obtain ⟨pg, hpg⟩ : ∃ pg, pg = a / 128 := ⟨_, rfl⟩
          have t1 : a.tdiv 128 = pg := by rw [hpg]; exact Int.tdiv_eq_ediv_of_nonneg (by omega)
          have t2 : (a + (s.size : Int) - 1).tdiv 128 = pg := by rw [hpg, Int.tdiv_eq_ediv_of_nonneg (by omega)]; omega
          have wpg : IntKind.i64.wrap pg = pg := wraps_i64 _ (by omega) (by omega)
          have w1 : IntKind.i64.wrap ((s.size : Int) - 1) = (s.size : Int) - 1 := wraps_i64 _ (by omega) (by omega)
          have w2 : IntKind.i64.wrap (a + (s.size : Int)) = a + (s.size : Int) := wraps_i64 _ (by omega) (by omega)
          have w3 : IntKind.i64.wrap (a + (s.size : Int) - 1) = a + (s.size : Int) - 1 := wraps_i64 _ (by omega) (by omega)
          clear hpv hpw hpn ha hs' hy0 hy1 hk2 hk1 q5 q6
          have k0 := (Blk.new wr 47 #[.int .i64 a, .string s] [.int .i64 a, .string s] rfl).cell (j := 0) (v := .int .i64 a) rfl
          have k1 := (Blk.new wr 47 #[.int .i64 a, .string s] [.int .i64 a, .string s] rfl).cell (j := 1) (v := .string s) rfl
          have k2 := (b5.alloc (.cells #[.int .i64 a, .string s] 47)).cell (j := 2) (v := .slice (some ad) n1 c1') rfl
          have hls := later1 wr (.cells #[.int .i64 a, .string s] 47)
          have d2 := b5.cell (j := 2) (v := .slice (some ad) n1 c1') rfl
          go_wp2_with (first
            | ((with_reducible refine wpList_load_addr (o := ⟨some 93, .load 47 (.tmp 92), _, _, _, none⟩) rfl _ _ rfl (ad.add (j * 2)) [.int .i64 a, .string s] _ ?_ HCC.out Tryd.underlying47 rfl (seg_sz _ _) ?_); rfl))
          clear d2
          cases j with
          | zero =>
            clear HPW hpg
            refine wp_region_held_drew (S := fun w' => w'.cell? ⟨wr.heap.size, 0, none⟩ = some (.int .i64 a) ∧ w'.cell? ⟨wr.heap.size, 1, none⟩ = some (.string s) ∧ w'.cell? ⟨T5, 2, none⟩ = some (.slice (some ad) n1 c1')) (by kernel_rfl) (by exact ⟨k0, k1, k2⟩) (fun hHeld => ?_)
            refine wpAnyH_take (i := 0) (oi := ⟨some 94, .fieldAddr 47 (.tmp 12) 1, _, _, _, none⟩) (v := .pointer (some ⟨wr.heap.size, 1, none⟩)) rfl (by kernel_rfl) (by kernel_rfl) (by kernel_rfl) (fun _ _ _ h => h) (Or.inl ⟨by rfl, fun w _ => by go_simp⟩) hHeld ?_
            simp only [Act.put, List.setIfInBounds_toArray, List.set_cons_zero, List.set_cons_succ]
            refine wpAnyH_take (i := 1) (oi := ⟨some 95, .load 9 (.tmp 94), _, _, _, none⟩) (v := .string s) rfl (by kernel_rfl) (by kernel_rfl) (by kernel_rfl) (fun _ _ _ h => h) (Or.inl ⟨by rfl, fun w hS => by have h0 := hS.2.1; go_simp⟩) hHeld ?_
            simp only [Act.put, List.setIfInBounds_toArray, List.set_cons_zero, List.set_cons_succ]
            refine wpAnyH_take (i := 2) (oi := ⟨some 96, .call { callee := .builtin .len, args := #[.tmp 95], argTypes := #[9] }, _, _, _, none⟩) (v := .int .i64 (s.size : Int)) rfl (by kernel_rfl) (by kernel_rfl) (by kernel_rfl) (fun _ _ _ h => h) (Or.inl ⟨by rfl, fun w _ => by go_simp⟩) hHeld ?_
            simp only [Act.put, List.setIfInBounds_toArray, List.set_cons_zero, List.set_cons_succ]
            refine wpAnyH_take (i := 3) (oi := ⟨some 97, .binOp .eql 3 (.tmp 96) (.const (.int .i64 0)) 3, _, _, _, none⟩) (v := .bool false) rfl (by kernel_rfl) (by kernel_rfl) (by kernel_rfl) (fun _ _ _ h => h) (Or.inl ⟨by rfl, fun w _ => by go_simp⟩) hHeld ?_
            simp only [Act.put, List.setIfInBounds_toArray, List.set_cons_zero, List.set_cons_succ]
            refine wpAnyH_take (i := 4) (oi := ⟨some 98, .move (.tmp 97), _, _, _, none⟩) (v := .bool false) rfl (by kernel_rfl) (by kernel_rfl) (by kernel_rfl) (fun _ _ _ h => h) (Or.inl ⟨by rfl, fun _ _ => rfl⟩) hHeld ?_
            simp only [Act.put, List.setIfInBounds_toArray, List.set_cons_zero, List.set_cons_succ]
            refine wpAnyH_take (i := 5) (oi := ⟨some 99, .fieldAddr 47 (.tmp 12) 1, _, _, _, _⟩) (v := .pointer (some ⟨wr.heap.size, 1, none⟩)) rfl (by kernel_rfl) (by kernel_rfl) (by kernel_rfl) (fun _ _ _ h => h) (Or.inl ⟨by rfl, fun w _ => by go_simp⟩) hHeld ?_
            simp only [Act.put, List.setIfInBounds_toArray, List.set_cons_zero, List.set_cons_succ]
            refine wpAnyH_take (i := 6) (oi := ⟨some 100, .load 9 (.tmp 99), _, _, _, _⟩) (v := .string s) rfl (by kernel_rfl) (by kernel_rfl) (by kernel_rfl) (fun _ _ _ h => h) (Or.inl ⟨by rfl, fun w hS => by have h0 := hS.2.1; go_simp⟩) hHeld ?_
            simp only [Act.put, List.setIfInBounds_toArray, List.set_cons_zero, List.set_cons_succ]
            refine wpAnyH_take (i := 7) (oi := ⟨some 101, .index 9 (.tmp 100) (.const (.int .i64 0)), _, _, _, _⟩) (v := .int .u8 y0) rfl (by kernel_rfl) (by kernel_rfl) (by kernel_rfl) (fun _ _ _ h => h) (Or.inl ⟨by rfl, fun w _ => by have e9 := HI0.out w; go_simp⟩) hHeld ?_
            simp only [Act.put, List.setIfInBounds_toArray, List.set_cons_zero, List.set_cons_succ]
            refine wpAnyH_take (i := 8) (oi := ⟨some 102, .binOp .eql 5 (.tmp 101) (.const (.int .u8 0)) 5, _, _, _, _⟩) (v := .bool false) rfl (by kernel_rfl) (by kernel_rfl) (by kernel_rfl) (fun _ _ _ h => h) (Or.inl ⟨by rfl, fun w _ => by go_simp⟩) hHeld ?_
            simp only [Act.put, List.setIfInBounds_toArray, List.set_cons_zero, List.set_cons_succ]
            refine wpAnyH_take (i := 9) (oi := ⟨some 103, .pick (.tmp 98) (.const (.bool true)) (.tmp 102), _, _, _, none⟩) (v := .bool false) rfl (by kernel_rfl) (by kernel_rfl) (by kernel_rfl) (fun _ _ _ h => h) (Or.inl ⟨by rfl, fun w _ => by go_simp⟩) hHeld ?_
            simp only [Act.put, List.setIfInBounds_toArray, List.set_cons_zero, List.set_cons_succ]
            refine wpAnyH_take (i := 10) (oi := ⟨some 104, .move (.tmp 103), _, _, _, none⟩) (v := .bool false) rfl (by kernel_rfl) (by kernel_rfl) (by kernel_rfl) (fun _ _ _ h => h) (Or.inl ⟨by rfl, fun _ _ => rfl⟩) hHeld ?_
            simp only [Act.put, List.setIfInBounds_toArray, List.set_cons_zero, List.set_cons_succ]
            refine wpAnyH_take (i := 11) (oi := ⟨some 105, .fieldAddr 47 (.tmp 12) 1, _, _, _, _⟩) (v := .pointer (some ⟨wr.heap.size, 1, none⟩)) rfl (by kernel_rfl) (by kernel_rfl) (by kernel_rfl) (fun _ _ _ h => h) (Or.inl ⟨by rfl, fun w _ => by go_simp⟩) hHeld ?_
            simp only [Act.put, List.setIfInBounds_toArray, List.set_cons_zero, List.set_cons_succ]
            refine wpAnyH_take (i := 12) (oi := ⟨some 106, .load 9 (.tmp 105), _, _, _, _⟩) (v := .string s) rfl (by kernel_rfl) (by kernel_rfl) (by kernel_rfl) (fun _ _ _ h => h) (Or.inl ⟨by rfl, fun w hS => by have h0 := hS.2.1; go_simp⟩) hHeld ?_
            simp only [Act.put, List.setIfInBounds_toArray, List.set_cons_zero, List.set_cons_succ]
            refine wpAnyH_take (i := 13) (oi := ⟨some 107, .fieldAddr 47 (.tmp 12) 1, _, _, _, _⟩) (v := .pointer (some ⟨wr.heap.size, 1, none⟩)) rfl (by kernel_rfl) (by kernel_rfl) (by kernel_rfl) (fun _ _ _ h => h) (Or.inl ⟨by rfl, fun w _ => by go_simp⟩) hHeld ?_
            simp only [Act.put, List.setIfInBounds_toArray, List.set_cons_zero, List.set_cons_succ]
            refine wpAnyH_take (i := 14) (oi := ⟨some 108, .load 9 (.tmp 107), _, _, _, _⟩) (v := .string s) rfl (by kernel_rfl) (by kernel_rfl) (by kernel_rfl) (fun _ _ _ h => h) (Or.inl ⟨by rfl, fun w hS => by have h0 := hS.2.1; go_simp⟩) hHeld ?_
            simp only [Act.put, List.setIfInBounds_toArray, List.set_cons_zero, List.set_cons_succ]
            refine wpAnyH_take (i := 15) (oi := ⟨some 109, .call { callee := .builtin .len, args := #[.tmp 108], argTypes := #[9] }, _, _, _, _⟩) (v := .int .i64 (s.size : Int)) rfl (by kernel_rfl) (by kernel_rfl) (by kernel_rfl) (fun _ _ _ h => h) (Or.inl ⟨by rfl, fun w _ => by go_simp⟩) hHeld ?_
            simp only [Act.put, List.setIfInBounds_toArray, List.set_cons_zero, List.set_cons_succ]
            refine wpAnyH_take (i := 16) (oi := ⟨some 110, .binOp .sub 3 (.tmp 109) (.const (.int .i64 1)) 3, _, _, _, _⟩) (v := .int .i64 ((s.size : Int) - 1)) rfl (by kernel_rfl) (by kernel_rfl) (by kernel_rfl) (fun _ _ _ h => h) (Or.inl ⟨by rfl, fun w _ => by go_simp⟩) hHeld ?_
            simp only [Act.put, List.setIfInBounds_toArray, List.set_cons_zero, List.set_cons_succ]
            refine wpAnyH_take (i := 17) (oi := ⟨some 111, .index 9 (.tmp 106) (.tmp 110), _, _, _, _⟩) (v := .int .u8 y1) rfl (by kernel_rfl) (by kernel_rfl) (by kernel_rfl) (fun _ _ _ h => h) (Or.inl ⟨by rfl, fun w _ => by have e9 := HI1.out w; go_simp⟩) hHeld ?_
            simp only [Act.put, List.setIfInBounds_toArray, List.set_cons_zero, List.set_cons_succ]
            refine wpAnyH_take (i := 18) (oi := ⟨some 112, .binOp .eql 5 (.tmp 111) (.const (.int .u8 0)) 5, _, _, _, _⟩) (v := .bool false) rfl (by kernel_rfl) (by kernel_rfl) (by kernel_rfl) (fun _ _ _ h => h) (Or.inl ⟨by rfl, fun w _ => by go_simp⟩) hHeld ?_
            simp only [Act.put, List.setIfInBounds_toArray, List.set_cons_zero, List.set_cons_succ]
            refine wpAnyH_take (i := 19) (oi := ⟨some 113, .pick (.tmp 104) (.const (.bool true)) (.tmp 112), _, _, _, none⟩) (v := .bool false) rfl (by kernel_rfl) (by kernel_rfl) (by kernel_rfl) (fun _ _ _ h => h) (Or.inl ⟨by rfl, fun w _ => by go_simp⟩) hHeld ?_
            simp only [Act.put, List.setIfInBounds_toArray, List.set_cons_zero, List.set_cons_succ]
            refine wpAnyH_take (i := 20) (oi := ⟨some 114, .move (.tmp 113), _, _, _, none⟩) (v := .bool false) rfl (by kernel_rfl) (by kernel_rfl) (by kernel_rfl) (fun _ _ _ h => h) (Or.inl ⟨by rfl, fun _ _ => rfl⟩) hHeld ?_
            simp only [Act.put, List.setIfInBounds_toArray, List.set_cons_zero, List.set_cons_succ]
            refine wpAnyH_take (i := 21) (oi := ⟨some 115, .fieldAddr 47 (.tmp 12) 0, _, _, _, _⟩) (v := .pointer (some ⟨wr.heap.size, 0, none⟩)) rfl (by kernel_rfl) (by kernel_rfl) (by kernel_rfl) (fun _ _ _ h => h) (Or.inl ⟨by rfl, fun w _ => by go_simp⟩) hHeld ?_
            simp only [Act.put, List.setIfInBounds_toArray, List.set_cons_zero, List.set_cons_succ]
            refine wpAnyH_take (i := 22) (oi := ⟨some 116, .load 3 (.tmp 115), _, _, _, _⟩) (v := .int .i64 a) rfl (by kernel_rfl) (by kernel_rfl) (by kernel_rfl) (fun _ _ _ h => h) (Or.inl ⟨by rfl, fun w hS => by have h0 := hS.1; go_simp⟩) hHeld ?_
            simp only [Act.put, List.setIfInBounds_toArray, List.set_cons_zero, List.set_cons_succ]
            refine wpAnyH_take (i := 23) (oi := ⟨some 117, .binOp .quo 3 (.tmp 116) (.const (.int .i64 128)) 3, _, _, _, _⟩) (v := .int .i64 pg) rfl (by kernel_rfl) (by kernel_rfl) (by kernel_rfl) (fun _ _ _ h => h) (Or.inl ⟨by rfl, fun w _ => by go_simp⟩) hHeld ?_
            simp only [Act.put, List.setIfInBounds_toArray, List.set_cons_zero, List.set_cons_succ]
            refine wpAnyH_take (i := 24) (oi := ⟨some 118, .fieldAddr 47 (.tmp 12) 0, _, _, _, _⟩) (v := .pointer (some ⟨wr.heap.size, 0, none⟩)) rfl (by kernel_rfl) (by kernel_rfl) (by kernel_rfl) (fun _ _ _ h => h) (Or.inl ⟨by rfl, fun w _ => by go_simp⟩) hHeld ?_
            simp only [Act.put, List.setIfInBounds_toArray, List.set_cons_zero, List.set_cons_succ]
            refine wpAnyH_take (i := 25) (oi := ⟨some 119, .load 3 (.tmp 118), _, _, _, _⟩) (v := .int .i64 a) rfl (by kernel_rfl) (by kernel_rfl) (by kernel_rfl) (fun _ _ _ h => h) (Or.inl ⟨by rfl, fun w hS => by have h0 := hS.1; go_simp⟩) hHeld ?_
            simp only [Act.put, List.setIfInBounds_toArray, List.set_cons_zero, List.set_cons_succ]
            refine wpAnyH_take (i := 26) (oi := ⟨some 120, .fieldAddr 47 (.tmp 12) 1, _, _, _, _⟩) (v := .pointer (some ⟨wr.heap.size, 1, none⟩)) rfl (by kernel_rfl) (by kernel_rfl) (by kernel_rfl) (fun _ _ _ h => h) (Or.inl ⟨by rfl, fun w _ => by go_simp⟩) hHeld ?_
            simp only [Act.put, List.setIfInBounds_toArray, List.set_cons_zero, List.set_cons_succ]
            refine wpAnyH_take (i := 27) (oi := ⟨some 121, .load 9 (.tmp 120), _, _, _, _⟩) (v := .string s) rfl (by kernel_rfl) (by kernel_rfl) (by kernel_rfl) (fun _ _ _ h => h) (Or.inl ⟨by rfl, fun w hS => by have h0 := hS.2.1; go_simp⟩) hHeld ?_
            simp only [Act.put, List.setIfInBounds_toArray, List.set_cons_zero, List.set_cons_succ]
            refine wpAnyH_take (i := 28) (oi := ⟨some 122, .call { callee := .builtin .len, args := #[.tmp 121], argTypes := #[9] }, _, _, _, _⟩) (v := .int .i64 (s.size : Int)) rfl (by kernel_rfl) (by kernel_rfl) (by kernel_rfl) (fun _ _ _ h => h) (Or.inl ⟨by rfl, fun w _ => by go_simp⟩) hHeld ?_
            simp only [Act.put, List.setIfInBounds_toArray, List.set_cons_zero, List.set_cons_succ]
            refine wpAnyH_take (i := 29) (oi := ⟨some 123, .binOp .add 3 (.tmp 119) (.tmp 122) 3, _, _, _, _⟩) (v := .int .i64 (a + (s.size : Int))) rfl (by kernel_rfl) (by kernel_rfl) (by kernel_rfl) (fun _ _ _ h => h) (Or.inl ⟨by rfl, fun w _ => by go_simp⟩) hHeld ?_
            simp only [Act.put, List.setIfInBounds_toArray, List.set_cons_zero, List.set_cons_succ]
            refine wpAnyH_take (i := 30) (oi := ⟨some 124, .binOp .sub 3 (.tmp 123) (.const (.int .i64 1)) 3, _, _, _, _⟩) (v := .int .i64 (a + (s.size : Int) - 1)) rfl (by kernel_rfl) (by kernel_rfl) (by kernel_rfl) (fun _ _ _ h => h) (Or.inl ⟨by rfl, fun w _ => by go_simp⟩) hHeld ?_
            simp only [Act.put, List.setIfInBounds_toArray, List.set_cons_zero, List.set_cons_succ]
            refine wpAnyH_take (i := 31) (oi := ⟨some 125, .binOp .quo 3 (.tmp 124) (.const (.int .i64 128)) 3, _, _, _, _⟩) (v := .int .i64 pg) rfl (by kernel_rfl) (by kernel_rfl) (by kernel_rfl) (fun _ _ _ h => h) (Or.inl ⟨by rfl, fun w _ => by go_simp⟩) hHeld ?_
            simp only [Act.put, List.setIfInBounds_toArray, List.set_cons_zero, List.set_cons_succ]
            refine wpAnyH_take (i := 32) (oi := ⟨some 126, .binOp .neq 3 (.tmp 117) (.tmp 125) 3, _, _, _, _⟩) (v := .bool false) rfl (by kernel_rfl) (by kernel_rfl) (by kernel_rfl) (fun _ _ _ h => h) (Or.inl ⟨by rfl, fun w _ => by go_simp⟩) hHeld ?_
            simp only [Act.put, List.setIfInBounds_toArray, List.set_cons_zero, List.set_cons_succ]
            refine wpAnyH_take (i := 33) (oi := ⟨some 127, .pick (.tmp 114) (.const (.bool true)) (.tmp 126), _, _, _, none⟩) (v := .bool false) rfl (by kernel_rfl) (by kernel_rfl) (by kernel_rfl) (fun _ _ _ h => h) (Or.inl ⟨by rfl, fun w _ => by go_simp⟩) hHeld ?_
            simp only [Act.put, List.setIfInBounds_toArray, List.set_cons_zero, List.set_cons_succ]
            refine wpAnyH_take (i := 34) (oi := ⟨some 128, .move (.tmp 127), _, _, _, none⟩) (v := .bool false) rfl (by kernel_rfl) (by kernel_rfl) (by kernel_rfl) (fun _ _ _ h => h) (Or.inl ⟨by rfl, fun _ _ => rfl⟩) hHeld ?_
            simp only [Act.put, List.setIfInBounds_toArray, List.set_cons_zero, List.set_cons_succ]
            refine wpAnyH_take (i := 35) (oi := ⟨some 129, .move (.tmp 11), _, _, _, _⟩) (v := .int .i64 ((0 : Nat) : Int)) rfl (by kernel_rfl) (by kernel_rfl) (by kernel_rfl) (fun _ _ _ h => h) (Or.inl ⟨by rfl, fun _ _ => rfl⟩) hHeld ?_
            simp only [Act.put, List.setIfInBounds_toArray, List.set_cons_zero, List.set_cons_succ]
            refine wpAnyH_take (i := 36) (oi := ⟨some 130, .binOp .gtr 3 (.tmp 129) (.const (.int .i64 0)) 3, _, _, _, _⟩) (v := .bool false) rfl (by kernel_rfl) (by kernel_rfl) (by kernel_rfl) (fun _ _ _ h => h) (Or.inl ⟨by rfl, fun w _ => by go_simp⟩) hHeld ?_
            simp only [Act.put, List.setIfInBounds_toArray, List.set_cons_zero, List.set_cons_succ]
            refine wpAnyH_take (i := 37) (oi := ⟨some 131, .move (.tmp 130), _, _, _, _⟩) (v := .bool false) rfl (by kernel_rfl) (by kernel_rfl) (by kernel_rfl) (fun _ _ _ h => h) (Or.inl ⟨by rfl, fun _ _ => rfl⟩) hHeld ?_
            simp only [Act.put, List.setIfInBounds_toArray, List.set_cons_zero, List.set_cons_succ]
            refine wpAnyH_take (i := 38) (oi := ⟨some 132, .fieldAddr 47 (.tmp 12) 0, _, _, _, _⟩) (v := undef) rfl (by kernel_rfl) (by kernel_rfl) (by kernel_rfl) (fun _ _ _ h => h) (Or.inr ⟨by rfl, rfl⟩) hHeld ?_
            simp only [Act.put, List.setIfInBounds_toArray, List.set_cons_zero, List.set_cons_succ]
            refine wpAnyH_take (i := 39) (oi := ⟨some 133, .load 3 (.tmp 132), _, _, _, _⟩) (v := undef) rfl (by kernel_rfl) (by kernel_rfl) (by kernel_rfl) (fun _ _ _ h => h) (Or.inr ⟨by rfl, rfl⟩) hHeld ?_
            simp only [Act.put, List.setIfInBounds_toArray, List.set_cons_zero, List.set_cons_succ]
            refine wpAnyH_take (i := 40) (oi := ⟨some 134, .binOp .quo 3 (.tmp 133) (.const (.int .i64 128)) 3, _, _, _, _⟩) (v := undef) rfl (by kernel_rfl) (by kernel_rfl) (by kernel_rfl) (fun _ _ _ h => h) (Or.inr ⟨by rfl, rfl⟩) hHeld ?_
            simp only [Act.put, List.setIfInBounds_toArray, List.set_cons_zero, List.set_cons_succ]
            refine wpAnyH_take (i := 41) (oi := ⟨some 135, .fieldAddr 29 (.tmp 5) 2, _, _, _, _⟩) (v := undef) rfl (by kernel_rfl) (by kernel_rfl) (by kernel_rfl) (fun _ _ _ h => h) (Or.inr ⟨by rfl, rfl⟩) hHeld ?_
            simp only [Act.put, List.setIfInBounds_toArray, List.set_cons_zero, List.set_cons_succ]
            refine wpAnyH_take (i := 42) (oi := ⟨some 136, .load 27 (.tmp 135), _, _, _, _⟩) (v := undef) rfl (by kernel_rfl) (by kernel_rfl) (by kernel_rfl) (fun _ _ _ h => h) (Or.inr ⟨by rfl, rfl⟩) hHeld ?_
            simp only [Act.put, List.setIfInBounds_toArray, List.set_cons_zero, List.set_cons_succ]
            refine wpAnyH_take (i := 43) (oi := ⟨some 137, .move (.tmp 11), _, _, _, _⟩) (v := undef) rfl (by kernel_rfl) (by kernel_rfl) (by kernel_rfl) (fun _ _ _ h => h) (Or.inr ⟨by rfl, rfl⟩) hHeld ?_
            simp only [Act.put, List.setIfInBounds_toArray, List.set_cons_zero, List.set_cons_succ]
            refine wpAnyH_take (i := 44) (oi := ⟨some 138, .binOp .sub 3 (.tmp 137) (.const (.int .i64 1)) 3, _, _, _, _⟩) (v := undef) rfl (by kernel_rfl) (by kernel_rfl) (by kernel_rfl) (fun _ _ _ h => h) (Or.inr ⟨by rfl, rfl⟩) hHeld ?_
            simp only [Act.put, List.setIfInBounds_toArray, List.set_cons_zero, List.set_cons_succ]
            refine wpAnyH_take (i := 45) (oi := ⟨some 139, .indexAddr 27 (.tmp 136) (.tmp 138), _, _, _, _⟩) (v := undef) rfl (by kernel_rfl) (by kernel_rfl) (by kernel_rfl) (fun _ _ _ h => h) (Or.inr ⟨by rfl, rfl⟩) hHeld ?_
            simp only [Act.put, List.setIfInBounds_toArray, List.set_cons_zero, List.set_cons_succ]
            refine wpAnyH_take (i := 46) (oi := ⟨some 140, .fieldAddr 47 (.tmp 139) 0, _, _, _, _⟩) (v := undef) rfl (by kernel_rfl) (by kernel_rfl) (by kernel_rfl) (fun _ _ _ h => h) (Or.inr ⟨by rfl, rfl⟩) hHeld ?_
            simp only [Act.put, List.setIfInBounds_toArray, List.set_cons_zero, List.set_cons_succ]
            refine wpAnyH_take (i := 47) (oi := ⟨some 141, .load 3 (.tmp 140), _, _, _, _⟩) (v := undef) rfl (by kernel_rfl) (by kernel_rfl) (by kernel_rfl) (fun _ _ _ h => h) (Or.inr ⟨by rfl, rfl⟩) hHeld ?_
            simp only [Act.put, List.setIfInBounds_toArray, List.set_cons_zero, List.set_cons_succ]
            refine wpAnyH_take (i := 48) (oi := ⟨some 142, .binOp .quo 3 (.tmp 141) (.const (.int .i64 128)) 3, _, _, _, _⟩) (v := undef) rfl (by kernel_rfl) (by kernel_rfl) (by kernel_rfl) (fun _ _ _ h => h) (Or.inr ⟨by rfl, rfl⟩) hHeld ?_
            simp only [Act.put, List.setIfInBounds_toArray, List.set_cons_zero, List.set_cons_succ]
            refine wpAnyH_take (i := 49) (oi := ⟨some 143, .binOp .eql 3 (.tmp 134) (.tmp 142) 3, _, _, _, _⟩) (v := undef) rfl (by kernel_rfl) (by kernel_rfl) (by kernel_rfl) (fun _ _ _ h => h) (Or.inr ⟨by rfl, rfl⟩) hHeld ?_
            simp only [Act.put, List.setIfInBounds_toArray, List.set_cons_zero, List.set_cons_succ]
            refine wpAnyH_take (i := 50) (oi := ⟨some 144, .pick (.tmp 131) (.tmp 143) (.const (.bool false)), _, _, _, _⟩) (v := .bool false) rfl (by kernel_rfl) (by kernel_rfl) (by kernel_rfl) (fun _ _ _ h => h) (Or.inl ⟨by rfl, fun w _ => by go_simp⟩) hHeld ?_
            simp only [Act.put, List.setIfInBounds_toArray, List.set_cons_zero, List.set_cons_succ]
            refine wpAnyH_take (i := 51) (oi := ⟨some 145, .pick (.tmp 128) (.const (.bool true)) (.tmp 144), _, _, _, none⟩) (v := .bool false) rfl (by kernel_rfl) (by kernel_rfl) (by kernel_rfl) (fun _ _ _ h => h) (Or.inl ⟨by rfl, fun w _ => by go_simp⟩) hHeld ?_
            simp only [Act.put, List.setIfInBounds_toArray, List.set_cons_zero, List.set_cons_succ]
            refine wpAnyH_done (by kernel_rfl) ?_ _
            clear hHeld
            go_wp2
            go_roundw
            case rel => exact ⟨0 + 1, by omega, by go_num, b1.keep hls.drew, b5.keep hls.drew, s1.keep hls.drew, Later.trans_ lw hls.drew⟩
            case measure => simp [intOf]; omega
          | succ i =>
            obtain ⟨a0, u1, u2, u3, u4⟩ := HPW.out i rfl
            clear HPW
            obtain ⟨pg0, hpg0⟩ : ∃ pg, pg = a0 / 128 := ⟨_, rfl⟩
            have t3 : a0.tdiv 128 = pg0 := by rw [hpg0]; exact Int.tdiv_eq_ediv_of_nonneg u3
            have wpg0 : IntKind.i64.wrap pg0 = pg0 := wraps_i64 _ (by omega) (by omega)
            have gpp : (pg == pg0) = false := neq_false' (by rw [hpg, hpg0]; exact u1)
            have k3 := (Below.cell hls (World.block_lt_of_cell? wr _ u2)).trans u2
            have hji : IntKind.i64.wrap (((i + 1 : Nat) : Int) - 1) = (i : Int) := by rw [show ((i + 1 : Nat) : Int) - 1 = (i : Int) by omega]; exact wraps_i64 _ (by omega) (by omega)
            have hji2 : (i : Int) + 1 - 1 = (i : Int) := by omega
            have kni : (i : Int) < (n1 : Int) := by omega
            have hiw : IntKind.i64.wrap (i : Int) = (i : Int) := wraps_i64 _ (by omega) (by omega)
            clear hpg hpg0 u1
            refine wp_region_held_drew (S := fun w' => w'.cell? ⟨wr.heap.size, 0, none⟩ = some (.int .i64 a) ∧ w'.cell? ⟨wr.heap.size, 1, none⟩ = some (.string s) ∧ w'.cell? ⟨T5, 2, none⟩ = some (.slice (some ad) n1 c1') ∧ w'.cell? (ad.add (i * 2)) = some (.int .i64 a0)) (by kernel_rfl) (by exact ⟨k0, k1, k2, k3⟩) (fun hHeld => ?_)
            refine wpAnyH_take (i := 0) (oi := ⟨some 94, .fieldAddr 47 (.tmp 12) 1, _, _, _, none⟩) (v := .pointer (some ⟨wr.heap.size, 1, none⟩)) rfl (by kernel_rfl) (by kernel_rfl) (by kernel_rfl) (fun _ _ _ h => h) (Or.inl ⟨by rfl, fun w _ => by go_simp⟩) hHeld ?_
            simp only [Act.put, List.setIfInBounds_toArray, List.set_cons_zero, List.set_cons_succ]
            refine wpAnyH_take (i := 1) (oi := ⟨some 95, .load 9 (.tmp 94), _, _, _, none⟩) (v := .string s) rfl (by kernel_rfl) (by kernel_rfl) (by kernel_rfl) (fun _ _ _ h => h) (Or.inl ⟨by rfl, fun w hS => by have h0 := hS.2.1; go_simp⟩) hHeld ?_
            simp only [Act.put, List.setIfInBounds_toArray, List.set_cons_zero, List.set_cons_succ]
            refine wpAnyH_take (i := 2) (oi := ⟨some 96, .call { callee := .builtin .len, args := #[.tmp 95], argTypes := #[9] }, _, _, _, none⟩) (v := .int .i64 (s.size : Int)) rfl (by kernel_rfl) (by kernel_rfl) (by kernel_rfl) (fun _ _ _ h => h) (Or.inl ⟨by rfl, fun w _ => by go_simp⟩) hHeld ?_
            simp only [Act.put, List.setIfInBounds_toArray, List.set_cons_zero, List.set_cons_succ]
            refine wpAnyH_take (i := 3) (oi := ⟨some 97, .binOp .eql 3 (.tmp 96) (.const (.int .i64 0)) 3, _, _, _, none⟩) (v := .bool false) rfl (by kernel_rfl) (by kernel_rfl) (by kernel_rfl) (fun _ _ _ h => h) (Or.inl ⟨by rfl, fun w _ => by go_simp⟩) hHeld ?_
            simp only [Act.put, List.setIfInBounds_toArray, List.set_cons_zero, List.set_cons_succ]
            refine wpAnyH_take (i := 4) (oi := ⟨some 98, .move (.tmp 97), _, _, _, none⟩) (v := .bool false) rfl (by kernel_rfl) (by kernel_rfl) (by kernel_rfl) (fun _ _ _ h => h) (Or.inl ⟨by rfl, fun _ _ => rfl⟩) hHeld ?_
            simp only [Act.put, List.setIfInBounds_toArray, List.set_cons_zero, List.set_cons_succ]
            refine wpAnyH_take (i := 5) (oi := ⟨some 99, .fieldAddr 47 (.tmp 12) 1, _, _, _, _⟩) (v := .pointer (some ⟨wr.heap.size, 1, none⟩)) rfl (by kernel_rfl) (by kernel_rfl) (by kernel_rfl) (fun _ _ _ h => h) (Or.inl ⟨by rfl, fun w _ => by go_simp⟩) hHeld ?_
            simp only [Act.put, List.setIfInBounds_toArray, List.set_cons_zero, List.set_cons_succ]
            refine wpAnyH_take (i := 6) (oi := ⟨some 100, .load 9 (.tmp 99), _, _, _, _⟩) (v := .string s) rfl (by kernel_rfl) (by kernel_rfl) (by kernel_rfl) (fun _ _ _ h => h) (Or.inl ⟨by rfl, fun w hS => by have h0 := hS.2.1; go_simp⟩) hHeld ?_
            simp only [Act.put, List.setIfInBounds_toArray, List.set_cons_zero, List.set_cons_succ]
            refine wpAnyH_take (i := 7) (oi := ⟨some 101, .index 9 (.tmp 100) (.const (.int .i64 0)), _, _, _, _⟩) (v := .int .u8 y0) rfl (by kernel_rfl) (by kernel_rfl) (by kernel_rfl) (fun _ _ _ h => h) (Or.inl ⟨by rfl, fun w _ => by have e9 := HI0.out w; go_simp⟩) hHeld ?_
            simp only [Act.put, List.setIfInBounds_toArray, List.set_cons_zero, List.set_cons_succ]
            refine wpAnyH_take (i := 8) (oi := ⟨some 102, .binOp .eql 5 (.tmp 101) (.const (.int .u8 0)) 5, _, _, _, _⟩) (v := .bool false) rfl (by kernel_rfl) (by kernel_rfl) (by kernel_rfl) (fun _ _ _ h => h) (Or.inl ⟨by rfl, fun w _ => by go_simp⟩) hHeld ?_
            simp only [Act.put, List.setIfInBounds_toArray, List.set_cons_zero, List.set_cons_succ]
            refine wpAnyH_take (i := 9) (oi := ⟨some 103, .pick (.tmp 98) (.const (.bool true)) (.tmp 102), _, _, _, none⟩) (v := .bool false) rfl (by kernel_rfl) (by kernel_rfl) (by kernel_rfl) (fun _ _ _ h => h) (Or.inl ⟨by rfl, fun w _ => by go_simp⟩) hHeld ?_
            simp only [Act.put, List.setIfInBounds_toArray, List.set_cons_zero, List.set_cons_succ]
            refine wpAnyH_take (i := 10) (oi := ⟨some 104, .move (.tmp 103), _, _, _, none⟩) (v := .bool false) rfl (by kernel_rfl) (by kernel_rfl) (by kernel_rfl) (fun _ _ _ h => h) (Or.inl ⟨by rfl, fun _ _ => rfl⟩) hHeld ?_
            simp only [Act.put, List.setIfInBounds_toArray, List.set_cons_zero, List.set_cons_succ]
            refine wpAnyH_take (i := 11) (oi := ⟨some 105, .fieldAddr 47 (.tmp 12) 1, _, _, _, _⟩) (v := .pointer (some ⟨wr.heap.size, 1, none⟩)) rfl (by kernel_rfl) (by kernel_rfl) (by kernel_rfl) (fun _ _ _ h => h) (Or.inl ⟨by rfl, fun w _ => by go_simp⟩) hHeld ?_
            simp only [Act.put, List.setIfInBounds_toArray, List.set_cons_zero, List.set_cons_succ]
            refine wpAnyH_take (i := 12) (oi := ⟨some 106, .load 9 (.tmp 105), _, _, _, _⟩) (v := .string s) rfl (by kernel_rfl) (by kernel_rfl) (by kernel_rfl) (fun _ _ _ h => h) (Or.inl ⟨by rfl, fun w hS => by have h0 := hS.2.1; go_simp⟩) hHeld ?_
            simp only [Act.put, List.setIfInBounds_toArray, List.set_cons_zero, List.set_cons_succ]
            refine wpAnyH_take (i := 13) (oi := ⟨some 107, .fieldAddr 47 (.tmp 12) 1, _, _, _, _⟩) (v := .pointer (some ⟨wr.heap.size, 1, none⟩)) rfl (by kernel_rfl) (by kernel_rfl) (by kernel_rfl) (fun _ _ _ h => h) (Or.inl ⟨by rfl, fun w _ => by go_simp⟩) hHeld ?_
            simp only [Act.put, List.setIfInBounds_toArray, List.set_cons_zero, List.set_cons_succ]
            refine wpAnyH_take (i := 14) (oi := ⟨some 108, .load 9 (.tmp 107), _, _, _, _⟩) (v := .string s) rfl (by kernel_rfl) (by kernel_rfl) (by kernel_rfl) (fun _ _ _ h => h) (Or.inl ⟨by rfl, fun w hS => by have h0 := hS.2.1; go_simp⟩) hHeld ?_
            simp only [Act.put, List.setIfInBounds_toArray, List.set_cons_zero, List.set_cons_succ]
            refine wpAnyH_take (i := 15) (oi := ⟨some 109, .call { callee := .builtin .len, args := #[.tmp 108], argTypes := #[9] }, _, _, _, _⟩) (v := .int .i64 (s.size : Int)) rfl (by kernel_rfl) (by kernel_rfl) (by kernel_rfl) (fun _ _ _ h => h) (Or.inl ⟨by rfl, fun w _ => by go_simp⟩) hHeld ?_
            simp only [Act.put, List.setIfInBounds_toArray, List.set_cons_zero, List.set_cons_succ]
            refine wpAnyH_take (i := 16) (oi := ⟨some 110, .binOp .sub 3 (.tmp 109) (.const (.int .i64 1)) 3, _, _, _, _⟩) (v := .int .i64 ((s.size : Int) - 1)) rfl (by kernel_rfl) (by kernel_rfl) (by kernel_rfl) (fun _ _ _ h => h) (Or.inl ⟨by rfl, fun w _ => by go_simp⟩) hHeld ?_
            simp only [Act.put, List.setIfInBounds_toArray, List.set_cons_zero, List.set_cons_succ]
            refine wpAnyH_take (i := 17) (oi := ⟨some 111, .index 9 (.tmp 106) (.tmp 110), _, _, _, _⟩) (v := .int .u8 y1) rfl (by kernel_rfl) (by kernel_rfl) (by kernel_rfl) (fun _ _ _ h => h) (Or.inl ⟨by rfl, fun w _ => by have e9 := HI1.out w; go_simp⟩) hHeld ?_
            simp only [Act.put, List.setIfInBounds_toArray, List.set_cons_zero, List.set_cons_succ]
            refine wpAnyH_take (i := 18) (oi := ⟨some 112, .binOp .eql 5 (.tmp 111) (.const (.int .u8 0)) 5, _, _, _, _⟩) (v := .bool false) rfl (by kernel_rfl) (by kernel_rfl) (by kernel_rfl) (fun _ _ _ h => h) (Or.inl ⟨by rfl, fun w _ => by go_simp⟩) hHeld ?_
            simp only [Act.put, List.setIfInBounds_toArray, List.set_cons_zero, List.set_cons_succ]
            refine wpAnyH_take (i := 19) (oi := ⟨some 113, .pick (.tmp 104) (.const (.bool true)) (.tmp 112), _, _, _, none⟩) (v := .bool false) rfl (by kernel_rfl) (by kernel_rfl) (by kernel_rfl) (fun _ _ _ h => h) (Or.inl ⟨by rfl, fun w _ => by go_simp⟩) hHeld ?_
            simp only [Act.put, List.setIfInBounds_toArray, List.set_cons_zero, List.set_cons_succ]
            refine wpAnyH_take (i := 20) (oi := ⟨some 114, .move (.tmp 113), _, _, _, none⟩) (v := .bool false) rfl (by kernel_rfl) (by kernel_rfl) (by kernel_rfl) (fun _ _ _ h => h) (Or.inl ⟨by rfl, fun _ _ => rfl⟩) hHeld ?_
            simp only [Act.put, List.setIfInBounds_toArray, List.set_cons_zero, List.set_cons_succ]
            refine wpAnyH_take (i := 21) (oi := ⟨some 115, .fieldAddr 47 (.tmp 12) 0, _, _, _, _⟩) (v := .pointer (some ⟨wr.heap.size, 0, none⟩)) rfl (by kernel_rfl) (by kernel_rfl) (by kernel_rfl) (fun _ _ _ h => h) (Or.inl ⟨by rfl, fun w _ => by go_simp⟩) hHeld ?_
            simp only [Act.put, List.setIfInBounds_toArray, List.set_cons_zero, List.set_cons_succ]
            refine wpAnyH_take (i := 22) (oi := ⟨some 116, .load 3 (.tmp 115), _, _, _, _⟩) (v := .int .i64 a) rfl (by kernel_rfl) (by kernel_rfl) (by kernel_rfl) (fun _ _ _ h => h) (Or.inl ⟨by rfl, fun w hS => by have h0 := hS.1; go_simp⟩) hHeld ?_
            simp only [Act.put, List.setIfInBounds_toArray, List.set_cons_zero, List.set_cons_succ]
            refine wpAnyH_take (i := 23) (oi := ⟨some 117, .binOp .quo 3 (.tmp 116) (.const (.int .i64 128)) 3, _, _, _, _⟩) (v := .int .i64 pg) rfl (by kernel_rfl) (by kernel_rfl) (by kernel_rfl) (fun _ _ _ h => h) (Or.inl ⟨by rfl, fun w _ => by go_simp⟩) hHeld ?_
            simp only [Act.put, List.setIfInBounds_toArray, List.set_cons_zero, List.set_cons_succ]
            refine wpAnyH_take (i := 24) (oi := ⟨some 118, .fieldAddr 47 (.tmp 12) 0, _, _, _, _⟩) (v := .pointer (some ⟨wr.heap.size, 0, none⟩)) rfl (by kernel_rfl) (by kernel_rfl) (by kernel_rfl) (fun _ _ _ h => h) (Or.inl ⟨by rfl, fun w _ => by go_simp⟩) hHeld ?_
            simp only [Act.put, List.setIfInBounds_toArray, List.set_cons_zero, List.set_cons_succ]
            refine wpAnyH_take (i := 25) (oi := ⟨some 119, .load 3 (.tmp 118), _, _, _, _⟩) (v := .int .i64 a) rfl (by kernel_rfl) (by kernel_rfl) (by kernel_rfl) (fun _ _ _ h => h) (Or.inl ⟨by rfl, fun w hS => by have h0 := hS.1; go_simp⟩) hHeld ?_
            simp only [Act.put, List.setIfInBounds_toArray, List.set_cons_zero, List.set_cons_succ]
            refine wpAnyH_take (i := 26) (oi := ⟨some 120, .fieldAddr 47 (.tmp 12) 1, _, _, _, _⟩) (v := .pointer (some ⟨wr.heap.size, 1, none⟩)) rfl (by kernel_rfl) (by kernel_rfl) (by kernel_rfl) (fun _ _ _ h => h) (Or.inl ⟨by rfl, fun w _ => by go_simp⟩) hHeld ?_
            simp only [Act.put, List.setIfInBounds_toArray, List.set_cons_zero, List.set_cons_succ]
            refine wpAnyH_take (i := 27) (oi := ⟨some 121, .load 9 (.tmp 120), _, _, _, _⟩) (v := .string s) rfl (by kernel_rfl) (by kernel_rfl) (by kernel_rfl) (fun _ _ _ h => h) (Or.inl ⟨by rfl, fun w hS => by have h0 := hS.2.1; go_simp⟩) hHeld ?_
            simp only [Act.put, List.setIfInBounds_toArray, List.set_cons_zero, List.set_cons_succ]
            refine wpAnyH_take (i := 28) (oi := ⟨some 122, .call { callee := .builtin .len, args := #[.tmp 121], argTypes := #[9] }, _, _, _, _⟩) (v := .int .i64 (s.size : Int)) rfl (by kernel_rfl) (by kernel_rfl) (by kernel_rfl) (fun _ _ _ h => h) (Or.inl ⟨by rfl, fun w _ => by go_simp⟩) hHeld ?_
            simp only [Act.put, List.setIfInBounds_toArray, List.set_cons_zero, List.set_cons_succ]
            refine wpAnyH_take (i := 29) (oi := ⟨some 123, .binOp .add 3 (.tmp 119) (.tmp 122) 3, _, _, _, _⟩) (v := .int .i64 (a + (s.size : Int))) rfl (by kernel_rfl) (by kernel_rfl) (by kernel_rfl) (fun _ _ _ h => h) (Or.inl ⟨by rfl, fun w _ => by go_simp⟩) hHeld ?_
            simp only [Act.put, List.setIfInBounds_toArray, List.set_cons_zero, List.set_cons_succ]
            refine wpAnyH_take (i := 30) (oi := ⟨some 124, .binOp .sub 3 (.tmp 123) (.const (.int .i64 1)) 3, _, _, _, _⟩) (v := .int .i64 (a + (s.size : Int) - 1)) rfl (by kernel_rfl) (by kernel_rfl) (by kernel_rfl) (fun _ _ _ h => h) (Or.inl ⟨by rfl, fun w _ => by go_simp⟩) hHeld ?_
            simp only [Act.put, List.setIfInBounds_toArray, List.set_cons_zero, List.set_cons_succ]
            refine wpAnyH_take (i := 31) (oi := ⟨some 125, .binOp .quo 3 (.tmp 124) (.const (.int .i64 128)) 3, _, _, _, _⟩) (v := .int .i64 pg) rfl (by kernel_rfl) (by kernel_rfl) (by kernel_rfl) (fun _ _ _ h => h) (Or.inl ⟨by rfl, fun w _ => by go_simp⟩) hHeld ?_
            simp only [Act.put, List.setIfInBounds_toArray, List.set_cons_zero, List.set_cons_succ]
            refine wpAnyH_take (i := 32) (oi := ⟨some 126, .binOp .neq 3 (.tmp 117) (.tmp 125) 3, _, _, _, _⟩) (v := .bool false) rfl (by kernel_rfl) (by kernel_rfl) (by kernel_rfl) (fun _ _ _ h => h) (Or.inl ⟨by rfl, fun w _ => by go_simp⟩) hHeld ?_
            simp only [Act.put, List.setIfInBounds_toArray, List.set_cons_zero, List.set_cons_succ]
            refine wpAnyH_take (i := 33) (oi := ⟨some 127, .pick (.tmp 114) (.const (.bool true)) (.tmp 126), _, _, _, none⟩) (v := .bool false) rfl (by kernel_rfl) (by kernel_rfl) (by kernel_rfl) (fun _ _ _ h => h) (Or.inl ⟨by rfl, fun w _ => by go_simp⟩) hHeld ?_
            simp only [Act.put, List.setIfInBounds_toArray, List.set_cons_zero, List.set_cons_succ]
            refine wpAnyH_take (i := 34) (oi := ⟨some 128, .move (.tmp 127), _, _, _, none⟩) (v := .bool false) rfl (by kernel_rfl) (by kernel_rfl) (by kernel_rfl) (fun _ _ _ h => h) (Or.inl ⟨by rfl, fun _ _ => rfl⟩) hHeld ?_
            simp only [Act.put, List.setIfInBounds_toArray, List.set_cons_zero, List.set_cons_succ]
            refine wpAnyH_take (i := 35) (oi := ⟨some 129, .move (.tmp 11), _, _, _, _⟩) (v := .int .i64 ((i + 1 : Nat) : Int)) rfl (by kernel_rfl) (by kernel_rfl) (by kernel_rfl) (fun _ _ _ h => h) (Or.inl ⟨by rfl, fun _ _ => rfl⟩) hHeld ?_
            simp only [Act.put, List.setIfInBounds_toArray, List.set_cons_zero, List.set_cons_succ]
            refine wpAnyH_take (i := 36) (oi := ⟨some 130, .binOp .gtr 3 (.tmp 129) (.const (.int .i64 0)) 3, _, _, _, _⟩) (v := .bool true) rfl (by kernel_rfl) (by kernel_rfl) (by kernel_rfl) (fun _ _ _ h => h) (Or.inl ⟨by rfl, fun w _ => by go_simp⟩) hHeld ?_
            simp only [Act.put, List.setIfInBounds_toArray, List.set_cons_zero, List.set_cons_succ]
            refine wpAnyH_take (i := 37) (oi := ⟨some 131, .move (.tmp 130), _, _, _, _⟩) (v := .bool true) rfl (by kernel_rfl) (by kernel_rfl) (by kernel_rfl) (fun _ _ _ h => h) (Or.inl ⟨by rfl, fun _ _ => rfl⟩) hHeld ?_
            simp only [Act.put, List.setIfInBounds_toArray, List.set_cons_zero, List.set_cons_succ]
            refine wpAnyH_take (i := 38) (oi := ⟨some 132, .fieldAddr 47 (.tmp 12) 0, _, _, _, _⟩) (v := .pointer (some ⟨wr.heap.size, 0, none⟩)) rfl (by kernel_rfl) (by kernel_rfl) (by kernel_rfl) (fun _ _ _ h => h) (Or.inl ⟨by rfl, fun w _ => by go_simp⟩) hHeld ?_
            simp only [Act.put, List.setIfInBounds_toArray, List.set_cons_zero, List.set_cons_succ]
            refine wpAnyH_take (i := 39) (oi := ⟨some 133, .load 3 (.tmp 132), _, _, _, _⟩) (v := .int .i64 a) rfl (by kernel_rfl) (by kernel_rfl) (by kernel_rfl) (fun _ _ _ h => h) (Or.inl ⟨by rfl, fun w hS => by have h0 := hS.1; go_simp⟩) hHeld ?_
            simp only [Act.put, List.setIfInBounds_toArray, List.set_cons_zero, List.set_cons_succ]
            refine wpAnyH_take (i := 40) (oi := ⟨some 134, .binOp .quo 3 (.tmp 133) (.const (.int .i64 128)) 3, _, _, _, _⟩) (v := .int .i64 pg) rfl (by kernel_rfl) (by kernel_rfl) (by kernel_rfl) (fun _ _ _ h => h) (Or.inl ⟨by rfl, fun w _ => by go_simp⟩) hHeld ?_
            simp only [Act.put, List.setIfInBounds_toArray, List.set_cons_zero, List.set_cons_succ]
            refine wpAnyH_take (i := 41) (oi := ⟨some 135, .fieldAddr 29 (.tmp 5) 2, _, _, _, _⟩) (v := .pointer (some ⟨T5, 2, none⟩)) rfl (by kernel_rfl) (by kernel_rfl) (by kernel_rfl) (fun _ _ _ h => h) (Or.inl ⟨by rfl, fun w _ => by go_simp⟩) hHeld ?_
            simp only [Act.put, List.setIfInBounds_toArray, List.set_cons_zero, List.set_cons_succ]
            refine wpAnyH_take (i := 42) (oi := ⟨some 136, .load 27 (.tmp 135), _, _, _, _⟩) (v := .slice (some ad) n1 c1') rfl (by kernel_rfl) (by kernel_rfl) (by kernel_rfl) (fun _ _ _ h => h) (Or.inl ⟨by rfl, fun w hS => by have h0 := hS.2.2.1; go_simp⟩) hHeld ?_
            simp only [Act.put, List.setIfInBounds_toArray, List.set_cons_zero, List.set_cons_succ]
            refine wpAnyH_take (i := 43) (oi := ⟨some 137, .move (.tmp 11), _, _, _, _⟩) (v := .int .i64 ((i + 1 : Nat) : Int)) rfl (by kernel_rfl) (by kernel_rfl) (by kernel_rfl) (fun _ _ _ h => h) (Or.inl ⟨by rfl, fun _ _ => rfl⟩) hHeld ?_
            simp only [Act.put, List.setIfInBounds_toArray, List.set_cons_zero, List.set_cons_succ]
            refine wpAnyH_take (i := 44) (oi := ⟨some 138, .binOp .sub 3 (.tmp 137) (.const (.int .i64 1)) 3, _, _, _, _⟩) (v := .int .i64 (i : Int)) rfl (by kernel_rfl) (by kernel_rfl) (by kernel_rfl) (fun _ _ _ h => h) (Or.inl ⟨by rfl, fun w _ => by go_simp⟩) hHeld ?_
            simp only [Act.put, List.setIfInBounds_toArray, List.set_cons_zero, List.set_cons_succ]
            refine wpAnyH_take (i := 45) (oi := ⟨some 139, .indexAddr 27 (.tmp 136) (.tmp 138), _, _, _, _⟩) (v := .pointer (some (ad.add (i * 2)))) rfl (by kernel_rfl) (by kernel_rfl) (by kernel_rfl) (fun _ _ _ h => h) (Or.inl ⟨by rfl, fun w _ => by go_simp⟩) hHeld ?_
            simp only [Act.put, List.setIfInBounds_toArray, List.set_cons_zero, List.set_cons_succ]
            refine wpAnyH_take (i := 46) (oi := ⟨some 140, .fieldAddr 47 (.tmp 139) 0, _, _, _, _⟩) (v := .pointer (some (ad.add (i * 2)))) rfl (by kernel_rfl) (by kernel_rfl) (by kernel_rfl) (fun _ _ _ h => h) (Or.inl ⟨by rfl, fun w _ => by go_simp⟩) hHeld ?_
            simp only [Act.put, List.setIfInBounds_toArray, List.set_cons_zero, List.set_cons_succ]
            refine wpAnyH_take (i := 47) (oi := ⟨some 141, .load 3 (.tmp 140), _, _, _, _⟩) (v := .int .i64 a0) rfl (by kernel_rfl) (by kernel_rfl) (by kernel_rfl) (fun _ _ _ h => h) (Or.inl ⟨by rfl, fun w hS => by have h0 := hS.2.2.2; go_simp⟩) hHeld ?_
            simp only [Act.put, List.setIfInBounds_toArray, List.set_cons_zero, List.set_cons_succ]
            refine wpAnyH_take (i := 48) (oi := ⟨some 142, .binOp .quo 3 (.tmp 141) (.const (.int .i64 128)) 3, _, _, _, _⟩) (v := .int .i64 pg0) rfl (by kernel_rfl) (by kernel_rfl) (by kernel_rfl) (fun _ _ _ h => h) (Or.inl ⟨by rfl, fun w _ => by go_simp⟩) hHeld ?_
            simp only [Act.put, List.setIfInBounds_toArray, List.set_cons_zero, List.set_cons_succ]
            refine wpAnyH_take (i := 49) (oi := ⟨some 143, .binOp .eql 3 (.tmp 134) (.tmp 142) 3, _, _, _, _⟩) (v := .bool false) rfl (by kernel_rfl) (by kernel_rfl) (by kernel_rfl) (fun _ _ _ h => h) (Or.inl ⟨by rfl, fun w _ => by go_simp⟩) hHeld ?_
            simp only [Act.put, List.setIfInBounds_toArray, List.set_cons_zero, List.set_cons_succ]
            refine wpAnyH_take (i := 50) (oi := ⟨some 144, .pick (.tmp 131) (.tmp 143) (.const (.bool false)), _, _, _, _⟩) (v := .bool false) rfl (by kernel_rfl) (by kernel_rfl) (by kernel_rfl) (fun _ _ _ h => h) (Or.inl ⟨by rfl, fun w _ => by go_simp⟩) hHeld ?_
            simp only [Act.put, List.setIfInBounds_toArray, List.set_cons_zero, List.set_cons_succ]
            refine wpAnyH_take (i := 51) (oi := ⟨some 145, .pick (.tmp 128) (.const (.bool true)) (.tmp 144), _, _, _, none⟩) (v := .bool false) rfl (by kernel_rfl) (by kernel_rfl) (by kernel_rfl) (fun _ _ _ h => h) (Or.inl ⟨by rfl, fun w _ => by go_simp⟩) hHeld ?_
            simp only [Act.put, List.setIfInBounds_toArray, List.set_cons_zero, List.set_cons_succ]
            refine wpAnyH_done (by kernel_rfl) ?_ _
            clear hHeld
            go_wp2
            go_roundw
            case rel => exact ⟨i + 1 + 1, by omega, by go_num, b1.keep hls.drew, b5.keep hls.drew, s1.keep hls.drew, Later.trans_ lw hls.drew⟩
            case measure => simp [intOf]; omega
        · obtain rfl : j = n1 := by omega
          have nlt : ¬ ((j : Int) < (j : Int)) := by omega
          have hd5 := Lib.hid b5
          have d2 := b5.cell (j := 2) (v := .slice A1 j c1') rfl
          go_wp2_with (first
    | (go_at_call 8; refine (HS.out _ lw).mono ?_; rintro e w19 ⟨rfl, l19⟩; replace lw := Later.trans_ lw l19; replace b5 := b5.keep l19; replace b1 := b1.keep l19; have d0 := b5.cell (j := 0) (v := .int .i64 en) rfl; have d1 := b5.cell (j := 1) (v := .int .i64 (P : Int)) rfl; have d2 := b5.cell (j := 2) (v := .slice A1 j c1') rfl; have d3 := b5.cell (j := 3) (v := .slice B1 m cd1) rfl; have c0 := b1.cell (j := 0) (v := .int .i64 en) rfl; have c1 := b1.cell (j := 1) (v := .int .i64 (P : Int)) rfl; have c2 := b1.cell (j := 2) (v := .slice A n c) rfl; have c3 := b1.cell (j := 3) (v := .slice B m cd) rfl))
          go_ret
          exact ⟨rfl, lw⟩

    · obtain ⟨r, hr2⟩ : ∃ r, r = Im.chk en p L m := ⟨_, rfl⟩
      rw [← hr2] at HC hr
      have hr1 : (r == 0) = false := neq_false' hr
      clear hs hL hn hm hp tab hr2 hd hen
      go_enter Tryd.func4, Tryd.ntmps4
      go_wp2_with (first
    | (go_at_call 14; refine (HF.out _ l0).mono ?_; rintro e w1 ⟨rfl, l1⟩; have b1 := b0.keep l1; have lw := Later.trans_ l0 l1; have c0 := b1.cell (j := 0) (v := .int .i64 en) rfl; have c1 := b1.cell (j := 1) (v := .int .i64 p) rfl; have c2 := b1.cell (j := 2) (v := .slice A n c) rfl; have c3 := b1.cell (j := 3) (v := .slice B m cd) rfl)
    | (go_at_call 15; refine (HC.out _ lw).mono ?_; rintro e w2 ⟨rfl, l2⟩; clear c0 c1 c2 c3; replace b1 := b1.keep l2; replace lw := Later.trans_ lw l2; have c0 := b1.cell (j := 0) (v := .int .i64 en) rfl; have c1 := b1.cell (j := 1) (v := .int .i64 p) rfl; have c2 := b1.cell (j := 2) (v := .slice A n c) rfl; have c3 := b1.cell (j := 3) (v := .slice B m cd) rfl)
    | (go_at_call 8; refine (HS.out _ lw).mono ?_; rintro e w19 ⟨rfl, l19⟩; replace lw := Later.trans_ lw l19))
      go_ret
      exact ⟨rfl, lw⟩
end Go.Proofs.YtjfphjgmphlbhaaDoor
