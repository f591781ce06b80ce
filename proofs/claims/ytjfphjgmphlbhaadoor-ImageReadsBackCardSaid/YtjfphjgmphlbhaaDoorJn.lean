/-
  THE WALK OF Decode.
-/
import Derived.Test.YtjfphjgmphlbhaaDoorJm
import Derived.Test.YtjfphjgmphlbhaaDoorProg
import Derived.Shelf.Strings.Trim
import Derived.Shelf.Small.Utf8
import Derived.Shelf.Small.Strs
import Derived.Shelf.Strings.Search1
import Derived.Shelf.Unicode.Decode
import Derived.Shelf.Strings.Runes
import Derived.Shelf.Strings.AsciiSet
import Derived.Shelf.Unicode.DecodeSlow
import Derived.Shelf.Unicode.DecodeAny
import Derived.Shelf.Unicode.DecodeLast
import Derived.RangeFuncNested
import Derived.RangeFuncBound
import Derived.RangeFuncCalls
import Derived.RangeFuncLeaves
import Derived.RangeFuncBox
import Derived.OwnWalkIn
import Derived.TacticsInMore
import Derived.LoopNIn
import Derived.LoopIn
namespace Go.Proofs.YtjfphjgmphlbhaaDoor
open Go.RowKit Go.ChangeShapes Go.WideShapes Go.ChangeAt

set_option maxRecDepth 100000 in
def zD : Dat := ⟨0, 0, [], [], 0⟩
set_option maxRecDepth 100000 in
theorem zImg_img (w : World) : Img w zImg zD := ⟨none, 0, 0, none, 0, rfl, Sl.nil _ _ _, Sl.nil _ _ _, fun x hx => (by cases hx), by decide, by decide, by decide, by decide, by decide, by decide⟩
set_option maxRecDepth 100000 in
/-- The image whose encoding has these numbers and texts. -/
def compD (ns : List Int) (ts : List Wm.Bs) : Option Dat :=
  match ns with
  | en :: p :: s :: pl => if 0 ≤ s ∧ (ts.length : Int) - pl.length = s ∧ ∀ t ∈ ts.drop pl.length, t.length = 128 then some ⟨en, p, Im.zS pl ts pl.length, Im.dK ts pl.length s.toNat, s.toNat⟩ else none
  | _ => none
set_option maxRecDepth 100000 in
/-- The image whose encoding some bytes are, or the error. -/
def dcd (b : Wm.Bs) : Dat × Int :=
  if (Wm.decL Wm.decI 1 b).2.2 ≠ 0 then (zD, (Wm.decL Wm.decI 1 b).2.2)
  else if (Wm.decL Wm.decB 1 (b.drop (Wm.decL Wm.decI 1 b).2.1)).2.2 ≠ 0 then (zD, (Wm.decL Wm.decB 1 (b.drop (Wm.decL Wm.decI 1 b).2.1)).2.2)
  else match compD (Wm.decL Wm.decI 1 b).1 (Wm.decL Wm.decB 1 (b.drop (Wm.decL Wm.decI 1 b).2.1)).1 with
    | none => (zD, 11)
    | some x => if (Wm.decL Wm.decI 1 b).2.1 + (Wm.decL Wm.decB 1 (b.drop (Wm.decL Wm.decI 1 b).2.1)).2.1 ≠ b.length then (zD, 11) else if x.chk ≠ 0 then (zD, x.chk) else (x, 0)
set_option maxRecDepth 100000 in
theorem blk_mem {w : World} {B : Nat} {t : TypeId} {cs : List Value} (h : Blk w B t cs) {ad : Addr} {v : Value} (hc : w.cell? ad = some v) (hb : ad.block = B) : v ∈ cs := by
  unfold World.cell? at hc
  rw [hb, show w.heap[B]? = _ from h] at hc
  simp at hc
  exact List.mem_of_getElem? hc.2
set_option maxRecDepth 100000 in
theorem seg_far {w : World} {A : Option Addr} {n B : Nat} {t : TypeId} {L : List Im.Seg} (h : Sl w 2 A n (Gs L)) (hb : Blk w B t [.int .i64 0, .int .i64 0, .slice none 0 0, .slice none 0 0]) (hn : 0 < n) {ad : Addr} (e : A = some ad) : ad.block ≠ B := by
  subst e
  intro hB
  have hl := h.seglen
  have hc := h.seg (k := 0) (by omega) 1 _ rfl
  have := blk_mem hb hc (by rw [addr_add_block, addr_add_block]; exact hB)
  simp at this
set_option maxRecDepth 100000 in
theorem u8_far {w : World} {A : Option Addr} {n B : Nat} {t : TypeId} {d : Wm.Bs} (h : Sl w 128 A n (U d)) (hb : Blk w B t [.int .i64 0, .int .i64 0, .slice none 0 0, .slice none 0 0]) (hn : 0 < n) {ad : Addr} (e : A = some ad) : ad.block ≠ B := by
  subst e
  intro hB
  have hl := h.1
  rw [U_length] at hl
  obtain ⟨_, e, _, hc⟩ := h.2 hn
  cases e
  have h0 : 0 < d.length := by omega
  have := blk_mem hb (hc 0 _ (U_get d 0 h0)) (by rw [addr_add_block]; exact hB)
  simp at this
set_option maxRecDepth 100000 in
theorem comp_all (A B : Option Addr) (nA cA nB cB : Nat) (ns : List Int) (ts : List Wm.Bs) (w : World) (hN : Sl w 1 A nA (N64 ns)) (hT : Sl w 1 B nB (T64 ts)) (hnc : nA ≤ cA) (hcA : cA ≤ maxLen) (hnB : nB ≤ cB) (hcB : cB ≤ maxLen) (hA6 : nA ≤ 1000000) (hB6 : nB ≤ 1000000)
    (hns : ∀ x ∈ ns, -9223372036854775808 ≤ x ∧ x ≤ 9223372036854775807) (hts : ∀ t ∈ ts, Wm.isBs t ∧ t.length ≤ 9223372036854775807) (y : Option Dat) (hy : y = compD ns ts) :
    Calls Tryd.prog 36 #[.slice A nA cA, .slice B nB cB] w fun e w' => ∃ v, e = .returned (.tuple #[v, .bool y.isSome]) ∧ Img w' v (y.getD zD) ∧ Later w w' := by
  subst hy
  have hlN : nA = ns.length := by have := hN.1; simp [N64] at this; omega
  have hlT : nB = ts.length := by have := hT.1; simp [T64] at this; omega
  by_cases h3 : nA < 3
  · have hc : compD ns ts = none := by
      unfold compD
      match ns, hlN with
      | [], _ => rfl
      | [_], _ => rfl
      | [_, _], _ => rfl
      | _ :: _ :: _ :: _, h => simp at h; omega
    rw [hc]
    exact (comp_short A B nA cA nB cB w h3).mono fun e w' ⟨h1, h2⟩ => ⟨zImg, h1, zImg_img _, h2⟩
  · match ns, hlN, hN, hns with
    | en :: p :: s :: pl, hlN, hN, hns =>
      obtain ⟨adN, rfl⟩ := hN.addr (by omega)
      have hen := hns en (by simp)
      have hp := hns p (by simp)
      have hpl : ∀ x ∈ pl, -9223372036854775808 ≤ x ∧ x ≤ 9223372036854775807 := fun x hx => hns x (by simp [hx])
      by_cases hs : 0 ≤ s ∧ (ts.length : Int) - pl.length = s
      · obtain ⟨hs0, hs1⟩ := hs
        refine (comp_any adN B nA cA nB cB en p s pl ts w hN hT hnc hcA hnB hcB hA6 hB6 hs0 (by rw [hlT]; exact hs1) _ rfl (fun t ht => (hts t ht).1) (fun t ht => (hts t ht).2) hpl hen hp).mono fun e w' ⟨h1, h2⟩ => ?_
        rcases h1 with ⟨hb, v, h3, h4⟩ | ⟨hb, h3⟩
        · have hall := of_decide_eq_true hb
          have hc : compD (en :: p :: s :: pl) ts = some ⟨en, p, Im.zS pl ts pl.length, Im.dK ts pl.length s.toNat, s.toNat⟩ := by
            exact if_pos ⟨hs0, hs1, hall⟩
          rw [hc]
          exact ⟨v, h3, h4, h2⟩
        · have hall := of_decide_eq_false hb
          have hc : compD (en :: p :: s :: pl) ts = none := by
            exact if_neg (fun h => hall h.2.2)
          rw [hc]
          exact ⟨zImg, h3, zImg_img _, h2⟩
      · have hc : compD (en :: p :: s :: pl) ts = none := by
          exact if_neg (fun h => hs ⟨h.1, h.2.1⟩)
        rw [hc]
        refine (comp_no adN B nA cA nB cB en p s pl w hN hnc hA6 hB6 ?_).mono fun e w' ⟨h1, h2⟩ => ⟨zImg, h1, zImg_img _, h2⟩
        rw [hlT]
        omega
    | [], h, _, _ => simp at h; omega
    | [_], h, _, _ => simp at h; omega
    | [_, _], h, _, _ => simp at h; omega
set_option maxRecDepth 100000 in
theorem checkI (w : World) (v : Value) (x : Dat) (h : Img w v x) : Calls Tryd.prog 17 #[v] w fun e w' => e = .returned (.int .i64 x.chk) ∧ Later w w' := by
  obtain ⟨A, n, c, B, cd, rfl, h1, h2, h3, h4, h5, h6, h7, _⟩ := h
  exact check_any x.en x.p A n c x.L B x.m cd w h1 h3 (by unfold maxLen; omega) (by unfold maxLen; omega) h7
set_option maxRecDepth 100000 in
set_option maxHeartbeats 4000000 in
theorem decode_any (A : Option Addr) (n c : Nat) (b : Wm.Bs) (w : World) (hs : Sl w 1 A n (U b)) (hb : Wm.isBs b) (hnc : n ≤ c) (hc : c ≤ maxLen) (hsm : n ≤ 1000000) :
    Calls Tryd.prog 10 #[.slice A n c] w fun e w' => ∃ v, e = .returned (.tuple #[v, .int .i64 (dcd b).2]) ∧ Img w' v (dcd b).1 ∧ Later w w' := by
  have hbl := hs.blen
  obtain ⟨ns, u, e1, hr1⟩ : ∃ l u e, Wm.decL Wm.decI 1 b = (l, u, e) := ⟨_, _, _, rfl⟩
  obtain ⟨ts, u2, e2, hr2⟩ : ∃ l u' e, Wm.decL Wm.decB 1 (b.drop u) = (l, u', e) := ⟨_, _, _, rfl⟩
  obtain ⟨i1, i2, i3, _⟩ := Wm.ints_dec hb hr1
  obtain ⟨j1, j2, j3, _⟩ := Wm.strs_dec (isBs_drop hb u) hr2
  rw [List.length_drop] at j1 j2
  unfold dcd
  rw [hr1]
  simp only []
  rw [hr2]
  simp only []
  have HR1 := Lib.hid fun w' (hl : Later w w') => readI_any A n c b w' (hs.keep hl) hb hnc hc hsm
  rw [hr1] at HR1
  unfold RdInts at HR1
  have HR2 := Lib.hid fun (A2 : Option Addr) (n2 c2 : Nat) (w' : World) (h1 : n2 ≤ c2) (h2 : c2 ≤ maxLen) (h3 : Sl w' 1 A2 n2 (U (b.drop u))) => readS_any A2 n2 c2 (b.drop u) w' h3 (isBs_drop hb u) h1 h2 (by have := h3.blen; rw [List.length_drop] at this; omega)
  rw [hr2] at HR2
  unfold RdStrs at HR2
  have hln : ns.length ≤ 1000000 := by omega
  have hlt : ts.length ≤ 1000000 := by omega
  obtain ⟨y, hy⟩ : ∃ y, y = compD ns ts := ⟨_, rfl⟩
  have HC := Lib.hid fun (A1 : Option Addr) (n1 c1 : Nat) (A3 : Option Addr) (n3 c3 : Nat) (w' : World) (h1 : n1 ≤ c1) (h2 : c1 ≤ maxLen) (h3 : Sl w' 1 A1 n1 (N64 ns)) (h4 : n3 ≤ c3) (h5 : c3 ≤ maxLen) (h6 : Sl w' 1 A3 n3 (T64 ts)) =>
    comp_all A1 A3 n1 c1 n3 c3 ns ts w' h3 h6 h1 h2 h4 h5 (by have := h3.1; simp [N64] at this; omega) (by have := h6.1; simp [T64] at this; omega) i3 (fun t ht => ⟨(j3 t ht).1, by have := (j3 t ht).2; rw [List.length_drop] at this; omega⟩) y hy
  rw [← hy]
  have HK := Lib.hid fun w' v x (h : Img w' v x) => checkI w' v x h
  have l0 := later1 w (.cells #[.int .i64 0, .int .i64 0, .slice none 0 0, .slice none 0 0] 29)
  have bR := Blk.new w 29 #[.int .i64 0, .int .i64 0, .slice none 0 0, .slice none 0 0] [.int .i64 0, .int .i64 0, .slice none 0 0, .slice none 0 0] rfl
  have HL := Lib.hid (show ∀ (w' : World) (A4 : Option Addr) (n4 : Nat), Sl w' 1 A4 n4 (U ((b.drop u).drop u2)) → (n4 = b.length - (u + u2)) ∧ u + u2 ≤ b.length from fun w' A4 n4 h => by
    have := h.blen
    rw [List.length_drop, List.length_drop] at this
    omega)
  clear hs hb hnc hc hsm hbl i1 i2 i3 j1 j2 j3 hr1 hr2 hln hlt hy
  by_cases he1 : e1 = 0
  rotate_left
  · rw [if_pos he1]
    have f1 : (e1 != 0) = true := by simpa using he1
    clear HR2 HC HK HL he1
    go_enter Tryd.func10, Tryd.ntmps10
    go_wp2_with (first
      | (go_at_call 32; refine (HR1.out _ l0).mono ?_; rintro e w1 ⟨A1, n1, c1, A2, n2, c2, rfl, p1, p2, p3, p4, p5, p6, l1⟩; replace bR := bR.keep l1; replace l0 := Later.trans_ l0 l1)
      | ((with_reducible refine wpList_store_abs (o := ⟨none, .store 29 (.tmp 2) (.tmp 19), _, _, _, none⟩) rfl _ _ _ rfl w.heap.size 29 [.int .i64 0, .int .i64 0, .slice none 0 0, .slice none 0 0] [.int .i64 0, .int .i64 0, .slice none 0 0, .slice none 0 0] ?_ ?_ bR (img_sz _ _ _ _) rfl (img_one _ _ _ _ _ _ _ _) ?_); rfl; rfl; intro wz bz oz))
    exact bodyPost_ret (v := .tuple #[zImg, .int .i64 e1]) (results_cell_tmp Tryd.results10 _ _ w.heap.size 29 [.int .i64 0, .int .i64 0, .slice none 0 0, .slice none 0 0] _ _ rfl rfl bz Tryd.underlying29 rfl (img_sz _ _ _ _)) rfl ⟨_, rfl, zImg_img _, Below.only l0 oz (Nat.le_refl _)⟩
  rw [if_neg (by simpa using he1)]
  subst he1
  by_cases he2 : e2 = 0
  rotate_left
  · rw [if_pos he2]
    have f1 : (e2 != 0) = true := by simpa using he2
    clear HC HK HL he2
    go_enter Tryd.func10, Tryd.ntmps10
    go_wp2_with (first
      | (go_at_call 34; refine (HR2.out A2 n2 c2 _ p4 p5 p6).mono ?_; rintro e w2 ⟨A3, n3, c3, A4, n4, c4, rfl, q1, q2, q3, q4, q5, q6, l2⟩; replace bR := bR.keep l2; replace p3 := p3.keep l2; replace l0 := Later.trans_ l0 l2)
      | (go_at_call 32; refine (HR1.out _ l0).mono ?_; rintro e w1 ⟨A1, n1, c1, A2, n2, c2, rfl, p1, p2, p3, p4, p5, p6, l1⟩; replace bR := bR.keep l1; replace l0 := Later.trans_ l0 l1)
      | ((with_reducible refine wpList_store_abs (o := ⟨none, .store 29 (.tmp 2) (.tmp 29), _, _, _, none⟩) rfl _ _ _ rfl w.heap.size 29 [.int .i64 0, .int .i64 0, .slice none 0 0, .slice none 0 0] [.int .i64 0, .int .i64 0, .slice none 0 0, .slice none 0 0] ?_ ?_ bR (img_sz _ _ _ _) rfl (img_one _ _ _ _ _ _ _ _) ?_); rfl; rfl; intro wz bz oz))
    exact bodyPost_ret (v := .tuple #[zImg, .int .i64 e2]) (results_cell_tmp Tryd.results10 _ _ w.heap.size 29 [.int .i64 0, .int .i64 0, .slice none 0 0, .slice none 0 0] _ _ rfl rfl bz Tryd.underlying29 rfl (img_sz _ _ _ _)) rfl ⟨_, rfl, zImg_img _, Below.only l0 oz (Nat.le_refl _)⟩
  rw [if_neg (by simpa using he2)]
  subst he2
  cases y with
  | none =>
    have hx : (none : Option Dat).getD zD = zD := rfl
    simp only []
    obtain ⟨x, hx'⟩ : ∃ x, x = zD := ⟨_, rfl⟩
    rw [hx, ← hx'] at HC
    clear HL hx hx' HK
    go_enter Tryd.func10, Tryd.ntmps10
    go_wp2_with (first
      | (go_at_call 36; refine (HC.out A1 n1 c1 A3 n3 c3 _ p1 p2 p3 q1 q2 q3).mono ?_; rintro e w3 ⟨v, rfl, ⟨Ai, ni, ci, Bi, di, rfl, i1, i2, i3⟩, l3⟩; replace bR := bR.keep l3; replace q6 := q6.keep l3; replace l0 := Later.trans_ l0 l3; replace bR := bR.alloc (.cells #[.int .i64 x.en, .int .i64 x.p, .slice Ai ni ci, .slice Bi x.m di] 29); replace l0 := l0.alloc l0.size (.cells #[.int .i64 x.en, .int .i64 x.p, .slice Ai ni ci, .slice Bi x.m di] 29); have b8 := Blk.new w3 29 #[.int .i64 x.en, .int .i64 x.p, .slice Ai ni ci, .slice Bi x.m di] [.int .i64 x.en, .int .i64 x.p, .slice Ai ni ci, .slice Bi x.m di] rfl; replace i1 := i1.alloc (.cells #[.int .i64 x.en, .int .i64 x.p, .slice Ai ni ci, .slice Bi x.m di] 29); replace i2 := i2.alloc (.cells #[.int .i64 x.en, .int .i64 x.p, .slice Ai ni ci, .slice Bi x.m di] 29))
      | (go_at_call 34; refine (HR2.out A2 n2 c2 _ p4 p5 p6).mono ?_; rintro e w2 ⟨A3, n3, c3, A4, n4, c4, rfl, q1, q2, q3, q4, q5, q6, l2⟩; replace bR := bR.keep l2; replace p3 := p3.keep l2; replace l0 := Later.trans_ l0 l2)
      | (go_at_call 32; refine (HR1.out _ l0).mono ?_; rintro e w1 ⟨A1, n1, c1, A2, n2, c2, rfl, p1, p2, p3, p4, p5, p6, l1⟩; replace bR := bR.keep l1; replace l0 := Later.trans_ l0 l1)
      | ((with_reducible refine wpList_store_abs (o := ⟨none, .store 29 (.tmp 2) (.tmp 44), _, _, _, none⟩) rfl _ _ _ rfl w.heap.size 29 [.int .i64 0, .int .i64 0, .slice none 0 0, .slice none 0 0] [.int .i64 0, .int .i64 0, .slice none 0 0, .slice none 0 0] ?_ ?_ bR (img_sz _ _ _ _) rfl (img_one _ _ _ _ _ _ _ _) ?_); rfl; rfl; intro wz bz oz))
    exact bodyPost_ret (v := .tuple #[zImg, .int .i64 11]) (results_cell_tmp Tryd.results10 _ _ w.heap.size 29 [.int .i64 0, .int .i64 0, .slice none 0 0, .slice none 0 0] _ _ rfl rfl bz Tryd.underlying29 rfl (img_sz _ _ _ _)) rfl ⟨_, rfl, zImg_img _, Below.only l0 oz (Nat.le_refl _)⟩
  | some x =>
    simp only []
    have hx : (some x : Option Dat).getD zD = x := rfl
    rw [hx] at HC
    by_cases hu : u + u2 = b.length
    rotate_left
    · rw [if_pos hu]
      clear HK hx
      go_enter Tryd.func10, Tryd.ntmps10
      go_wp2_with (first
        | (go_at_call 36; refine (HC.out A1 n1 c1 A3 n3 c3 _ p1 p2 p3 q1 q2 q3).mono ?_; rintro e w3 ⟨v, rfl, ⟨Ai, ni, ci, Bi, di, rfl, i1, i2, i3⟩, l3⟩; replace bR := bR.keep l3; replace q6 := q6.keep l3; replace l0 := Later.trans_ l0 l3; obtain ⟨g1, g2⟩ := HL.out _ _ _ q6; have g3 : 0 < (n4 : Int) := (by omega); replace bR := bR.alloc (.cells #[.int .i64 x.en, .int .i64 x.p, .slice Ai ni ci, .slice Bi x.m di] 29); replace l0 := l0.alloc l0.size (.cells #[.int .i64 x.en, .int .i64 x.p, .slice Ai ni ci, .slice Bi x.m di] 29); have b8 := Blk.new w3 29 #[.int .i64 x.en, .int .i64 x.p, .slice Ai ni ci, .slice Bi x.m di] [.int .i64 x.en, .int .i64 x.p, .slice Ai ni ci, .slice Bi x.m di] rfl; replace i1 := i1.alloc (.cells #[.int .i64 x.en, .int .i64 x.p, .slice Ai ni ci, .slice Bi x.m di] 29); replace i2 := i2.alloc (.cells #[.int .i64 x.en, .int .i64 x.p, .slice Ai ni ci, .slice Bi x.m di] 29))
        | (go_at_call 34; refine (HR2.out A2 n2 c2 _ p4 p5 p6).mono ?_; rintro e w2 ⟨A3, n3, c3, A4, n4, c4, rfl, q1, q2, q3, q4, q5, q6, l2⟩; replace bR := bR.keep l2; replace p3 := p3.keep l2; replace l0 := Later.trans_ l0 l2)
        | (go_at_call 32; refine (HR1.out _ l0).mono ?_; rintro e w1 ⟨A1, n1, c1, A2, n2, c2, rfl, p1, p2, p3, p4, p5, p6, l1⟩; replace bR := bR.keep l1; replace l0 := Later.trans_ l0 l1)
        | ((with_reducible refine wpList_store_abs (o := ⟨none, .store 29 (.tmp 2) (.tmp 44), _, _, _, none⟩) rfl _ _ _ rfl w.heap.size 29 [.int .i64 0, .int .i64 0, .slice none 0 0, .slice none 0 0] [.int .i64 0, .int .i64 0, .slice none 0 0, .slice none 0 0] ?_ ?_ bR (img_sz _ _ _ _) rfl (img_one _ _ _ _ _ _ _ _) ?_); rfl; rfl; intro wz bz oz))
      exact bodyPost_ret (v := .tuple #[zImg, .int .i64 11]) (results_cell_tmp Tryd.results10 _ _ w.heap.size 29 [.int .i64 0, .int .i64 0, .slice none 0 0, .slice none 0 0] _ _ rfl rfl bz Tryd.underlying29 rfl (img_sz _ _ _ _)) rfl ⟨_, rfl, zImg_img _, Below.only l0 oz (Nat.le_refl _)⟩
    rw [if_neg (by simpa using hu)]
    have HK2 := Lib.hid fun w' v (h : Img w' v x) => checkI w' v x h
    obtain ⟨q, hq⟩ : ∃ q, q = x.chk := ⟨_, rfl⟩
    rw [← hq] at HK2 ⊢
    clear HK hx hq
    by_cases hq0 : q = 0
    rotate_left
    · rw [if_pos hq0]
      have f1 : (q != 0) = true := by simpa using hq0
      go_enter Tryd.func10, Tryd.ntmps10
      go_wp2_with (first
        | (go_at_call 17; refine (HK2.out _ _ ⟨Ai, ni, ci, Bi, di, rfl, i1, i2, i3⟩).mono ?_; rintro e w4 ⟨rfl, l4⟩; replace bR := bR.keep l4; replace b8 := b8.keep l4; replace i1 := i1.keep l4; replace i2 := i2.keep l4; replace l0 := Later.trans_ l0 l4)
        | (go_at_call 36; refine (HC.out A1 n1 c1 A3 n3 c3 _ p1 p2 p3 q1 q2 q3).mono ?_; rintro e w3 ⟨v, rfl, ⟨Ai, ni, ci, Bi, di, rfl, i1, i2, i3⟩, l3⟩; replace bR := bR.keep l3; replace q6 := q6.keep l3; replace l0 := Later.trans_ l0 l3; obtain ⟨g1, g2⟩ := HL.out _ _ _ q6; have g3 : ¬ (0 < (n4 : Int)) := (by omega); replace bR := bR.alloc (.cells #[.int .i64 x.en, .int .i64 x.p, .slice Ai ni ci, .slice Bi x.m di] 29); replace l0 := l0.alloc l0.size (.cells #[.int .i64 x.en, .int .i64 x.p, .slice Ai ni ci, .slice Bi x.m di] 29); have b8 := Blk.new w3 29 #[.int .i64 x.en, .int .i64 x.p, .slice Ai ni ci, .slice Bi x.m di] [.int .i64 x.en, .int .i64 x.p, .slice Ai ni ci, .slice Bi x.m di] rfl; replace i1 := i1.alloc (.cells #[.int .i64 x.en, .int .i64 x.p, .slice Ai ni ci, .slice Bi x.m di] 29); replace i2 := i2.alloc (.cells #[.int .i64 x.en, .int .i64 x.p, .slice Ai ni ci, .slice Bi x.m di] 29))
        | (go_at_call 34; refine (HR2.out A2 n2 c2 _ p4 p5 p6).mono ?_; rintro e w2 ⟨A3, n3, c3, A4, n4, c4, rfl, q1, q2, q3, q4, q5, q6, l2⟩; replace bR := bR.keep l2; replace p3 := p3.keep l2; replace l0 := Later.trans_ l0 l2)
        | (go_at_call 32; refine (HR1.out _ l0).mono ?_; rintro e w1 ⟨A1, n1, c1, A2, n2, c2, rfl, p1, p2, p3, p4, p5, p6, l1⟩; replace bR := bR.keep l1; replace l0 := Later.trans_ l0 l1)
        | ((with_reducible refine wpList_store_abs (o := ⟨none, .store 29 (.tmp 2) (.tmp 49), _, _, _, none⟩) rfl _ _ _ rfl w.heap.size 29 [.int .i64 0, .int .i64 0, .slice none 0 0, .slice none 0 0] [.int .i64 0, .int .i64 0, .slice none 0 0, .slice none 0 0] ?_ ?_ bR (img_sz _ _ _ _) rfl (img_one _ _ _ _ _ _ _ _) ?_); rfl; rfl; intro wz bz oz))
      exact bodyPost_ret (v := .tuple #[zImg, .int .i64 q]) (results_cell_tmp Tryd.results10 _ _ w.heap.size 29 [.int .i64 0, .int .i64 0, .slice none 0 0, .slice none 0 0] _ _ rfl rfl bz Tryd.underlying29 rfl (img_sz _ _ _ _)) rfl ⟨_, rfl, zImg_img _, Below.only l0 oz (Nat.le_refl _)⟩
    rw [if_neg (by simpa using hq0)]
    subst hq0
    go_enter Tryd.func10, Tryd.ntmps10
    go_wp2_with (first
      | (go_at_call 17; refine (HK2.out _ _ ⟨Ai, ni, ci, Bi, di, rfl, i1, i2, i3⟩).mono ?_; rintro e w4 ⟨rfl, l4⟩; replace bR := bR.keep l4; replace b8 := b8.keep l4; replace i1 := i1.keep l4; replace i2 := i2.keep l4; replace l0 := Later.trans_ l0 l4)
      | (go_at_call 36; refine (HC.out A1 n1 c1 A3 n3 c3 _ p1 p2 p3 q1 q2 q3).mono ?_; rintro e w3 ⟨v, rfl, ⟨Ai, ni, ci, Bi, di, rfl, i1, i2, i3⟩, l3⟩; replace bR := bR.keep l3; replace q6 := q6.keep l3; replace l0 := Later.trans_ l0 l3; obtain ⟨g1, g2⟩ := HL.out _ _ _ q6; have g3 : ¬ (0 < (n4 : Int)) := (by omega); replace bR := bR.alloc (.cells #[.int .i64 x.en, .int .i64 x.p, .slice Ai ni ci, .slice Bi x.m di] 29); replace l0 := l0.alloc l0.size (.cells #[.int .i64 x.en, .int .i64 x.p, .slice Ai ni ci, .slice Bi x.m di] 29); have b8 := Blk.new w3 29 #[.int .i64 x.en, .int .i64 x.p, .slice Ai ni ci, .slice Bi x.m di] [.int .i64 x.en, .int .i64 x.p, .slice Ai ni ci, .slice Bi x.m di] rfl; replace i1 := i1.alloc (.cells #[.int .i64 x.en, .int .i64 x.p, .slice Ai ni ci, .slice Bi x.m di] 29); replace i2 := i2.alloc (.cells #[.int .i64 x.en, .int .i64 x.p, .slice Ai ni ci, .slice Bi x.m di] 29))
      | (go_at_call 34; refine (HR2.out A2 n2 c2 _ p4 p5 p6).mono ?_; rintro e w2 ⟨A3, n3, c3, A4, n4, c4, rfl, q1, q2, q3, q4, q5, q6, l2⟩; replace bR := bR.keep l2; replace p3 := p3.keep l2; replace l0 := Later.trans_ l0 l2)
      | (go_at_call 32; refine (HR1.out _ l0).mono ?_; rintro e w1 ⟨A1, n1, c1, A2, n2, c2, rfl, p1, p2, p3, p4, p5, p6, l1⟩; replace bR := bR.keep l1; replace l0 := Later.trans_ l0 l1)
      | ((with_reducible refine wpList_load_blk (o := ⟨some 51, .load 29 (.tmp 8), _, _, _, none⟩) rfl _ _ rfl w3.heap.size 29 [.int .i64 x.en, .int .i64 x.p, .slice Ai ni ci, .slice Bi x.m di] _ ?_ b8 Tryd.underlying29 rfl (img_sz _ _ _ _) ?_); rfl)
      | ((with_reducible refine wpList_store_abs (o := ⟨none, .store 29 (.tmp 2) (.tmp 51), _, _, _, none⟩) rfl _ _ _ rfl w.heap.size 29 [.int .i64 0, .int .i64 0, .slice none 0 0, .slice none 0 0] [.int .i64 x.en, .int .i64 x.p, .slice Ai ni ci, .slice Bi x.m di] ?_ ?_ bR (img_sz _ _ _ _) rfl (img_one _ _ _ _ _ _ _ _) ?_); rfl; rfl; intro wz bz oz))
    have lz : Later w wz := Below.only l0 oz (Nat.le_refl _)
    exact bodyPost_ret (v := .tuple #[.agg #[.int .i64 x.en, .int .i64 x.p, .slice Ai ni ci, .slice Bi x.m di], .int .i64 0]) (results_cell_tmp Tryd.results10 _ _ w.heap.size 29 [.int .i64 x.en, .int .i64 x.p, .slice Ai ni ci, .slice Bi x.m di] _ _ rfl rfl bz Tryd.underlying29 rfl (img_sz _ _ _ _)) rfl ⟨_, rfl, ⟨Ai, ni, ci, Bi, di, rfl, i1.lx (Lx.only oz) (fun hn ad e => seg_far i1 bR hn e), i2.lx (Lx.only oz) (fun hn ad e => u8_far i2 bR hn e), i3⟩, lz⟩
end Go.Proofs.YtjfphjgmphlbhaaDoor

/-
  DERIVED: THE SHELF's CONTRACTS AT THIS DUMP, IN PLAIN WORDS (tools/lay-plain.mjs out of 'TrydShelf.lean', which tools/lay-shelf.mjs wrote): THE SAME DECLARATIONS UNDER THE SAME NAMES: 'import', 'namespace', 'open', 'def', 'theorem' AND NOTHING ELSE: no command of the shelf's: FOR A HAND-IN. Each laying: the table of numbers ('.._ren') and one theorem, a field a fact of the dump's own or the kernel's comparison; each contract: ONE APPLICATION.
-/
namespace Go.Proofs
open Go.Shelf
def Tryd.lays231_ren : Go.Shelf.Ren := ⟨fun | 231 => 80 | n => n, fun | 9 => 9 | 5 => 5 | 3 => 3 | 4 => 4 | n => n, fun | n => n⟩
theorem Tryd.lays231 : Go.Proofs.Lays.n231 Tryd.prog Tryd.lays231_ren := {
  mixed := by kernel_rfl
  f231 := Tryd.func80.trans (congrArg some (by kernel_rfl))
  t3 := Tryd.underlying3
  a3 := Tryd.isAgg3
  z3 := Tryd.sizeOf3
  v3 := Tryd.zeroValue3
  t4 := Tryd.underlying4
  a4 := Tryd.isAgg4
  z4 := Tryd.sizeOf4
  v4 := Tryd.zeroValue4
  t5 := Tryd.underlying5
  a5 := Tryd.isAgg5
  z5 := Tryd.sizeOf5
  v5 := Tryd.zeroValue5
  t9 := Tryd.underlying9
  a9 := Tryd.isAgg9
  z9 := Tryd.sizeOf9
  v9 := Tryd.zeroValue9 }
open Go.RowKit in
/-- strings.trimLeftByte (no doc; what TrimLeft and Trim call at a cutset of one ASCII byte): the leading bytes that are c are cut off. The world is as it was. (LAID: no walk: one application.) -/
theorem Tryd.strings_trimLeftByte (s : ByteArray) (c : UInt8) (w : World) :
    Calls Tryd.prog 80 #[.string s, .int .u8 c.toNat] w fun e w' => e = .returned (.string ⟨(Lib.trimLeftB s.data.toList c).toArray⟩) ∧ w' = w := Any.strings_trimLeftByte Tryd.lays231 s c w
def Tryd.lays232_ren : Go.Shelf.Ren := ⟨fun | 232 => 76 | n => n, fun | 9 => 9 | 5 => 5 | 3 => 3 | 4 => 4 | n => n, fun | n => n⟩
theorem Tryd.lays232 : Go.Proofs.Lays.n232 Tryd.prog Tryd.lays232_ren := {
  mixed := by kernel_rfl
  f232 := Tryd.func76.trans (congrArg some (by kernel_rfl))
  t3 := Tryd.underlying3
  a3 := Tryd.isAgg3
  z3 := Tryd.sizeOf3
  v3 := Tryd.zeroValue3
  t4 := Tryd.underlying4
  a4 := Tryd.isAgg4
  z4 := Tryd.sizeOf4
  v4 := Tryd.zeroValue4
  t5 := Tryd.underlying5
  a5 := Tryd.isAgg5
  z5 := Tryd.sizeOf5
  v5 := Tryd.zeroValue5
  t9 := Tryd.underlying9
  a9 := Tryd.isAgg9
  z9 := Tryd.sizeOf9
  v9 := Tryd.zeroValue9 }
open Go.RowKit in
/-- strings.trimRightByte (no doc; what TrimRight and Trim call at a cutset of one ASCII byte): the trailing bytes that are c are cut off. The world is as it was. ('hs': a string's length is a number that an int holds.) (LAID: no walk: one application.) -/
theorem Tryd.strings_trimRightByte (s : ByteArray) (c : UInt8) (w : World) (hs : s.size ≤ 9223372036854775807) :
    Calls Tryd.prog 76 #[.string s, .int .u8 c.toNat] w fun e w' => e = .returned (.string ⟨(Lib.trimRightB s.data.toList c).toArray⟩) ∧ w' = w := Any.strings_trimRightByte Tryd.lays232 s c w hs
def Tryd.lays161_ren : Go.Shelf.Ren := ⟨fun | 161 => 55 | 231 => 80 | 227 => 77 | 233 => 81 | 235 => 82 | 228 => 91 | 197 => 94 | 151 => 93 | 260 => 99 | 152 => 98 | 137 => 101 | 119 => 102 | 224 => 103 | 225 => 104 | 217 => 105 | 266 => 106 | n => n, fun | 9 => 9 | 4 => 4 | 3 => 3 | 5 => 5 | 117 => 134 | 116 => 133 | 0 => 0 | 124 => 137 | 105 => 145 | 21 => 21 | 119 => 157 | 46 => 148 | 139 => 160 | 138 => 159 | n => n, fun | 3 => 1 | 4 => 2 | n => n⟩
theorem Tryd.lays161 : Go.Proofs.Lays.n161 Tryd.prog Tryd.lays161_ren := {
  mixed := by kernel_rfl
  f119 := Tryd.func102.trans (congrArg some (by kernel_rfl))
  f137 := Tryd.func101.trans (congrArg some (by kernel_rfl))
  f151 := Tryd.func93.trans (congrArg some (by kernel_rfl))
  f152 := Tryd.func98.trans (congrArg some (by kernel_rfl))
  f161 := Tryd.func55.trans (congrArg some (by kernel_rfl))
  f197 := Tryd.func94.trans (congrArg some (by kernel_rfl))
  f217 := Tryd.func105.trans (congrArg some (by kernel_rfl))
  f224 := Tryd.func103.trans (congrArg some (by kernel_rfl))
  f225 := Tryd.func104.trans (congrArg some (by kernel_rfl))
  f227 := Tryd.func77.trans (congrArg some (by kernel_rfl))
  f228 := Tryd.func91.trans (congrArg some (by kernel_rfl))
  f231 := Tryd.func80.trans (congrArg some (by kernel_rfl))
  f233 := Tryd.func81.trans (congrArg some (by kernel_rfl))
  f235 := Tryd.func82.trans (congrArg some (by kernel_rfl))
  f260 := Tryd.func99.trans (congrArg some (by kernel_rfl))
  f266 := Tryd.func106.trans (congrArg some (by kernel_rfl))
  t0 := Tryd.underlying0
  a0 := Tryd.isAgg0
  z0 := Tryd.sizeOf0
  v0 := Tryd.zeroValue0
  t3 := Tryd.underlying3
  a3 := Tryd.isAgg3
  z3 := Tryd.sizeOf3
  v3 := Tryd.zeroValue3
  t4 := Tryd.underlying4
  a4 := Tryd.isAgg4
  z4 := Tryd.sizeOf4
  v4 := Tryd.zeroValue4
  t5 := Tryd.underlying5
  a5 := Tryd.isAgg5
  z5 := Tryd.sizeOf5
  v5 := Tryd.zeroValue5
  t9 := Tryd.underlying9
  a9 := Tryd.isAgg9
  z9 := Tryd.sizeOf9
  v9 := Tryd.zeroValue9
  t21 := Tryd.underlying21
  a21 := Tryd.isAgg21
  z21 := Tryd.sizeOf21
  v21 := Tryd.zeroValue21
  t46 := Tryd.underlying148
  a46 := Tryd.isAgg148
  z46 := Tryd.sizeOf148
  v46 := Tryd.zeroValue148
  t105 := Tryd.underlying145
  a105 := Tryd.isAgg145
  z105 := Tryd.sizeOf145
  v105 := Tryd.zeroValue145
  t116 := Tryd.underlying133
  a116 := Tryd.isAgg133
  z116 := Tryd.sizeOf133
  t117 := Tryd.underlying134
  a117 := Tryd.isAgg134
  z117 := Tryd.sizeOf134
  v117 := Tryd.zeroValue134
  t119 := Tryd.underlying157
  a119 := Tryd.isAgg157
  z119 := Tryd.sizeOf157
  t124 := Tryd.underlying137
  a124 := Tryd.isAgg137
  z124 := Tryd.sizeOf137
  v124 := Tryd.zeroValue137
  t138 := Tryd.underlying159
  a138 := Tryd.isAgg159
  z138 := Tryd.sizeOf159
  v138 := Tryd.zeroValue159
  t139 := Tryd.underlying160
  a139 := Tryd.isAgg160
  z139 := Tryd.sizeOf160
  v139 := Tryd.zeroValue160
  g3 := by kernel_rfl
  g4 := by kernel_rfl }
open Go.RowKit in
/-- strings.TrimLeft: "TrimLeft returns a slice of the string s with all leading Unicode code points contained in cutset removed.": AT A cutset OF ONE ASCII BYTE. The world is as it was. (LAID: no walk: one application.) -/
theorem Tryd.strings_TrimLeft_one (s : ByteArray) (c : UInt8) (hc : c.toNat < 128) (w : World) :
    Calls Tryd.prog 55 #[.string s, .string ⟨#[c]⟩] w fun e w' => e = .returned (.string ⟨(Lib.trimLeftB s.data.toList c).toArray⟩) ∧ w' = w := Any.strings_TrimLeft_one Tryd.lays161 s c hc w
def Tryd.lays162_ren : Go.Shelf.Ren := ⟨fun | 162 => 54 | 232 => 76 | 227 => 77 | 234 => 78 | 236 => 79 | 228 => 91 | 271 => 92 | 151 => 93 | 120 => 97 | 197 => 94 | 152 => 98 | 260 => 99 | 137 => 101 | 119 => 102 | 224 => 103 | 225 => 104 | 217 => 105 | 266 => 106 | n => n, fun | 9 => 9 | 4 => 4 | 3 => 3 | 5 => 5 | 117 => 134 | 116 => 133 | 0 => 0 | 124 => 137 | 21 => 21 | 105 => 145 | 46 => 148 | 119 => 157 | 139 => 160 | 138 => 159 | n => n, fun | 3 => 1 | 4 => 2 | n => n⟩
theorem Tryd.lays162 : Go.Proofs.Lays.n162 Tryd.prog Tryd.lays162_ren := {
  mixed := by kernel_rfl
  f119 := Tryd.func102.trans (congrArg some (by kernel_rfl))
  f120 := Tryd.func97.trans (congrArg some (by kernel_rfl))
  f137 := Tryd.func101.trans (congrArg some (by kernel_rfl))
  f151 := Tryd.func93.trans (congrArg some (by kernel_rfl))
  f152 := Tryd.func98.trans (congrArg some (by kernel_rfl))
  f162 := Tryd.func54.trans (congrArg some (by kernel_rfl))
  f197 := Tryd.func94.trans (congrArg some (by kernel_rfl))
  f217 := Tryd.func105.trans (congrArg some (by kernel_rfl))
  f224 := Tryd.func103.trans (congrArg some (by kernel_rfl))
  f225 := Tryd.func104.trans (congrArg some (by kernel_rfl))
  f227 := Tryd.func77.trans (congrArg some (by kernel_rfl))
  f228 := Tryd.func91.trans (congrArg some (by kernel_rfl))
  f232 := Tryd.func76.trans (congrArg some (by kernel_rfl))
  f234 := Tryd.func78.trans (congrArg some (by kernel_rfl))
  f236 := Tryd.func79.trans (congrArg some (by kernel_rfl))
  f260 := Tryd.func99.trans (congrArg some (by kernel_rfl))
  f266 := Tryd.func106.trans (congrArg some (by kernel_rfl))
  f271 := Tryd.func92.trans (congrArg some (by kernel_rfl))
  t0 := Tryd.underlying0
  a0 := Tryd.isAgg0
  z0 := Tryd.sizeOf0
  v0 := Tryd.zeroValue0
  t3 := Tryd.underlying3
  a3 := Tryd.isAgg3
  z3 := Tryd.sizeOf3
  v3 := Tryd.zeroValue3
  t4 := Tryd.underlying4
  a4 := Tryd.isAgg4
  z4 := Tryd.sizeOf4
  v4 := Tryd.zeroValue4
  t5 := Tryd.underlying5
  a5 := Tryd.isAgg5
  z5 := Tryd.sizeOf5
  v5 := Tryd.zeroValue5
  t9 := Tryd.underlying9
  a9 := Tryd.isAgg9
  z9 := Tryd.sizeOf9
  v9 := Tryd.zeroValue9
  t21 := Tryd.underlying21
  a21 := Tryd.isAgg21
  z21 := Tryd.sizeOf21
  v21 := Tryd.zeroValue21
  t46 := Tryd.underlying148
  a46 := Tryd.isAgg148
  z46 := Tryd.sizeOf148
  v46 := Tryd.zeroValue148
  t105 := Tryd.underlying145
  a105 := Tryd.isAgg145
  z105 := Tryd.sizeOf145
  v105 := Tryd.zeroValue145
  t116 := Tryd.underlying133
  a116 := Tryd.isAgg133
  z116 := Tryd.sizeOf133
  t117 := Tryd.underlying134
  a117 := Tryd.isAgg134
  z117 := Tryd.sizeOf134
  v117 := Tryd.zeroValue134
  t119 := Tryd.underlying157
  a119 := Tryd.isAgg157
  z119 := Tryd.sizeOf157
  t124 := Tryd.underlying137
  a124 := Tryd.isAgg137
  z124 := Tryd.sizeOf137
  v124 := Tryd.zeroValue137
  t138 := Tryd.underlying159
  a138 := Tryd.isAgg159
  z138 := Tryd.sizeOf159
  v138 := Tryd.zeroValue159
  t139 := Tryd.underlying160
  a139 := Tryd.isAgg160
  z139 := Tryd.sizeOf160
  v139 := Tryd.zeroValue160
  g3 := by kernel_rfl
  g4 := by kernel_rfl }
open Go.RowKit in
/-- strings.TrimRight: "TrimRight returns a slice of the string s, with all trailing Unicode code points contained in cutset removed.": AT A cutset OF ONE ASCII BYTE. The world is as it was. (LAID: no walk: one application.) -/
theorem Tryd.strings_TrimRight_one (s : ByteArray) (c : UInt8) (hc : c.toNat < 128) (w : World) (hs : s.size ≤ 9223372036854775807) :
    Calls Tryd.prog 54 #[.string s, .string ⟨#[c]⟩] w fun e w' => e = .returned (.string ⟨(Lib.trimRightB s.data.toList c).toArray⟩) ∧ w' = w := Any.strings_TrimRight_one Tryd.lays162 s c hc w hs
def Tryd.lays119_ren : Go.Shelf.Ren := ⟨fun | 119 => 102 | n => n, fun | 21 => 21 | 4 => 4 | n => n, fun | n => n⟩
theorem Tryd.lays119 : Go.Proofs.Lays.n119 Tryd.prog Tryd.lays119_ren := {
  mixed := by kernel_rfl
  f119 := Tryd.func102.trans (congrArg some (by kernel_rfl))
  t4 := Tryd.underlying4
  a4 := Tryd.isAgg4
  z4 := Tryd.sizeOf4
  v4 := Tryd.zeroValue4
  t21 := Tryd.underlying21
  a21 := Tryd.isAgg21
  z21 := Tryd.sizeOf21
  v21 := Tryd.zeroValue21 }
/-- utf8.ValidRune: "ValidRune reports whether r can be legally encoded as UTF-8. Code points that are out of range or a surrogate half are illegal.": IT RETURNS 'Lib.validRune r'; the world is as it was. (LAID: no walk: one application.) -/
theorem Tryd.utf8_ValidRune (r : Int) (w : World) :
    Calls Tryd.prog 102 #[.int .i32 r] w fun e w' => e = .returned (.bool (Lib.validRune r)) ∧ w' = w := Any.utf8_ValidRune Tryd.lays119 r w
def Tryd.lays120_ren : Go.Shelf.Ren := ⟨fun | 120 => 97 | n => n, fun | 5 => 5 | 4 => 4 | n => n, fun | n => n⟩
theorem Tryd.lays120 : Go.Proofs.Lays.n120 Tryd.prog Tryd.lays120_ren := {
  mixed := by kernel_rfl
  f120 := Tryd.func97.trans (congrArg some (by kernel_rfl))
  t4 := Tryd.underlying4
  a4 := Tryd.isAgg4
  z4 := Tryd.sizeOf4
  v4 := Tryd.zeroValue4
  t5 := Tryd.underlying5
  a5 := Tryd.isAgg5
  z5 := Tryd.sizeOf5
  v5 := Tryd.zeroValue5 }
/-- utf8.RuneStart: "RuneStart reports whether the byte could be the first byte of an encoded, possibly invalid rune. Second and subsequent bytes always have the top two bits set to 10.": IT RETURNS 'Lib.runeStart b'; the world is as it was. ('h0', 'h1': b is a byte: a caller has it of every byte that it was handed.) (LAID: no walk: one application.) -/
theorem Tryd.utf8_RuneStart (b : Int) (w : World) (h0 : 0 ≤ b) (h1 : b < 256) :
    Calls Tryd.prog 97 #[.int .u8 b] w fun e w' => e = .returned (.bool (Lib.runeStart b)) ∧ w' = w := Any.utf8_RuneStart Tryd.lays120 b w h0 h1
def Tryd.lays137_ren : Go.Shelf.Ren := ⟨fun | 137 => 101 | 217 => 105 | 266 => 106 | n => n, fun | 9 => 9 | 5 => 5 | 3 => 3 | n => n, fun | n => n⟩
theorem Tryd.lays137 : Go.Proofs.Lays.n137 Tryd.prog Tryd.lays137_ren := {
  mixed := by kernel_rfl
  f137 := Tryd.func101.trans (congrArg some (by kernel_rfl))
  f217 := Tryd.func105.trans (congrArg some (by kernel_rfl))
  f266 := Tryd.func106.trans (congrArg some (by kernel_rfl))
  t3 := Tryd.underlying3
  a3 := Tryd.isAgg3
  z3 := Tryd.sizeOf3
  v3 := Tryd.zeroValue3
  t5 := Tryd.underlying5
  a5 := Tryd.isAgg5
  z5 := Tryd.sizeOf5
  v5 := Tryd.zeroValue5
  t9 := Tryd.underlying9
  a9 := Tryd.isAgg9
  z9 := Tryd.sizeOf9
  v9 := Tryd.zeroValue9 }
open Go.RowKit in
/-- strings.IndexByte: "IndexByte returns the index of the first instance of c in s, or -1 if c is not present in s.": IT RETURNS 'Lib.indexByte s c'; the world is as it was. (LAID: no walk: one application.) -/
theorem Tryd.strings_IndexByte (s : ByteArray) (c : Int) (w : World) :
    Calls Tryd.prog 101 #[.string s, .int .u8 c] w fun e w' => e = .returned (.int .i64 (Lib.indexByte s.data.toList c.toNat.toUInt8)) ∧ w' = w := Any.strings_IndexByte Tryd.lays137 s c w
def Tryd.lays217_ren : Go.Shelf.Ren := ⟨fun | 217 => 105 | 266 => 106 | n => n, fun | 9 => 9 | 5 => 5 | 3 => 3 | n => n, fun | n => n⟩
theorem Tryd.lays217 : Go.Proofs.Lays.n217 Tryd.prog Tryd.lays217_ren := {
  mixed := by kernel_rfl
  f217 := Tryd.func105.trans (congrArg some (by kernel_rfl))
  f266 := Tryd.func106.trans (congrArg some (by kernel_rfl))
  t3 := Tryd.underlying3
  a3 := Tryd.isAgg3
  z3 := Tryd.sizeOf3
  v3 := Tryd.zeroValue3
  t5 := Tryd.underlying5
  a5 := Tryd.isAgg5
  z5 := Tryd.sizeOf5
  v5 := Tryd.zeroValue5
  t9 := Tryd.underlying9
  a9 := Tryd.isAgg9
  z9 := Tryd.sizeOf9
  v9 := Tryd.zeroValue9 }
open Go.RowKit Go.Lib in
/-- internal/stringslite.IndexByte (what strings.IndexByte calls): IT RETURNS 'Lib.indexByte s c'; the world is as it was. (LAID: no walk: one application.) -/
theorem Tryd.stringslite_IndexByte (s : ByteArray) (c : Int) (w : World) :
    Calls Tryd.prog 105 #[.string s, .int .u8 c] w fun e w' => e = .returned (.int .i64 (Lib.indexByte s.data.toList c.toNat.toUInt8)) ∧ w' = w := Any.stringslite_IndexByte Tryd.lays217 s c w
def Tryd.lays224_ren : Go.Shelf.Ren := ⟨fun | 224 => 103 | n => n, fun | 3 => 3 | n => n, fun | n => n⟩
theorem Tryd.lays224 : Go.Proofs.Lays.n224 Tryd.prog Tryd.lays224_ren := {
  mixed := by kernel_rfl
  f224 := Tryd.func103.trans (congrArg some (by kernel_rfl))
  t3 := Tryd.underlying3
  a3 := Tryd.isAgg3
  z3 := Tryd.sizeOf3
  v3 := Tryd.zeroValue3 }
open Go.RowKit Go.Lib in
/-- internal/bytealg.Cutover: "Cutover reports the number of failures of IndexByte we should tolerate before switching over to Index. n is the number of bytes processed so far.": on amd64: (n + 16) / 8. (LAID: no walk: one application.) -/
theorem Tryd.bytealg_Cutover (n : Int) (h0 : 0 ≤ n) (h1 : n < 4611686018427387904) (w : World) :
    Calls Tryd.prog 103 #[.int .i64 n] w fun e w' => e = .returned (.int .i64 ((n + 16) / 8)) ∧ w' = w := Any.bytealg_Cutover Tryd.lays224 n h0 h1 w
def Tryd.lays197_ren : Go.Shelf.Ren := ⟨fun | 197 => 94 | 260 => 99 | n => n, fun | 9 => 9 | 21 => 21 | 3 => 3 | 4 => 4 | 5 => 5 | 105 => 145 | 119 => 157 | 0 => 0 | 46 => 148 | 139 => 160 | 138 => 159 | n => n, fun | 3 => 1 | 4 => 2 | n => n⟩
theorem Tryd.lays197 : Go.Proofs.Lays.n197 Tryd.prog Tryd.lays197_ren := {
  mixed := by kernel_rfl
  f197 := Tryd.func94.trans (congrArg some (by kernel_rfl))
  f260 := Tryd.func99.trans (congrArg some (by kernel_rfl))
  t0 := Tryd.underlying0
  a0 := Tryd.isAgg0
  z0 := Tryd.sizeOf0
  v0 := Tryd.zeroValue0
  t3 := Tryd.underlying3
  a3 := Tryd.isAgg3
  z3 := Tryd.sizeOf3
  v3 := Tryd.zeroValue3
  t4 := Tryd.underlying4
  a4 := Tryd.isAgg4
  z4 := Tryd.sizeOf4
  v4 := Tryd.zeroValue4
  t5 := Tryd.underlying5
  a5 := Tryd.isAgg5
  z5 := Tryd.sizeOf5
  v5 := Tryd.zeroValue5
  t9 := Tryd.underlying9
  a9 := Tryd.isAgg9
  z9 := Tryd.sizeOf9
  v9 := Tryd.zeroValue9
  t21 := Tryd.underlying21
  a21 := Tryd.isAgg21
  z21 := Tryd.sizeOf21
  v21 := Tryd.zeroValue21
  t46 := Tryd.underlying148
  a46 := Tryd.isAgg148
  z46 := Tryd.sizeOf148
  v46 := Tryd.zeroValue148
  t105 := Tryd.underlying145
  a105 := Tryd.isAgg145
  z105 := Tryd.sizeOf145
  v105 := Tryd.zeroValue145
  t119 := Tryd.underlying157
  a119 := Tryd.isAgg157
  z119 := Tryd.sizeOf157
  t138 := Tryd.underlying159
  a138 := Tryd.isAgg159
  z138 := Tryd.sizeOf159
  v138 := Tryd.zeroValue159
  t139 := Tryd.underlying160
  a139 := Tryd.isAgg160
  z139 := Tryd.sizeOf160
  v139 := Tryd.zeroValue160
  g3 := by kernel_rfl
  g4 := by kernel_rfl }
open Go.RowKit Go.Lib in
/-- unicode/utf8.DecodeRuneInString: "DecodeRuneInString is like DecodeRune but its input is a string.": ("DecodeRune unpacks the first UTF-8 encoding in p and returns the rune and its width in bytes."): WHERE s BEGINS WITH AN ASCII BYTE x: (x, 1). (LAID: no walk: one application.) -/
theorem Tryd.utf8_DecodeRuneInString_ascii (s : ByteArray) (x : UInt8) (w : World) (h0 : s.data.toList[0]? = some x) (hx : x.toNat < 128) :
    Calls Tryd.prog 94 #[.string s] w fun e w' => e = .returned (.tuple #[.int .i32 x.toNat, .int .i64 1]) ∧ w' = w := Any.utf8_DecodeRuneInString_ascii Tryd.lays197 s x w h0 hx
def Tryd.lays152_ren : Go.Shelf.Ren := ⟨fun | 152 => 98 | 137 => 101 | 119 => 102 | 224 => 103 | 225 => 104 | 217 => 105 | 266 => 106 | n => n, fun | 9 => 9 | 21 => 21 | 3 => 3 | 4 => 4 | 5 => 5 | 0 => 0 | 46 => 148 | n => n, fun | n => n⟩
theorem Tryd.lays152 : Go.Proofs.Lays.n152 Tryd.prog Tryd.lays152_ren := {
  mixed := by kernel_rfl
  f119 := Tryd.func102.trans (congrArg some (by kernel_rfl))
  f137 := Tryd.func101.trans (congrArg some (by kernel_rfl))
  f152 := Tryd.func98.trans (congrArg some (by kernel_rfl))
  f217 := Tryd.func105.trans (congrArg some (by kernel_rfl))
  f224 := Tryd.func103.trans (congrArg some (by kernel_rfl))
  f225 := Tryd.func104.trans (congrArg some (by kernel_rfl))
  f266 := Tryd.func106.trans (congrArg some (by kernel_rfl))
  t0 := Tryd.underlying0
  a0 := Tryd.isAgg0
  z0 := Tryd.sizeOf0
  v0 := Tryd.zeroValue0
  t3 := Tryd.underlying3
  a3 := Tryd.isAgg3
  z3 := Tryd.sizeOf3
  v3 := Tryd.zeroValue3
  t4 := Tryd.underlying4
  a4 := Tryd.isAgg4
  z4 := Tryd.sizeOf4
  v4 := Tryd.zeroValue4
  t5 := Tryd.underlying5
  a5 := Tryd.isAgg5
  z5 := Tryd.sizeOf5
  v5 := Tryd.zeroValue5
  t9 := Tryd.underlying9
  a9 := Tryd.isAgg9
  z9 := Tryd.sizeOf9
  v9 := Tryd.zeroValue9
  t21 := Tryd.underlying21
  a21 := Tryd.isAgg21
  z21 := Tryd.sizeOf21
  v21 := Tryd.zeroValue21
  t46 := Tryd.underlying148
  a46 := Tryd.isAgg148
  z46 := Tryd.sizeOf148
  v46 := Tryd.zeroValue148 }
open Go.RowKit Go.Lib in
theorem Tryd.strings_IndexRune_ascii (s : ByteArray) (r : Int) (w : World) (h0 : 0 ≤ r) (h1 : r < 128) :
    Calls Tryd.prog 98 #[.string s, .int .i32 r] w fun e w' => e = .returned (.int .i64 (Lib.indexByte s.data.toList r.toNat.toUInt8)) ∧ w' = w := Any.strings_IndexRune_ascii Tryd.lays152 s r w h0 h1
def Tryd.lays151_ren : Go.Shelf.Ren := ⟨fun | 151 => 93 | 152 => 98 | 137 => 101 | 119 => 102 | 224 => 103 | 225 => 104 | 217 => 105 | 266 => 106 | n => n, fun | 9 => 9 | 21 => 21 | 4 => 4 | 3 => 3 | 5 => 5 | 0 => 0 | 46 => 148 | n => n, fun | n => n⟩
theorem Tryd.lays151 : Go.Proofs.Lays.n151 Tryd.prog Tryd.lays151_ren := {
  mixed := by kernel_rfl
  f119 := Tryd.func102.trans (congrArg some (by kernel_rfl))
  f137 := Tryd.func101.trans (congrArg some (by kernel_rfl))
  f151 := Tryd.func93.trans (congrArg some (by kernel_rfl))
  f152 := Tryd.func98.trans (congrArg some (by kernel_rfl))
  f217 := Tryd.func105.trans (congrArg some (by kernel_rfl))
  f224 := Tryd.func103.trans (congrArg some (by kernel_rfl))
  f225 := Tryd.func104.trans (congrArg some (by kernel_rfl))
  f266 := Tryd.func106.trans (congrArg some (by kernel_rfl))
  t0 := Tryd.underlying0
  a0 := Tryd.isAgg0
  z0 := Tryd.sizeOf0
  v0 := Tryd.zeroValue0
  t3 := Tryd.underlying3
  a3 := Tryd.isAgg3
  z3 := Tryd.sizeOf3
  v3 := Tryd.zeroValue3
  t4 := Tryd.underlying4
  a4 := Tryd.isAgg4
  z4 := Tryd.sizeOf4
  v4 := Tryd.zeroValue4
  t5 := Tryd.underlying5
  a5 := Tryd.isAgg5
  z5 := Tryd.sizeOf5
  v5 := Tryd.zeroValue5
  t9 := Tryd.underlying9
  a9 := Tryd.isAgg9
  z9 := Tryd.sizeOf9
  v9 := Tryd.zeroValue9
  t21 := Tryd.underlying21
  a21 := Tryd.isAgg21
  z21 := Tryd.sizeOf21
  v21 := Tryd.zeroValue21
  t46 := Tryd.underlying148
  a46 := Tryd.isAgg148
  z46 := Tryd.sizeOf148
  v46 := Tryd.zeroValue148 }
open Go.RowKit Go.Lib in
theorem Tryd.strings_ContainsRune_ascii (s : ByteArray) (r : Int) (w : World) (h0 : 0 ≤ r) (h1 : r < 128) :
    Calls Tryd.prog 93 #[.string s, .int .i32 r] w fun e w' => e = .returned (.bool (decide (0 ≤ Lib.indexByte s.data.toList r.toNat.toUInt8))) ∧ w' = w := Any.strings_ContainsRune_ascii Tryd.lays151 s r w h0 h1
def Tryd.lays227_ren : Go.Shelf.Ren := ⟨fun | 227 => 77 | n => n, fun | 9 => 9 | 116 => 133 | 4 => 4 | 0 => 0 | 3 => 3 | 5 => 5 | n => n, fun | n => n⟩
theorem Tryd.lays227 : Go.Proofs.Lays.n227 Tryd.prog Tryd.lays227_ren := {
  mixed := by kernel_rfl
  f227 := Tryd.func77.trans (congrArg some (by kernel_rfl))
  t0 := Tryd.underlying0
  a0 := Tryd.isAgg0
  z0 := Tryd.sizeOf0
  v0 := Tryd.zeroValue0
  t3 := Tryd.underlying3
  a3 := Tryd.isAgg3
  z3 := Tryd.sizeOf3
  v3 := Tryd.zeroValue3
  t4 := Tryd.underlying4
  a4 := Tryd.isAgg4
  z4 := Tryd.sizeOf4
  v4 := Tryd.zeroValue4
  t5 := Tryd.underlying5
  a5 := Tryd.isAgg5
  z5 := Tryd.sizeOf5
  v5 := Tryd.zeroValue5
  t9 := Tryd.underlying9
  a9 := Tryd.isAgg9
  z9 := Tryd.sizeOf9
  v9 := Tryd.zeroValue9
  t116 := Tryd.underlying133
  a116 := Tryd.isAgg133
  z116 := Tryd.sizeOf133 }
open Go.RowKit Go.Lib in
theorem Tryd.strings_makeASCIISet (hv116 : ∀ w, (zeroValue 133).run Tryd.prog w = .ok (.agg (Array.replicate 256 (.bool false))) w) (chars : ByteArray) (w : World) (hs : chars.size < 4294967281) (hascii : ∀ (j : Nat) b, chars.data.toList[j]? = some b → b.toNat < 128) :
    Calls Tryd.prog 77 #[.string chars] w fun e w' => e = .returned (.tuple #[.agg (Lib.setCells chars.data.toList), .bool true]) ∧ w' = w.alloc (.cells (Lib.setCells chars.data.toList) 133) := Any.strings_makeASCIISet Tryd.lays227 hv116 (by kernel_rfl) chars w hs hascii
def Tryd.lays228_ren : Go.Shelf.Ren := ⟨fun | 228 => 91 | n => n, fun | 124 => 137 | 5 => 5 | 4 => 4 | 0 => 0 | 116 => 133 | n => n, fun | n => n⟩
theorem Tryd.lays228 : Go.Proofs.Lays.n228 Tryd.prog Tryd.lays228_ren := {
  mixed := by kernel_rfl
  f228 := Tryd.func91.trans (congrArg some (by kernel_rfl))
  t0 := Tryd.underlying0
  a0 := Tryd.isAgg0
  z0 := Tryd.sizeOf0
  v0 := Tryd.zeroValue0
  t4 := Tryd.underlying4
  a4 := Tryd.isAgg4
  z4 := Tryd.sizeOf4
  v4 := Tryd.zeroValue4
  t5 := Tryd.underlying5
  a5 := Tryd.isAgg5
  z5 := Tryd.sizeOf5
  v5 := Tryd.zeroValue5
  t116 := Tryd.underlying133
  a116 := Tryd.isAgg133
  z116 := Tryd.sizeOf133
  t124 := Tryd.underlying137
  a124 := Tryd.isAgg137
  z124 := Tryd.sizeOf137
  v124 := Tryd.zeroValue137 }
open Go.RowKit Go.Lib in
/-- '(as *asciiSet) contains(c)': 'as[c]': the set lies at block b, whole. (LAID: no walk: one application.) -/
theorem Tryd.asciiSet_contains (b : Nat) (x : UInt8) (v : Bool) (w : World) (hc : w.cell? ⟨b, x.toNat, none⟩ = some (.bool v)) :
    Calls Tryd.prog 91 #[.pointer (some ⟨b, 0, none⟩), .int .u8 x.toNat] w fun e w' => e = .returned (.bool v) ∧ w' = w := Any.asciiSet_contains Tryd.lays228 b x v w hc
def Tryd.lays260_ren : Go.Shelf.Ren := ⟨fun | 260 => 99 | n => n, fun | 9 => 9 | 21 => 21 | 3 => 3 | 4 => 4 | 5 => 5 | 119 => 157 | 0 => 0 | 46 => 148 | 139 => 160 | 138 => 159 | n => n, fun | 3 => 1 | 4 => 2 | n => n⟩
theorem Tryd.lays260 : Go.Proofs.Lays.n260 Tryd.prog Tryd.lays260_ren := {
  mixed := by kernel_rfl
  f260 := Tryd.func99.trans (congrArg some (by kernel_rfl))
  t0 := Tryd.underlying0
  a0 := Tryd.isAgg0
  z0 := Tryd.sizeOf0
  v0 := Tryd.zeroValue0
  t3 := Tryd.underlying3
  a3 := Tryd.isAgg3
  z3 := Tryd.sizeOf3
  v3 := Tryd.zeroValue3
  t4 := Tryd.underlying4
  a4 := Tryd.isAgg4
  z4 := Tryd.sizeOf4
  v4 := Tryd.zeroValue4
  t5 := Tryd.underlying5
  a5 := Tryd.isAgg5
  z5 := Tryd.sizeOf5
  v5 := Tryd.zeroValue5
  t9 := Tryd.underlying9
  a9 := Tryd.isAgg9
  z9 := Tryd.sizeOf9
  v9 := Tryd.zeroValue9
  t21 := Tryd.underlying21
  a21 := Tryd.isAgg21
  z21 := Tryd.sizeOf21
  v21 := Tryd.zeroValue21
  t46 := Tryd.underlying148
  a46 := Tryd.isAgg148
  z46 := Tryd.sizeOf148
  v46 := Tryd.zeroValue148
  t119 := Tryd.underlying157
  a119 := Tryd.isAgg157
  z119 := Tryd.sizeOf157
  t138 := Tryd.underlying159
  a138 := Tryd.isAgg159
  z138 := Tryd.sizeOf159
  v138 := Tryd.zeroValue159
  t139 := Tryd.underlying160
  a139 := Tryd.isAgg160
  z139 := Tryd.sizeOf160
  v139 := Tryd.zeroValue160
  g3 := by kernel_rfl
  g4 := by kernel_rfl }
open Go.RowKit Go.Lib in
theorem Tryd.utf8_decodeRuneInStringSlow (s : ByteArray) (w : World) (hT : Lib.Utf8Tabs 1 2 w) :
    Calls Tryd.prog 99 #[.string s] w fun e w' => e = .returned (.tuple #[.int .i32 (Lib.decodeGo s).1, .int .i64 (Lib.decodeGo s).2]) ∧ Below w.heap.size w w' := Any.utf8_decodeRuneInStringSlow Tryd.lays260 s w hT
open Go.RowKit Go.Lib in
/-- **unicode/utf8.DecodeRuneInString AT EVERY STRING.** (LAID: no walk: one application.) -/
theorem Tryd.utf8_DecodeRuneInString (s : ByteArray) (w : World) (hT : Lib.Utf8Tabs 1 2 w) :
    Calls Tryd.prog 94 #[.string s] w fun e w' => e = .returned (.tuple #[.int .i32 (Lib.decodeGo s).1, .int .i64 (Lib.decodeGo s).2]) ∧ Below w.heap.size w w' := Any.utf8_DecodeRuneInString Tryd.lays197 s w hT
def Tryd.lays271_ren : Go.Shelf.Ren := ⟨fun | 271 => 92 | 120 => 97 | 197 => 94 | 260 => 99 | n => n, fun | 9 => 9 | 21 => 21 | 3 => 3 | 4 => 4 | 5 => 5 | 105 => 145 | 119 => 157 | 0 => 0 | 46 => 148 | 139 => 160 | 138 => 159 | n => n, fun | 3 => 1 | 4 => 2 | n => n⟩
theorem Tryd.lays271 : Go.Proofs.Lays.n271 Tryd.prog Tryd.lays271_ren := {
  mixed := by kernel_rfl
  f120 := Tryd.func97.trans (congrArg some (by kernel_rfl))
  f197 := Tryd.func94.trans (congrArg some (by kernel_rfl))
  f260 := Tryd.func99.trans (congrArg some (by kernel_rfl))
  f271 := Tryd.func92.trans (congrArg some (by kernel_rfl))
  t0 := Tryd.underlying0
  a0 := Tryd.isAgg0
  z0 := Tryd.sizeOf0
  v0 := Tryd.zeroValue0
  t3 := Tryd.underlying3
  a3 := Tryd.isAgg3
  z3 := Tryd.sizeOf3
  v3 := Tryd.zeroValue3
  t4 := Tryd.underlying4
  a4 := Tryd.isAgg4
  z4 := Tryd.sizeOf4
  v4 := Tryd.zeroValue4
  t5 := Tryd.underlying5
  a5 := Tryd.isAgg5
  z5 := Tryd.sizeOf5
  v5 := Tryd.zeroValue5
  t9 := Tryd.underlying9
  a9 := Tryd.isAgg9
  z9 := Tryd.sizeOf9
  v9 := Tryd.zeroValue9
  t21 := Tryd.underlying21
  a21 := Tryd.isAgg21
  z21 := Tryd.sizeOf21
  v21 := Tryd.zeroValue21
  t46 := Tryd.underlying148
  a46 := Tryd.isAgg148
  z46 := Tryd.sizeOf148
  v46 := Tryd.zeroValue148
  t105 := Tryd.underlying145
  a105 := Tryd.isAgg145
  z105 := Tryd.sizeOf145
  v105 := Tryd.zeroValue145
  t119 := Tryd.underlying157
  a119 := Tryd.isAgg157
  z119 := Tryd.sizeOf157
  t138 := Tryd.underlying159
  a138 := Tryd.isAgg159
  z138 := Tryd.sizeOf159
  v138 := Tryd.zeroValue159
  t139 := Tryd.underlying160
  a139 := Tryd.isAgg160
  z139 := Tryd.sizeOf160
  v139 := Tryd.zeroValue160
  g3 := by kernel_rfl
  g4 := by kernel_rfl }
open Go.RowKit Go.Lib in
/-- **unicode/utf8.DecodeLastRuneInString AT EVERY STRING.** (LAID: no walk: one application.) -/
theorem Tryd.utf8_DecodeLastRuneInString (s : ByteArray) (w : World) (hs : s.size ≤ 9223372036854775807) (hT : Lib.Utf8Tabs 1 2 w) :
    Calls Tryd.prog 92 #[.string s] w fun e w' => e = .returned (.tuple #[.int .i32 (Lib.decodeLastL s.data.toList).1, .int .i64 (Lib.decodeLastL s.data.toList).2]) ∧ Below w.heap.size w w' := Any.utf8_DecodeLastRuneInString Tryd.lays271 s w hs hT
end Go.Proofs

/-
  THE ITERATOR OF segments: its contract.
-/
namespace Go.Proofs.YtjfphjgmphlbhaaDoor
open Go.RowKit Go.ChangeShapes Go.WideShapes Go.ChangeAt
attribute [local go_sem] Oper.semAt_some

set_option maxRecDepth 100000 in
theorem dw_map {l : Wm.Bs} (h : Wm.isBs l) : (l.map fun x => UInt8.ofNat x.toNat).dropWhile (· == 0) = (l.dropWhile (· == 0)).map fun x => UInt8.ofNat x.toNat := by
  induction l with
  | nil => rfl
  | cons x r ih =>
    have hx := h x List.mem_cons_self
    have ih := ih (fun y hy => h y (List.mem_cons_of_mem _ hy))
    rw [List.map_cons]
    by_cases h0 : x = 0
    · subst h0
      rw [List.dropWhile_cons_of_pos (by rfl), List.dropWhile_cons_of_pos (by rfl)]
      exact ih
    · rw [List.dropWhile_cons_of_neg, List.dropWhile_cons_of_neg (by simpa using h0), List.map_cons]
      intro e
      have e1 : UInt8.ofNat x.toNat = 0 := by simpa using e
      have e2 := congrArg UInt8.toNat e1
      rw [UInt8.toNat_ofNat'] at e2
      have e3 : x.toNat % 256 = 0 := e2
      omega
set_option maxRecDepth 100000 in
theorem strN_list (l : Wm.Bs) : (strOfNums l).data.toList = l.map fun x => UInt8.ofNat x.toNat := by
  unfold strOfNums; simp
set_option maxRecDepth 100000 in
theorem trimL {l : Wm.Bs} (h : Wm.isBs l) : (⟨(Lib.trimLeftB (strOfNums l).data.toList 0).toArray⟩ : ByteArray) = strOfNums (Im.lt l) := by
  rw [strN_list]
  unfold Lib.trimLeftB Im.lt strOfNums
  rw [dw_map h]
set_option maxRecDepth 100000 in
theorem trimR {l : Wm.Bs} (h : Wm.isBs l) : (⟨(Lib.trimRightB (strOfNums l).data.toList 0).toArray⟩ : ByteArray) = strOfNums (Im.rt l) := by
  rw [strN_list]
  unfold Lib.trimRightB Im.rt strOfNums
  rw [← List.map_reverse, dw_map (fun x hx => h x (List.mem_reverse.1 hx)), ← List.map_reverse]
set_option maxRecDepth 100000 in
theorem sgs_prefix (b : Wm.Bs) (k : Nat) : ∀ n, k ≤ n → Im.sgs b k <+: Im.sgs b n := by
  intro n hn
  induction n with
  | zero => obtain rfl : k = 0 := by omega
            exact List.prefix_refl _
  | succ n ih =>
    rcases Nat.lt_or_ge n k with h | h
    · obtain rfl : k = n + 1 := by omega
      exact List.prefix_refl _
    · exact (ih h).trans (List.prefix_append _ _)
set_option maxRecDepth 100000 in
theorem later_grown {w w' : World} (h : Later w w') : w.grownBy w' none := ⟨h.os, h.tape, h.output, h.size, fun k hk _ => h.block k hk⟩
set_option maxRecDepth 100000 in
theorem abides_later {β : Type} {B : Nat} {J : β → World → Prop} (hJ : AbidesFrom B J) {s : β} {w w' : World} (h : J s w) (l : Later w w') : J s w' :=
  hJ s w w' none h (later_grown l) (fun r e => by cases e)
set_option maxRecDepth 100000 in
theorem wpListIn_load_addr {F : Fence} {N : Nat} {P : Program} {ops : Array Oper} {rest : List Oper} {o : Oper} {a : Act} {w : World} {Q : Exit → Act → World → Prop} (hgd : o.guard = none) (ty : TypeId) (x : Operand) (ho : o.op = .load ty x)
    (ad : Addr) (cs : List Value) (d : TypeDesc) (hx : a.eval x = .pointer (some ad)) (hc : ∀ j v, cs[j]? = some v → w.cell? (ad.add j) = some v)
    (hu : P.underlying ty = some d) (hd : d.isRow = true) (hi : (P.info? ty).map (·.size) = some cs.length)
    (h : wpListIn F N P ops Q rest (a.put o.dst (.agg cs.toArray)) w) : wpListIn F N P ops Q (o :: rest) a w := by
  refine wpListIn_plain hgd fun K hK => ⟨fun f hf => ?_, ?_⟩
  · simp [Oper.about, ho] at hf
  · rw [Oper.semAt_plain F _ o (fun c e => by rw [ho] at e; cases e)]
    unfold execOp
    simp only [ho, hx, Sem.run_bind, run_loadAt_addr (P := P) w ad ty cs d hc hu hd hi, Sem.run_pure, Result.andThen_ok]
    exact hK _ _ h
set_option maxRecDepth 100000 in
theorem wpListIn_store_abs {F : Fence} {N : Nat} {P : Program} {ops : Array Oper} {rest : List Oper} {o : Oper} {a : Act} {w : World} {Q : Exit → Act → World → Prop} (hgd : o.guard = none) (ty : TypeId) (x y : Operand) (ho : o.op = .store ty x y)
    (g : Nat) (t : TypeId) (old cs : List Value) (hx : a.eval x = .pointer (some ⟨g, 0, none⟩)) (hy : a.eval y = .agg cs.toArray) (hg : Blk w g t old)
    (hi : (P.info? ty).map (·.size) = some cs.length) (hold : old.length = cs.length) (h1 : ∀ v ∈ cs, v.oneCell' = true)
    (h : ∀ w', Blk w' g t cs → Only g w w' → wpListIn F N P ops Q rest (a.put o.dst undef) w') : wpListIn F N P ops Q (o :: rest) a w := by
  refine wpListIn_plain hgd fun K hK => ⟨fun f hf => ?_, ?_⟩
  · simp [Oper.about, ho] at hf
  · rw [Oper.semAt_plain F _ o (fun c e => by rw [ho] at e; cases e)]
    unfold execOp
    simp only [ho, hx, hy, Instr.storeAt, Instr.sureAddr, Sem.run_bind, Sem.run_pure, Result.andThen_ok, run_storeVar_row w g t ty old.toArray cs.toArray hg (by rw [List.size_toArray]; exact hi) (by simpa using hold) (all_oneCell_toArray h1)]
    exact hK _ _ (h _ (hg.row cs) (Only.row _ _ _))
set_option maxRecDepth 100000 in
def encSeg (x : Im.Seg) : Array Value := #[.agg #[.int .i64 x.1, .string x.2]]
set_option maxRecDepth 100000 in
set_option maxHeartbeats 4000000 in
theorem seg1_in (m : Nat) (l Bn n₀ : Nat) (A : Option Addr) (n c : Nat) (b : Wm.Bs) (J Jx : List Im.Seg → World → Prop)
    (hY : ∀ pre x W, J pre W → pre.length < (Im.sgs b n).length → YieldAt Fence.wide (m - 1) Tryd.prog l (encSeg x) W fun e W' =>
      (e = .returned (.bool true) ∧ J (pre ++ [x]) W' ∧ Below n₀ W W') ∨ (e = .returned (.bool false) ∧ Jx (pre ++ [x]) W'))
    (W : World) (hBn : W.cell? ⟨Bn, 0, none⟩ = some (.slice A n c)) (hs : Sl W 128 A n (U b)) (hb : Wm.isBs b) (hn : n ≤ 64) (hA : ∀ ad, A = some ad → ad.block < W.heap.size → ad.block < n₀) (hn₀ : n₀ ≤ W.heap.size) (hJ : AbidesFrom W.heap.size J) (h0 : J [] W) :
    CallsIn Fence.wide m Tryd.prog 53 #[.func (.yield l) #[] #[], .pointer (some ⟨Bn, 0, none⟩)] W fun e W' => (∃ v, e = .returned v) ∧
      ((∃ ys, ys = Im.sgs b n ∧ J ys W') ∨ (∃ pre, pre <+: Im.sgs b n ∧ Jx pre W')) := by
  have HJ := Lib.hid hJ
  have HY := Lib.hid hY
  have HBB := Lib.hid hb
  have HA := Lib.hid fun (w' : World) (h : Sl W 128 A n (U b)) (hl : Below n₀ W w') => h.later hl hA
  have hbl : b.length = n * 128 := by have := hs.1; rwa [U_length] at this
  have HBL := Lib.hid hbl
  clear hJ hY hb hA hbl
  refine callsIn_of_wp Tryd.func53 rfl trivial ?_ rfl
  simp only [Tryd.ntmps53, List.size_toArray, List.length_cons, List.length_nil, Nat.reduceAdd, Nat.reduceSub, Array.replicate_succ, Array.replicate_zero, List.push_toArray, List.append_toArray, List.nil_append, List.cons_append]
  gi_wp2
  gi_loopw [11] (fun i wr => ∃ k : Nat, k ≤ n ∧ i = .int .i64 (k : Int) ∧ J (Im.sgs b k) wr ∧ Below n₀ W wr) (fun i _ => n - (intOf i).toNat)
  case atStart => exact ⟨0, Nat.zero_le _, rfl, h0, Below.refl _ _⟩
  case round =>
    obtain ⟨k, hk, rfl, hJk, hbw⟩ := hrel
    by_cases hlt : k < n
    · have kn : (k : Int) < (n : Int) := by omega
      have hsr := HA.out wr hs hbw
      obtain ⟨ad, rfl⟩ := hs.addr (by omega)
      have hXl := page128 hs hlt
      have hXb := Im.page_bs HBB.out k
      have HC := Lib.hid (hsr.page hlt)
      have hsg : Im.sgs b (k + 1) = Im.sgs b k ++ Im.pseg b k := rfl
      unfold Im.pseg at hsg
      obtain ⟨X, hX⟩ : ∃ X, X = Im.page b k := ⟨_, rfl⟩
      rw [← hX] at HC hXl hXb hsg
      have HX := Lib.hid (show X.length = 128 ∧ Wm.isBs X from ⟨hXl, hXb⟩)
      have hcl := Im.core_len X
      rw [hXl] at hcl
      obtain ⟨up, hup⟩ : ∃ up, up = strOfNums (Im.rt X) := ⟨_, rfl⟩
      obtain ⟨dt, hdt⟩ : ∃ dt, dt = strOfNums (Im.core X) := ⟨_, rfl⟩
      have hus : up.size = (Im.rt X).length := by rw [hup, Im.strN_size]
      have hds : dt.size = (Im.core X).length := by rw [hdt, Im.strN_size]
      have HTR := Lib.hid fun w' => Tryd.strings_TrimRight_one (strOfNums X) 0 (by decide) w' (by rw [Im.strN_size, hXl]; omega)
      rw [trimR hXb, ← hup] at HTR
      have HTL := Lib.hid fun w' => Tryd.strings_TrimLeft_one up 0 (by decide) w'
      rw [show (⟨(Lib.trimLeftB up.data.toList 0).toArray⟩ : ByteArray) = dt by rw [hup, hdt]; exact trimL (Im.rt_bs hXb)] at HTL
      have hde : (Im.core X = []) ↔ dt.size = 0 := by rw [hds]; exact List.length_eq_zero_iff.symm
      rw [hdt.symm, ← hus, ← hds] at hsg
      rw [← hus, ← hds] at hcl
      have hpre := sgs_prefix b (k + 1) n hlt
      have HSG := Lib.hid hsg
      have HPR := Lib.hid hpre
      have HDE := Lib.hid hde
      clear hX hXl hXb hsg hpre hup hdt hus hds hde
      by_cases hz : dt.size = 0
      · have fe : dt.toList.isEmpty = true := by rw [Lib.toList_data, List.isEmpty_iff]; exact List.length_eq_zero_iff.1 hz
        have hsg := HSG.out
        rw [if_pos (HDE.out.2 hz), List.append_nil] at hsg
        have HSE := Lib.hid hsg
        clear hsg
        gi_wp2_with (first
          | ((with_reducible refine wpListIn_load_addr (o := ⟨some 15, .load 76 (.tmp 14), _, _, _, none⟩) rfl _ _ rfl (ad.add (k * 128)) (U X) _ ?_ HC.out Tryd.underlying76 rfl (page_sz HX.out.1) ?_); rfl)
          | ((with_reducible refine wpListIn_store_abs (o := ⟨none, .store 76 (.tmp 4) (.tmp 15), _, _, _, none⟩) rfl _ _ _ rfl wr.heap.size 76 Tryd.zeroCells76.toList (U X) ?_ ?_ (Blk.new wr 76 Tryd.zeroCells76 Tryd.zeroCells76.toList Array.toArray_toList.symm) (page_sz HX.out.1) (page_z HX.out.1) (U_one _) ?_); rfl; rfl; intro wa xr x1; have k1 : Later wr wa := Below.only (later1 wr _) x1 (Nat.le_refl _); have hstr := run_str (P := Tryd.prog) 25 9 5 Tryd.underlying25 Tryd.underlying5 Tryd.underlying9 (blk_sl1 xr HX.out.1) 128)
          | (refine ⟨trivial, fun h => (by cases h), ?_⟩; gi_at_call 54; refine (callsIn_wide.2 (HTR.out _)).mono ?_; rintro e w2 ⟨rfl, rfl⟩)
          | (refine ⟨trivial, fun h => (by cases h), ?_⟩; gi_at_call 55; refine (callsIn_wide.2 (HTL.out _)).mono ?_; rintro e w3 ⟨rfl, rfl⟩))
        all_goals try (refine ⟨fun _ h => (by cases h), ?_⟩)
        all_goals gi_wp2
        go_roundw
        case rel => exact ⟨k + 1, by omega, by go_num, by rw [HSE.out]; exact abides_later HJ.out hJk k1, hbw.trans (k1.mono (Nat.le_trans hn₀ hbw.size))⟩
        case measure => simp [intOf]; omega
      · have fe : dt.toList.isEmpty = false := by
          rw [Lib.toList_data, Bool.eq_false_iff]
          intro h
          exact hz (List.length_eq_zero_iff.2 (List.isEmpty_iff.1 h))
        have hsg := HSG.out
        rw [if_neg (fun h => hz (HDE.out.1 h)), show ((k * 128 + (up.size - dt.size) : Nat) : Int) = (k : Int) * 128 + (up.size : Int) - (dt.size : Int) by omega] at hsg
        have HSE := Lib.hid hsg
        have HLT := Lib.hid (show (Im.sgs b k).length < (Im.sgs b n).length by
          have h1 := HPR.out.length_le
          rw [hsg, List.length_append, List.length_singleton] at h1
          omega)
        clear hsg
        gi_wp2_with (first
          | ((with_reducible refine wpListIn_load_addr (o := ⟨some 15, .load 76 (.tmp 14), _, _, _, none⟩) rfl _ _ rfl (ad.add (k * 128)) (U X) _ ?_ HC.out Tryd.underlying76 rfl (page_sz HX.out.1) ?_); rfl)
          | ((with_reducible refine wpListIn_store_abs (o := ⟨none, .store 76 (.tmp 4) (.tmp 15), _, _, _, none⟩) rfl _ _ _ rfl wr.heap.size 76 Tryd.zeroCells76.toList (U X) ?_ ?_ (Blk.new wr 76 Tryd.zeroCells76 Tryd.zeroCells76.toList Array.toArray_toList.symm) (page_sz HX.out.1) (page_z HX.out.1) (U_one _) ?_); rfl; rfl; intro wa xr x1; have k1 : Later wr wa := Below.only (later1 wr _) x1 (Nat.le_refl _); have hstr := run_str (P := Tryd.prog) 25 9 5 Tryd.underlying25 Tryd.underlying5 Tryd.underlying9 (blk_sl1 xr HX.out.1) 128; obtain ⟨fn, tmps, assign, body, hy, hR⟩ := HY.out (Im.sgs b k) ((k : Int) * 128 + (up.size : Int) - (dt.size : Int), dt) wa (abides_later HJ.out hJk k1) HLT.out; dsimp only [encSeg] at hy)
          | (refine ⟨trivial, fun h => (by cases h), ?_⟩; gi_at_call 54; refine (callsIn_wide.2 (HTR.out _)).mono ?_; rintro e w2 ⟨rfl, rfl⟩)
          | (refine ⟨trivial, fun h => (by cases h), ?_⟩; gi_at_call 55; refine (callsIn_wide.2 (HTL.out _)).mono ?_; rintro e w3 ⟨rfl, rfl⟩)
          | (refine ⟨trivial, fun h => (by cases h), ?_⟩; refine hR.mono ?_; rintro e w4 (⟨rfl, hJ4, hk4⟩ | ⟨rfl, hJx4⟩))
          | (refine ⟨fun h => (by cases h), ?_⟩; refine hR.mono ?_; rintro e w4 (⟨rfl, hJ4, hk4⟩ | ⟨rfl, hJx4⟩)))
        · go_roundw
          case rel => exact ⟨k + 1, by omega, by go_num, by rw [HSE.out]; exact hJ4, (hbw.trans (k1.mono (Nat.le_trans hn₀ hbw.size))).trans hk4⟩
          case measure => simp [intOf]; omega
        · refine bodyPost_ret (results_none rfl _ _ _) rfl ?_
          exact ⟨⟨_, rfl⟩, .inr ⟨_, by rw [← HSE.out]; exact HPR.out, hJx4⟩⟩
    · obtain rfl : k = n := by omega
      have nlt : ¬ ((k : Int) < (k : Int)) := by omega
      gi_wp2
      go_end0
      exact ⟨⟨_, rfl⟩, .inl hJk⟩
set_option maxRecDepth 100000 in
theorem segments_any (v : Value) (w : World) : Calls Tryd.prog 31 #[.agg #[v]] w fun e w' => e = .returned (.func (.func 53) #[] #[.pointer (some ⟨w.heap.size, 0, none⟩)]) ∧ w' = w.alloc (.cells #[v] 24) := by
  go_enter Tryd.func31, Tryd.ntmps31
  go_wp2
  go_ret
  exact ⟨rfl, rfl⟩
set_option maxRecDepth 100000 in
theorem segments_stops (m : Nat) (Bn n₀ : Nat) (A : Option Addr) (n c : Nat) (b : Wm.Bs) (w : World) (hBn : Bn < w.heap.size) (hcell : w.cell? ⟨Bn, 0, none⟩ = some (.slice A n c)) (hs : Sl w 128 A n (U b)) (hb : Wm.isBs b) (hn1 : 1 ≤ n) (hn : n ≤ 64)
    (hA : ∀ ad, A = some ad → ad.block < w.heap.size → ad.block < n₀) (hn₀ : n₀ ≤ w.heap.size) :
    SeqStopsK Fence.wide m Tryd.prog 53 #[.pointer (some ⟨Bn, 0, none⟩)] encSeg (Below n₀) (fun ys => ys = Im.sgs b n) (fun pre => pre <+: Im.sgs b n) (Im.sgs b n).length w := fun l J Jx W hW hJ _ hY h0 => by
  obtain ⟨ad', e', hlt, _⟩ := hs.2 (by omega)
  exact seg1_in m l Bn n₀ A n c b J Jx hY W ((hW.cell (p := ⟨Bn, 0, none⟩) hBn).trans hcell) (hs.keep hW) hb hn (fun ad e _ => by rw [e'] at e; cases e; exact hA ad' e' hlt) (Nat.le_trans hn₀ hW.size) hJ h0
end Go.Proofs.YtjfphjgmphlbhaaDoor
