/-
  THE STATEMENT HashCrcLinear: the check of an exclusive or of three messages is that of their checks.
-/
import Derived.Test.YtblakffpiimbdaaDoorHashV
namespace Go.Proofs.YtblakffpiimbdaaDoor
open Go.RowKit Go.ChangeShapes Go.WideShapes Go.ChangeAt

theorem u8_xor (x y : Int) : bits .xor .u8 x y = q8 (ob x ^^^ ob y) := by
  have hb := (ob x ^^^ ob y).isLt
  show IntKind.u8.wrap (((ob x ^^^ ob y).toNat : Nat) : Int) = _
  rw [wraps_u8 _ (by omega) (by omega)]
  rfl
/-- The bytewise exclusive or; what is missing is 0. -/
def XB (a b : Wm.Bs) (k : Nat) : Wm.Bs := (List.range k).map fun i => q8 (ob (a.getD i 0) ^^^ ob (b.getD i 0))
theorem XB_len (a b : Wm.Bs) (k : Nat) : (XB a b k).length = k := by simp [XB]
theorem XB_bs (a b : Wm.Bs) (k : Nat) : Wm.isBs (XB a b k) := fun x hx => by
  obtain ⟨i, _, rfl⟩ := List.mem_map.1 hx
  exact q8_bd _
theorem XB_succ (a b : Wm.Bs) (k : Nat) : XB a b (k + 1) = XB a b k ++ [q8 (ob (a.getD k 0) ^^^ ob (b.getD k 0))] := by
  unfold XB; rw [List.range_succ, List.map_append]; rfl
theorem XB_bv (a b : Wm.Bs) (h : a.length = b.length) : bv (XB a b a.length) = List.zipWith (· ^^^ ·) (bv a) (bv b) := by
  apply List.ext_getElem
  · rw [bv_len, XB_len, List.length_zipWith, bv_len, bv_len]; omega
  · intro i h1 h2
    rw [bv_len, XB_len] at h1
    have h3 : i < b.length := by omega
    simp [bv, XB, ob_q8, h1, h3]

namespace HmX
open Hm
theorem byteAt_xor (c d : BitVec 8) : byteAt (c ^^^ d) = byteAt c ^^^ byteAt d := by
  unfold byteAt
  rw [BitVec.setWidth_xor, BitVec.shiftLeft_xor_distrib]
theorem byte_xor (r s : Hm.R) (c d : BitVec 8) : Hm.byte (r ^^^ s) (c ^^^ d) = Hm.byte r c ^^^ Hm.byte s d := by
  unfold Hm.byte
  rw [← Hm.Xn_xor, byteAt_xor]
  refine congrArg (Hm.Xn 8) ?_
  generalize byteAt c = p; generalize byteAt d = q
  ac_rfl
theorem bytes_xor (l : List (BitVec 8)) : ∀ (r s : Hm.R) (m : List (BitVec 8)), l.length = m.length → Hm.bytes (r ^^^ s) (List.zipWith (· ^^^ ·) l m) = Hm.bytes r l ^^^ Hm.bytes s m := by
  induction l with
  | nil => intro r s m h; cases m with
    | nil => rfl
    | cons _ _ => cases h
  | cons c l ih =>
    intro r s m h
    cases m with
    | nil => cases h
    | cons d m =>
      have hl : l.length = m.length := Nat.succ.inj h
      rw [List.zipWith_cons_cons]
      unfold Hm.bytes
      rw [List.foldl_cons, List.foldl_cons, List.foldl_cons, byte_xor]
      exact ih _ _ m hl
theorem crc3 (a y z : List (BitVec 8)) (h1 : a.length = y.length) (h2 : a.length = z.length) : Hm.crc (List.zipWith (· ^^^ ·) (List.zipWith (· ^^^ ·) a y) z) = Hm.crc a ^^^ Hm.crc y ^^^ Hm.crc z := by
  unfold Hm.crc
  have e : Hm.ones = Hm.ones ^^^ Hm.ones ^^^ Hm.ones := by decide
  have e2 : Hm.bytes Hm.ones (List.zipWith (· ^^^ ·) (List.zipWith (· ^^^ ·) a y) z) = Hm.bytes Hm.ones a ^^^ Hm.bytes Hm.ones y ^^^ Hm.bytes Hm.ones z := by
    conv => lhs; rw [e]
    rw [bytes_xor _ _ _ z (by rw [List.length_zipWith]; omega), bytes_xor a _ _ y h1]
  rw [e2]
  have e3 : ∀ p q r : Hm.R, p ^^^ q ^^^ r ^^^ (Hm.ones ^^^ Hm.ones ^^^ Hm.ones) = p ^^^ Hm.ones ^^^ (q ^^^ Hm.ones) ^^^ (r ^^^ Hm.ones) := by
    intro p q r
    generalize Hm.ones = o
    ac_rfl
  rw [← e3, ← e]
end HmX
theorem crcI3 (a y z : Wm.Bs) (h1 : a.length = y.length) (h2 : a.length = z.length) : crcI (XB (XB a y a.length) z a.length) = bits .xor .i64 (bits .xor .i64 (crcI a) (crcI y)) (crcI z) := by
  have e1 : (XB a y a.length).length = a.length := XB_len _ _ _
  have e2 := XB_bv (XB a y a.length) z (by rw [e1, h2])
  rw [e1] at e2
  unfold crcI
  rw [e2, XB_bv a y h1, HmX.crc3 _ _ _ (by rw [bv_len, bv_len, h1]) (by rw [bv_len, bv_len, h2]), i64_xor40, i64_xor40]

set_option maxHeartbeats 400000 in
theorem refXor_any (A B : Option Addr) (n c m d : Nat) (a b : Wm.Bs) (w : World) (hs : Sl w 1 A n (U a)) (hs2 : Sl w 1 B m (U b)) (ha : Wm.isBs a) (hb : Wm.isBs b) (hn : n ≤ 1000000) :
    Calls Tryd.prog 28 #[.slice A n c, .slice B m d] w (Made (XB a b n) w) := by
  obtain ⟨i0, hi, hz0, hz1, hz2⟩ := info_parts u8_info
  have hbl := hs2.blen
  have HB := Lib.hid hbl; clear hbl
  go_enter Tryd.func28, Tryd.ntmps28
  go_wp2
  go_loopw [5, 6, 7] (fun v i _ wr => ∃ k : Nat, k ≤ n ∧ i = .int .i64 k ∧ wr.ownsRow w.heap.size 5 1 v (XB a b k).length (U (XB a b k)) ∧ Later w wr) (fun _ i _ _ => n - (intOf i).toNat)
  case atStart => exact ⟨0, Nat.zero_le _, rfl, World.ownsRow_nil _ _ _ _, Below.refl _ _⟩
  case round =>
    obtain ⟨k, hk, rfl, hor, hbr⟩ := hrel
    by_cases hlt : k < n
    · obtain ⟨ad, x, rfl, hbl, hc, hx0, hx1, HX⟩ := (hs.keep hbr).next ha hlt
      have hlen : (XB a b k).length ≤ 1000000 := by rw [XB_len]; omega
      have hsz := hbr.size
      by_cases hlm : k < m
      · obtain ⟨ad2, y, rfl, hbl2, hc2, hy0, hy1, HY⟩ := (hs2.keep hbr).next hb hlm
        obtain ⟨z, hz, hz2'⟩ : ∃ z, bits .xor .u8 x y = z ∧ q8 (ob x ^^^ ob y) = z := ⟨_, rfl, (u8_xor x y).symm⟩
        have hnx := XB_succ a b k
        rw [HX.out.1, HY.out.1, hz2'] at hnx
        have HN := Lib.hid hnx
        clear hnx hz2'
        go_wp2_with (at_builtin; refine wpList_append_own _ rfl _ _ 22 rfl w.heap.size 5 i0 (.int .u8 0) 1 1 Tryd.underlying22 hi hz0 hz1 hz2 rfl (by decide) _ _ _ rfl (hor.alloc _) ⟨wr.heap.size, 0, none⟩ 1 1 [.int .u8 _] rfl rfl (cell_one_new _ _ _) (one_int _ _) (by unfold maxLen; omega) (by omega) (by have := hbr.size; simp; omega) ?_; intro v' w1 hown' hgrow _)
        have hb1 : Later w w1 := (hbr.alloc hbr.size _).grown hgrow (by have := hbr.size; simp; omega) (fun k hk => (hor.lt k hk).1)
        have ho2 := own_snoc hown'
        rw [← HN.out] at ho2
        clear hown' hgrow hor
        go_wp2
        go_roundw
        case rel => exact ⟨k + 1, by omega, by go_num, ho2, hb1⟩
        case measure => simp [intOf]; omega
      · have hnx := XB_succ a b k
        have hy : b.getD k 0 = 0 := by rw [List.getD_eq_getElem?_getD, List.getElem?_eq_none (by rw [HB.out]; omega)]; rfl
        rw [HX.out.1, hy, show ob 0 = 0#8 by decide, BitVec.xor_zero, q8_ob ⟨hx0, hx1⟩] at hnx
        have HN := Lib.hid hnx
        clear hnx hy
        go_wp2_with (at_builtin; refine wpList_append_own _ rfl _ _ 22 rfl w.heap.size 5 i0 (.int .u8 0) 1 1 Tryd.underlying22 hi hz0 hz1 hz2 rfl (by decide) _ _ _ rfl (hor.alloc _) ⟨wr.heap.size, 0, none⟩ 1 1 [.int .u8 _] rfl rfl (cell_one_new _ _ _) (one_int _ _) (by unfold maxLen; omega) (by omega) (by have := hbr.size; simp; omega) ?_; intro v' w1 hown' hgrow _)
        have hb1 : Later w w1 := (hbr.alloc hbr.size _).grown hgrow (by have := hbr.size; simp; omega) (fun k hk => (hor.lt k hk).1)
        have ho2 := own_snoc hown'
        rw [← HN.out] at ho2
        clear hown' hgrow hor
        go_wp2
        go_roundw
        case rel => exact ⟨k + 1, by omega, by go_num, ho2, hb1⟩
        case measure => simp [intOf]; omega
    · obtain rfl : k = n := by omega
      go_wp2
      go_ret
      exact made_of (bs := XB a b k) hor hbr

theorem refXor_got (A B : Option Addr) (n c m d : Nat) (a b y : Wm.Bs) (w : World) (hy : XB a b n = y) (hs : Sl w 1 A n (U a)) (hs2 : Sl w 1 B m (U b)) (ha : Wm.isBs a) (hb : Wm.isBs b) (hn : n ≤ 1000000) :
    Calls Tryd.prog 28 #[.slice A n c, .slice B m d] w fun e w' => ∃ A' c', e = .returned (.slice A' n c') ∧ Sl w' 1 A' n (U y) ∧ Later w w' := by
  refine (refXor_any A B n c m d a b w hs hs2 ha hb hn).mono ?_
  rintro e w' ⟨A', c', rfl, _, _, _, g3, g4⟩
  rw [hy] at g3
  have hl : y.length = n := by rw [← hy, XB_len]
  rw [hy]
  rw [hl] at g3 ⊢
  exact ⟨A', c', rfl, g3, g4⟩
theorem made_zero (n : Nat) : (madeCells (Value.cells (.int .u8 0)) (n * 1)).toList = U (List.replicate n 0) := by
  apply List.ext_getElem
  · simp [madeCells, U]
  · intro i h1 h2
    simp [madeCells, U, Value.cells, Nat.mod_one]

set_option maxRecDepth 100000 in
set_option maxHeartbeats 2000000 in
theorem lawLinear_any (A0 A1 A2 : Option Addr) (n0 n1 n2 c0 c1 c2 : Nat) (b0 b1 b2 : Wm.Bs) (w : World) (tab : Tab w) (s0 : Sl w 1 A0 n0 (U b0)) (s1 : Sl w 1 A1 n1 (U b1)) (s2 : Sl w 1 A2 n2 (U b2))
    (z0 : Wm.isBs b0) (z1 : Wm.isBs b1) (z2 : Wm.isBs b2) (y0 : n0 ≤ maxLen) :
    Calls Tryd.prog 9 #[.slice A0 n0 c0, .slice A1 n1 c1, .slice A2 n2 c2] w fun e w' => e = .returned (.bool true) ∧ Later w w' := by
  have HS := Lib.hid (sanity_any w tab)
  clear tab
  unfold maxLen at y0
  rcases Nat.lt_or_ge 400 n0 with h0 | h0
  · go_enter Tryd.func9, Tryd.ntmps9
    go_wp2_with (go_at_call 15; refine HS.out.mono ?_; rintro e w1 ⟨rfl, l1⟩)
    go_ret
    exact ⟨rfl, l1⟩
  clear y0
  obtain ⟨i0, hi, hz0, hz1, hz2⟩ := info_parts u8_info
  have hm8 : i0.bytes * n0 ≤ 281474976710656 := by rw [hz2]; omega
  have e0 := s0.blen
  have zz : Wm.isBs (List.replicate n0 0) := fun x hx => by rw [List.eq_of_mem_replicate hx]; omega
  obtain ⟨zs, hzs⟩ : ∃ x, x = List.replicate n0 (0 : Int) := ⟨_, rfl⟩
  rw [← hzs] at zz
  obtain ⟨y, hy⟩ : ∃ x, XB zs b1 n0 = x := ⟨_, rfl⟩
  obtain ⟨z, hz⟩ : ∃ x, XB zs b2 n0 = x := ⟨_, rfl⟩
  obtain ⟨p, hp⟩ : ∃ x, XB b0 y n0 = x := ⟨_, rfl⟩
  obtain ⟨q, hq⟩ : ∃ x, XB p z n0 = x := ⟨_, rfl⟩
  have by_ : Wm.isBs y := by rw [← hy]; exact XB_bs _ _ _
  have bz_ : Wm.isBs z := by rw [← hz]; exact XB_bs _ _ _
  have bp_ : Wm.isBs p := by rw [← hp]; exact XB_bs _ _ _
  have bq_ : Wm.isBs q := by rw [← hq]; exact XB_bs _ _ _
  have ly : b0.length = y.length := by rw [← hy, XB_len, e0]
  have lz : b0.length = z.length := by rw [← hz, XB_len, e0]
  have h3 := crcI3 b0 y z ly lz
  rw [e0, hp, hq] at h3
  obtain ⟨r0, hr0⟩ : ∃ x, x = crcI b0 := ⟨_, rfl⟩
  obtain ⟨r1, hr1⟩ : ∃ x, x = crcI y := ⟨_, rfl⟩
  obtain ⟨r2, hr2⟩ : ∃ x, x = crcI z := ⟨_, rfl⟩
  obtain ⟨r3, hr3⟩ : ∃ x, x = crcI q := ⟨_, rfl⟩
  rw [← hr0, ← hr1, ← hr2, ← hr3] at h3
  obtain ⟨t, ht, ht2⟩ : ∃ t, bits .xor .i64 r0 r1 = t ∧ bits .xor .i64 t r2 = r3 := ⟨_, rfl, h3.symm⟩
  have K1 := Lib.hid fun w' Z (h : Sl w' 1 Z n0 (U zs)) (hw : Later w w') => refXor_got Z A1 n0 n0 n1 c1 zs b1 y w' hy h (s1.keep hw) zz z1 (by omega)
  have K2 := Lib.hid fun w' Z (h : Sl w' 1 Z n0 (U zs)) (hw : Later w w') => refXor_got Z A2 n0 n0 n2 c2 zs b2 z w' hz h (s2.keep hw) zz z2 (by omega)
  have K3 := Lib.hid fun w' Y c (h : Sl w' 1 Y n0 (U y)) (hw : Later w w') => refXor_got A0 Y n0 c0 n0 c b0 y p w' hp (s0.keep hw) h z0 by_ (by omega)
  have K4 := Lib.hid fun w' P cp Z c (h : Sl w' 1 P n0 (U p)) (h2 : Sl w' 1 Z n0 (U z)) => refXor_got P Z n0 cp n0 c p z q w' hq h h2 bp_ bz_ (by omega)
  have C0 := Lib.hid fun w' (hw : Later w w') => by have h := crc40_any A0 n0 c0 b0 w' (s0.keep hw) z0 (by unfold maxLen; omega); rw [← hr0] at h; exact h
  have C1 := Lib.hid fun w' A c (hs : Sl w' 1 A n0 (U y)) => by have h := crc40_any A n0 c y w' hs by_ (by unfold maxLen; omega); rw [← hr1] at h; exact h
  have C2 := Lib.hid fun w' A c (hs : Sl w' 1 A n0 (U z)) => by have h := crc40_any A n0 c z w' hs bz_ (by unfold maxLen; omega); rw [← hr2] at h; exact h
  have C3 := Lib.hid fun w' A c (hs : Sl w' 1 A n0 (U q)) => by have h := crc40_any A n0 c q w' hs bq_ (by unfold maxLen; omega); rw [← hr3] at h; exact h
  have HZ := Lib.hid hzs
  clear hzs hy hz hp hq hr0 hr1 hr2 hr3 h3 ly lz e0 by_ bz_ bp_ bq_ zz z0 z1 z2
  go_enter Tryd.func9, Tryd.ntmps9
  go_wp2_with (first
    | (go_at_call 15; refine HS.out.mono ?_; rintro e w1 ⟨rfl, l1⟩)
    | (at_make; refine wpList_make_full _ rfl _ _ 22 rfl w.heap.size 5 i0 (.int .u8 0) 1 Tryd.underlying22 hi hz0 hz1 _ _ _ _ n0 rfl rfl rfl rfl hm8 (by unfold maxLen; omega) l1.size ?_; intro w2 o2 hg2; have l2 : Later w w2 := l1.grown hg2 l1.size (fun k hk => by cases hk); obtain ⟨Z0, cz0, hv, _, _, f2, _⟩ := own_form o2; cases hv; rw [made_zero, ← HZ.out] at f2; clear o2 hg2)
    | (go_at_call 28; (with_reducible refine (K4.out w5 P cP Z cZ g5 (g4.keep h5)).mono ?_); rintro e w6 ⟨Q, cQ, rfl, g6, h6⟩; have l6 : Later w w6 := Later.trans_ l5 h6)
    | (go_at_call 28; (with_reducible refine (K3.out w4 Y cY (g3.keep h4) l4).mono ?_); rintro e w5 ⟨P, cP, rfl, g5, h5⟩; have l5 : Later w w5 := Later.trans_ l4 h5)
    | (go_at_call 28; (with_reducible refine (K2.out w3 _ (f2.keep h3) l3).mono ?_); rintro e w4 ⟨Z, cZ, rfl, g4, h4⟩; have l4 : Later w w4 := Later.trans_ l3 h4)
    | (go_at_call 28; (with_reducible refine (K1.out w2 _ f2 l2).mono ?_); rintro e w3 ⟨Y, cY, rfl, g3, h3⟩; have l3 : Later w w3 := Later.trans_ l2 h3)
    | (go_at_call 16; (with_reducible refine (C2.out w9 Z cZ ((((g4.keep h5).keep h6).keep h7).keep (Later.trans_ h8 h9))).mono ?_); rintro e w10 ⟨rfl, h10⟩; have l10 : Later w w10 := Later.trans_ l9 h10)
    | (go_at_call 16; (with_reducible refine (C1.out w8 Y cY (((((g3.keep h4).keep h5).keep h6).keep h7).keep h8)).mono ?_); rintro e w9 ⟨rfl, h9⟩; have l9 : Later w w9 := Later.trans_ l8 h9)
    | (go_at_call 16; (with_reducible refine (C0.out w7 l7).mono ?_); rintro e w8 ⟨rfl, h8⟩; have l8 : Later w w8 := Later.trans_ l7 h8)
    | (go_at_call 16; (with_reducible refine (C3.out w6 Q cQ g6).mono ?_); rintro e w7 ⟨rfl, h7⟩; have l7 : Later w w7 := Later.trans_ l6 h7))
  go_ret
  exact ⟨rfl, l10⟩

theorem hashCrcLinear_contract (H : Type) (enc : TypeId × Value → H) (W : World) (base : Nat) (args : Array Value) (ds gs : List (DataW H)) (before : List MemPlace)
    (hval : ∀ (j : Nat) t v, Tryd.f9.params[j]? = some t → args[j]? = some v → Value.okWide Tryd.prog W .any base t v)
    (hW : DataW.Whole enc Tryd.prog Tryd.f9.params.toList Rows.hashCrcLinearSpec.vars false W args.toList ds gs before) (hL : laidMetH Tryd.prog Rows.hashCrcLinearRow.laid W) :
    Calls Tryd.prog 9 args W fun e W' => ∃ v, e = .returned v ∧ Rows.hashCrcLinearSpec.post enc Tryd.prog Tryd.f9 false true false false W args v W' := by
  have hW' := hW
  have tab : Tab W := tab_of hL
  obtain ⟨p, q, hA0, hV, rfl, _, _⟩ := hW
  have hA : DataW.TrodAll enc Tryd.prog W 0 (fun _ => true) true Tryd.f9.params.toList args.toList ds p := hA0
  rw [Tryd.params9] at hA hval
  obtain ⟨v0, vs0, d0, ds0, p0, q0, hargs, rfl, rfl, h0, r0⟩ := trodAll_cons hA
  obtain ⟨v1, vs1, d1, ds1, p1, q1, rfl, rfl, rfl, h1, r1⟩ := trodAll_cons r0
  obtain ⟨v2, vs2, d2, ds2, p2, q2, rfl, rfl, rfl, h2, r2⟩ := trodAll_cons r1
  obtain ⟨rfl, rfl, rfl⟩ := trodAll_nil r2
  obtain rfl : args = #[v0, v1, v2] := by cases args; simp_all
  obtain ⟨rfl, rfl⟩ := trodVars_none hV
  obtain ⟨A0, n0, c0, b0, rfl, x0, y0, s0, z0⟩ := bytes_arg Tryd.underlying22 Tryd.underlying5 (by kernel_rfl) (hval 0 22 v0 rfl rfl) h0
  obtain ⟨A1, n1, c1, b1, rfl, x1, y1, s1, z1⟩ := bytes_arg Tryd.underlying22 Tryd.underlying5 (by kernel_rfl) (hval 1 22 v1 rfl rfl) h1
  obtain ⟨A2, n2, c2, b2, rfl, x2, y2, s2, z2⟩ := bytes_arg Tryd.underlying22 Tryd.underlying5 (by kernel_rfl) (hval 2 22 v2 rfl rfl) h2
  clear hA0
  simp only [List.append_nil] at hW'
  refine (lawLinear_any A0 A1 A2 n0 n1 n2 c0 c1 c2 b0 b1 b2 W tab s0 s1 s2 z0 z1 z2 (Nat.le_trans x0 y0)).mono fun e W' ⟨he, hw⟩ => ?_
  subst he
  exact ⟨_, rfl, law_post laidK rfl (by kernel_rfl) (by kernel_rfl) Tryd.underlying4 (by kernel_rfl) hW' rfl hw⟩
theorem hashCrcLinear_met (os : Os) : laidMet Tryd.prog Rows.hashCrcLinearRow.laid ((laidWorld os).forCall (fun _ _ => 0) ⟨#[], #[.slice none 0 0, .slice none 0 0, .slice none 0 0], []⟩).memory :=
  laidMet_of_run' 8 (by kernel_rfl) (by kernel_rfl)
theorem hashCrcLinear_reads (os : Os) {H : Type} (enc : TypeId × Value → H) : ∃ places, DataW.whole enc Tryd.prog ((laidWorld os).forCall (fun _ _ => 0) ⟨#[], #[.slice none 0 0, .slice none 0 0, .slice none 0 0], []⟩).memory Tryd.f9.params.toList Rows.hashCrcLinearSpec.vars false (#[.slice none 0 0, .slice none 0 0, .slice none 0 0] : Array Value).toList 8 = some ([.nil, .nil, .nil], [], places) :=
  ⟨[], by kernel_rfl⟩

set_option maxRecDepth 100000 in
theorem hashCrcLinear_lifted (os : Os) (started : os.Started) (H : Type) (enc : TypeId × Value → H) (F : Stop.Interp) :
    ReturnsInHanded {} Tryd.checked os 9 .any ((OpenSpec.ofChange Rows.hashCrcLinearSpec).preRow enc Tryd.prog Tryd.f9 Rows.hashCrcLinearRow.domain false Rows.hashCrcLinearRow.laid) (((OpenSpec.ofChange Rows.hashCrcLinearSpec).at F).post enc Tryd.prog Tryd.f9 false true false false) := by
  obtain ⟨places, hx⟩ := hashCrcLinear_reads os enc
  refine returnsInHanded_of_row (C := Tryd.checked) (s := OpenSpec.ofChange Rows.hashCrcLinearSpec) ownK started (by kernel_rfl) Tryd.func9
    (witness_row_at (enc := enc) (C := Tryd.checked) false (laidWorld os) #[.slice none 0 0, .slice none 0 0, .slice none 0 0] rfl (by kernel_rfl) (by kernel_rfl) (by kernel_rfl)
      (OpenSpec.preRow_of_cond 8 hx (by kernel_rfl) (fun k hk => by cases hk) (by kernel_rfl) (hashCrcLinear_met os))) ?_
  intro W base args ds gs before hval hW _ _ _ hL _ _
  exact hashCrcLinear_contract H enc W base args ds gs before hval hW hL

set_option maxRecDepth 100000 in
theorem hashCrcLinear_said : Rows.HashCrcLinearSaid :=
  OpenClaim.holds_of_cond 9 Tryd.f9 rfl rfl rfl rfl rfl rfl rfl ⟨rfl, rfl, rfl, rfl, rfl⟩ rfl rfl rfl rfl rfl (by kernel_rfl) Tryd.func9 (by kernel_rfl)
    (of_decide_eq_true (by kernel_rfl)) (by unfold Func.isWrapper; first | (rw [if_pos (by decide +kernel)]; kernel_rfl) | (rw [if_neg (by decide +kernel)]; exact ⟨rfl, rfl⟩))
    (fun os started H enc _ F => by rw [OpenClaim.pre_eq_preRow]; exact hashCrcLinear_lifted os started H enc F)

theorem hashCrcLinear_plain (f : FuncId) (fn : Func) (hf : Tryd.pinned.checked.prog.funcNamed "simulacrum/simulacrumlaw02.HashCrcLinear" = some f) (hfn : Tryd.pinned.checked.prog.funcs[f]? = some fn) :
    false = Tryd.pinned.checked.prog.looks [] ∧ ∀ (j : Nat) t, fn.params[j]? = some t → Tryd.pinned.checked.prog.wantsStandIn t = false := by
  obtain rfl : f = 9 := Option.some.inj ((show Tryd.prog.funcNamed "simulacrum/simulacrumlaw02.HashCrcLinear" = some 9 by kernel_rfl).symm.trans hf) |>.symm
  obtain rfl : fn = Tryd.f9 := (Option.some.inj (Tryd.func9.symm.trans hfn)).symm
  refine ⟨by kernel_rfl, fun j t ht => ?_⟩
  exact wants_none 9 Tryd.f9.params (by kernel_rfl) j t ht

/-- The card. -/
theorem hashCrcLinear_card : Rows.HashCrcLinearCardSaid :=
  Claim7.holds_tied_plain_at .later [] _ _ _ _ hashCrcLinear_said (fun _ h => by cases h) (by kernel_rfl) (fun _ h => by cases h) hashCrcLinear_row_tie rfl ⟨rfl, rfl⟩ (by kernel_rfl) rfl hashCrcLinear_plain (by kernel_rfl)
#print axioms hashCrcLinear_card

end Go.Proofs.YtblakffpiimbdaaDoor
