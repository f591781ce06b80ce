/-
  Lists read back, whatever follows: the walk of WireListRoundTrip.
-/
import Derived.Test.YtaknnccmohgmpaaWireP8
namespace Go.Proofs.Ytaknnccmohgmpaa
open Go.RowKit Go.ChangeShapes Go.WideShapes Go.ChangeAt

theorem encT_eq (l : List ByteArray) : Wm.encL encT l = Wm.encL Wm.encB (l.map Wm.ofS) := by
  unfold Wm.encL
  rw [List.length_map, List.flatMap_map]
  rfl
theorem strs_same (l : List ByteArray) : (l.map Wm.ofS).map strOfNums = l := by
  induction l with
  | nil => rfl
  | cons x r ih => rw [List.map_cons, List.map_cons, ih, Wm.str_ofS]

set_option maxRecDepth 100000 in
set_option maxHeartbeats 4000000 in
theorem lists_any (s : ByteArray) (A2 : Option Addr) (n2 c2 : Nat) (l2 : List Int) (A3 : Option Addr) (n3 c3 : Nat) (l3 : List ByteArray) (A4 : Option Addr) (n4 c4 : Nat) (l4 : List Wm.Bs) (A5 : Option Addr) (n5 c5 : Nat) (b5 : Wm.Bs) (w : World)
    (hs2 : Sl w 1 A2 n2 (N64 l2)) (hl2 : inR l2) (hs3 : Sl w 1 A3 n3 (Strs l3)) (hs4 : Sl w 16 A4 n4 (Ds l4)) (hl4 : isD l4) (hs5 : Sl w 1 A5 n5 (U b5)) (hb5 : Wm.isBs b5)
    (hx : n3 + tot l3 ≤ 9223372036854775807) (hsum : s.size + n2 + n4 + n5 ≤ 9223372036854775807) :
    Calls Try.prog 8 #[.string s, .slice A2 n2 c2, .slice A3 n3 c3, .slice A4 n4 c4, .slice A5 n5 c5] w fun e w' => e = .returned (.bool true) ∧ Later w w' := by
  obtain ⟨i0, hi, hz0, hz1, hz2⟩ := info_parts u8_info
  have HS := Lib.hid (sanity_any)
  have HF := Lib.hid (few_any A3 n3 c3 l3 w hs3 hx)
  by_cases hbig : 2000 < s.size + n2 + n4 + n5
  · go_enter Try.func8, Try.ntmps8
    go_wp2_with (go_at_call 12; refine (HS.out _).mono ?_; rintro e w' ⟨rfl, hb'⟩)
    go_ret
    exact ⟨rfl, hb'⟩
  · by_cases hfew : n3 + tot l3 ≤ 2000
    · rw [decide_eq_true hfew] at HF
      have hm3 : l3.length = n3 := by have := hs3.mlen; exact this
      have hm2 : l2.length = n2 := by have := hs2.1; simpa [N64] using this
      have hm4 := hs4.dlen hl4
      have hin3 : inS l3 := fun y hy => by have := tot_mem hy; omega
      have b1 : (Wm.encB (Wm.ofS s)).length ≤ 2010 := by rw [Wm.encB_len, Wm.ofS_length]; have := Wm.encI_len (n := (s.size : Int)) (by omega) (by omega); omega
      have b2 : (Wm.encL Wm.encI l2).length ≤ 20010 := by rcases ints_len hl2 with h | h <;> omega
      have b3 : (encD l4).length ≤ 40010 := by rw [encD_len hl4]; have := Wm.encI_len (n := (l4.length : Int)) (by omega) (by omega); omega
      have b4 : (Wm.encL encT l3).length ≤ 30010 := by have := texts_len l3 (by omega); omega
      have a1 : 1 ≤ (Wm.encB (Wm.ofS s)).length := by rw [Wm.encB_len]; have := Wm.encI_pos ((Wm.ofS s).length : Int); omega
      have a2 : 1 ≤ (Wm.encL Wm.encI l2).length := by unfold Wm.encL; rw [List.length_append]; have := Wm.encI_pos (l2.length : Int); omega
      have a3 : 1 ≤ (encD l4).length := by rw [encD_len hl4]; have := Wm.encI_pos (l4.length : Int); omega
      have a4 : 1 ≤ (Wm.encL encT l3).length := by unfold Wm.encL; rw [List.length_append]; have := Wm.encI_pos (l3.length : Int); omega
      obtain ⟨k1, hk1⟩ : ∃ k, k = (Wm.encB (Wm.ofS s)).length := ⟨_, rfl⟩
      obtain ⟨k2, hk2⟩ : ∃ k, k = (Wm.encL Wm.encI l2).length := ⟨_, rfl⟩
      obtain ⟨k3, hk3⟩ : ∃ k, k = (encD l4).length := ⟨_, rfl⟩
      obtain ⟨k4, hk4⟩ : ∃ k, k = (Wm.encL encT l3).length := ⟨_, rfl⟩
      have hd1 : Wm.decB (Wm.encB (Wm.ofS s) ++ b5) = (Wm.ofS s, k1, 0) := by rw [hk1]; exact Wm.decB_encB _ _ (by rw [Wm.ofS_length]; omega)
      have hd2 : Wm.decL Wm.decI 1 (Wm.encL Wm.encI l2 ++ b5) = (l2, k2, 0) := by rw [hk2]; exact Wm.ints_back l2 b5 hl2 (by omega)
      have hd3 : Wm.decL decD 16 (encD l4 ++ b5) = (l4, k3, 0) := by rw [hk3]; exact digs_back l4 hl4 (by omega) b5
      have hd4 : Wm.decL Wm.decB 1 (Wm.encL encT l3 ++ b5) = (l3.map Wm.ofS, k4, 0) := by
        rw [hk4, encT_eq]
        exact Wm.strs_back _ b5 (fun y hy => by obtain ⟨z, hz, rfl⟩ := List.mem_map.1 hy; rw [Wm.ofS_length]; exact hin3 z hz) (by rw [List.length_map]; omega)
      have E1 := Lib.hid fun (w' : World) => made_len (wireBytes_any s w' (by omega) (by omega)) hk1
      have E2 := Lib.hid fun (w' : World) (h : Sl w' 1 A2 n2 (N64 l2)) => made_len (wireInts_any A2 n2 c2 l2 w' h hl2 (by unfold maxLen; omega) (by omega)) hk2
      have E3 := Lib.hid fun (w' : World) (h : Sl w' 16 A4 n4 (Ds l4)) => made_len (wireDigs_any A4 n4 c4 l4 w' h hl4 (by unfold maxLen; omega) (by omega)) hk3
      have E4 := Lib.hid fun (w' : World) (h : Sl w' 1 A3 n3 (Strs l3)) => made_len (wireStrs_any A3 n3 c3 l3 w' h hin3 (by unfold maxLen; omega) (by omega)) hk4
      have D1 := Lib.hid fun (w' : World) (X : Option Addr) (q : Nat) (g : k1 + n5 ≤ q) (g2 : q ≤ maxLen) (h : Sl w' 1 X (k1 + n5) (U (Wm.encB (Wm.ofS s)) ++ U b5)) => Calls.outB (getBytes_any X (k1 + n5) q (Wm.encB (Wm.ofS s) ++ b5) w' (by rw [U_append]; exact h) (bs_append (Wm.encB_bytes (Wm.ofS_bytes s)) hb5) g g2) hd1
      rw [Wm.str_ofS] at D1
      have D2 := Lib.hid fun (w' : World) (X : Option Addr) (q : Nat) (g : k2 + n5 ≤ q) (g2 : q ≤ maxLen) (h : Sl w' 1 X (k2 + n5) (U (Wm.encL Wm.encI l2) ++ U b5)) => Calls.gotInts (wireGetInts_any X (k2 + n5) q (Wm.encL Wm.encI l2 ++ b5) w' (by rw [U_append]; exact h) (bs_append (ints_bytes l2) hb5) g g2 (by omega)) hd2
      have D3 := Lib.hid fun (w' : World) (X : Option Addr) (q : Nat) (g : k3 + n5 ≤ q) (g2 : q ≤ maxLen) (h : Sl w' 1 X (k3 + n5) (U (encD l4) ++ U b5)) => Calls.gotDigs (wireGetDigs_any X (k3 + n5) q (encD l4 ++ b5) w' (by rw [U_append]; exact h) (bs_append (encD_bytes hl4) hb5) g g2 (by omega)) hd3
      have D4 := Lib.hid fun (w' : World) (X : Option Addr) (q : Nat) (g : k4 + n5 ≤ q) (g2 : q ≤ maxLen) (h : Sl w' 1 X (k4 + n5) (U (Wm.encL encT l3) ++ U b5)) => Calls.gotStrs (wireGetStrs_any X (k4 + n5) q (Wm.encL encT l3 ++ b5) w' (by rw [U_append]; exact h) (bs_append (texts_bytes l3) hb5) g g2 (by omega)) hd4
      rw [strs_same] at D4
      have C2 := Lib.hid fun (w' : World) (Z : Option Addr) (m d : Nat) (h : Sl w' 1 Z m (N64 l2)) (h2 : Sl w' 1 A2 n2 (N64 l2)) (g : m ≤ d ∧ d ≤ maxLen) => sameInts_any Z A2 m d n2 c2 l2 l2 w' h h2 (Nat.le_trans g.1 g.2) (by unfold maxLen; omega)
      have C3 := Lib.hid fun (w' : World) (Z : Option Addr) (m d : Nat) (h : Sl w' 16 Z m (Ds l4)) (h2 : Sl w' 16 A4 n4 (Ds l4)) (g : m ≤ d ∧ d ≤ maxLen) => sameDigs_any Z A4 m d n4 c4 l4 l4 w' h h2 hl4 hl4 (Nat.le_trans g.1 g.2) (by unfold maxLen; omega)
      have C4 := Lib.hid fun (w' : World) (Z : Option Addr) (m d : Nat) (h : Sl w' 1 Z m (Strs l3)) (h2 : Sl w' 1 A3 n3 (Strs l3)) (g : m ≤ d ∧ d ≤ maxLen) => sameTexts_any Z A3 m d n3 c3 l3 l3 w' h h2 (Nat.le_trans g.1 g.2) (by unfold maxLen; omega)
      rw [decide_eq_true (rfl : l2 = l2)] at C2
      rw [decide_eq_true (rfl : l4 = l4)] at C3
      rw [decide_eq_true (rfl : l3 = l3)] at C4
      rw [← hk1] at a1 b1
      rw [← hk2] at a2 b2
      rw [← hk3] at a3 b3
      rw [← hk4] at a4 b4
      clear hm2 hm3 hm4 hk1 hk2 hk3 hk4 hfew hd1 hd2 hd3 hd4
      have t1 := bs_beq s
      go_enter Try.func8, Try.ntmps8
      go_wp2_with (first
        | (go_at_call 11; refine (HF.out).mono ?_; rintro e w0 ⟨rfl, j0⟩)
        | (go_at_call 16; refine (E1.out w0).mono ?_; rintro e w1 ⟨Z1, d1, rfl, _, _, s1, j1⟩; have q1 := Later.trans_ j0 j1)
        | (go_at_call 18; refine (E2.out w1 (hs2.keep q1)).mono ?_; rintro e w2 ⟨Z2, d2, rfl, _, _, s2, j2⟩; have q2 := Later.trans_ q1 j2)
        | (go_at_call 22; refine (E3.out w2 (hs4.keep q2)).mono ?_; rintro e w3 ⟨Z3, d3, rfl, _, _, s3, j3⟩; have q3 := Later.trans_ q2 j3)
        | (go_at_call 20; refine (E4.out w3 (hs3.keep q3)).mono ?_; rintro e w4 ⟨Z4, d4, rfl, _, _, s4, j4⟩; have q4 := Later.trans_ q3 j4; have u1 := s1.keep (Later.trans_ (Later.trans_ j2 j3) j4); have u2 := s2.keep (Later.trans_ j3 j4); have u3 := s3.keep j4)
        | (at_builtin; first
          | (refine wpList_app_full _ rfl _ _ 28 rfl 5 i0 (.int .u8 0) 1 1 Try.underlying28 hi hz0 hz1 hz2 rfl (by decide) Z4 k4 _ rfl (by omega) (s4.keep p9) (by unfold maxLen; omega) A5 n5 c5 _ rfl (hs5.keep (Later.trans_ q4 p9)) (by unfold maxLen; omega) (by omega) ?_; intro X4 e4 w10 x13 x14 x15 x16; have p10 := Later.trans_ p9 x16)
          | (refine wpList_app_full _ rfl _ _ 28 rfl 5 i0 (.int .u8 0) 1 1 Try.underlying28 hi hz0 hz1 hz2 rfl (by decide) Z3 k3 _ rfl (by omega) (u3.keep p7) (by unfold maxLen; omega) A5 n5 c5 _ rfl (hs5.keep (Later.trans_ q4 p7)) (by unfold maxLen; omega) (by omega) ?_; intro X3 e3 w8 x9 x10 x11 x12; have p8 := Later.trans_ p7 x12)
          | (refine wpList_app_full _ rfl _ _ 28 rfl 5 i0 (.int .u8 0) 1 1 Try.underlying28 hi hz0 hz1 hz2 rfl (by decide) Z2 k2 _ rfl (by omega) (u2.keep p5) (by unfold maxLen; omega) A5 n5 c5 _ rfl (hs5.keep (Later.trans_ q4 p5)) (by unfold maxLen; omega) (by omega) ?_; intro X2 e2 w6 x5 x6 x7 x8; have p6 := Later.trans_ p5 x8)
          | (refine wpList_app_full _ rfl _ _ 28 rfl 5 i0 (.int .u8 0) 1 1 Try.underlying28 hi hz0 hz1 hz2 rfl (by decide) Z1 k1 _ rfl (by omega) u1 (by unfold maxLen; omega) A5 n5 c5 _ rfl (hs5.keep q4) (by unfold maxLen; omega) (by omega) ?_; intro X1 e1 w5 x1 x2 x3 x4; have p5 := x4))
        | (go_at_call 26; refine (D1.out w5 X1 e1 x1 x2 x3).mono ?_; rintro e w6' ⟨rfl, rfl⟩)
        | (go_at_call 28; refine (D2.out w6 X2 e2 x5 x6 x7).mono ?_; rintro e w7 ⟨Y2, m2, f2, rfl, y1, y2, y3, y4⟩; have p7 := Later.trans_ p6 y4)
        | (go_at_call 34; refine (D3.out w8 X3 e3 x9 x10 x11).mono ?_; rintro e w9 ⟨Y3, m3, f3, rfl, y5, y6, y7, y8⟩; have p9 := Later.trans_ p8 y8)
        | (go_at_call 31; refine (D4.out w10 X4 e4 x13 x14 x15).mono ?_; rintro e w11 ⟨Y4, m4, f4, rfl, y9, y10, y11, y12⟩; have p11 := Later.trans_ p10 y12; have v2 := y3.keep (Later.trans_ (Later.trans_ (Later.trans_ x12 y8) x16) y12); have v3 := y7.keep (Later.trans_ x16 y12))
        | (go_at_call 12; refine (HS.out _).mono ?_; rintro e w12 ⟨rfl, z1⟩; have p12 := Later.trans_ q4 (Later.trans_ p11 z1))
        | (go_at_call 33; refine (C4.out w12 Y4 m4 f4 (y11.keep z1) (hs3.keep p12) ⟨y9, y10⟩).mono ?_; rintro e w13 ⟨rfl, z2⟩; have p13 := Later.trans_ p12 z2)
        | (go_at_call 30; refine (C2.out w13 Y2 m2 f2 (v2.keep (Later.trans_ z1 z2)) (hs2.keep p13) ⟨y1, y2⟩).mono ?_; rintro e w14 ⟨rfl, z3⟩; have p14 := Later.trans_ p13 z3)
        | (go_at_call 36; refine (C3.out w14 Y3 m3 f3 (v3.keep (Later.trans_ (Later.trans_ z1 z2) z3)) (hs4.keep p14) ⟨y5, y6⟩).mono ?_; rintro e w15 ⟨rfl, z4⟩))
      go_ret
      exact ⟨ret_bool (by simp), Later.trans_ p14 z4⟩
    · rw [decide_eq_false hfew] at HF
      go_enter Try.func8, Try.ntmps8
      go_wp2_with (first
        | (go_at_call 11; refine (HF.out).mono ?_; rintro e w0 ⟨rfl, j0⟩)
        | (go_at_call 12; refine (HS.out _).mono ?_; rintro e w1 ⟨rfl, j1⟩))
      go_ret
      exact ⟨rfl, Later.trans_ j0 j1⟩

set_option maxRecDepth 100000 in
theorem lists_lifted (os : Os) (started : os.Started) (H : Type) (enc : TypeId × Value → H) (F : Stop.Interp) :
    ReturnsInHanded {} Try.checked os 8 .any ((Rows.OpenSpec.upto Rows.wireListRoundTripSpec).pre6 enc Try.prog Try.f8 Rows.wireListRoundTripUptoRow.domain false) (((Rows.OpenSpec.upto Rows.wireListRoundTripSpec).at F).post enc Try.prog Try.f8 false true false false) := by
  refine returnsInHanded_of_cond (C := Try.checked) (s := Rows.OpenSpec.upto Rows.wireListRoundTripSpec) (k := Rows.uptoSmall) rfl ownK started (by kernel_rfl) Try.func8
    (OpenSpec.witness (enc := enc) (C := Try.checked) (s := Rows.OpenSpec.upto Rows.wireListRoundTripSpec) (k := Rows.uptoSmall) rfl false ⟨#[], #[.string ⟨#[]⟩, .slice none 0 0, .slice none 0 0, .slice none 0 0, .slice none 0 0], []⟩ 8 (by kernel_rfl) (by kernel_rfl) (by kernel_rfl)
      (x := ([.lit (.string []), .nil, .nil, .nil, .nil], [], [])) (by kernel_rfl) rfl (by kernel_rfl)) ?_
  intro W base args ds gs before hval0 hW _ hk _
  have hval : ∀ (j : Nat) t v, Try.f8.params[j]? = some t → args[j]? = some v → Value.okWide Try.prog W .any base t v := hval0
  have hW' := hW
  obtain ⟨p, q, hA0, hV, rfl, _, _⟩ := hW
  have hA : DataW.TrodAll enc Try.prog W 0 (fun _ => true) true Try.f8.params.toList args.toList ds p := hA0
  rw [Try.params8] at hA hval
  obtain ⟨v0, vs0, d0, ds0, p0, q0, hargs, rfl, rfl, h0, r0⟩ := trodAll_cons hA
  obtain ⟨v1, vs1, d1, ds1, p1, q1, rfl, rfl, rfl, h1, r1⟩ := trodAll_cons r0
  obtain ⟨v2, vs2, d2, ds2, p2, q2, rfl, rfl, rfl, h2, r2⟩ := trodAll_cons r1
  obtain ⟨v3, vs3, d3, ds3, p3, q3, rfl, rfl, rfl, h3, r3⟩ := trodAll_cons r2
  obtain ⟨v4, vs4, d4, ds4, p4, q4, rfl, rfl, rfl, h4, r4⟩ := trodAll_cons r3
  obtain ⟨rfl, rfl, rfl⟩ := trodAll_nil r4
  obtain rfl : args = #[v0, v1, v2, v3, v4] := by cases args; simp_all
  obtain ⟨rfl, rfl⟩ := trodVars_none hV
  have hB : Rows.uptoBulkAll ([d0, d1, d2, d3, d4] : List (DataW H)) ≤ 1048576 := of_decide_eq_true hk
  simp only [Rows.uptoBulkAll] at hB
  obtain ⟨s, rfl, s1⟩ := bulk_str Try.underlying9 (hval 0 9 v0 rfl rfl) h0
  obtain ⟨A2, n2, c2, l2, rfl, _, _, a3, a4⟩ := ints_arg Try.underlying22 Try.underlying3 (by kernel_rfl) (hval 1 22 v1 rfl rfl) h1
  have a5 := bulk_slice Try.underlying22 h1
  obtain ⟨A3, n3, c3, l3, rfl, _, _, b3, b4⟩ := strs_bulk Try.underlying23 Try.underlying9 (by kernel_rfl) (hval 2 23 v2 rfl rfl) h2
  obtain ⟨A4, n4, c4, l4, rfl, _, _, e3, e4⟩ := digs_arg Try.underlying24 dig_under Try.underlying5 (by kernel_rfl) (by kernel_rfl) (hval 3 24 v3 rfl rfl) h3
  have e5 := bulk_slice Try.underlying24 h3
  obtain ⟨A5, n5, c5, b5, rfl, _, _, g3, g4⟩ := bytes_arg Try.underlying28 Try.underlying5 (by kernel_rfl) (hval 4 28 v4 rfl rfl) h4
  have g5 := bulk_slice Try.underlying28 h4
  clear hA0 hval0 hk
  refine (lists_any s A2 n2 c2 l2 A3 n3 c3 l3 A4 n4 c4 l4 A5 n5 c5 b5 W a3 a4 b3 e3 e4 g3 g4 (by omega) (by omega)).mono fun e W' ⟨he, hw⟩ => ?_
  subst he
  exact ⟨_, rfl, law_post laidK rfl (by kernel_rfl) (by kernel_rfl) Try.underlying4 (by kernel_rfl) hW' rfl hw⟩

theorem lists_holds : Rows.WireListRoundTripUptoSaid :=
  OpenClaim.holds_of_cond 8 Try.f8 rfl rfl rfl rfl rfl rfl rfl ⟨rfl, rfl, rfl, rfl, rfl⟩ rfl rfl rfl rfl rfl (by kernel_rfl) Try.func8 (by kernel_rfl)
    (of_decide_eq_true (by kernel_rfl)) (by unfold Func.isWrapper; first | (rw [if_pos (by decide +kernel)]; kernel_rfl) | (rw [if_neg (by decide +kernel)]; exact ⟨rfl, rfl⟩))
    (fun os started H enc _ F => lists_lifted os started H enc F)
#print axioms lists_holds

end Go.Proofs.Ytaknnccmohgmpaa
