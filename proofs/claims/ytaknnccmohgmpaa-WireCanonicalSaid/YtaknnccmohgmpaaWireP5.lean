/-
  For every byte sequence (of at most 2000 bytes): what is decoded has consumed its encoding: the statement WireCanonical.
-/
import Derived.Test.YtaknnccmohgmpaaWireP4
import Derived.Test.YtaknnccmohgmpaaWireP2
namespace Go.Proofs.Ytaknnccmohgmpaa
open Go.RowKit Go.ChangeShapes Go.WideShapes Go.ChangeAt

set_option maxRecDepth 100000 in
set_option maxHeartbeats 1000000 in
theorem canonical_any (A : Option Addr) (n c : Nat) (b : Wm.Bs) (w : World) (hs : Sl w 1 A n (U b)) (hb : Wm.isBs b) (hnc : n ≤ c) (hn : c ≤ maxLen) :
    Calls Try.prog 7 #[.slice A n c] w fun e w' => e = .returned (.bool true) ∧ Later w w' := by
  have HS := Lib.hid (sanity_any)
  by_cases hbig : 2000 < n
  · unfold maxLen at hn
    go_enter Try.func7, Try.ntmps7
    go_wp2_with (go_at_call 12; refine (HS.out _).mono ?_; rintro e w' ⟨rfl, hb'⟩)
    go_ret
    exact ⟨rfl, hb'⟩
  · have hbl := hs.blen
    obtain ⟨x1, u1, e1, hr1⟩ : ∃ x q e, Wm.decI b = (x, q, e) := ⟨_, _, _, rfl⟩
    obtain ⟨x2, u2, e2, hr2⟩ : ∃ x q e, Wm.decB b = (x, q, e) := ⟨_, _, _, rfl⟩
    obtain ⟨l3, u3, e3, hr3⟩ : ∃ x q e, Wm.decL Wm.decI 1 b = (x, q, e) := ⟨_, _, _, rfl⟩
    obtain ⟨l4, u4, e4, hr4⟩ : ∃ x q e, Wm.decL Wm.decB 1 b = (x, q, e) := ⟨_, _, _, rfl⟩
    obtain ⟨l5, u5, e5, hr5⟩ : ∃ x q e, Wm.decL decD 16 b = (x, q, e) := ⟨_, _, _, rfl⟩
    obtain ⟨p1, p2, p3⟩ := can_I hb hr1
    obtain ⟨q1, q2, q3⟩ := can_B hb hr2
    obtain ⟨r1, r2, r3⟩ := can_LI hb hr3
    obtain ⟨s1, s2, s3⟩ := can_LB hb hr4
    obtain ⟨t1, t2, t3⟩ := can_LD hb hr5
    have q4 : (Wm.encB x2).length ≤ 2010 := by rw [Wm.encB_len]; have := Wm.encI_len (n := (x2.length : Int)) (by omega) (by omega); omega
    have A1 := Lib.hid fun (w' : World) (h : Sl w' 1 A n (U b)) => Calls.out3 (getInt_any A n c b w' h hb (by omega)) hr1
    have A2 := Lib.hid fun (w' : World) (h : Sl w' 1 A n (U b)) => Calls.outB (getBytes_any A n c b w' h hb hnc hn) hr2
    have A3 := Lib.hid fun (w' : World) (h : Sl w' 1 A n (U b)) => Calls.gotInts (wireGetInts_any A n c b w' h hb hnc hn (by omega)) hr3
    have A4 := Lib.hid fun (w' : World) (h : Sl w' 1 A n (U b)) => Calls.gotStrs (wireGetStrs_any A n c b w' h hb hnc hn (by omega)) hr4
    have A5 := Lib.hid fun (w' : World) (h : Sl w' 1 A n (U b)) => Calls.gotDigs (wireGetDigs_any A n c b w' h hb hnc hn (by omega)) hr5
    obtain ⟨k1, hk1⟩ : ∃ k, k = (Wm.encI x1).length := ⟨_, rfl⟩
    obtain ⟨k2, hk2⟩ : ∃ k, k = (Wm.encB x2).length := ⟨_, rfl⟩
    obtain ⟨k3, hk3⟩ : ∃ k, k = (Wm.encL Wm.encI l3).length := ⟨_, rfl⟩
    obtain ⟨k4, hk4⟩ : ∃ k, k = (Wm.encL Wm.encB l4).length := ⟨_, rfl⟩
    obtain ⟨k5, hk5⟩ : ∃ k, k = (encD l5).length := ⟨_, rfl⟩
    have E1 := Lib.hid fun (w' : World) => made_len (wireInt_any x1 w' p1 p2) hk1
    have E2 := Lib.hid fun (w' : World) => (show Calls Try.prog 16 #[.string (strOfNums x2)] w' (MadeLen k2 (Wm.encB x2) w') from by
      have h := wireBytes_any (strOfNums x2) w' (by rw [str_size q1]; omega) (by rw [Wm.ofS_str q1]; omega)
      rw [Wm.ofS_str q1] at h
      exact made_len h hk2)
    have E3 := Lib.hid fun (w' : World) (Z : Option Addr) (m d : Nat) (h : Sl w' 1 Z m (N64 l3)) (g : m ≤ d ∧ d ≤ maxLen) => made_len (wireInts_any Z m d l3 w' h r1 (Nat.le_trans g.1 g.2) (by omega)) hk3
    have E4 := Lib.hid fun (w' : World) (Z : Option Addr) (m d : Nat) (h : Sl w' 1 Z m (Strs (l4.map strOfNums))) (g : m ≤ d ∧ d ≤ maxLen) => (show Calls Try.prog 20 #[.slice Z m d] w' (MadeLen k4 (Wm.encL Wm.encB l4) w') from by
      have e0 := texts_back (fun x hx => (s1 x hx).1)
      have h := wireStrs_any Z m d (l4.map strOfNums) w' h (fun s hs => by obtain ⟨x, hx, rfl⟩ := List.mem_map.1 hs; rw [str_size (s1 x hx).1]; have := (s1 x hx).2; omega) (Nat.le_trans g.1 g.2) (by rw [e0]; omega)
      rw [e0] at h
      exact made_len h hk4)
    have E5 := Lib.hid fun (w' : World) (Z : Option Addr) (m d : Nat) (h : Sl w' 16 Z m (Ds l5)) (g : m ≤ d ∧ d ≤ maxLen) => made_len (wireDigs_any Z m d l5 w' h t1 (Nat.le_trans g.1 g.2) (by omega)) hk5
    have K1 := Lib.hid fun (w' : World) (h : Sl w' 1 A n (U b)) (Z : Option Addr) (d : Nat) (h2 : Sl w' 1 Z k1 (U (Wm.encI x1))) => consumed_any A Z n c k1 d b _ u1 e1 w' h h2 (Wm.encI_bytes _) hnc p3
    have K2 := Lib.hid fun (w' : World) (h : Sl w' 1 A n (U b)) (Z : Option Addr) (d : Nat) (h2 : Sl w' 1 Z k2 (U (Wm.encB x2))) => consumed_any A Z n c k2 d b _ u2 e2 w' h h2 (Wm.encB_bytes q1) hnc q3
    have K3 := Lib.hid fun (w' : World) (h : Sl w' 1 A n (U b)) (Z : Option Addr) (d : Nat) (h2 : Sl w' 1 Z k3 (U (Wm.encL Wm.encI l3))) => consumed_any A Z n c k3 d b _ u3 e3 w' h h2 (ints_bytes l3) hnc r3
    have K4 := Lib.hid fun (w' : World) (h : Sl w' 1 A n (U b)) (Z : Option Addr) (d : Nat) (h2 : Sl w' 1 Z k4 (U (Wm.encL Wm.encB l4))) => consumed_any A Z n c k4 d b _ u4 e4 w' h h2 (encLB_bytes (fun x hx => (s1 x hx).1)) hnc s3
    have K5 := Lib.hid fun (w' : World) (h : Sl w' 1 A n (U b)) (Z : Option Addr) (d : Nat) (h2 : Sl w' 1 Z k5 (U (encD l5))) => consumed_any A Z n c k5 d b _ u5 e5 w' h h2 (encD_bytes t1) hnc t3
    obtain ⟨z2, hz2⟩ : ∃ s, s = strOfNums x2 := ⟨_, rfl⟩
    rw [← hz2] at A2 E2
    clear hr1 hr2 hr3 hr4 hr5 hz2 hbl p1 p2 p3 q1 q2 q3 q4 r1 r2 r3 s1 s2 s3 t1 t2 t3 hk1 hk2 hk3 hk4 hk5
    unfold maxLen at hn
    go_enter Try.func7, Try.ntmps7
    go_wp2_with (first
      | (go_at_call 24; refine (A1.out w hs).mono ?_; rintro e w1 ⟨rfl, rfl⟩)
      | (go_at_call 26; refine (A2.out w hs).mono ?_; rintro e w1 ⟨rfl, rfl⟩)
      | (go_at_call 28; refine (A3.out w hs).mono ?_; rintro e w3 ⟨Z3, n3, c3, rfl, f1, f2, f3, f4⟩)
      | (go_at_call 31; refine (A4.out w3 (hs.keep f4)).mono ?_; rintro e w4 ⟨Z4, n4, c4, rfl, g1, g2, g3, g4⟩; have k6 := Later.trans_ f4 g4)
      | (go_at_call 34; refine (A5.out w4 (hs.keep k6)).mono ?_; rintro e w5 ⟨Z5, n5, c5, rfl, i1, i2, i3, i4⟩; have k7 := Later.trans_ k6 i4; have g5 := Later.trans_ g4 i4)
      | (go_at_call 12; refine (HS.out _).mono ?_; rintro e w6 ⟨rfl, j1⟩; have k8 := Later.trans_ k7 j1)
      | (go_at_call 14; refine (E1.out w6).mono ?_; rintro e w7 ⟨Y1, d1, rfl, m1, m2, m3, m4⟩; have k9 := Later.trans_ k8 m4)
      | (go_at_call 37; first
        | (refine (K5.out w15 (hs.keep k13) Y5 d5 o15).mono ?_; rintro e w8 ⟨rfl, rfl⟩)
        | (refine (K4.out w13 (hs.keep k12) Y4 d4 o11).mono ?_; rintro e w8 ⟨rfl, rfl⟩)
        | (refine (K3.out w11 (hs.keep k11) Y3 d3 o7).mono ?_; rintro e w8 ⟨rfl, rfl⟩)
        | (refine (K2.out w9 (hs.keep k10) Y2 d2 o3).mono ?_; rintro e w8 ⟨rfl, rfl⟩)
        | (refine (K1.out w7 (hs.keep k9) Y1 d1 m3).mono ?_; rintro e w8 ⟨rfl, rfl⟩))
      | (go_at_call 16; refine (E2.out w7).mono ?_; rintro e w9 ⟨Y2, d2, rfl, o1, o2, o3, o4⟩; have k10 := Later.trans_ k9 o4)
      | (go_at_call 18; refine (E3.out w9 Z3 n3 c3 (f3.keep (Later.trans_ (Later.trans_ (Later.trans_ g5 j1) m4) o4)) ⟨f1, f2⟩).mono ?_; rintro e w11 ⟨Y3, d3, rfl, o5, o6, o7, o8⟩; have k11 := Later.trans_ k10 o8)
      | (go_at_call 20; refine (E4.out w11 Z4 n4 c4 (g3.keep (Later.trans_ (Later.trans_ (Later.trans_ (Later.trans_ i4 j1) m4) o4) o8)) ⟨g1, g2⟩).mono ?_; rintro e w13 ⟨Y4, d4, rfl, o9, o10, o11, o12⟩; have k12 := Later.trans_ k11 o12)
      | (go_at_call 22; refine (E5.out w13 Z5 n5 c5 (i3.keep (Later.trans_ (Later.trans_ (Later.trans_ (Later.trans_ j1 m4) o4) o8) o12)) ⟨i1, i2⟩).mono ?_; rintro e w15 ⟨Y5, d5, rfl, o13, o14, o15, o16⟩; have k13 := Later.trans_ k12 o16))
    go_ret
    exact ⟨ret_bool (by simp), k13⟩

set_option maxRecDepth 100000 in
theorem canonical_lifted (os : Os) (started : os.Started) (H : Type) (enc : TypeId × Value → H) :
    ReturnsInHanded {} Try.checked os 7 .any (Rows.wireCanonicalSpec.pre6 enc Try.prog Try.f7 Rows.wireCanonicalRow.domain false) (Rows.wireCanonicalSpec.post enc Try.prog Try.f7 false true false false) := by
  refine returnsInHanded_of_change (C := Try.checked) ownK started (by kernel_rfl) Try.func7
    (ChangeSpec.witness6 (enc := enc) (C := Try.checked) false ⟨#[], #[.slice none 0 0], []⟩ 8 (by kernel_rfl) (by kernel_rfl) (by kernel_rfl) (by kernel_rfl)) ?_
  intro W base args ds gs before hval0 hW _ _
  have hval : ∀ (j : Nat) t v, Try.f7.params[j]? = some t → args[j]? = some v → Value.okWide Try.prog W .any base t v := hval0
  have hW' := hW
  obtain ⟨p, q, hA0, hV, rfl, _, _⟩ := hW
  have hA : DataW.TrodAll enc Try.prog W 0 (fun _ => true) true Try.f7.params.toList args.toList ds p := hA0
  rw [Try.params7] at hA hval
  obtain ⟨v0, d0, rfl, rfl, h0⟩ := trodAll_one hA
  obtain ⟨rfl, rfl⟩ := trodVars_none hV
  obtain ⟨A, n, c, b, rfl, b1, b2, b3, b4⟩ := bytes_arg Try.underlying28 Try.underlying5 (by kernel_rfl) (hval 0 28 v0 rfl rfl) h0
  clear hA0 hval0
  refine (canonical_any A n c b W b3 b4 b1 b2).mono fun e W' ⟨he, hw⟩ => ?_
  subst he
  exact ⟨_, rfl, law_post laidK rfl (by kernel_rfl) (by kernel_rfl) Try.underlying4 (by kernel_rfl) hW' rfl hw⟩

theorem canonical_holds : Rows.WireCanonicalSaid :=
  OpenClaim.holds_of_wide 7 Try.f7 rfl rfl rfl rfl rfl rfl rfl ⟨rfl, rfl, rfl, rfl, rfl⟩ rfl rfl rfl rfl rfl (by kernel_rfl) Try.func7 (by kernel_rfl)
    (of_decide_eq_true (by kernel_rfl)) (by unfold Func.isWrapper; first | (rw [if_pos (by decide +kernel)]; kernel_rfl) | (rw [if_neg (by decide +kernel)]; exact ⟨rfl, rfl⟩))
    (fun os started H enc _ => canonical_lifted os started H enc)
#print axioms canonical_holds

end Go.Proofs.Ytaknnccmohgmpaa
