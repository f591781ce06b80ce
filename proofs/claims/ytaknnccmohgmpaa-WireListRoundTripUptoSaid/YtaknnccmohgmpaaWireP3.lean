/-
  For every byte sequence (of at most 2000 bytes) the decoders answer as the specification does: the statement WireDecodeMatchesSpec.
-/
import Derived.Test.YtaknnccmohgmpaaWireM
import Derived.Test.YtaknnccmohgmpaaWireDig
namespace Go.Proofs.Ytaknnccmohgmpaa
open Go.RowKit Go.ChangeShapes Go.WideShapes Go.ChangeAt

theorem T64_strs (l : List Wm.Bs) : T64 l = Strs (l.map strOfNums) := by simp [T64, Strs]
theorem Calls.gotInts {f : FuncId} {args : Array Value} {w : World} {r : List Int × Nat × Int} {l : List Int} {u : Nat} {e : Int} (h : Calls Try.prog f args w (GotInts r w)) (hr : r = (l, u, e)) :
    Calls Try.prog f args w fun x w' => ∃ A n c, x = .returned (.tuple #[.slice A n c, .int .i64 u, .int .i64 e]) ∧ n ≤ c ∧ c ≤ maxLen ∧ Sl w' 1 A n (N64 l) ∧ Later w w' := by subst hr; exact h
theorem Calls.gotStrs {f : FuncId} {args : Array Value} {w : World} {r : List Wm.Bs × Nat × Int} {l : List Wm.Bs} {u : Nat} {e : Int} (h : Calls Try.prog f args w (GotStrs r w)) (hr : r = (l, u, e)) :
    Calls Try.prog f args w fun x w' => ∃ A n c, x = .returned (.tuple #[.slice A n c, .int .i64 u, .int .i64 e]) ∧ n ≤ c ∧ c ≤ maxLen ∧ Sl w' 1 A n (Strs (l.map strOfNums)) ∧ Later w w' := by subst hr; rw [← T64_strs]; exact h
theorem Calls.gotDigs {f : FuncId} {args : Array Value} {w : World} {r : List Wm.Bs × Nat × Int} {l : List Wm.Bs} {u : Nat} {e : Int} (h : Calls Try.prog f args w (GotDigs r w)) (hr : r = (l, u, e)) :
    Calls Try.prog f args w fun x w' => ∃ A n c, x = .returned (.tuple #[.slice A n c, .int .i64 u, .int .i64 e]) ∧ n ≤ c ∧ c ≤ maxLen ∧ Sl w' 16 A n (Ds l) ∧ Later w w' := by subst hr; exact h
theorem ibne (x : Int) : (x != x) = false := by simp
theorem ibeq (x : Int) : (x == x) = true := by simp

set_option maxRecDepth 100000 in
set_option maxHeartbeats 1000000 in
theorem decode_any (A : Option Addr) (n c : Nat) (b : Wm.Bs) (w : World) (hs : Sl w 1 A n (U b)) (hb : Wm.isBs b) (hnc : n ≤ c) (hn : c ≤ maxLen) :
    Calls Try.prog 4 #[.slice A n c] w fun e w' => e = .returned (.bool true) ∧ Later w w' := by
  have HS := Lib.hid (sanity_any)
  by_cases hbig : 2000 < n
  · unfold maxLen at hn
    go_enter Try.func4, Try.ntmps4
    go_wp2_with (go_at_call 12; refine (HS.out _).mono ?_; rintro e w' ⟨rfl, hb'⟩)
    go_ret
    exact ⟨rfl, hb'⟩
  · obtain ⟨x1, u1, e1, hr1⟩ : ∃ x q e, Wm.decI b = (x, q, e) := ⟨_, _, _, rfl⟩
    obtain ⟨x2, u2, e2, hr2⟩ : ∃ x q e, Wm.decB b = (x, q, e) := ⟨_, _, _, rfl⟩
    obtain ⟨l3, u3, e3, hr3⟩ : ∃ x q e, Wm.decL Wm.decI 1 b = (x, q, e) := ⟨_, _, _, rfl⟩
    obtain ⟨l4, u4, e4, hr4⟩ : ∃ x q e, Wm.decL Wm.decB 1 b = (x, q, e) := ⟨_, _, _, rfl⟩
    obtain ⟨l5, u5, e5, hr5⟩ : ∃ x q e, Wm.decL decD 16 b = (x, q, e) := ⟨_, _, _, rfl⟩
    have hD := (digs_ok hb hr5).1
    have A1 := Lib.hid fun (w' : World) (h : Sl w' 1 A n (U b)) => Calls.out3 (getInt_any A n c b w' h hb (by omega)) hr1
    have B1 := Lib.hid fun (w' : World) (h : Sl w' 1 A n (U b)) => Calls.out3 (refGetInt_any A n c b w' h hb (by omega)) hr1
    have A2 := Lib.hid fun (w' : World) (h : Sl w' 1 A n (U b)) => Calls.outB (getBytes_any A n c b w' h hb hnc hn) hr2
    have B2 := Lib.hid fun (w' : World) (h : Sl w' 1 A n (U b)) => Calls.outB (refGetBytes_any A n c b w' h hb hnc hn) hr2
    have A3 := Lib.hid fun (w' : World) (h : Sl w' 1 A n (U b)) => Calls.gotInts (wireGetInts_any A n c b w' h hb hnc hn (by omega)) hr3
    have B3 := Lib.hid fun (w' : World) (h : Sl w' 1 A n (U b)) => Calls.gotInts (refGetInts_any A n c b w' h hb hnc hn (by omega)) hr3
    have A4 := Lib.hid fun (w' : World) (h : Sl w' 1 A n (U b)) => Calls.gotStrs (wireGetStrs_any A n c b w' h hb hnc hn (by omega)) hr4
    have B4 := Lib.hid fun (w' : World) (h : Sl w' 1 A n (U b)) => Calls.gotStrs (refGetStrs_any A n c b w' h hb hnc hn (by omega)) hr4
    have A5 := Lib.hid fun (w' : World) (h : Sl w' 1 A n (U b)) => Calls.gotDigs (wireGetDigs_any A n c b w' h hb hnc hn (by omega)) hr5
    have B5 := Lib.hid fun (w' : World) (h : Sl w' 1 A n (U b)) => Calls.gotDigs (refGetDigs_any A n c b w' h hb hnc hn (by omega)) hr5
    have C3 := Lib.hid fun (w' : World) (Z Z2 : Option Addr) (n1 c1 n2 c2 : Nat) (h : Sl w' 1 Z n1 (N64 l3)) (h2 : Sl w' 1 Z2 n2 (N64 l3)) (g : n1 ≤ c1 ∧ c1 ≤ maxLen) (g2 : n2 ≤ c2 ∧ c2 ≤ maxLen) => sameInts_any Z Z2 n1 c1 n2 c2 l3 l3 w' h h2 (Nat.le_trans g.1 g.2) (Nat.le_trans g2.1 g2.2)
    have C4 := Lib.hid fun (w' : World) (Z Z2 : Option Addr) (n1 c1 n2 c2 : Nat) (h : Sl w' 1 Z n1 (Strs (l4.map strOfNums))) (h2 : Sl w' 1 Z2 n2 (Strs (l4.map strOfNums))) (g : n1 ≤ c1 ∧ c1 ≤ maxLen) (g2 : n2 ≤ c2 ∧ c2 ≤ maxLen) => sameTexts_any Z Z2 n1 c1 n2 c2 _ _ w' h h2 (Nat.le_trans g.1 g.2) (Nat.le_trans g2.1 g2.2)
    have C5 := Lib.hid fun (w' : World) (Z Z2 : Option Addr) (n1 c1 n2 c2 : Nat) (h : Sl w' 16 Z n1 (Ds l5)) (h2 : Sl w' 16 Z2 n2 (Ds l5)) (g : n1 ≤ c1 ∧ c1 ≤ maxLen) (g2 : n2 ≤ c2 ∧ c2 ≤ maxLen) => sameDigs_any Z Z2 n1 c1 n2 c2 l5 l5 w' h h2 hD hD (Nat.le_trans g.1 g.2) (Nat.le_trans g2.1 g2.2)
    rw [decide_eq_true (rfl : l3 = l3)] at C3
    rw [decide_eq_true (rfl : l4.map strOfNums = l4.map strOfNums)] at C4
    rw [decide_eq_true (rfl : l5 = l5)] at C5
    obtain ⟨s2, hs2⟩ : ∃ s, s = strOfNums x2 := ⟨_, rfl⟩
    rw [← hs2] at A2 B2
    clear hr1 hr2 hr3 hr4 hr5 hD hs2
    have t2 := bs_beq s2
    unfold maxLen at hn
    go_enter Try.func4, Try.ntmps4
    go_wp2_with (first
      | (go_at_call 24; refine (A1.out w hs).mono ?_; rintro e w1 ⟨rfl, rfl⟩)
      | (go_at_call 25; refine (B1.out w hs).mono ?_; rintro e w1 ⟨rfl, rfl⟩)
      | (go_at_call 26; refine (A2.out w hs).mono ?_; rintro e w1 ⟨rfl, rfl⟩)
      | (go_at_call 27; refine (B2.out w hs).mono ?_; rintro e w1 ⟨rfl, rfl⟩)
      | (go_at_call 28; refine (A3.out w hs).mono ?_; rintro e w3 ⟨Z3, n3, c3, rfl, f1, f2, f3, f4⟩)
      | (go_at_call 29; refine (B3.out w3 (hs.keep f4)).mono ?_; rintro e w4 ⟨Z4, n4, c4, rfl, f5, f6, f7, f8⟩)
      | (go_at_call 30; refine (C3.out w4 Z3 Z4 n3 c3 n4 c4 (f3.keep f8) f7 ⟨f1, f2⟩ ⟨f5, f6⟩).mono ?_; rintro e w5 ⟨rfl, f9⟩; have k1 := Later.trans_ (Later.trans_ f4 f8) f9)
      | (go_at_call 31; refine (A4.out w5 (hs.keep k1)).mono ?_; rintro e w6 ⟨Z6, n6, c6, rfl, g1, g2, g3, g4⟩)
      | (go_at_call 32; refine (B4.out w6 (hs.keep (Later.trans_ k1 g4))).mono ?_; rintro e w7 ⟨Z7, n7, c7, rfl, g5, g6, g7, g8⟩)
      | (go_at_call 33; refine (C4.out w7 Z6 Z7 n6 c6 n7 c7 (g3.keep g8) g7 ⟨g1, g2⟩ ⟨g5, g6⟩).mono ?_; rintro e w8 ⟨rfl, g9⟩; have k2 := Later.trans_ (Later.trans_ (Later.trans_ k1 g4) g8) g9)
      | (go_at_call 34; refine (A5.out w8 (hs.keep k2)).mono ?_; rintro e w9 ⟨Z9, n9, c9, rfl, i1, i2, i3, i4⟩)
      | (go_at_call 35; refine (B5.out w9 (hs.keep (Later.trans_ k2 i4))).mono ?_; rintro e w10 ⟨Z10, n10, c10, rfl, i5, i6, i7, i8⟩)
      | (go_at_call 12; refine (HS.out _).mono ?_; rintro e w11 ⟨rfl, i9⟩)
      | (go_at_call 36; refine (C5.out _ Z9 Z10 n9 c9 n10 c10 ((i3.keep i8).keep i9) (i7.keep i9) ⟨i1, i2⟩ ⟨i5, i6⟩).mono ?_; rintro e w12 ⟨rfl, i10⟩))
    go_ret
    exact ⟨ret_bool (by simp), Later.trans_ (Later.trans_ (Later.trans_ (Later.trans_ k2 i4) i8) i9) i10⟩

set_option maxRecDepth 100000 in
theorem decode_lifted (os : Os) (started : os.Started) (H : Type) (enc : TypeId × Value → H) :
    ReturnsInHanded {} Try.checked os 4 .any (Rows.wireDecodeMatchesSpecSpec.pre6 enc Try.prog Try.f4 Rows.wireDecodeMatchesSpecRow.domain false) (Rows.wireDecodeMatchesSpecSpec.post enc Try.prog Try.f4 false true false false) := by
  refine returnsInHanded_of_change (C := Try.checked) ownK started (by kernel_rfl) Try.func4
    (ChangeSpec.witness6 (enc := enc) (C := Try.checked) false ⟨#[], #[.slice none 0 0], []⟩ 8 (by kernel_rfl) (by kernel_rfl) (by kernel_rfl) (by kernel_rfl)) ?_
  intro W base args ds gs before hval0 hW _ _
  have hval : ∀ (j : Nat) t v, Try.f4.params[j]? = some t → args[j]? = some v → Value.okWide Try.prog W .any base t v := hval0
  have hW' := hW
  obtain ⟨p, q, hA0, hV, rfl, _, _⟩ := hW
  have hA : DataW.TrodAll enc Try.prog W 0 (fun _ => true) true Try.f4.params.toList args.toList ds p := hA0
  rw [Try.params4] at hA hval
  obtain ⟨v0, d0, rfl, rfl, h0⟩ := trodAll_one hA
  obtain ⟨rfl, rfl⟩ := trodVars_none hV
  obtain ⟨A, n, c, b, rfl, b1, b2, b3, b4⟩ := bytes_arg Try.underlying28 Try.underlying5 (by kernel_rfl) (hval 0 28 v0 rfl rfl) h0
  clear hA0 hval0
  refine (decode_any A n c b W b3 b4 b1 b2).mono fun e W' ⟨he, hw⟩ => ?_
  subst he
  exact ⟨_, rfl, law_post laidK rfl (by kernel_rfl) (by kernel_rfl) Try.underlying4 (by kernel_rfl) hW' rfl hw⟩

theorem decode_holds : Rows.WireDecodeMatchesSpecSaid :=
  OpenClaim.holds_of_wide 4 Try.f4 rfl rfl rfl rfl rfl rfl rfl ⟨rfl, rfl, rfl, rfl, rfl⟩ rfl rfl rfl rfl rfl (by kernel_rfl) Try.func4 (by kernel_rfl)
    (of_decide_eq_true (by kernel_rfl)) (by unfold Func.isWrapper; first | (rw [if_pos (by decide +kernel)]; kernel_rfl) | (rw [if_neg (by decide +kernel)]; exact ⟨rfl, rfl⟩))
    (fun os started H enc _ => decode_lifted os started H enc)
#print axioms decode_holds

end Go.Proofs.Ytaknnccmohgmpaa
