/-
  The encoders answer as the specification does: the walk of WireEncodeMatchesSpec.
-/
import Derived.Test.YtaknnccmohgmpaaWireFew
import Derived.Test.YtaknnccmohgmpaaWireN
import Derived.Test.YtaknnccmohgmpaaWireP4
import Derived.Test.YtaknnccmohgmpaaWireP2
namespace Go.Proofs.Ytaknnccmohgmpaa
open Go.RowKit Go.ChangeShapes Go.WideShapes Go.ChangeAt

theorem tot_mem {l : List ByteArray} {s : ByteArray} (h : s ∈ l) : s.size ≤ tot l := by
  induction l with
  | nil => cases h
  | cons x r ih =>
    have e : tot (x :: r) = x.size + tot r := rfl
    rcases List.mem_cons.1 h with rfl | h
    · omega
    · have := ih h; omega
theorem texts_len (l : List ByteArray) (h : l.length + tot l ≤ 1000000) : (Wm.encL encT l).length ≤ 10 + 10 * l.length + tot l := by
  unfold Wm.encL
  rw [List.length_append]
  have h1 := Wm.encI_len (n := (l.length : Int)) (by omega) (by omega)
  have h2 : (l.flatMap encT).length ≤ 10 * l.length + tot l := by
    clear h1
    induction l with
    | nil => simp
    | cons x r ih =>
      have e : tot (x :: r) = x.size + tot r := rfl
      rw [List.flatMap_cons, List.length_append, List.length_cons]
      rw [List.length_cons, e] at h
      have h3 := ih (by omega)
      have h4 : (encT x).length ≤ 10 + x.size := by unfold encT; rw [Wm.encB_len, Wm.ofS_length]; have := Wm.encI_len (n := (x.size : Int)) (by omega) (by omega); omega
      rw [e]
      omega
  omega
theorem texts_bytes (l : List ByteArray) : Wm.isBs (Wm.encL encT l) := fun x hx => by
  rcases List.mem_append.1 hx with hx | hx
  · exact Wm.encI_bytes _ x hx
  · obtain ⟨y, _, hx⟩ := List.mem_flatMap.1 hx
    exact Wm.encB_bytes (Wm.ofS_bytes y) x hx
theorem same_true {A A2 : Option Addr} {n c c2 : Nat} {a : Wm.Bs} {w : World} (hs : Sl w 1 A n (U a)) (hs2 : Sl w 1 A2 n (U a)) (ha : Wm.isBs a) :
    Calls Try.prog 13 #[.slice A n c, .slice A2 n c2] w fun e w' => e = .returned (.bool true) ∧ w = w' := by
  have h := same_any A A2 n c n c2 a a w hs hs2 ha ha
  rwa [decide_eq_true (rfl : a = a)] at h

set_option maxRecDepth 100000 in
set_option maxHeartbeats 2000000 in
theorem encode_any (m : Int) (s : ByteArray) (A2 : Option Addr) (n2 c2 : Nat) (l2 : List Int) (A3 : Option Addr) (n3 c3 : Nat) (l3 : List ByteArray) (A4 : Option Addr) (n4 c4 : Nat) (l4 : List Wm.Bs) (w : World)
    (h1 : -9223372036854775808 ≤ m) (h2 : m ≤ 9223372036854775807) (hs2 : Sl w 1 A2 n2 (N64 l2)) (hl2 : inR l2) (hs3 : Sl w 1 A3 n3 (Strs l3)) (hs4 : Sl w 16 A4 n4 (Ds l4)) (hl4 : isD l4)
    (hx : n3 + tot l3 ≤ 9223372036854775807) (hsum : s.size + n2 + n4 ≤ 9223372036854775807) :
    Calls Try.prog 3 #[.int .i64 m, .string s, .slice A2 n2 c2, .slice A3 n3 c3, .slice A4 n4 c4] w fun e w' => e = .returned (.bool true) ∧ Later w w' := by
  have HS := Lib.hid (sanity_any)
  have HF := Lib.hid (few_any A3 n3 c3 l3 w hs3 hx)
  by_cases hbig : 2000 < s.size + n2 + n4
  · go_enter Try.func3, Try.ntmps3
    go_wp2_with (go_at_call 12; refine (HS.out _).mono ?_; rintro e w' ⟨rfl, hb'⟩)
    go_ret
    exact ⟨rfl, hb'⟩
  · by_cases hfew : n3 + tot l3 ≤ 2000
    · rw [decide_eq_true hfew] at HF
      have hm3 := hs3.mlen
      have hm2 : l2.length = n2 := by have := hs2.1; simpa [N64] using this
      have hm4 := hs4.dlen hl4
      have hin3 : inS l3 := fun y hy => by have := tot_mem hy; omega
      have b2 : (Wm.encB (Wm.ofS s)).length ≤ 2010 := by rw [Wm.encB_len, Wm.ofS_length]; have := Wm.encI_len (n := (s.size : Int)) (by omega) (by omega); omega
      have b3 : (Wm.encL Wm.encI l2).length ≤ 20010 := by rcases ints_len hl2 with h | h <;> omega
      have b4 : (Wm.encL encT l3).length ≤ 30010 := by have := texts_len l3 (by omega); omega
      have b5 : (encD l4).length ≤ 40010 := by rw [encD_len hl4]; have := Wm.encI_len (n := (l4.length : Int)) (by omega) (by omega); omega
      obtain ⟨k1, hk1⟩ : ∃ k, k = (Wm.encI m).length := ⟨_, rfl⟩
      obtain ⟨k2, hk2⟩ : ∃ k, k = (Wm.encB (Wm.ofS s)).length := ⟨_, rfl⟩
      obtain ⟨k3, hk3⟩ : ∃ k, k = (Wm.encL Wm.encI l2).length := ⟨_, rfl⟩
      obtain ⟨k4, hk4⟩ : ∃ k, k = (Wm.encL encT l3).length := ⟨_, rfl⟩
      obtain ⟨k5, hk5⟩ : ∃ k, k = (encD l4).length := ⟨_, rfl⟩
      have E1 := Lib.hid fun (w' : World) => made_len (wireInt_any m w' h1 h2) hk1
      have F1 := Lib.hid fun (w' : World) => made_len (refInt_any m w' h1 h2) hk1
      have E2 := Lib.hid fun (w' : World) => made_len (wireBytes_any s w' (by omega) (by omega)) hk2
      have F2 := Lib.hid fun (w' : World) => made_len (refBytes_any s w' (by omega) (by omega)) hk2
      have E3 := Lib.hid fun (w' : World) (h : Sl w' 1 A2 n2 (N64 l2)) => made_len (wireInts_any A2 n2 c2 l2 w' h hl2 (by unfold maxLen; omega) (by omega)) hk3
      have F3 := Lib.hid fun (w' : World) (h : Sl w' 1 A2 n2 (N64 l2)) => made_len (refInts_any A2 n2 c2 l2 w' h hl2 (by unfold maxLen; omega) (by omega)) hk3
      have E4 := Lib.hid fun (w' : World) (h : Sl w' 1 A3 n3 (Strs l3)) => made_len (wireStrs_any A3 n3 c3 l3 w' h hin3 (by unfold maxLen; omega) (by omega)) hk4
      have F4 := Lib.hid fun (w' : World) (h : Sl w' 1 A3 n3 (Strs l3)) => made_len (refStrs_any A3 n3 c3 l3 w' h hin3 (by unfold maxLen; omega) (by omega)) hk4
      have E5 := Lib.hid fun (w' : World) (h : Sl w' 16 A4 n4 (Ds l4)) => made_len (wireDigs_any A4 n4 c4 l4 w' h hl4 (by unfold maxLen; omega) (by omega)) hk5
      have F5 := Lib.hid fun (w' : World) (h : Sl w' 16 A4 n4 (Ds l4)) => made_len (refDigs_any A4 n4 c4 l4 w' h hl4 (by unfold maxLen; omega) (by omega)) hk5
      have B4 := Lib.hid (texts_bytes l3)
      have B5 := Lib.hid (encD_bytes hl4)
      clear hm2 hm3 hm4 b2 b3 b4 b5 hk1 hk2 hk3 hk4 hk5 hfew
      go_enter Try.func3, Try.ntmps3
      go_wp2_with (first
        | (go_at_call 11; refine (HF.out).mono ?_; rintro e w0 ⟨rfl, j0⟩)
        | (go_at_call 12; refine (HS.out _).mono ?_; rintro e w1 ⟨rfl, j1⟩; have q1 := Later.trans_ j0 j1)
        | (go_at_call 14; refine (E1.out w1).mono ?_; rintro e w2 ⟨Z1, d1, rfl, _, _, s1, j2⟩)
        | (go_at_call 15; refine (F1.out w2).mono ?_; rintro e w3 ⟨Y1, d2, rfl, _, _, s2, j3⟩; have q2 := Later.trans_ (Later.trans_ q1 j2) j3)
        | (go_at_call 16; refine (E2.out w3).mono ?_; rintro e w4 ⟨Z2, d3, rfl, _, _, s3, j4⟩)
        | (go_at_call 17; refine (F2.out w4).mono ?_; rintro e w5 ⟨Y2, d4, rfl, _, _, s4, j5⟩; have q3 := Later.trans_ (Later.trans_ q2 j4) j5)
        | (go_at_call 18; refine (E3.out w5 (hs2.keep q3)).mono ?_; rintro e w6 ⟨Z3, d5, rfl, _, _, s5, j6⟩)
        | (go_at_call 19; refine (F3.out w6 (hs2.keep (Later.trans_ q3 j6))).mono ?_; rintro e w7 ⟨Y3, d6, rfl, _, _, s6, j7⟩; have q4 := Later.trans_ (Later.trans_ q3 j6) j7)
        | (go_at_call 20; refine (E4.out w7 (hs3.keep q4)).mono ?_; rintro e w8 ⟨Z4, d7, rfl, _, _, s7, j8⟩)
        | (go_at_call 21; refine (F4.out w8 (hs3.keep (Later.trans_ q4 j8))).mono ?_; rintro e w9 ⟨Y4, d8, rfl, _, _, s8, j9⟩; have q5 := Later.trans_ (Later.trans_ q4 j8) j9)
        | (go_at_call 22; refine (E5.out w9 (hs4.keep q5)).mono ?_; rintro e w10 ⟨Z5, d9, rfl, _, _, s9, j10⟩)
        | (go_at_call 23; refine (F5.out w10 (hs4.keep (Later.trans_ q5 j10))).mono ?_; rintro e w11 ⟨Y5, d10, rfl, _, _, s10, j11⟩; have q6 := Later.trans_ (Later.trans_ q5 j10) j11)
        | (go_at_call 13; first
          | (refine (same_true (s9.keep j11) s10 B5.out).mono ?_; rintro e w' ⟨rfl, rfl⟩)
          | (refine (same_true (s7.keep j9) s8 B4.out).mono ?_; rintro e w' ⟨rfl, rfl⟩)
          | (refine (same_true (s5.keep j7) s6 (ints_bytes l2)).mono ?_; rintro e w' ⟨rfl, rfl⟩)
          | (refine (same_true (s3.keep j5) s4 (Wm.encB_bytes (Wm.ofS_bytes s))).mono ?_; rintro e w' ⟨rfl, rfl⟩)
          | (refine (same_true (s1.keep j3) s2 (Wm.encI_bytes m)).mono ?_; rintro e w' ⟨rfl, rfl⟩)))
      go_ret
      exact ⟨ret_bool (by simp), q6⟩
    · rw [decide_eq_false hfew] at HF
      go_enter Try.func3, Try.ntmps3
      go_wp2_with (first
        | (go_at_call 11; refine (HF.out).mono ?_; rintro e w0 ⟨rfl, j0⟩)
        | (go_at_call 12; refine (HS.out _).mono ?_; rintro e w1 ⟨rfl, j1⟩))
      go_ret
      exact ⟨rfl, Later.trans_ j0 j1⟩

end Go.Proofs.Ytaknnccmohgmpaa
