/-
  Every proper prefix of an encoding is too short: the walk of WireTruncated.
-/
import Derived.Test.YtoigpokmlohhkaaWireP9
namespace Go.Proofs.Ytoigpokmlohhkaa
open Go.RowKit Go.ChangeShapes Go.WideShapes Go.ChangeAt

theorem isBs_take_ {b : Wm.Bs} (h : Wm.isBs b) (p : Nat) : Wm.isBs (b.take p) := fun x hx => h x (List.mem_of_mem_take hx)

set_option maxRecDepth 100000 in
set_option maxHeartbeats 4000000 in
theorem trunc_any (m : Int) (s : ByteArray) (A2 : Option Addr) (n2 c2 : Nat) (l2 : List Int) (A3 : Option Addr) (n3 c3 : Nat) (l3 : List ByteArray) (A4 : Option Addr) (n4 c4 : Nat) (l4 : List Wm.Bs) (w : World)
    (h1 : -9223372036854775808 ≤ m) (h2 : m ≤ 9223372036854775807) (hs2 : Sl w 1 A2 n2 (N64 l2)) (hl2 : inR l2) (hs3 : Sl w 1 A3 n3 (Strs l3)) (hs4 : Sl w 16 A4 n4 (Ds l4)) (hl4 : isD l4)
    (hx : n3 ≤ 40 → n3 + tot l3 ≤ 9223372036854775807) (hn3 : n3 ≤ 9223372036854775807) (hsum : s.size + 10 * n2 + 16 * n4 ≤ 9223372036854775807) :
    Calls Try.prog 3 #[.int .i64 m, .string s, .slice A2 n2 c2, .slice A3 n3 c3, .slice A4 n4 c4] w fun e w' => e = .returned (.bool true) ∧ Later w w' := by
  have HS := Lib.hid (sanity_any)
  by_cases hbig : 400 < s.size + 10 * n2 + 16 * n4
  · clear hx
    go_enter Try.func3, Try.ntmps3
    go_wp2_with (go_at_call 5; refine (HS.out _).mono ?_; rintro e w' ⟨rfl, hb'⟩)
    go_ret
    exact ⟨rfl, hb'⟩
  · by_cases hmany : 40 < n3
    · clear hx
      go_enter Try.func3, Try.ntmps3
      go_wp2_with (go_at_call 5; refine (HS.out _).mono ?_; rintro e w' ⟨rfl, hb'⟩)
      go_ret
      exact ⟨rfl, hb'⟩
    · have HF := Lib.hid (few_any A3 n3 c3 l3 w hs3 (hx (by omega)))
      clear hx
      by_cases hfew : n3 + tot l3 ≤ 2000
      · rw [decide_eq_true hfew] at HF
        have hm3 : l3.length = n3 := by have := hs3.mlen; exact this
        have hm2 : l2.length = n2 := by have := hs2.1; simpa [N64] using this
        have hm4 := hs4.dlen hl4
        have hin3 : inS l3 := fun y hy => by have := tot_mem hy; omega
        have b1 : (Wm.encB (Wm.ofS s)).length ≤ 410 := by rw [Wm.encB_len, Wm.ofS_length]; have := Wm.encI_len (n := (s.size : Int)) (by omega) (by omega); omega
        have b2 : (Wm.encL Wm.encI l2).length ≤ 410 := by rcases ints_len hl2 with h | h <;> omega
        have b3 : (encD l4).length ≤ 410 := by rw [encD_len hl4]; have := Wm.encI_len (n := (l4.length : Int)) (by omega) (by omega); omega
        have b4 : (Wm.encL encT l3).length ≤ 30010 := by have := texts_len l3 (by omega); omega
        have b0 := Wm.encI_len h1 h2
        obtain ⟨k0, hk0⟩ : ∃ k, k = (Wm.encI m).length := ⟨_, rfl⟩
        obtain ⟨k1, hk1⟩ : ∃ k, k = (Wm.encB (Wm.ofS s)).length := ⟨_, rfl⟩
        obtain ⟨k2, hk2⟩ : ∃ k, k = (Wm.encL Wm.encI l2).length := ⟨_, rfl⟩
        obtain ⟨k3, hk3⟩ : ∃ k, k = (Wm.encL encT l3).length := ⟨_, rfl⟩
        obtain ⟨k4, hk4⟩ : ∃ k, k = (encD l4).length := ⟨_, rfl⟩
        have T0 := Lib.hid fun (w' : World) (Z : Option Addr) (j d : Nat) (hj : j < k0) (h : Sl w' 1 Z k0 (U (Wm.encI m))) => Calls.out3 (getInt_any Z j d _ w' (h.frontB (k := j) (by omega)) (isBs_take_ (Wm.encI_bytes m) j) (by unfold maxLen; omega)) (Wm.decI_cut h1 h2 (by omega))
        have T1 := Lib.hid fun (w' : World) (Z : Option Addr) (j d : Nat) (hj : j < k1) (h : Sl w' 1 Z k1 (U (Wm.encB (Wm.ofS s)))) (g : k1 ≤ d) (g2 : d ≤ maxLen) => Calls.outB (getBytes_any Z j d _ w' (h.frontB (k := j) (by omega)) (isBs_take_ (Wm.encB_bytes (Wm.ofS_bytes s)) j) (by omega) g2) (Wm.decB_cut (Wm.ofS s) (by rw [Wm.ofS_length]; omega) (by omega))
        have T2 := Lib.hid fun (w' : World) (Z : Option Addr) (j d : Nat) (hj : j < k2) (h : Sl w' 1 Z k2 (U (Wm.encL Wm.encI l2))) (g : k2 ≤ d) (g2 : d ≤ maxLen) => Calls.gotInts (wireGetInts_any Z j d _ w' (h.frontB (k := j) (by omega)) (isBs_take_ (ints_bytes l2) j) (by omega) g2 (by omega)) (Wm.ints_cut l2 hl2 (by omega) (by omega))
        have T3 := Lib.hid fun (w' : World) (Z : Option Addr) (j d : Nat) (hj : j < k3) (h : Sl w' 1 Z k3 (U (Wm.encL encT l3))) (g : k3 ≤ d) (g2 : d ≤ maxLen) => Calls.gotStrs (wireGetStrs_any Z j d _ w' (h.frontB (k := j) (by omega)) (isBs_take_ (texts_bytes l3) j) (by omega) g2 (by omega)) (show Wm.decL Wm.decB 1 ((Wm.encL encT l3).take j) = ([], 0, 10) from by
          rw [encT_eq]
          exact Wm.strs_cut _ (fun y hy => by obtain ⟨z, hz, rfl⟩ := List.mem_map.1 hy; rw [Wm.ofS_length]; exact hin3 z hz) (by rw [List.length_map]; omega) (by rw [← encT_eq]; omega))
        have T4 := Lib.hid fun (w' : World) (Z : Option Addr) (j d : Nat) (hj : j < k4) (h : Sl w' 1 Z k4 (U (encD l4))) (g : k4 ≤ d) (g2 : d ≤ maxLen) => Calls.gotDigs (wireGetDigs_any Z j d _ w' (h.frontB (k := j) (by omega)) (isBs_take_ (encD_bytes hl4) j) (by omega) g2 (by omega)) (digs_cut l4 hl4 (by omega) (by omega))
        have E0 := Lib.hid fun (w' : World) => made_len (wireInt_any m w' h1 h2) hk0
        have E1 := Lib.hid fun (w' : World) => made_len (wireBytes_any s w' (by omega) (by omega)) hk1
        have E2 := Lib.hid fun (w' : World) (h : Sl w' 1 A2 n2 (N64 l2)) => made_len (wireInts_any A2 n2 c2 l2 w' h hl2 (by unfold maxLen; omega) (by omega)) hk2
        have E3 := Lib.hid fun (w' : World) (h : Sl w' 1 A3 n3 (Strs l3)) => made_len (wireStrs_any A3 n3 c3 l3 w' h hin3 (by unfold maxLen; omega) (by omega)) hk3
        have E4 := Lib.hid fun (w' : World) (h : Sl w' 16 A4 n4 (Ds l4)) => made_len (wireDigs_any A4 n4 c4 l4 w' h hl4 (by unfold maxLen; omega) (by omega)) hk4
        rw [← hk0] at b0
        rw [← hk1] at b1
        rw [← hk2] at b2
        rw [← hk3] at b4
        rw [← hk4] at b3
        clear hm2 hm3 hm4 hk0 hk1 hk2 hk3 hk4 hfew
        go_enter Try.func3, Try.ntmps3
        go_wp2_with (first
          | (go_at_call 4; refine (HF.out).mono ?_; rintro e w0 ⟨rfl, j0⟩)
          | (go_at_call 6; refine (E0.out w0).mono ?_; rintro e w1 ⟨Z0, d0, rfl, g0, f0, s0, j1⟩; have q1 := Later.trans_ j0 j1)
          | (go_at_call 7; refine (E1.out w1).mono ?_; rintro e w2 ⟨Z1, d1, rfl, g1, f1, s1, j2⟩; have q2 := Later.trans_ q1 j2)
          | (go_at_call 8; refine (E2.out w2 (hs2.keep q2)).mono ?_; rintro e w3 ⟨Z2, d2, rfl, g2, f2, s2, j3⟩; have q3 := Later.trans_ q2 j3)
          | (go_at_call 9; refine (E3.out w3 (hs3.keep q3)).mono ?_; rintro e w4 ⟨Z3, d3, rfl, g3, f3, s3, j4⟩; have q4 := Later.trans_ q3 j4)
          | (go_at_call 10; refine (E4.out w4 (hs4.keep q4)).mono ?_; rintro e w5 ⟨Z4, d4, rfl, g4, f4, s4, j5⟩; have q5 := Later.trans_ q4 j5))
        obtain ⟨w6, hw6⟩ : ∃ x, x = w5.alloc (Obj.cells #[Value.slice Z0 k0 d0, Value.slice Z1 k1 d1, Value.slice Z2 k2 d2, Value.slice Z3 k3 d3, Value.slice Z4 k4 d4] 27) := ⟨_, rfl⟩
        rw [← hw6]
        have q6 : Later w5 w6 := by rw [hw6]; exact (Below.refl _ _).alloc (Nat.le_refl _) _
        have hlt : w5.heap.size < w6.heap.size := by rw [hw6]; simp
        have hcA : ∀ j v, (#[Value.slice Z0 k0 d0, Value.slice Z1 k1 d1, Value.slice Z2 k2 d2, Value.slice Z3 k3 d3, Value.slice Z4 k4 d4] : Array Value)[j]? = some v → w6.cell? ⟨w5.heap.size, j, none⟩ = some v := by
          rw [hw6]
          intro j v h
          unfold World.cell?
          rw [show (w5.alloc (Obj.cells #[Value.slice Z0 k0 d0, Value.slice Z1 k1 d1, Value.slice Z2 k2 d2, Value.slice Z3 k3 d3, Value.slice Z4 k4 d4] 27)).heap[w5.heap.size]? = _ from heap_alloc_new w5 _]
          simpa using h
        have u0 := s0.keep (Later.trans_ (Later.trans_ (Later.trans_ (Later.trans_ j2 j3) j4) j5) q6)
        have u1 := s1.keep (Later.trans_ (Later.trans_ (Later.trans_ j3 j4) j5) q6)
        have u2 := s2.keep (Later.trans_ (Later.trans_ j4 j5) q6)
        have u3 := s3.keep (Later.trans_ j5 q6)
        have u4 := s4.keep q6
        have q7 := Later.trans_ q5 q6
        obtain ⟨g, hg⟩ : ∃ g, g = w5.heap.size := ⟨_, rfl⟩
        rw [← hg] at hlt hcA ⊢
        have c0 := hcA 0 _ rfl
        have c1 := hcA 1 _ rfl
        have c2' := hcA 2 _ rfl
        have c3' := hcA 3 _ rfl
        have c4' := hcA 4 _ rfl
        clear hcA hw6 hg q1 q2 q3 q4 q5 j1 j2 j3 j4 j5 s0 s1 s2 s3 s4 q6 E0 E1 E2 E3 E4 hs2 hs3 hs4
        go_loopw [49] (fun i wr => ∃ k : Nat, k ≤ 5 ∧ i = .int .i64 k ∧ Later w6 wr) (fun i _ => 5 - (intOf i).toNat)
        case atStart => exact ⟨0, by omega, rfl, Below.refl _ _⟩
        case round =>
          obtain ⟨k, hk, rfl, hbr⟩ := hrel
          have x0 := (hbr.cell (p := ⟨g, 0, none⟩) hlt).trans c0
          have x1 := (hbr.cell (p := ⟨g, 1, none⟩) hlt).trans c1
          have x2 := (hbr.cell (p := ⟨g, 2, none⟩) hlt).trans c2'
          have x3 := (hbr.cell (p := ⟨g, 3, none⟩) hlt).trans c3'
          have x4 := (hbr.cell (p := ⟨g, 4, none⟩) hlt).trans c4'
          have v0 := u0.keep hbr
          have v1 := u1.keep hbr
          have v2 := u2.keep hbr
          have v3 := u3.keep hbr
          have v4 := u4.keep hbr
          clear c0 c1 c2' c3' c4'
          rcases (show k = 0 ∨ k = 1 ∨ k = 2 ∨ k = 3 ∨ k = 4 ∨ k = 5 by omega) with rfl | rfl | rfl | rfl | rfl | rfl
          · skip
            rw [show ((0 : Nat) : Int) = 0 from rfl]
            go_wp2
            obtain ⟨wo, rfl⟩ : ∃ wo : World, wo = wr := ⟨_, rfl⟩
            go_loopw [57] (fun i wr => ∃ j : Nat, j ≤ k0 ∧ i = .int .i64 j ∧ Later wo wr) (fun i _ => k0 - (intOf i).toNat)
            case atStart => exact ⟨0, Nat.zero_le _, rfl, Below.refl _ _⟩
            case round =>
              obtain ⟨j, hj, rfl, hbo⟩ := hrel
              by_cases hlt2 : j < k0
              · go_wp2_with (go_at_call 11; refine (T0.out wr Z0 j d0 (by omega) (v0.keep hbo)).mono ?_; rintro e w7 ⟨rfl, rfl⟩)
                go_roundw
                case rel => exact ⟨j + 1, by omega, by go_num, hbo⟩
                case measure => simp [intOf]; omega
              · obtain rfl : j = k0 := by omega
                go_wp2
                go_roundw
                case rel => exact ⟨1, by omega, by go_num, Later.trans_ hbr hbo⟩
                case measure => simp [intOf]
          · skip
            rw [show ((1 : Nat) : Int) = 1 from rfl]
            go_wp2
            obtain ⟨wo, rfl⟩ : ∃ wo : World, wo = wr := ⟨_, rfl⟩
            go_loopw [57] (fun i wr => ∃ j : Nat, j ≤ k1 ∧ i = .int .i64 j ∧ Later wo wr) (fun i _ => k1 - (intOf i).toNat)
            case atStart => exact ⟨0, Nat.zero_le _, rfl, Below.refl _ _⟩
            case round =>
              obtain ⟨j, hj, rfl, hbo⟩ := hrel
              by_cases hlt2 : j < k1
              · go_wp2_with (go_at_call 12; refine (T1.out wr Z1 j d1 (by omega) (v1.keep hbo) g1 f1).mono ?_; rintro e w7 ⟨rfl, rfl⟩)
                go_roundw
                case rel => exact ⟨j + 1, by omega, by go_num, hbo⟩
                case measure => simp [intOf]; omega
              · obtain rfl : j = k1 := by omega
                go_wp2
                go_roundw
                case rel => exact ⟨2, by omega, by go_num, Later.trans_ hbr hbo⟩
                case measure => simp [intOf]
          · skip
            rw [show ((2 : Nat) : Int) = 2 from rfl]
            go_wp2
            obtain ⟨wo, rfl⟩ : ∃ wo : World, wo = wr := ⟨_, rfl⟩
            go_loopw [57] (fun i wr => ∃ j : Nat, j ≤ k2 ∧ i = .int .i64 j ∧ Later wo wr) (fun i _ => k2 - (intOf i).toNat)
            case atStart => exact ⟨0, Nat.zero_le _, rfl, Below.refl _ _⟩
            case round =>
              obtain ⟨j, hj, rfl, hbo⟩ := hrel
              by_cases hlt2 : j < k2
              · go_wp2_with (go_at_call 13; refine (T2.out wr Z2 j d2 (by omega) (v2.keep hbo) g2 f2).mono ?_; rintro e w7 ⟨X, nx, cx, rfl, _, _, _, jx⟩)
                go_roundw
                case rel => exact ⟨j + 1, by omega, by go_num, (Later.trans_ hbo jx)⟩
                case measure => simp [intOf]; omega
              · obtain rfl : j = k2 := by omega
                go_wp2
                go_roundw
                case rel => exact ⟨3, by omega, by go_num, Later.trans_ hbr hbo⟩
                case measure => simp [intOf]
          · rcases Nat.lt_or_ge 500 k3 with hk5 | hk5
            · skip
              rw [show ((3 : Nat) : Int) = 3 from rfl]
              go_wp2
              obtain ⟨wo, rfl⟩ : ∃ wo : World, wo = wr := ⟨_, rfl⟩
              go_loopw [57] (fun i wr => ∃ j : Nat, j ≤ 500 ∧ i = .int .i64 j ∧ Later wo wr) (fun i _ => 500 - (intOf i).toNat)
              case atStart => exact ⟨0, Nat.zero_le _, rfl, Below.refl _ _⟩
              case round =>
                obtain ⟨j, hj, rfl, hbo⟩ := hrel
                by_cases hlt2 : j < 500
                · go_wp2_with (go_at_call 14; refine (T3.out wr Z3 j d3 (by omega) (v3.keep hbo) g3 f3).mono ?_; rintro e w7 ⟨X, nx, cx, rfl, _, _, _, jx⟩)
                  go_roundw
                  case rel => exact ⟨j + 1, by omega, by go_num, (Later.trans_ hbo jx)⟩
                  case measure => simp [intOf]; omega
                · obtain rfl : j = 500 := by omega
                  rw [show ((500 : Nat) : Int) = 500 from rfl]
                  go_wp2
                  go_roundw
                  case rel => exact ⟨4, by omega, by go_num, Later.trans_ hbr hbo⟩
                  case measure => simp [intOf]
            · skip
              rw [show ((3 : Nat) : Int) = 3 from rfl]
              go_wp2
              obtain ⟨wo, rfl⟩ : ∃ wo : World, wo = wr := ⟨_, rfl⟩
              go_loopw [57] (fun i wr => ∃ j : Nat, j ≤ k3 ∧ i = .int .i64 j ∧ Later wo wr) (fun i _ => k3 - (intOf i).toNat)
              case atStart => exact ⟨0, Nat.zero_le _, rfl, Below.refl _ _⟩
              case round =>
                obtain ⟨j, hj, rfl, hbo⟩ := hrel
                by_cases hlt2 : j < k3
                · go_wp2_with (go_at_call 14; refine (T3.out wr Z3 j d3 (by omega) (v3.keep hbo) g3 f3).mono ?_; rintro e w7 ⟨X, nx, cx, rfl, _, _, _, jx⟩)
                  go_roundw
                  case rel => exact ⟨j + 1, by omega, by go_num, (Later.trans_ hbo jx)⟩
                  case measure => simp [intOf]; omega
                · obtain rfl : j = k3 := by omega
                  go_wp2
                  go_roundw
                  case rel => exact ⟨4, by omega, by go_num, Later.trans_ hbr hbo⟩
                  case measure => simp [intOf]
          · skip
            rw [show ((4 : Nat) : Int) = 4 from rfl]
            go_wp2
            obtain ⟨wo, rfl⟩ : ∃ wo : World, wo = wr := ⟨_, rfl⟩
            go_loopw [57] (fun i wr => ∃ j : Nat, j ≤ k4 ∧ i = .int .i64 j ∧ Later wo wr) (fun i _ => k4 - (intOf i).toNat)
            case atStart => exact ⟨0, Nat.zero_le _, rfl, Below.refl _ _⟩
            case round =>
              obtain ⟨j, hj, rfl, hbo⟩ := hrel
              by_cases hlt2 : j < k4
              · go_wp2_with (go_at_call 15; refine (T4.out wr Z4 j d4 (by omega) (v4.keep hbo) g4 f4).mono ?_; rintro e w7 ⟨X, nx, cx, rfl, _, _, _, jx⟩)
                go_roundw
                case rel => exact ⟨j + 1, by omega, by go_num, (Later.trans_ hbo jx)⟩
                case measure => simp [intOf]; omega
              · obtain rfl : j = k4 := by omega
                go_wp2
                go_roundw
                case rel => exact ⟨5, by omega, by go_num, Later.trans_ hbr hbo⟩
                case measure => simp [intOf]
          · rw [show ((5 : Nat) : Int) = 5 from rfl]
            go_wp2_with (go_at_call 5; refine (HS.out _).mono ?_; rintro e w8 ⟨rfl, z1⟩)
            go_ret
            exact ⟨rfl, Later.trans_ q7 (Later.trans_ hbr z1)⟩
      · rw [decide_eq_false hfew] at HF
        go_enter Try.func3, Try.ntmps3
        go_wp2_with (first
          | (go_at_call 4; refine (HF.out).mono ?_; rintro e w0 ⟨rfl, j0⟩)
          | (go_at_call 5; refine (HS.out _).mono ?_; rintro e w1 ⟨rfl, j1⟩))
        go_ret
        exact ⟨rfl, Later.trans_ j0 j1⟩

end Go.Proofs.Ytoigpokmlohhkaa
