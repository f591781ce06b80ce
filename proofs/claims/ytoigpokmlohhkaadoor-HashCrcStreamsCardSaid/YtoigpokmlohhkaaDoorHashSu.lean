/-
  TOWARDS THE STATEMENT HashCrcStreams: its walk, begun.
-/
import Derived.Test.YtoigpokmlohhkaaDoorHashSt
namespace Go.Proofs.YtoigpokmlohhkaaDoor
open Go.RowKit Go.ChangeShapes Go.WideShapes Go.ChangeAt

set_option maxRecDepth 100000 in
set_option maxHeartbeats 2000000 in
theorem lawCrcStreams_any (A : Option Addr) (n c : Nat) (l : List ByteArray) (o : ByteArray) (x : Int) (w : World) (tab : Tab w) (hs : Sl w 1 A n (Strs l)) (hnc : n ≤ c) (hn : n ≤ maxLen) (hz : ∀ s ∈ l, s.size ≤ maxLen) (ho : o.size ≤ maxLen) (hx : 0 ≤ x ∧ x ≤ 255) :
    Calls Tryd.prog 3 #[.slice A n c, .string o, .int .u8 x] w fun e w' => e = .returned (.bool true) ∧ Later w w' := by
  have HS := Lib.hid (sanity_any w tab)
  clear tab
  obtain ⟨F, hF⟩ : ∃ F, F = fewB l := ⟨_, rfl⟩
  have HW := Lib.hid fun w' (hw : Later w w') => by have h := few_any A n c l w' (hs.keep hw) hn hz; rw [← hF] at h; exact h
  unfold maxLen at hn ho
  cases F with
  | false =>
    clear hF
    go_enter Tryd.func3, Tryd.ntmps3
    go_wp2_with (first
      | (go_at_call 14; refine HS.out.mono ?_; rintro e w1 ⟨rfl, l1⟩)
      | (go_at_call 15; refine (HW.out w1 l1).mono ?_; rintro e w2 ⟨rfl, rfl⟩))
    go_ret
    exact ⟨rfl, l1⟩
  | true =>
    rcases Nat.lt_or_ge 400 o.size with h4 | h4
    · clear hF
      go_enter Tryd.func3, Tryd.ntmps3
      go_wp2_with (first
        | (go_at_call 14; refine HS.out.mono ?_; rintro e w1 ⟨rfl, l1⟩)
        | (go_at_call 15; refine (HW.out w1 l1).mono ?_; rintro e w2 ⟨rfl, rfl⟩))
      go_ret
      exact ⟨rfl, l1⟩
    · have hln := hs.slen
      have hb : n ≤ 12 ∧ ∀ s ∈ l, s.size ≤ 400 := by
        unfold fewB at hF
        have h := hF.symm
        rw [Bool.and_eq_true, decide_eq_true_eq, List.all_eq_true] at h
        exact ⟨by omega, fun s hs => of_decide_eq_true (h.2 s hs)⟩
      obtain ⟨hn12, hall⟩ := hb
      clear hF hz hn ho
      have HA := Lib.hid hall; have HL := Lib.hid hln
      clear hall hln
      obtain ⟨K, hK, hK2⟩ : ∃ K : Nat, x.tmod ((n : Int) + 1) = (K : Int) ∧ K ≤ n := by
        rw [Int.tmod_eq_emod_of_nonneg hx.1]
        have h1 := Int.emod_nonneg x (show ((n : Int) + 1) ≠ 0 by omega)
        have h2 := Int.emod_lt_of_pos x (show (0 : Int) < (n : Int) + 1 by omega)
        exact ⟨(x % ((n : Int) + 1)).toNat, by omega, by omega⟩
      have g1 : IntKind.i64.wrap x = x := IntWalk.i64_in _ (by omega)
      have g2 : IntKind.i64.wrap ((n : Int) + 1) = (n : Int) + 1 := IntWalk.i64_in _ (by omega)
      have g3 : IntKind.i64.wrap (K : Int) = (K : Int) := IntWalk.i64_in _ (by omega)
      have g4 : ¬ ((n : Int) + 1 = 0) := by omega
      obtain ⟨z0, hz0⟩ : ∃ z, z = regS ⟨#[]⟩ := ⟨_, rfl⟩
      have HB := Lib.hid fun w' => by have h := begin_reg w'; rw [← hz0] at h; exact h
      have HZ := Lib.hid hz0
      clear hz0
      go_enter Tryd.func3, Tryd.ntmps3
      go_wp2_with (first
        | (go_at_call 14; refine HS.out.mono ?_; rintro e w1 ⟨rfl, l1⟩)
        | (go_at_call 15; refine (HW.out w1 l1).mono ?_; rintro e w2 ⟨rfl, rfl⟩)
        | (go_at_call 16; refine (HB.out _).mono ?_; rintro e w3 ⟨rfl, h3⟩; have l3 : Later w w3 := Later.trans_ l1 h3))
      clear hK g1 g4 HB h3 hx
      have y3 : ∃ wq, (wq.heap.size = w3.heap.size + 1) ∧ Later w wq := ⟨w3.alloc (.cells #[] 0), by simp, l3.alloc l3.size _⟩
      clear y3
      have hw3 := l3.size
      go_loopw [10] (fun i wr => ∃ (k : Nat) (z : Int), k ≤ K ∧ i = .int .i64 k ∧ Hid (z = regS (joined (l.take k))) ∧ Blk wr w3.heap.size 27 [.int .u64 z] ∧ Later w wr) (fun i _ => K - (intOf i).toNat)
      case atStart => exact ⟨0, z0, by omega, rfl, HZ, Blk.new _ _ _ _ rfl, l3.alloc l3.size _⟩
      case round =>
        obtain ⟨k, z, hk, rfl, HZk, hbk, hbr⟩ := hrel
        by_cases hlt : k < K
        · obtain ⟨ad, s, rfl, hbl, hc, hmem, HX⟩ := (hs.keep hbr).str (show k < n by omega)
          have hcell := hbk.cell (j := 0) rfl
          have hsz : s.size ≤ 400 := HA.out s hmem
          obtain ⟨z1, hz1⟩ : ∃ z1, z1 = regS (joined (l.take (k + 1))) := ⟨_, rfl⟩
          have HA1 := Lib.hid fun w' => by
            have h := add_reg (joined (l.take k)) s w' (by unfold maxLen; omega)
            rw [← HZk.out, ← joined_snoc, ← HX.out.1, ← hz1] at h
            exact h
          have HZ1 := Lib.hid hz1
          clear hz1
          go_wp2_with fail
          go_region_with (go_at_call 17; refine (HA1.out _).mono ?_; rintro e w4 ⟨rfl, h4'⟩; have hbk4 := hbk.drew.keep h4'; have hb4 : Later w w4 := Later.trans_ hbr.drew h4'; have hc4 := hbk4.cell (j := 0) rfl; have hf4 := hbk4.frz 0)
          all_goals
            have hset := hbk4.set 0 (.int .u64 z1)
            have hb5 : Later w (w4.setCell ⟨w3.heap.size, 0, none⟩ (.int .u64 z1)) := hb4.setCell hw3 _
            clear hbk4 hc4 hf4 hbk hcell
            go_wp2
            go_roundw
            case rel => exact ⟨k + 1, z1, by omega, by go_num, HZ1, hset, hb5⟩
            case measure => simp [intOf]; omega
        · obtain rfl : k = K := by omega
          clear hlt g3
          have hGE : w3.heap.size ≠ wr.heap.size := Nat.ne_of_lt hbk.lt
          have hEw := hbr.size
          have hcell := hbk.cell (j := 0) rfl
          go_wp2_with fail
          go_loopw [12] (fun i wq => ∃ (m : Nat) (y : Int), k ≤ m ∧ m ≤ n ∧ i = .int .i64 m ∧ Hid (y = regS (joined (l.take m))) ∧ Blk wq w3.heap.size 27 [.int .u64 y] ∧ Blk wq wr.heap.size 27 [.int .u64 z] ∧ Later w wq) (fun i _ => n - (intOf i).toNat)
          case atStart => exact ⟨k, z, by omega, by omega, rfl, HZk, hbk.alloc _, Blk.new _ _ _ _ rfl, hbr.alloc hbr.size _⟩
          case round =>
            clear hbk hbr hcell
            obtain ⟨m, y, hm1, hm2, rfl, HZm, hbk, hbe, hbr⟩ := hrel
            by_cases hlt : m < n
            · obtain ⟨ad, s, rfl, hbl, hc, hmem, HX⟩ := (hs.keep hbr).str hlt
              have hcell := hbk.cell (j := 0) rfl
              have hsz : s.size ≤ 400 := HA.out s hmem
              obtain ⟨z1, hz1⟩ : ∃ z1, z1 = regS (joined (l.take (m + 1))) := ⟨_, rfl⟩
              have HA1 := Lib.hid fun w' => by
                have h := add_reg (joined (l.take m)) s w' (by unfold maxLen; omega)
                rw [← HZm.out, ← joined_snoc, ← HX.out.1, ← hz1] at h
                exact h
              have HZ1 := Lib.hid hz1
              clear hz1
              go_wp2_with fail
              go_region_with (go_at_call 17; refine (HA1.out _).mono ?_; rintro e w4 ⟨rfl, h4'⟩; have hbk4 := hbk.drew.keep h4'; have hbe4 := hbe.drew.keep h4'; have hb4 : Later w w4 := Later.trans_ hbr.drew h4'; have hc4 := hbk4.cell (j := 0) rfl; have hf4 := hbk4.frz 0)
              all_goals
                have hset := hbk4.set 0 (.int .u64 z1)
                have hse := hbe4.set_other ⟨w3.heap.size, 0, none⟩ (.int .u64 z1) hGE.symm
                have hb5 : Later w (w4.setCell ⟨w3.heap.size, 0, none⟩ (.int .u64 z1)) := hb4.setCell hw3 _
                clear hbk4 hc4 hf4 hbk hcell hbe4 hbe
                go_wp2
                go_roundw
                case rel => exact ⟨m + 1, z1, by omega, by omega, by go_num, HZ1, hset, hse, hb5⟩
                case measure => simp [intOf]; omega
            · obtain rfl : m = n := by omega
              clear hlt
              obtain ⟨W, hW⟩ : ∃ s, s = joined l := ⟨_, rfl⟩
              obtain ⟨H, hH⟩ : ∃ s, s = joined (l.take k) := ⟨_, rfl⟩
              have hyW : y = regS W := by rw [HZm.out, hW, List.take_of_length_le (by rw [HL.out]; omega)]
              have hzH : z = regS H := by rw [HZk.out, hH]
              have hWs : W.size ≤ 4800 := by
                rw [hW]
                have := joined_size l HA.out
                rw [HL.out] at this
                omega
              have hHs : H.size ≤ 4800 := by
                rw [hH]
                have := joined_size (l.take k) (fun s hs => HA.out s (List.mem_of_mem_take hs))
                rw [List.length_take] at this
                omega
              have hFs : (H ++ o).size ≤ maxLen := by rw [ByteArray.size_append]; unfold maxLen; omega
              obtain ⟨zF, hzF⟩ : ∃ x, x = regS (H ++ o) := ⟨_, rfl⟩
              obtain ⟨vN, hvN⟩ : ∃ x, x = crcI (sb W) := ⟨_, rfl⟩
              obtain ⟨vH, hvH⟩ : ∃ x, x = crcI (sb H) := ⟨_, rfl⟩
              obtain ⟨vF, hvF⟩ : ∃ x, x = crcI (sb (H ++ o)) := ⟨_, rfl⟩
              have AD := Lib.hid fun w' => by have h := add_reg H o w' (by unfold maxLen; omega); rw [← hzH, ← hzF] at h; exact h
              have J1 := Lib.hid fun w' (hw : Later w w') => by have h := joined_any A m c l w' (hs.keep hw) hn12 HA.out; rw [← hW] at h; exact h
              have J2 := Lib.hid fun w' c' (hw : Later w w') => by
                have hf : Sl w' 1 A k (Strs (l.take k)) := by
                  have h1 := (hs.keep hw).front hK2
                  rw [Nat.mul_one] at h1
                  rw [show Strs (l.take k) = (Strs l).take k by simp [Strs]]
                  exact h1
                have h := joined_any A k c' (l.take k) w' hf (by omega) (fun s hs => HA.out s (List.mem_of_mem_take hs)); rw [← hH] at h; exact h
              have V1 := Lib.hid fun w' => by have h := value_reg W w'; rw [← hyW, ← hvN] at h; exact h
              have V2 := Lib.hid fun w' => by have h := value_reg H w'; rw [← hzH, ← hvH] at h; exact h
              have V3 := Lib.hid fun w' => by have h := value_reg (H ++ o) w'; rw [← hzF, ← hvF] at h; exact h
              have C1 := Lib.hid fun w' cap fr => by have h := crc_row' W w' cap fr (by unfold maxLen; omega); rw [← hvN] at h; exact h
              have C2 := Lib.hid fun w' cap fr => by have h := crc_row' H w' cap fr (by unfold maxLen; omega); rw [← hvH] at h; exact h
              obtain ⟨T, hT⟩ : ∃ T, H ++ o = T := ⟨_, rfl⟩
              have C3 := Lib.hid fun w' cap fr => by have h := crc_row' (H ++ o) w' cap fr hFs; rw [← hvF, hT] at h; exact h
              have kb := fun (w : World) (s : ByteArray) => run_bytes_of_string (P := Tryd.prog) w 9 33 5 s Tryd.underlying9 Tryd.underlying33 Tryd.underlying5
              have c9 := hbk.cell (j := 0) rfl
              have c11 := hbe.cell (j := 0) rfl
              have hkm : (k : Int) ≤ (m : Int) := by omega
              have hkc : (k : Int) ≤ (c : Int) := by omega
              clear hW hH hyW hzH hWs hFs hzF hvN hvH hvF HZ HZk HZm l1 l3 hm1 hm2 HA HL
              go_wp2_with (first
                | (go_at_call 17; (with_reducible refine (AD.out _).mono ?_); rintro e w6 ⟨rfl, h6⟩; have l6 : Later w w6 := Later.trans_ hbr h6)
                | (go_at_call 18; (with_reducible refine (J1.out _ (l6.alloc l6.size _)).mono ?_); rintro e w7 ⟨rfl, rfl⟩)
                | (go_at_call 18; (with_reducible refine (J2.out _ _ (l6.alloc l6.size _)).mono ?_); rintro e w7 ⟨rfl, rfl⟩; have d9 := ((hbk.keep h6).alloc (.cells #[.int .u64 zF] 27)).cell (j := 0) rfl)
                | (go_at_call 19; (with_reducible refine (V1.out _).mono ?_); rintro e w8 ⟨rfl, h8⟩; have l8 : Later w w8 := Later.trans_ (l6.alloc l6.size _) h8))
              refine (C1.out w8 _ _).mono ?_
              rintro e w9 ⟨rfl, h9⟩
              have l9 : Later w w9 := Later.trans_ (l8.alloc l8.size _).drew h9
              have b11 := (((((hbe.keep h6).alloc (.cells #[.int .u64 zF] 27)).keep h8).alloc _).drew).keep h9
              have d11 := b11.cell (j := 0) rfl
              have b13 := ((((Blk.new w6 27 #[.int .u64 zF] [.int .u64 zF] rfl).keep h8).alloc _).drew).keep h9
              go_wp2_with (go_at_call 19; (with_reducible refine (V2.out _).mono ?_); rintro e w10 ⟨rfl, h10⟩; have l10 : Later w w10 := Later.trans_ l9 h10)
              refine (C2.out w10 _ _).mono ?_
              rintro e w11 ⟨rfl, h11⟩
              have l11 : Later w w11 := Later.trans_ (l10.alloc l10.size _).drew h11
              have b15 := (((b13.keep h10).alloc _).drew).keep h11
              have d15 := b15.cell (j := 0) rfl
              go_wp2_with (go_at_call 19; (with_reducible refine (V3.out _).mono ?_); rintro e w12 ⟨rfl, h12⟩; have l12 : Later w w12 := Later.trans_ l11 h12)
              refine (C3.out w12 _ _).mono ?_
              rintro e w13 ⟨rfl, h13⟩
              have l13 : Later w w13 := Later.trans_ (l12.alloc l12.size _).drew h13
              go_wp2
              go_ret
              exact ⟨ret_bool (by simp), l13⟩
end Go.Proofs.YtoigpokmlohhkaaDoor
