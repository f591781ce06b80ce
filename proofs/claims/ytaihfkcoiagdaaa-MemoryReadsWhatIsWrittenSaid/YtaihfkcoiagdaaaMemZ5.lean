/-
  THE STATEMENT MemoryReadsWhatIsWritten: what was written is read, the bytes before and after it are as they were; two neighbouring parts are read as the whole; for every memory, address, bytes of at most 9000, place and number.
-/
import Derived.Test.YtaihfkcoiagdaaaMemZ4
namespace Go.Proofs.Ytaihfkcoiagdaaa
open Go.RowKit Go.ChangeShapes Go.WideShapes Go.ChangeAt

set_option maxRecDepth 100000 in
set_option maxHeartbeats 1000000 in
theorem reads_bad (A : Option Addr) (n c : Nat) (a : Int) (data : ByteArray) (fr nn : Int) (w : World) (h : ¬ (1 ≤ n ∧ n ≤ 64)) :
    Calls Try.prog 7 #[.agg #[.slice A n c], .int .i64 a, .string data, .int .u16 fr, .int .u16 nn] w fun e w' => e = .returned (.bool true) ∧ Later w w' := by
  have HN := Lib.hid fun w' => sanity_any w'
  have HV := Lib.hid fun w' => rvalid_any A n c w'
  rw [decide_eq_false h] at HV
  clear h
  go_enter Try.func7, Try.ntmps7
  go_wp2_with (first
    | (go_at_call 11; refine (HV.out _).mono ?_; rintro e w1 ⟨rfl, l1⟩)
    | (go_at_call 9; refine (HN.out _).mono ?_; rintro e w2 ⟨rfl, l2⟩))
  go_ret
  exact ⟨rfl, Later.trans_ (Later.trans_ (later1 _ _) l1) l2⟩
set_option maxRecDepth 100000 in
set_option maxHeartbeats 1000000 in
theorem reads_big (A : Option Addr) (n c : Nat) (a : Int) (data : ByteArray) (fr nn : Int) (w : World) (h1 : 1 ≤ n ∧ n ≤ 64) (h : 9000 < data.size) :
    Calls Try.prog 7 #[.agg #[.slice A n c], .int .i64 a, .string data, .int .u16 fr, .int .u16 nn] w fun e w' => e = .returned (.bool true) ∧ Later w w' := by
  have HN := Lib.hid fun w' => sanity_any w'
  have HV := Lib.hid fun w' => rvalid_any A n c w'
  rw [decide_eq_true h1] at HV
  have h2 : (9000 : Int) < (data.size : Int) := by omega
  go_enter Try.func7, Try.ntmps7
  go_wp2_with (first
    | (go_at_call 11; refine (HV.out _).mono ?_; rintro e w1 ⟨rfl, l1⟩)
    | (go_at_call 9; refine (HN.out _).mono ?_; rintro e w2 ⟨rfl, l2⟩))
  go_ret
  exact ⟨rfl, Later.trans_ (Later.trans_ (later1 _ _) l1) l2⟩
theorem str_app (x y : Wm.Bs) : strOfNums (x ++ y) = strOfNums x ++ strOfNums y := by
  apply ByteArray.ext
  rw [ByteArray.data_append]
  apply Array.toList_inj.1
  rw [Array.toList_append, strOfNums_data, strOfNums_data, strOfNums_data, List.map_append]
theorem str_cut (x : Wm.Bs) (i j : Nat) (_hj : j ≤ x.length) (_hi : i ≤ j) : (strOfNums x).extract i j = strOfNums ((x.drop i).take (j - i)) := by
  apply ByteArray.ext
  rw [ByteArray.data_extract]
  apply Array.toList_inj.1
  rw [Array.toList_extract, strOfNums_data, strOfNums_data]
  simp [List.map_take, List.map_drop]

set_option maxRecDepth 100000 in
set_option maxHeartbeats 8000000 in
theorem reads_out (A : Option Addr) (n c : Nat) (a : Int) (data : ByteArray) (fr nn : Int) (b : Wm.Bs) (w : World) (hs : Sl w 128 A n (U b)) (_hb : Wm.isBs b) (h1 : 1 ≤ n ∧ n ≤ 64) (hd : data.size ≤ 9000) (hat : -9223372036854775808 ≤ a ∧ a ≤ 9223372036854775807) (hfr : 0 ≤ fr ∧ fr ≤ 65535) (hnn : 0 ≤ nn ∧ nn ≤ 65535) (h : ¬ Mm.Inside (n * 128) a data.size) :
    Calls Try.prog 7 #[.agg #[.slice A n c], .int .i64 a, .string data, .int .u16 fr, .int .u16 nn] w fun e w' => e = .returned (.bool true) ∧ Later w w' := by
  have hbl : b.length = n * 128 := by have := hs.1; rwa [U_length] at this
  have HN := Lib.hid fun w' => sanity_any w'
  have HV := Lib.hid fun w' => rvalid_any A n c w'
  rw [decide_eq_true h1] at HV
  have h9 : ¬ (9000 : Int) < (data.size : Int) := by omega
  have KW := Lib.hid fun w' (hl : Later w w') => write_any A n c a data b w' (hs.keep hl) h1.1 h1.2 hat
  have KZ := Lib.hid fun w' => size_any A n c w' h1.2
  obtain ⟨L, hL⟩ : ∃ L, L = n * 128 := ⟨_, rfl⟩
  have hL0 : 1 ≤ L ∧ L ≤ 8192 := by omega
  obtain ⟨F, hF⟩ : ∃ F : Nat, (F : Int) = fr % ((L : Int) + 1) := ⟨(fr % ((L : Int) + 1)).toNat, Int.toNat_of_nonneg (Int.emod_nonneg _ (by omega))⟩
  have hF1 : F ≤ L := by have := Int.emod_lt_of_pos fr (show (0 : Int) < (L : Int) + 1 by omega); omega
  obtain ⟨K, hK⟩ : ∃ K : Nat, (K : Int) = nn % ((L : Int) - F + 1) := ⟨(nn % ((L : Int) - F + 1)).toNat, Int.toNat_of_nonneg (Int.emod_nonneg _ (by omega))⟩
  have hK1 : F + K ≤ L := by have := Int.emod_lt_of_pos nn (show (0 : Int) < (L : Int) - F + 1 by omega); omega
  have e1 : fr.tmod ((L : Int) + 1) = (F : Int) := by rw [Int.tmod_eq_emod_of_nonneg hfr.1, hF]
  have e2 : fr % ((L : Int) + 1) = (F : Int) := hF.symm
  have e3 : nn.tmod ((L : Int) - F + 1) = (K : Int) := by rw [Int.tmod_eq_emod_of_nonneg hnn.1, hK]
  have e4 : nn % ((L : Int) - F + 1) = (K : Int) := hK.symm
  have z1 : ¬ ((L : Int) + 1 = 0) := by omega
  have z2 : ¬ ((L : Int) - F + 1 = 0) := by omega
  have KR1 := Lib.hid fun w' (hl : Later w w') => read_any A n c 0 (F : Int) b w' (hs.keep hl) h1.1 h1.2 (by omega)
  have KR2 := Lib.hid fun w' (hl : Later w w') => read_any A n c (F : Int) (K : Int) b w' (hs.keep hl) h1.1 h1.2 (by omega)
  have KR3 := Lib.hid fun w' (hl : Later w w') => read_any A n c 0 ((F : Int) + (K : Int)) b w' (hs.keep hl) h1.1 h1.2 (by omega)
  have i1 : Mm.Inside (n * 128) 0 (F : Int) := by rw [← hL]; unfold Mm.Inside; omega
  have i2 : Mm.Inside (n * 128) (F : Int) (K : Int) := by rw [← hL]; unfold Mm.Inside; omega
  have i3 : Mm.Inside (n * 128) 0 ((F : Int) + (K : Int)) := by rw [← hL]; unfold Mm.Inside; omega
  obtain ⟨T1, hT1⟩ : ∃ T, T = strOfNums (b.take F) := ⟨_, rfl⟩
  obtain ⟨T2, hT2⟩ : ∃ T, T = strOfNums ((b.drop F).take K) := ⟨_, rfl⟩
  have hT1s : T1.size ≤ 8192 := by rw [hT1, strOfNums_size, List.length_take]; omega
  have hT2s : T2.size ≤ 8192 := by rw [hT2, strOfNums_size, List.length_take]; omega
  rw [decide_eq_true i1, show strOfNums (Mm.rd b 0 (F : Int)) = T1 by unfold Mm.rd; rw [hbl, if_pos i1, hT1]; rfl] at KR1
  rw [decide_eq_true i2, show strOfNums (Mm.rd b (F : Int) (K : Int)) = T2 by unfold Mm.rd; rw [hbl, if_pos i2, hT2]; rfl] at KR2
  rw [decide_eq_true i3, show strOfNums (Mm.rd b 0 ((F : Int) + (K : Int))) = T1 ++ T2 by
    unfold Mm.rd; rw [hbl, if_pos i3, hT1, hT2, ← str_app, take_more]; rfl] at KR3
  rw [decide_eq_false h, show Mm.wr b a (Wm.ofS data) = b by unfold Mm.wr; rw [Wm.ofS_length, hbl, if_neg h]] at KW
  have KD := Lib.hid fun g c' w' (hl : Later w w') (hd : Draft w' g n b) => diff_any A n c (some ⟨g, 0, none⟩) n c' b b w' (hs.keep hl) hd.sl h1.2 h1.2
  rw [(Mm.diff_nil hbl hbl).2 rfl] at KD
  rw [← hL] at KZ h
  have hh : a < 0 ∨ (0 ≤ a ∧ (L : Int) < a) ∨ (0 ≤ a ∧ a ≤ L ∧ (L : Int) - a < data.size) := by unfold Mm.Inside at h; omega
  clear h i1 i2 i3 hT1 hT2 hF hK hL hs _hb h1 hbl hat
  rcases hh with k1 | ⟨k1, k2⟩ | ⟨k1, k2, k3⟩
  · have d1 : decide (a < 0) = true := decide_eq_true k1
    go_enter Try.func7, Try.ntmps7
    go_wp2_with (first
      | (go_at_call 11; refine (HV.out _).mono ?_; rintro e w1 ⟨rfl, l1⟩; have b5 := (Blk.new w 24 #[.slice A n c] [.slice A n c] rfl).keep l1; have c5 := b5.cell (j := 0) (v := .slice A n c) rfl; have lw := Later.trans_ (later1 w _) l1)
      | (go_at_call 21; refine (KW.out _ lw).mono ?_; rintro e w2 ⟨g, c', rfl, _, _, _, dx, l2⟩; clear c5; replace b5 := (b5.keep l2).keep (later1 w2 (.cells #[.slice (some ⟨g, 0, none⟩) n c'] 24)); replace dx := dx.keep (later1 w2 (.cells #[.slice (some ⟨g, 0, none⟩) n c'] 24)); have b11 := Blk.new w2 24 #[.slice (some ⟨g, 0, none⟩) n c'] [.slice (some ⟨g, 0, none⟩) n c'] rfl; replace lw := Later.trans_ (Later.trans_ lw l2) (later1 w2 (.cells #[.slice (some ⟨g, 0, none⟩) n c'] 24)); have c5 := b5.cell (j := 0) (v := .slice A n c) rfl; have c11 := b11.cell (j := 0) (v := .slice (some ⟨g, 0, none⟩) n c') rfl)
      | (go_at_call 16; refine (KZ.out _).mono ?_; rintro e w3 ⟨rfl, l3⟩; replace b5 := b5.keep l3; replace b11 := b11.keep l3; replace dx := dx.keep l3; replace lw := Later.trans_ lw l3; clear c5 c11; have c5 := b5.cell (j := 0) (v := .slice A n c) rfl; have c11 := b11.cell (j := 0) (v := (.slice (some ⟨g, 0, none⟩) n c')) rfl)
      | (go_at_call 28; (with_reducible refine (KD.out g c' _ lw dx).mono ?_); rintro e w8 ⟨AD, cD, rfl, _, _, _, l8⟩; replace b5 := b5.keep l8; replace b11 := b11.keep l8; replace dx := dx.keep l8; replace lw := Later.trans_ lw l8; clear c5 c11; have c5 := b5.cell (j := 0) (v := .slice A n c) rfl; have c11 := b11.cell (j := 0) (v := (.slice (some ⟨g, 0, none⟩) n c')) rfl)
      | (go_at_call 9; refine (HN.out _).mono ?_; rintro e w7 ⟨rfl, l7⟩; replace b5 := b5.keep l7; replace b11 := b11.keep l7; replace dx := dx.keep l7; replace lw := Later.trans_ lw l7; clear c5 c11; have c5 := b5.cell (j := 0) (v := .slice A n c) rfl; have c11 := b11.cell (j := 0) (v := (.slice (some ⟨g, 0, none⟩) n c')) rfl)
      | (go_at_call 20; (with_reducible refine (KR3.out _ lw).mono ?_); rintro e w6 ⟨rfl, l6⟩; replace b5 := b5.keep l6; replace b11 := b11.keep l6; replace dx := dx.keep l6; replace lw := Later.trans_ lw l6; clear c5 c11; have c5 := b5.cell (j := 0) (v := .slice A n c) rfl; have c11 := b11.cell (j := 0) (v := (.slice (some ⟨g, 0, none⟩) n c')) rfl)
      | (go_at_call 20; (with_reducible refine (KR2.out _ lw).mono ?_); rintro e w5 ⟨rfl, l5⟩; replace b5 := b5.keep l5; replace b11 := b11.keep l5; replace dx := dx.keep l5; replace lw := Later.trans_ lw l5; clear c5 c11; have c5 := b5.cell (j := 0) (v := .slice A n c) rfl; have c11 := b11.cell (j := 0) (v := (.slice (some ⟨g, 0, none⟩) n c')) rfl)
      | (go_at_call 20; (with_reducible refine (KR1.out _ lw).mono ?_); rintro e w4 ⟨rfl, l4⟩; replace b5 := b5.keep l4; replace b11 := b11.keep l4; replace dx := dx.keep l4; replace lw := Later.trans_ lw l4; clear c5 c11; have c5 := b5.cell (j := 0) (v := .slice A n c) rfl; have c11 := b11.cell (j := 0) (v := (.slice (some ⟨g, 0, none⟩) n c')) rfl))
    go_ret
    exact ⟨rfl, lw⟩
  · have d1 : decide (a < 0) = false := decide_eq_false (by omega)
    have d2 : decide ((L : Int) < a) = true := decide_eq_true k2
    go_enter Try.func7, Try.ntmps7
    go_wp2_with (first
      | (go_at_call 11; refine (HV.out _).mono ?_; rintro e w1 ⟨rfl, l1⟩; have b5 := (Blk.new w 24 #[.slice A n c] [.slice A n c] rfl).keep l1; have c5 := b5.cell (j := 0) (v := .slice A n c) rfl; have lw := Later.trans_ (later1 w _) l1)
      | (go_at_call 21; refine (KW.out _ lw).mono ?_; rintro e w2 ⟨g, c', rfl, _, _, _, dx, l2⟩; clear c5; replace b5 := (b5.keep l2).keep (later1 w2 (.cells #[.slice (some ⟨g, 0, none⟩) n c'] 24)); replace dx := dx.keep (later1 w2 (.cells #[.slice (some ⟨g, 0, none⟩) n c'] 24)); have b11 := Blk.new w2 24 #[.slice (some ⟨g, 0, none⟩) n c'] [.slice (some ⟨g, 0, none⟩) n c'] rfl; replace lw := Later.trans_ (Later.trans_ lw l2) (later1 w2 (.cells #[.slice (some ⟨g, 0, none⟩) n c'] 24)); have c5 := b5.cell (j := 0) (v := .slice A n c) rfl; have c11 := b11.cell (j := 0) (v := .slice (some ⟨g, 0, none⟩) n c') rfl)
      | (go_at_call 16; refine (KZ.out _).mono ?_; rintro e w3 ⟨rfl, l3⟩; replace b5 := b5.keep l3; replace b11 := b11.keep l3; replace dx := dx.keep l3; replace lw := Later.trans_ lw l3; clear c5 c11; have c5 := b5.cell (j := 0) (v := .slice A n c) rfl; have c11 := b11.cell (j := 0) (v := (.slice (some ⟨g, 0, none⟩) n c')) rfl)
      | (go_at_call 28; (with_reducible refine (KD.out g c' _ lw dx).mono ?_); rintro e w8 ⟨AD, cD, rfl, _, _, _, l8⟩; replace b5 := b5.keep l8; replace b11 := b11.keep l8; replace dx := dx.keep l8; replace lw := Later.trans_ lw l8; clear c5 c11; have c5 := b5.cell (j := 0) (v := .slice A n c) rfl; have c11 := b11.cell (j := 0) (v := (.slice (some ⟨g, 0, none⟩) n c')) rfl)
      | (go_at_call 9; refine (HN.out _).mono ?_; rintro e w7 ⟨rfl, l7⟩; replace b5 := b5.keep l7; replace b11 := b11.keep l7; replace dx := dx.keep l7; replace lw := Later.trans_ lw l7; clear c5 c11; have c5 := b5.cell (j := 0) (v := .slice A n c) rfl; have c11 := b11.cell (j := 0) (v := (.slice (some ⟨g, 0, none⟩) n c')) rfl)
      | (go_at_call 20; (with_reducible refine (KR3.out _ lw).mono ?_); rintro e w6 ⟨rfl, l6⟩; replace b5 := b5.keep l6; replace b11 := b11.keep l6; replace dx := dx.keep l6; replace lw := Later.trans_ lw l6; clear c5 c11; have c5 := b5.cell (j := 0) (v := .slice A n c) rfl; have c11 := b11.cell (j := 0) (v := (.slice (some ⟨g, 0, none⟩) n c')) rfl)
      | (go_at_call 20; (with_reducible refine (KR2.out _ lw).mono ?_); rintro e w5 ⟨rfl, l5⟩; replace b5 := b5.keep l5; replace b11 := b11.keep l5; replace dx := dx.keep l5; replace lw := Later.trans_ lw l5; clear c5 c11; have c5 := b5.cell (j := 0) (v := .slice A n c) rfl; have c11 := b11.cell (j := 0) (v := (.slice (some ⟨g, 0, none⟩) n c')) rfl)
      | (go_at_call 20; (with_reducible refine (KR1.out _ lw).mono ?_); rintro e w4 ⟨rfl, l4⟩; replace b5 := b5.keep l4; replace b11 := b11.keep l4; replace dx := dx.keep l4; replace lw := Later.trans_ lw l4; clear c5 c11; have c5 := b5.cell (j := 0) (v := .slice A n c) rfl; have c11 := b11.cell (j := 0) (v := (.slice (some ⟨g, 0, none⟩) n c')) rfl))
    go_ret
    exact ⟨rfl, lw⟩
  · have d1 : decide (a < 0) = false := decide_eq_false (by omega)
    have d2 : decide ((L : Int) < a) = false := decide_eq_false (by omega)
    have d3 : decide ((L : Int) - a < data.size) = true := decide_eq_true k3
    go_enter Try.func7, Try.ntmps7
    go_wp2_with (first
      | (go_at_call 11; refine (HV.out _).mono ?_; rintro e w1 ⟨rfl, l1⟩; have b5 := (Blk.new w 24 #[.slice A n c] [.slice A n c] rfl).keep l1; have c5 := b5.cell (j := 0) (v := .slice A n c) rfl; have lw := Later.trans_ (later1 w _) l1)
      | (go_at_call 21; refine (KW.out _ lw).mono ?_; rintro e w2 ⟨g, c', rfl, _, _, _, dx, l2⟩; clear c5; replace b5 := (b5.keep l2).keep (later1 w2 (.cells #[.slice (some ⟨g, 0, none⟩) n c'] 24)); replace dx := dx.keep (later1 w2 (.cells #[.slice (some ⟨g, 0, none⟩) n c'] 24)); have b11 := Blk.new w2 24 #[.slice (some ⟨g, 0, none⟩) n c'] [.slice (some ⟨g, 0, none⟩) n c'] rfl; replace lw := Later.trans_ (Later.trans_ lw l2) (later1 w2 (.cells #[.slice (some ⟨g, 0, none⟩) n c'] 24)); have c5 := b5.cell (j := 0) (v := .slice A n c) rfl; have c11 := b11.cell (j := 0) (v := .slice (some ⟨g, 0, none⟩) n c') rfl)
      | (go_at_call 16; refine (KZ.out _).mono ?_; rintro e w3 ⟨rfl, l3⟩; replace b5 := b5.keep l3; replace b11 := b11.keep l3; replace dx := dx.keep l3; replace lw := Later.trans_ lw l3; clear c5 c11; have c5 := b5.cell (j := 0) (v := .slice A n c) rfl; have c11 := b11.cell (j := 0) (v := (.slice (some ⟨g, 0, none⟩) n c')) rfl)
      | (go_at_call 28; (with_reducible refine (KD.out g c' _ lw dx).mono ?_); rintro e w8 ⟨AD, cD, rfl, _, _, _, l8⟩; replace b5 := b5.keep l8; replace b11 := b11.keep l8; replace dx := dx.keep l8; replace lw := Later.trans_ lw l8; clear c5 c11; have c5 := b5.cell (j := 0) (v := .slice A n c) rfl; have c11 := b11.cell (j := 0) (v := (.slice (some ⟨g, 0, none⟩) n c')) rfl)
      | (go_at_call 9; refine (HN.out _).mono ?_; rintro e w7 ⟨rfl, l7⟩; replace b5 := b5.keep l7; replace b11 := b11.keep l7; replace dx := dx.keep l7; replace lw := Later.trans_ lw l7; clear c5 c11; have c5 := b5.cell (j := 0) (v := .slice A n c) rfl; have c11 := b11.cell (j := 0) (v := (.slice (some ⟨g, 0, none⟩) n c')) rfl)
      | (go_at_call 20; (with_reducible refine (KR3.out _ lw).mono ?_); rintro e w6 ⟨rfl, l6⟩; replace b5 := b5.keep l6; replace b11 := b11.keep l6; replace dx := dx.keep l6; replace lw := Later.trans_ lw l6; clear c5 c11; have c5 := b5.cell (j := 0) (v := .slice A n c) rfl; have c11 := b11.cell (j := 0) (v := (.slice (some ⟨g, 0, none⟩) n c')) rfl)
      | (go_at_call 20; (with_reducible refine (KR2.out _ lw).mono ?_); rintro e w5 ⟨rfl, l5⟩; replace b5 := b5.keep l5; replace b11 := b11.keep l5; replace dx := dx.keep l5; replace lw := Later.trans_ lw l5; clear c5 c11; have c5 := b5.cell (j := 0) (v := .slice A n c) rfl; have c11 := b11.cell (j := 0) (v := (.slice (some ⟨g, 0, none⟩) n c')) rfl)
      | (go_at_call 20; (with_reducible refine (KR1.out _ lw).mono ?_); rintro e w4 ⟨rfl, l4⟩; replace b5 := b5.keep l4; replace b11 := b11.keep l4; replace dx := dx.keep l4; replace lw := Later.trans_ lw l4; clear c5 c11; have c5 := b5.cell (j := 0) (v := .slice A n c) rfl; have c11 := b11.cell (j := 0) (v := (.slice (some ⟨g, 0, none⟩) n c')) rfl))
    go_ret
    exact ⟨rfl, lw⟩

set_option maxRecDepth 100000 in
set_option maxHeartbeats 8000000 in
theorem reads_in (A : Option Addr) (n c : Nat) (a : Nat) (data : ByteArray) (fr nn : Int) (b : Wm.Bs) (w : World) (hs : Sl w 128 A n (U b)) (_hb : Wm.isBs b) (h1 : 1 ≤ n ∧ n ≤ 64) (hd : data.size ≤ 9000) (hat : -9223372036854775808 ≤ (a : Int) ∧ (a : Int) ≤ 9223372036854775807) (hfr : 0 ≤ fr ∧ fr ≤ 65535) (hnn : 0 ≤ nn ∧ nn ≤ 65535) (h : Mm.Inside (n * 128) (a : Int) data.size) :
    Calls Try.prog 7 #[.agg #[.slice A n c], .int .i64 (a : Int), .string data, .int .u16 fr, .int .u16 nn] w fun e w' => e = .returned (.bool true) ∧ Later w w' := by
  have hbl : b.length = n * 128 := by have := hs.1; rwa [U_length] at this
  have HN := Lib.hid fun w' => sanity_any w'
  have HV := Lib.hid fun w' => rvalid_any A n c w'
  rw [decide_eq_true h1] at HV
  have h9 : ¬ (9000 : Int) < (data.size : Int) := by omega
  have KW := Lib.hid fun w' (hl : Later w w') => write_any A n c a data b w' (hs.keep hl) h1.1 h1.2 hat
  have KZ := Lib.hid fun w' => size_any A n c w' h1.2
  obtain ⟨L, hL⟩ : ∃ L, L = n * 128 := ⟨_, rfl⟩
  have hL0 : 1 ≤ L ∧ L ≤ 8192 := by omega
  obtain ⟨F, hF⟩ : ∃ F : Nat, (F : Int) = fr % ((L : Int) + 1) := ⟨(fr % ((L : Int) + 1)).toNat, Int.toNat_of_nonneg (Int.emod_nonneg _ (by omega))⟩
  have hF1 : F ≤ L := by have := Int.emod_lt_of_pos fr (show (0 : Int) < (L : Int) + 1 by omega); omega
  obtain ⟨K, hK⟩ : ∃ K : Nat, (K : Int) = nn % ((L : Int) - F + 1) := ⟨(nn % ((L : Int) - F + 1)).toNat, Int.toNat_of_nonneg (Int.emod_nonneg _ (by omega))⟩
  have hK1 : F + K ≤ L := by have := Int.emod_lt_of_pos nn (show (0 : Int) < (L : Int) - F + 1 by omega); omega
  have e1 : fr.tmod ((L : Int) + 1) = (F : Int) := by rw [Int.tmod_eq_emod_of_nonneg hfr.1, hF]
  have e2 : fr % ((L : Int) + 1) = (F : Int) := hF.symm
  have e3 : nn.tmod ((L : Int) - F + 1) = (K : Int) := by rw [Int.tmod_eq_emod_of_nonneg hnn.1, hK]
  have e4 : nn % ((L : Int) - F + 1) = (K : Int) := hK.symm
  have z1 : ¬ ((L : Int) + 1 = 0) := by omega
  have z2 : ¬ ((L : Int) - F + 1 = 0) := by omega
  have KR1 := Lib.hid fun w' (hl : Later w w') => read_any A n c 0 (F : Int) b w' (hs.keep hl) h1.1 h1.2 (by omega)
  have KR2 := Lib.hid fun w' (hl : Later w w') => read_any A n c (F : Int) (K : Int) b w' (hs.keep hl) h1.1 h1.2 (by omega)
  have KR3 := Lib.hid fun w' (hl : Later w w') => read_any A n c 0 ((F : Int) + (K : Int)) b w' (hs.keep hl) h1.1 h1.2 (by omega)
  have i1 : Mm.Inside (n * 128) 0 (F : Int) := by rw [← hL]; unfold Mm.Inside; omega
  have i2 : Mm.Inside (n * 128) (F : Int) (K : Int) := by rw [← hL]; unfold Mm.Inside; omega
  have i3 : Mm.Inside (n * 128) 0 ((F : Int) + (K : Int)) := by rw [← hL]; unfold Mm.Inside; omega
  obtain ⟨T1, hT1⟩ : ∃ T, T = strOfNums (b.take F) := ⟨_, rfl⟩
  obtain ⟨T2, hT2⟩ : ∃ T, T = strOfNums ((b.drop F).take K) := ⟨_, rfl⟩
  have hT1s : T1.size ≤ 8192 := by rw [hT1, strOfNums_size, List.length_take]; omega
  have hT2s : T2.size ≤ 8192 := by rw [hT2, strOfNums_size, List.length_take]; omega
  rw [decide_eq_true i1, show strOfNums (Mm.rd b 0 (F : Int)) = T1 by unfold Mm.rd; rw [hbl, if_pos i1, hT1]; rfl] at KR1
  rw [decide_eq_true i2, show strOfNums (Mm.rd b (F : Int) (K : Int)) = T2 by unfold Mm.rd; rw [hbl, if_pos i2, hT2]; rfl] at KR2
  rw [decide_eq_true i3, show strOfNums (Mm.rd b 0 ((F : Int) + (K : Int))) = T1 ++ T2 by
    unfold Mm.rd; rw [hbl, if_pos i3, hT1, hT2, ← str_app, take_more]; rfl] at KR3
  obtain ⟨X, hX⟩ : ∃ X, X = Mm.put b a (Wm.ofS data) := ⟨_, rfl⟩
  have hle := h.2.2
  have hXl : X.length = n * 128 := by rw [hX, Mm.put_len (by rw [Wm.ofS_length]; omega), hbl]
  rw [decide_eq_true h, show Mm.wr b (a : Int) (Wm.ofS data) = X by unfold Mm.wr; rw [Wm.ofS_length, hbl, if_pos h, hX]; rfl] at KW
  have KRX := Lib.hid fun g c' w' (hd : Draft w' g n X) => read_any (some ⟨g, 0, none⟩) n c' 0 ((n * 128 : Nat) : Int) X w' hd.sl h1.1 h1.2 (by omega)
  have KRB := Lib.hid fun w' (hl : Later w w') => read_any A n c 0 ((n * 128 : Nat) : Int) b w' (hs.keep hl) h1.1 h1.2 (by omega)
  have iL : Mm.Inside (n * 128) 0 ((n * 128 : Nat) : Int) := by unfold Mm.Inside; omega
  rw [rd_all hXl, decide_eq_true iL] at KRX
  rw [rd_all hbl, decide_eq_true iL] at KRB
  obtain ⟨SX, hSX⟩ : ∃ S, S = strOfNums X := ⟨_, rfl⟩
  obtain ⟨SB, hSB⟩ : ∃ S, S = strOfNums b := ⟨_, rfl⟩
  rw [← hSX] at KRX
  rw [← hSB] at KRB
  have sSX : SX.size = L := by rw [hSX, strOfNums_size, hXl, hL]
  have sSB : SB.size = L := by rw [hSB, strOfNums_size, hbl, hL]
  obtain ⟨P1, hP1⟩ : ∃ P, P = SB.extract 0 a := ⟨_, rfl⟩
  obtain ⟨P2, hP2⟩ : ∃ P, P = SB.extract (a + data.size) SB.size := ⟨_, rfl⟩
  have p1 : P1 = strOfNums (b.take a) := by rw [hP1, hSB, str_cut b 0 a (by omega) (by omega)]; rfl
  have p2 : P2 = strOfNums (b.drop (a + data.size)) := by rw [hP2, sSB, hSB, str_cut b _ _ (by omega) (by omega), List.take_of_length_le (by rw [List.length_drop]; omega)]
  have s1 : P1.size ≤ 8192 := by rw [p1, strOfNums_size, List.length_take]; omega
  have s2 : P2.size ≤ 8192 := by rw [p2, strOfNums_size, List.length_drop]; omega
  have hEQ : SX = P1 ++ data ++ P2 := by
    rw [p1, p2, hSX, hX]
    unfold Mm.put
    rw [str_app, str_app, Wm.str_ofS, Wm.ofS_length]
  have HEQ := Lib.hid (show (SX.toList == (P1 ++ data ++ P2).toList) = true by rw [hEQ, toList_eqb]; exact decide_eq_true rfl)
  have HP1 := Lib.hid hP1
  have HP2 := Lib.hid hP2
  rw [← hL] at KZ KRX KRB hle
  have d1 : decide ((a : Int) < 0) = false := decide_eq_false (by omega)
  have d2 : decide (L < a) = false := decide_eq_false (by omega)
  have d3 : (data.size : Int) ≤ (L : Int) - a := by omega
  have d4 : decide ((L : Int) - a < data.size) = false := decide_eq_false (by omega)
  have aL : (a : Int) ≤ (L : Int) := by omega
  have adL : (a : Int) + (data.size : Int) ≤ (L : Int) := by omega
  have q1 : ((L : Int) != (L : Int)) = false := by simp
  clear h i1 i2 i3 hT1 hT2 hF hK hL hs _hb h1 hbl hat hX hXl iL hSX hSB hP1 hP2 p1 p2 hEQ
  go_enter Try.func7, Try.ntmps7
  go_wp2_with (first
    | (go_at_call 11; refine (HV.out _).mono ?_; rintro e w1 ⟨rfl, l1⟩; have b5 := (Blk.new w 24 #[.slice A n c] [.slice A n c] rfl).keep l1; have c5 := b5.cell (j := 0) (v := .slice A n c) rfl; have lw := Later.trans_ (later1 w _) l1)
    | (go_at_call 21; refine (KW.out _ lw).mono ?_; rintro e w2 ⟨g, c', rfl, _, _, _, dx, l2⟩; clear c5; replace b5 := (b5.keep l2).keep (later1 w2 (.cells #[.slice (some ⟨g, 0, none⟩) n c'] 24)); replace dx := dx.keep (later1 w2 (.cells #[.slice (some ⟨g, 0, none⟩) n c'] 24)); have b11 := Blk.new w2 24 #[.slice (some ⟨g, 0, none⟩) n c'] [.slice (some ⟨g, 0, none⟩) n c'] rfl; replace lw := Later.trans_ (Later.trans_ lw l2) (later1 w2 (.cells #[.slice (some ⟨g, 0, none⟩) n c'] 24)); have c5 := b5.cell (j := 0) (v := .slice A n c) rfl; have c11 := b11.cell (j := 0) (v := .slice (some ⟨g, 0, none⟩) n c') rfl)
    | (go_at_call 16; refine (KZ.out _).mono ?_; rintro e w3 ⟨rfl, l3⟩; replace b5 := b5.keep l3; replace b11 := b11.keep l3; replace dx := dx.keep l3; replace lw := Later.trans_ lw l3; clear c5 c11; have c5 := b5.cell (j := 0) (v := .slice A n c) rfl; have c11 := b11.cell (j := 0) (v := (.slice (some ⟨g, 0, none⟩) n c')) rfl)
    | (go_at_call 20; (with_reducible refine (KRX.out g c' _ dx).mono ?_); rintro e w7 ⟨rfl, l7⟩; replace b5 := b5.keep l7; replace b11 := b11.keep l7; replace dx := dx.keep l7; replace lw := Later.trans_ lw l7; clear c5 c11; have c5 := b5.cell (j := 0) (v := .slice A n c) rfl; have c11 := b11.cell (j := 0) (v := (.slice (some ⟨g, 0, none⟩) n c')) rfl)
    | (go_at_call 20; (with_reducible refine (KR3.out _ lw).mono ?_); rintro e w6 ⟨rfl, l6⟩; replace b5 := b5.keep l6; replace b11 := b11.keep l6; replace dx := dx.keep l6; replace lw := Later.trans_ lw l6; clear c5 c11; have c5 := b5.cell (j := 0) (v := .slice A n c) rfl; have c11 := b11.cell (j := 0) (v := (.slice (some ⟨g, 0, none⟩) n c')) rfl)
    | (go_at_call 20; (with_reducible refine (KR2.out _ lw).mono ?_); rintro e w5 ⟨rfl, l5⟩; replace b5 := b5.keep l5; replace b11 := b11.keep l5; replace dx := dx.keep l5; replace lw := Later.trans_ lw l5; clear c5 c11; have c5 := b5.cell (j := 0) (v := .slice A n c) rfl; have c11 := b11.cell (j := 0) (v := (.slice (some ⟨g, 0, none⟩) n c')) rfl)
    | (go_at_call 20; (with_reducible refine (KR1.out _ lw).mono ?_); rintro e w4 ⟨rfl, l4⟩; replace b5 := b5.keep l4; replace b11 := b11.keep l4; replace dx := dx.keep l4; replace lw := Later.trans_ lw l4; clear c5 c11; have c5 := b5.cell (j := 0) (v := .slice A n c) rfl; have c11 := b11.cell (j := 0) (v := (.slice (some ⟨g, 0, none⟩) n c')) rfl)
    | (go_at_call 20; (with_reducible refine (KRB.out _ lw).mono ?_); rintro e w8 ⟨rfl, l8⟩; replace b5 := b5.keep l8; replace b11 := b11.keep l8; replace dx := dx.keep l8; replace lw := Later.trans_ lw l8; clear c5 c11; have c5 := b5.cell (j := 0) (v := .slice A n c) rfl; have c11 := b11.cell (j := 0) (v := (.slice (some ⟨g, 0, none⟩) n c')) rfl))
  replace lw := lw.drew
  have hEQ := HEQ.out
  have g1 : P1.size + data.size ≤ 9223372036854775807 := by omega
  have g2 : P1.size + data.size + P2.size ≤ 9223372036854775807 := by omega
  have g3 : IntKind.i64.wrap ((a : Int) + (data.size : Int)) = (a : Int) + (data.size : Int) := by rw [IntKind.wrap_i64]; omega
  have g4 : (0 : Int) ≤ (a : Int) + (data.size : Int) := by omega
  have g5 : ((a : Int) + (data.size : Int)).toNat = a + data.size := by omega
  refine wp_region_held_drew (S := fun w' => True) (by kernel_rfl) trivial (fun hHeld => ?_)
  refine wpAnyH_ready (rs := [0]) (by kernel_rfl) (by simp) (AllReadyH.cons (o := ⟨some 158, .call { callee := .value (.func 9), args := #[], argTypes := #[] }, _, _, _, none⟩) rfl (fun K' hK => ?_) (AllReadyH.nil))
  go_simp
  refine (HN.out _).mono ?_
  rintro e x1 ⟨rfl, k1⟩
  replace lw := Later.trans_ lw k1
  refine hK.out _ _ trivial (fun hHeld => ?_)
  clear hK K'
  try simp only [Act.put, List.setIfInBounds_toArray, List.set_cons_zero, List.set_cons_succ]
  refine wpAnyH_take (i := 1) (oi := ⟨some 159, .move (.tmp 158), _, _, _, none⟩) (v := .bool true) rfl (by kernel_rfl) (by kernel_rfl) (by kernel_rfl) (fun _ _ _ h => h) (Or.inl ⟨by rfl, fun _ _ => rfl⟩) hHeld ?_
  simp only [Act.put, List.setIfInBounds_toArray, List.set_cons_zero, List.set_cons_succ]
  refine wpAnyH_take (i := 2) (oi := ⟨some 160, .move (.tmp 23), _, _, _, _⟩) (v := .string SX) rfl (by kernel_rfl) (by kernel_rfl) (by kernel_rfl) (fun _ _ _ h => h) (Or.inl ⟨by rfl, fun _ _ => rfl⟩) hHeld ?_
  simp only [Act.put, List.setIfInBounds_toArray, List.set_cons_zero, List.set_cons_succ]
  refine wpAnyH_take (i := 3) (oi := ⟨some 161, .move (.tmp 25), _, _, _, _⟩) (v := .string SB) rfl (by kernel_rfl) (by kernel_rfl) (by kernel_rfl) (fun _ _ _ h => h) (Or.inl ⟨by rfl, fun _ _ => rfl⟩) hHeld ?_
  simp only [Act.put, List.setIfInBounds_toArray, List.set_cons_zero, List.set_cons_succ]
  refine wpAnyH_take (i := 4) (oi := ⟨some 162, .move (.tmp 1), _, _, _, _⟩) (v := .int .i64 (a : Int)) rfl (by kernel_rfl) (by kernel_rfl) (by kernel_rfl) (fun _ _ _ h => h) (Or.inl ⟨by rfl, fun _ _ => rfl⟩) hHeld ?_
  simp only [Act.put, List.setIfInBounds_toArray, List.set_cons_zero, List.set_cons_succ]
  refine wpAnyH_take (i := 5) (oi := ⟨some 163, .slice 9 (.tmp 161) none (some (.tmp 162)) none, _, _, _, _⟩) (v := .string P1) rfl (by kernel_rfl) (by kernel_rfl) (by kernel_rfl) (fun _ _ _ h => h) (Or.inl ⟨by rfl, fun w _ => by rw [HP1.out]; go_simp⟩) hHeld ?_
  simp only [Act.put, List.setIfInBounds_toArray, List.set_cons_zero, List.set_cons_succ]
  refine wpAnyH_take (i := 6) (oi := ⟨some 164, .move (.tmp 2), _, _, _, _⟩) (v := .string data) rfl (by kernel_rfl) (by kernel_rfl) (by kernel_rfl) (fun _ _ _ h => h) (Or.inl ⟨by rfl, fun _ _ => rfl⟩) hHeld ?_
  simp only [Act.put, List.setIfInBounds_toArray, List.set_cons_zero, List.set_cons_succ]
  refine wpAnyH_take (i := 7) (oi := ⟨some 165, .binOp .add 9 (.tmp 163) (.tmp 164) 9, _, _, _, _⟩) (v := .string (P1 ++ data)) rfl (by kernel_rfl) (by kernel_rfl) (by kernel_rfl) (fun _ _ _ h => h) (Or.inl ⟨by rfl, fun w _ => by go_simp⟩) hHeld ?_
  simp only [Act.put, List.setIfInBounds_toArray, List.set_cons_zero, List.set_cons_succ]
  refine wpAnyH_take (i := 8) (oi := ⟨some 166, .move (.tmp 25), _, _, _, _⟩) (v := .string SB) rfl (by kernel_rfl) (by kernel_rfl) (by kernel_rfl) (fun _ _ _ h => h) (Or.inl ⟨by rfl, fun _ _ => rfl⟩) hHeld ?_
  simp only [Act.put, List.setIfInBounds_toArray, List.set_cons_zero, List.set_cons_succ]
  refine wpAnyH_take (i := 9) (oi := ⟨some 167, .move (.tmp 1), _, _, _, _⟩) (v := .int .i64 (a : Int)) rfl (by kernel_rfl) (by kernel_rfl) (by kernel_rfl) (fun _ _ _ h => h) (Or.inl ⟨by rfl, fun _ _ => rfl⟩) hHeld ?_
  simp only [Act.put, List.setIfInBounds_toArray, List.set_cons_zero, List.set_cons_succ]
  refine wpAnyH_take (i := 10) (oi := ⟨some 168, .move (.tmp 2), _, _, _, _⟩) (v := .string data) rfl (by kernel_rfl) (by kernel_rfl) (by kernel_rfl) (fun _ _ _ h => h) (Or.inl ⟨by rfl, fun _ _ => rfl⟩) hHeld ?_
  simp only [Act.put, List.setIfInBounds_toArray, List.set_cons_zero, List.set_cons_succ]
  refine wpAnyH_take (i := 11) (oi := ⟨some 169, .call { callee := .builtin .len, args := #[.tmp 168], argTypes := #[9] }, _, _, _, _⟩) (v := .int .i64 (data.size : Int)) rfl (by kernel_rfl) (by kernel_rfl) (by kernel_rfl) (fun _ _ _ h => h) (Or.inl ⟨by rfl, fun w _ => by go_simp⟩) hHeld ?_
  simp only [Act.put, List.setIfInBounds_toArray, List.set_cons_zero, List.set_cons_succ]
  refine wpAnyH_take (i := 12) (oi := ⟨some 170, .binOp .add 3 (.tmp 167) (.tmp 169) 3, _, _, _, _⟩) (v := .int .i64 ((a : Int) + (data.size : Int))) rfl (by kernel_rfl) (by kernel_rfl) (by kernel_rfl) (fun _ _ _ h => h) (Or.inl ⟨by rfl, fun w _ => by go_simp⟩) hHeld ?_
  simp only [Act.put, List.setIfInBounds_toArray, List.set_cons_zero, List.set_cons_succ]
  refine wpAnyH_take (i := 13) (oi := ⟨some 171, .slice 9 (.tmp 166) (some (.tmp 170)) none none, _, _, _, _⟩) (v := .string P2) rfl (by kernel_rfl) (by kernel_rfl) (by kernel_rfl) (fun _ _ _ h => h) (Or.inl ⟨by rfl, fun w _ => by rw [HP2.out]; go_simp⟩) hHeld ?_
  simp only [Act.put, List.setIfInBounds_toArray, List.set_cons_zero, List.set_cons_succ]
  refine wpAnyH_take (i := 14) (oi := ⟨some 172, .binOp .add 9 (.tmp 165) (.tmp 171) 9, _, _, _, _⟩) (v := .string (P1 ++ data ++ P2)) rfl (by kernel_rfl) (by kernel_rfl) (by kernel_rfl) (fun _ _ _ h => h) (Or.inl ⟨by rfl, fun w _ => by go_simp⟩) hHeld ?_
  simp only [Act.put, List.setIfInBounds_toArray, List.set_cons_zero, List.set_cons_succ]
  refine wpAnyH_take (i := 15) (oi := ⟨some 173, .binOp .eql 9 (.tmp 160) (.tmp 172) 9, _, _, _, _⟩) (v := .bool true) rfl (by kernel_rfl) (by kernel_rfl) (by kernel_rfl) (fun _ _ _ h => h) (Or.inl ⟨by rfl, fun w _ => by go_simp⟩) hHeld ?_
  simp only [Act.put, List.setIfInBounds_toArray, List.set_cons_zero, List.set_cons_succ]
  refine wpAnyH_take (i := 16) (oi := ⟨some 174, .pick (.tmp 159) (.tmp 173) (.const (.bool false)), _, _, _, none⟩) (v := .bool true) rfl (by kernel_rfl) (by kernel_rfl) (by kernel_rfl) (fun _ _ _ h => h) (Or.inl ⟨by rfl, fun w _ => by go_simp⟩) hHeld ?_
  simp only [Act.put, List.setIfInBounds_toArray, List.set_cons_zero, List.set_cons_succ]
  refine wpAnyH_take (i := 17) (oi := ⟨some 10, .assign (.tmp 174), _, _, _, none⟩) (v := .bool true) rfl (by kernel_rfl) (by kernel_rfl) (by kernel_rfl) (fun _ _ _ h => h) (Or.inl ⟨by rfl, fun _ _ => rfl⟩) hHeld ?_
  simp only [Act.put, List.setIfInBounds_toArray, List.set_cons_zero, List.set_cons_succ]
  refine wpAnyH_done (by kernel_rfl) ?_ _
  clear hHeld
  go_wp2
  go_ret
  exact ⟨rfl, lw⟩
theorem reads_all (A : Option Addr) (n c : Nat) (a : Int) (data : ByteArray) (fr nn : Int) (b : Wm.Bs) (w : World) (hs : Sl w 128 A n (U b)) (_hb : Wm.isBs b) (hat : -9223372036854775808 ≤ a ∧ a ≤ 9223372036854775807) (hfr : 0 ≤ fr ∧ fr ≤ 65535) (hnn : 0 ≤ nn ∧ nn ≤ 65535) :
    Calls Try.prog 7 #[.agg #[.slice A n c], .int .i64 a, .string data, .int .u16 fr, .int .u16 nn] w fun e w' => e = .returned (.bool true) ∧ Later w w' := by
  by_cases h1 : 1 ≤ n ∧ n ≤ 64
  · by_cases h9 : 9000 < data.size
    · exact reads_big A n c a data fr nn w h1 h9
    · by_cases h : Mm.Inside (n * 128) a data.size
      · obtain ⟨a', rfl⟩ := Int.eq_ofNat_of_zero_le h.1
        exact reads_in A n c a' data fr nn b w hs _hb h1 (by omega) hat hfr hnn h
      · exact reads_out A n c a data fr nn b w hs _hb h1 (by omega) hat hfr hnn h
  · exact reads_bad A n c a data fr nn w h1

set_option maxRecDepth 100000 in
theorem memoryReadsWhatIsWritten_lifted (os : Os) (started : os.Started) (H : Type) (enc : TypeId × Value → H) :
    ReturnsInHanded {} Try.checked os 7 .any (Rows.memoryReadsWhatIsWrittenSpec.pre6 enc Try.prog Try.f7 Rows.memoryReadsWhatIsWrittenRow.domain false) (Rows.memoryReadsWhatIsWrittenSpec.post enc Try.prog Try.f7 false true false false) := by
  refine returnsInHanded_of_change (C := Try.checked) ownK started (by kernel_rfl) Try.func7
    (ChangeSpec.witness6 (enc := enc) (C := Try.checked) false ⟨#[], #[.agg #[.slice none 0 0], .int .i64 0, .string ⟨#[]⟩, .int .u16 0, .int .u16 0], []⟩ 8 (by kernel_rfl) (by kernel_rfl) (by kernel_rfl) (by kernel_rfl)) ?_
  intro W base args ds gs before hval0 hW hcnd _
  have hval : ∀ (j : Nat) t v, Try.f7.params[j]? = some t → args[j]? = some v → Value.okWide Try.prog W .any base t v := hval0
  have hW' := hW
  obtain ⟨p, q, hA0, hV, rfl, hfz, hnd⟩ := hW
  have hA : DataW.TrodAll enc Try.prog W 0 (fun _ => true) true Try.f7.params.toList args.toList ds p := hA0
  rw [Try.params7] at hA hval
  obtain ⟨v0, vs0, d0, ds0, p0, q0, hargs, rfl, rfl, h0, r0⟩ := trodAll_cons hA
  obtain ⟨v1, vs1, d1, ds1, p1, q1, rfl, rfl, rfl, h1, r1⟩ := trodAll_cons r0
  obtain ⟨v2, vs2, d2, ds2, p2, q2, rfl, rfl, rfl, h2, r2⟩ := trodAll_cons r1
  obtain ⟨v3, vs3, d3, ds3, p3, q3, rfl, rfl, rfl, h3, r3⟩ := trodAll_cons r2
  obtain ⟨v4, vs4, d4, ds4, p4, q4, rfl, rfl, rfl, h4, r4⟩ := trodAll_cons r3
  obtain ⟨rfl, rfl, rfl⟩ := trodAll_nil r4
  obtain rfl : args = #[v0, v1, v2, v3, v4] := by cases args; simp_all
  obtain ⟨rfl, rfl⟩ := trodVars_none hV
  obtain ⟨A0, n0, c0, b0, rfl, x0, y0, s0, z0⟩ := mem_arg (K := 128) (by omega) Try.underlying24 rfl Try.underlying22 Try.underlying79 Try.underlying5 (by kernel_rfl) (by kernel_rfl) (by kernel_rfl) (by kernel_rfl) (hval 0 24 v0 rfl rfl) h0
  obtain ⟨a1, rfl, z1⟩ := int_arg Try.underlying3 (hval 1 3 v1 rfl rfl) h1
  obtain ⟨a2, rfl, z2⟩ := str_arg Try.underlying9 (hval 2 9 v2 rfl rfl) h2
  obtain ⟨a3, rfl, _, _, w3⟩ := open_int Try.underlying67 (hval 3 67 v3 rfl rfl) h3
  have z3 : 0 ≤ a3 ∧ a3 ≤ 65535 := by
    have e1 : IntKind.u16.min = 0 := rfl
    have e2 : IntKind.u16.max = 65535 := rfl
    simp only [Lit.wf, Bool.and_eq_true, decide_eq_true_eq] at w3
    omega
  obtain ⟨a4, rfl, _, _, w4⟩ := open_int Try.underlying67 (hval 4 67 v4 rfl rfl) h4
  have z4 : 0 ≤ a4 ∧ a4 ≤ 65535 := by
    have e1 : IntKind.u16.min = 0 := rfl
    have e2 : IntKind.u16.max = 65535 := rfl
    simp only [Lit.wf, Bool.and_eq_true, decide_eq_true_eq] at w4
    omega
  clear hA0 hval0
  simp only [List.append_nil] at hW'
  refine (reads_all A0 n0 c0 a1 a2 a3 a4 b0 W s0 z0 z1 z3 z4).mono fun e W' ⟨he, hw⟩ => ?_
  subst he
  exact ⟨_, rfl, law_post laidK rfl (by kernel_rfl) (by kernel_rfl) Try.underlying4 (by kernel_rfl) hW' rfl hw⟩
set_option maxRecDepth 100000 in
/-- The statement. -/
theorem memoryReadsWhatIsWritten_said : Rows.MemoryReadsWhatIsWrittenSaid :=
  OpenClaim.holds_of_wide 7 Try.f7 rfl rfl rfl rfl rfl rfl rfl ⟨rfl, rfl, rfl, rfl, rfl⟩ rfl rfl rfl rfl rfl (by kernel_rfl) Try.func7 (by kernel_rfl)
    (of_decide_eq_true (by kernel_rfl)) (by unfold Func.isWrapper; first | (rw [if_pos (by decide +kernel)]; kernel_rfl) | (rw [if_neg (by decide +kernel)]; exact ⟨rfl, rfl⟩))
    (fun os started H enc _ => memoryReadsWhatIsWritten_lifted os started H enc)
#print axioms memoryReadsWhatIsWritten_said
end Go.Proofs.Ytaihfkcoiagdaaa
