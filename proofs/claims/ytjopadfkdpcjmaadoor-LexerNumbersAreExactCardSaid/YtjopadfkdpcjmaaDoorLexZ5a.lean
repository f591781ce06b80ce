/-
  THE WALK OF LexerNumbersAreExact.
-/
import Derived.Test.YtjopadfkdpcjmaaDoorLexU
import Derived.Test.YtjopadfkdpcjmaaDoorLexNv
import Derived.Test.YtjopadfkdpcjmaaDoorLexO
import Derived.Test.YtjopadfkdpcjmaaDoorLexH
import Derived.Test.YtjopadfkdpcjmaaDoorLexV
namespace Go.Proofs.YtjopadfkdpcjmaaDoor
open Go.RowKit Go.ChangeShapes Go.WideShapes Go.ChangeAt

theorem sl_lit (w : World) (x : Int) : Sl (w.alloc (.cells #[.int .i64 2, .int .i64 0, .int .i64 x, .string ⟨#[]⟩] 41)) 4 (some ⟨w.heap.size, 0, none⟩) 1 (Tks [⟨2, 0, x, []⟩]) :=
  Sl.own (World.ownsRow_lit (base := w.heap.size) (e := 41) (size := 4) w #[.int .i64 2, .int .i64 0, .int .i64 x, .string ⟨#[]⟩] 1 (Nat.le_refl _) (by unfold maxLen; omega) rfl)
theorem op_pr0 (x y : Value) (w : World) : (Instr.field 46 (.agg #[x, y]) 0).run Tryd.prog w = .ok x w := by kernel_rfl
theorem conv_at (u : World) (c : UInt8) (z : Int) (hz : (c.toNat : Int) = z) : ∀ w', Later (u.alloc (.cells #[.int .u8 z] 5)) w' → (convert 49 9 (.slice (some ⟨u.heap.size, 0, none⟩) 1 1)).run Tryd.prog w' = .ok (.string ⟨#[c]⟩) w' := by
  intro w' l
  subst hz
  have h : (u.alloc (.cells #[.int .u8 (c.toNat : Int)] 5)).ownsRow u.heap.size 5 1 (.slice (some ⟨u.heap.size, 0, none⟩) 1 1) [c].length (Ub [c]) :=
    World.ownsRow_lit (base := u.heap.size) (e := 5) (size := 1) u #[.int .u8 (c.toNat : Int)] 1 (Nat.le_refl _) (by unfold maxLen; omega) rfl
  obtain ⟨A, k, he, _, _, hcv⟩ := conv_own (own_below h l)
  rw [← he] at hcv
  exact hcv
/-- Tokens of a source that is one token. -/
theorem k_one {s : ByteArray} {T : List Lx.Tok} {n : Nat} (h : Lx.Tokens (L s) = (T, 0, 0)) (hl : T.length = n) (h0 : 0 < n) (w : World) : Calls Tryd.prog 10 #[.string s] w fun e w' =>
    ∃ ad c, e = .returned (.tuple #[.slice (some ad) n c, .agg #[.int .i64 0, .int .i64 0]]) ∧ Sl w' 4 (some ad) n (Tks T) ∧ Later w w' := by
  have k := tokens_any s w
  rw [h] at k
  refine k.mono ?_
  rintro e w' ⟨A, m, c, rfl, hm, _, _, hs, l1⟩
  obtain rfl : m = n := by rw [← hl]; exact hm.symm
  obtain ⟨ad, rfl, _⟩ := hs.2 h0
  exact ⟨ad, c, rfl, hs, l1⟩
theorem k_none {s : ByteArray} {p : Nat} {ee : Int} (h : Lx.Tokens (L s) = ([], p, ee)) (w : World) : Calls Tryd.prog 10 #[.string s] w fun e w' =>
    ∃ A c, e = .returned (.tuple #[.slice A 0 c, .agg #[.int .i64 p, .int .i64 ee]]) ∧ Later w w' := by
  have k := tokens_any s w
  rw [h] at k
  refine k.mono ?_
  rintro e w' ⟨A, m, c, rfl, hm, _, _, _, l1⟩
  obtain rfl : m = 0 := hm.symm
  exact ⟨A, c, rfl, l1⟩
set_option maxRecDepth 100000 in
set_option maxHeartbeats 8000000 in
theorem numbers_walk (n z m : Nat) (w : World) (hn : n ≤ 4294967295) (hz : z ≤ 255) (hm : m ≤ 4294967295)
    (HN : Hid (∀ w', Later w w' → Calls Tryd.prog 9 #[] w' fun e w'' => e = .returned (.bool true) ∧ Later w' w''))
    (D : ByteArray) (hD : L D = Lx.dec n)
    (KP : Hid (∀ ad c w', Sl w' 4 (some ad) 1 (Tks [numT n]) → Later w w' → Calls Tryd.prog 18 #[.slice (some ad) 1 c] w' fun e w'' => e = .returned (.tuple #[.string D, .int .i64 0]) ∧ Later w' w''))
    (KR : Hid (∀ ad c w', Sl w' 4 (some ad) 1 (Tks [numT 4294967295]) → Later w w' → Calls Tryd.prog 19 #[.slice (some ad) 1 c] w' fun e w'' => e = .returned (.agg #[.string ⟨#[52, 50, 57, 52, 57, 54, 55, 50, 57, 53]⟩, .int .i64 0]) ∧ Later w' w'')) :
    Calls Tryd.prog 8 #[.int .u32 n, .int .u8 z, .int .u32 m] w fun e w' => e = .returned (.bool true) ∧ Later w w' := by
  have hDl : D.size ≤ 10 := by rw [← L_len, hD]; exact dec_len 9 n (by omega)
  have tD := tokens_dec hn
  have tZ := tokens_zeros (k := z % 9) (by omega) hn
  have tH := tokens_hex hn
  rw [← hD] at tD tZ
  clear hD
  have TD := Lib.hid tD
  have TZ := Lib.hid tZ
  have TH := Lib.hid tH
  clear tD tZ tH
  have wn : IntKind.i64.wrap (n : Int) = n := by rw [IntKind.wrap_i64]; omega
  go_enter Tryd.func8, Tryd.ntmps8
  go_wp2_with (first
    | (go_at_call 18; (with_reducible refine (KP.out _ _ _ (sl_lit w (n : Int)) (later1 w _)).mono ?_); rintro e w1 ⟨rfl, l1⟩; have lw := Later.trans_ (later1 w (.cells #[.int .i64 2, .int .i64 0, .int .i64 (n : Int), .string ⟨#[]⟩] 41)) l1))
  clear wn l1
  go_loopw [9, 10] (fun u v wr => ∃ (j : Nat) (x : ByteArray), j ≤ 8 ∧ v = .int .i64 (28 - 4 * (j : Int)) ∧ u = .string x ∧ Aside (L x = 48 :: 120 :: hexP n j) ∧ x.size ≤ 2 + j ∧ Later w wr) (fun _ v _ => (intOf v + 4).toNat)
  case atStart => exact ⟨0, ⟨#[48, 120]⟩, by omega, rfl, rfl, rfl, by decide, lw⟩
  case round =>
    obtain ⟨j, x, hj, rfl, rfl, hx, hxs, hbr⟩ := hrel
    rename_i wr
    clear lw
    by_cases hlt : j < 8
    · have HX := Lib.hid hx
      clear hx
      rcases (by omega : j = 0 ∨ j = 1 ∨ j = 2 ∨ j = 3 ∨ j = 4 ∨ j = 5 ∨ j = 6 ∨ j = 7) with rfl | rfl | rfl | rfl | rfl | rfl | rfl | rfl
      · obtain ⟨q, hq⟩ : ∃ q, n / 268435456 % 16 = q := ⟨_, rfl⟩
        have hq16 : q < 16 := by omega
        have hb : bits .and .u32 ((n : Int) / 268435456) 15 = (q : Int) := by
          rw [show (15 : Int) = 2 ^ 4 - 1 by decide, bits_mask .u32 32 (by decide) (fun n h0 h1 => by rw [IntKind.wrap_u32]; omega) 4 (by decide) _ (by omega) (by omega)]
          omega
        have hdg := digitS_at q hq16
        have hnx := hexP_next n 0 (by omega)
        rw [show 16 ^ (7 - 0) = 268435456 by decide, hq] at hnx
        have HNX := Lib.hid hnx
        have hcv := conv_byte wr (Lx.hexD q) _ rfl
        clear hq hnx
        go_wp2
        go_roundw
        case rel => exact ⟨1, x ++ ⟨#[Lx.hexD q]⟩, by omega, by go_num, rfl, by rw [L_cat, HX.out, HNX.out]; rfl, by rw [ByteArray.size_append]; exact Nat.add_le_add_right hxs 1, hbr.alloc hbr.size _⟩
        case measure => first | (simp [intOf]; omega) | (simp [intOf]; done) | (simp; omega)
      · obtain ⟨q, hq⟩ : ∃ q, n / 16777216 % 16 = q := ⟨_, rfl⟩
        have hq16 : q < 16 := by omega
        have hb : bits .and .u32 ((n : Int) / 16777216) 15 = (q : Int) := by
          rw [show (15 : Int) = 2 ^ 4 - 1 by decide, bits_mask .u32 32 (by decide) (fun n h0 h1 => by rw [IntKind.wrap_u32]; omega) 4 (by decide) _ (by omega) (by omega)]
          omega
        have hdg := digitS_at q hq16
        have hnx := hexP_next n 1 (by omega)
        rw [show 16 ^ (7 - 1) = 16777216 by decide, hq] at hnx
        have HNX := Lib.hid hnx
        have hcv := conv_byte wr (Lx.hexD q) _ rfl
        clear hq hnx
        go_wp2
        go_roundw
        case rel => exact ⟨2, x ++ ⟨#[Lx.hexD q]⟩, by omega, by go_num, rfl, by rw [L_cat, HX.out, HNX.out]; rfl, by rw [ByteArray.size_append]; exact Nat.add_le_add_right hxs 1, hbr.alloc hbr.size _⟩
        case measure => first | (simp [intOf]; omega) | (simp [intOf]; done) | (simp; omega)
      · obtain ⟨q, hq⟩ : ∃ q, n / 1048576 % 16 = q := ⟨_, rfl⟩
        have hq16 : q < 16 := by omega
        have hb : bits .and .u32 ((n : Int) / 1048576) 15 = (q : Int) := by
          rw [show (15 : Int) = 2 ^ 4 - 1 by decide, bits_mask .u32 32 (by decide) (fun n h0 h1 => by rw [IntKind.wrap_u32]; omega) 4 (by decide) _ (by omega) (by omega)]
          omega
        have hdg := digitS_at q hq16
        have hnx := hexP_next n 2 (by omega)
        rw [show 16 ^ (7 - 2) = 1048576 by decide, hq] at hnx
        have HNX := Lib.hid hnx
        have hcv := conv_byte wr (Lx.hexD q) _ rfl
        clear hq hnx
        go_wp2
        go_roundw
        case rel => exact ⟨3, x ++ ⟨#[Lx.hexD q]⟩, by omega, by go_num, rfl, by rw [L_cat, HX.out, HNX.out]; rfl, by rw [ByteArray.size_append]; exact Nat.add_le_add_right hxs 1, hbr.alloc hbr.size _⟩
        case measure => first | (simp [intOf]; omega) | (simp [intOf]; done) | (simp; omega)
      · obtain ⟨q, hq⟩ : ∃ q, n / 65536 % 16 = q := ⟨_, rfl⟩
        have hq16 : q < 16 := by omega
        have hb : bits .and .u32 ((n : Int) / 65536) 15 = (q : Int) := by
          rw [show (15 : Int) = 2 ^ 4 - 1 by decide, bits_mask .u32 32 (by decide) (fun n h0 h1 => by rw [IntKind.wrap_u32]; omega) 4 (by decide) _ (by omega) (by omega)]
          omega
        have hdg := digitS_at q hq16
        have hnx := hexP_next n 3 (by omega)
        rw [show 16 ^ (7 - 3) = 65536 by decide, hq] at hnx
        have HNX := Lib.hid hnx
        have hcv := conv_byte wr (Lx.hexD q) _ rfl
        clear hq hnx
        go_wp2
        go_roundw
        case rel => exact ⟨4, x ++ ⟨#[Lx.hexD q]⟩, by omega, by go_num, rfl, by rw [L_cat, HX.out, HNX.out]; rfl, by rw [ByteArray.size_append]; exact Nat.add_le_add_right hxs 1, hbr.alloc hbr.size _⟩
        case measure => first | (simp [intOf]; omega) | (simp [intOf]; done) | (simp; omega)
      · obtain ⟨q, hq⟩ : ∃ q, n / 4096 % 16 = q := ⟨_, rfl⟩
        have hq16 : q < 16 := by omega
        have hb : bits .and .u32 ((n : Int) / 4096) 15 = (q : Int) := by
          rw [show (15 : Int) = 2 ^ 4 - 1 by decide, bits_mask .u32 32 (by decide) (fun n h0 h1 => by rw [IntKind.wrap_u32]; omega) 4 (by decide) _ (by omega) (by omega)]
          omega
        have hdg := digitS_at q hq16
        have hnx := hexP_next n 4 (by omega)
        rw [show 16 ^ (7 - 4) = 4096 by decide, hq] at hnx
        have HNX := Lib.hid hnx
        have hcv := conv_byte wr (Lx.hexD q) _ rfl
        clear hq hnx
        go_wp2
        go_roundw
        case rel => exact ⟨5, x ++ ⟨#[Lx.hexD q]⟩, by omega, by go_num, rfl, by rw [L_cat, HX.out, HNX.out]; rfl, by rw [ByteArray.size_append]; exact Nat.add_le_add_right hxs 1, hbr.alloc hbr.size _⟩
        case measure => first | (simp [intOf]; omega) | (simp [intOf]; done) | (simp; omega)
      · obtain ⟨q, hq⟩ : ∃ q, n / 256 % 16 = q := ⟨_, rfl⟩
        have hq16 : q < 16 := by omega
        have hb : bits .and .u32 ((n : Int) / 256) 15 = (q : Int) := by
          rw [show (15 : Int) = 2 ^ 4 - 1 by decide, bits_mask .u32 32 (by decide) (fun n h0 h1 => by rw [IntKind.wrap_u32]; omega) 4 (by decide) _ (by omega) (by omega)]
          omega
        have hdg := digitS_at q hq16
        have hnx := hexP_next n 5 (by omega)
        rw [show 16 ^ (7 - 5) = 256 by decide, hq] at hnx
        have HNX := Lib.hid hnx
        have hcv := conv_byte wr (Lx.hexD q) _ rfl
        clear hq hnx
        go_wp2
        go_roundw
        case rel => exact ⟨6, x ++ ⟨#[Lx.hexD q]⟩, by omega, by go_num, rfl, by rw [L_cat, HX.out, HNX.out]; rfl, by rw [ByteArray.size_append]; exact Nat.add_le_add_right hxs 1, hbr.alloc hbr.size _⟩
        case measure => first | (simp [intOf]; omega) | (simp [intOf]; done) | (simp; omega)
      · obtain ⟨q, hq⟩ : ∃ q, n / 16 % 16 = q := ⟨_, rfl⟩
        have hq16 : q < 16 := by omega
        have hb : bits .and .u32 ((n : Int) / 16) 15 = (q : Int) := by
          rw [show (15 : Int) = 2 ^ 4 - 1 by decide, bits_mask .u32 32 (by decide) (fun n h0 h1 => by rw [IntKind.wrap_u32]; omega) 4 (by decide) _ (by omega) (by omega)]
          omega
        have hdg := digitS_at q hq16
        have hnx := hexP_next n 6 (by omega)
        rw [show 16 ^ (7 - 6) = 16 by decide, hq] at hnx
        have HNX := Lib.hid hnx
        have hcv := conv_byte wr (Lx.hexD q) _ rfl
        clear hq hnx
        go_wp2
        go_roundw
        case rel => exact ⟨7, x ++ ⟨#[Lx.hexD q]⟩, by omega, by go_num, rfl, by rw [L_cat, HX.out, HNX.out]; rfl, by rw [ByteArray.size_append]; exact Nat.add_le_add_right hxs 1, hbr.alloc hbr.size _⟩
        case measure => first | (simp [intOf]; omega) | (simp [intOf]; done) | (simp; omega)
      · obtain ⟨q, hq⟩ : ∃ q, n / 1 % 16 = q := ⟨_, rfl⟩
        have hq16 : q < 16 := by omega
        have hb : bits .and .u32 ((n : Int)) 15 = (q : Int) := by
          rw [show (15 : Int) = 2 ^ 4 - 1 by decide, bits_mask .u32 32 (by decide) (fun n h0 h1 => by rw [IntKind.wrap_u32]; omega) 4 (by decide) _ (by omega) (by omega)]
          omega
        have hdg := digitS_at q hq16
        have hnx := hexP_next n 7 (by omega)
        rw [show 16 ^ (7 - 7) = 1 by decide, hq] at hnx
        have HNX := Lib.hid hnx
        have hcv := conv_byte wr (Lx.hexD q) _ rfl
        clear hq hnx
        go_wp2
        go_roundw
        case rel => exact ⟨8, x ++ ⟨#[Lx.hexD q]⟩, by omega, by go_num, rfl, by rw [L_cat, HX.out, HNX.out]; rfl, by rw [ByteArray.size_append]; exact Nat.add_le_add_right hxs 1, hbr.alloc hbr.size _⟩
        case measure => first | (simp [intOf]; omega) | (simp [intOf]; done) | (simp; omega)
    · obtain rfl : j = 8 := by omega
      have tX : Lx.Tokens (L x) = ([numT n], 0, 0) := by
        have h : L x = 48 :: 120 :: hexP n 8 := hx
        rw [h, hexP_all]; exact TH.out
      have TX := Lib.hid tX
      clear hx tX TH hlt hj
      obtain ⟨Z, hZ⟩ : ∃ Z : ByteArray, (⟨(Lib.repeatL [48] (z % 9)).toArray⟩ : ByteArray) = Z := ⟨_, rfl⟩
      have hZL : L Z = List.replicate (z % 9) 48 := by rw [← hZ, L_mk, rep_zeros]
      have KZ := Lib.hid fun w' => (show Calls Tryd.prog 25 #[.string ⟨#[48]⟩, .int .i64 ((z : Int) % 9)] w' fun e w'' => e = .returned (.string Z) ∧ Later w' w'' by
        have h := Tryd.strings_Repeat ⟨#[48]⟩ (z % 9) w' (by omega) (show 1 * (z % 9) ≤ _ by omega)
        rw [show (⟨#[48]⟩ : ByteArray).data.toList = [48] from rfl, hZ, show ((z % 9 : Nat) : Int) = (z : Int) % 9 by omega] at h
        exact h)
      have tZ := TZ.out
      rw [← hZL, ← L_cat] at tZ
      have hZs : Z.size ≤ 8 := by rw [← L_len, hZL, List.length_replicate]; omega
      clear hZ hZL TZ
      obtain ⟨ZD, hZD⟩ : ∃ y, Z ++ D = y := ⟨_, rfl⟩
      rw [hZD] at tZ
      have TZ := Lib.hid tZ
      clear tZ
      have wz : IntKind.i64.wrap ((z : Int) % 9) = (z : Int) % 9 := by rw [IntKind.wrap_i64]; omega
      go_wp2_with (first
        | (go_at_call 25; (with_reducible refine (KZ.out _).mono ?_); rintro e w2 ⟨rfl, l2⟩))
      have b3 := Blk.new w2 9 #[.string D, .string ZD, .string x] [.string D, .string ZD, .string x] rfl
      obtain ⟨w3, hw3⟩ : ∃ y, w2.alloc (.cells #[.string D, .string ZD, .string x] 9) = y := ⟨_, rfl⟩
      have l3 : Later w w3 := hw3 ▸ Later.trans_ (Later.trans_ hbr l2) (later1 w2 _)
      rw [hw3] at b3 ⊢
      have HB := Lib.hid fun w' (h : Later w3 w') => b3.keep h
      have HXS := Lib.hid (show ∀ k, k < 3 → ∃ s : ByteArray, ([.string D, .string ZD, .string x] : List Value)[k]? = some (.string s) ∧ Lx.Tokens (L s) = ([numT n], 0, 0) from by
        intro k hk
        rcases (by omega : k = 0 ∨ k = 1 ∨ k = 2) with rfl | rfl | rfl
        · exact ⟨D, rfl, TD.out⟩
        · exact ⟨ZD, rfl, TZ.out⟩
        · exact ⟨x, rfl, TX.out⟩)
      have hE : ∀ w', (Op.equalIn 10000 41 (.agg #[.int .i64 2, .int .i64 0, .int .i64 (n : Int), .string ⟨#[]⟩]) (.agg #[.int .i64 2, .int .i64 0, .int .i64 (n : Int), .string ⟨#[]⟩])).run Tryd.prog w' = .ok true w' := fun w' => tok_eq ⟨2, 0, n, []⟩ w'
      have HE := Lib.hid hE
      clear hw3 b3 hbr l2 KZ TD TZ TX wz hZs hxs hZD hE
      go_loopw [51] (fun i wr => ∃ k : Nat, k ≤ 3 ∧ i = .int .i64 k ∧ Later w3 wr) (fun i _ => 3 - (intOf i).toNat)
      case atStart => exact ⟨0, by omega, rfl, later0 _⟩
      case round =>
        obtain ⟨k, hk, rfl, hbr⟩ := hrel
        rename_i wr
        by_cases hlt : k < 3
        · obtain ⟨s, hs, ht⟩ := HXS.out k hlt
          have c3 := (HB.out wr hbr).cell hs
          have HT := Lib.hid fun w' => k_one ht (n := 1) rfl (by omega) w'
          have wn : IntKind.i64.wrap (n : Int) = n := by rw [IntKind.wrap_i64]; omega
          have hE := HE.out
          clear hs ht
          go_wp2_with (first
            | (go_at_call 10; go_loud ((with_reducible refine (HT.out _).mono ?_); rintro e w5 ⟨ad, c5, rfl, s5, l5⟩; have l6 := Later.trans_ (Later.trans_ hbr l5) (later1 w5 (.cells #[.int .i64 0, .int .i64 0] 26)); replace s5 := s5.keep (later1 w5 (.cells #[.int .i64 0, .int .i64 0] 26)); have g0 : (w5.alloc (.cells #[.int .i64 0, .int .i64 0] 26)).cell? ad = some (.int .i64 2) := Sl.tok s5 (k := 0) Nat.zero_lt_one rfl 0 _ rfl; have g1 : (w5.alloc (.cells #[.int .i64 0, .int .i64 0] 26)).cell? ⟨ad.block, ad.off + 1, none⟩ = some (.int .i64 0) := Sl.tok s5 (k := 0) Nat.zero_lt_one rfl 1 _ rfl; have g2 : (w5.alloc (.cells #[.int .i64 0, .int .i64 0] 26)).cell? ⟨ad.block, ad.off + 2, none⟩ = some (.int .i64 (n : Int)) := Sl.tok s5 (k := 0) Nat.zero_lt_one rfl 2 _ rfl; have g3 : (w5.alloc (.cells #[.int .i64 0, .int .i64 0] 26)).cell? ⟨ad.block, ad.off + 3, none⟩ = some (.string ⟨#[]⟩) := Sl.tok s5 (k := 0) Nat.zero_lt_one rfl 3 _ rfl)))
          go_roundw
          case rel => exact ⟨k + 1, by omega, by go_num, l6⟩
          case measure => first | (simp [intOf]; omega) | (simp [intOf]; done) | (simp; omega)
        · obtain rfl : k = 3 := by omega
          have lw := Later.trans_ l3 hbr
          clear hbr HXS HB HE hk hlt
          have hm10 : m % 10 < 10 := by omega
          obtain ⟨d, hd⟩ : ∃ d, m % 10 = d := ⟨_, rfl⟩
          rw [hd] at hm10
          have tM := tokens_more d hm10
          obtain ⟨c, hc⟩ : ∃ c, UInt8.ofNat (48 + d) = c := ⟨_, rfl⟩
          have hcv : (c.toNat : Int) = 48 + (d : Int) := by rw [← hc, UInt8.toNat_ofNat']; omega
          rw [hc] at tM
          clear hc
          have hbg : Lx.Tokens (L ((⟨#[52, 50, 57, 52, 57, 54, 55, 50, 57, 53]⟩ : ByteArray) ++ ⟨#[c]⟩)) = ([], 0, 71) := by rw [L_cat]; exact tM
          have HCV := Lib.hid hcv
          have hdI : (m : Int).tmod 10 = (d : Int) := by rw [Int.tmod_eq_emod_of_nonneg (by omega)]; omega
          have hwI : IntKind.u32.wrap (48 + (d : Int)) = 48 + (d : Int) := by rw [IntKind.wrap_u32]; omega
          have hwJ : IntKind.u8.wrap (48 + (d : Int)) = 48 + (d : Int) := by rw [IntKind.wrap_u8]; omega
          have hE := fun w' => pb_eq 0 71 w'
          have hF := op_pr0
          clear hcv tM hd
          go_wp2
          refine wp_region_held_drew (S := fun _ => True) (by kernel_rfl) trivial (fun hHeld => ?_)
          replace lw := lw.drew
          generalize wr.drew = u at lw hHeld ⊢
          refine wpAnyH_take (i := 0) (oi := ⟨some 78, .build 41 #[(0, .const (.int .i64 2)), (2, .const (.int .i64 4294967295))], _, _, _, none⟩) (v := .agg #[.int .i64 2, .int .i64 0, .int .i64 4294967295, .string ⟨#[]⟩]) rfl (by kernel_rfl) (by kernel_rfl) (by kernel_rfl) (fun _ _ _ h => h) (Or.inl ⟨by rfl, fun w _ => by go_simp⟩) hHeld ?_
          simp only [Act.put, List.setIfInBounds_toArray, List.set_cons_zero, List.set_cons_succ]
          refine wpAnyH_take (i := 4) (oi := ⟨some 82, .move (.tmp 2), _, _, _, none⟩) (v := .int .u32 (m : Int)) rfl (by kernel_rfl) (by kernel_rfl) (by kernel_rfl) (fun _ _ _ h => h) (Or.inl ⟨by rfl, fun _ _ => rfl⟩) hHeld ?_
          simp only [Act.put, List.setIfInBounds_toArray, List.set_cons_zero, List.set_cons_succ]
          refine wpAnyH_take (i := 5) (oi := ⟨some 83, .binOp .rem 63 (.tmp 82) (.const (.int .u32 10)) 63, _, _, _, none⟩) (v := .int .u32 (d : Int)) rfl (by kernel_rfl) (by kernel_rfl) (by kernel_rfl) (fun _ _ _ h => h) (Or.inl ⟨by rfl, fun w _ => by go_simp⟩) hHeld ?_
          simp only [Act.put, List.setIfInBounds_toArray, List.set_cons_zero, List.set_cons_succ]
          refine wpAnyH_take (i := 6) (oi := ⟨some 84, .binOp .add 63 (.const (.int .u32 48)) (.tmp 83) 63, _, _, _, none⟩) (v := .int .u32 (48 + (d : Int))) rfl (by kernel_rfl) (by kernel_rfl) (by kernel_rfl) (fun _ _ _ h => h) (Or.inl ⟨by rfl, fun w _ => by go_simp⟩) hHeld ?_
          simp only [Act.put, List.setIfInBounds_toArray, List.set_cons_zero, List.set_cons_succ]
          refine wpAnyH_take (i := 7) (oi := ⟨some 85, .convert 63 5 (.tmp 84), _, _, _, none⟩) (v := .int .u8 (48 + (d : Int))) rfl (by kernel_rfl) (by kernel_rfl) (by kernel_rfl) (fun _ _ _ h => h) (Or.inl ⟨by rfl, fun w _ => by go_simp⟩) hHeld ?_
          simp only [Act.put, List.setIfInBounds_toArray, List.set_cons_zero, List.set_cons_succ]
          refine wpAnyH_ready (rs := [1, 8]) (by kernel_rfl) (by simp) (AllReadyH.cons (o := ⟨some 79, .buildSlice 23 1 #[(0, .tmp 78)], _, _, _, none⟩) rfl (fun K' hK => ?_) (AllReadyH.cons (o := ⟨some 86, .buildSlice 49 1 #[(0, .tmp 85)], _, _, _, none⟩) rfl (fun K' hK => ?_) AllReadyH.nil))
          · go_simp
            refine hK.out _ (u.alloc (.cells #[.int .i64 2, .int .i64 0, .int .i64 4294967295, .string ⟨#[]⟩] 41)) trivial (fun hHeld => ?_)
            clear hK K'
            try simp only [Act.put, List.setIfInBounds_toArray, List.set_cons_zero, List.set_cons_succ]
            have s1 := sl_lit u 4294967295
            have lu := later1 u (.cells #[.int .i64 2, .int .i64 0, .int .i64 4294967295, .string ⟨#[]⟩] 41)
            replace lw := Later.trans_ lw lu
            clear lu
            obtain ⟨B1, hB1⟩ : ∃ B, u.heap.size = B := ⟨_, rfl⟩
            rw [hB1] at s1 ⊢
            clear hB1
            generalize hux : u.alloc (.cells #[.int .i64 2, .int .i64 0, .int .i64 4294967295, .string ⟨#[]⟩] 41) = ux at *
            clear hux u
            rename World => u
            refine wpAnyH_ready (rs := [2, 8]) (by kernel_rfl) (by simp) (AllReadyH.cons (o := ⟨some 80, .call { callee := .value (.func 19), args := #[.tmp 79], argTypes := #[23] }, _, _, _, none⟩) rfl (fun K' hK => ?_) (AllReadyH.cons (o := ⟨some 86, .buildSlice 49 1 #[(0, .tmp 85)], _, _, _, none⟩) rfl (fun K' hK => ?_) AllReadyH.nil))
            · go_simp
              (with_reducible refine (KR.out _ _ _ s1 lw).mono ?_)
              rintro e ux ⟨rfl, lu⟩
              replace lw := Later.trans_ lw lu
              refine hK.out _ _ trivial (fun hHeld => ?_)
              clear hK K' lu s1
              try simp only [Act.put, List.setIfInBounds_toArray, List.set_cons_zero, List.set_cons_succ]
              clear u
              rename World => u
              refine wpAnyH_take (i := 3) (oi := ⟨some 81, .field 46 (.tmp 80) 0, _, _, _, none⟩) (v := .string ⟨#[52, 50, 57, 52, 57, 54, 55, 50, 57, 53]⟩) rfl (by kernel_rfl) (by kernel_rfl) (by kernel_rfl) (fun _ _ _ h => h) (Or.inl ⟨by rfl, fun w _ => by go_simp⟩) hHeld ?_
              simp only [Act.put, List.setIfInBounds_toArray, List.set_cons_zero, List.set_cons_succ]
              refine wpAnyH_ready (rs := [8]) (by kernel_rfl) (by simp) (AllReadyH.cons (o := ⟨some 86, .buildSlice 49 1 #[(0, .tmp 85)], _, _, _, none⟩) rfl (fun K' hK => ?_) AllReadyH.nil)
              go_simp
              refine hK.out _ (u.alloc (.cells #[.int .u8 (48 + (d : Int))] 5)) trivial (fun hHeld => ?_)
              clear hK K'
              try simp only [Act.put, List.setIfInBounds_toArray, List.set_cons_zero, List.set_cons_succ]
              have cv := conv_at u c _ HCV.out
              have lu := later1 u (.cells #[.int .u8 (48 + (d : Int))] 5)
              replace lw := Later.trans_ lw lu
              clear lu
              obtain ⟨B8, hB8⟩ : ∃ B, u.heap.size = B := ⟨_, rfl⟩
              rw [hB8] at cv ⊢
              clear hB8
              generalize hux : u.alloc (.cells #[.int .u8 (48 + (d : Int))] 5) = ux at *
              clear hux u
              rename World => u
              refine wpAnyH_ready (rs := [9]) (by kernel_rfl) (by simp) (AllReadyH.cons (o := ⟨some 87, .convert 49 9 (.tmp 86), _, _, _, none⟩) rfl (fun K' hK => ?_) AllReadyH.nil)
              have e9 := cv _ (later0 _)
              go_simp
              refine hK.out _ _ trivial (fun hHeld => ?_)
              clear hK K' e9 cv
              try simp only [Act.put, List.setIfInBounds_toArray, List.set_cons_zero, List.set_cons_succ]
              refine wpAnyH_take (i := 10) (oi := ⟨some 88, .binOp .add 9 (.tmp 81) (.tmp 87) 9, _, _, _, none⟩) (v := .string (⟨#[52, 50, 57, 52, 57, 54, 55, 50, 57, 53]⟩ ++ ⟨#[c]⟩)) rfl (by kernel_rfl) (by kernel_rfl) (by kernel_rfl) (fun _ _ _ h => h) (Or.inl ⟨by rfl, fun w _ => by go_simp⟩) hHeld ?_
              simp only [Act.put, List.setIfInBounds_toArray, List.set_cons_zero, List.set_cons_succ]
              refine wpAnyH_take (i := 11) (oi := ⟨some 15, .assign (.tmp 88), _, _, _, none⟩) (v := .string (⟨#[52, 50, 57, 52, 57, 54, 55, 50, 57, 53]⟩ ++ ⟨#[c]⟩)) rfl (by kernel_rfl) (by kernel_rfl) (by kernel_rfl) (fun _ _ _ h => h) (Or.inl ⟨by rfl, fun _ _ => rfl⟩) hHeld ?_
              simp only [Act.put, List.setIfInBounds_toArray, List.set_cons_zero, List.set_cons_succ]
              refine wpAnyH_done (by kernel_rfl) ?_ _
              try simp only [Act.put]
              have HTB := Lib.hid fun w' => k_none hbg w'
              clear HCV hHeld
              go_wp2_with (first
                | (go_at_call 10; (with_reducible refine (HTB.out _).mono ?_); rintro e w5 ⟨A5, c5, rfl, l5⟩; have b6 := Blk.new w5 26 #[.int .i64 0, .int .i64 71] [.int .i64 0, .int .i64 71] rfl; have lw5 := Later.trans_ (Later.trans_ lw l5) (later1 w5 (.cells #[.int .i64 0, .int .i64 71] 26)))
                | (go_at_call 9; refine (HN.out _ lw5).mono ?_; rintro e w7 ⟨rfl, l7⟩; replace b6 := b6.keep l7; have c60 := b6.cell (j := 0) (v := .int .i64 0) rfl; have c61 := b6.cell (j := 1) (v := .int .i64 71) rfl))
              go_ret
              exact ⟨rfl, Later.trans_ lw5 l7⟩
            · go_simp
              refine hK.out _ (u.alloc (.cells #[.int .u8 (48 + (d : Int))] 5)) trivial (fun hHeld => ?_)
              clear hK K'
              try simp only [Act.put, List.setIfInBounds_toArray, List.set_cons_zero, List.set_cons_succ]
              have cv := conv_at u c _ HCV.out
              have lu := later1 u (.cells #[.int .u8 (48 + (d : Int))] 5)
              replace lw := Later.trans_ lw lu
              replace s1 := s1.keep lu
              clear lu
              obtain ⟨B8, hB8⟩ : ∃ B, u.heap.size = B := ⟨_, rfl⟩
              rw [hB8] at cv ⊢
              clear hB8
              generalize hux : u.alloc (.cells #[.int .u8 (48 + (d : Int))] 5) = ux at *
              clear hux u
              rename World => u
              refine wpAnyH_ready (rs := [2, 9]) (by kernel_rfl) (by simp) (AllReadyH.cons (o := ⟨some 80, .call { callee := .value (.func 19), args := #[.tmp 79], argTypes := #[23] }, _, _, _, none⟩) rfl (fun K' hK => ?_) (AllReadyH.cons (o := ⟨some 87, .convert 49 9 (.tmp 86), _, _, _, none⟩) rfl (fun K' hK => ?_) AllReadyH.nil))
              · go_simp
                (with_reducible refine (KR.out _ _ _ s1 lw).mono ?_)
                rintro e ux ⟨rfl, lu⟩
                replace lw := Later.trans_ lw lu
                replace cv := fun w' (h : Later _ w') => cv w' (Later.trans_ lu h)
                refine hK.out _ _ trivial (fun hHeld => ?_)
                clear hK K' lu s1
                try simp only [Act.put, List.setIfInBounds_toArray, List.set_cons_zero, List.set_cons_succ]
                clear u
                rename World => u
                refine wpAnyH_take (i := 3) (oi := ⟨some 81, .field 46 (.tmp 80) 0, _, _, _, none⟩) (v := .string ⟨#[52, 50, 57, 52, 57, 54, 55, 50, 57, 53]⟩) rfl (by kernel_rfl) (by kernel_rfl) (by kernel_rfl) (fun _ _ _ h => h) (Or.inl ⟨by rfl, fun w _ => by go_simp⟩) hHeld ?_
                simp only [Act.put, List.setIfInBounds_toArray, List.set_cons_zero, List.set_cons_succ]
                refine wpAnyH_ready (rs := [9]) (by kernel_rfl) (by simp) (AllReadyH.cons (o := ⟨some 87, .convert 49 9 (.tmp 86), _, _, _, none⟩) rfl (fun K' hK => ?_) AllReadyH.nil)
                have e9 := cv _ (later0 _)
                go_simp
                refine hK.out _ _ trivial (fun hHeld => ?_)
                clear hK K' e9 cv
                try simp only [Act.put, List.setIfInBounds_toArray, List.set_cons_zero, List.set_cons_succ]
                refine wpAnyH_take (i := 10) (oi := ⟨some 88, .binOp .add 9 (.tmp 81) (.tmp 87) 9, _, _, _, none⟩) (v := .string (⟨#[52, 50, 57, 52, 57, 54, 55, 50, 57, 53]⟩ ++ ⟨#[c]⟩)) rfl (by kernel_rfl) (by kernel_rfl) (by kernel_rfl) (fun _ _ _ h => h) (Or.inl ⟨by rfl, fun w _ => by go_simp⟩) hHeld ?_
                simp only [Act.put, List.setIfInBounds_toArray, List.set_cons_zero, List.set_cons_succ]
                refine wpAnyH_take (i := 11) (oi := ⟨some 15, .assign (.tmp 88), _, _, _, none⟩) (v := .string (⟨#[52, 50, 57, 52, 57, 54, 55, 50, 57, 53]⟩ ++ ⟨#[c]⟩)) rfl (by kernel_rfl) (by kernel_rfl) (by kernel_rfl) (fun _ _ _ h => h) (Or.inl ⟨by rfl, fun _ _ => rfl⟩) hHeld ?_
                simp only [Act.put, List.setIfInBounds_toArray, List.set_cons_zero, List.set_cons_succ]
                refine wpAnyH_done (by kernel_rfl) ?_ _
                try simp only [Act.put]
                have HTB := Lib.hid fun w' => k_none hbg w'
                clear HCV hHeld
                go_wp2_with (first
                  | (go_at_call 10; (with_reducible refine (HTB.out _).mono ?_); rintro e w5 ⟨A5, c5, rfl, l5⟩; have b6 := Blk.new w5 26 #[.int .i64 0, .int .i64 71] [.int .i64 0, .int .i64 71] rfl; have lw5 := Later.trans_ (Later.trans_ lw l5) (later1 w5 (.cells #[.int .i64 0, .int .i64 71] 26)))
                  | (go_at_call 9; refine (HN.out _ lw5).mono ?_; rintro e w7 ⟨rfl, l7⟩; replace b6 := b6.keep l7; have c60 := b6.cell (j := 0) (v := .int .i64 0) rfl; have c61 := b6.cell (j := 1) (v := .int .i64 71) rfl))
                go_ret
                exact ⟨rfl, Later.trans_ lw5 l7⟩
              · have e9 := cv _ (later0 _)
                go_simp
                refine hK.out _ _ trivial (fun hHeld => ?_)
                clear hK K' e9 cv
                try simp only [Act.put, List.setIfInBounds_toArray, List.set_cons_zero, List.set_cons_succ]
                refine wpAnyH_ready (rs := [2]) (by kernel_rfl) (by simp) (AllReadyH.cons (o := ⟨some 80, .call { callee := .value (.func 19), args := #[.tmp 79], argTypes := #[23] }, _, _, _, none⟩) rfl (fun K' hK => ?_) AllReadyH.nil)
                go_simp
                (with_reducible refine (KR.out _ _ _ s1 lw).mono ?_)
                rintro e ux ⟨rfl, lu⟩
                replace lw := Later.trans_ lw lu
                refine hK.out _ _ trivial (fun hHeld => ?_)
                clear hK K' lu s1
                try simp only [Act.put, List.setIfInBounds_toArray, List.set_cons_zero, List.set_cons_succ]
                clear u
                rename World => u
                refine wpAnyH_take (i := 3) (oi := ⟨some 81, .field 46 (.tmp 80) 0, _, _, _, none⟩) (v := .string ⟨#[52, 50, 57, 52, 57, 54, 55, 50, 57, 53]⟩) rfl (by kernel_rfl) (by kernel_rfl) (by kernel_rfl) (fun _ _ _ h => h) (Or.inl ⟨by rfl, fun w _ => by go_simp⟩) hHeld ?_
                simp only [Act.put, List.setIfInBounds_toArray, List.set_cons_zero, List.set_cons_succ]
                refine wpAnyH_take (i := 10) (oi := ⟨some 88, .binOp .add 9 (.tmp 81) (.tmp 87) 9, _, _, _, none⟩) (v := .string (⟨#[52, 50, 57, 52, 57, 54, 55, 50, 57, 53]⟩ ++ ⟨#[c]⟩)) rfl (by kernel_rfl) (by kernel_rfl) (by kernel_rfl) (fun _ _ _ h => h) (Or.inl ⟨by rfl, fun w _ => by go_simp⟩) hHeld ?_
                simp only [Act.put, List.setIfInBounds_toArray, List.set_cons_zero, List.set_cons_succ]
                refine wpAnyH_take (i := 11) (oi := ⟨some 15, .assign (.tmp 88), _, _, _, none⟩) (v := .string (⟨#[52, 50, 57, 52, 57, 54, 55, 50, 57, 53]⟩ ++ ⟨#[c]⟩)) rfl (by kernel_rfl) (by kernel_rfl) (by kernel_rfl) (fun _ _ _ h => h) (Or.inl ⟨by rfl, fun _ _ => rfl⟩) hHeld ?_
                simp only [Act.put, List.setIfInBounds_toArray, List.set_cons_zero, List.set_cons_succ]
                refine wpAnyH_done (by kernel_rfl) ?_ _
                try simp only [Act.put]
                have HTB := Lib.hid fun w' => k_none hbg w'
                clear HCV hHeld
                go_wp2_with (first
                  | (go_at_call 10; (with_reducible refine (HTB.out _).mono ?_); rintro e w5 ⟨A5, c5, rfl, l5⟩; have b6 := Blk.new w5 26 #[.int .i64 0, .int .i64 71] [.int .i64 0, .int .i64 71] rfl; have lw5 := Later.trans_ (Later.trans_ lw l5) (later1 w5 (.cells #[.int .i64 0, .int .i64 71] 26)))
                  | (go_at_call 9; refine (HN.out _ lw5).mono ?_; rintro e w7 ⟨rfl, l7⟩; replace b6 := b6.keep l7; have c60 := b6.cell (j := 0) (v := .int .i64 0) rfl; have c61 := b6.cell (j := 1) (v := .int .i64 71) rfl))
                go_ret
                exact ⟨rfl, Later.trans_ lw5 l7⟩
          · go_simp
            refine hK.out _ (u.alloc (.cells #[.int .u8 (48 + (d : Int))] 5)) trivial (fun hHeld => ?_)
            clear hK K'
            try simp only [Act.put, List.setIfInBounds_toArray, List.set_cons_zero, List.set_cons_succ]
            have cv := conv_at u c _ HCV.out
            have lu := later1 u (.cells #[.int .u8 (48 + (d : Int))] 5)
            replace lw := Later.trans_ lw lu
            clear lu
            obtain ⟨B8, hB8⟩ : ∃ B, u.heap.size = B := ⟨_, rfl⟩
            rw [hB8] at cv ⊢
            clear hB8
            generalize hux : u.alloc (.cells #[.int .u8 (48 + (d : Int))] 5) = ux at *
            clear hux u
            rename World => u
            refine wpAnyH_ready (rs := [1, 9]) (by kernel_rfl) (by simp) (AllReadyH.cons (o := ⟨some 79, .buildSlice 23 1 #[(0, .tmp 78)], _, _, _, none⟩) rfl (fun K' hK => ?_) (AllReadyH.cons (o := ⟨some 87, .convert 49 9 (.tmp 86), _, _, _, none⟩) rfl (fun K' hK => ?_) AllReadyH.nil))
            · go_simp
              refine hK.out _ (u.alloc (.cells #[.int .i64 2, .int .i64 0, .int .i64 4294967295, .string ⟨#[]⟩] 41)) trivial (fun hHeld => ?_)
              clear hK K'
              try simp only [Act.put, List.setIfInBounds_toArray, List.set_cons_zero, List.set_cons_succ]
              have s1 := sl_lit u 4294967295
              have lu := later1 u (.cells #[.int .i64 2, .int .i64 0, .int .i64 4294967295, .string ⟨#[]⟩] 41)
              replace lw := Later.trans_ lw lu
              replace cv := fun w' (h : Later _ w') => cv w' (Later.trans_ lu h)
              clear lu
              obtain ⟨B1, hB1⟩ : ∃ B, u.heap.size = B := ⟨_, rfl⟩
              rw [hB1] at s1 ⊢
              clear hB1
              generalize hux : u.alloc (.cells #[.int .i64 2, .int .i64 0, .int .i64 4294967295, .string ⟨#[]⟩] 41) = ux at *
              clear hux u
              rename World => u
              refine wpAnyH_ready (rs := [2, 9]) (by kernel_rfl) (by simp) (AllReadyH.cons (o := ⟨some 80, .call { callee := .value (.func 19), args := #[.tmp 79], argTypes := #[23] }, _, _, _, none⟩) rfl (fun K' hK => ?_) (AllReadyH.cons (o := ⟨some 87, .convert 49 9 (.tmp 86), _, _, _, none⟩) rfl (fun K' hK => ?_) AllReadyH.nil))
              · go_simp
                (with_reducible refine (KR.out _ _ _ s1 lw).mono ?_)
                rintro e ux ⟨rfl, lu⟩
                replace lw := Later.trans_ lw lu
                replace cv := fun w' (h : Later _ w') => cv w' (Later.trans_ lu h)
                refine hK.out _ _ trivial (fun hHeld => ?_)
                clear hK K' lu s1
                try simp only [Act.put, List.setIfInBounds_toArray, List.set_cons_zero, List.set_cons_succ]
                clear u
                rename World => u
                refine wpAnyH_take (i := 3) (oi := ⟨some 81, .field 46 (.tmp 80) 0, _, _, _, none⟩) (v := .string ⟨#[52, 50, 57, 52, 57, 54, 55, 50, 57, 53]⟩) rfl (by kernel_rfl) (by kernel_rfl) (by kernel_rfl) (fun _ _ _ h => h) (Or.inl ⟨by rfl, fun w _ => by go_simp⟩) hHeld ?_
                simp only [Act.put, List.setIfInBounds_toArray, List.set_cons_zero, List.set_cons_succ]
                refine wpAnyH_ready (rs := [9]) (by kernel_rfl) (by simp) (AllReadyH.cons (o := ⟨some 87, .convert 49 9 (.tmp 86), _, _, _, none⟩) rfl (fun K' hK => ?_) AllReadyH.nil)
                have e9 := cv _ (later0 _)
                go_simp
                refine hK.out _ _ trivial (fun hHeld => ?_)
                clear hK K' e9 cv
                try simp only [Act.put, List.setIfInBounds_toArray, List.set_cons_zero, List.set_cons_succ]
                refine wpAnyH_take (i := 10) (oi := ⟨some 88, .binOp .add 9 (.tmp 81) (.tmp 87) 9, _, _, _, none⟩) (v := .string (⟨#[52, 50, 57, 52, 57, 54, 55, 50, 57, 53]⟩ ++ ⟨#[c]⟩)) rfl (by kernel_rfl) (by kernel_rfl) (by kernel_rfl) (fun _ _ _ h => h) (Or.inl ⟨by rfl, fun w _ => by go_simp⟩) hHeld ?_
                simp only [Act.put, List.setIfInBounds_toArray, List.set_cons_zero, List.set_cons_succ]
                refine wpAnyH_take (i := 11) (oi := ⟨some 15, .assign (.tmp 88), _, _, _, none⟩) (v := .string (⟨#[52, 50, 57, 52, 57, 54, 55, 50, 57, 53]⟩ ++ ⟨#[c]⟩)) rfl (by kernel_rfl) (by kernel_rfl) (by kernel_rfl) (fun _ _ _ h => h) (Or.inl ⟨by rfl, fun _ _ => rfl⟩) hHeld ?_
                simp only [Act.put, List.setIfInBounds_toArray, List.set_cons_zero, List.set_cons_succ]
                refine wpAnyH_done (by kernel_rfl) ?_ _
                try simp only [Act.put]
                have HTB := Lib.hid fun w' => k_none hbg w'
                clear HCV hHeld
                go_wp2_with (first
                  | (go_at_call 10; (with_reducible refine (HTB.out _).mono ?_); rintro e w5 ⟨A5, c5, rfl, l5⟩; have b6 := Blk.new w5 26 #[.int .i64 0, .int .i64 71] [.int .i64 0, .int .i64 71] rfl; have lw5 := Later.trans_ (Later.trans_ lw l5) (later1 w5 (.cells #[.int .i64 0, .int .i64 71] 26)))
                  | (go_at_call 9; refine (HN.out _ lw5).mono ?_; rintro e w7 ⟨rfl, l7⟩; replace b6 := b6.keep l7; have c60 := b6.cell (j := 0) (v := .int .i64 0) rfl; have c61 := b6.cell (j := 1) (v := .int .i64 71) rfl))
                go_ret
                exact ⟨rfl, Later.trans_ lw5 l7⟩
              · have e9 := cv _ (later0 _)
                go_simp
                refine hK.out _ _ trivial (fun hHeld => ?_)
                clear hK K' e9 cv
                try simp only [Act.put, List.setIfInBounds_toArray, List.set_cons_zero, List.set_cons_succ]
                refine wpAnyH_ready (rs := [2]) (by kernel_rfl) (by simp) (AllReadyH.cons (o := ⟨some 80, .call { callee := .value (.func 19), args := #[.tmp 79], argTypes := #[23] }, _, _, _, none⟩) rfl (fun K' hK => ?_) AllReadyH.nil)
                go_simp
                (with_reducible refine (KR.out _ _ _ s1 lw).mono ?_)
                rintro e ux ⟨rfl, lu⟩
                replace lw := Later.trans_ lw lu
                refine hK.out _ _ trivial (fun hHeld => ?_)
                clear hK K' lu s1
                try simp only [Act.put, List.setIfInBounds_toArray, List.set_cons_zero, List.set_cons_succ]
                clear u
                rename World => u
                refine wpAnyH_take (i := 3) (oi := ⟨some 81, .field 46 (.tmp 80) 0, _, _, _, none⟩) (v := .string ⟨#[52, 50, 57, 52, 57, 54, 55, 50, 57, 53]⟩) rfl (by kernel_rfl) (by kernel_rfl) (by kernel_rfl) (fun _ _ _ h => h) (Or.inl ⟨by rfl, fun w _ => by go_simp⟩) hHeld ?_
                simp only [Act.put, List.setIfInBounds_toArray, List.set_cons_zero, List.set_cons_succ]
                refine wpAnyH_take (i := 10) (oi := ⟨some 88, .binOp .add 9 (.tmp 81) (.tmp 87) 9, _, _, _, none⟩) (v := .string (⟨#[52, 50, 57, 52, 57, 54, 55, 50, 57, 53]⟩ ++ ⟨#[c]⟩)) rfl (by kernel_rfl) (by kernel_rfl) (by kernel_rfl) (fun _ _ _ h => h) (Or.inl ⟨by rfl, fun w _ => by go_simp⟩) hHeld ?_
                simp only [Act.put, List.setIfInBounds_toArray, List.set_cons_zero, List.set_cons_succ]
                refine wpAnyH_take (i := 11) (oi := ⟨some 15, .assign (.tmp 88), _, _, _, none⟩) (v := .string (⟨#[52, 50, 57, 52, 57, 54, 55, 50, 57, 53]⟩ ++ ⟨#[c]⟩)) rfl (by kernel_rfl) (by kernel_rfl) (by kernel_rfl) (fun _ _ _ h => h) (Or.inl ⟨by rfl, fun _ _ => rfl⟩) hHeld ?_
                simp only [Act.put, List.setIfInBounds_toArray, List.set_cons_zero, List.set_cons_succ]
                refine wpAnyH_done (by kernel_rfl) ?_ _
                try simp only [Act.put]
                have HTB := Lib.hid fun w' => k_none hbg w'
                clear HCV hHeld
                go_wp2_with (first
                  | (go_at_call 10; (with_reducible refine (HTB.out _).mono ?_); rintro e w5 ⟨A5, c5, rfl, l5⟩; have b6 := Blk.new w5 26 #[.int .i64 0, .int .i64 71] [.int .i64 0, .int .i64 71] rfl; have lw5 := Later.trans_ (Later.trans_ lw l5) (later1 w5 (.cells #[.int .i64 0, .int .i64 71] 26)))
                  | (go_at_call 9; refine (HN.out _ lw5).mono ?_; rintro e w7 ⟨rfl, l7⟩; replace b6 := b6.keep l7; have c60 := b6.cell (j := 0) (v := .int .i64 0) rfl; have c61 := b6.cell (j := 1) (v := .int .i64 71) rfl))
                go_ret
                exact ⟨rfl, Later.trans_ lw5 l7⟩
            · have e9 := cv _ (later0 _)
              go_simp
              refine hK.out _ _ trivial (fun hHeld => ?_)
              clear hK K' e9 cv
              try simp only [Act.put, List.setIfInBounds_toArray, List.set_cons_zero, List.set_cons_succ]
              refine wpAnyH_ready (rs := [1]) (by kernel_rfl) (by simp) (AllReadyH.cons (o := ⟨some 79, .buildSlice 23 1 #[(0, .tmp 78)], _, _, _, none⟩) rfl (fun K' hK => ?_) AllReadyH.nil)
              go_simp
              refine hK.out _ (u.alloc (.cells #[.int .i64 2, .int .i64 0, .int .i64 4294967295, .string ⟨#[]⟩] 41)) trivial (fun hHeld => ?_)
              clear hK K'
              try simp only [Act.put, List.setIfInBounds_toArray, List.set_cons_zero, List.set_cons_succ]
              have s1 := sl_lit u 4294967295
              have lu := later1 u (.cells #[.int .i64 2, .int .i64 0, .int .i64 4294967295, .string ⟨#[]⟩] 41)
              replace lw := Later.trans_ lw lu
              clear lu
              obtain ⟨B1, hB1⟩ : ∃ B, u.heap.size = B := ⟨_, rfl⟩
              rw [hB1] at s1 ⊢
              clear hB1
              generalize hux : u.alloc (.cells #[.int .i64 2, .int .i64 0, .int .i64 4294967295, .string ⟨#[]⟩] 41) = ux at *
              clear hux u
              rename World => u
              refine wpAnyH_ready (rs := [2]) (by kernel_rfl) (by simp) (AllReadyH.cons (o := ⟨some 80, .call { callee := .value (.func 19), args := #[.tmp 79], argTypes := #[23] }, _, _, _, none⟩) rfl (fun K' hK => ?_) AllReadyH.nil)
              go_simp
              (with_reducible refine (KR.out _ _ _ s1 lw).mono ?_)
              rintro e ux ⟨rfl, lu⟩
              replace lw := Later.trans_ lw lu
              refine hK.out _ _ trivial (fun hHeld => ?_)
              clear hK K' lu s1
              try simp only [Act.put, List.setIfInBounds_toArray, List.set_cons_zero, List.set_cons_succ]
              clear u
              rename World => u
              refine wpAnyH_take (i := 3) (oi := ⟨some 81, .field 46 (.tmp 80) 0, _, _, _, none⟩) (v := .string ⟨#[52, 50, 57, 52, 57, 54, 55, 50, 57, 53]⟩) rfl (by kernel_rfl) (by kernel_rfl) (by kernel_rfl) (fun _ _ _ h => h) (Or.inl ⟨by rfl, fun w _ => by go_simp⟩) hHeld ?_
              simp only [Act.put, List.setIfInBounds_toArray, List.set_cons_zero, List.set_cons_succ]
              refine wpAnyH_take (i := 10) (oi := ⟨some 88, .binOp .add 9 (.tmp 81) (.tmp 87) 9, _, _, _, none⟩) (v := .string (⟨#[52, 50, 57, 52, 57, 54, 55, 50, 57, 53]⟩ ++ ⟨#[c]⟩)) rfl (by kernel_rfl) (by kernel_rfl) (by kernel_rfl) (fun _ _ _ h => h) (Or.inl ⟨by rfl, fun w _ => by go_simp⟩) hHeld ?_
              simp only [Act.put, List.setIfInBounds_toArray, List.set_cons_zero, List.set_cons_succ]
              refine wpAnyH_take (i := 11) (oi := ⟨some 15, .assign (.tmp 88), _, _, _, none⟩) (v := .string (⟨#[52, 50, 57, 52, 57, 54, 55, 50, 57, 53]⟩ ++ ⟨#[c]⟩)) rfl (by kernel_rfl) (by kernel_rfl) (by kernel_rfl) (fun _ _ _ h => h) (Or.inl ⟨by rfl, fun _ _ => rfl⟩) hHeld ?_
              simp only [Act.put, List.setIfInBounds_toArray, List.set_cons_zero, List.set_cons_succ]
              refine wpAnyH_done (by kernel_rfl) ?_ _
              try simp only [Act.put]
              have HTB := Lib.hid fun w' => k_none hbg w'
              clear HCV hHeld
              go_wp2_with (first
                | (go_at_call 10; (with_reducible refine (HTB.out _).mono ?_); rintro e w5 ⟨A5, c5, rfl, l5⟩; have b6 := Blk.new w5 26 #[.int .i64 0, .int .i64 71] [.int .i64 0, .int .i64 71] rfl; have lw5 := Later.trans_ (Later.trans_ lw l5) (later1 w5 (.cells #[.int .i64 0, .int .i64 71] 26)))
                | (go_at_call 9; refine (HN.out _ lw5).mono ?_; rintro e w7 ⟨rfl, l7⟩; replace b6 := b6.keep l7; have c60 := b6.cell (j := 0) (v := .int .i64 0) rfl; have c61 := b6.cell (j := 1) (v := .int .i64 71) rfl))
              go_ret
              exact ⟨rfl, Later.trans_ lw5 l7⟩
end Go.Proofs.YtjopadfkdpcjmaaDoor
