/-
  THE STATEMENT TableListIsTranslation: a load in kernel mode leads somewhere exactly if the list of the root's mappings holds the address; for every memory, root and address.
-/
import Derived.Test.YtiaejldknbicdaaTabZ2a
import Derived.Test.YtiaejldknbicdaaTabW4
namespace Go.Proofs.Ytiaejldknbicdaa
open Go.RowKit Go.ChangeShapes Go.WideShapes Go.ChangeAt

theorem Mgs_at : ∀ (l : List Mg) (i : Nat) (hi : i < l.length) (j : Nat), j < 3 → (Mgs l)[i * 3 + j]? = (mgC l[i])[j]?
  | [], i, hi, _, _ => absurd hi (by simp)
  | x :: r, 0, _, j, hj => by
    show (mgC x ++ Mgs r)[0 * 3 + j]? = _
    rw [Nat.zero_mul, Nat.zero_add, List.getElem?_append_left (by show j < 3; exact hj)]
    rfl
  | x :: r, i + 1, hi, j, hj => by
    show (mgC x ++ Mgs r)[(i + 1) * 3 + j]? = _
    rw [show (i + 1) * 3 + j = 3 + (i * 3 + j) by omega, List.getElem?_append_right (by show 3 ≤ _; omega), show 3 + (i * 3 + j) - (mgC x).length = i * 3 + j by show 3 + (i * 3 + j) - 3 = _; omega]
    exact Mgs_at r i (by simpa using hi) j hj
theorem top_len3 (n : Nat) (b : Wm.Bs) (root : Int) (i : Fin 32) : (Tm.topAt n b root i).length ≤ 32 := by
  unfold Tm.topAt
  split
  · exact Nat.le_trans (List.length_filter_le _ _) (blw_len _ _ _)
  · simp
theorem lst_len (n : Nat) (b : Wm.Bs) (root : Int) : (Tm.lst n b root).length ≤ 1024 := by
  unfold Tm.lst
  split
  · have h := flat_len (Tm.topAt n b root) 32 (top_len3 n b root) (List.finRange 32)
    rw [List.length_finRange] at h
    exact h
  · simp
theorem mg_sz (a p t : Value) : (Try.prog.info? 65).map (·.size) = some [a, p, t].length := by
  show _ = some 3
  kernel_rfl
theorem atL_snoc (va : Int) : ∀ (l : List Mg) (x : Mg) (a : Int), Tm.atL va (l ++ [x]) a = if Tm.hit va x then x.1.2.1 + (va - x.1.1) else Tm.atL va l a
  | [], x, a => rfl
  | y :: r, x, a => by
    show Tm.atL va (r ++ [x]) _ = _
    rw [atL_snoc va r x]
    rfl
theorem bit64 (t : Int) (h : 0 ≤ t ∧ t < 128) : (bits .and .i64 t 64 != 0) = Tm.has t 64 := by
  have : ∀ x : Fin 128, (bits .and .i64 ((x.1 : Nat) : Int) 64 != 0) = Tm.has ((x.1 : Nat) : Int) 64 := by decide +kernel
  have h2 := this ⟨t.toNat, by omega⟩
  rwa [show ((t.toNat : Nat) : Int) = t by omega] at h2
theorem bit1 (t : Int) (h : 0 ≤ t ∧ t < 128) (h1 : Tm.has t 1 = true) : (bits .and .i64 t 1 == 0) = false := by
  have : ∀ x : Fin 128, Tm.has ((x.1 : Nat) : Int) 1 = true → (bits .and .i64 ((x.1 : Nat) : Int) 1 == 0) = false := by decide +kernel
  have h2 := this ⟨t.toNat, by omega⟩
  rw [show ((t.toNat : Nat) : Int) = t by omega] at h2
  exact h2 h1
set_option maxRecDepth 100000 in
theorem list_bad1 (A : Option Addr) (n c : Nat) (root va : Int) (w : World) (h : ¬ (1 ≤ n ∧ n ≤ 64)) :
    Calls Try.prog 7 #[.agg #[.slice A n c], .int .u32 root, .int .u32 va] w fun e w' => e = .returned (.bool true) ∧ Later w w' := by
  have HV := Lib.hid fun w' => rvalid_any A n c w'
  rw [decide_eq_false h] at HV
  have HN := Lib.hid fun w' => sanity_any w'
  clear h
  go_enter Try.func7, Try.ntmps7
  go_wp2_with (first
    | (go_at_call 8; refine (HV.out _).mono ?_; rintro e w1 ⟨rfl, l1⟩; have b3 := (Blk.new w 24 #[.slice A n c] [.slice A n c] rfl).keep l1; have lw := Later.trans_ (later1 w (.cells #[.slice A n c] 24)) l1; have c3 := b3.cell (j := 0) (v := .slice A n c) rfl)
    | (go_at_call 10; refine (HN.out _).mono ?_; rintro e w2 ⟨rfl, l2⟩; replace lw := Later.trans_ lw l2))
  go_ret
  exact ⟨rfl, lw⟩
set_option maxRecDepth 100000 in
theorem list_bad2 (A : Option Addr) (n c : Nat) (va : Int) (w : World) (h1 : 1 ≤ n ∧ n ≤ 64) :
    Calls Try.prog 7 #[.agg #[.slice A n c], .int .u32 0, .int .u32 va] w fun e w' => e = .returned (.bool true) ∧ Later w w' := by
  have HV := Lib.hid fun w' => rvalid_any A n c w'
  rw [decide_eq_true h1] at HV
  have HN := Lib.hid fun w' => sanity_any w'
  clear h1
  go_enter Try.func7, Try.ntmps7
  go_wp2_with (first
    | (go_at_call 8; refine (HV.out _).mono ?_; rintro e w1 ⟨rfl, l1⟩; have b3 := (Blk.new w 24 #[.slice A n c] [.slice A n c] rfl).keep l1; have lw := Later.trans_ (later1 w (.cells #[.slice A n c] 24)) l1; have c3 := b3.cell (j := 0) (v := .slice A n c) rfl)
    | (go_at_call 10; refine (HN.out _).mono ?_; rintro e w2 ⟨rfl, l2⟩; replace lw := Later.trans_ lw l2))
  go_ret
  exact ⟨rfl, lw⟩
set_option maxRecDepth 100000 in
set_option maxHeartbeats 8000000 in
theorem list_yes (A : Option Addr) (n c : Nat) (root va : Int) (b : Wm.Bs) (w : World) (hs : Sl w 128 A n (U b)) (hb : Wm.isBs b) (h1 : 1 ≤ n ∧ n ≤ 64) (hr : 0 ≤ root ∧ root ≤ 4294967295) (hv : 0 ≤ va ∧ va ≤ 4294967295) (h0 : root ≠ 0) :
    Calls Try.prog 7 #[.agg #[.slice A n c], .int .u32 root, .int .u32 va] w fun e w' => e = .returned (.bool true) ∧ Later w w' := by
  have HV := Lib.hid fun w' => rvalid_any A n c w'
  rw [decide_eq_true h1] at HV
  have HN := Lib.hid fun w' => sanity_any w'
  have HS := Lib.hid fun w' => size_any A n c w' h1.2
  have d0 : (root == 0) = false := by simpa using h0
  have hlw := Tm.list_walk (n := n) hb h0 hv.1
  have hok := Tm.lst_ok (n := n) (b := b) (root := root) hb
  have hasc := Tm.lst_asc (n := n) (b := b) (root := root) hb
  have KT := Lib.hid fun w' hl => tlist_any A n c root b w' (hs.keep hl) hb h1.1 h1.2 hr.1 (by omega)
  obtain ⟨Xw, hX⟩ : ∃ X, Tm.walk n b root va 1 false = X := ⟨_, rfl⟩
  obtain ⟨ca, hca⟩ : ∃ ca, (if Xw.ok then 0 else Tm.cause 1) = ca := ⟨_, rfl⟩
  have KW := Lib.hid fun w' hl => walk_got A n c root va 1 false b w hs hb h1 hr hv Xw hX ca hca w' hl
  rw [hX] at hlw
  obtain ⟨L, hL0⟩ : ∃ L, L = Tm.lst n b root := ⟨_, rfl⟩
  rw [← hL0] at hlw hok hasc KT
  obtain ⟨N, hN⟩ : ∃ N : Int, N = ((n * 128 : Nat) : Int) := ⟨_, rfl⟩
  rw [← hN] at HS
  have hNn : (n : Int) * 128 = N := by omega
  rw [hNn] at hlw
  obtain ⟨xa, hxa⟩ : ∃ x, x = Xw.a := ⟨_, rfl⟩
  obtain ⟨xl, hxl⟩ : ∃ x, x = Xw.l := ⟨_, rfl⟩
  obtain ⟨ns, hns⟩ : ∃ x, x = Xw.s.length := ⟨_, rfl⟩
  obtain ⟨nr, hnr⟩ : ∃ x, x = Xw.r.length := ⟨_, rfl⟩
  rw [← hxa, ← hxl, ← hns, ← hnr] at KW
  rw [← hxa] at hlw
  have hcz : Xw.ok = true → ca = 0 := fun h => by rw [← hca, h]; rfl
  have hcn : Xw.ok = false → (ca != 0) = true := fun h => by rw [← hca, h]; exact cause_nz 1
  have HF := Lib.hid hlw
  have HOK := Lib.hid hok
  have HAS := Lib.hid hasc
  have HCZ := Lib.hid hcz
  have HCN := Lib.hid hcn
  have HVA := Lib.hid hv
  have HL2 : L.length < 9223372036854775808 := by
    have := lst_len n b root
    rw [← hL0] at this
    omega
  clear hX hca hL0 hN hNn hxa hxl hns hnr hlw hok hasc hcz hcn hs hb h1 hr hv h0
  obtain ⟨mm, hmm⟩ : ∃ mm, mm = L.length := ⟨_, rfl⟩
  rw [← hmm] at KT HL2
  have HMM := Lib.hid hmm
  clear hmm
  go_enter Try.func7, Try.ntmps7
  go_wp2_with (first
    | (go_at_call 8; refine (HV.out _).mono ?_; rintro e w1 ⟨rfl, l1⟩; have b3 := (Blk.new w 24 #[.slice A n c] [.slice A n c] rfl).keep l1; have lw := Later.trans_ (later1 w (.cells #[.slice A n c] 24)) l1; have c3 := b3.cell (j := 0) (v := .slice A n c) rfl)
    | (go_at_call 11; (with_reducible refine (KW.out _ lw).mono ?_); rintro e v1 ⟨AS, AR, sc, rc, rfl, _, _, z1⟩; clear c3; replace b3 := b3.keep z1; have hz1 := b3.lt; replace lw := Later.trans_ lw z1; have p1 := Blk.new v1 32 #[.int .i64 xa, .int .i64 xl, .slice AS ns sc, .slice AR nr rc] [.int .i64 xa, .int .i64 xl, .slice AS ns sc, .slice AR nr rc] rfl; have q1 := later1 v1 (.cells #[.int .i64 xa, .int .i64 xl, .slice AS ns sc, .slice AR nr rc] 32); replace b3 := b3.keep q1; replace lw := Later.trans_ lw q1; clear q1; have c3 := b3.cell (j := 0) (v := .slice A n c) rfl)
    | (go_at_call 22; refine (KT.out _ lw).mono ?_; rintro e w5 ⟨AL, kl, rfl, hL, l5⟩; clear c3; replace b3 := b3.keep l5; replace p1 := p1.keep l5; replace lw := Later.trans_ lw l5))
  go_loopw [9, 10, 33] (fun at_ last i wr => ∃ (k : Nat) (la : Int), k ≤ mm ∧ i = .int .i64 k ∧ at_ = .int .i64 (Tm.atL va (L.take k) (-1)) ∧ (last = .int .i64 la ∧ ∀ j, (hj : j < L.length) → k ≤ j → la < (L[j]).1.1) ∧ Blk wr w.heap.size 24 [.slice A n c] ∧ Blk wr v1.heap.size 32 [.int .i64 xa, .int .i64 xl, .slice AS ns sc, .slice AR nr rc] ∧ Sl wr 3 AL mm (Mgs L) ∧ Later w wr) (fun _ _ i _ => mm - (intOf i).toNat)
  case atStart => exact ⟨0, -1, by omega, rfl, rfl, ⟨rfl, fun j hj _ => by have := (HOK.out _ (List.getElem_mem hj)).1; omega⟩, b3, p1, hL, lw⟩
  case round =>
    clear b3 p1 hL lw
    rename_i wr
    obtain ⟨k, la, hk, rfl, rfl, ⟨rfl, hlast⟩, b3, p1, hL, lw⟩ := hrel
    by_cases hlt : k < mm
    · have hkl : k < L.length := by have := HMM.out; omega
      obtain ⟨x0, x1, x2, x3, x4, x5, x6⟩ := HOK.out L[k] (List.getElem_mem hkl)
      obtain ⟨y0, y1⟩ := L[k].2
      have hlk := hlast k hkl (Nat.le_refl _)
      have hTK : L.take (k + 1) = L.take k ++ [L[k]] := List.take_succ_eq_append_getElem hkl
      have hASC : ∀ j, (hj : j < L.length) → k + 1 ≤ j → (L[k]).1.1 < (L[j]).1.1 := fun j hj hkj => List.pairwise_iff_getElem.1 HAS.out k j hkl hj (by omega)
      obtain ⟨ad, rfl, _, hcell⟩ := hL.2 (by omega)
      have hcs : ∀ j v, (mgC L[k])[j]? = some v → wr.cell? ((ad.add (k * 3)).add j) = some v := fun j v hj => by
        have h3 : j < 3 := by
          rcases Nat.lt_or_ge j 3 with h | h
          · exact h
          · rw [List.getElem?_eq_none (show (mgC L[k]).length ≤ j from h)] at hj; cases hj
        rw [addr_add_add]
        exact hcell _ _ (by rw [Mgs_at L k hkl j h3]; exact hj)
      obtain ⟨x, hx⟩ : ∃ x, x = L[k] := ⟨_, rfl⟩
      rw [← hx] at x0 x1 x2 x3 x4 x5 x6 y0 y1 hlk hTK hASC hcs
      have hatx := atL_snoc va (L.take k) x (-1)
      rw [← hTK] at hatx
      obtain ⟨X, hX1⟩ : ∃ X, X = x.1.1 := ⟨_, rfl⟩
      obtain ⟨Pa, hX2⟩ : ∃ X, X = x.1.2.1 := ⟨_, rfl⟩
      obtain ⟨Bt, hX3⟩ : ∃ X, X = x.1.2.2 := ⟨_, rfl⟩
      have hcs2 : ∀ j v, ([.int .u32 X, .int .u32 Pa, .int .i64 Bt] : List Value)[j]? = some v → wr.cell? ((ad.add (k * 3)).add j) = some v := by rw [hX1, hX2, hX3]; exact hcs
      have HC := Lib.hid hcs2
      unfold Tm.szM at x2 x3
      unfold Tm.hit Tm.szM at hatx
      rw [← hX1] at x0 x1 x2 hlk hASC hatx
      rw [← hX2] at x3 y0 y1 hatx
      rw [← hX3] at x2 x3 x4 x5 x6 hatx
      have b64 := bit64 Bt ⟨x5, x6⟩
      have b1 := bit1 Bt ⟨x5, x6⟩ x4
      have HASC := Lib.hid hASC
      have d3 : decide (X ≤ la) = false := decide_eq_false (by omega)
      have wX : IntKind.i64.wrap X = X := by rw [IntKind.wrap_i64]; omega
      have hkn : (k : Int) < mm := by omega
      have hk0 : (0 : Int) ≤ k := by omega
      have hva := HVA.out
      clear hTK hASC hcs hcs2 hX1 hX2 hX3 hx hlast x4 x5 x6 hlk hcell
      cases h64 : Tm.has Bt 64 with
      | true =>
        rw [h64] at x2 x3 hatx b64
        rw [if_pos rfl] at x2 x3 hatx
        have t1 : X.tmod 4096 = 0 := by rw [Int.tmod_eq_emod_of_nonneg x0]; exact x2
        have t2 : Pa.tmod 4096 = 0 := by rw [Int.tmod_eq_emod_of_nonneg y0]; exact x3
        by_cases hle : X ≤ va
        · have d1 : decide (X ≤ va) = true := decide_eq_true hle
          have s0 : IntKind.u32.wrap (va - X) = va - X := by rw [IntKind.wrap_u32]; omega
          have s0b : (va - X) % 4294967296 = va - X := by omega
          by_cases hlt2 : va - X < 4096
          · have d2 : decide (va - X < 4096) = true := decide_eq_true hlt2
            obtain ⟨q, hq⟩ : ∃ q, (Pa + va) % 4294967296 = q := ⟨_, rfl⟩
            have hq2 : IntKind.u32.wrap (Pa + va) = q := by rw [IntKind.wrap_u32]; exact hq
            obtain ⟨rs, hrs⟩ : ∃ rs, rs = Pa + (va - X) := ⟨_, rfl⟩
            have hq3 : (q - X) % 4294967296 = rs := by omega
            have hq4 : IntKind.u32.wrap (q - X) = rs := by rw [IntKind.wrap_u32]; exact hq3
            have hq5 : IntKind.i64.wrap rs = rs := by rw [IntKind.wrap_i64]; omega
            rw [d1, d2, Bool.true_and, if_pos rfl, ← hrs] at hatx
            have HAT := Lib.hid hatx
            clear hatx hrs x0 x1 x2 x3 y0 y1 hva
            have q8 := later1 wr (.cells #[.int .u32 X, .int .u32 Pa, .int .i64 Bt] 65)
            have g0 := Blk.new wr 65 #[.int .u32 X, .int .u32 Pa, .int .i64 Bt] [.int .u32 X, .int .u32 Pa, .int .i64 Bt] rfl
            go_wp2_with ((with_reducible refine wpList_load_addr (o := ⟨some 36, .load 65 (.tmp 35), _, _, _, none⟩) rfl _ _ rfl (ad.add (k * 3)) [.int .u32 X, .int .u32 Pa, .int .i64 Bt] _ ?_ HC.out Try.underlying65 rfl (mg_sz _ _ _) ?_); rfl)
            replace b3 := b3.keep q8
            replace p1 := p1.keep q8
            replace hL := hL.keep q8
            replace lw := Later.trans_ lw q8
            clear q8 g0
            go_roundw
            case rel => exact ⟨k + 1, X, by omega, by first | rfl | go_num, by rw [HAT.out], ⟨rfl, HASC.out⟩, b3, p1, hL, lw⟩
            case measure => simp [intOf]; omega
          · have d2 : decide (va - X < 4096) = false := decide_eq_false hlt2
            rw [d2, Bool.and_false, if_neg Bool.false_ne_true] at hatx
            have HAT := Lib.hid hatx
            clear hatx x0 x1 x2 x3 y0 y1 hva
            have q8 := later1 wr (.cells #[.int .u32 X, .int .u32 Pa, .int .i64 Bt] 65)
            have g0 := Blk.new wr 65 #[.int .u32 X, .int .u32 Pa, .int .i64 Bt] [.int .u32 X, .int .u32 Pa, .int .i64 Bt] rfl
            go_wp2_with ((with_reducible refine wpList_load_addr (o := ⟨some 36, .load 65 (.tmp 35), _, _, _, none⟩) rfl _ _ rfl (ad.add (k * 3)) [.int .u32 X, .int .u32 Pa, .int .i64 Bt] _ ?_ HC.out Try.underlying65 rfl (mg_sz _ _ _) ?_); rfl)
            replace b3 := b3.keep q8
            replace p1 := p1.keep q8
            replace hL := hL.keep q8
            replace lw := Later.trans_ lw q8
            clear q8 g0
            go_roundw
            case rel => exact ⟨k + 1, X, by omega, by first | rfl | go_num, by rw [HAT.out], ⟨rfl, HASC.out⟩, b3, p1, hL, lw⟩
            case measure => simp [intOf]; omega
        · have d1 : decide (X ≤ va) = false := decide_eq_false hle
          rw [d1, Bool.false_and, if_neg Bool.false_ne_true] at hatx
          have HAT := Lib.hid hatx
          clear hatx x0 x1 x2 x3 y0 y1 hva
          have q8 := later1 wr (.cells #[.int .u32 X, .int .u32 Pa, .int .i64 Bt] 65)
          have g0 := Blk.new wr 65 #[.int .u32 X, .int .u32 Pa, .int .i64 Bt] [.int .u32 X, .int .u32 Pa, .int .i64 Bt] rfl
          go_wp2_with ((with_reducible refine wpList_load_addr (o := ⟨some 36, .load 65 (.tmp 35), _, _, _, none⟩) rfl _ _ rfl (ad.add (k * 3)) [.int .u32 X, .int .u32 Pa, .int .i64 Bt] _ ?_ HC.out Try.underlying65 rfl (mg_sz _ _ _) ?_); rfl)
          replace b3 := b3.keep q8
          replace p1 := p1.keep q8
          replace hL := hL.keep q8
          replace lw := Later.trans_ lw q8
          clear q8 g0
          go_roundw
          case rel => exact ⟨k + 1, X, by omega, by first | rfl | go_num, by rw [HAT.out], ⟨rfl, HASC.out⟩, b3, p1, hL, lw⟩
          case measure => simp [intOf]; omega
      | false =>
        rw [h64] at x2 x3 hatx b64
        rw [if_neg Bool.false_ne_true] at x2 x3 hatx
        have t1 : X.tmod 128 = 0 := by rw [Int.tmod_eq_emod_of_nonneg x0]; exact x2
        have t2 : Pa.tmod 128 = 0 := by rw [Int.tmod_eq_emod_of_nonneg y0]; exact x3
        by_cases hle : X ≤ va
        · have d1 : decide (X ≤ va) = true := decide_eq_true hle
          have s0 : IntKind.u32.wrap (va - X) = va - X := by rw [IntKind.wrap_u32]; omega
          have s0b : (va - X) % 4294967296 = va - X := by omega
          by_cases hlt2 : va - X < 128
          · have d2 : decide (va - X < 128) = true := decide_eq_true hlt2
            obtain ⟨q, hq⟩ : ∃ q, (Pa + va) % 4294967296 = q := ⟨_, rfl⟩
            have hq2 : IntKind.u32.wrap (Pa + va) = q := by rw [IntKind.wrap_u32]; exact hq
            obtain ⟨rs, hrs⟩ : ∃ rs, rs = Pa + (va - X) := ⟨_, rfl⟩
            have hq3 : (q - X) % 4294967296 = rs := by omega
            have hq4 : IntKind.u32.wrap (q - X) = rs := by rw [IntKind.wrap_u32]; exact hq3
            have hq5 : IntKind.i64.wrap rs = rs := by rw [IntKind.wrap_i64]; omega
            rw [d1, d2, Bool.true_and, if_pos rfl, ← hrs] at hatx
            have HAT := Lib.hid hatx
            clear hatx hrs x0 x1 x2 x3 y0 y1 hva
            have q8 := later1 wr (.cells #[.int .u32 X, .int .u32 Pa, .int .i64 Bt] 65)
            have g0 := Blk.new wr 65 #[.int .u32 X, .int .u32 Pa, .int .i64 Bt] [.int .u32 X, .int .u32 Pa, .int .i64 Bt] rfl
            go_wp2_with ((with_reducible refine wpList_load_addr (o := ⟨some 36, .load 65 (.tmp 35), _, _, _, none⟩) rfl _ _ rfl (ad.add (k * 3)) [.int .u32 X, .int .u32 Pa, .int .i64 Bt] _ ?_ HC.out Try.underlying65 rfl (mg_sz _ _ _) ?_); rfl)
            replace b3 := b3.keep q8
            replace p1 := p1.keep q8
            replace hL := hL.keep q8
            replace lw := Later.trans_ lw q8
            clear q8 g0
            go_roundw
            case rel => exact ⟨k + 1, X, by omega, by first | rfl | go_num, by rw [HAT.out], ⟨rfl, HASC.out⟩, b3, p1, hL, lw⟩
            case measure => simp [intOf]; omega
          · have d2 : decide (va - X < 128) = false := decide_eq_false hlt2
            rw [d2, Bool.and_false, if_neg Bool.false_ne_true] at hatx
            have HAT := Lib.hid hatx
            clear hatx x0 x1 x2 x3 y0 y1 hva
            have q8 := later1 wr (.cells #[.int .u32 X, .int .u32 Pa, .int .i64 Bt] 65)
            have g0 := Blk.new wr 65 #[.int .u32 X, .int .u32 Pa, .int .i64 Bt] [.int .u32 X, .int .u32 Pa, .int .i64 Bt] rfl
            go_wp2_with ((with_reducible refine wpList_load_addr (o := ⟨some 36, .load 65 (.tmp 35), _, _, _, none⟩) rfl _ _ rfl (ad.add (k * 3)) [.int .u32 X, .int .u32 Pa, .int .i64 Bt] _ ?_ HC.out Try.underlying65 rfl (mg_sz _ _ _) ?_); rfl)
            replace b3 := b3.keep q8
            replace p1 := p1.keep q8
            replace hL := hL.keep q8
            replace lw := Later.trans_ lw q8
            clear q8 g0
            go_roundw
            case rel => exact ⟨k + 1, X, by omega, by first | rfl | go_num, by rw [HAT.out], ⟨rfl, HASC.out⟩, b3, p1, hL, lw⟩
            case measure => simp [intOf]; omega
        · have d1 : decide (X ≤ va) = false := decide_eq_false hle
          rw [d1, Bool.false_and, if_neg Bool.false_ne_true] at hatx
          have HAT := Lib.hid hatx
          clear hatx x0 x1 x2 x3 y0 y1 hva
          have q8 := later1 wr (.cells #[.int .u32 X, .int .u32 Pa, .int .i64 Bt] 65)
          have g0 := Blk.new wr 65 #[.int .u32 X, .int .u32 Pa, .int .i64 Bt] [.int .u32 X, .int .u32 Pa, .int .i64 Bt] rfl
          go_wp2_with ((with_reducible refine wpList_load_addr (o := ⟨some 36, .load 65 (.tmp 35), _, _, _, none⟩) rfl _ _ rfl (ad.add (k * 3)) [.int .u32 X, .int .u32 Pa, .int .i64 Bt] _ ?_ HC.out Try.underlying65 rfl (mg_sz _ _ _) ?_); rfl)
          replace b3 := b3.keep q8
          replace p1 := p1.keep q8
          replace hL := hL.keep q8
          replace lw := Later.trans_ lw q8
          clear q8 g0
          go_roundw
          case rel => exact ⟨k + 1, X, by omega, by first | rfl | go_num, by rw [HAT.out], ⟨rfl, HASC.out⟩, b3, p1, hL, lw⟩
          case measure => simp [intOf]; omega
    · obtain rfl : k = mm := by omega
      have hall : L.take k = L := by rw [List.take_of_length_le (by have := HMM.out; omega)]
      rw [hall]
      have c3 := b3.cell (j := 0) (v := .slice A n c) rfl
      have hF := HF.out
      obtain ⟨at0, hat0⟩ : ∃ a, a = Tm.atL va L (-1) := ⟨_, rfl⟩
      rw [← hat0] at hF ⊢
      clear hat0 hall hlast hlt hk
      have nlt : ¬ ((k : Int) < (k : Int)) := by omega
      rcases hF with ⟨f1, f2, f3, f4⟩ | ⟨f1, f2⟩
      · obtain rfl := HCZ.out f1
        obtain rfl := f2
        have d8 : decide (N ≤ at0) = false := decide_eq_false (by omega)
        have d9 : decide (0 ≤ at0) = true := decide_eq_true f3
        clear f1
        go_wp2_with (first
          | (go_at_call 24; refine (HS.out _).mono ?_; rintro e w6 ⟨rfl, l6⟩; replace p1 := p1.keep l6; replace lw := Later.trans_ lw l6)
          | (go_at_call 10; refine (HN.out _).mono ?_; rintro e w7 ⟨rfl, l7⟩; replace p1 := p1.keep l7; replace lw := Later.trans_ lw l7; have f0 := p1.cell (j := 0) (v := _) rfl))
        go_ret
        exact ⟨rfl, lw⟩
      · have hcn := HCN.out f1
        have hcz : (ca == 0) = false := by simpa using hcn
        by_cases h8 : N ≤ at0
        · have d8 : decide (N ≤ at0) = true := decide_eq_true h8
          clear f1 f2
          go_wp2_with (first
            | (go_at_call 24; refine (HS.out _).mono ?_; rintro e w6 ⟨rfl, l6⟩; replace p1 := p1.keep l6; replace lw := Later.trans_ lw l6)
            | (go_at_call 10; refine (HN.out _).mono ?_; rintro e w7 ⟨rfl, l7⟩; replace p1 := p1.keep l7; replace lw := Later.trans_ lw l7; have f0 := p1.cell (j := 0) (v := _) rfl))
          go_ret
          exact ⟨rfl, lw⟩
        · obtain rfl : at0 = -1 := by rcases f2 with h | h; exact h; exact absurd h h8
          have d8 : decide (N ≤ -1) = false := decide_eq_false h8
          clear f1 f2
          go_wp2_with (first
            | (go_at_call 24; refine (HS.out _).mono ?_; rintro e w6 ⟨rfl, l6⟩; replace p1 := p1.keep l6; replace lw := Later.trans_ lw l6)
            | (go_at_call 10; refine (HN.out _).mono ?_; rintro e w7 ⟨rfl, l7⟩; replace p1 := p1.keep l7; replace lw := Later.trans_ lw l7; have f0 := p1.cell (j := 0) (v := _) rfl))
          go_ret
          exact ⟨rfl, lw⟩
theorem list_all (A : Option Addr) (n c : Nat) (root va : Int) (b : Wm.Bs) (w : World) (hs : Sl w 128 A n (U b)) (hb : Wm.isBs b) (hr : 0 ≤ root ∧ root ≤ 4294967295) (hv : 0 ≤ va ∧ va ≤ 4294967295) :
    Calls Try.prog 7 #[.agg #[.slice A n c], .int .u32 root, .int .u32 va] w fun e w' => e = .returned (.bool true) ∧ Later w w' := by
  by_cases h1 : 1 ≤ n ∧ n ≤ 64
  · by_cases h0 : root = 0
    · subst h0
      exact list_bad2 A n c va w h1
    · exact list_yes A n c root va b w hs hb h1 hr hv h0
  · exact list_bad1 A n c root va w h1

set_option maxRecDepth 100000 in
theorem tableListIsTranslation_lifted (os : Os) (started : os.Started) (H : Type) (enc : TypeId × Value → H) :
    ReturnsInHanded {} Try.checked os 7 .any (Rows.tableListIsTranslationSpec.pre6 enc Try.prog Try.f7 Rows.tableListIsTranslationRow.domain false) (Rows.tableListIsTranslationSpec.post enc Try.prog Try.f7 false true false false) := by
  refine returnsInHanded_of_change (C := Try.checked) ownK started (by kernel_rfl) Try.func7
    (ChangeSpec.witness6 (enc := enc) (C := Try.checked) false ⟨#[], #[.agg #[.slice none 0 0], .int .u32 0, .int .u32 0], []⟩ 8 (by kernel_rfl) (by kernel_rfl) (by kernel_rfl) (by kernel_rfl)) ?_
  intro W base args ds gs before hval0 hW hcnd _
  have hval : ∀ (j : Nat) t v, Try.f7.params[j]? = some t → args[j]? = some v → Value.okWide Try.prog W .any base t v := hval0
  have hW' := hW
  obtain ⟨p, q, hA0, hV, rfl, hfz, hnd⟩ := hW
  have hA : DataW.TrodAll enc Try.prog W 0 (fun _ => true) true Try.f7.params.toList args.toList ds p := hA0
  rw [Try.params7] at hA hval
  obtain ⟨v0, vs0, d0, ds0, p0, q0, hargs, rfl, rfl, h0, r0⟩ := trodAll_cons hA
  obtain ⟨v1, vs1, d1, ds1, p1, q1, rfl, rfl, rfl, h1, r1⟩ := trodAll_cons r0
  obtain ⟨v2, vs2, d2, ds2, p2, q2, rfl, rfl, rfl, h2, r2⟩ := trodAll_cons r1
  obtain ⟨rfl, rfl, rfl⟩ := trodAll_nil r2
  obtain rfl : args = #[v0, v1, v2] := by cases args; simp_all
  obtain ⟨rfl, rfl⟩ := trodVars_none hV
  obtain ⟨A0, n0, c0, b0, rfl, x0, y0, s0, z0⟩ := mem_arg (K := 128) (by omega) Try.underlying24 rfl Try.underlying22 Try.underlying120 Try.underlying5 (by kernel_rfl) (by kernel_rfl) (by kernel_rfl) (by kernel_rfl) (hval 0 24 v0 rfl rfl) h0
  obtain ⟨a1, rfl, z1⟩ := u32_arg Try.underlying25 (hval 1 25 v1 rfl rfl) h1
  obtain ⟨a2, rfl, z2⟩ := u32_arg Try.underlying25 (hval 2 25 v2 rfl rfl) h2
  clear hA0 hval0
  simp only [List.append_nil] at hW'
  refine (list_all A0 n0 c0 a1 a2 b0 W s0 z0 z1 z2).mono fun e W' ⟨he, hw⟩ => ?_
  subst he
  exact ⟨_, rfl, law_post laidK rfl (by kernel_rfl) (by kernel_rfl) Try.underlying4 (by kernel_rfl) hW' rfl hw⟩
set_option maxRecDepth 100000 in
/-- The statement. -/
theorem tableListIsTranslation_said : Rows.TableListIsTranslationSaid :=
  OpenClaim.holds_of_wide 7 Try.f7 rfl rfl rfl rfl rfl rfl rfl ⟨rfl, rfl, rfl, rfl, rfl⟩ rfl rfl rfl rfl rfl (by kernel_rfl) Try.func7 (by kernel_rfl)
    (of_decide_eq_true (by kernel_rfl)) (by unfold Func.isWrapper; first | (rw [if_pos (by decide +kernel)]; kernel_rfl) | (rw [if_neg (by decide +kernel)]; exact ⟨rfl, rfl⟩))
    (fun os started H enc _ => tableListIsTranslation_lifted os started H enc)
#print axioms tableListIsTranslation_said
end Go.Proofs.Ytiaejldknbicdaa
