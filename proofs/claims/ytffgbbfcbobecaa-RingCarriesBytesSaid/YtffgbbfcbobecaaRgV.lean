/-
  A RING: the statements' small functions: describe, status, state, there.
-/
import Derived.Test.YtffgbbfcbobecaaRgS
import Derived.Test.YtffgbbfcbobecaaRgU
namespace Go.Proofs.Ytffgbbfcbobecaa
open Go.RowKit Go.ChangeShapes Go.WideShapes Go.ChangeAt

/-- A memory with a descriptor: some words of it laid. -/
def dsF (b : Wm.Bs) (B i : Int) (ws : List Int) : Nat → Wm.Bs
  | 0 => b
  | k + 1 => Mm.st (dsF b B i ws k) (B + 16 * i + 4 * (k : Int)) 4 (ws.getD k 0)
theorem dsF_bs {b : Wm.Bs} (hb : Wm.isBs b) (B i : Int) (ws : List Int) : ∀ k, Wm.isBs (dsF b B i ws k)
  | 0 => hb
  | k + 1 => Mm.st_bs (dsF_bs hb B i ws k) _ _ _
theorem dsF_len (b : Wm.Bs) (B i : Int) (ws : List Int) : ∀ k, (dsF b B i ws k).length = b.length
  | 0 => rfl
  | k + 1 => (Mm.st_len _ _ _ _).trans (dsF_len b B i ws k)
def N32 (l : List Int) : List Value := l.map (Value.int .u32)
/-- What a function answers for a memory. -/
def GotV (n : Nat) (X : Wm.Bs) (w : World) (e : Ending) (w' : World) : Prop := ∃ A1 c1, e = .returned (.agg #[.slice A1 n c1]) ∧ n ≤ c1 ∧ c1 ≤ maxLen ∧ Sl w' 128 A1 n (U X) ∧ Later w w'
set_option maxRecDepth 100000 in
set_option maxHeartbeats 4000000 in
theorem describe_any (A : Option Addr) (n c : Nat) (b : Wm.Bs) (B S i : Int) (AW : Option Addr) (cw : Nat) (ws : List Int) (m : Nat) (w : World) (hs : Sl w 128 A n (U b)) (hb : Wm.isBs b) (hn1 : 1 ≤ n) (hn : n ≤ 64) (hnc : n ≤ c) (hc : c ≤ maxLen) (hB : 0 ≤ B) (hB2 : B ≤ 100000) (i0 : 0 ≤ i) (i1 : i ≤ 100) (hw : Sl w 1 AW m (N32 ws)) (hm : ws.length = m) (hm4 : m ≤ 4) (hws : ∀ x ∈ ws, Tm.isE x) :
    Calls Try.prog 36 #[.agg #[.slice A n c], .agg #[.int .u32 B, .int .u32 S], .int .i64 i, .slice AW m cw] w (GotV n (dsF b B i ws m) w) := by
  have HL := Lib.hid hm
  have HE := Lib.hid hws
  have HSB := Lib.hid fun k => dsF_bs hb B i ws k
  have KS0 := Lib.hid fun (x : Wm.Bs) (hx : Wm.isBs x) (A1 : Option Addr) (c1 : Nat) (a v : Int) (hv : isW (a, 4, v)) w' (h : Sl w' 128 A1 n (U x)) => (show Calls Try.prog 59 #[.agg #[.slice A1 n c1], .agg (Wc (a, 4, v)).toArray] w' (GotMB n (Mm.st x a 4 v) (decide (Mm.There (n * 128) a 4)) w') from pstore_any A1 n c1 a 4 v x w' h hx hn1 hn hv)
  have HAL := Lib.hid (show 0 < m → ∀ ad, AW = some ad → ad.block < w.heap.size from fun hm ad e => by obtain ⟨_, e', h, _⟩ := hw.2 hm; rw [e'] at e; cases e; exact h)
  clear hm hws hb
  have b4 : Blk _ w.heap.size 24 ([.slice A n c]) := (((Blk.new' w w.heap.size 24 ([.slice A n c]).toArray ([.slice A n c]) (by simp) rfl).alloc (.cells ([.int .u32 B, .int .u32 S]).toArray 27)).alloc (.cells ([.slice none 0 0]).toArray 24))
  have b5 : Blk _ (w.heap.size + 1) 27 ([.int .u32 B, .int .u32 S]) := ((Blk.new' (w.alloc (.cells ([.slice A n c]).toArray 24)) (w.heap.size + 1) 27 ([.int .u32 B, .int .u32 S]).toArray ([.int .u32 B, .int .u32 S]) (by simp) rfl).alloc (.cells ([.slice none 0 0]).toArray 24))
  have b8 : Blk _ (w.heap.size + 1 + 1) 24 ([.slice none 0 0]) := (Blk.new' ((w.alloc (.cells ([.slice A n c]).toArray 24)).alloc (.cells ([.int .u32 B, .int .u32 S]).toArray 27)) (w.heap.size + 1 + 1) 24 ([.slice none 0 0]).toArray ([.slice none 0 0]) (by simp) rfl)
  have lw := (((later1 w (.cells ([.slice A n c]).toArray 24)).alloc (by simp; try omega) (.cells ([.int .u32 B, .int .u32 S]).toArray 27)).alloc (by simp; try omega) (.cells ([.slice none 0 0]).toArray 24))
  obtain ⟨u0, hu⟩ : ∃ u, (((w.alloc (.cells ([.slice A n c]).toArray 24)).alloc (.cells ([.int .u32 B, .int .u32 S]).toArray 27)).alloc (.cells ([.slice none 0 0]).toArray 24)) = u := ⟨_, rfl⟩
  rw [hu] at b4 b5 b8 lw
  replace hs := hs.keep lw
  replace hw := hw.keep lw
  go_enter Try.func36, Try.ntmps36
  go_upto_region 1 with fail
  have hu2 : (((w.alloc (.cells #[.slice A n c] 24)).alloc (.cells #[.int .u32 B, .int .u32 S] 27)).alloc (.cells #[.slice none 0 0] 24)) = u0 := hu
  try rw [hu2]
  clear hu hu2
  go_wp2
  go_loopw [13] (fun v wr => ∃ (k : Nat) (A1 : Option Addr) (c1 : Nat), k ≤ m ∧ v = .int .i64 (k : Int) ∧ Sl wr 128 A1 n (U (dsF b B i ws k)) ∧ Hid (n ≤ c1 ∧ c1 ≤ maxLen) ∧ Blk wr w.heap.size 24 [.slice A1 n c1] ∧ Blk wr (w.heap.size + 1) 27 [.int .u32 B, .int .u32 S] ∧ Blk wr (w.heap.size + 1 + 1) 24 [.slice none 0 0] ∧ Sl wr 1 AW m (N32 ws) ∧ Later w wr) (fun v _ => m - (intOf v).toNat)
  case atStart => exact ⟨0, A, c, Nat.zero_le _, rfl, hs, Lib.hid ⟨hnc, hc⟩, b4, b5, b8, hw, lw⟩
  case round =>
    clear hs hw b4 b5 b8 lw
    rename_i wr
    obtain ⟨k, A1, c1, hk, rfl, sl1, HN, b4, b5, b8, hw, lr⟩ := hrel
    by_cases hlt : k < m
    · have hkl : k < ws.length := by rw [HL.out]; exact hlt
      obtain ⟨ad, hA⟩ := hw.addr (by omega)
      subst hA
      have hadb := HAL.out (by omega) ad rfl
      have hxb := HSB.out k
      have hvv := HE.out _ (List.getElem_mem hkl)
      have KS := Lib.hid (KS0.out _ hxb A1 c1 (B + 16 * i + 4 * (k : Int)) ws[k] ⟨⟨show -9223372036854775808 ≤ B + 16 * i + 4 * (k : Int) by omega, show B + 16 * i + 4 * (k : Int) ≤ 9223372036854775807 by omega⟩, ⟨show -9223372036854775808 ≤ (4 : Int) by omega, show (4 : Int) ≤ 9223372036854775807 by omega⟩, hvv.1, hvv.2⟩)
      have HX := Lib.hid (show Mm.st (dsF b B i ws k) (B + 16 * i + 4 * (k : Int)) 4 ws[k] = dsF b B i ws (k + 1) from by
        show _ = Mm.st (dsF b B i ws k) (B + 16 * i + 4 * (k : Int)) 4 (ws.getD k 0)
        rw [List.getD_eq_getElem?_getD, List.getElem?_eq_getElem hkl]; rfl)
      rw [HX.out] at KS
      have ew : wr.cell? (ad.add k) = some (.int .u32 ws[k]) := by
        obtain ⟨_, e1, _, hcc⟩ := hw.2 (by omega)
        cases e1
        exact hcc k _ (by unfold N32; rw [List.getElem?_map, List.getElem?_eq_getElem hkl]; rfl)
      obtain ⟨v, hv⟩ : ∃ v, v = ws[k] := ⟨_, rfl⟩
      obtain ⟨x1, hx1⟩ : ∃ x, x = dsF b B i ws (k + 1) := ⟨_, rfl⟩
      rw [← hv] at ew
      rw [← hv, ← hx1] at KS
      have HX1 := Lib.hid hx1
      obtain ⟨qb, hqb⟩ : ∃ qb, qb = decide (Mm.There (n * 128) (B + 16 * i + 4 * (k : Int)) 4) := ⟨_, rfl⟩
      rw [← hqb] at KS
      have kn : (k : Int) < (m : Int) := by omega
      have kn2 : (k : Int) ≤ 4 := by omega
      have e0 := b5.cell (j := 0) (v := .int .u32 B) rfl
      clear hv hx1 hvv hxb HX hqb
      go_wp2_with (first
    | ((with_reducible refine wpList_load_blk (o := ⟨some 19, .load 24 (.tmp 4), _, _, _, none⟩) rfl _ _ rfl w.heap.size 24 ([.slice A1 n c1]) _ ?_ ?_ Try.underlying24 rfl memS ?_); rfl; exact b4)
    | ((with_reducible refine wpList_bld (o := ⟨some 30, .build 85 #[(0, .tmp 28), (1, .const (.int .i64 4)), (2, .tmp 29)], _, _, _, none⟩) rfl _ #[(0, .tmp 28), (1, .const (.int .i64 4)), (2, .tmp 29)] #[(0, .int .i64 (B + 16 * i + 4 * (k : Int))), (1, .int .i64 4), (2, .int .u32 v)] (Wc (B + 16 * i + 4 * (k : Int), 4, v)).toArray rfl ?_ (run_wt _ _ _) ?_); rfl)
    | (go_at_call 59; (with_reducible refine (KS.out _ sl1).mono ?_); rintro e w1 ⟨g, c2, rfl, g1, g2, g3, dx, l1⟩; clear e0 ew; have hgu := Nat.lt_of_lt_of_le b8.lt g1; replace b4 := b4.keep l1; replace b5 := b5.keep l1; replace b8 := b8.keep l1; replace hw := hw.keep l1; replace lr := Later.trans_ lr l1)
    | ((with_reducible refine wpList_store_abs (o := ⟨none, .store 24 (.tmp 4) (.tmp 32), _, _, _, none⟩) rfl _ _ _ rfl w.heap.size 24 ([.slice A1 n c1]) ([.slice (some ⟨g, 0, none⟩) n c2]) ?_ ?_ ?_ ?_ ?_ ?_ ?_); rfl; rfl; exact b4; exact memS; rfl; exact (one1 rfl); intro w9 b9 o9; replace b5 := b5.only o9 (by omega); replace b8 := b8.only o9 (by omega); replace dx := dx.only o9 (by omega); replace hw := hw.only_ne o9 (fun ad' e => (by cases e; exact Nat.ne_of_lt hadb)); replace lr := Below.only lr o9 (by omega)))
      go_roundw
      case rel => exact ⟨k + 1, some ⟨g, 0, none⟩, c2, by omega, by go_num, by rw [← HX1.out]; exact dx.sl, Lib.hid ⟨g2, g3⟩, b9, b5, b8, hw, lr⟩
      case measure => simp [intOf]; omega
    · obtain rfl : k = m := by omega
      have nlt : ¬ ((k : Int) < (k : Int)) := by omega
      have hne : ∀ ad, A1 = some ad → ad.block ≠ (w.heap.size + 1 + 1) := fun ad e => by subst e; exact sl_box sl1 hn1 b8
      go_wp2_with (first
    | ((with_reducible refine wpList_load_blk (o := ⟨some 35, .load 24 (.tmp 4), _, _, _, none⟩) rfl _ _ rfl w.heap.size 24 ([.slice A1 n c1]) _ ?_ ?_ Try.underlying24 rfl memS ?_); rfl; exact b4)
    | ((with_reducible refine wpList_store_abs (o := ⟨none, .store 24 (.tmp 8) (.tmp 35), _, _, _, none⟩) rfl _ _ _ rfl (w.heap.size + 1 + 1) 24 ([.slice none 0 0]) ([.slice A1 n c1]) ?_ ?_ ?_ ?_ ?_ ?_ ?_); rfl; rfl; exact b8; exact memS; rfl; exact (one1 rfl); intro w9 b9 o9))
      exact bodyPost_ret (results_blk Try.results36 _ _ (w.heap.size + 1 + 1) 24 _ _ rfl b9 Try.underlying24 rfl memS) rfl ⟨A1, c1, rfl, HN.out.1, HN.out.2, sl1.only_ne o9 hne, Below.only lr o9 (by omega)⟩
set_option maxRecDepth 100000 in
set_option maxHeartbeats 1000000 in
theorem lstatus_any (A : Option Addr) (n c : Nat) (b : Wm.Bs) (B S i : Int) (w : World) (hs : Sl w 128 A n (U b)) (hb : Wm.isBs b) (hn1 : 1 ≤ n) (hn : n ≤ 64) (hok : Rg.Ok (n * 128) B S) (i0 : 0 ≤ i) (i1 : i < S) :
    Calls Try.prog 32 #[.agg #[.slice A n c], .agg #[.int .u32 B, .int .u32 S], .int .i64 i] w fun e w' => e = .returned (.int .u32 (Rg.wd b B i 3)) ∧ Later w w' := by
  have hB := hok.2.2.1
  have hB2 := hok.2.2.2
  obtain ⟨hS, hS2⟩ := hok.s
  have KL := Lib.hid fun w' (l : Later w w') => load_any A n c (B + 16 * i + 12) 4 b w' (hs.keep l) hb hn1 hn ⟨by omega, by omega⟩
  rw [show Mm.ld b (B + 16 * i + 12) 4 = Rg.wd b B i 3 from by simp [Rg.wd]] at KL
  obtain ⟨x, hx⟩ : ∃ x, x = Rg.wd b B i 3 := ⟨_, rfl⟩
  obtain ⟨q, hq⟩ : ∃ q, q = decide (Mm.There (n * 128) (B + 16 * i + 12) 4) := ⟨_, rfl⟩
  rw [← hx, ← hq] at KL
  rw [← hx]
  clear hx hq hs hb hok
  have b3 : Blk _ w.heap.size 24 ([.slice A n c]) := ((Blk.new' w w.heap.size 24 ([.slice A n c]).toArray ([.slice A n c]) (by simp) rfl).alloc (.cells ([.int .u32 B, .int .u32 S]).toArray 27))
  have b4 : Blk _ (w.heap.size + 1) 27 ([.int .u32 B, .int .u32 S]) := (Blk.new' (w.alloc (.cells ([.slice A n c]).toArray 24)) (w.heap.size + 1) 27 ([.int .u32 B, .int .u32 S]).toArray ([.int .u32 B, .int .u32 S]) (by simp) rfl)
  have lw := ((later1 w (.cells ([.slice A n c]).toArray 24)).alloc (by simp; try omega) (.cells ([.int .u32 B, .int .u32 S]).toArray 27))
  obtain ⟨u0, hu⟩ : ∃ u, ((w.alloc (.cells ([.slice A n c]).toArray 24)).alloc (.cells ([.int .u32 B, .int .u32 S]).toArray 27)) = u := ⟨_, rfl⟩
  rw [hu] at b3 b4 lw
  go_enter Try.func32, Try.ntmps32
  go_upto_region 1 with fail
  have hu2 : ((w.alloc (.cells #[.slice A n c] 24)).alloc (.cells #[.int .u32 B, .int .u32 S] 27)) = u0 := hu
  try rw [hu2]
  clear hu hu2
  have e0 := b4.cell (j := 0) (v := .int .u32 B) rfl
  go_wp2_with (first
    | ((with_reducible refine wpList_load_blk (o := ⟨some 10, .load 24 (.tmp 3), _, _, _, none⟩) rfl _ _ rfl w.heap.size 24 ([.slice A n c]) _ ?_ ?_ Try.underlying24 rfl memS ?_); rfl; exact b3)
    | (go_at_call 57; (with_reducible refine (KL.out _ lw).mono ?_); rintro e w1 ⟨rfl, l1⟩; clear e0; replace lw := Later.trans_ lw l1))
  go_ret
  exact ⟨rfl, lw⟩
/-- The place of a status. -/
def stP (B i : Int) : Rg.Pt := (0, B + 16 * i + 12, 4, false)
theorem run_st (a : Int) (w : World) : (Instr.build 59 #[(1, .int .i64 a), (2, .int .i64 4)]).run Try.prog w = .ok (.agg (Pc (0, a, 4, false)).toArray) w := run_build' w _ _ _ (by kernel_rfl)
set_option maxRecDepth 100000 in
set_option maxHeartbeats 1000000 in
theorem state_any (B S i : Int) (w : World) (h0 : 0 ≤ B) (h1 : B < 4294967296) (i0 : 0 ≤ i) (i1 : i ≤ 1000000) :
    Calls Try.prog 31 #[.agg #[.int .u32 B, .int .u32 S], .int .i64 i] w fun e w' => e = .returned (.agg (Pc (stP B i)).toArray) ∧ Later w w' := by
  have b2 : Blk _ w.heap.size 27 ([.int .u32 B, .int .u32 S]) := ((Blk.new' w w.heap.size 27 ([.int .u32 B, .int .u32 S]).toArray ([.int .u32 B, .int .u32 S]) (by simp) rfl).alloc (.cells ([.int .i64 0, .int .i64 0, .int .i64 0, .bool false]).toArray 59))
  have b4 : Blk _ (w.heap.size + 1) 59 ([.int .i64 0, .int .i64 0, .int .i64 0, .bool false]) := (Blk.new' (w.alloc (.cells ([.int .u32 B, .int .u32 S]).toArray 27)) (w.heap.size + 1) 59 ([.int .i64 0, .int .i64 0, .int .i64 0, .bool false]).toArray ([.int .i64 0, .int .i64 0, .int .i64 0, .bool false]) (by simp) rfl)
  have lw := ((later1 w (.cells ([.int .u32 B, .int .u32 S]).toArray 27)).alloc (by simp; try omega) (.cells ([.int .i64 0, .int .i64 0, .int .i64 0, .bool false]).toArray 59))
  obtain ⟨u0, hu⟩ : ∃ u, ((w.alloc (.cells ([.int .u32 B, .int .u32 S]).toArray 27)).alloc (.cells ([.int .i64 0, .int .i64 0, .int .i64 0, .bool false]).toArray 59)) = u := ⟨_, rfl⟩
  rw [hu] at b2 b4 lw
  go_enter Try.func31, Try.ntmps31
  go_upto_region 1 with fail
  have hu2 : ((w.alloc (.cells #[.int .u32 B, .int .u32 S] 27)).alloc (.cells #[.int .i64 0, .int .i64 0, .int .i64 0, .bool false] 59)) = u0 := hu
  try rw [hu2]
  clear hu hu2
  have e0 := b2.cell (j := 0) (v := .int .u32 B) rfl
  go_wp2_with (first
    | ((with_reducible refine wpList_bld (o := ⟨some 12, .build 59 #[(1, .tmp 11), (2, .const (.int .i64 4))], _, _, _, none⟩) rfl _ #[(1, .tmp 11), (2, .const (.int .i64 4))] #[(1, .int .i64 (B + 16 * i + 12)), (2, .int .i64 4)] (Pc (stP B i)).toArray rfl ?_ (run_st _ _) ?_); rfl)
    | ((with_reducible refine wpList_store_abs (o := ⟨none, .store 59 (.tmp 4) (.tmp 12), _, _, _, none⟩) rfl _ _ _ rfl (w.heap.size + 1) 59 ([.int .i64 0, .int .i64 0, .int .i64 0, .bool false]) (Pc (stP B i)) ?_ ?_ ?_ ?_ ?_ ?_ ?_); rfl; rfl; exact b4; exact (pt_sz _); rfl; exact (pt_one _); intro w9 b9 o9))
  exact bodyPost_ret (results_blk Try.results31 _ _ (w.heap.size + 1) 59 _ _ rfl b9 Try.underlying59 rfl (pt_sz _)) rfl ⟨rfl, Below.only lw o9 (by omega)⟩
set_option maxRecDepth 100000 in
set_option maxHeartbeats 1000000 in
theorem lthere_any (A : Option Addr) (n c : Nat) (B S : Int) (w : World) (hB : Tm.isE B) (hS : Tm.isE S) :
    Calls Try.prog 13 #[.agg #[.slice A n c], .agg #[.int .u32 B, .int .u32 S]] w fun e w' => e = .returned (.bool (decide (1 ≤ n ∧ n ≤ 64) && decide (Rg.Ok (n * 128) B S))) ∧ Later w w' := by
  have KV := Lib.hid fun w' => rvalid_any A n c w'
  have b2 : Blk _ w.heap.size 24 ([.slice A n c]) := ((Blk.new' w w.heap.size 24 ([.slice A n c]).toArray ([.slice A n c]) (by simp) rfl).alloc (.cells ([.int .u32 B, .int .u32 S]).toArray 27))
  have b3 : Blk _ (w.heap.size + 1) 27 ([.int .u32 B, .int .u32 S]) := (Blk.new' (w.alloc (.cells ([.slice A n c]).toArray 24)) (w.heap.size + 1) 27 ([.int .u32 B, .int .u32 S]).toArray ([.int .u32 B, .int .u32 S]) (by simp) rfl)
  have lw := ((later1 w (.cells ([.slice A n c]).toArray 24)).alloc (by simp; try omega) (.cells ([.int .u32 B, .int .u32 S]).toArray 27))
  obtain ⟨u0, hu⟩ : ∃ u, ((w.alloc (.cells ([.slice A n c]).toArray 24)).alloc (.cells ([.int .u32 B, .int .u32 S]).toArray 27)) = u := ⟨_, rfl⟩
  rw [hu] at b2 b3 lw
  by_cases h1 : 1 ≤ n ∧ n ≤ 64
  · rw [decide_eq_true h1] at KV ⊢
    have KC := Lib.hid fun w' => rcheck_any A n c B S w' h1.2 hB hS
    unfold chk at KC
    by_cases h2 : Rg.Ok (n * 128) B S
    · rw [if_pos h2] at KC
      rw [decide_eq_true h2]
      clear h1 h2 hB hS
      go_enter Try.func13, Try.ntmps13
      go_upto_region 1 with fail
      have hu2 : ((w.alloc (.cells #[.slice A n c] 24)).alloc (.cells #[.int .u32 B, .int .u32 S] 27)) = u0 := hu
      try rw [hu2]
      clear hu hu2
      go_wp2_with (first
        | ((with_reducible refine wpList_load_blk (o := ⟨some 5, .load 24 (.tmp 2), _, _, _, none⟩) rfl _ _ rfl w.heap.size 24 ([.slice A n c]) _ ?_ ?_ Try.underlying24 rfl memS ?_); rfl; exact b2)
        | ((with_reducible refine wpList_load_g (o := ⟨some 8, .load 24 (.tmp 2), _, _, _, _⟩) _ _ rfl w.heap.size 24 ([.slice A n c]) _ ?_ ?_ ?_ Try.underlying24 ?_ memS ?_); rfl; rfl; exact b2; rfl)
        | ((with_reducible refine wpList_load_g (o := ⟨some 9, .load 27 (.tmp 3), _, _, _, _⟩) _ _ rfl (w.heap.size + 1) 27 ([.int .u32 B, .int .u32 S]) _ ?_ ?_ ?_ Try.underlying27 ?_ ring_sz ?_); rfl; rfl; exact b3; rfl)
        | (go_at_call 9; (with_reducible refine (KV.out _).mono ?_); rintro e w1 ⟨rfl, l1⟩; replace b2 := b2.keep l1; replace b3 := b3.keep l1; replace lw := Later.trans_ lw l1)
        | (go_at_call 12; (with_reducible refine (KC.out _).mono ?_); rintro e w2 ⟨rfl, l2⟩; replace lw := Later.trans_ lw l2))
      go_ret
      exact ⟨rfl, lw⟩
    · rw [if_neg h2] at KC
      rw [decide_eq_false h2]
      clear h1 h2 hB hS
      go_enter Try.func13, Try.ntmps13
      go_upto_region 1 with fail
      have hu2 : ((w.alloc (.cells #[.slice A n c] 24)).alloc (.cells #[.int .u32 B, .int .u32 S] 27)) = u0 := hu
      try rw [hu2]
      clear hu hu2
      go_wp2_with (first
        | ((with_reducible refine wpList_load_blk (o := ⟨some 5, .load 24 (.tmp 2), _, _, _, none⟩) rfl _ _ rfl w.heap.size 24 ([.slice A n c]) _ ?_ ?_ Try.underlying24 rfl memS ?_); rfl; exact b2)
        | ((with_reducible refine wpList_load_g (o := ⟨some 8, .load 24 (.tmp 2), _, _, _, _⟩) _ _ rfl w.heap.size 24 ([.slice A n c]) _ ?_ ?_ ?_ Try.underlying24 ?_ memS ?_); rfl; rfl; exact b2; rfl)
        | ((with_reducible refine wpList_load_g (o := ⟨some 9, .load 27 (.tmp 3), _, _, _, _⟩) _ _ rfl (w.heap.size + 1) 27 ([.int .u32 B, .int .u32 S]) _ ?_ ?_ ?_ Try.underlying27 ?_ ring_sz ?_); rfl; rfl; exact b3; rfl)
        | (go_at_call 9; (with_reducible refine (KV.out _).mono ?_); rintro e w1 ⟨rfl, l1⟩; replace b2 := b2.keep l1; replace b3 := b3.keep l1; replace lw := Later.trans_ lw l1)
        | (go_at_call 12; (with_reducible refine (KC.out _).mono ?_); rintro e w2 ⟨rfl, l2⟩; replace lw := Later.trans_ lw l2))
      go_ret
      exact ⟨rfl, lw⟩
  · rw [decide_eq_false h1] at KV ⊢
    rw [Bool.false_and]
    clear h1 hB hS
    go_enter Try.func13, Try.ntmps13
    go_upto_region 1 with fail
    have hu2 : ((w.alloc (.cells #[.slice A n c] 24)).alloc (.cells #[.int .u32 B, .int .u32 S] 27)) = u0 := hu
    try rw [hu2]
    clear hu hu2
    go_wp2_with (first
      | ((with_reducible refine wpList_load_blk (o := ⟨some 5, .load 24 (.tmp 2), _, _, _, none⟩) rfl _ _ rfl w.heap.size 24 ([.slice A n c]) _ ?_ ?_ Try.underlying24 rfl memS ?_); rfl; exact b2)
      | ((with_reducible refine wpList_load_g (o := ⟨some 8, .load 24 (.tmp 2), _, _, _, _⟩) _ _ rfl w.heap.size 24 ([.slice A n c]) _ ?_ ?_ ?_ Try.underlying24 ?_ memS ?_); rfl; rfl; exact b2; rfl)
      | ((with_reducible refine wpList_load_g (o := ⟨some 9, .load 27 (.tmp 3), _, _, _, _⟩) _ _ rfl (w.heap.size + 1) 27 ([.int .u32 B, .int .u32 S]) _ ?_ ?_ ?_ Try.underlying27 ?_ ring_sz ?_); rfl; rfl; exact b3; rfl)
      | (go_at_call 9; (with_reducible refine (KV.out _).mono ?_); rintro e w1 ⟨rfl, l1⟩; replace b2 := b2.keep l1; replace b3 := b3.keep l1; replace lw := Later.trans_ lw l1))
    go_ret
    exact ⟨rfl, lw⟩
end Go.Proofs.Ytffgbbfcbobecaa
