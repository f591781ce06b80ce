/-
  THE STATEMENT MemoryMovesAsSpecified: New, Read, Write, Apply and Diff answer as the specification does, for every memory, numbers and addresses, at most 9000 bytes, at most 40 stores, and another memory.
-/
import Derived.Test.YtaihfkcoiagdaaaMemN
namespace Go.Proofs.Ytaihfkcoiagdaaa
open Go.RowKit Go.ChangeShapes Go.WideShapes Go.ChangeAt

set_option maxRecDepth 100000 in
set_option maxHeartbeats 1000000 in
theorem moves_bad1 (A : Option Addr) (n c : Nat) (pg a r : Int) (data : ByteArray) (AL : Option Addr) (m cl : Nat) (B : Option Addr) (nb cb : Nat) (w : World) (h : ¬ (1 ≤ n ∧ n ≤ 64)) :
    Calls Try.prog 4 #[.agg #[.slice A n c], .int .i64 pg, .int .i64 a, .int .i64 r, .string data, .slice AL m cl, .agg #[.slice B nb cb]] w fun e w' => e = .returned (.bool true) ∧ Later w w' := by
  have HN := Lib.hid fun w' => sanity_any w'
  have HA := Lib.hid fun w' => rvalid_any A n c w'
  have HB := Lib.hid fun w' => rvalid_any B nb cb w'
  rw [decide_eq_false h] at HA
  clear h
  have b7 := (Blk.new w 24 #[.slice A n c] [.slice A n c] rfl).alloc (.cells #[.slice B nb cb] 24)
  have b13 := Blk.new' (w.alloc (.cells #[.slice A n c] 24)) (w.heap.size + 1) 24 #[.slice B nb cb] [.slice B nb cb] (by simp) rfl
  have lw : Later w ((w.alloc (.cells #[.slice A n c] 24)).alloc (.cells #[.slice B nb cb] 24)) := (later1 w _).alloc (by simp) _
  go_enter Try.func4, Try.ntmps4
  go_wp2_with (first
    | (go_at_call 11; (with_reducible refine (HA.out _).mono ?_); rintro e w1 ⟨rfl, l1⟩; replace b7 := b7.keep l1; replace b13 := b13.keep l1; have c7 := b7.cell (j := 0) (v := .slice A n c) rfl; have c13 := b13.cell (j := 0) (v := .slice B nb cb) rfl; replace lw := Later.trans_ lw l1)
    | (go_at_call 9; refine (HN.out _).mono ?_; rintro e w3 ⟨rfl, l3⟩))
  go_ret
  exact ⟨rfl, Later.trans_ lw l3⟩

set_option maxRecDepth 100000 in
set_option maxHeartbeats 1000000 in
theorem moves_bad2 (A : Option Addr) (n c : Nat) (pg a r : Int) (data : ByteArray) (AL : Option Addr) (m cl : Nat) (B : Option Addr) (nb cb : Nat) (w : World) (h1 : 1 ≤ n ∧ n ≤ 64) (h : ¬ (1 ≤ nb ∧ nb ≤ 64)) :
    Calls Try.prog 4 #[.agg #[.slice A n c], .int .i64 pg, .int .i64 a, .int .i64 r, .string data, .slice AL m cl, .agg #[.slice B nb cb]] w fun e w' => e = .returned (.bool true) ∧ Later w w' := by
  have HN := Lib.hid fun w' => sanity_any w'
  have HA := Lib.hid fun w' => rvalid_any A n c w'
  have HB := Lib.hid fun w' => rvalid_any B nb cb w'
  rw [decide_eq_true h1] at HA
  rw [decide_eq_false h] at HB
  clear h h1
  have b7 := (Blk.new w 24 #[.slice A n c] [.slice A n c] rfl).alloc (.cells #[.slice B nb cb] 24)
  have b13 := Blk.new' (w.alloc (.cells #[.slice A n c] 24)) (w.heap.size + 1) 24 #[.slice B nb cb] [.slice B nb cb] (by simp) rfl
  have lw : Later w ((w.alloc (.cells #[.slice A n c] 24)).alloc (.cells #[.slice B nb cb] 24)) := (later1 w _).alloc (by simp) _
  go_enter Try.func4, Try.ntmps4
  go_wp2_with (first
    | (go_at_call 11; (with_reducible refine (HB.out w1).mono ?_); rintro e w2 ⟨rfl, l2⟩; replace b7 := b7.keep l2; replace b13 := b13.keep l2; clear c7 c13; have c7 := b7.cell (j := 0) (v := .slice A n c) rfl; have c13 := b13.cell (j := 0) (v := .slice B nb cb) rfl; replace lw := Later.trans_ lw l2)
    | (go_at_call 11; (with_reducible refine (HA.out _).mono ?_); rintro e w1 ⟨rfl, l1⟩; replace b7 := b7.keep l1; replace b13 := b13.keep l1; have c7 := b7.cell (j := 0) (v := .slice A n c) rfl; have c13 := b13.cell (j := 0) (v := .slice B nb cb) rfl; replace lw := Later.trans_ lw l1)
    | (go_at_call 9; refine (HN.out _).mono ?_; rintro e w3 ⟨rfl, l3⟩))
  go_ret
  exact ⟨rfl, Later.trans_ lw l3⟩

set_option maxRecDepth 100000 in
set_option maxHeartbeats 1000000 in
theorem moves_bad3 (A : Option Addr) (n c : Nat) (pg a r : Int) (data : ByteArray) (AL : Option Addr) (m cl : Nat) (B : Option Addr) (nb cb : Nat) (w : World) (h1 : 1 ≤ n ∧ n ≤ 64) (h2 : 1 ≤ nb ∧ nb ≤ 64) (h : 9000 < data.size) :
    Calls Try.prog 4 #[.agg #[.slice A n c], .int .i64 pg, .int .i64 a, .int .i64 r, .string data, .slice AL m cl, .agg #[.slice B nb cb]] w fun e w' => e = .returned (.bool true) ∧ Later w w' := by
  have HN := Lib.hid fun w' => sanity_any w'
  have HA := Lib.hid fun w' => rvalid_any A n c w'
  have HB := Lib.hid fun w' => rvalid_any B nb cb w'
  rw [decide_eq_true h1] at HA
  rw [decide_eq_true h2] at HB
  have k1 : (9000 : Int) < (data.size : Int) := by omega
  have k2 : decide ((9000 : Int) < (data.size : Int)) = true := decide_eq_true k1
  clear h h1 h2
  have b7 := (Blk.new w 24 #[.slice A n c] [.slice A n c] rfl).alloc (.cells #[.slice B nb cb] 24)
  have b13 := Blk.new' (w.alloc (.cells #[.slice A n c] 24)) (w.heap.size + 1) 24 #[.slice B nb cb] [.slice B nb cb] (by simp) rfl
  have lw : Later w ((w.alloc (.cells #[.slice A n c] 24)).alloc (.cells #[.slice B nb cb] 24)) := (later1 w _).alloc (by simp) _
  go_enter Try.func4, Try.ntmps4
  go_wp2_with (first
    | (go_at_call 11; (with_reducible refine (HB.out w1).mono ?_); rintro e w2 ⟨rfl, l2⟩; replace b7 := b7.keep l2; replace b13 := b13.keep l2; clear c7 c13; have c7 := b7.cell (j := 0) (v := .slice A n c) rfl; have c13 := b13.cell (j := 0) (v := .slice B nb cb) rfl; replace lw := Later.trans_ lw l2)
    | (go_at_call 11; (with_reducible refine (HA.out _).mono ?_); rintro e w1 ⟨rfl, l1⟩; replace b7 := b7.keep l1; replace b13 := b13.keep l1; have c7 := b7.cell (j := 0) (v := .slice A n c) rfl; have c13 := b13.cell (j := 0) (v := .slice B nb cb) rfl; replace lw := Later.trans_ lw l1)
    | (go_at_call 9; refine (HN.out _).mono ?_; rintro e w3 ⟨rfl, l3⟩))
  go_ret
  exact ⟨rfl, Later.trans_ lw l3⟩

set_option maxRecDepth 100000 in
set_option maxHeartbeats 1000000 in
theorem moves_bad4 (A : Option Addr) (n c : Nat) (pg a r : Int) (data : ByteArray) (AL : Option Addr) (m cl : Nat) (B : Option Addr) (nb cb : Nat) (w : World) (h1 : 1 ≤ n ∧ n ≤ 64) (h2 : 1 ≤ nb ∧ nb ≤ 64) (h3 : data.size ≤ 9000) (h : 40 < m) :
    Calls Try.prog 4 #[.agg #[.slice A n c], .int .i64 pg, .int .i64 a, .int .i64 r, .string data, .slice AL m cl, .agg #[.slice B nb cb]] w fun e w' => e = .returned (.bool true) ∧ Later w w' := by
  have HN := Lib.hid fun w' => sanity_any w'
  have HA := Lib.hid fun w' => rvalid_any A n c w'
  have HB := Lib.hid fun w' => rvalid_any B nb cb w'
  rw [decide_eq_true h1] at HA
  rw [decide_eq_true h2] at HB
  have k1 : ¬ (9000 : Int) < (data.size : Int) := by omega
  have k3 : decide ((9000 : Int) < (data.size : Int)) = false := decide_eq_false k1
  have k2 : (40 : Int) < (m : Int) := by omega
  clear h h1 h2
  have b7 := (Blk.new w 24 #[.slice A n c] [.slice A n c] rfl).alloc (.cells #[.slice B nb cb] 24)
  have b13 := Blk.new' (w.alloc (.cells #[.slice A n c] 24)) (w.heap.size + 1) 24 #[.slice B nb cb] [.slice B nb cb] (by simp) rfl
  have lw : Later w ((w.alloc (.cells #[.slice A n c] 24)).alloc (.cells #[.slice B nb cb] 24)) := (later1 w _).alloc (by simp) _
  go_enter Try.func4, Try.ntmps4
  go_wp2_with (first
    | (go_at_call 11; (with_reducible refine (HB.out w1).mono ?_); rintro e w2 ⟨rfl, l2⟩; replace b7 := b7.keep l2; replace b13 := b13.keep l2; clear c7 c13; have c7 := b7.cell (j := 0) (v := .slice A n c) rfl; have c13 := b13.cell (j := 0) (v := .slice B nb cb) rfl; replace lw := Later.trans_ lw l2)
    | (go_at_call 11; (with_reducible refine (HA.out _).mono ?_); rintro e w1 ⟨rfl, l1⟩; replace b7 := b7.keep l1; replace b13 := b13.keep l1; have c7 := b7.cell (j := 0) (v := .slice A n c) rfl; have c13 := b13.cell (j := 0) (v := .slice B nb cb) rfl; replace lw := Later.trans_ lw l1)
    | (go_at_call 9; refine (HN.out _).mono ?_; rintro e w3 ⟨rfl, l3⟩))
  go_ret
  exact ⟨rfl, Later.trans_ lw l3⟩

theorem new_any (p : Int) : ∃ (np : Nat) (er : Int), np ≤ 64 ∧
    (∀ w', Calls Try.prog 19 #[.int .i64 p] w' fun e w'' => ∃ A, e = .returned (.tuple #[.agg #[.slice A np np], .int .i64 er]) ∧ Sl w'' 128 A np (U (Zs np)) ∧ Later w' w'') ∧
    (∀ w', Calls Try.prog 23 #[.int .i64 p] w' fun e w'' => ∃ A, e = .returned (.agg #[.slice A np np, .int .i64 er]) ∧ Sl w'' 128 A np (U (Zs np)) ∧ Later w' w'') := by
  by_cases h : 1 ≤ p ∧ p ≤ 64
  · obtain ⟨q, rfl⟩ := Int.eq_ofNat_of_zero_le (show 0 ≤ p by omega)
    exact ⟨q, 0, by omega, fun w' => (new_ok q w' (by omega)).mono fun e w'' ⟨g, h1, _, h3, h4⟩ => ⟨_, h1, h3.sl, h4⟩, fun w' => (rnew_ok q w' (by omega)).mono fun e w'' ⟨g, h1, _, h3, h4⟩ => ⟨_, h1, h3.sl, h4⟩⟩
  · exact ⟨0, 1, by omega, fun w' => (new_bad p w' h).mono fun e w'' ⟨h1, h2⟩ => ⟨_, h1, Sl.nil _ _ _, h2⟩, fun w' => (rnew_bad p w' h).mono fun e w'' ⟨h1, h2⟩ => ⟨_, h1, Sl.nil _ _ _, h2⟩⟩

set_option maxRecDepth 100000 in
set_option maxHeartbeats 8000000 in
theorem moves_any (A : Option Addr) (n c : Nat) (pg a r : Int) (data : ByteArray) (AL : Option Addr) (m cl : Nat) (B : Option Addr) (nb cb : Nat) (b bb : Wm.Bs) (L : List (Int × Int × Int)) (w : World) (hs : Sl w 128 A n (U b)) (hb : Wm.isBs b) (hnc : n ≤ c) (hc : c ≤ maxLen) (hsb : Sl w 128 B nb (U bb)) (hsl : Sl w 3 AL m (Ws L)) (hL : L.length = m) (hW : ∀ x ∈ L, isW x) (hat : -9223372036854775808 ≤ a ∧ a ≤ 9223372036854775807) (h1 : 1 ≤ n ∧ n ≤ 64) (h2 : 1 ≤ nb ∧ nb ≤ 64) (h3 : data.size ≤ 9000) (h4 : m ≤ 40) :
    Calls Try.prog 4 #[.agg #[.slice A n c], .int .i64 pg, .int .i64 a, .int .i64 r, .string data, .slice AL m cl, .agg #[.slice B nb cb]] w fun e w' => e = .returned (.bool true) ∧ Later w w' := by
  have HN := Lib.hid fun w' => sanity_any w'
  have HA := Lib.hid fun w' => rvalid_any A n c w'
  have HB := Lib.hid fun w' => rvalid_any B nb cb w'
  rw [decide_eq_true h1] at HA
  rw [decide_eq_true h2] at HB
  have k1 : ¬ (9000 : Int) < (data.size : Int) := by omega
  have k3 : decide ((9000 : Int) < (data.size : Int)) = false := decide_eq_false k1
  have k2 : ¬ (40 : Int) < (m : Int) := by omega
  obtain ⟨np, er, hnp, hN, hRN⟩ := new_any pg
  have KN := Lib.hid hN
  have KRN := Lib.hid hRN
  have KR := Lib.hid fun w' (hl : Later w w') => read_any A n c a r b w' (hs.keep hl) h1.1 h1.2 hat
  have KRR := Lib.hid fun w' (hl : Later w w') => rread_any A n c a r b w' (hs.keep hl) h1.2 hat
  have KW := Lib.hid fun w' (hl : Later w w') => write_any A n c a data b w' (hs.keep hl) h1.1 h1.2 hat
  have KRW := Lib.hid fun w' (hl : Later w w') => rwrite_any A n c a data b w' (hs.keep hl) h1.1 h1.2 hnc hc hat
  have KA := Lib.hid fun w' (hl : Later w w') => apply_any A n c m cl AL L b w' (hs.keep hl) hb h1.1 h1.2 (hsl.keep hl) hL hW (by omega)
  have KRA := Lib.hid fun w' (hl : Later w w') => rapply_any A n c m cl AL L b w' (hs.keep hl) hb h1.1 h1.2 hnc hc (hsl.keep hl) hL hW (by omega)
  have KD := Lib.hid fun w' (hl : Later w w') => diff_any A n c B nb cb b bb w' (hs.keep hl) (hsb.keep hl) h1.2 h2.2
  have KRD := Lib.hid fun w' (hl : Later w w') => rdiff_any A n c B nb cb b bb w' (hs.keep hl) (hsb.keep hl) h1.2 h2.2
  obtain ⟨D, hD⟩ : ∃ D, D = Mm.diff b bb n nb := ⟨_, rfl⟩
  have hD64 : D.length ≤ 64 := by
    rw [hD]
    exact Nat.le_trans (Mm.diffTo_len b bb n nb (max n nb)) (by omega)
  rw [← hD] at KD KRD
  have KI := Lib.hid fun AD cD AE cE w' (h : Sl w' 1 AD D.length (Ni D)) (k : Sl w' 1 AE D.length (Ni D)) => sameInts_any AD D.length cD AE D.length cE D D w' rfl rfl h k (by omega) (by omega)
  rw [decide_eq_true (rfl : D = D)] at KI
  obtain ⟨S, hS⟩ : ∃ S, S = strOfNums (Mm.rd b a r) := ⟨_, rfl⟩
  obtain ⟨Y, hY⟩ : ∃ Y, Y = Mm.wr b a (Wm.ofS data) := ⟨_, rfl⟩
  obtain ⟨Z, hZ⟩ : ∃ Z, Z = (Mm.ap b L).getD b := ⟨_, rfl⟩
  obtain ⟨zs, hzs⟩ : ∃ zs, zs = Zs np := ⟨_, rfl⟩
  obtain ⟨q1, hq1⟩ : ∃ q, q = decide (Mm.Inside (n * 128) a r) := ⟨_, rfl⟩
  obtain ⟨q2, hq2⟩ : ∃ q, q = decide (Mm.Inside (n * 128) a data.size) := ⟨_, rfl⟩
  obtain ⟨q3, hq3⟩ : ∃ q, q = (Mm.ap b L).isSome := ⟨_, rfl⟩
  rw [← hS, ← hq1] at KR KRR
  rw [← hY, ← hq2] at KW KRW
  rw [← hZ, ← hq3] at KA KRA
  rw [← hzs] at KN KRN
  have KS1 := Lib.hid fun Ax Ar w' (h : Sl w' 128 Ax np (U zs)) (h2 : Sl w' 128 Ar np (U zs)) => same_any Ax np np Ar np np zs zs w' h h2 hnp hnp
  rw [decide_eq_true (rfl : zs = zs)] at KS1
  have KS2 := Lib.hid fun Ay cy Aw cw w' (h : Sl w' 128 Ay n (U Y)) (h2 : Sl w' 128 Aw n (U Y)) => same_any Ay n cy Aw n cw Y Y w' h h2 h1.2 h1.2
  rw [decide_eq_true (rfl : Y = Y)] at KS2
  have KS3 := Lib.hid fun Ay cy Aw cw w' (h : Sl w' 128 Ay n (U Z)) (h2 : Sl w' 128 Aw n (U Z)) => same_any Ay n cy Aw n cw Z Z w' h h2 h1.2 h1.2
  rw [decide_eq_true (rfl : Z = Z)] at KS3
  have b7 := (Blk.new w 24 #[.slice A n c] [.slice A n c] rfl).alloc (.cells #[.slice B nb cb] 24)
  have b13 := Blk.new' (w.alloc (.cells #[.slice A n c] 24)) (w.heap.size + 1) 24 #[.slice B nb cb] [.slice B nb cb] (by simp) rfl
  have lw : Later w ((w.alloc (.cells #[.slice A n c] 24)).alloc (.cells #[.slice B nb cb] 24)) := (later1 w _).alloc (by simp) _
  clear hN hRN hS hY hZ hzs hq1 hq2 hq3 hD hD64 hnp hs hb hnc hc hsb hsl hL hW hat h1 h2 h3 h4
  go_enter Try.func4, Try.ntmps4
  go_wp2_with (first
    | (go_at_call 11; (with_reducible refine (HB.out w1).mono ?_); rintro e w2 ⟨rfl, l2⟩; replace b7 := b7.keep l2; replace b13 := b13.keep l2; clear c7 c13; have c7 := b7.cell (j := 0) (v := .slice A n c) rfl; have c13 := b13.cell (j := 0) (v := .slice B nb cb) rfl; replace lw := Later.trans_ lw l2)
    | (go_at_call 11; (with_reducible refine (HA.out _).mono ?_); rintro e w1 ⟨rfl, l1⟩; replace b7 := b7.keep l1; replace b13 := b13.keep l1; have c7 := b7.cell (j := 0) (v := .slice A n c) rfl; have c13 := b13.cell (j := 0) (v := .slice B nb cb) rfl; replace lw := Later.trans_ lw l1)
    | (go_at_call 19; refine (KN.out _).mono ?_; rintro e v0 ⟨Ax, rfl, sx, l10⟩; replace b7 := b7.keep l10; replace b13 := b13.keep l10; replace lw := Later.trans_ lw l10; clear c7; have c7 := b7.cell (j := 0) (v := .slice A n c) rfl; replace b7 := b7.keep (later1 v0 (.cells #[.slice Ax np np] 24)); replace b13 := b13.keep (later1 v0 (.cells #[.slice Ax np np] 24)); replace lw := Later.trans_ lw (later1 v0 (.cells #[.slice Ax np np] 24)); clear c7; have c7 := b7.cell (j := 0) (v := .slice A n c) rfl; replace sx := sx.keep (later1 v0 (.cells #[.slice Ax np np] 24)); have b15 := Blk.new v0 24 #[.slice Ax np np] [.slice Ax np np] rfl)
    | (go_at_call 20; refine (KR.out _ lw).mono ?_; rintro e v1 ⟨rfl, l11⟩; replace b7 := b7.keep l11; replace b13 := b13.keep l11; replace sx := sx.keep l11; replace b15 := b15.keep l11; replace lw := Later.trans_ lw l11; clear c7; have c7 := b7.cell (j := 0) (v := .slice A n c) rfl)
    | (go_at_call 21; refine (KW.out _ lw).mono ?_; rintro e v2 ⟨gy, cy, rfl, _, _, _, dy, l12⟩; replace b7 := b7.keep l12; replace b13 := b13.keep l12; replace sx := sx.keep l12; replace b15 := b15.keep l12; replace lw := Later.trans_ lw l12; clear c7; have c7 := b7.cell (j := 0) (v := .slice A n c) rfl; replace b7 := b7.keep (later1 v2 (.cells #[(.slice (some ⟨gy, 0, none⟩) n cy)] 24)); replace b13 := b13.keep (later1 v2 (.cells #[(.slice (some ⟨gy, 0, none⟩) n cy)] 24)); replace sx := sx.keep (later1 v2 (.cells #[(.slice (some ⟨gy, 0, none⟩) n cy)] 24)); replace b15 := b15.keep (later1 v2 (.cells #[(.slice (some ⟨gy, 0, none⟩) n cy)] 24)); replace lw := Later.trans_ lw (later1 v2 (.cells #[(.slice (some ⟨gy, 0, none⟩) n cy)] 24)); clear c7; have c7 := b7.cell (j := 0) (v := .slice A n c) rfl; replace dy := dy.keep (later1 v2 (.cells #[(.slice (some ⟨gy, 0, none⟩) n cy)] 24)); have b19 := Blk.new v2 24 #[(.slice (some ⟨gy, 0, none⟩) n cy)] [(.slice (some ⟨gy, 0, none⟩) n cy)] rfl)
    | (go_at_call 22; refine (KA.out _ lw).mono ?_; rintro e v3 ⟨gz, cz, rfl, _, _, _, dz, l13⟩; replace b7 := b7.keep l13; replace b13 := b13.keep l13; replace sx := sx.keep l13; replace b15 := b15.keep l13; replace dy := dy.keep l13; replace b19 := b19.keep l13; replace lw := Later.trans_ lw l13; clear c7; have c7 := b7.cell (j := 0) (v := .slice A n c) rfl; replace b7 := b7.keep (later1 v3 (.cells #[(.slice (some ⟨gz, 0, none⟩) n cz)] 24)); replace b13 := b13.keep (later1 v3 (.cells #[(.slice (some ⟨gz, 0, none⟩) n cz)] 24)); replace sx := sx.keep (later1 v3 (.cells #[(.slice (some ⟨gz, 0, none⟩) n cz)] 24)); replace b15 := b15.keep (later1 v3 (.cells #[(.slice (some ⟨gz, 0, none⟩) n cz)] 24)); replace dy := dy.keep (later1 v3 (.cells #[(.slice (some ⟨gz, 0, none⟩) n cz)] 24)); replace b19 := b19.keep (later1 v3 (.cells #[(.slice (some ⟨gz, 0, none⟩) n cz)] 24)); replace lw := Later.trans_ lw (later1 v3 (.cells #[(.slice (some ⟨gz, 0, none⟩) n cz)] 24)); clear c7; have c7 := b7.cell (j := 0) (v := .slice A n c) rfl; replace dz := dz.keep (later1 v3 (.cells #[(.slice (some ⟨gz, 0, none⟩) n cz)] 24)); have b21 := Blk.new v3 24 #[(.slice (some ⟨gz, 0, none⟩) n cz)] [(.slice (some ⟨gz, 0, none⟩) n cz)] rfl)
    | (go_at_call 23; refine (KRN.out _).mono ?_; rintro e v4 ⟨Ar, rfl, sr, l14⟩; replace b7 := b7.keep l14; replace b13 := b13.keep l14; replace sx := sx.keep l14; replace b15 := b15.keep l14; replace dy := dy.keep l14; replace b19 := b19.keep l14; replace dz := dz.keep l14; replace b21 := b21.keep l14; replace lw := Later.trans_ lw l14; clear c7; have c7 := b7.cell (j := 0) (v := .slice A n c) rfl; replace b7 := b7.keep (later1 v4 (.cells #[.slice Ar np np, .int .i64 er] 52)); replace b13 := b13.keep (later1 v4 (.cells #[.slice Ar np np, .int .i64 er] 52)); replace sx := sx.keep (later1 v4 (.cells #[.slice Ar np np, .int .i64 er] 52)); replace b15 := b15.keep (later1 v4 (.cells #[.slice Ar np np, .int .i64 er] 52)); replace dy := dy.keep (later1 v4 (.cells #[.slice Ar np np, .int .i64 er] 52)); replace b19 := b19.keep (later1 v4 (.cells #[.slice Ar np np, .int .i64 er] 52)); replace dz := dz.keep (later1 v4 (.cells #[.slice Ar np np, .int .i64 er] 52)); replace b21 := b21.keep (later1 v4 (.cells #[.slice Ar np np, .int .i64 er] 52)); replace lw := Later.trans_ lw (later1 v4 (.cells #[.slice Ar np np, .int .i64 er] 52)); clear c7; have c7 := b7.cell (j := 0) (v := .slice A n c) rfl; replace sr := sr.keep (later1 v4 (.cells #[.slice Ar np np, .int .i64 er] 52)); have b23 := Blk.new v4 52 #[.slice Ar np np, .int .i64 er] [.slice Ar np np, .int .i64 er] rfl)
    | (go_at_call 24; refine (KRR.out _ lw).mono ?_; rintro e v5 ⟨rfl, l15⟩; replace b7 := b7.keep l15; replace b13 := b13.keep l15; replace sx := sx.keep l15; replace b15 := b15.keep l15; replace dy := dy.keep l15; replace b19 := b19.keep l15; replace dz := dz.keep l15; replace b21 := b21.keep l15; replace sr := sr.keep l15; replace b23 := b23.keep l15; replace lw := Later.trans_ lw l15; clear c7; have c7 := b7.cell (j := 0) (v := .slice A n c) rfl; replace b7 := b7.keep (later1 v5 (.cells #[.string S, .bool q1] 55)); replace b13 := b13.keep (later1 v5 (.cells #[.string S, .bool q1] 55)); replace sx := sx.keep (later1 v5 (.cells #[.string S, .bool q1] 55)); replace b15 := b15.keep (later1 v5 (.cells #[.string S, .bool q1] 55)); replace dy := dy.keep (later1 v5 (.cells #[.string S, .bool q1] 55)); replace b19 := b19.keep (later1 v5 (.cells #[.string S, .bool q1] 55)); replace dz := dz.keep (later1 v5 (.cells #[.string S, .bool q1] 55)); replace b21 := b21.keep (later1 v5 (.cells #[.string S, .bool q1] 55)); replace sr := sr.keep (later1 v5 (.cells #[.string S, .bool q1] 55)); replace b23 := b23.keep (later1 v5 (.cells #[.string S, .bool q1] 55)); replace lw := Later.trans_ lw (later1 v5 (.cells #[.string S, .bool q1] 55)); clear c7; have c7 := b7.cell (j := 0) (v := .slice A n c) rfl; have b24 := Blk.new v5 55 #[.string S, .bool q1] [.string S, .bool q1] rfl)
    | (go_at_call 25; refine (KRW.out _ lw).mono ?_; rintro e v6 ⟨Aw, cw, rfl, _, _, sw, l16⟩; replace b7 := b7.keep l16; replace b13 := b13.keep l16; replace sx := sx.keep l16; replace b15 := b15.keep l16; replace dy := dy.keep l16; replace b19 := b19.keep l16; replace dz := dz.keep l16; replace b21 := b21.keep l16; replace sr := sr.keep l16; replace b23 := b23.keep l16; replace b24 := b24.keep l16; replace lw := Later.trans_ lw l16; clear c7; have c7 := b7.cell (j := 0) (v := .slice A n c) rfl; replace b7 := b7.keep (later1 v6 (.cells #[.slice Aw n cw, .bool q2] 38)); replace b13 := b13.keep (later1 v6 (.cells #[.slice Aw n cw, .bool q2] 38)); replace sx := sx.keep (later1 v6 (.cells #[.slice Aw n cw, .bool q2] 38)); replace b15 := b15.keep (later1 v6 (.cells #[.slice Aw n cw, .bool q2] 38)); replace dy := dy.keep (later1 v6 (.cells #[.slice Aw n cw, .bool q2] 38)); replace b19 := b19.keep (later1 v6 (.cells #[.slice Aw n cw, .bool q2] 38)); replace dz := dz.keep (later1 v6 (.cells #[.slice Aw n cw, .bool q2] 38)); replace b21 := b21.keep (later1 v6 (.cells #[.slice Aw n cw, .bool q2] 38)); replace sr := sr.keep (later1 v6 (.cells #[.slice Aw n cw, .bool q2] 38)); replace b23 := b23.keep (later1 v6 (.cells #[.slice Aw n cw, .bool q2] 38)); replace b24 := b24.keep (later1 v6 (.cells #[.slice Aw n cw, .bool q2] 38)); replace lw := Later.trans_ lw (later1 v6 (.cells #[.slice Aw n cw, .bool q2] 38)); clear c7; have c7 := b7.cell (j := 0) (v := .slice A n c) rfl; replace sw := sw.keep (later1 v6 (.cells #[.slice Aw n cw, .bool q2] 38)); have b25 := Blk.new v6 38 #[.slice Aw n cw, .bool q2] [.slice Aw n cw, .bool q2] rfl)
    | (go_at_call 26; refine (KRA.out _ lw).mono ?_; rintro e v7 ⟨Ap, cp, rfl, _, _, sp, l17⟩; replace b7 := b7.keep l17; replace b13 := b13.keep l17; replace sx := sx.keep l17; replace b15 := b15.keep l17; replace dy := dy.keep l17; replace b19 := b19.keep l17; replace dz := dz.keep l17; replace b21 := b21.keep l17; replace sr := sr.keep l17; replace b23 := b23.keep l17; replace b24 := b24.keep l17; replace sw := sw.keep l17; replace b25 := b25.keep l17; replace lw := Later.trans_ lw l17; clear c7; have c7 := b7.cell (j := 0) (v := .slice A n c) rfl; replace b7 := b7.keep (later1 v7 (.cells #[.slice Ap n cp, .bool q3] 38)); replace b13 := b13.keep (later1 v7 (.cells #[.slice Ap n cp, .bool q3] 38)); replace sx := sx.keep (later1 v7 (.cells #[.slice Ap n cp, .bool q3] 38)); replace b15 := b15.keep (later1 v7 (.cells #[.slice Ap n cp, .bool q3] 38)); replace dy := dy.keep (later1 v7 (.cells #[.slice Ap n cp, .bool q3] 38)); replace b19 := b19.keep (later1 v7 (.cells #[.slice Ap n cp, .bool q3] 38)); replace dz := dz.keep (later1 v7 (.cells #[.slice Ap n cp, .bool q3] 38)); replace b21 := b21.keep (later1 v7 (.cells #[.slice Ap n cp, .bool q3] 38)); replace sr := sr.keep (later1 v7 (.cells #[.slice Ap n cp, .bool q3] 38)); replace b23 := b23.keep (later1 v7 (.cells #[.slice Ap n cp, .bool q3] 38)); replace b24 := b24.keep (later1 v7 (.cells #[.slice Ap n cp, .bool q3] 38)); replace sw := sw.keep (later1 v7 (.cells #[.slice Ap n cp, .bool q3] 38)); replace b25 := b25.keep (later1 v7 (.cells #[.slice Ap n cp, .bool q3] 38)); replace lw := Later.trans_ lw (later1 v7 (.cells #[.slice Ap n cp, .bool q3] 38)); clear c7; have c7 := b7.cell (j := 0) (v := .slice A n c) rfl; replace sp := sp.keep (later1 v7 (.cells #[.slice Ap n cp, .bool q3] 38)); have b26 := Blk.new v7 38 #[.slice Ap n cp, .bool q3] [.slice Ap n cp, .bool q3] rfl; clear c7; have c15 := b15.cell (j := 0) (v := .slice Ax np np) rfl; have c230 := b23.cell (j := 0) (v := .slice Ar np np) rfl; have c231 := b23.cell (j := 1) (v := .int .i64 er) rfl; have c240 := b24.cell (j := 0) (v := .string S) rfl; have c241 := b24.cell (j := 1) (v := .bool q1) rfl; have c19 := b19.cell (j := 0) (v := (.slice (some ⟨gy, 0, none⟩) n cy)) rfl; have c250 := b25.cell (j := 0) (v := .slice Aw n cw) rfl; have c251 := b25.cell (j := 1) (v := .bool q2) rfl)
    | (go_at_call 18; (with_reducible refine (KS1.out Ax Ar _ sx sr).mono ?_); rintro e x1 ⟨rfl, k1⟩; replace b7 := b7.keep k1; replace b13 := b13.keep k1; replace sx := sx.keep k1; replace b15 := b15.keep k1; replace dy := dy.keep k1; replace b19 := b19.keep k1; replace dz := dz.keep k1; replace b21 := b21.keep k1; replace sr := sr.keep k1; replace b23 := b23.keep k1; replace b24 := b24.keep k1; replace sw := sw.keep k1; replace b25 := b25.keep k1; replace sp := sp.keep k1; replace b26 := b26.keep k1; replace lw := Later.trans_ lw k1; clear c15 c230 c231 c240 c241 c19 c250 c251; have c15 := b15.cell (j := 0) (v := .slice Ax np np) rfl; have c230 := b23.cell (j := 0) (v := .slice Ar np np) rfl; have c231 := b23.cell (j := 1) (v := .int .i64 er) rfl; have c240 := b24.cell (j := 0) (v := .string S) rfl; have c241 := b24.cell (j := 1) (v := .bool q1) rfl; have c19 := b19.cell (j := 0) (v := (.slice (some ⟨gy, 0, none⟩) n cy)) rfl; have c250 := b25.cell (j := 0) (v := .slice Aw n cw) rfl; have c251 := b25.cell (j := 1) (v := .bool q2) rfl)
    | (go_at_call 18; (with_reducible refine (KS2.out _ cy Aw cw _ dy.sl sw).mono ?_); rintro e x2 ⟨rfl, k2⟩; replace b7 := b7.keep k2; replace b13 := b13.keep k2; replace sx := sx.keep k2; replace b15 := b15.keep k2; replace dy := dy.keep k2; replace b19 := b19.keep k2; replace dz := dz.keep k2; replace b21 := b21.keep k2; replace sr := sr.keep k2; replace b23 := b23.keep k2; replace b24 := b24.keep k2; replace sw := sw.keep k2; replace b25 := b25.keep k2; replace sp := sp.keep k2; replace b26 := b26.keep k2; replace lw := Later.trans_ lw k2; clear c15 c230 c231 c240 c241 c19 c250 c251; have c15 := b15.cell (j := 0) (v := .slice Ax np np) rfl; have c230 := b23.cell (j := 0) (v := .slice Ar np np) rfl; have c231 := b23.cell (j := 1) (v := .int .i64 er) rfl; have c240 := b24.cell (j := 0) (v := .string S) rfl; have c241 := b24.cell (j := 1) (v := .bool q1) rfl; have c19 := b19.cell (j := 0) (v := (.slice (some ⟨gy, 0, none⟩) n cy)) rfl; have c250 := b25.cell (j := 0) (v := .slice Aw n cw) rfl; have c251 := b25.cell (j := 1) (v := .bool q2) rfl))
  replace b7 := b7.drew; replace b13 := b13.drew; replace b21 := b21.drew; replace b26 := b26.drew; replace dz := dz.drew; replace sp := sp.drew; replace lw := lw.drew
  obtain ⟨B21, hB21⟩ : ∃ B, B = v3.heap.size := ⟨_, rfl⟩
  obtain ⟨B26, hB26⟩ : ∃ B, B = v7.heap.size := ⟨_, rfl⟩
  rw [← hB21] at b21 ⊢
  rw [← hB26] at b26 ⊢
  clear hB21 hB26
  refine wp_region_held_drew (S := fun w' => w'.cell? ⟨w.heap.size, 0, none⟩ = some (.slice A n c) ∧ w'.cell? ⟨w.heap.size + 1, 0, none⟩ = some (.slice B nb cb) ∧ w'.cell? ⟨B21, 0, none⟩ = some (.slice (some ⟨gz, 0, none⟩) n cz) ∧ w'.cell? ⟨B26, 0, none⟩ = some (.slice Ap n cp) ∧ w'.cell? ⟨B26, 1, none⟩ = some (.bool q3)) (by kernel_rfl) ⟨b7.cell rfl, b13.cell rfl, b21.cell rfl, b26.cell rfl, b26.cell rfl⟩ (fun hHeld => ?_)
  refine wpAnyH_ready (rs := [0]) (by kernel_rfl) (by simp) (AllReadyH.cons (o := ⟨some 119, .call { callee := .value (.func 9), args := #[], argTypes := #[] }, _, _, _, none⟩) rfl (fun K' hK => ?_) (AllReadyH.nil))
  go_simp
  refine (HN.out _).mono ?_
  rintro e y1 ⟨rfl, k1⟩
  replace b7 := b7.keep k1
  replace b13 := b13.keep k1
  replace b21 := b21.keep k1
  replace b26 := b26.keep k1
  replace dz := dz.keep k1
  replace sp := sp.keep k1
  replace lw := Later.trans_ lw k1
  refine hK.out _ _ ⟨b7.cell rfl, b13.cell rfl, b21.cell rfl, b26.cell rfl, b26.cell rfl⟩ (fun hHeld => ?_)
  clear hK K'
  try simp only [Act.put, List.setIfInBounds_toArray, List.set_cons_zero, List.set_cons_succ]
  refine wpAnyH_take (i := 1) (oi := ⟨some 120, .move (.tmp 119), _, _, _, none⟩) (v := .bool true) rfl (by kernel_rfl) (by kernel_rfl) (by kernel_rfl) (fun _ _ _ h => h) (Or.inl ⟨by rfl, fun _ _ => rfl⟩) hHeld ?_
  simp only [Act.put, List.setIfInBounds_toArray, List.set_cons_zero, List.set_cons_succ]
  refine wpAnyH_take (i := 2) (oi := ⟨some 121, .move (.tmp 27), _, _, _, _⟩) (v := .bool true) rfl (by kernel_rfl) (by kernel_rfl) (by kernel_rfl) (fun _ _ _ h => h) (Or.inl ⟨by rfl, fun _ _ => rfl⟩) hHeld ?_
  simp only [Act.put, List.setIfInBounds_toArray, List.set_cons_zero, List.set_cons_succ]
  refine wpAnyH_take (i := 3) (oi := ⟨some 122, .pick (.tmp 120) (.tmp 121) (.const (.bool false)), _, _, _, none⟩) (v := .bool true) rfl (by kernel_rfl) (by kernel_rfl) (by kernel_rfl) (fun _ _ _ h => h) (Or.inl ⟨by rfl, fun w _ => by go_simp⟩) hHeld ?_
  simp only [Act.put, List.setIfInBounds_toArray, List.set_cons_zero, List.set_cons_succ]
  refine wpAnyH_take (i := 4) (oi := ⟨some 123, .move (.tmp 122), _, _, _, none⟩) (v := .bool true) rfl (by kernel_rfl) (by kernel_rfl) (by kernel_rfl) (fun _ _ _ h => h) (Or.inl ⟨by rfl, fun _ _ => rfl⟩) hHeld ?_
  simp only [Act.put, List.setIfInBounds_toArray, List.set_cons_zero, List.set_cons_succ]
  refine wpAnyH_take (i := 5) (oi := ⟨some 124, .move (.tmp 22), _, _, _, _⟩) (v := .bool q3) rfl (by kernel_rfl) (by kernel_rfl) (by kernel_rfl) (fun _ _ _ h => h) (Or.inl ⟨by rfl, fun _ _ => rfl⟩) hHeld ?_
  simp only [Act.put, List.setIfInBounds_toArray, List.set_cons_zero, List.set_cons_succ]
  refine wpAnyH_take (i := 6) (oi := ⟨some 125, .fieldAddr 38 (.tmp 26) 1, _, _, _, _⟩) (v := .pointer (some ⟨B26, 1, none⟩)) rfl (by kernel_rfl) (by kernel_rfl) (by kernel_rfl) (fun _ _ _ h => h) (Or.inl ⟨by rfl, fun w _ => by go_simp⟩) hHeld ?_
  simp only [Act.put, List.setIfInBounds_toArray, List.set_cons_zero, List.set_cons_succ]
  refine wpAnyH_take (i := 7) (oi := ⟨some 126, .load 4 (.tmp 125), _, _, _, _⟩) (v := .bool q3) rfl (by kernel_rfl) (by kernel_rfl) (by kernel_rfl) (fun _ _ _ h => h) (Or.inl ⟨by rfl, fun w hSw => by have e1 := hSw.2.2.2.2; clear hSw; go_simp⟩) hHeld ?_
  simp only [Act.put, List.setIfInBounds_toArray, List.set_cons_zero, List.set_cons_succ]
  refine wpAnyH_take (i := 8) (oi := ⟨some 127, .binOp .eql 4 (.tmp 124) (.tmp 126) 4, _, _, _, _⟩) (v := .bool true) rfl (by kernel_rfl) (by kernel_rfl) (by kernel_rfl) (fun _ _ _ h => h) (Or.inl ⟨by rfl, fun w _ => by go_simp⟩) hHeld ?_
  simp only [Act.put, List.setIfInBounds_toArray, List.set_cons_zero, List.set_cons_succ]
  refine wpAnyH_take (i := 9) (oi := ⟨some 128, .pick (.tmp 123) (.tmp 127) (.const (.bool false)), _, _, _, none⟩) (v := .bool true) rfl (by kernel_rfl) (by kernel_rfl) (by kernel_rfl) (fun _ _ _ h => h) (Or.inl ⟨by rfl, fun w _ => by go_simp⟩) hHeld ?_
  simp only [Act.put, List.setIfInBounds_toArray, List.set_cons_zero, List.set_cons_succ]
  refine wpAnyH_take (i := 10) (oi := ⟨some 129, .move (.tmp 128), _, _, _, none⟩) (v := .bool true) rfl (by kernel_rfl) (by kernel_rfl) (by kernel_rfl) (fun _ _ _ h => h) (Or.inl ⟨by rfl, fun _ _ => rfl⟩) hHeld ?_
  simp only [Act.put, List.setIfInBounds_toArray, List.set_cons_zero, List.set_cons_succ]
  refine wpAnyH_take (i := 11) (oi := ⟨some 130, .load 24 (.tmp 21), _, _, _, _⟩) (v := (.agg #[.slice (some ⟨gz, 0, none⟩) n cz])) rfl (by kernel_rfl) (by kernel_rfl) (by kernel_rfl) (fun _ _ _ h => h) (yieldsIf_load_mid (by rfl) _ _ rfl _ _ rfl _ _ (fun w h => range1 h.2.2.1) Try.underlying24 rfl mem_sz) hHeld ?_
  simp only [Act.put, List.setIfInBounds_toArray, List.set_cons_zero, List.set_cons_succ]
  refine wpAnyH_take (i := 12) (oi := ⟨some 131, .fieldAddr 38 (.tmp 26) 0, _, _, _, _⟩) (v := .pointer (some ⟨B26, 0, none⟩)) rfl (by kernel_rfl) (by kernel_rfl) (by kernel_rfl) (fun _ _ _ h => h) (Or.inl ⟨by rfl, fun w _ => by go_simp⟩) hHeld ?_
  simp only [Act.put, List.setIfInBounds_toArray, List.set_cons_zero, List.set_cons_succ]
  refine wpAnyH_take (i := 13) (oi := ⟨some 132, .load 24 (.tmp 131), _, _, _, _⟩) (v := .agg #[.slice Ap n cp]) rfl (by kernel_rfl) (by kernel_rfl) (by kernel_rfl) (fun _ _ _ h => h) (yieldsIf_load_mid (by rfl) _ _ rfl _ _ rfl _ _ (fun w h => range1 h.2.2.2.1) Try.underlying24 rfl mem_sz) hHeld ?_
  simp only [Act.put, List.setIfInBounds_toArray, List.set_cons_zero, List.set_cons_succ]
  refine wpAnyH_ready (rs := [14]) (by kernel_rfl) (by simp) (AllReadyH.cons (o := ⟨some 133, .call { callee := .value (.func 18), args := #[.tmp 130, .tmp 132], argTypes := #[24, 24] }, _, _, _, _⟩) rfl (fun K' hK => ?_) (AllReadyH.nil))
  go_simp
  refine (KS3.out _ cz Ap cp _ dz.sl sp).mono ?_
  rintro e y2 ⟨rfl, k2⟩
  replace b7 := b7.keep k2
  replace b13 := b13.keep k2
  replace b21 := b21.keep k2
  replace b26 := b26.keep k2
  replace dz := dz.keep k2
  replace sp := sp.keep k2
  replace lw := Later.trans_ lw k2
  refine hK.out _ _ ⟨b7.cell rfl, b13.cell rfl, b21.cell rfl, b26.cell rfl, b26.cell rfl⟩ (fun hHeld => ?_)
  clear hK K'
  try simp only [Act.put, List.setIfInBounds_toArray, List.set_cons_zero, List.set_cons_succ]
  refine wpAnyH_take (i := 15) (oi := ⟨some 134, .pick (.tmp 129) (.tmp 133) (.const (.bool false)), _, _, _, none⟩) (v := .bool true) rfl (by kernel_rfl) (by kernel_rfl) (by kernel_rfl) (fun _ _ _ h => h) (Or.inl ⟨by rfl, fun w _ => by go_simp⟩) hHeld ?_
  simp only [Act.put, List.setIfInBounds_toArray, List.set_cons_zero, List.set_cons_succ]
  refine wpAnyH_take (i := 16) (oi := ⟨some 135, .move (.tmp 134), _, _, _, none⟩) (v := .bool true) rfl (by kernel_rfl) (by kernel_rfl) (by kernel_rfl) (fun _ _ _ h => h) (Or.inl ⟨by rfl, fun _ _ => rfl⟩) hHeld ?_
  simp only [Act.put, List.setIfInBounds_toArray, List.set_cons_zero, List.set_cons_succ]
  refine wpAnyH_take (i := 17) (oi := ⟨some 136, .load 24 (.tmp 7), _, _, _, _⟩) (v := .agg #[.slice A n c]) rfl (by kernel_rfl) (by kernel_rfl) (by kernel_rfl) (fun _ _ _ h => h) (yieldsIf_load_mid (by rfl) _ _ rfl _ _ rfl _ _ (fun w h => range1 h.1) Try.underlying24 rfl mem_sz) hHeld ?_
  simp only [Act.put, List.setIfInBounds_toArray, List.set_cons_zero, List.set_cons_succ]
  refine wpAnyH_take (i := 18) (oi := ⟨some 137, .load 24 (.tmp 13), _, _, _, _⟩) (v := .agg #[.slice B nb cb]) rfl (by kernel_rfl) (by kernel_rfl) (by kernel_rfl) (fun _ _ _ h => h) (yieldsIf_load_mid (by rfl) _ _ rfl _ _ rfl _ _ (fun w h => range1 h.2.1) Try.underlying24 rfl mem_sz) hHeld ?_
  simp only [Act.put, List.setIfInBounds_toArray, List.set_cons_zero, List.set_cons_succ]
  refine wpAnyH_take (i := 20) (oi := ⟨some 139, .load 24 (.tmp 7), _, _, _, _⟩) (v := .agg #[.slice A n c]) rfl (by kernel_rfl) (by kernel_rfl) (by kernel_rfl) (fun _ _ _ h => h) (yieldsIf_load_mid (by rfl) _ _ rfl _ _ rfl _ _ (fun w h => range1 h.1) Try.underlying24 rfl mem_sz) hHeld ?_
  simp only [Act.put, List.setIfInBounds_toArray, List.set_cons_zero, List.set_cons_succ]
  refine wpAnyH_take (i := 21) (oi := ⟨some 140, .load 24 (.tmp 13), _, _, _, _⟩) (v := .agg #[.slice B nb cb]) rfl (by kernel_rfl) (by kernel_rfl) (by kernel_rfl) (fun _ _ _ h => h) (yieldsIf_load_mid (by rfl) _ _ rfl _ _ rfl _ _ (fun w h => range1 h.2.1) Try.underlying24 rfl mem_sz) hHeld ?_
  simp only [Act.put, List.setIfInBounds_toArray, List.set_cons_zero, List.set_cons_succ]
  refine wpAnyH_ready (rs := [19]) (by kernel_rfl) (by simp) (AllReadyH.cons (o := ⟨some 138, .call { callee := .value (.func 28), args := #[.tmp 136, .tmp 137], argTypes := #[24, 24] }, _, _, _, _⟩) rfl (fun K' hK => ?_) (AllReadyH.nil))
  go_simp
  refine (KD.out _ lw).mono ?_
  rintro e y3 ⟨AD, cD, rfl, _, _, sD, k3⟩
  replace b7 := b7.keep k3
  replace b13 := b13.keep k3
  replace b21 := b21.keep k3
  replace b26 := b26.keep k3
  replace dz := dz.keep k3
  replace sp := sp.keep k3
  replace lw := Later.trans_ lw k3
  refine hK.out _ _ ⟨b7.cell rfl, b13.cell rfl, b21.cell rfl, b26.cell rfl, b26.cell rfl⟩ (fun hHeld => ?_)
  clear hK K'
  try simp only [Act.put, List.setIfInBounds_toArray, List.set_cons_zero, List.set_cons_succ]
  refine wpAnyH_ready (rs := [22]) (by kernel_rfl) (by simp) (AllReadyH.cons (o := ⟨some 141, .call { callee := .value (.func 29), args := #[.tmp 139, .tmp 140], argTypes := #[24, 24] }, _, _, _, _⟩) rfl (fun K' hK => ?_) (AllReadyH.nil))
  go_simp
  refine (KRD.out _ lw).mono ?_
  rintro e y4 ⟨AE, cE, rfl, _, _, sE, k4⟩
  replace b7 := b7.keep k4
  replace b13 := b13.keep k4
  replace b21 := b21.keep k4
  replace b26 := b26.keep k4
  replace dz := dz.keep k4
  replace sp := sp.keep k4
  replace sD := sD.keep k4
  replace lw := Later.trans_ lw k4
  refine hK.out _ _ ⟨b7.cell rfl, b13.cell rfl, b21.cell rfl, b26.cell rfl, b26.cell rfl⟩ (fun hHeld => ?_)
  clear hK K'
  try simp only [Act.put, List.setIfInBounds_toArray, List.set_cons_zero, List.set_cons_succ]
  refine wpAnyH_ready (rs := [23]) (by kernel_rfl) (by simp) (AllReadyH.cons (o := ⟨some 142, .call { callee := .value (.func 27), args := #[.tmp 138, .tmp 141], argTypes := #[60, 60] }, _, _, _, _⟩) rfl (fun K' hK => ?_) (AllReadyH.nil))
  go_simp
  refine (KI.out AD cD AE cE _ sD sE).mono ?_
  rintro e y5 ⟨rfl, k5⟩
  replace b7 := b7.keep k5
  replace b13 := b13.keep k5
  replace b21 := b21.keep k5
  replace b26 := b26.keep k5
  replace dz := dz.keep k5
  replace sp := sp.keep k5
  replace lw := Later.trans_ lw k5
  refine hK.out _ _ ⟨b7.cell rfl, b13.cell rfl, b21.cell rfl, b26.cell rfl, b26.cell rfl⟩ (fun hHeld => ?_)
  clear hK K'
  try simp only [Act.put, List.setIfInBounds_toArray, List.set_cons_zero, List.set_cons_succ]
  refine wpAnyH_take (i := 24) (oi := ⟨some 143, .pick (.tmp 135) (.tmp 142) (.const (.bool false)), _, _, _, none⟩) (v := .bool true) rfl (by kernel_rfl) (by kernel_rfl) (by kernel_rfl) (fun _ _ _ h => h) (Or.inl ⟨by rfl, fun w _ => by go_simp⟩) hHeld ?_
  simp only [Act.put, List.setIfInBounds_toArray, List.set_cons_zero, List.set_cons_succ]
  refine wpAnyH_take (i := 25) (oi := ⟨some 14, .assign (.tmp 143), _, _, _, none⟩) (v := .bool true) rfl (by kernel_rfl) (by kernel_rfl) (by kernel_rfl) (fun _ _ _ h => h) (Or.inl ⟨by rfl, fun _ _ => rfl⟩) hHeld ?_
  simp only [Act.put, List.setIfInBounds_toArray, List.set_cons_zero, List.set_cons_succ]
  refine wpAnyH_done (by kernel_rfl) ?_ _
  clear hHeld
  go_wp2
  go_ret
  exact ⟨rfl, lw⟩
theorem moves_all (A : Option Addr) (n c : Nat) (pg a r : Int) (data : ByteArray) (AL : Option Addr) (m cl : Nat) (B : Option Addr) (nb cb : Nat) (b bb : Wm.Bs) (L : List (Int × Int × Int)) (w : World) (hs : Sl w 128 A n (U b)) (hb : Wm.isBs b) (hnc : n ≤ c) (hc : c ≤ maxLen) (hsb : Sl w 128 B nb (U bb)) (hsl : Sl w 3 AL m (Ws L)) (hL : L.length = m) (hW : ∀ x ∈ L, isW x) (hat : -9223372036854775808 ≤ a ∧ a ≤ 9223372036854775807) :
    Calls Try.prog 4 #[.agg #[.slice A n c], .int .i64 pg, .int .i64 a, .int .i64 r, .string data, .slice AL m cl, .agg #[.slice B nb cb]] w fun e w' => e = .returned (.bool true) ∧ Later w w' := by
  by_cases h1 : 1 ≤ n ∧ n ≤ 64
  · by_cases h2 : 1 ≤ nb ∧ nb ≤ 64
    · by_cases h3 : 9000 < data.size
      · exact moves_bad3 A n c pg a r data AL m cl B nb cb w h1 h2 h3
      · by_cases h4 : 40 < m
        · exact moves_bad4 A n c pg a r data AL m cl B nb cb w h1 h2 (by omega) h4
        · exact moves_any A n c pg a r data AL m cl B nb cb b bb L w hs hb hnc hc hsb hsl hL hW hat h1 h2 (by omega) (by omega)
    · exact moves_bad2 A n c pg a r data AL m cl B nb cb w h1 h2
  · exact moves_bad1 A n c pg a r data AL m cl B nb cb w h1

set_option maxRecDepth 100000 in
theorem memoryMovesAsSpecified_lifted (os : Os) (started : os.Started) (H : Type) (enc : TypeId × Value → H) :
    ReturnsInHanded {} Try.checked os 4 .any (Rows.memoryMovesAsSpecifiedSpec.pre6 enc Try.prog Try.f4 Rows.memoryMovesAsSpecifiedRow.domain false) (Rows.memoryMovesAsSpecifiedSpec.post enc Try.prog Try.f4 false true false false) := by
  refine returnsInHanded_of_change (C := Try.checked) ownK started (by kernel_rfl) Try.func4
    (ChangeSpec.witness6 (enc := enc) (C := Try.checked) false ⟨#[], #[.agg #[.slice none 0 0], .int .i64 0, .int .i64 0, .int .i64 0, .string ⟨#[]⟩, .slice none 0 0, .agg #[.slice none 0 0]], []⟩ 8 (by kernel_rfl) (by kernel_rfl) (by kernel_rfl) (by kernel_rfl)) ?_
  intro W base args ds gs before hval0 hW hcnd _
  have hval : ∀ (j : Nat) t v, Try.f4.params[j]? = some t → args[j]? = some v → Value.okWide Try.prog W .any base t v := hval0
  have hW' := hW
  obtain ⟨p, q, hA0, hV, rfl, hfz, hnd⟩ := hW
  have hA : DataW.TrodAll enc Try.prog W 0 (fun _ => true) true Try.f4.params.toList args.toList ds p := hA0
  rw [Try.params4] at hA hval
  obtain ⟨v0, vs0, d0, ds0, p0, q0, hargs, rfl, rfl, h0, r0⟩ := trodAll_cons hA
  obtain ⟨v1, vs1, d1, ds1, p1, q1, rfl, rfl, rfl, h1, r1⟩ := trodAll_cons r0
  obtain ⟨v2, vs2, d2, ds2, p2, q2, rfl, rfl, rfl, h2, r2⟩ := trodAll_cons r1
  obtain ⟨v3, vs3, d3, ds3, p3, q3, rfl, rfl, rfl, h3, r3⟩ := trodAll_cons r2
  obtain ⟨v4, vs4, d4, ds4, p4, q4, rfl, rfl, rfl, h4, r4⟩ := trodAll_cons r3
  obtain ⟨v5, vs5, d5, ds5, p5, q5, rfl, rfl, rfl, h5, r5⟩ := trodAll_cons r4
  obtain ⟨v6, vs6, d6, ds6, p6, q6, rfl, rfl, rfl, h6, r6⟩ := trodAll_cons r5
  obtain ⟨rfl, rfl, rfl⟩ := trodAll_nil r6
  obtain rfl : args = #[v0, v1, v2, v3, v4, v5, v6] := by cases args; simp_all
  obtain ⟨rfl, rfl⟩ := trodVars_none hV
  obtain ⟨A0, n0, c0, b0, rfl, x0, y0, s0, z0⟩ := mem_arg (K := 128) (by omega) Try.underlying24 rfl Try.underlying22 Try.underlying79 Try.underlying5 (by kernel_rfl) (by kernel_rfl) (by kernel_rfl) (by kernel_rfl) (hval 0 24 v0 rfl rfl) h0
  obtain ⟨a1, rfl, z1⟩ := int_arg Try.underlying3 (hval 1 3 v1 rfl rfl) h1
  obtain ⟨a2, rfl, z2⟩ := int_arg Try.underlying3 (hval 2 3 v2 rfl rfl) h2
  obtain ⟨a3, rfl, z3⟩ := int_arg Try.underlying3 (hval 3 3 v3 rfl rfl) h3
  obtain ⟨a4, rfl, z4⟩ := str_arg Try.underlying9 (hval 4 9 v4 rfl rfl) h4
  obtain ⟨A5, n5, c5, l5, rfl, x5, y5, s5, t5, z5⟩ := writes_arg Try.underlying43 Try.underlying27 rfl rfl rfl Try.underlying3 Try.underlying3 Try.underlying25 (by kernel_rfl) (by kernel_rfl) (by kernel_rfl) (by kernel_rfl) (hval 5 43 v5 rfl rfl) h5
  obtain ⟨A6, n6, c6, b6, rfl, x6, y6, s6, z6⟩ := mem_arg (K := 128) (by omega) Try.underlying24 rfl Try.underlying22 Try.underlying79 Try.underlying5 (by kernel_rfl) (by kernel_rfl) (by kernel_rfl) (by kernel_rfl) (hval 6 24 v6 rfl rfl) h6
  clear hA0 hval0
  simp only [List.append_nil] at hW'
  refine (moves_all A0 n0 c0 a1 a2 a3 a4 A5 n5 c5 A6 n6 c6 b0 b6 l5 W s0 z0 x0 y0 s6 s5 t5 z5 z2).mono fun e W' ⟨he, hw⟩ => ?_
  subst he
  exact ⟨_, rfl, law_post laidK rfl (by kernel_rfl) (by kernel_rfl) Try.underlying4 (by kernel_rfl) hW' rfl hw⟩
set_option maxRecDepth 100000 in
/-- The statement. -/
theorem memoryMovesAsSpecified_said : Rows.MemoryMovesAsSpecifiedSaid :=
  OpenClaim.holds_of_wide 4 Try.f4 rfl rfl rfl rfl rfl rfl rfl ⟨rfl, rfl, rfl, rfl, rfl⟩ rfl rfl rfl rfl rfl (by kernel_rfl) Try.func4 (by kernel_rfl)
    (of_decide_eq_true (by kernel_rfl)) (by unfold Func.isWrapper; first | (rw [if_pos (by decide +kernel)]; kernel_rfl) | (rw [if_neg (by decide +kernel)]; exact ⟨rfl, rfl⟩))
    (fun os started H enc _ => memoryMovesAsSpecified_lifted os started H enc)
#print axioms memoryMovesAsSpecified_said
end Go.Proofs.Ytaihfkcoiagdaaa
