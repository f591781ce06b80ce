/-
  THE REFERENCE: Enters, Few, Check.
-/
import Derived.Test.YtjfphjgmphlbhaaDoorJp
import Derived.Test.YtjfphjgmphlbhaaDoorJe
import Derived.Test.YtjfphjgmphlbhaaDoorJh
import Derived.Lib.SmallJoins
namespace Go.Proofs.YtjfphjgmphlbhaaDoor
open Go.RowKit Go.ChangeShapes Go.WideShapes Go.ChangeAt

set_option maxRecDepth 100000 in
theorem enters_any (a p : Int) (hp : 1 ≤ p ∧ p ≤ 64) (w : World) : Calls Tryd.prog 38 #[.int .i64 a, .int .i64 p] w fun e w' => e = .returned (.bool (Im.entry a (p * 128))) ∧ w = w' := by
  unfold Im.entry
  have hm1 : IntKind.i64.wrap (p * 128) = p * 128 := wraps_i64 _ (by omega) (by omega)
  have hm2 : IntKind.i64.wrap (p * 128 - 4) = p * 128 - 4 := wraps_i64 _ (by omega) (by omega)
  by_cases h0 : 0 ≤ a
  · have ht : a.tmod 4 = a % 4 := Int.tmod_eq_emod_of_nonneg h0
    have hw : IntKind.i64.wrap (a % 4) = a % 4 := wraps_i64 _ (by omega) (by omega)
    by_cases h1 : a % 4 = 0
    · have e1 : (a % 4 == 0) = true := beq_iff_eq.2 h1
      go_enter Tryd.func38, Tryd.ntmps38
      go_wp2
      go_ret
      refine ⟨ret_bool ?_, rfl⟩
      have h2 : (a ≤ p * 128 - 4) ↔ (a < p * 128) := by omega
      simp [h0, h1, h2]
    · have e1 : (a % 4 == 0) = false := neq_false' h1
      go_enter Tryd.func38, Tryd.ntmps38
      go_wp2
      go_ret
      refine ⟨ret_bool ?_, rfl⟩
      rw [decide_eq_false (by omega)]
      try rfl
  · have h0' : decide (0 ≤ a) = false := decide_eq_false h0
    go_enter Tryd.func38, Tryd.ntmps38
    go_wp2
    go_ret
    exact ⟨ret_bool (by first | rfl | (rw [decide_eq_false (by omega)])), rfl⟩

set_option maxRecDepth 100000 in
/-- How many bytes the segments have. -/
def tots (L : List Im.Seg) : Nat := (L.map fun x => x.2.size).sum
set_option maxRecDepth 100000 in
def fewV (L : List Im.Seg) : Int := IntKind.i64.wrap (tots (L.take 80) : Nat)
set_option maxRecDepth 100000 in
def fewQ (L : List Im.Seg) (m : Nat) : Bool := decide (fewV L ≤ 12000 ∧ L.length ≤ 80 ∧ m ≤ 80)
set_option maxRecDepth 100000 in
theorem tots_take (L : List Im.Seg) (k : Nat) (h : k < L.length) : tots (L.take (k + 1)) = tots (L.take k) + L[k].2.size := by
  unfold tots
  rw [List.take_add_one, List.getElem?_eq_getElem h, List.map_append, List.sum_append]
  congr 1
set_option maxRecDepth 100000 in
theorem wrap_plus (a b : Int) : IntKind.i64.wrap (IntKind.i64.wrap a + b) = IntKind.i64.wrap (a + b) := by
  rw [IntKind.wrap_i64, IntKind.wrap_i64, IntKind.wrap_i64]
  omega
set_option maxRecDepth 100000 in
set_option maxHeartbeats 2000000 in
theorem few_any (en p : Int) (A : Option Addr) (n c : Nat) (L : List Im.Seg) (B : Option Addr) (m d : Nat) (w : World) (hs : Sl w 2 A n (Gs L)) (hn : n ≤ maxLen) (hm : m ≤ maxLen) :
    Calls Tryd.prog 14 #[.agg #[.int .i64 en, .int .i64 p, .slice A n c, .slice B m d]] w fun e w' => e = .returned (.bool (fewQ L m)) ∧ Later w w' := by
  have HLN := Lib.hid hs.seglen
  unfold maxLen at hn hm
  have b0 := Blk.new w 29 #[.int .i64 en, .int .i64 p, .slice A n c, .slice B m d] [.int .i64 en, .int .i64 p, .slice A n c, .slice B m d] rfl
  have l0 := later1 w (.cells #[.int .i64 en, .int .i64 p, .slice A n c, .slice B m d] 29)
  have s0 := hs.keep l0
  clear hs
  go_enter Tryd.func14, Tryd.ntmps14
  go_wp2
  go_loopw [3, 4] (fun acc i wr => ∃ (k : Nat) (V : Int), k ≤ n ∧ k ≤ 80 ∧ acc = .int .i64 V ∧ Hid (V = IntKind.i64.wrap (tots (L.take k) : Nat)) ∧ i = .int .i64 (k : Int) ∧ Blk wr w.heap.size 29 [.int .i64 en, .int .i64 p, .slice A n c, .slice B m d] ∧ Sl wr 2 A n (Gs L) ∧ Later w wr) (fun _ i _ => n - (intOf i).toNat)
  case atStart => exact ⟨0, 0, Nat.zero_le _, by omega, rfl, Lib.hid (by rw [List.take_zero]; rfl), rfl, b0, s0, l0⟩
  case round =>
    clear b0 s0 l0
    rename_i wr
    obtain ⟨k, V, hk, hk8, rfl, HV, rfl, b0, s0, lr⟩ := hrel
    have c2 := b0.cell (j := 2) (v := .slice A n c) rfl
    have c3 := b0.cell (j := 3) (v := .slice B m d) rfl
    by_cases hlt : k < n
    · have kn : (k : Int) < (n : Int) := by omega
      by_cases h80 : k < 80
      · have k8 : (k : Int) < 80 := by omega
        have hkl : k < L.length := by rw [HLN.out]; exact hlt
        obtain ⟨ad, rfl⟩ := s0.addr (by omega)
        have h1 := s0.seg1 hkl
        have HX : Hid (IntKind.i64.wrap (V + (L[k].2.size : Int)) = IntKind.i64.wrap (tots (L.take (k + 1)) : Nat)) := Lib.hid (by
          rw [HV.out, wrap_plus, tots_take L k hkl]; congr 1)
        obtain ⟨s, hs'⟩ : ∃ s, s = L[k].2 := ⟨_, rfl⟩
        rw [← hs'] at h1 HX
        clear hs'
        go_wp2
        go_roundw
        case rel => exact ⟨k + 1, _, by omega, by omega, rfl, Lib.hid (by have h9 := HX.out; rw [IntKind.wrap_i64] at h9; rw [← h9]; unfold wrap64; first | rfl | omega), by go_num, b0, s0, lr⟩
        case measure => simp [intOf]; omega
      · obtain rfl : k = 80 := by omega
        have e80 : decide (((80 : Nat) : Int) < 80) = false := by decide
        have HQ : fewQ L m = false := by unfold fewQ; rw [decide_eq_false]; rw [HLN.out]; omega
        have hno : decide ((n : Int) ≤ 80) = false := decide_eq_false (by omega)
        cases hV : decide (V ≤ 12000)
        all_goals go_wp2
        all_goals go_ret
        all_goals exact ⟨by first | rfl | exact ret_bool HQ.symm, lr⟩
    · obtain rfl : k = n := by omega
      have nlt : ¬ ((k : Int) < (k : Int)) := by omega
      have h8' : decide ((k : Int) ≤ 80) = true := decide_eq_true (by omega)
      have HVe : V = fewV L := by rw [HV.out]; unfold fewV; rw [List.take_of_length_le (by rw [HLN.out]; omega), List.take_of_length_le (by rw [HLN.out]; omega)]
      have HQ : fewQ L m = decide (V ≤ 12000 ∧ m ≤ 80) := by
        unfold fewQ
        rw [← HVe, HLN.out]
        congr 1
        apply propext
        constructor
        · intro h; exact ⟨h.1, h.2.2⟩
        · intro h; exact ⟨h.1, by omega, h.2⟩
      clear HVe HV
      by_cases hV : V ≤ 12000
      · by_cases hm8 : m ≤ 80
        · have f2 : decide ((m : Int) ≤ 80) = true := decide_eq_true (by omega)
          rw [decide_eq_true ⟨hV, hm8⟩] at HQ
          go_wp2
          go_ret
          exact ⟨by first | rfl | exact ret_bool HQ.symm, lr⟩
        · have f2 : decide ((m : Int) ≤ 80) = false := decide_eq_false (by omega)
          rw [decide_eq_false (fun h => hm8 h.2)] at HQ
          go_wp2
          go_ret
          exact ⟨by first | rfl | exact ret_bool HQ.symm, lr⟩
      · rw [decide_eq_false (fun h => hV h.1)] at HQ
        go_wp2
        go_ret
        exact ⟨by first | rfl | exact ret_bool HQ.symm, lr⟩
end Go.Proofs.YtjfphjgmphlbhaaDoor

/-
  THE REFERENCE: Check.
-/
namespace Go.Proofs.YtjfphjgmphlbhaaDoor
open Go.RowKit Go.ChangeShapes Go.WideShapes Go.ChangeAt

set_option maxRecDepth 100000 in
set_option maxHeartbeats 4000000 in
/-- The loop's part. -/
theorem rcheck_in (en p : Int) (A : Option Addr) (n c : Nat) (L : List Im.Seg) (B : Option Addr) (m d : Nat) (w : World) (hs : Sl w 2 A n (Gs L)) (hL : inSeg L) (hn : n ≤ 64) (hm : m ≤ 64) (hp : 1 ≤ p ∧ p ≤ 64) (he : Im.entry en (p * 128) = true) :
    Calls Tryd.prog 15 #[.agg #[.int .i64 en, .int .i64 p, .slice A n c, .slice B m d]] w fun e w' => e = .returned (.int .i64 (if Im.ord (p * 128) 0 L = true then 0 else 3)) ∧ Later w w' := by
  have HLN := Lib.hid hs.seglen
  have HL := Lib.hid hL
  have HE := Lib.hid fun w' => enters_any en p hp w'
  rw [he] at HE
  obtain ⟨R, hR⟩ : ∃ R, R = Im.ord (p * 128) 0 L := ⟨_, rfl⟩
  rw [← hR]
  have HR := Lib.hid hR
  obtain ⟨Z, hZ⟩ : ∃ Z : Int, Z = if R = true then 0 else 3 := ⟨_, rfl⟩
  rw [← hZ]
  have HZ := Lib.hid hZ
  clear hZ
  have hsz : IntKind.i64.wrap (p * 128) = p * 128 := wraps_i64 _ (by omega) (by omega)
  have hp0 : ¬ (p < 1) := by omega
  have hp1 : ¬ (p > 64) := by omega
  have hn1 : ¬ ((n : Int) > 64) := by omega
  have hm1 : ¬ ((m : Int) > 64) := by omega
  have b0 := Blk.new w 29 #[.int .i64 en, .int .i64 p, .slice A n c, .slice B m d] [.int .i64 en, .int .i64 p, .slice A n c, .slice B m d] rfl
  have l0 := later1 w (.cells #[.int .i64 en, .int .i64 p, .slice A n c, .slice B m d] 29)
  have s0 := hs.keep l0
  clear hL hR hs he
  go_enter Tryd.func15, Tryd.ntmps15
  go_wp2_with (first
    | (go_at_call 38; refine (HE.out _).mono ?_; rintro e w1 ⟨rfl, rfl⟩))
  go_loopw [3, 4] (fun ev i wr => ∃ (k : Nat) (en0 : Int), k ≤ n ∧ i = .int .i64 (k : Int) ∧ ev = .int .i64 en0 ∧ 0 ≤ en0 ∧ en0 ≤ 8192 ∧ Hid (R = Im.ord (p * 128) en0 (L.drop k)) ∧ Blk wr w.heap.size 29 [.int .i64 en, .int .i64 p, .slice A n c, .slice B m d] ∧ Sl wr 2 A n (Gs L) ∧ Later w wr) (fun _ i _ => n - (intOf i).toNat)
  case atStart => exact ⟨0, 0, Nat.zero_le _, rfl, rfl, by omega, by omega, Lib.hid HR.out, b0, s0, l0⟩
  case round =>
    clear b0 s0 l0
    rename_i wr
    obtain ⟨k, en0, hk, rfl, rfl, e0, e1, HO, b0, hs, lr⟩ := hrel
    have c2 := b0.cell (j := 2) (v := .slice A n c) rfl
    by_cases hlt : k < n
    · have hkl : k < L.length := by rw [HLN.out]; exact hlt
      obtain ⟨ad, rfl⟩ := hs.addr (by omega)
      have HC := Lib.hid (hs.seg hkl)
      obtain ⟨h1, h2, h3⟩ := HL.out _ (List.getElem_mem hkl)
      have ho := HO.out
      rw [List.drop_eq_getElem_cons hkl] at ho
      obtain ⟨a, ha⟩ : ∃ a, a = L[k].1 := ⟨_, rfl⟩
      obtain ⟨s, hs'⟩ : ∃ s, s = L[k].2 := ⟨_, rfl⟩
      rw [← ha] at HC h1 h2
      rw [← hs'] at HC h3
      have kn : (k : Int) < (n : Int) := by omega
      have c1 := (b0.alloc (.cells #[.int .i64 a, .string s] 47)).cell (j := 1) (v := .int .i64 p) rfl
      by_cases hg : 0 < s.size ∧ en0 ≤ a ∧ a + s.size ≤ p * 128
      · have HX : Hid (R = Im.ord (p * 128) (a + s.size) (L.drop (k + 1))) := Lib.hid (ho.trans (by
          rw [Im.ord, ← ha, ← hs', decide_eq_true hg, Bool.true_and]))
        clear ho ha hs'
        obtain ⟨g1, g2, g3⟩ := hg
        have f1 : ((s.size : Int) == 0) = false := neq_false' (by omega)
        have f2 : decide (a < en0) = false := decide_eq_false (by omega)
        have f3 : decide (p * 128 < a) = false := decide_eq_false (by omega)
        have f4 : decide (p * 128 - a < (s.size : Int)) = false := decide_eq_false (by omega)
        go_wp2_with (first
          | ((with_reducible refine wpList_load_addr (o := ⟨some 43, .load 47 (.tmp 42), _, _, _, none⟩) rfl _ _ rfl (ad.add (k * 2)) [.int .i64 a, .string s] _ ?_ HC.out Tryd.underlying47 rfl (seg_sz _ _) ?_); rfl))
        go_roundw
        case rel => exact ⟨k + 1, _, by omega, by go_num, by go_num, by omega, by omega, HX, b0.alloc _, hs.keep (later1 _ _), Later.trans_ lr (later1 _ _)⟩
        case measure => simp [intOf]; omega
      · have HX : Hid (R = false) := Lib.hid (ho.trans (by
          rw [Im.ord, ← ha, ← hs', decide_eq_false hg, Bool.false_and]))
        have HF : Hid (Z = 3) := Lib.hid (by rw [HZ.out, HX.out]; rfl)
        clear ho ha hs'
        by_cases g1 : 0 < s.size
        · by_cases g2 : en0 ≤ a
          · by_cases g3 : a ≤ p * 128
            · have g4 : ¬ (a + s.size ≤ p * 128) := fun h => hg ⟨g1, g2, h⟩
              clear hg
              have f1 : ((s.size : Int) == 0) = false := neq_false' (by omega)
              have f2 : decide (a < en0) = false := decide_eq_false (by omega)
              have f3 : decide (p * 128 < a) = false := decide_eq_false (by omega)
              have f4 : decide (p * 128 - a < (s.size : Int)) = true := decide_eq_true (by omega)
              go_wp2_with (first
                | ((with_reducible refine wpList_load_addr (o := ⟨some 43, .load 47 (.tmp 42), _, _, _, none⟩) rfl _ _ rfl (ad.add (k * 2)) [.int .i64 a, .string s] _ ?_ HC.out Tryd.underlying47 rfl (seg_sz _ _) ?_); rfl))
              go_ret
              exact ⟨by rw [HF.out]; rfl, Later.trans_ lr (later1 _ _)⟩
            · clear hg
              have f1 : ((s.size : Int) == 0) = false := neq_false' (by omega)
              have f2 : decide (a < en0) = false := decide_eq_false (by omega)
              have f3 : decide (p * 128 < a) = true := decide_eq_true (by omega)
              go_wp2_with (first
                | ((with_reducible refine wpList_load_addr (o := ⟨some 43, .load 47 (.tmp 42), _, _, _, none⟩) rfl _ _ rfl (ad.add (k * 2)) [.int .i64 a, .string s] _ ?_ HC.out Tryd.underlying47 rfl (seg_sz _ _) ?_); rfl))
              go_ret
              exact ⟨by rw [HF.out]; rfl, Later.trans_ lr (later1 _ _)⟩
          · clear hg
            have f1 : ((s.size : Int) == 0) = false := neq_false' (by omega)
            have f2 : decide (a < en0) = true := decide_eq_true (by omega)
            go_wp2_with (first
              | ((with_reducible refine wpList_load_addr (o := ⟨some 43, .load 47 (.tmp 42), _, _, _, none⟩) rfl _ _ rfl (ad.add (k * 2)) [.int .i64 a, .string s] _ ?_ HC.out Tryd.underlying47 rfl (seg_sz _ _) ?_); rfl))
            go_ret
            exact ⟨by rw [HF.out]; rfl, Later.trans_ lr (later1 _ _)⟩
        · clear hg
          have f1 : ((s.size : Int) == 0) = true := beq_iff_eq.2 (by omega)
          go_wp2_with (first
            | ((with_reducible refine wpList_load_addr (o := ⟨some 43, .load 47 (.tmp 42), _, _, _, none⟩) rfl _ _ rfl (ad.add (k * 2)) [.int .i64 a, .string s] _ ?_ HC.out Tryd.underlying47 rfl (seg_sz _ _) ?_); rfl))
          go_ret
          exact ⟨by rw [HF.out]; rfl, Later.trans_ lr (later1 _ _)⟩
    · obtain rfl : k = n := by omega
      have ho := HO.out
      rw [List.drop_eq_nil_of_le (by rw [HLN.out]; exact Nat.le_refl _)] at ho
      have HF : Hid (Z = 0) := Lib.hid (by rw [HZ.out, ho]; rfl)
      have nlt : ¬ ((k : Int) < (k : Int)) := by omega
      clear ho
      go_wp2
      go_ret
      exact ⟨by rw [HF.out]; rfl, lr⟩
set_option maxRecDepth 100000 in
theorem rcheck_any (en p : Int) (A : Option Addr) (n c : Nat) (L : List Im.Seg) (B : Option Addr) (m d : Nat) (w : World) (hs : Sl w 2 A n (Gs L)) (hL : inSeg L) (hn : n ≤ maxLen) (hm : m ≤ maxLen) (hp : -9223372036854775808 ≤ p ∧ p ≤ 9223372036854775807) :
    Calls Tryd.prog 15 #[.agg #[.int .i64 en, .int .i64 p, .slice A n c, .slice B m d]] w fun e w' => e = .returned (.int .i64 (Im.chk en p L m)) ∧ Later w w' := by
  have HLN := hs.seglen
  unfold maxLen at hn hm
  have l0 := later1 w (.cells #[.int .i64 en, .int .i64 p, .slice A n c, .slice B m d] 29)
  unfold Im.chk
  rw [HLN]
  by_cases h1 : 1 ≤ p ∧ p ≤ 64
  · have HE := Lib.hid fun w' => enters_any en p h1 w'
    have hp0 : ¬ (p < 1) := by omega
    have hp1 : ¬ (p > 64) := by omega
    by_cases he : Im.entry en (p * 128) = true
    · rw [if_pos ⟨h1.1, h1.2, he⟩]
      by_cases h3 : 64 < n
      · rw [if_pos (.inl h3)]
        rw [he] at HE
        have h3' : (n : Int) > 64 := by omega
        clear hs hL HLN he
        go_enter Tryd.func15, Tryd.ntmps15
        go_wp2_with (first
          | (go_at_call 38; refine (HE.out _).mono ?_; rintro e w1 ⟨rfl, rfl⟩))
        go_ret
        exact ⟨rfl, l0⟩
      · by_cases h4 : 64 < m
        · rw [if_pos (.inr h4)]
          rw [he] at HE
          have h3' : ¬ ((n : Int) > 64) := by omega
          have h4' : (m : Int) > 64 := by omega
          clear hs hL HLN he
          go_enter Tryd.func15, Tryd.ntmps15
          go_wp2_with (first
            | (go_at_call 38; refine (HE.out _).mono ?_; rintro e w1 ⟨rfl, rfl⟩))
          go_ret
          exact ⟨rfl, l0⟩
        · rw [if_neg (by omega)]
          exact rcheck_in en p A n c L B m d w hs hL (by omega) (by omega) h1 he
    · rw [if_neg (fun h => he h.2.2)]
      have he' : Im.entry en (p * 128) = false := by simpa using he
      rw [he'] at HE
      clear hs hL HLN he he'
      go_enter Tryd.func15, Tryd.ntmps15
      go_wp2_with (first
        | (go_at_call 38; refine (HE.out _).mono ?_; rintro e w1 ⟨rfl, rfl⟩))
      go_ret
      exact ⟨rfl, l0⟩
  · rw [if_neg (fun h => h1 ⟨h.1, h.2.1⟩)]
    clear hs hL HLN
    by_cases h2 : p < 1
    · go_enter Tryd.func15, Tryd.ntmps15
      go_wp2
      go_ret
      exact ⟨rfl, l0⟩
    · have h3 : p > 64 := by omega
      go_enter Tryd.func15, Tryd.ntmps15
      go_wp2
      go_ret
      exact ⟨rfl, l0⟩
set_option maxRecDepth 100000 in
theorem rcheckI (w : World) (v : Value) (x : Dat) (h : Img w v x) : Calls Tryd.prog 15 #[v] w fun e w' => e = .returned (.int .i64 x.chk) ∧ Later w w' := by
  obtain ⟨A, n, c, B, cd, rfl, h1, h2, h3, h5, h6, h7, h8, h9, h10⟩ := h
  exact rcheck_any x.en x.p A n c x.L B x.m cd w h1 h3 (by unfold maxLen; omega) (by unfold maxLen; omega) h8
end Go.Proofs.YtjfphjgmphlbhaaDoor

/-
  WHAT THE STATEMENTS OF image NEED: their arguments opened; the tables laid.
-/
namespace Go.Proofs.YtjfphjgmphlbhaaDoor
open Go.RowKit Go.ChangeShapes Go.WideShapes Go.ChangeAt

section
variable {H : Type} {enc : TypeId × Value → H} {P : Program} {W : World} {r : Reach} {b0 : Nat} {v : Value} {d : DataW H} {p : List MemPlace}
set_option maxRecDepth 100000 in
theorem u8_arg {t : TypeId} (ht : P.underlying t = some (.int .u8)) (hv : Value.okWide P W r b0 t v) (h : DataW.Trod enc P W 0 (fun _ => true) true t v d p) : ∃ n : Int, v = .int .u8 n ∧ 0 ≤ n ∧ n < 256 := by
  obtain ⟨n, rfl, _, _, hw⟩ := open_int ht hv h
  have h1 : IntKind.u8.min = 0 := rfl
  have h2 : IntKind.u8.max = 255 := rfl
  simp only [Lit.wf, Bool.and_eq_true, decide_eq_true_eq] at hw
  exact ⟨n, rfl, by omega, by omega⟩
set_option maxRecDepth 100000 in
theorem u16_arg {t : TypeId} (ht : P.underlying t = some (.int .u16)) (hv : Value.okWide P W r b0 t v) (h : DataW.Trod enc P W 0 (fun _ => true) true t v d p) : ∃ n : Int, v = .int .u16 n ∧ 0 ≤ n ∧ n < 65536 := by
  obtain ⟨n, rfl, _, _, hw⟩ := open_int ht hv h
  have h1 : IntKind.u16.min = 0 := rfl
  have h2 : IntKind.u16.max = 65535 := rfl
  simp only [Lit.wf, Bool.and_eq_true, decide_eq_true_eq] at hw
  exact ⟨n, rfl, by omega, by omega⟩
set_option maxRecDepth 100000 in
theorem seg_open {t : TypeId} {f0 f1 : Field} {fuel : Nat} {cs : List Value} {x : DataW H × List MemPlace} (ht : P.underlying t = some (.struct #[f0, f1])) (o0 : f0.offset = 0) (o1 : f1.offset = 1)
    (h0 : P.underlying f0.type = some (.int .i64)) (h1 : P.underlying f1.type = some .string) (c0 : P.cellsOf f0.type = 1) (c1 : P.cellsOf f1.type = 1) (hct : P.cellsOf t = 2)
    (hf : DataW.trod enc P W 0 (fun _ => true) true fuel t cs = some x) : ∃ y : Im.Seg, cs = Gc y ∧ -9223372036854775808 ≤ y.1 ∧ y.1 ≤ 9223372036854775807 ∧ y.2.size ≤ 9223372036854775807 := by
  obtain ⟨y0, y1, m, _, hl, k0, k1⟩ := trod_struct2 ht hf
  rw [o0, c0] at k0
  rw [o1, c1] at k1
  obtain ⟨z0, e0, _, w0⟩ := DataW.trod_int h0 k0
  obtain ⟨z1, e1, _, w1⟩ := DataW.trod_string h1 k1
  have a0 : IntKind.i64.min = -9223372036854775808 := rfl
  have a1 : IntKind.i64.max = 9223372036854775807 := rfl
  simp only [Lit.wf, Bool.and_eq_true, decide_eq_true_eq] at w0
  unfold maxLen at w1
  refine ⟨(z0, z1), ?_, by simp only; omega, by simp only; omega, by simp only; omega⟩
  rw [hct] at hl
  match cs, hl with
  | [x, y], _ =>
    simp at e0 e1
    rw [e0, e1]
    rfl
set_option maxRecDepth 100000 in
theorem segs_open {t e : TypeId} {f0 f1 : Field} {fuel : Nat} {cs : List Value} {x : DataW H × List MemPlace} (hs : P.underlying t = some (.slice e)) (ht : P.underlying e = some (.struct #[f0, f1])) (o0 : f0.offset = 0) (o1 : f1.offset = 1)
    (h0 : P.underlying f0.type = some (.int .i64)) (h1 : P.underlying f1.type = some .string) (c0 : P.cellsOf f0.type = 1) (c1 : P.cellsOf f1.type = 1) (hct : P.cellsOf e = 2)
    (hf : DataW.trod enc P W 0 (fun _ => true) true fuel t cs = some x) : ∃ A n c L, cs = [.slice A n c] ∧ n ≤ c ∧ c ≤ maxLen ∧ Sl W 2 A n (Gs L) ∧ inSeg L := by
  rcases Deep.open_slice hs hf with ⟨hcs, hx⟩ | ⟨a, len, cap, m, n, D, Pl, hcs, _, hl, hm, hmm, hx, hel⟩
  · exact ⟨none, 0, 0, [], hcs, Nat.le_refl _, Nat.zero_le _, Sl.nil _ _ _, fun x hx => by cases hx⟩
  · simp only [if_true] at hmm
    have each : ∀ i, i < len → ∃ y : Im.Seg, (-9223372036854775808 ≤ y.1 ∧ y.1 ≤ 9223372036854775807 ∧ y.2.size ≤ 9223372036854775807) ∧ ∀ j, j < 2 → W.cell? ((a.add (i * 2)).add j) = (Gc y)[j]? := by
      intro i hi
      obtain ⟨cs', h3, h4⟩ := hel i (by omega)
      rw [hct] at h3
      obtain ⟨w, rfl, h5⟩ := seg_open ht o0 o1 h0 h1 c0 c1 hct h4
      exact ⟨w, h5, (cells_at h3).2⟩
    obtain ⟨f, hfl⟩ := Deep.choose_lt each
    refine ⟨some a, len, cap, (List.range len).map f, hcs, hl, hm, ⟨by rw [Gs_len]; simp, fun hn => ⟨a, rfl, ?_, ?_⟩⟩, fun w hw => ?_⟩
    · have h3 := (hfl 0 hn).2 0 (by omega)
      have h4 := World.block_lt_of_cell? W _ (h3.trans (show (Gc (f 0))[0]? = some _ from rfl))
      rwa [addr_add_block, addr_add_block] at h4
    · intro j y hy
      have hj : j < len * 2 := by
        rcases Nat.lt_or_ge j (len * 2) with h | h
        · exact h
        · rw [List.getElem?_eq_none (by rw [Gs_len]; simpa using h)] at hy; cases hy
      have h3 := (hfl (j / 2) (by omega)).2 (j % 2) (by omega)
      rw [addr_add_add, show j / 2 * 2 + j % 2 = j by omega] at h3
      rw [h3]
      have h4 := Gs_at ((List.range len).map f) (j / 2) (by simp; omega) (j % 2) (by omega)
      rw [show j / 2 * 2 + j % 2 = j by omega] at h4
      rw [← hy, h4]
      simp
    · obtain ⟨i, hi, rfl⟩ := List.mem_map.1 hw
      exact (hfl i (by simpa using hi)).1
set_option maxRecDepth 100000 in
/-- An image. -/
theorem image_open {t ts te tp tg tu : TypeId} {f0 f1 f2 f3 g0 g1 : Field} (ht : P.underlying t = some (.struct #[f0, f1, f2, f3])) (o0 : f0.offset = 0) (o1 : f1.offset = 1) (o2 : f2.offset = 2) (o3 : f3.offset = 3)
    (h0 : P.underlying f0.type = some (.int .i64)) (h1 : P.underlying f1.type = some (.int .i64)) (e2 : f2.type = ts) (e3 : f3.type = tp) (h2 : P.underlying ts = some (.slice te)) (h3 : P.underlying tp = some (.slice tg))
    (k2 : P.underlying te = some (.struct #[g0, g1])) (p0 : g0.offset = 0) (p1 : g1.offset = 1) (q0 : P.underlying g0.type = some (.int .i64)) (q1 : P.underlying g1.type = some .string) (s0 : P.cellsOf g0.type = 1) (s1 : P.cellsOf g1.type = 1) (s2 : P.cellsOf te = 2)
    (k3 : P.underlying tg = some (.array 128 tu)) (k4 : P.underlying tu = some (.int .u8)) (s3 : P.cellsOf tg = 128) (s4 : P.cellsOf tu = 1)
    (c0 : P.cellsOf f0.type = 1) (c1 : P.cellsOf f1.type = 1) (c2 : P.cellsOf ts = 1) (c3 : P.cellsOf tp = 1) (hct : P.cellsOf t = 4)
    (hv : Value.okWide P W r b0 t v) (h : DataW.Trod enc P W 0 (fun _ => true) true t v d p) :
    ∃ en p A n c L B m cd b, v = .agg #[.int .i64 en, .int .i64 p, .slice A n c, .slice B m cd] ∧ (-9223372036854775808 ≤ en ∧ en ≤ 9223372036854775807) ∧ (-9223372036854775808 ≤ p ∧ p ≤ 9223372036854775807) ∧ (n ≤ c ∧ c ≤ maxLen) ∧ Sl W 2 A n (Gs L) ∧ inSeg L ∧ (m ≤ cd ∧ cd ≤ maxLen) ∧ Sl W 128 B m (U b) ∧ Wm.isBs b := by
  obtain ⟨cs, rfl, hsz⟩ := okWide_struct ht hv
  obtain ⟨fuel, hf⟩ := h
  obtain ⟨y0, y1, y2, y3, m, _, hl, j0, j1, j2, j3⟩ := Go.Joins.trod_struct4 ht hf
  rw [o0, c0] at j0
  rw [o1, c1] at j1
  rw [o2, e2, c2] at j2
  rw [o3, e3, c3] at j3
  obtain ⟨z0, e0, _, w0⟩ := DataW.trod_int h0 j0
  obtain ⟨z1, e1, _, w1⟩ := DataW.trod_int h1 j1
  obtain ⟨A, n, c, L, r0, r1, r2, r3, r4⟩ := segs_open h2 k2 p0 p1 q0 q1 s0 s1 s2 j2
  obtain ⟨B, m2, cd, b, t0, t1, t2, t3, t4⟩ := pages_open (K := 128) (by omega) h3 k3 k4 s3 s4 j3
  have a0 : IntKind.i64.min = -9223372036854775808 := rfl
  have a1 : IntKind.i64.max = 9223372036854775807 := rfl
  simp only [Lit.wf, Bool.and_eq_true, decide_eq_true_eq] at w0 w1
  refine ⟨z0, z1, A, n, c, L, B, m2, cd, b, ?_, by omega, by omega, ⟨r1, r2⟩, r3, r4, ⟨t1, t2⟩, t3, t4⟩
  obtain ⟨l2⟩ := cs
  rw [hct] at hl
  match l2, hl with
  | [x, y, z, u], _ =>
    simp [Value.cells] at e0 e1 r0 t0
    rw [e0, e1, r0, t0]
end
set_option maxRecDepth 100000 in
theorem image_arg {H : Type} {enc : TypeId × Value → H} {W : World} {r : Reach} {b0 : Nat} {v : Value} {d : DataW H} {p : List MemPlace} (hv : Value.okWide Tryd.prog W r b0 29 v) (h : DataW.Trod enc Tryd.prog W 0 (fun _ => true) true 29 v d p) :
    ∃ en p A n c L B m cd b, v = .agg #[.int .i64 en, .int .i64 p, .slice A n c, .slice B m cd] ∧ (-9223372036854775808 ≤ en ∧ en ≤ 9223372036854775807) ∧ (-9223372036854775808 ≤ p ∧ p ≤ 9223372036854775807) ∧ (n ≤ c ∧ c ≤ maxLen) ∧ Sl W 2 A n (Gs L) ∧ inSeg L ∧ (m ≤ cd ∧ cd ≤ maxLen) ∧ Sl W 128 B m (U b) ∧ Wm.isBs b :=
  image_open Tryd.underlying29 rfl rfl rfl rfl Tryd.underlying3 Tryd.underlying3 rfl rfl Tryd.underlying27 Tryd.underlying22 Tryd.underlying47 rfl rfl Tryd.underlying3 Tryd.underlying9 (by kernel_rfl) (by kernel_rfl) (by kernel_rfl)
    Tryd.underlying76 Tryd.underlying5 (by kernel_rfl) (by kernel_rfl) (by kernel_rfl) (by kernel_rfl) (by kernel_rfl) (by kernel_rfl) (by kernel_rfl) hv h
end Go.Proofs.YtjfphjgmphlbhaaDoor

/-
  THE TABLES OF A ROW; the world of the witness.
-/
namespace Go.Proofs.YtjfphjgmphlbhaaDoor
open Go.RowKit Go.ChangeShapes Go.WideShapes Go.ChangeAt

set_option maxRecDepth 100000 in
noncomputable def leafV : DataW Unit → Value
  | .lit (.int k z) => .int k z
  | _ => undef
set_option maxRecDepth 100000 in
noncomputable def flat1 : DataW Unit → List Value
  | .agg l => l.map leafV
  | _ => []
set_option maxRecDepth 100000 in
noncomputable def flat2 : DataW Unit → List Value
  | .agg l => l.flatMap flat1
  | _ => []
set_option maxRecDepth 100000 in
noncomputable def layC (l : List Value) (o : Obj) : Obj := match o with
  | .cells _ t frozen => .cells l.toArray t frozen
  | o => o
set_option maxRecDepth 100000 in
/-- A world for the witness. -/
noncomputable def laidWorldI (os : Os) : World :=
  { World.holding Tryd.prog os ⟨#[], #[], []⟩ with heap := (((World.holding Tryd.prog os ⟨#[], #[], []⟩).heap.modify 0 (layC (flat1 Rows.laid_simulacrum_hash_rounds))).modify 1 (layC (flat1 Rows.laid_unicode_utf8_first))).modify 2 (layC (flat2 Rows.laid_unicode_utf8_acceptRanges)) }
end Go.Proofs.YtjfphjgmphlbhaaDoor
