/-
  THE STATEMENT AluOrders: words are ordered, signed and unsigned; it holds for every three words.
-/
import Derived.Test.YtonfdgbohmcpjaaAluJ
namespace Go.Proofs.Ytonfdgbohmcpjaa
open Go.RowKit Go.ChangeShapes Go.WideShapes Go.ChangeAt

/-- What a comparison goes by. -/
def key (op : Int) (x : BitVec 32) : Int := if op = 30 then Al.sg x else x.toNat
theorem sg_inj {x y : BitVec 32} (h : Al.sg x = Al.sg y) : x = y := by
  have h1 := x.isLt
  have h2 := y.isLt
  unfold Al.sg at h
  refine Al.wI_inj.1 ?_
  unfold Al.wI at h ⊢
  split at h <;> split at h <;> omega
theorem key_inj {op : Int} {x y : BitVec 32} (h : key op x = key op y) : x = y := by
  unfold key at h
  split at h
  · exact sg_inj h
  · exact BitVec.eq_of_toNat_eq (by omega)
theorem tkb_key {op : Int} (h : op = 30 ∨ op = 31) (x y : BitVec 32) : Al.tkb op x y = decide (key op x < key op y) := by
  rcases h with rfl | rfl
  · rfl
  · show decide (x.toNat < y.toNat) = decide ((x.toNat : Int) < (y.toNat : Int))
    by_cases h : x.toNat < y.toNat
    · rw [decide_eq_true h, decide_eq_true (by omega)]
    · rw [decide_eq_false h, decide_eq_false (by omega)]
theorem dob_key {op : Int} (h : op = 30 ∨ op = 31) (x y : BitVec 32) : Al.dob (op - 19) x y = if key op x < key op y then 1#32 else 0#32 := by
  rcases h with rfl | rfl
  · rfl
  · show (if x.toNat < y.toNat then 1#32 else 0#32) = if (x.toNat : Int) < (y.toNat : Int) then 1#32 else 0#32
    by_cases h : x.toNat < y.toNat
    · rw [if_pos h, if_pos (by omega)]
    · rw [if_neg h, if_neg (by omega)]
theorem flip_key (x y : BitVec 32) : Al.tkb 31 (x ^^^ 2147483648#32) (y ^^^ 2147483648#32) = Al.tkb 30 x y := by
  have f : ∀ z : BitVec 32, ((z ^^^ 2147483648#32).toNat : Int) = Al.sg z + 2147483648 := by
    intro z
    have hz := z.isLt
    have e : z ^^^ 2147483648#32 = z + 2147483648#32 := by
      apply BitVec.eq_of_getLsbD_eq
      intro i hi
      rw [show (2147483648#32 : BitVec 32) = BitVec.intMin 32 from rfl]
      rw [BitVec.getLsbD_xor, BitVec.getLsbD_intMin]
      rw [BitVec.add_comm]
      rw [BitVec.getLsbD_add hi]
      have hc : BitVec.carry i (BitVec.intMin 32) z false = false := by
        by_cases h31 : i ≤ 31
        · unfold BitVec.carry
          rw [decide_eq_false]
          rw [show (BitVec.intMin 32).toNat = 2 ^ 31 from rfl]
          have h1 : 2 ^ 31 % 2 ^ i = 0 := Nat.mod_eq_zero_of_dvd (Nat.pow_dvd_pow 2 h31)
          rw [h1]
          have h2 := Nat.mod_lt z.toNat (Nat.two_pow_pos i)
          simp only [Bool.toNat_false]
          omega
        · omega
      rw [hc, BitVec.getLsbD_intMin]
      cases z.getLsbD i <;> simp
    rw [e, BitVec.toNat_add]
    unfold Al.sg Al.wI
    rw [show (2147483648#32 : BitVec 32).toNat = 2147483648 from rfl]
    split <;> omega
  rw [tkb_key (.inr rfl), tkb_key (.inl rfl)]
  show decide (((x ^^^ 2147483648#32).toNat : Int) < ((y ^^^ 2147483648#32).toNat : Int)) = decide (Al.sg x < Al.sg y)
  rw [f, f]
  by_cases h : Al.sg x < Al.sg y
  · rw [decide_eq_true h, decide_eq_true (by omega)]
  · rw [decide_eq_false h, decide_eq_false (by omega)]
set_option maxRecDepth 100000 in
set_option maxHeartbeats 4000000 in
theorem lawOrders_any (x y z : BitVec 32) (w : World) : Calls Try.prog 8 #[.int .u32 (Al.wI x), .int .u32 (Al.wI y), .int .u32 (Al.wI z)] w fun e w' => e = .returned (.bool true) ∧ Later w w' := by
  obtain ⟨a, ha⟩ : ∃ v, v = Al.wI x := ⟨_, rfl⟩
  obtain ⟨b, hb⟩ : ∃ v, v = Al.wI y := ⟨_, rfl⟩
  obtain ⟨c, hc⟩ : ∃ v, v = Al.wI z := ⟨_, rfl⟩
  rw [← ha, ← hb, ← hc]
  have HA := Lib.hid ha
  have HB := Lib.hid hb
  have HC := Lib.hid hc
  clear ha hb hc
  have HSN := Lib.hid sanity_any
  go_enter Try.func8, Try.ntmps8
  go_wp2
  go_loopw [7] (fun i wr => ∃ k : Nat, 30 ≤ k ∧ k ≤ 32 ∧ i = .int .i64 k ∧ Later w wr) (fun i _ => 32 - (intOf i).toNat)
  case atStart => exact ⟨30, by omega, by omega, rfl, Below.refl _ _⟩
  case round =>
    obtain ⟨k, hk0, hk1, rfl, hw⟩ := hrel
    rcases (show k = 30 ∨ k = 31 ∨ k = 32 by omega) with rfl | rfl | rfl
    · clear hk0 hk1
      have HW := Lib.hid hw
      clear hw
      rw [show (((30 : Nat)) : Int) = 30 from rfl]
      rcases Int.lt_trichotomy (key 30 x) (key 30 y) with h | h | h
      · have TA := tk (r := true) 30 HA.out HB.out (by rw [tkb_key (.inl rfl)]; exact decide_eq_true h)
        have TB := tk (r := false) 30 HB.out HA.out (by rw [tkb_key (.inl rfl)]; exact decide_eq_false (by omega))
        have TE := tk (r := false) 28 HA.out HB.out (beq_false_of_ne (fun e => by rw [e] at h; omega))
        have KD := dk (rI := 1) (r := 1#32) 11 HA.out HB.out rfl (by rw [show (11 : Int) = 30 - 19 from rfl, dob_key (.inl rfl)]; exact if_pos h)
        by_cases h2 : key 30 y < key 30 z
        · have TC := tk (r := true) 30 HB.out HC.out (by rw [tkb_key (.inl rfl)]; exact decide_eq_true h2)
          have TD := tk (r := true) 30 HA.out HC.out (by rw [tkb_key (.inl rfl)]; exact decide_eq_true (by omega))
          clear h h2
          go_wp2_with (first | (go_at_call 13; (first | (with_reducible refine (TA.out _).mono ?_) | (with_reducible refine (TB.out _).mono ?_) | (with_reducible refine (TE.out _).mono ?_) | (with_reducible refine (TC.out _).mono ?_) | (with_reducible refine (TD.out _).mono ?_)); rintro e w1 ⟨rfl, l1⟩) | (go_at_call 23; refine (KD.out _).mono ?_; rintro e w1 ⟨rfl, l1⟩))
          go_round
          case rel => exact ⟨31, by omega, by omega, rfl, by have hW := HW.out; clear HW; repeat (first | assumption | refine Later.trans_ ?_ (by assumption))⟩
          case measure => simp [intOf]
        · have TC := tk (r := false) 30 HB.out HC.out (by rw [tkb_key (.inl rfl)]; exact decide_eq_false h2)
          clear h h2
          go_wp2_with (first | (go_at_call 13; (first | (with_reducible refine (TA.out _).mono ?_) | (with_reducible refine (TB.out _).mono ?_) | (with_reducible refine (TE.out _).mono ?_) | (with_reducible refine (TC.out _).mono ?_)); rintro e w1 ⟨rfl, l1⟩) | (go_at_call 23; refine (KD.out _).mono ?_; rintro e w1 ⟨rfl, l1⟩))
          go_round
          case rel => exact ⟨31, by omega, by omega, rfl, by have hW := HW.out; clear HW; repeat (first | assumption | refine Later.trans_ ?_ (by assumption))⟩
          case measure => simp [intOf]
      · have TA := tk (r := false) 30 HA.out HB.out (by rw [tkb_key (.inl rfl)]; exact decide_eq_false (by omega))
        have TB := tk (r := false) 30 HB.out HA.out (by rw [tkb_key (.inl rfl)]; exact decide_eq_false (by omega))
        have TE := tk (r := true) 28 HA.out HB.out (beq_iff_eq.2 (key_inj h))
        have KD := dk (rI := 0) (r := 0#32) 11 HA.out HB.out rfl (by rw [show (11 : Int) = 30 - 19 from rfl, dob_key (.inl rfl)]; exact if_neg (by omega))
        clear h
        go_wp2_with (first | (go_at_call 13; (first | (with_reducible refine (TA.out _).mono ?_) | (with_reducible refine (TB.out _).mono ?_) | (with_reducible refine (TE.out _).mono ?_)); rintro e w1 ⟨rfl, l1⟩) | (go_at_call 23; refine (KD.out _).mono ?_; rintro e w1 ⟨rfl, l1⟩))
        go_round
        case rel => exact ⟨31, by omega, by omega, rfl, by have hW := HW.out; clear HW; repeat (first | assumption | refine Later.trans_ ?_ (by assumption))⟩
        case measure => simp [intOf]
      · have TA := tk (r := false) 30 HA.out HB.out (by rw [tkb_key (.inl rfl)]; exact decide_eq_false (by omega))
        have TB := tk (r := true) 30 HB.out HA.out (by rw [tkb_key (.inl rfl)]; exact decide_eq_true h)
        have TE := tk (r := false) 28 HA.out HB.out (beq_false_of_ne (fun e => by rw [e] at h; omega))
        have KD := dk (rI := 0) (r := 0#32) 11 HA.out HB.out rfl (by rw [show (11 : Int) = 30 - 19 from rfl, dob_key (.inl rfl)]; exact if_neg (by omega))
        clear h
        go_wp2_with (first | (go_at_call 13; (first | (with_reducible refine (TA.out _).mono ?_) | (with_reducible refine (TB.out _).mono ?_) | (with_reducible refine (TE.out _).mono ?_)); rintro e w1 ⟨rfl, l1⟩) | (go_at_call 23; refine (KD.out _).mono ?_; rintro e w1 ⟨rfl, l1⟩))
        go_round
        case rel => exact ⟨31, by omega, by omega, rfl, by have hW := HW.out; clear HW; repeat (first | assumption | refine Later.trans_ ?_ (by assumption))⟩
        case measure => simp [intOf]
    · clear hk0 hk1
      have HW := Lib.hid hw
      clear hw
      rw [show (((31 : Nat)) : Int) = 31 from rfl]
      rcases Int.lt_trichotomy (key 31 x) (key 31 y) with h | h | h
      · have TA := tk (r := true) 31 HA.out HB.out (by rw [tkb_key (.inr rfl)]; exact decide_eq_true h)
        have TB := tk (r := false) 31 HB.out HA.out (by rw [tkb_key (.inr rfl)]; exact decide_eq_false (by omega))
        have TE := tk (r := false) 28 HA.out HB.out (beq_false_of_ne (fun e => by rw [e] at h; omega))
        have KD := dk (rI := 1) (r := 1#32) 12 HA.out HB.out rfl (by rw [show (12 : Int) = 31 - 19 from rfl, dob_key (.inr rfl)]; exact if_pos h)
        by_cases h2 : key 31 y < key 31 z
        · have TC := tk (r := true) 31 HB.out HC.out (by rw [tkb_key (.inr rfl)]; exact decide_eq_true h2)
          have TD := tk (r := true) 31 HA.out HC.out (by rw [tkb_key (.inr rfl)]; exact decide_eq_true (by omega))
          clear h h2
          go_wp2_with (first | (go_at_call 13; (first | (with_reducible refine (TA.out _).mono ?_) | (with_reducible refine (TB.out _).mono ?_) | (with_reducible refine (TE.out _).mono ?_) | (with_reducible refine (TC.out _).mono ?_) | (with_reducible refine (TD.out _).mono ?_)); rintro e w1 ⟨rfl, l1⟩) | (go_at_call 23; refine (KD.out _).mono ?_; rintro e w1 ⟨rfl, l1⟩))
          go_round
          case rel => exact ⟨32, by omega, by omega, rfl, by have hW := HW.out; clear HW; repeat (first | assumption | refine Later.trans_ ?_ (by assumption))⟩
          case measure => simp [intOf]
        · have TC := tk (r := false) 31 HB.out HC.out (by rw [tkb_key (.inr rfl)]; exact decide_eq_false h2)
          clear h h2
          go_wp2_with (first | (go_at_call 13; (first | (with_reducible refine (TA.out _).mono ?_) | (with_reducible refine (TB.out _).mono ?_) | (with_reducible refine (TE.out _).mono ?_) | (with_reducible refine (TC.out _).mono ?_)); rintro e w1 ⟨rfl, l1⟩) | (go_at_call 23; refine (KD.out _).mono ?_; rintro e w1 ⟨rfl, l1⟩))
          go_round
          case rel => exact ⟨32, by omega, by omega, rfl, by have hW := HW.out; clear HW; repeat (first | assumption | refine Later.trans_ ?_ (by assumption))⟩
          case measure => simp [intOf]
      · have TA := tk (r := false) 31 HA.out HB.out (by rw [tkb_key (.inr rfl)]; exact decide_eq_false (by omega))
        have TB := tk (r := false) 31 HB.out HA.out (by rw [tkb_key (.inr rfl)]; exact decide_eq_false (by omega))
        have TE := tk (r := true) 28 HA.out HB.out (beq_iff_eq.2 (key_inj h))
        have KD := dk (rI := 0) (r := 0#32) 12 HA.out HB.out rfl (by rw [show (12 : Int) = 31 - 19 from rfl, dob_key (.inr rfl)]; exact if_neg (by omega))
        clear h
        go_wp2_with (first | (go_at_call 13; (first | (with_reducible refine (TA.out _).mono ?_) | (with_reducible refine (TB.out _).mono ?_) | (with_reducible refine (TE.out _).mono ?_)); rintro e w1 ⟨rfl, l1⟩) | (go_at_call 23; refine (KD.out _).mono ?_; rintro e w1 ⟨rfl, l1⟩))
        go_round
        case rel => exact ⟨32, by omega, by omega, rfl, by have hW := HW.out; clear HW; repeat (first | assumption | refine Later.trans_ ?_ (by assumption))⟩
        case measure => simp [intOf]
      · have TA := tk (r := false) 31 HA.out HB.out (by rw [tkb_key (.inr rfl)]; exact decide_eq_false (by omega))
        have TB := tk (r := true) 31 HB.out HA.out (by rw [tkb_key (.inr rfl)]; exact decide_eq_true h)
        have TE := tk (r := false) 28 HA.out HB.out (beq_false_of_ne (fun e => by rw [e] at h; omega))
        have KD := dk (rI := 0) (r := 0#32) 12 HA.out HB.out rfl (by rw [show (12 : Int) = 31 - 19 from rfl, dob_key (.inr rfl)]; exact if_neg (by omega))
        clear h
        go_wp2_with (first | (go_at_call 13; (first | (with_reducible refine (TA.out _).mono ?_) | (with_reducible refine (TB.out _).mono ?_) | (with_reducible refine (TE.out _).mono ?_)); rintro e w1 ⟨rfl, l1⟩) | (go_at_call 23; refine (KD.out _).mono ?_; rintro e w1 ⟨rfl, l1⟩))
        go_round
        case rel => exact ⟨32, by omega, by omega, rfl, by have hW := HW.out; clear HW; repeat (first | assumption | refine Later.trans_ ?_ (by assumption))⟩
        case measure => simp [intOf]
    · clear hk0 hk1
      have HW := Lib.hid hw
      clear hw
      rw [show (((32 : Nat)) : Int) = 32 from rfl]
      obtain ⟨x', hx'⟩ : ∃ v, v = Al.wI (x ^^^ 2147483648#32) := ⟨_, rfl⟩
      obtain ⟨y', hy'⟩ : ∃ v, v = Al.wI (y ^^^ 2147483648#32) := ⟨_, rfl⟩
      have KX := dk (cI := 2147483648) (t := 2147483648#32) 5 HA.out rfl hx' rfl
      have KY := dk (cI := 2147483648) (t := 2147483648#32) 5 HB.out rfl hy' rfl
      have HS1 : Hid (∀ w, Calls Try.prog 17 #[.int .u32 a] w fun e w' => e = .returned (.int .i64 (Al.sg x)) ∧ w = w') := Lib.hid fun w => by rw [HA.out, ← Al.S_w]; exact signed_any (Al.wI_nn _) (Al.wI_lt _) w
      have HS2 : Hid (∀ w, Calls Try.prog 17 #[.int .u32 b] w fun e w' => e = .returned (.int .i64 (Al.sg y)) ∧ w = w') := Lib.hid fun w => by rw [HB.out, ← Al.S_w]; exact signed_any (Al.wI_nn _) (Al.wI_lt _) w
      obtain ⟨q, hq⟩ : ∃ q, q = Al.tkb 28 x y := ⟨_, rfl⟩
      obtain ⟨l, hl⟩ : ∃ l, l = Al.tkb 30 x y := ⟨_, rfl⟩
      have hlt : decide (Al.sg x < Al.sg y) = l := hl.symm
      have TA := tk 30 HA.out HB.out hl.symm
      have TE := tk 28 HA.out HB.out hq.symm
      have TN := tk (r := !q) 29 HA.out HB.out (by rw [hq]; rfl)
      have TF := tk 31 hx' hy' ((flip_key x y).trans hl.symm)
      obtain ⟨s, hs⟩ : ∃ s, s = Al.sg x := ⟨_, rfl⟩
      obtain ⟨t, ht⟩ : ∃ t, t = Al.sg y := ⟨_, rfl⟩
      rw [← hs] at HS1 hlt
      rw [← ht] at HS2 hlt
      clear hs ht hx' hy' hq hl
      cases q <;> cases l
      · have HL := of_decide_eq_false hlt
        go_wp2_with (first
          | (go_at_call 23; (first | (with_reducible refine (KX.out _).mono ?_) | (with_reducible refine (KY.out _).mono ?_)); rintro e w1 ⟨rfl, l1⟩)
          | (go_at_call 13; (first | (with_reducible refine (TA.out _).mono ?_) | (with_reducible refine (TE.out _).mono ?_) | (with_reducible refine (TN.out _).mono ?_) | (with_reducible refine (TF.out _).mono ?_)); rintro e w1 ⟨rfl, l1⟩)
          | (go_at_call 17; (first | (with_reducible refine (HS1.out _).mono ?_) | (with_reducible refine (HS2.out _).mono ?_)); rintro e w1 ⟨rfl, rfl⟩)
          | (go_at_call 12; refine (HSN.out _).mono ?_; rintro e ws ⟨rfl, ls⟩))
        go_ret
        exact ⟨rfl, by have hW := HW.out; clear HW; repeat (first | assumption | refine Later.trans_ ?_ (by assumption))⟩
      · have HL := of_decide_eq_true hlt
        go_wp2_with (first
          | (go_at_call 23; (first | (with_reducible refine (KX.out _).mono ?_) | (with_reducible refine (KY.out _).mono ?_)); rintro e w1 ⟨rfl, l1⟩)
          | (go_at_call 13; (first | (with_reducible refine (TA.out _).mono ?_) | (with_reducible refine (TE.out _).mono ?_) | (with_reducible refine (TN.out _).mono ?_) | (with_reducible refine (TF.out _).mono ?_)); rintro e w1 ⟨rfl, l1⟩)
          | (go_at_call 17; (first | (with_reducible refine (HS1.out _).mono ?_) | (with_reducible refine (HS2.out _).mono ?_)); rintro e w1 ⟨rfl, rfl⟩)
          | (go_at_call 12; refine (HSN.out _).mono ?_; rintro e ws ⟨rfl, ls⟩))
        go_ret
        exact ⟨rfl, by have hW := HW.out; clear HW; repeat (first | assumption | refine Later.trans_ ?_ (by assumption))⟩
      · have HL := of_decide_eq_false hlt
        go_wp2_with (first
          | (go_at_call 23; (first | (with_reducible refine (KX.out _).mono ?_) | (with_reducible refine (KY.out _).mono ?_)); rintro e w1 ⟨rfl, l1⟩)
          | (go_at_call 13; (first | (with_reducible refine (TA.out _).mono ?_) | (with_reducible refine (TE.out _).mono ?_) | (with_reducible refine (TN.out _).mono ?_) | (with_reducible refine (TF.out _).mono ?_)); rintro e w1 ⟨rfl, l1⟩)
          | (go_at_call 17; (first | (with_reducible refine (HS1.out _).mono ?_) | (with_reducible refine (HS2.out _).mono ?_)); rintro e w1 ⟨rfl, rfl⟩)
          | (go_at_call 12; refine (HSN.out _).mono ?_; rintro e ws ⟨rfl, ls⟩))
        go_ret
        exact ⟨rfl, by have hW := HW.out; clear HW; repeat (first | assumption | refine Later.trans_ ?_ (by assumption))⟩
      · have HL := of_decide_eq_true hlt
        go_wp2_with (first
          | (go_at_call 23; (first | (with_reducible refine (KX.out _).mono ?_) | (with_reducible refine (KY.out _).mono ?_)); rintro e w1 ⟨rfl, l1⟩)
          | (go_at_call 13; (first | (with_reducible refine (TA.out _).mono ?_) | (with_reducible refine (TE.out _).mono ?_) | (with_reducible refine (TN.out _).mono ?_) | (with_reducible refine (TF.out _).mono ?_)); rintro e w1 ⟨rfl, l1⟩)
          | (go_at_call 17; (first | (with_reducible refine (HS1.out _).mono ?_) | (with_reducible refine (HS2.out _).mono ?_)); rintro e w1 ⟨rfl, rfl⟩)
          | (go_at_call 12; refine (HSN.out _).mono ?_; rintro e ws ⟨rfl, ls⟩))
        go_ret
        exact ⟨rfl, by have hW := HW.out; clear HW; repeat (first | assumption | refine Later.trans_ ?_ (by assumption))⟩

set_option maxRecDepth 100000 in
theorem aluOrders_lifted (os : Os) (started : os.Started) (H : Type) (enc : TypeId × Value → H) :
    ReturnsInHanded {} Try.checked os 8 .any (Rows.aluOrdersSpec.pre6 enc Try.prog Try.f8 Rows.aluOrdersRow.domain false) (Rows.aluOrdersSpec.post enc Try.prog Try.f8 false true false false) := by
  refine returnsInHanded_of_change (C := Try.checked) ownK started (by kernel_rfl) Try.func8
    (ChangeSpec.witness6 (enc := enc) (C := Try.checked) false ⟨#[], #[.int .u32 0, .int .u32 0, .int .u32 0], []⟩ 8 (by kernel_rfl) (by kernel_rfl) (by kernel_rfl) (by kernel_rfl)) ?_
  intro W base args ds gs before hval0 hW hcnd _
  have hval : ∀ (j : Nat) t v, Try.f8.params[j]? = some t → args[j]? = some v → Value.okWide Try.prog W .any base t v := hval0
  have hW' := hW
  obtain ⟨p, q, hA0, hV, rfl, hfz, hnd⟩ := hW
  have hA : DataW.TrodAll enc Try.prog W 0 (fun _ => true) true Try.f8.params.toList args.toList ds p := hA0
  rw [Try.params8] at hA hval
  obtain ⟨v0, vs0, d0, ds0, p0, q0, hargs, rfl, rfl, h0, r0⟩ := trodAll_cons hA
  obtain ⟨v1, vs1, d1, ds1, p1, q1, rfl, rfl, rfl, h1, r1⟩ := trodAll_cons r0
  obtain ⟨v2, vs2, d2, ds2, p2, q2, rfl, rfl, rfl, h2, r2⟩ := trodAll_cons r1
  obtain ⟨rfl, rfl, rfl⟩ := trodAll_nil r2
  obtain rfl : args = #[v0, v1, v2] := by cases args; simp_all
  obtain ⟨rfl, rfl⟩ := trodVars_none hV
  obtain ⟨a0, rfl, rfl, rfl, w0⟩ := open_int Try.underlying22 (hval 0 22 v0 rfl rfl) h0
  obtain ⟨a1, rfl, rfl, rfl, w1⟩ := open_int Try.underlying22 (hval 1 22 v1 rfl rfl) h1
  obtain ⟨a2, rfl, rfl, rfl, w2⟩ := open_int Try.underlying22 (hval 2 22 v2 rfl rfl) h2
  clear hA0 hval0
  simp only [List.append_nil] at hW'
  have b0 : 0 ≤ a0 ∧ a0 ≤ 4294967295 := by
    have e1 : IntKind.u32.min = 0 := rfl
    have e2 : IntKind.u32.max = 4294967295 := rfl
    simp only [Lit.wf, Bool.and_eq_true, decide_eq_true_eq] at w0
    omega
  have b1 : 0 ≤ a1 ∧ a1 ≤ 4294967295 := by
    have e1 : IntKind.u32.min = 0 := rfl
    have e2 : IntKind.u32.max = 4294967295 := rfl
    simp only [Lit.wf, Bool.and_eq_true, decide_eq_true_eq] at w1
    omega
  have b2 : 0 ≤ a2 ∧ a2 ≤ 4294967295 := by
    have e1 : IntKind.u32.min = 0 := rfl
    have e2 : IntKind.u32.max = 4294967295 := rfl
    simp only [Lit.wf, Bool.and_eq_true, decide_eq_true_eq] at w2
    omega
  obtain ⟨x, rfl⟩ := Al.is_wI b0.1 (by omega)
  obtain ⟨y, rfl⟩ := Al.is_wI b1.1 (by omega)
  obtain ⟨z, rfl⟩ := Al.is_wI b2.1 (by omega)
  refine (lawOrders_any x y z W).mono fun e W' ⟨he, hw⟩ => ?_
  subst he
  exact ⟨_, rfl, law_post laidK rfl (by kernel_rfl) (by kernel_rfl) Try.underlying4 (by kernel_rfl) hW' rfl hw⟩
set_option maxRecDepth 100000 in
/-- The statement. -/
theorem aluOrders_said : Rows.AluOrdersSaid :=
  OpenClaim.holds_of_wide 8 Try.f8 rfl rfl rfl rfl rfl rfl rfl ⟨rfl, rfl, rfl, rfl, rfl⟩ rfl rfl rfl rfl rfl (by kernel_rfl) Try.func8 (by kernel_rfl)
    (of_decide_eq_true (by kernel_rfl)) (by unfold Func.isWrapper; first | (rw [if_pos (by decide +kernel)]; kernel_rfl) | (rw [if_neg (by decide +kernel)]; exact ⟨rfl, rfl⟩))
    (fun os started H enc _ => aluOrders_lifted os started H enc)
#print axioms aluOrders_said
end Go.Proofs.Ytonfdgbohmcpjaa
