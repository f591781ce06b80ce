/-
  THE WALKS OF lexer.word, value, ignored.
-/
import Derived.Test.YtjopadfkdpcjmaaDoorLexA
namespace Go.Proofs.YtjopadfkdpcjmaaDoor
open Go.RowKit Go.ChangeShapes Go.WideShapes Go.ChangeAt

def wordL : Lx.Str := [97, 98, 99, 100, 101, 102, 103, 104, 105, 106, 107, 108, 109, 110, 111, 112, 113, 114, 115, 116, 117, 118, 119, 120, 121, 122, 65, 66, 67, 68, 69, 70, 71, 72, 73, 74, 75, 76, 77, 78, 79, 80, 81, 82, 83, 84, 85, 86, 87, 88, 89, 90, 95, 46, 48, 49, 50, 51, 52, 53, 54, 55, 56, 57]
theorem wordL_word (c : UInt8) : wordL.contains c = Lx.wordB c := by
  have := Lx.all256 (p := fun c => decide (wordL.contains c = Lx.wordB c)) (by decide +kernel) c
  simpa using this
theorem drop_word (l : Lx.Str) : Lib.trimLeftS l wordL = l.drop (Lx.word l).length := by
  unfold Lib.trimLeftS Lx.word
  have h : (fun x => wordL.contains x) = Lx.wordB := funext wordL_word
  rw [h]
  clear h
  induction l with
  | nil => rfl
  | cons c r ih =>
    rw [List.dropWhile_cons, List.takeWhile_cons]
    by_cases hc : Lx.wordB c = true
    · rw [if_pos hc, if_pos hc, List.length_cons, List.drop_succ_cons]; exact ih
    · rw [if_neg hc, if_neg hc]; rfl
theorem word_take (l : Lx.Str) : l.take (Lx.word l).length = Lx.word l := by
  unfold Lx.word
  induction l with
  | nil => rfl
  | cons c r ih =>
    rw [List.takeWhile_cons]
    by_cases hc : Lx.wordB c = true
    · rw [if_pos hc, List.length_cons, List.take_succ_cons, ih]
    · rw [if_neg hc]; rfl

theorem trim_any (s : ByteArray) (w : World) : Calls Tryd.prog 71 #[.string s, .string ⟨#[97, 98, 99, 100, 101, 102, 103, 104, 105, 106, 107, 108, 109, 110, 111, 112, 113, 114, 115, 116, 117, 118, 119, 120, 121, 122, 65, 66, 67, 68, 69, 70, 71, 72, 73, 74, 75, 76, 77, 78, 79, 80, 81, 82, 83, 84, 85, 86, 87, 88, 89, 90, 95, 46, 48, 49, 50, 51, 52, 53, 54, 55, 56, 57]⟩] w
    fun e w' => ∃ r : ByteArray, e = .returned (.string r) ∧ r.size + (Lx.word (L s)).length = s.size ∧ Later w w' := by
  refine (Any.strings_TrimLeft_ascii Tryd.lays161 (fun w => by kernel_rfl) (by kernel_rfl) s _ w (by decide) ?_).mono fun e w' ⟨h1, h2⟩ => ⟨_, h1, ?_, h2⟩
  · intro j b hb
    have h3 : b ∈ wordL := List.mem_of_getElem? hb
    revert h3
    have h4 : ∀ b ∈ wordL, b.toNat < 128 := by decide +kernel
    exact h4 b
  · have h3 : Lib.trimLeftS s.data.toList wordL = (L s).drop (Lx.word (L s)).length := drop_word (L s)
    have h4 := Lx.word_le (L s)
    rw [L_len] at h4
    show (Lib.trimLeftS s.data.toList wordL).toArray.size + _ = _
    rw [h3, List.size_toArray, List.length_drop, L_len]
    omega

set_option maxRecDepth 100000 in
theorem word_any (s : ByteArray) (w : World) (hs : s.size ≤ 1000000) : Calls Tryd.prog 56 #[.string s] w fun e w' => ∃ t : ByteArray, e = .returned (.string t) ∧ L t = Lx.word (L s) ∧ Later w w' := by
  have H := Lib.hid (trim_any s w)
  have hx := Lib.hid (L_take s (Lx.word (L s)).length)
  have hwt := Lib.hid (word_take (L s))
  have hwl := Lx.word_le (L s)
  rw [L_len] at hwl
  obtain ⟨k, hk⟩ : ∃ k, (Lx.word (L s)).length = k := ⟨_, rfl⟩
  rw [hk] at H hx hwt hwl
  clear hk
  go_enter Tryd.func56, Tryd.ntmps56
  go_wp2_with (go_at_call 71; refine (H.out).mono ?_; rintro e w' ⟨r, rfl, hr, l1⟩; have hk : (s.size : Int) - (r.size : Int) = (k : Int) := by omega)
  go_ret
  refine ⟨_, rfl, ?_, l1⟩
  rw [hx.out, hwt.out]

/-- What says a digit, in an alphabet. -/
def Alpha (a : ByteArray) (base : Nat) : Prop := a.size = base ∧ 10 ≤ base ∧ base ≤ 16 ∧ ∀ c, Lib.indexByte (L a) c = if Lx.hexV c < base then (Lx.hexV c : Int) else -1
theorem alpha10 : Alpha ⟨#[48, 49, 50, 51, 52, 53, 54, 55, 56, 57]⟩ 10 := by
  refine ⟨rfl, by decide, by decide, fun c => ?_⟩
  have := Lx.all256 (p := fun c => decide (Lib.indexByte [48, 49, 50, 51, 52, 53, 54, 55, 56, 57] c = if Lx.hexV c < 10 then (Lx.hexV c : Int) else -1)) (by decide +kernel) c
  exact of_decide_eq_true this
theorem alpha16 : Alpha ⟨#[48, 49, 50, 51, 52, 53, 54, 55, 56, 57, 97, 98, 99, 100, 101, 102]⟩ 16 := by
  refine ⟨rfl, by decide, by decide, fun c => ?_⟩
  have := Lx.all256 (p := fun c => decide (Lib.indexByte [48, 49, 50, 51, 52, 53, 54, 55, 56, 57, 97, 98, 99, 100, 101, 102] c = if Lx.hexV c < 16 then (Lx.hexV c : Int) else -1)) (by decide +kernel) c
  exact of_decide_eq_true this

theorem emp_size (d : ByteArray) : decide (d = ByteArray.empty) = decide (d.size = 0) := by
  rw [decide_eq_decide]
  constructor
  · rintro rfl; rfl
  · intro h
    apply L_inj
    rw [L_nil h]; rfl
/-- What value answers. -/
def valAns (base : Nat) (l : Lx.Str) : Value := match Lx.val base 0 l with | some x => .tuple #[.int .i64 x, .bool (decide (l ≠ []))] | none => .tuple #[.int .i64 0, .bool false]
theorem ret_val {k : IntKind} {a b : Int} {x y : Bool} (h : a = b) (g : x = y) : Ending.returned (.tuple #[.int k a, .bool x]) = .returned (.tuple #[.int k b, .bool y]) := by rw [h, g]

set_option maxRecDepth 100000 in
set_option maxHeartbeats 1000000 in
theorem value_any (d a : ByteArray) (base : Nat) (w : World) (ha : Alpha a base) (hd : d.size ≤ 1000000) : Calls Tryd.prog 65 #[.string d, .string a] w fun e w' => e = .returned (valAns base (L d)) ∧ w' = w := by
  obtain ⟨hasz, hb0, hb1, hidx⟩ := ha
  have HX := Lib.hid hidx
  have H := Lib.hid fun (b : UInt8) (w' : World) => Tryd.strings_IndexByte a b.toNat w'
  have hend : (d.toList == []) = decide (d.size = 0) := by
    rw [ByteArray.toList_eq, Bool.eq_iff_iff, beq_iff_eq, decide_eq_true_eq]
    constructor
    · intro h; rw [← L_len]; show (d.data.toList).length = 0; rw [h]; rfl
    · intro h; exact L_nil h
  have hne : decide (L d ≠ []) = !decide (d.size = 0) := by
    rw [← hend, ByteArray.toList_eq, Bool.eq_iff_iff]
    simp
  obtain ⟨fin, hfin⟩ : ∃ fin, fin = valAns base (L d) := ⟨_, rfl⟩
  have HF := Lib.hid hfin
  rw [← hfin]
  clear hidx hfin
  have HN := Lib.hid hne
  clear hne
  go_enter Tryd.func65, Tryd.ntmps65
  go_wp2
  go_loopw [6, 11] (fun n i wr => ∃ (k acc : Nat), k ≤ d.size ∧ n = .int .i64 acc ∧ i = .int .i64 k ∧ acc ≤ 4294967295 ∧ Lx.val base 0 (L d) = Lx.val base acc ((L d).drop k) ∧ wr = w) (fun _ i _ => d.size - (intOf i).toNat)
  case atStart => exact ⟨0, 0, Nat.zero_le _, rfl, rfl, by omega, rfl, rfl⟩
  case round =>
    obtain ⟨k, acc, hk, rfl, rfl, hacc, hv, rfl⟩ := hrel
    by_cases hlt : k < d.size
    · have hstep : Lx.val base 0 (L d) = _ := hv
      rw [List.drop_eq_getElem_cons (by rw [L_len]; exact hlt), Lx.val] at hstep
      obtain ⟨c, hc⟩ : ∃ c, (L d)[k]'(by rw [L_len]; exact hlt) = c := ⟨_, rfl⟩
      have hix : d[k]'hlt = c := by rw [L_get, hc]
      rw [hc] at hstep
      obtain ⟨h, hh⟩ : ∃ h, Lx.hexV c = h := ⟨_, rfl⟩
      have hI := HX.out c
      rw [hh] at hstep hI
      have HC := Lib.hid (H.out c)
      rw [u8_back, show Lib.indexByte a.data.toList c = _ from hI] at HC
      clear hc hh hI hv
      by_cases hb : h < base
      · rw [if_pos hb] at hstep
        simp only [if_pos hb] at HC
        by_cases hm : acc * base + h ≤ Lx.maxN
        · rw [if_pos hm] at hstep
          have HS := Lib.hid hstep
          clear hstep
          unfold Lx.maxN at hm
          obtain ⟨m, hmm⟩ : ∃ m, m = acc * base := ⟨_, rfl⟩
          have hmi : (acc : Int) * (base : Int) = (m : Int) := by rw [hmm]; simp
          have HM := Lib.hid hmm
          rw [← hmm] at hm
          clear hmm
          go_wp2_with (go_at_call 48; refine (HC.out _).mono ?_; rintro e w' ⟨rfl, rfl⟩)
          go_roundw
          case rel => exact ⟨k + 1, m + h, by omega, by go_num, by go_num, by omega, by rw [HS.out, HM.out], trivial⟩
          case measure => simp [intOf]; omega
        · rw [if_neg hm] at hstep
          have HS := Lib.hid hstep
          clear hstep
          unfold Lx.maxN at hm
          obtain ⟨m, hmm⟩ : ∃ m, m = acc * base := ⟨_, rfl⟩
          have hmi : (acc : Int) * (base : Int) = (m : Int) := by rw [hmm]; simp
          have hmb : m ≤ 4294967295 * 16 := by rw [hmm]; exact Nat.mul_le_mul hacc hb1
          rw [← hmm] at hm
          clear hmm
          go_wp2_with (go_at_call 48; refine (HC.out _).mono ?_; rintro e w' ⟨rfl, rfl⟩)
          go_ret2
          exact ⟨by rw [HF.out]; unfold valAns; rw [HS.out]; rfl, rfl⟩
      · rw [if_neg hb] at hstep
        simp only [if_neg hb] at HC
        have HS := Lib.hid hstep
        clear hstep
        go_wp2_with (go_at_call 48; refine (HC.out _).mono ?_; rintro e w' ⟨rfl, rfl⟩)
        go_ret2
        exact ⟨by rw [HF.out]; unfold valAns; rw [HS.out]; rfl, rfl⟩
    · obtain rfl : k = d.size := by omega
      rw [List.drop_eq_nil_of_le (by rw [L_len]; exact Nat.le_refl _), Lx.val] at hv
      have HS := Lib.hid hv
      clear hv
      go_wp2
      go_ret2
      exact ⟨by rw [HF.out]; unfold valAns; rw [HS.out]; exact ret_val rfl (by rw [HN.out, emp_size]), rfl⟩

set_option maxRecDepth 100000 in
/-- What stands at the head belongs to no token. -/
theorem ignored_any (s : ByteArray) (w : World) (h0 : 0 < s.size) : Calls Tryd.prog 27 #[.string s] w fun e w' => e = .returned (.int .i64 ((if Lx.spaceB s[0] then 1 else if s[0] = 59 then Lx.rest ((L s).drop 1) + 1 else 0 : Nat) : Int)) ∧ w' = w := by
  obtain ⟨c, hc⟩ : ∃ c, s[0] = c := ⟨_, rfl⟩
  have hL := L_cons s h0
  rw [hc] at hL ⊢
  obtain ⟨r, hr⟩ : ∃ r, (L s).drop 1 = r := ⟨_, rfl⟩
  rw [hr] at hL ⊢
  clear hr
  have H := Lib.hid (Tryd.strings_IndexByte s 10 w)
  rw [show ((10 : Int).toNat.toUInt8) = 10 from rfl, show s.data.toList = c :: r from hL] at H
  have hlen : s.size = r.length + 1 := by rw [← L_len, hL, List.length_cons]
  have hidx : ∀ l : Lx.Str, Lib.indexByte l 10 = if Lx.rest l < l.length then (Lx.rest l : Int) else -1 := by
    intro l
    induction l with
    | nil => rfl
    | cons x l ih =>
      unfold Lib.indexByte Lx.rest
      rw [List.takeWhile_cons]
      have hrl := Lx.rest_le l
      by_cases hx : x = 10
      · subst hx; simp
      · have h1 : (x == 10) = false := by simpa using hx
        have h2 : (x != 10) = true := by simpa using hx
        rw [h1, h2]
        simp only [Bool.false_eq_true, if_false, if_true, List.length_cons, beq_iff_eq]
        change (if Lib.indexByte l 10 = -1 then (-1 : Int) else Lib.indexByte l 10 + 1) = if Lx.rest l + 1 < l.length + 1 then _ else _
        rw [ih]
        by_cases h3 : Lx.rest l < l.length
        · rw [if_pos h3, if_neg (by omega), if_pos (by omega)]
          show _ = ((Lx.rest l + 1 : Nat) : Int)
          omega
        · rw [if_neg h3, if_pos rfl, if_neg (by omega)]
  have b1 : ((c.toNat : Int) == 32) = decide (c.toNat = 32) := by rw [Bool.eq_iff_iff, beq_iff_eq, decide_eq_true_eq]; omega
  have b2 : ((c.toNat : Int) == 9) = decide (c.toNat = 9) := by rw [Bool.eq_iff_iff, beq_iff_eq, decide_eq_true_eq]; omega
  have b3 : ((c.toNat : Int) == 13) = decide (c.toNat = 13) := by rw [Bool.eq_iff_iff, beq_iff_eq, decide_eq_true_eq]; omega
  by_cases h1 : c.toNat = 32
  · rw [show Lx.spaceB c = true by unfold Lx.spaceB; rw [decide_eq_true h1]; rfl]
    rw [decide_eq_true h1] at b1
    clear H hidx hL
    go_enter Tryd.func27, Tryd.ntmps27
    go_wp2
    go_ret
    exact ⟨rfl, rfl⟩
  rw [decide_eq_false h1] at b1
  by_cases h2 : c.toNat = 9
  · rw [show Lx.spaceB c = true by unfold Lx.spaceB; rw [decide_eq_true h2, Bool.true_or, Bool.or_true]]
    rw [decide_eq_true h2] at b2
    clear H hidx hL
    go_enter Tryd.func27, Tryd.ntmps27
    go_wp2
    go_ret
    exact ⟨rfl, rfl⟩
  rw [decide_eq_false h2] at b2
  by_cases h3 : c.toNat = 13
  · rw [show Lx.spaceB c = true by unfold Lx.spaceB; rw [decide_eq_true h3, Bool.or_true, Bool.or_true]]
    rw [decide_eq_true h3] at b3
    clear H hidx hL
    go_enter Tryd.func27, Tryd.ntmps27
    go_wp2
    go_ret
    exact ⟨rfl, rfl⟩
  rw [decide_eq_false h3] at b3
  rw [show Lx.spaceB c = false by unfold Lx.spaceB; rw [decide_eq_false h1, decide_eq_false h2, decide_eq_false h3]; rfl]
  by_cases h4 : c = 59
  · subst h4
    rw [if_neg (by simp), if_pos rfl]
    have hR : Lx.rest (59 :: r) = Lx.rest r + 1 := by unfold Lx.rest; rw [List.takeWhile_cons, if_pos (by decide)]; rfl
    have hrl := Lx.rest_le r
    rw [hidx, hR, List.length_cons] at H
    obtain ⟨q, hq⟩ : ∃ q, Lx.rest r = q := ⟨_, rfl⟩
    rw [hq] at H hrl ⊢
    clear hidx hL hR hq b1 b2 b3
    by_cases h5 : q + 1 < r.length + 1
    · rw [if_pos h5] at H
      go_enter Tryd.func27, Tryd.ntmps27
      go_wp2_with (go_at_call 48; refine (H.out).mono ?_; rintro e w' ⟨rfl, rfl⟩)
      go_ret
      exact ⟨rfl, rfl⟩
    · rw [if_neg h5] at H
      go_enter Tryd.func27, Tryd.ntmps27
      go_wp2_with (go_at_call 48; refine (H.out).mono ?_; rintro e w' ⟨rfl, rfl⟩)
      go_ret
      exact ⟨ret_int (by omega), rfl⟩
  · rw [if_neg (by simp), if_neg h4]
    have b4 : ((c.toNat : Int) == 59) = false := by
      rw [beq_eq_false_iff_ne]
      intro e
      apply h4
      have : c.toNat = 59 := by omega
      exact UInt8.toNat_inj.1 this
    clear H hidx hL
    go_enter Tryd.func27, Tryd.ntmps27
    go_wp2
    go_ret
    exact ⟨rfl, rfl⟩
end Go.Proofs.YtjopadfkdpcjmaaDoor
