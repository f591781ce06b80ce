/-
  THE WALKS OF lexer.escaped, part.
-/
import Derived.Test.YtjopadfkdpcjmaaDoorLexC
namespace Go.Proofs.YtjopadfkdpcjmaaDoor
open Go.RowKit Go.ChangeShapes Go.WideShapes Go.ChangeAt

theorem ceq (c d : UInt8) (k : Int) (h : (d.toNat : Int) = k) : ((c.toNat : Int) == k) = decide (c = d) := by
  rw [Bool.eq_iff_iff, beq_iff_eq, decide_eq_true_eq, ← h]
  constructor
  · intro e; exact UInt8.toNat_inj.1 (by omega)
  · rintro rfl; rfl
theorem ceqT {c d : UInt8} {k : Int} (e : c = d) (h : (d.toNat : Int) = k) : ((c.toNat : Int) == k) = true := by rw [ceq c d k h, decide_eq_true e]
theorem ceqF {c d : UInt8} {k : Int} (e : c ≠ d) (h : (d.toNat : Int) = k) : ((c.toNat : Int) == k) = false := by rw [ceq c d k h, decide_eq_false e]
theorem cneT {c d : UInt8} {k : Int} (e : c ≠ d) (h : (d.toNat : Int) = k) : ((c.toNat : Int) != k) = true := by unfold bne; rw [ceqF e h]; rfl
theorem cneF {c d : UInt8} {k : Int} (e : c = d) (h : (d.toNat : Int) = k) : ((c.toNat : Int) != k) = false := by unfold bne; rw [ceqT e h]; rfl
def two (r : UInt8 × Nat) : Value := .tuple #[.int .u8 r.1.toNat, .int .i64 r.2]
theorem ret_two {k m : IntKind} {a b x y : Int} (h : a = b) (g : x = y) : Ending.returned (.tuple #[.int k a, .int m x]) = .returned (.tuple #[.int k b, .int m y]) := by rw [h, g]
theorem hexV_vals (c : UInt8) : Lx.hexV c < 16 ∨ Lx.hexV c = 99 := by
  unfold Lx.hexV
  split
  · exact .inl (by omega)
  split
  · exact .inl (by omega)
  · exact .inr rfl

theorem esc_short {r : Lx.Str} (h : r.length < 2) : Lx.esc (120 :: r) = (0, 0) := by
  match r, h with
  | [], _ => rfl
  | [_], _ => rfl
  | _ :: _ :: _, h => simp only [List.length_cons] at h; omega
theorem esc_x (a b : UInt8) (r : Lx.Str) : Lx.esc (120 :: a :: b :: r) = if Lx.hexV a < 16 ∧ Lx.hexV b < 16 then (UInt8.ofNat (16 * Lx.hexV a + Lx.hexV b), 4) else (0, 0) := rfl
set_option maxRecDepth 100000 in
set_option maxHeartbeats 1000000 in
theorem escaped_any (s : ByteArray) (w : World) (h0 : 0 < s.size) : Calls Tryd.prog 76 #[.string s] w fun e w' => e = .returned (two (Lx.esc ((L s).drop 1))) ∧ w' = w := by
  have hlen := L_len s
  by_cases h1 : s.size < 2
  · rw [List.drop_eq_nil_of_le (by omega)]
    go_enter Tryd.func76, Tryd.ntmps76
    go_wp2
    go_ret2
    exact ⟨rfl, rfl⟩
  have h1' : 1 < s.size := by omega
  obtain ⟨c, hc⟩ : ∃ c, s[1] = c := ⟨_, rfl⟩
  have hd : (L s).drop 1 = c :: (L s).drop 2 := by
    rw [List.drop_eq_getElem_cons (by omega), ← L_get s 1 h1', hc]
  rw [hd]
  clear hd
  by_cases e4 : c = 120
  · subst e4
    have b1 := ceqF (c := 120) (d := 110) (k := 110) (by decide) rfl
    have b2 := ceqF (c := 120) (d := 34) (k := 34) (by decide) rfl
    have b3 := ceqF (c := 120) (d := 92) (k := 92) (by decide) rfl
    have b4 := ceqT (c := 120) (k := 120) rfl rfl
    by_cases h4 : s.size < 4
    · rw [esc_short (by rw [List.length_drop]; omega)]
      go_enter Tryd.func76, Tryd.ntmps76
      go_wp2
      go_ret2
      exact ⟨rfl, rfl⟩
    · obtain ⟨a, b, r, hab⟩ : ∃ a b r, (L s).drop 2 = a :: b :: r := ⟨(L s)[2]'(by omega), (L s)[3]'(by omega), (L s).drop 4, by rw [List.drop_eq_getElem_cons (by omega), List.drop_eq_getElem_cons (by omega)]⟩
      rw [hab, esc_x]
      have hex : L (s.extract 2 4) = [a, b] := by
        simp only [L, ByteArray.data_extract, Array.toList_extract, List.extract_eq_take_drop]
        show ((L s).drop 2).take 2 = _
        rw [hab]; rfl
      have hxs : (s.extract 2 4).size = 2 := by rw [← L_len, hex]; rfl
      have HV := Lib.hid fun w' => by
        have h3 := value_any (s.extract 2 4) _ 16 w' alpha16 (by omega)
        rw [hex] at h3
        exact h3
      have hva : valAns 16 [a, b] = .tuple #[.int .i64 (if Lx.hexV a < 16 ∧ Lx.hexV b < 16 then (16 * Lx.hexV a + Lx.hexV b : Nat) else 0 : Nat), .bool (decide (Lx.hexV a < 16 ∧ Lx.hexV b < 16))] := by
        unfold valAns
        simp only [Lx.val]
        by_cases ha : Lx.hexV a < 16
        · rw [if_pos ha, if_pos (by unfold Lx.maxN; omega)]
          by_cases hb : Lx.hexV b < 16
          · rw [if_pos hb, if_pos (by unfold Lx.maxN; omega), if_pos ⟨ha, hb⟩, show decide (Lx.hexV a < 16 ∧ Lx.hexV b < 16) = true from decide_eq_true ⟨ha, hb⟩, Nat.zero_mul, Nat.zero_add, Nat.mul_comm]
            rfl
          · rw [if_neg hb, if_neg (fun h => hb h.2), show decide (Lx.hexV a < 16 ∧ Lx.hexV b < 16) = false from decide_eq_false (fun h => hb h.2)]; rfl
        · rw [if_neg ha, if_neg (fun h => ha h.1), show decide (Lx.hexV a < 16 ∧ Lx.hexV b < 16) = false from decide_eq_false (fun h => ha h.1)]; rfl
      rw [hva] at HV
      clear hva hex hxs hab
      by_cases hh : Lx.hexV a < 16 ∧ Lx.hexV b < 16
      · rw [if_pos hh]
        simp only [if_pos hh, decide_eq_true hh] at HV
        obtain ⟨z, hz⟩ : ∃ z, 16 * Lx.hexV a + Lx.hexV b = z := ⟨_, rfl⟩
        have hz2 : z < 256 := by omega
        rw [hz] at HV ⊢
        have hw8 : IntKind.u8.wrap (z : Int) = z := by rw [IntKind.wrap_u8]; omega
        have hto : ((UInt8.ofNat z).toNat : Int) = z := by rw [UInt8.toNat_ofNat_of_lt' hz2]
        have HT := Lib.hid hto
        clear hz hh hto
        go_enter Tryd.func76, Tryd.ntmps76
        go_wp2_with (go_at_call 65; refine (HV.out _).mono ?_; rintro e w' ⟨rfl, rfl⟩)
        go_ret2
        exact ⟨ret_two HT.out.symm rfl, rfl⟩
      · rw [if_neg hh]
        simp only [if_neg hh, decide_eq_false hh] at HV
        clear hh
        go_enter Tryd.func76, Tryd.ntmps76
        go_wp2_with (go_at_call 65; refine (HV.out _).mono ?_; rintro e w' ⟨rfl, rfl⟩)
        go_ret2
        exact ⟨rfl, rfl⟩
  have b4 := ceqF (k := 120) e4 rfl
  unfold Lx.esc
  simp only
  by_cases e1 : c = 110
  · rw [if_pos e1]
    have b1 := ceqT (k := 110) e1 rfl
    clear e1 e4
    go_enter Tryd.func76, Tryd.ntmps76
    go_wp2
    go_ret2
    exact ⟨rfl, rfl⟩
  rw [if_neg e1]
  have b1 := ceqF (k := 110) e1 rfl
  by_cases e2 : c = 34
  · rw [if_pos (.inl e2)]
    have b2 := ceqT (k := 34) e2 rfl
    clear e1 e2 e4
    go_enter Tryd.func76, Tryd.ntmps76
    go_wp2
    go_ret2
    exact ⟨rfl, rfl⟩
  have b2 := ceqF (k := 34) e2 rfl
  by_cases e3 : c = 92
  · rw [if_pos (.inr e3)]
    have b3 := ceqT (k := 92) e3 rfl
    clear e1 e2 e3 e4
    go_enter Tryd.func76, Tryd.ntmps76
    go_wp2
    go_ret2
    exact ⟨rfl, rfl⟩
  rw [if_neg (by rintro (h | h); exact e2 h; exact e3 h)]
  have b3 := ceqF (k := 92) e3 rfl
  rw [if_neg e4]
  clear e1 e2 e3 e4
  go_enter Tryd.func76, Tryd.ntmps76
  go_wp2
  go_ret2
  exact ⟨rfl, rfl⟩

set_option maxRecDepth 100000 in
set_option maxHeartbeats 1000000 in
theorem part_any (s : ByteArray) (w : World) (h0 : 0 < s.size) : Calls Tryd.prog 66 #[.string s] w fun e w' => e = .returned (two (Lx.part (L s))) ∧ w' = w := by
  have HE := Lib.hid fun w' => escaped_any s w' h0
  obtain ⟨c, hc⟩ : ∃ c, s[0] = c := ⟨_, rfl⟩
  have hL := L_cons s h0
  rw [hc] at hL
  rw [hL]
  unfold Lx.part
  simp only
  have HP := Lib.hid fun w' => plain_any c w'
  clear hL
  by_cases e1 : c = 92
  · rw [if_pos e1]
    have b1 := ceqT (k := 92) e1 rfl
    obtain ⟨R, hR⟩ : ∃ R, Lx.esc ((L s).drop 1) = R := ⟨_, rfl⟩
    rw [hR] at HE ⊢
    unfold two at HE
    clear e1 hR
    go_enter Tryd.func66, Tryd.ntmps66
    go_wp2_with (go_at_call 76; refine (HE.out _).mono ?_; rintro e w' ⟨rfl, rfl⟩)
    go_ret2
    exact ⟨rfl, rfl⟩
  rw [if_neg e1]
  have b1 := ceqF (k := 92) e1 rfl
  clear e1
  cases hp : Lx.plainB c with
  | true =>
    rw [hp] at HP
    rw [if_pos rfl]
    clear hp
    go_enter Tryd.func66, Tryd.ntmps66
    go_wp2_with (go_at_call 77; refine (HP.out _).mono ?_; rintro e w' ⟨rfl, rfl⟩)
    go_ret2
    exact ⟨rfl, rfl⟩
  | false =>
    rw [hp] at HP
    rw [if_neg (by decide)]
    clear hp
    go_enter Tryd.func66, Tryd.ntmps66
    go_wp2_with (go_at_call 77; refine (HP.out _).mono ?_; rintro e w' ⟨rfl, rfl⟩)
    go_ret2
    exact ⟨rfl, rfl⟩
end Go.Proofs.YtjopadfkdpcjmaaDoor
