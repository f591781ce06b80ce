/-
  THE WALK OF the reference's decimal.
-/
import Derived.Test.YtjopadfkdpcjmaaDoorLexS
namespace Go.Proofs.YtjopadfkdpcjmaaDoor
open Go.RowKit Go.ChangeShapes Go.WideShapes Go.ChangeAt

/-- The digits but the last. -/
def decP (m : Nat) : Lx.Str := if m < 10 then [] else Lx.dec (m / 10)
theorem dec_split (m : Nat) : Lx.dec m = decP m ++ [UInt8.ofNat (48 + m % 10)] := by
  rw [Lx.dec]
  unfold decP
  split
  · rw [Nat.mod_eq_of_lt (by omega)]; rfl
  · rfl
theorem digit_val (m : Nat) : ((UInt8.ofNat (48 + m % 10)).toNat : Int) = 48 + (m : Int) % 10 := by
  rw [UInt8.toNat_ofNat']
  omega
theorem L_cat (x y : ByteArray) : L (x ++ y) = L x ++ L y := by
  unfold L
  simp
theorem conv_byte (w : World) (c : UInt8) (z : Int) (hz : (c.toNat : Int) = z) : (convert 49 9 (.slice (some ⟨w.heap.size, 0, none⟩) 1 1)).run Tryd.prog (w.alloc (.cells #[.int .u8 z] 5)) = .ok (.string ⟨#[c]⟩) (w.alloc (.cells #[.int .u8 z] 5)) := by
  subst hz
  have h : (w.alloc (.cells #[.int .u8 (c.toNat : Int)] 5)).ownsRow w.heap.size 5 1 (.slice (some ⟨w.heap.size, 0, none⟩) 1 1) [c].length (Ub [c]) :=
    World.ownsRow_lit (base := w.heap.size) (e := 5) (size := 1) w #[.int .u8 (c.toNat : Int)] 1 (Nat.le_refl _) (by unfold maxLen; omega) rfl
  obtain ⟨A, k, he, _, _, hcv⟩ := conv_own h
  rw [← he] at hcv
  exact hcv
set_option maxRecDepth 100000 in
set_option maxHeartbeats 2000000 in
theorem decimal_any (n : Nat) (w : World) (hn : n ≤ 4294967295) : Calls Tryd.prog 38 #[.int .i64 (n : Int)] w fun e w' => ∃ x, e = .returned (.string x) ∧ L x = Lx.dec n ∧ Later w w' := by
  obtain ⟨D, hD⟩ : ∃ D, Lx.dec n = D := ⟨_, rfl⟩
  obtain ⟨c, hc⟩ : ∃ c, UInt8.ofNat (48 + n % 10) = c := ⟨_, rfl⟩
  have hv := digit_val n
  have hsp := dec_split n
  rw [hD, hc] at hsp
  rw [hc] at hv
  have hDl : D.length ≤ 70000 := by have := dec_len 9 n (by omega); rw [hD] at this; omega
  rw [hD]
  clear hc
  have hcv := conv_byte w c _ hv
  go_enter Tryd.func38, Tryd.ntmps38
  go_wp2
  have lw0 := later1 w (.cells #[.int .u8 (48 + (n : Int) % 10)] 5)
  have HSP := Lib.hid hsp
  clear hcv hsp hD hv
  go_loopw [0, 3] (fun v u wr => ∃ (m : Nat) (x : ByteArray), m ≤ 4294967295 ∧ v = .int .i64 m ∧ u = .string x ∧ Aside (D = decP m ++ L x) ∧ Later w wr) (fun v _ _ => (intOf v).toNat)
  case atStart => exact ⟨n, ⟨#[c]⟩, hn, rfl, rfl, HSP.out, lw0⟩
  case round =>
    obtain ⟨m, x, hm, rfl, rfl, hin, hbr⟩ := hrel
    rename_i wr
    clear lw0 HSP
    have hxs : x.size ≤ 70000 := by
      have h := congrArg List.length (show D = decP m ++ L x from hin)
      rw [List.length_append, L_len] at h
      omega
    by_cases hlt : m < 10
    · have hin2 : D = L x := by have h : D = decP m ++ L x := hin; rw [decP, if_pos hlt, List.nil_append] at h; exact h
      have d0 : decide ((10 : Int) ≤ (m : Int)) = false := decide_eq_false (by omega)
      clear hin
      go_wp2
      go_ret
      exact ⟨x, rfl, hin2.symm, hbr⟩
    · have d0 : decide ((10 : Int) ≤ (m : Int)) = true := decide_eq_true (by omega)
      obtain ⟨c, hc⟩ : ∃ c, UInt8.ofNat (48 + m / 10 % 10) = c := ⟨_, rfl⟩
      have hv := digit_val (m / 10)
      have hsp := dec_split (m / 10)
      rw [hc] at hsp hv
      have HI2 := Lib.hid (show D = decP (m / 10) ++ (c :: L x) from by
        have h : D = decP m ++ L x := hin
        rw [decP, if_neg hlt, hsp, List.append_assoc] at h
        exact h)
      have hq : ((m / 10 : Nat) : Int) = (m : Int) / 10 := by omega
      rw [hq] at hv
      have hcv := conv_byte wr c _ hv
      clear hc hsp hin
      go_wp2
      go_roundw
      case rel => exact ⟨m / 10, ⟨#[c]⟩ ++ x, by omega, by go_num, rfl, by rw [L_cat]; exact HI2.out, hbr.alloc hbr.size _⟩
      case measure => first | (simp [intOf]; omega) | (simp; omega)
end Go.Proofs.YtjopadfkdpcjmaaDoor
