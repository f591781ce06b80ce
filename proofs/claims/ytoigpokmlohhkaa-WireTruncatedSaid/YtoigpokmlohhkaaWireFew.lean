/-
  THE WALK OF few: how many bytes and elements byte strings have in all.
-/
import Derived.Test.YtoigpokmlohhkaaWireM
namespace Go.Proofs.Ytoigpokmlohhkaa
open Go.RowKit

def tot (l : List ByteArray) : Nat := (l.map ByteArray.size).sum
theorem tot_next (l : List ByteArray) (k : Nat) (h : k < l.length) : tot (l.take (k + 1)) = tot (l.take k) + l[k].size := by
  have e : l.take (k + 1) = l.take k ++ [l[k]] := by rw [List.take_add_one, List.getElem?_eq_getElem h]; rfl
  unfold tot
  rw [e, List.map_append, List.sum_append]
  rfl
theorem tot_le (l : List ByteArray) (k : Nat) : tot (l.take k) ≤ tot l := by
  have h : tot l = tot (l.take k) + tot (l.drop k) := by
    unfold tot
    rw [← List.sum_append, ← List.map_append, List.take_append_drop]
  omega

set_option maxRecDepth 100000 in
set_option maxHeartbeats 400000 in
theorem few_any (A : Option Addr) (n c : Nat) (l : List ByteArray) (w : World) (hs : Sl w 1 A n (Strs l)) (hsum : n + tot l ≤ 9223372036854775807) :
    Calls Try.prog 4 #[.slice A n c] w fun e w' => e = .returned (.bool (decide (n + tot l ≤ 2000))) ∧ Later w w' := by
  have hl1 := Lib.hid hs.mlen
  go_enter Try.func4, Try.ntmps4
  go_wp2
  go_loopw [3, 10] (fun acc i wr => ∃ k m : Nat, k ≤ n ∧ m = n + tot (l.take k) ∧ acc = .int .i64 m ∧ i = .int .i64 k ∧ Later w wr) (fun _ i _ => n - (intOf i).toNat)
  case atStart => exact ⟨0, n, Nat.zero_le _, by simp [tot], rfl, rfl, Below.refl _ _⟩
  case round =>
    obtain ⟨k, m, hk, hm, rfl, rfl, hbr⟩ := hrel
    by_cases hlt : k < n
    · obtain ⟨ad, rfl, hb1, hk1, hc1⟩ := (hs.keep hbr).elem hlt
      have hnx := tot_next l k hk1
      have hle := tot_le l (k + 1)
      obtain ⟨x, hx⟩ : ∃ x, x = l[k] := ⟨_, rfl⟩
      rw [← hx] at hc1 hnx
      have hms : m + x.size ≤ 9223372036854775807 := by omega
      have HM := Lib.hid (show m + x.size = n + tot (l.take (k + 1)) by omega)
      clear hx hnx hle hm
      go_wp2
      go_roundw
      case rel => exact ⟨k + 1, m + x.size, by omega, HM.out, by go_num, by go_num, hbr⟩
      case measure => simp [intOf]; omega
    · obtain rfl : k = n := by omega
      have hm2 : m = k + tot l := by rw [hm, List.take_of_length_le (by rw [hl1.out]; omega)]
      have HM := Lib.hid hm2
      clear hm hm2
      go_wp2
      go_ret
      exact ⟨ret_bool (by rw [← HM.out]; try (congr 1; simp; omega)), hbr⟩

end Go.Proofs.Ytoigpokmlohhkaa
