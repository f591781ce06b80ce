/-
  THE WALKS OF the reference's Few and Joined.
-/
import Derived.Test.YtoigpokmlohhkaaDoorHashS
namespace Go.Proofs.YtoigpokmlohhkaaDoor
open Go.RowKit

def fewB (l : List ByteArray) : Bool := decide (l.length ≤ 12) && l.all fun s => decide (s.size ≤ 400)
theorem few_any (A : Option Addr) (n c : Nat) (l : List ByteArray) (w : World) (hs : Sl w 1 A n (Strs l)) (hn : n ≤ maxLen) (hz : ∀ s ∈ l, s.size ≤ maxLen) :
    Calls Tryd.prog 15 #[.slice A n c] w fun e w' => e = .returned (.bool (fewB l)) ∧ w = w' := by
  unfold maxLen at hn hz
  have hl := hs.slen
  have HL := Lib.hid hl; clear hl
  rcases Nat.lt_or_ge 12 n with h | h
  · have hf : fewB l = false := by unfold fewB; rw [decide_eq_false (by rw [HL.out]; omega)]; rfl
    rw [hf]
    go_enter Tryd.func15, Tryd.ntmps15
    go_wp2
    go_ret
    exact ⟨rfl, rfl⟩
  · obtain ⟨F, hF⟩ : ∃ F, F = fewB l := ⟨_, rfl⟩
    rw [← hF]
    have HF := Lib.hid hF; clear hF
    go_enter Tryd.func15, Tryd.ntmps15
    go_wp2
    go_loopw [3] (fun i wr => ∃ k : Nat, k ≤ n ∧ i = .int .i64 k ∧ Hid (∀ s ∈ l.take k, s.size ≤ 400) ∧ w = wr) (fun i _ => n - (intOf i).toNat)
    case atStart => exact ⟨0, Nat.zero_le _, rfl, Lib.hid (fun s hs => by simp at hs), rfl⟩
    case round =>
      obtain ⟨k, hk, rfl, HP, rfl⟩ := hrel
      by_cases hlt : k < n
      · obtain ⟨ad, s, rfl, hbl, hc, hmem, HX⟩ := hs.str hlt
        have hsz := hz s hmem
        rcases Nat.lt_or_ge 400 s.size with h4 | h4
        · have hf : F = false := by
            rw [HF.out]; unfold fewB
            rw [Bool.and_eq_false_iff]; right
            rw [List.all_eq_false]
            exact ⟨s, hmem, by simp; omega⟩
          go_wp2
          go_ret
          exact ⟨by rw [hf]; rfl, rfl⟩
        · go_wp2
          go_roundw
          case rel => exact ⟨k + 1, by omega, by go_num, Lib.hid (fun t ht => by rw [HX.out.1] at ht; rcases List.mem_append.1 ht with h | h; exact HP.out t h; rw [List.mem_singleton.1 h]; exact h4), trivial⟩
          case measure => simp [intOf]; omega
      · have hf : F = true := by
          have he : l.take k = l := List.take_of_length_le (by rw [HL.out]; omega)
          have hp := HP.out
          rw [he] at hp
          rw [HF.out]; unfold fewB
          rw [decide_eq_true (by rw [HL.out]; exact h), Bool.true_and, List.all_eq_true]
          exact fun s hs => decide_eq_true (hp s hs)
        go_wp2
        go_ret
        exact ⟨by rw [hf]; rfl, rfl⟩

/-- The concatenation of pieces. -/
def joined (l : List ByteArray) : ByteArray := l.foldl (· ++ ·) ⟨#[]⟩
theorem joined_snoc (l : List ByteArray) (s : ByteArray) : joined (l ++ [s]) = joined l ++ s := by unfold joined; rw [List.foldl_append]; rfl
theorem joined_size (l : List ByteArray) (h : ∀ s ∈ l, s.size ≤ 400) : (joined l).size ≤ 400 * l.length := by
  have : ∀ (l : List ByteArray) (a : ByteArray), (∀ s ∈ l, s.size ≤ 400) → (l.foldl (· ++ ·) a).size ≤ a.size + 400 * l.length := by
    intro l
    induction l with
    | nil => intro a _; simp
    | cons s l ih =>
      intro a h
      have h1 := ih (a ++ s) (fun t ht => h t (List.mem_cons_of_mem _ ht))
      have h2 := h s List.mem_cons_self
      rw [ByteArray.size_append] at h1
      show (l.foldl (· ++ ·) (a ++ s)).size ≤ _
      rw [List.length_cons]
      omega
  have h1 := this l ⟨#[]⟩ h
  have h2 : (⟨#[]⟩ : ByteArray).size = 0 := rfl
  unfold joined
  omega
theorem joined_any (A : Option Addr) (n c : Nat) (l : List ByteArray) (w : World) (hs : Sl w 1 A n (Strs l)) (hn : n ≤ 12) (hz : ∀ s ∈ l, s.size ≤ 400) :
    Calls Tryd.prog 18 #[.slice A n c] w fun e w' => e = .returned (.string (joined l)) ∧ w = w' := by
  have hl := hs.slen
  have HL := Lib.hid hl; clear hl
  obtain ⟨F, hF⟩ : ∃ F, F = joined l := ⟨_, rfl⟩
  rw [← hF]
  have HF := Lib.hid hF; clear hF
  go_enter Tryd.func18, Tryd.ntmps18
  go_wp2
  go_loopw [3, 4] (fun v i wr => ∃ (k : Nat) (s : ByteArray), k ≤ n ∧ i = .int .i64 k ∧ v = .string s ∧ Hid (s = joined (l.take k)) ∧ s.size ≤ 4800 ∧ w = wr) (fun _ i _ => n - (intOf i).toNat)
  case atStart => exact ⟨0, ⟨#[]⟩, Nat.zero_le _, rfl, rfl, Lib.hid rfl, by decide, rfl⟩
  case round =>
    obtain ⟨k, s, hk, rfl, rfl, HP, hss, rfl⟩ := hrel
    by_cases hlt : k < n
    · obtain ⟨ad, t, rfl, hbl, hc, hmem, HX⟩ := hs.str hlt
      have hsz := hz t hmem
      have hnew : s ++ t = joined (l.take (k + 1)) := by rw [HX.out.1, joined_snoc, HP.out]
      have hns : (s ++ t).size ≤ 4800 := by
        rw [hnew]
        have := joined_size (l.take (k + 1)) (fun s hs => hz s (List.mem_of_mem_take hs))
        rw [List.length_take] at this
        omega
      have HW := Lib.hid hnew; have HN := Lib.hid hns; clear hnew hns
      go_wp2
      go_roundw
      case rel => exact ⟨k + 1, s ++ t, by omega, by go_num, rfl, HW, HN.out, trivial⟩
      case measure => simp [intOf]; omega
    · have hf : s = F := by rw [HF.out, HP.out, List.take_of_length_le (by rw [HL.out]; omega)]
      go_wp2
      go_ret
      exact ⟨by rw [hf]; rfl, rfl⟩
end Go.Proofs.YtoigpokmlohhkaaDoor
