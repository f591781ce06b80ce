/-
  THE WALK OF the statements' hex.
-/
import Derived.Test.YtoigpokmlohhkaaDoorHashO
namespace Go.Proofs.YtoigpokmlohhkaaDoor
open Go.RowKit

def hexDigits : ByteArray := ⟨#[48, 49, 50, 51, 52, 53, 54, 55, 56, 57, 97, 98, 99, 100, 101, 102]⟩
/-- The digit of a number below 16. -/
def hexd (i : Nat) : Int := if i < 10 then 48 + i else 87 + i
theorem hexd_at (i : Nat) (h : i < 16) : ∀ h', (((⟨#[48, 49, 50, 51, 52, 53, 54, 55, 56, 57, 97, 98, 99, 100, 101, 102]⟩ : ByteArray)[i]'h').toNat : Int) = hexd i := by
  intro h'
  have : (List.range 16).all (fun i => match hexDigits[i]? with | some u => decide ((u.toNat : Int) = hexd i) | none => false) = true := by decide +kernel
  have h1 := Hm.of_range this i h
  have h2 : hexDigits[i]? = some (hexDigits[i]'h') := getElem?_pos hexDigits i h'
  rw [h2] at h1
  exact of_decide_eq_true h1
def hexB (l : Wm.Bs) : Wm.Bs := l.flatMap fun c => [hexd (c.toNat / 16), hexd (c.toNat % 16)]
theorem hexB_snoc (l : Wm.Bs) (c : Int) : hexB (l ++ [c]) = hexB l ++ [hexd (c.toNat / 16), hexd (c.toNat % 16)] := by
  unfold hexB; simp
theorem hexB_len (l : Wm.Bs) : (hexB l).length = 2 * l.length := by
  induction l with
  | nil => rfl
  | cons a r ih => unfold hexB at *; rw [List.flatMap_cons, List.length_append, ih]; simp; omega

theorem two_ints (x y : Int) : ∀ u ∈ [Value.int .u8 x, Value.int .u8 y], u.oneCell' = true := by
  intro u hu
  simp only [List.mem_cons, List.not_mem_nil, or_false] at hu
  rcases hu with rfl | rfl <;> rfl
set_option maxRecDepth 100000 in
set_option maxHeartbeats 400000 in
theorem hex_any (s : ByteArray) (w : World) (hn : s.size ≤ 1000) :
    Calls Tryd.prog 54 #[.string s] w fun e w' => e = .returned (.string (strOfNums (hexB (sb s)))) ∧ Later w w' := by
  obtain ⟨i0, hi, hz0, hz1, hz2⟩ := info_parts u8_info
  go_enter Tryd.func54, Tryd.ntmps54
  go_wp2
  go_loopw [4, 5] (fun v i wr => ∃ k : Nat, k ≤ s.size ∧ i = .int .i64 k ∧ wr.ownsRow w.heap.size 5 1 v (hexB ((sb s).take k)).length (U (hexB ((sb s).take k))) ∧ Later w wr) (fun _ i _ => s.size - (intOf i).toNat)
  case atStart => exact ⟨0, Nat.zero_le _, rfl, World.ownsRow_nil _ _ _ _, Below.refl _ _⟩
  case round =>
    obtain ⟨k, hk, rfl, hor, hbr⟩ := hrel
    by_cases hlt : k < s.size
    · have hc256 := s[k].toNat_lt
      have HX := sb_next s k hlt
      have htk : (sb s).take (k + 1) = (sb s).take k ++ [((s[k]).toNat : Int)] := by
        rw [List.take_succ_eq_append_getElem (by rw [sb_len]; exact hlt)]
        congr 2
        rw [← HX.out.1, List.getD_eq_getElem?_getD, List.getElem?_eq_getElem (by rw [sb_len]; exact hlt)]; rfl
      have hnx : hexB ((sb s).take (k + 1)) = hexB ((sb s).take k) ++ [hexd (s[k].toNat / 16), hexd (s[k].toNat % 16)] := by
        rw [htk, hexB_snoc, Int.toNat_natCast]
      have HN := Lib.hid hnx
      clear HX htk hnx
      have hv1 := hexd_at ((s[k].toNat : Int) / 16).toNat (by omega)
      have hv2 := hexd_at ((s[k].toNat : Int) % 16).toNat (by omega)
      have e1 : IntKind.u8.wrap ((s[k].toNat : Int) / 16) = (s[k].toNat : Int) / 16 := by rw [IntKind.wrap_u8]; omega
      have e2 : IntKind.u8.wrap ((s[k].toNat : Int) % 16) = (s[k].toNat : Int) % 16 := by rw [IntKind.wrap_u8]; omega
      have t2 : (s[k].toNat : Int).tmod 16 = (s[k].toNat : Int) % 16 := Int.tmod_eq_emod_of_nonneg (by omega)
      have b1 : (s[k].toNat : Int) / 16 < 16 := by omega
      have b2 : (s[k].toNat : Int) % 16 < 16 := by omega
      have p1 : (0 : Int) ≤ (s[k].toNat : Int) / 16 := by omega
      have p2 : (0 : Int) ≤ (s[k].toNat : Int) % 16 := by omega
      have w1' : hexd ((s[k].toNat : Int) / 16).toNat = hexd (s[k].toNat / 16) := congrArg hexd (by omega)
      have w2' : hexd ((s[k].toNat : Int) % 16).toNat = hexd (s[k].toNat % 16) := congrArg hexd (by omega)
      obtain ⟨x1, hx1⟩ : ∃ x1, x1 = hexd (s[k].toNat / 16) := ⟨_, rfl⟩
      obtain ⟨x2, hx2⟩ : ∃ x2, x2 = hexd (s[k].toNat % 16) := ⟨_, rfl⟩
      rw [w1', ← hx1] at hv1
      rw [w2', ← hx2] at hv2
      rw [← hx1, ← hx2] at HN
      clear w1' w2' hx1 hx2
      have hlen := hexB_len ((sb s).take k)
      go_wp2
      have hlk : ((sb s).take k).length ≤ 1000 := by rw [List.length_take, sb_len]; omega
      have hl2 : (hexB ((sb s).take k)).length ≤ 2000 := by omega
      clear hlen
      go_region_law (refine step_append_lies _ (by rfl) (.tmp 12) (.tmp 25) 33 (by rfl) w.heap.size 5 i0 (.int .u8 0) 1 1 Tryd.underlying33 hi hz0 hz1 hz2 rfl (by decide) _ _ _ (by rfl) (hor.drew.alloc _) ⟨wr.heap.size, 0, none⟩ 2 2 [.int .u8 x1, .int .u8 x2] (by rfl) (by rfl) (fun j u hu => World.news_of_block (heap_alloc_new wr.drew _) j u hu) (two_ints _ _) (by decide) (by unfold maxLen; omega) (by omega) (by have := hbr.size; simp; omega) (wr.heap.size + 1) (by simp) (fun g cap w1 hown hgrow _ _ => ?_))
      all_goals
        have hb1 : Later w w1 := ((hbr.alloc hbr.size _).drew).grown hgrow (by have := hbr.size; simp; omega) (fun j hj => (hor.lt j hj).1)
        have ho2 := own_app (b := [x1, x2]) (m := 2) rfl hown
        rw [← HN.out] at ho2
        clear hown hgrow hor
        go_wp2
        go_roundw
        case rel => exact ⟨k + 1, by omega, by go_num, ho2, hb1⟩
        case measure => simp [intOf]; omega
    · rw [List.take_of_length_le (by rw [sb_len]; omega)] at hor
      obtain ⟨A, c, rfl, o1, o2, o3, _⟩ := own_form hor
      have hcv := run_str (P := Tryd.prog) 33 9 5 Tryd.underlying33 Tryd.underlying5 Tryd.underlying9 o3 c
      clear hor o3
      go_wp2
      go_ret
      exact ⟨rfl, hbr⟩
end Go.Proofs.YtoigpokmlohhkaaDoor
