/-
  THE STATEMENT IsaNamesAreOneToOne, walked.
-/
import Derived.Test.YtbnlpkjjdijfmabDoorIsaK
namespace Go.Proofs.YtbnlpkjjdijfmabDoor
open Go.RowKit Go.ChangeShapes Go.WideShapes Go.ChangeAt

theorem names_form : ∀ k : Fin 49, ((Im.nameN k.1).toList == []) = (Im.formN k.1 == 0) := by decide +kernel
theorem names_inj : ∀ k : Fin 49, Im.formN k.1 ≠ 0 → ∀ j : Fin 49, (Im.nameN k.1).toList = (Im.nameN j.1).toList → k = j := by decide +kernel
theorem names_small : ∀ k : Fin 49, (Im.nameN k.1).data.toList.all (fun b => decide (97 ≤ b.toNat) && decide (b.toNat ≤ 122)) = true := by decide +kernel
theorem names_size : ∀ k : Fin 49, (Im.nameN k.1).size ≤ 5 := by decide +kernel
theorem name_case (op : Int) : (Im.name op = ⟨#[]⟩ ∧ Im.form op = 0) ∨ ∃ k : Fin 49, op = (k.1 : Int) ∧ Im.name op = Im.nameN k.1 ∧ Im.form op = (Im.formN k.1 : Nat) := by
  rcases Classical.em (op < 0 ∨ 49 ≤ op) with h | h
  · exact .inl ⟨Im.name_out h, Im.form_out h⟩
  · obtain ⟨k, rfl⟩ := Int.eq_ofNat_of_zero_le (show 0 ≤ op by omega)
    exact .inr ⟨⟨k, by omega⟩, rfl, Im.name_nat k, Im.form_nat k⟩
theorem name_empty (op : Int) : ((Im.name op).toList == []) = (Im.form op == 0) := by
  rcases name_case op with ⟨h1, h2⟩ | ⟨k, -, h1, h2⟩
  · rw [h1, h2]; decide +kernel
  · rw [h1, h2, names_form k]
    cases hh : (Im.formN k.1 == 0)
    · have : Im.formN k.1 ≠ 0 := by simpa using hh
      symm; rw [beq_eq_false_iff_ne]; omega
    · have : Im.formN k.1 = 0 := by simpa using hh
      rw [this]; rfl
theorem name_find {op : Int} (h : Im.form op ≠ 0) : findI (Im.name op) = op := by
  rcases name_case op with ⟨_, h2⟩ | ⟨k, rfl, h1, h2⟩
  · exact absurd h2 h
  · rw [h1]
    have hk : Im.formN k.1 ≠ 0 := fun e => h (by rw [h2, e]; rfl)
    refine findI_hit k.2 (by unfold hit; simp [hk]) (fun j hj => ?_)
    unfold hit
    by_cases hf : Im.formN j = 0
    · simp [hf]
    · have hne : (Im.nameN j).toList ≠ (Im.nameN k.1).toList := fun e => by
        have h3 := names_inj ⟨j, by omega⟩ hf k e
        have h4 : j = k.1 := congrArg Fin.val h3
        omega
      simp [hne]
theorem name_inj {a b : Int} (h : Im.form a ≠ 0) (he : (Im.name a).toList = (Im.name b).toList) : a = b := by
  have ha : ((Im.name a).toList == []) = false := by rw [name_empty]; simpa using h
  have hb : Im.form b ≠ 0 := fun e => by
    rw [he, name_empty, e] at ha
    cases ha
  rcases name_case a with ⟨_, h2⟩ | ⟨k, rfl, h1, h2⟩
  · exact absurd h2 h
  · rcases name_case b with ⟨_, h3⟩ | ⟨j, rfl, h4, h5⟩
    · exact absurd h3 hb
    · rw [h1, h4] at he
      have hk : Im.formN k.1 ≠ 0 := fun e => h (by rw [h2, e]; rfl)
      rw [names_inj k hk j he]
/-- A name's bytes. -/
def Small (x : ByteArray) : Prop := x.size ≤ 5 ∧ ∀ (k : Nat) (h : k < x.size), 97 ≤ (x[k].toNat : Int) ∧ (x[k].toNat : Int) ≤ 122
theorem name_small (op : Int) : Small (Im.name op) := by
  rcases name_case op with ⟨h1, _⟩ | ⟨k, -, h1, _⟩
  · rw [h1]; exact ⟨by decide, fun k h => absurd h (by decide +revert)⟩
  · rw [h1]
    refine ⟨names_size k, fun j hj => ?_⟩
    have hm : (Im.nameN k.1).data.toList[j]'(by simpa using hj) ∈ (Im.nameN k.1).data.toList := List.getElem_mem _
    have := List.all_eq_true.1 (names_small k) _ hm
    simp only [Bool.and_eq_true, decide_eq_true_eq] at this
    have e : (Im.nameN k.1)[j] = (Im.nameN k.1).data.toList[j]'(by simpa using hj) := rfl
    rw [e]
    omega
set_option maxRecDepth 100000 in
set_option maxHeartbeats 4000000 in
theorem names1_z (a b f : Int) (x y : ByteArray) (w : World)
    (SA : Hid (∀ w', Later w w' → Calls Tryd.prog 13 #[] w' fun e w'' => e = .returned (.bool true) ∧ Later w' w''))
    (NA : Hid (∀ w', Later w w' → Calls Tryd.prog 27 #[.int .i64 a] w' fun e w'' => e = .returned (.string x) ∧ Later w' w''))
    (NB : Hid (∀ w', Later w w' → Calls Tryd.prog 27 #[.int .i64 b] w' fun e w'' => e = .returned (.string y) ∧ Later w' w''))
    (FA : Hid (∀ w', Later w w' → Calls Tryd.prog 25 #[.int .i64 a] w' fun e w'' => e = .returned (.int .i64 f) ∧ Later w' w''))
    (F0 : Hid (∀ w', Later w w' → Calls Tryd.prog 31 #[.string ⟨#[]⟩] w' fun e w'' => e = .returned (.int .i64 0) ∧ Later w' w''))
    (hsm : Small x) (he : (x.toList == []) = true) (hsz : x.size = 0) (hg : (f != 0) = false) :
    Calls Tryd.prog 7 #[.int .i64 a, .int .i64 b] w fun e w' => e = .returned (.bool true) ∧ Later w w' := by
  obtain ⟨h5, hb⟩ := hsm
  have HB := Lib.hid hb; clear hb
  go_enter Tryd.func7, Tryd.ntmps7
  go_wp2_with (first
    | (go_at_call 27; (with_reducible refine (NB.out w1 l1).mono ?_); rintro e w2 ⟨rfl, h2⟩; have l2 := Later.trans_ l1 h2)
    | (go_at_call 27; (with_reducible refine (NA.out w (Below.refl _ _)).mono ?_); rintro e w1 ⟨rfl, l1⟩)
    | (go_at_call 25; (with_reducible refine (FA.out w2 l2).mono ?_); rintro e w3 ⟨rfl, h3⟩; have l3 := Later.trans_ l2 h3))
  go_loopw [7] (fun i wr => ∃ k : Nat, k ≤ x.size ∧ i = .int .i64 k ∧ w3 = wr) (fun i _ => x.size - (intOf i).toNat)
  case atStart => exact ⟨0, Nat.zero_le _, rfl, rfl⟩
  case round =>
    obtain ⟨k, hk, rfl, rfl⟩ := hrel
    by_cases hlt : k < x.size
    · omega
    · go_wp2_with (first
        | (go_at_call 13; (with_reducible refine (SA.out w3 l3).mono ?_); rintro e w5 ⟨rfl, h5⟩; have l5 := Later.trans_ l3 h5)
        | (go_at_call 31; (with_reducible refine (F0.out w5 l5).mono ?_); rintro e w6 ⟨rfl, h6⟩; have l6 := Later.trans_ l5 h6))
      go_ret
      exact ⟨rfl, l6⟩
set_option maxRecDepth 100000 in
set_option maxHeartbeats 4000000 in
theorem names1_e (a f : Int) (x : ByteArray) (w : World)
    (SA : Hid (∀ w', Later w w' → Calls Tryd.prog 13 #[] w' fun e w'' => e = .returned (.bool true) ∧ Later w' w''))
    (NA : Hid (∀ w', Later w w' → Calls Tryd.prog 27 #[.int .i64 a] w' fun e w'' => e = .returned (.string x) ∧ Later w' w''))
    (FA : Hid (∀ w', Later w w' → Calls Tryd.prog 25 #[.int .i64 a] w' fun e w'' => e = .returned (.int .i64 f) ∧ Later w' w''))
    (FX : Hid (∀ w', Later w w' → Calls Tryd.prog 31 #[.string x] w' fun e w'' => e = .returned (.int .i64 a) ∧ Later w' w''))
    (F0 : Hid (∀ w', Later w w' → Calls Tryd.prog 31 #[.string ⟨#[]⟩] w' fun e w'' => e = .returned (.int .i64 0) ∧ Later w' w''))
    (hsm : Small x) (he : (x.toList == []) = false) (hg : (f != 0) = true) :
    Calls Tryd.prog 7 #[.int .i64 a, .int .i64 a] w fun e w' => e = .returned (.bool true) ∧ Later w w' := by
  obtain ⟨h5, hb⟩ := hsm
  have HB := Lib.hid hb; clear hb
  go_enter Tryd.func7, Tryd.ntmps7
  go_wp2_with (first
    | (go_at_call 27; (with_reducible refine (NA.out w1 l1).mono ?_); rintro e w2 ⟨rfl, h2⟩; have l2 := Later.trans_ l1 h2)
    | (go_at_call 27; (with_reducible refine (NA.out w (Below.refl _ _)).mono ?_); rintro e w1 ⟨rfl, l1⟩)
    | (go_at_call 25; (with_reducible refine (FA.out w2 l2).mono ?_); rintro e w3 ⟨rfl, h3⟩; have l3 := Later.trans_ l2 h3)
    | (go_at_call 31; (with_reducible refine (FX.out w3 l3).mono ?_); rintro e w4 ⟨rfl, h4⟩; have l4 := Later.trans_ l3 h4))
  go_loopw [7] (fun i wr => ∃ k : Nat, k ≤ x.size ∧ i = .int .i64 k ∧ w4 = wr) (fun i _ => x.size - (intOf i).toNat)
  case atStart => exact ⟨0, Nat.zero_le _, rfl, rfl⟩
  case round =>
    obtain ⟨k, hk, rfl, rfl⟩ := hrel
    by_cases hlt : k < x.size
    · obtain ⟨b1, b2⟩ := HB.out k hlt
      go_wp2
      go_roundw
      case rel => exact ⟨k + 1, by omega, by go_num, trivial⟩
      case measure => simp [intOf]; omega
    · go_wp2_with (first
        | (go_at_call 13; (with_reducible refine (SA.out w4 l4).mono ?_); rintro e w5 ⟨rfl, h5⟩; have l5 := Later.trans_ l4 h5)
        | (go_at_call 31; (with_reducible refine (F0.out w5 l5).mono ?_); rintro e w6 ⟨rfl, h6⟩; have l6 := Later.trans_ l5 h6))
      go_ret
      exact ⟨rfl, l6⟩
set_option maxRecDepth 100000 in
set_option maxHeartbeats 4000000 in
theorem names1_n (a b f : Int) (x y : ByteArray) (w : World)
    (SA : Hid (∀ w', Later w w' → Calls Tryd.prog 13 #[] w' fun e w'' => e = .returned (.bool true) ∧ Later w' w''))
    (NA : Hid (∀ w', Later w w' → Calls Tryd.prog 27 #[.int .i64 a] w' fun e w'' => e = .returned (.string x) ∧ Later w' w''))
    (NB : Hid (∀ w', Later w w' → Calls Tryd.prog 27 #[.int .i64 b] w' fun e w'' => e = .returned (.string y) ∧ Later w' w''))
    (FA : Hid (∀ w', Later w w' → Calls Tryd.prog 25 #[.int .i64 a] w' fun e w'' => e = .returned (.int .i64 f) ∧ Later w' w''))
    (FX : Hid (∀ w', Later w w' → Calls Tryd.prog 31 #[.string x] w' fun e w'' => e = .returned (.int .i64 a) ∧ Later w' w''))
    (F0 : Hid (∀ w', Later w w' → Calls Tryd.prog 31 #[.string ⟨#[]⟩] w' fun e w'' => e = .returned (.int .i64 0) ∧ Later w' w''))
    (hsm : Small x) (he : (x.toList == []) = false) (hg : (f != 0) = true) (hxy : (x.toList == y.toList) = false) :
    Calls Tryd.prog 7 #[.int .i64 a, .int .i64 b] w fun e w' => e = .returned (.bool true) ∧ Later w w' := by
  obtain ⟨h5, hb⟩ := hsm
  have HB := Lib.hid hb; clear hb
  go_enter Tryd.func7, Tryd.ntmps7
  go_wp2_with (first
    | (go_at_call 27; (with_reducible refine (NB.out w1 l1).mono ?_); rintro e w2 ⟨rfl, h2⟩; have l2 := Later.trans_ l1 h2)
    | (go_at_call 27; (with_reducible refine (NA.out w (Below.refl _ _)).mono ?_); rintro e w1 ⟨rfl, l1⟩)
    | (go_at_call 25; (with_reducible refine (FA.out w2 l2).mono ?_); rintro e w3 ⟨rfl, h3⟩; have l3 := Later.trans_ l2 h3)
    | (go_at_call 31; (with_reducible refine (FX.out w3 l3).mono ?_); rintro e w4 ⟨rfl, h4⟩; have l4 := Later.trans_ l3 h4))
  go_loopw [7] (fun i wr => ∃ k : Nat, k ≤ x.size ∧ i = .int .i64 k ∧ w4 = wr) (fun i _ => x.size - (intOf i).toNat)
  case atStart => exact ⟨0, Nat.zero_le _, rfl, rfl⟩
  case round =>
    obtain ⟨k, hk, rfl, rfl⟩ := hrel
    by_cases hlt : k < x.size
    · obtain ⟨b1, b2⟩ := HB.out k hlt
      go_wp2
      go_roundw
      case rel => exact ⟨k + 1, by omega, by go_num, trivial⟩
      case measure => simp [intOf]; omega
    · go_wp2_with (first
        | (go_at_call 13; (with_reducible refine (SA.out w4 l4).mono ?_); rintro e w5 ⟨rfl, h5⟩; have l5 := Later.trans_ l4 h5)
        | (go_at_call 31; (with_reducible refine (F0.out w5 l5).mono ?_); rintro e w6 ⟨rfl, h6⟩; have l6 := Later.trans_ l5 h6))
      go_ret
      exact ⟨rfl, l6⟩
theorem lawNames1_any (a b : Int) (w : World) (tab : Tab w) :
    Calls Tryd.prog 7 #[.int .i64 a, .int .i64 b] w fun e w' => e = .returned (.bool true) ∧ Later w w' := by
  have SA := fun w' (hl : Later w w') => sanity_any w' (tab.keep hl)
  have NA := fun w' (hl : Later w w') => name_any a w' (tab.keep hl)
  have NB := fun w' (hl : Later w w') => name_any b w' (tab.keep hl)
  have FA := fun w' (hl : Later w w') => form_any a w' (tab.keep hl)
  have F0 := fun w' (hl : Later w w') => find_any ⟨#[]⟩ w' (tab.keep hl)
  have FX := fun w' (hl : Later w w') => find_any (Im.name a) w' (tab.keep hl)
  have e0 : findI ⟨#[]⟩ = 0 := by decide +kernel
  simp only [e0] at F0
  have he := name_empty a
  by_cases hf : Im.form a = 0
  · rw [hf] at he
    have hz : (Im.name a).size = 0 := by
      rcases name_case a with ⟨h1, _⟩ | ⟨k, -, h1, h2⟩
      · rw [h1]; rfl
      · have h3 : (Im.nameN k.1).toList = [] := by rw [h1] at he; simpa using he
        rw [h1]
        rw [ByteArray.toList_eq] at h3
        show (Im.nameN k.1).data.size = 0
        rw [← Array.length_toList, h3]; rfl
    exact names1_z a b (Im.form a) (Im.name a) (Im.name b) w SA NA NB FA F0 (name_small a) he hz (by rw [hf]; rfl)
  · simp only [name_find hf] at FX
    rw [show (Im.form a == 0) = false by simpa using hf] at he
    have hg : (Im.form a != 0) = true := by simpa using hf
    by_cases hab : a = b
    · subst hab
      exact names1_e a (Im.form a) (Im.name a) w SA NA FA FX F0 (name_small a) he hg
    · exact names1_n a b (Im.form a) (Im.name a) (Im.name b) w SA NA NB FA FX F0 (name_small a) he hg (beq_eq_false_iff_ne.2 fun e => hab (name_inj hf e))
end Go.Proofs.YtbnlpkjjdijfmabDoor
