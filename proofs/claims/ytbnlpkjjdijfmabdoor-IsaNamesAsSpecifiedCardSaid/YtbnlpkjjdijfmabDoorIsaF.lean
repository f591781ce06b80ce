/-
  THE WALKS OF isa.Access, Privileged, Find.
-/
import Derived.Test.YtbnlpkjjdijfmabDoorIsaD
namespace Go.Proofs.YtbnlpkjjdijfmabDoor
open Go.RowKit Go.ChangeShapes Go.WideShapes Go.ChangeAt

def accA (op : Int) : Int := if op = 20 then 1 else if op = 22 then 1 else if op = 21 then 2 else if op = 23 then 2 else if op = 24 then 3 else 0
def accS (op : Int) : Int := if op = 20 then 4 else if op = 22 then 1 else if op = 21 then 4 else if op = 23 then 1 else if op = 24 then 4 else 0
set_option maxRecDepth 100000 in
theorem access_any (op : Int) (w : World) : Calls Tryd.prog 23 #[.int .i64 op] w fun e w' => e = .returned (.tuple #[.int .i64 (accA op), .int .i64 (accS op)]) ∧ w = w' := by
  unfold accA accS
  by_cases h1 : op = 20
  · subst h1
    go_enter Tryd.func23, Tryd.ntmps23
    go_wp2
    go_ret2
    exact ⟨rfl, rfl⟩
  by_cases h2 : op = 22
  · subst h2
    go_enter Tryd.func23, Tryd.ntmps23
    go_wp2
    go_ret2
    exact ⟨rfl, rfl⟩
  by_cases h3 : op = 21
  · subst h3
    go_enter Tryd.func23, Tryd.ntmps23
    go_wp2
    go_ret2
    exact ⟨rfl, rfl⟩
  by_cases h4 : op = 23
  · subst h4
    go_enter Tryd.func23, Tryd.ntmps23
    go_wp2
    go_ret2
    exact ⟨rfl, rfl⟩
  by_cases h5 : op = 24
  · subst h5
    go_enter Tryd.func23, Tryd.ntmps23
    go_wp2
    go_ret2
    exact ⟨rfl, rfl⟩
  rw [if_neg h1, if_neg h2, if_neg h3, if_neg h4, if_neg h5, if_neg h1, if_neg h2, if_neg h3, if_neg h4, if_neg h5]
  have b1 : (op == 20) = false := beq_eq_false_iff_ne.2 h1
  have b2 : (op == 22) = false := beq_eq_false_iff_ne.2 h2
  have b3 : (op == 21) = false := beq_eq_false_iff_ne.2 h3
  have b4 : (op == 23) = false := beq_eq_false_iff_ne.2 h4
  have b5 : (op == 24) = false := beq_eq_false_iff_ne.2 h5
  clear h1 h2 h3 h4 h5
  go_enter Tryd.func23, Tryd.ntmps23
  go_wp2
  go_ret2
  exact ⟨rfl, rfl⟩
set_option maxRecDepth 100000 in
theorem priv_any (op : Int) (w : World) : Calls Tryd.prog 29 #[.int .i64 op] w fun e w' => e = .returned (.bool (decide (41 ≤ op ∧ op ≤ 48))) ∧ w = w' := by
  by_cases h : 41 ≤ op ∧ op ≤ 48
  · rw [decide_eq_true h]
    obtain rfl | rfl | rfl | rfl | rfl | rfl | rfl | rfl : op = 41 ∨ op = 42 ∨ op = 43 ∨ op = 44 ∨ op = 45 ∨ op = 46 ∨ op = 47 ∨ op = 48 := by omega
    all_goals
      clear h
      go_enter Tryd.func29, Tryd.ntmps29
      go_wp2
      go_ret
      exact ⟨rfl, rfl⟩
  · rw [decide_eq_false h]
    have b1 : (op == 41) = false := beq_eq_false_iff_ne.2 (by omega)
    have b2 : (op == 42) = false := beq_eq_false_iff_ne.2 (by omega)
    have b3 : (op == 43) = false := beq_eq_false_iff_ne.2 (by omega)
    have b4 : (op == 44) = false := beq_eq_false_iff_ne.2 (by omega)
    have b5 : (op == 45) = false := beq_eq_false_iff_ne.2 (by omega)
    have b6 : (op == 46) = false := beq_eq_false_iff_ne.2 (by omega)
    have b7 : (op == 47) = false := beq_eq_false_iff_ne.2 (by omega)
    have b8 : (op == 48) = false := beq_eq_false_iff_ne.2 (by omega)
    clear h
    go_enter Tryd.func29, Tryd.ntmps29
    go_wp2
    go_ret
    exact ⟨rfl, rfl⟩

/-- The number of a name. -/
def hit (s : ByteArray) (k : Nat) : Bool := Im.formN k != 0 && (Im.nameN k).toList == s.toList
def findI (s : ByteArray) : Int := match (List.range 49).find? (hit s) with | some k => (k : Int) | none => 0
theorem findI_hit {s : ByteArray} {k : Nat} (hk : k < 49) (h : hit s k = true) (h0 : ∀ j, j < k → hit s j = false) : findI s = k := by
  unfold findI
  rw [List.find?_range_eq_some.2 ⟨h, List.mem_range.2 hk, fun j hj => by rw [h0 j hj]; rfl⟩]
theorem findI_none {s : ByteArray} (h : ∀ j, j < 49 → hit s j = false) : findI s = 0 := by
  unfold findI
  rw [List.find?_range_eq_none.2 fun j hj => by rw [h j hj]; rfl]
theorem run_index_ops (k : Nat) (hk : k < 49) (w : World) : (Instr.index 72 (.agg opCells.toArray) (.int .i64 (k : Nat))).run Tryd.prog w = .ok (.agg #[.string (Im.nameN k), .int .i64 (Im.formN k : Nat)]) w := by
  have h1 : (isAgg 68).run Tryd.prog w = .ok true w := by kernel_rfl
  have h2 : (sizeOf 68).run Tryd.prog w = .ok 2 w := by kernel_rfl
  have h3 : List.take 2 (List.drop (k * 2) opCells) = [.string (Im.nameN k), .int .i64 (Im.formN k : Nat)] := by
    apply List.ext_getElem?
    intro j
    have e0 := opCell0 hk
    have e1 := opCell1 hk
    rw [Nat.mul_comm] at e0 e1
    simp only [List.getElem?_take, List.getElem?_drop]
    rcases j with _ | _ | j
    · simpa using e0
    · simpa using e1
    · simp; omega
  unfold Instr.index
  simp [asIntOf, run_underlying Tryd.underlying72, part, h1, h2, h3, hk, Result.andThen]

set_option maxRecDepth 100000 in
set_option maxHeartbeats 1000000 in
theorem find_any (s : ByteArray) (w : World) (tab : Tab w) : Calls Tryd.prog 31 #[.string s] w fun e w' => e = .returned (.int .i64 (findI s)) ∧ Later w w' := by
  obtain ⟨t, fr, hg⟩ := tab
  obtain ⟨F, hF⟩ : ∃ F, F = findI s := ⟨_, rfl⟩
  rw [← hF]
  have HF := Lib.hid hF; clear hF
  have HI := Lib.hid run_index_ops
  have hsz : (Tryd.prog.info? 72).map (·.size) = some opCells.toArray.size := by
    rw [List.size_toArray, opCells_len]; kernel_rfl
  have HS := Lib.hid hsz; clear hsz
  obtain ⟨T, hT⟩ : ∃ T, T = opCells.toArray := ⟨_, rfl⟩
  rw [← hT] at hg HS HI
  clear hT
  have hu := Tryd.underlying72
  go_enter Tryd.func31, Tryd.ntmps31
  go_wp2_with (refine wpList_load_row rfl 72 _ rfl 0 rfl t _ fr _ hg hu rfl HS.out ?_)
  go_loopw [6] (fun i wr => ∃ k : Nat, k ≤ 49 ∧ i = .int .i64 k ∧ Hid (∀ j, j < k → hit s j = false) ∧ Hid (Later w wr)) (fun i _ => 49 - (intOf i).toNat)
  case atStart => exact ⟨0, Nat.zero_le _, rfl, Lib.hid (fun j hj => absurd hj (Nat.not_lt_zero j)), Lib.hid (Below.refl _ _)⟩
  case round =>
    obtain ⟨k, hk, rfl, HP, HL⟩ := hrel
    rcases Nat.lt_or_ge k 49 with hlt | hge
    · have hx := fun wx => HI.out k hlt wx
      by_cases h0 : Im.formN k = 0
      · have hz : ((Im.formN k : Int) != 0) = false := by rw [h0]; rfl
        have hh : hit s k = false := by unfold hit; rw [h0]; rfl
        have HH := Lib.hid hh; clear hh h0
        go_wp2
        go_roundw
        case rel => exact ⟨k + 1, by omega, by go_num, Lib.hid (fun j hj => by rcases Nat.lt_succ_iff_lt_or_eq.1 hj with h | h; exact HP.out j h; rw [h]; exact HH.out), Lib.hid (Later.trans_ HL.out (later1 _ _))⟩
        case measure => simp [intOf]; omega
      · have hz : ((Im.formN k : Int) != 0) = true := by simpa using h0
        by_cases h1 : (Im.nameN k).toList = s.toList
        · have he : ((Im.nameN k).toList == s.toList) = true := beq_iff_eq.2 h1
          have hf : F = k := by rw [HF.out]; exact findI_hit hlt (by unfold hit; rw [he, Bool.and_true]; simpa using h0) HP.out
          clear h1 h0
          go_wp2
          go_ret
          exact ⟨by rw [hf]; rfl, Later.trans_ HL.out (later1 _ _)⟩
        · have he : ((Im.nameN k).toList == s.toList) = false := beq_eq_false_iff_ne.2 h1
          have hh : hit s k = false := by unfold hit; rw [he, Bool.and_false]
          have HH := Lib.hid hh; clear hh h0 h1
          go_wp2
          go_roundw
          case rel => exact ⟨k + 1, by omega, by go_num, Lib.hid (fun j hj => by rcases Nat.lt_succ_iff_lt_or_eq.1 hj with h | h; exact HP.out j h; rw [h]; exact HH.out), Lib.hid (Later.trans_ HL.out (later1 _ _))⟩
          case measure => simp [intOf]; omega
    · obtain rfl : k = 49 := by omega
      have hf : F = 0 := by rw [HF.out]; exact findI_none HP.out
      go_wp2
      go_ret
      exact ⟨by rw [hf]; rfl, HL.out⟩
end Go.Proofs.YtbnlpkjjdijfmabDoor
