/-
  THE STATEMENT TableStaysInMemory: what a walk names lies in the memory; what it stores keeps where it leads; for every memory, root, address, access and mode.
-/
import Derived.Test.YtiaejldknbicdaaTabZ2b
import Derived.Test.YtiaejldknbicdaaTabZ2c
import Derived.Test.YtiaejldknbicdaaTabZ2d
namespace Go.Proofs.Ytiaejldknbicdaa
open Go.RowKit Go.ChangeShapes Go.WideShapes Go.ChangeAt

theorem stays_root (A : Option Addr) (n c : Nat) (root va acc : Int) (us : Bool) (b : Wm.Bs) (w : World) (hs : Sl w 128 A n (U b)) (hb : Wm.isBs b) (h1 : 1 ≤ n ∧ n ≤ 64) (hr : 0 ≤ root ∧ root ≤ 4294967295) (hv : 0 ≤ va ∧ va ≤ 4294967295) (hacc : 1 ≤ acc ∧ acc ≤ 4) (hok : (Tm.walk n b root va acc us).ok = true) (h0 : root ≠ 0) :
    Calls Try.prog 5 #[.agg #[.slice A n c], .int .u32 root, .int .u32 va, .int .i64 acc, .bool us] w fun e w' => e = .returned (.bool true) ∧ Later w w' := by
  have hbl : b.length = n * 128 := by have := hs.1; rwa [U_length] at this
  have L := Tm.leads hb hbl h0 hr.1 hv.1 hok
  obtain ⟨X, hX⟩ : ∃ X, X = Tm.walk n b root va acc us := ⟨_, rfl⟩
  rw [← hX] at L hok
  obtain ⟨ok, xa, xl, s, r⟩ := X
  obtain rfl : ok = true := hok
  obtain ⟨a0, a1, off, l0, th, rd, st⟩ := L
  simp only at a0 a1 off l0 th rd st
  rcases st with rfl | ⟨v, rfl, hve, y1, y2, y3, hX2⟩
  · rcases rd with rfl | ⟨f, rfl⟩
    · exact stays_01 A n c root va acc us b w hs hb h1 hr hv hacc xa xl hX.symm h0 a0 a1 off l0
    · by_cases hf : f = xl
      · exact stays_02s A n c root va acc us b w hs hb h1 hr hv hacc xa xl f hX.symm h0 a0 a1 off l0 hf
      · exact stays_02 A n c root va acc us b w hs hb h1 hr hv hacc xa xl f hX.symm h0 a0 a1 off l0 hf
  · rcases rd with rfl | ⟨f, rfl⟩
    · exact stays_11 A n c root va acc us b w hs hb h1 hr hv hacc xa xl v hX.symm h0 a0 a1 off l0 th hve y1 y2 y3 (hX2 (fun f hf => by cases hf))
    · by_cases hf : f = xl
      · exact stays_12s A n c root va acc us b w hs hb h1 hr hv hacc xa xl f v hX.symm h0 a0 a1 off l0 th hf hve y1 y2 y3
      · exact stays_12 A n c root va acc us b w hs hb h1 hr hv hacc xa xl f v hX.symm h0 a0 a1 off l0 th hf hve y1 y2 y3 (hX2 (fun f2 h2 => by injection h2 with h3; rw [← h3]; exact hf))
theorem stays_all (A : Option Addr) (n c : Nat) (root va acc : Int) (us : Bool) (b : Wm.Bs) (w : World) (hs : Sl w 128 A n (U b)) (hb : Wm.isBs b) (hr : 0 ≤ root ∧ root ≤ 4294967295) (hv : 0 ≤ va ∧ va ≤ 4294967295) :
    Calls Try.prog 5 #[.agg #[.slice A n c], .int .u32 root, .int .u32 va, .int .i64 acc, .bool us] w fun e w' => e = .returned (.bool true) ∧ Later w w' := by
  by_cases h1 : 1 ≤ n ∧ n ≤ 64
  · by_cases hacc : 1 ≤ acc ∧ acc ≤ 4
    · cases hok : (Tm.walk n b root va acc us).ok with
      | false => exact stays_no A n c root va acc us b w hs hb h1 hr hv hacc hok
      | true =>
        by_cases h0 : root = 0
        · subst h0
          have hw : Tm.walk n b 0 va acc us = Tm.unt n va := by unfold Tm.walk; rw [if_pos rfl]
          rw [hw] at hok
          by_cases hlt : va < (n : Int) * 128
          · have hX : Tm.walk n b 0 va acc us = ⟨true, va, -1, [], []⟩ := by rw [hw]; unfold Tm.unt; rw [if_pos hlt]
            exact stays_zero A n c va acc us b w hs hb h1 hv hacc hX hlt
          · unfold Tm.unt at hok
            rw [if_neg hlt] at hok
            cases hok
        · exact stays_root A n c root va acc us b w hs hb h1 hr hv hacc hok h0
    · exact stays_bad2 A n c root va acc us w h1 hacc
  · exact stays_bad1 A n c root va acc us w h1

set_option maxRecDepth 100000 in
theorem tableStaysInMemory_lifted (os : Os) (started : os.Started) (H : Type) (enc : TypeId × Value → H) :
    ReturnsInHanded {} Try.checked os 5 .any (Rows.tableStaysInMemorySpec.pre6 enc Try.prog Try.f5 Rows.tableStaysInMemoryRow.domain false) (Rows.tableStaysInMemorySpec.post enc Try.prog Try.f5 false true false false) := by
  refine returnsInHanded_of_change (C := Try.checked) ownK started (by kernel_rfl) Try.func5
    (ChangeSpec.witness6 (enc := enc) (C := Try.checked) false ⟨#[], #[.agg #[.slice none 0 0], .int .u32 0, .int .u32 0, .int .i64 0, .bool false], []⟩ 8 (by kernel_rfl) (by kernel_rfl) (by kernel_rfl) (by kernel_rfl)) ?_
  intro W base args ds gs before hval0 hW hcnd _
  have hval : ∀ (j : Nat) t v, Try.f5.params[j]? = some t → args[j]? = some v → Value.okWide Try.prog W .any base t v := hval0
  have hW' := hW
  obtain ⟨p, q, hA0, hV, rfl, hfz, hnd⟩ := hW
  have hA : DataW.TrodAll enc Try.prog W 0 (fun _ => true) true Try.f5.params.toList args.toList ds p := hA0
  rw [Try.params5] at hA hval
  obtain ⟨v0, vs0, d0, ds0, p0, q0, hargs, rfl, rfl, h0, r0⟩ := trodAll_cons hA
  obtain ⟨v1, vs1, d1, ds1, p1, q1, rfl, rfl, rfl, h1, r1⟩ := trodAll_cons r0
  obtain ⟨v2, vs2, d2, ds2, p2, q2, rfl, rfl, rfl, h2, r2⟩ := trodAll_cons r1
  obtain ⟨v3, vs3, d3, ds3, p3, q3, rfl, rfl, rfl, h3, r3⟩ := trodAll_cons r2
  obtain ⟨v4, vs4, d4, ds4, p4, q4, rfl, rfl, rfl, h4, r4⟩ := trodAll_cons r3
  obtain ⟨rfl, rfl, rfl⟩ := trodAll_nil r4
  obtain rfl : args = #[v0, v1, v2, v3, v4] := by cases args; simp_all
  obtain ⟨rfl, rfl⟩ := trodVars_none hV
  obtain ⟨A0, n0, c0, b0, rfl, x0, y0, s0, z0⟩ := mem_arg (K := 128) (by omega) Try.underlying24 rfl Try.underlying22 Try.underlying120 Try.underlying5 (by kernel_rfl) (by kernel_rfl) (by kernel_rfl) (by kernel_rfl) (hval 0 24 v0 rfl rfl) h0
  obtain ⟨a1, rfl, z1⟩ := u32_arg Try.underlying25 (hval 1 25 v1 rfl rfl) h1
  obtain ⟨a2, rfl, z2⟩ := u32_arg Try.underlying25 (hval 2 25 v2 rfl rfl) h2
  obtain ⟨a3, rfl, z3⟩ := int_arg Try.underlying3 (hval 3 3 v3 rfl rfl) h3
  obtain ⟨a4, rfl, rfl, rfl⟩ := open_bool Try.underlying4 (hval 4 4 v4 rfl rfl) h4
  clear hA0 hval0
  simp only [List.append_nil] at hW'
  refine (stays_all A0 n0 c0 a1 a2 a3 a4 b0 W s0 z0 z1 z2).mono fun e W' ⟨he, hw⟩ => ?_
  subst he
  exact ⟨_, rfl, law_post laidK rfl (by kernel_rfl) (by kernel_rfl) Try.underlying4 (by kernel_rfl) hW' rfl hw⟩
set_option maxRecDepth 100000 in
/-- The statement. -/
theorem tableStaysInMemory_said : Rows.TableStaysInMemorySaid :=
  OpenClaim.holds_of_wide 5 Try.f5 rfl rfl rfl rfl rfl rfl rfl ⟨rfl, rfl, rfl, rfl, rfl⟩ rfl rfl rfl rfl rfl (by kernel_rfl) Try.func5 (by kernel_rfl)
    (of_decide_eq_true (by kernel_rfl)) (by unfold Func.isWrapper; first | (rw [if_pos (by decide +kernel)]; kernel_rfl) | (rw [if_neg (by decide +kernel)]; exact ⟨rfl, rfl⟩))
    (fun os started H enc _ => tableStaysInMemory_lifted os started H enc)

#print axioms tableStaysInMemory_said
end Go.Proofs.Ytiaejldknbicdaa
