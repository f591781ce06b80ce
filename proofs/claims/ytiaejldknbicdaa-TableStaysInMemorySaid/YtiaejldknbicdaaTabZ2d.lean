/-
  THE STATEMENT TableStaysInMemory: the walks that store the second entry.
-/
import Derived.Test.YtiaejldknbicdaaTabZ2a
namespace Go.Proofs.Ytiaejldknbicdaa
open Go.RowKit Go.ChangeShapes Go.WideShapes Go.ChangeAt

set_option maxRecDepth 100000 in
set_option maxHeartbeats 4000000 in
theorem stays_12 (A : Option Addr) (n c : Nat) (root va acc : Int) (us : Bool) (b : Wm.Bs) (w : World) (hs : Sl w 128 A n (U b)) (hb : Wm.isBs b) (h1 : 1 ≤ n ∧ n ≤ 64) (hr : 0 ≤ root ∧ root ≤ 4294967295) (hv : 0 ≤ va ∧ va ≤ 4294967295) (hacc : 1 ≤ acc ∧ acc ≤ 4) (xa xl f v : Int) (hX : Tm.walk n b root va acc us = ⟨true, xa, xl, [(xl, 4, v)], [f, xl]⟩) (h0 : root ≠ 0) (x0 : 0 ≤ xa) (x1 : xa < (n : Int) * 128) (x2 : xa % 128 = va % 128) (x3 : 0 ≤ xl) (x4 : Mm.There b.length xl 4) (hf : f ≠ xl) (hve : Tm.isE v) (y1 : bits .andNot .u32 (bits .xor .u32 (Tm.wd b xl) v) 48 = 0) (y2 : bits .andNot .u32 (Tm.wd b xl) v = 0) (y3 : Tm.wd b xl ≠ v) (hX2 : Tm.walk n (Mm.put b xl.toNat (Mm.el 4 v)) root va acc us = ⟨true, xa, xl, [], [f, xl]⟩) :
    Calls Try.prog 5 #[.agg #[.slice A n c], .int .u32 root, .int .u32 va, .int .i64 acc, .bool us] w fun e w' => e = .returned (.bool true) ∧ Later w w' := by
  have HV := Lib.hid fun w' => rvalid_any A n c w'
  rw [decide_eq_true h1] at HV
  have HA := Lib.hid fun w' => access_any acc w'
  rw [decide_eq_true hacc] at HA
  have HN := Lib.hid fun w' => sanity_any w'
  have HS := Lib.hid fun w' => size_any A n c w' h1.2
  have KW := Lib.hid fun w' hl => walk_got A n c root va acc us b w hs hb h1 hr hv _ hX 0 rfl w' hl
  have KW : Hid (∀ w', Later w w' → Calls Try.prog 11 #[.agg #[.slice A n c], .int .u32 root, .int .u32 va, .int .i64 acc, .bool us] w' (GotX xa xl [(xl, 4, v)] [f, xl] 1 2 0 w')) := KW
  have hbl : b.length = n * 128 := by have := hs.1; rwa [U_length] at this
  have KL : Hid (∀ w', Later w w' → Calls Try.prog 25 #[.agg #[.slice A n c], .int .i64 xl, .int .i64 4] w' fun e w'' => e = .returned (.tuple #[.int .u32 (Tm.wd b xl), .bool true]) ∧ Later w' w'') := Lib.hid fun w' hl => by
    have h := load_any A n c xl 4 b w' (hs.keep hl) hb h1.1 h1.2 ⟨by omega, by have := x4.2.2; omega⟩
    rw [decide_eq_true (by rw [← hbl]; exact x4)] at h
    exact h
  have hap : Mm.ap b [(xl, 4, v)] = some (Mm.put b xl.toNat (Mm.el 4 v)) := by rw [Mm.ap_cons, if_pos x4]; rfl
  have KA : Hid (∀ AS cl w', Later w w' → Sl w' 3 AS 1 (Ws [(xl, 4, v)]) → Calls Try.prog 26 #[.agg #[.slice A n c], .slice AS 1 cl] w' (GotMB n (Mm.put b xl.toNat (Mm.el 4 v)) true w')) := Lib.hid fun AS cl w' hl h => by
    have h2 := apply_any A n c 1 cl AS [(xl, 4, v)] b w' (hs.keep hl) hb h1.1 h1.2 h rfl (fun x hx => by
      obtain rfl := List.mem_singleton.1 hx
      exact ⟨⟨by show _ ≤ xl; omega, by show xl ≤ _; have := x4.2.2; omega⟩, ⟨by show (-9223372036854775808 : Int) ≤ 4; omega, by show (4 : Int) ≤ 9223372036854775807; omega⟩, hve.1, hve.2⟩) (by omega)
    rw [hap] at h2
    exact h2
  obtain ⟨b2, hb2⟩ : ∃ b2, b2 = (Mm.put b xl.toNat (Mm.el 4 v)) := ⟨_, rfl⟩
  have hbs2 : Wm.isBs b2 := by rw [hb2]; exact Mm.put_bs hb (Mm.el_bs 4 v)
  rw [← hb2] at KA hX2
  have KW2 := Lib.hid fun g c' w' hd => walk_on n root va acc us b2 h1 hbs2 hr hv xa xl [f, xl] hX2 g c' w' hd
  clear hap hb2 hbs2 hX2
  have KW2 : Hid (∀ g c' w', Draft w' g n b2 → Calls Try.prog 11 #[.agg #[.slice (some ⟨g, 0, none⟩) n c'], .int .u32 root, .int .u32 va, .int .i64 acc, .bool us] w' (GotX xa xl [] [f, xl] 0 2 0 w')) := KW2
  obtain ⟨N, hN⟩ : ∃ N : Int, N = ((n * 128 : Nat) : Int) := ⟨_, rfl⟩
  rw [← hN] at HS
  have d1 : decide (xa < 0) = false := decide_eq_false (by omega)
  have d2 : decide (N ≤ xa) = false := decide_eq_false (by omega)
  obtain ⟨M, hM⟩ : ∃ M, M = va % 128 := ⟨_, rfl⟩
  have d3 : xa.tmod 128 = M := by rw [Int.tmod_eq_emod_of_nonneg x0, hM]; exact x2
  have d4 : va.tmod 128 = M := by rw [Int.tmod_eq_emod_of_nonneg hv.1, hM]
  have d5 : IntKind.i64.wrap va = va := by rw [IntKind.wrap_i64]; omega
  have d6 : decide (xl < 0) = false := decide_eq_false (by omega)
  have d7 : (root == 0) = false := by simpa using h0
  have d10 : IntKind.i64.wrap 0 = 0 := by decide +kernel
  have d11 : IntKind.i64.wrap 1 = 1 := by decide +kernel
  obtain ⟨SS, hSS⟩ : ∃ S : List (Int × Int × Int), S = [(xl, 4, v)] := ⟨_, rfl⟩
  obtain ⟨RR, hRR⟩ : ∃ S : List Int, S = [f, xl] := ⟨_, rfl⟩
  have d8 : (f == xl) = false := by simpa using hf
  obtain ⟨old, hold⟩ : ∃ o, o = Tm.wd b xl := ⟨_, rfl⟩
  rw [← hold] at KL y1 y2 y3
  obtain ⟨xo, hxo⟩ : ∃ o, bits .xor .u32 old v = o := ⟨_, rfl⟩
  rw [hxo] at y1
  have d9 : (old == v) = false := by simpa using y3
  clear hold hve y3
  clear hf
  clear hX h0 x0 x1 x2 x3 x4 hN hM hs hb h1 hr hv hacc hbl
  clear hSS hRR SS RR
  go_enter Try.func5, Try.ntmps5
  go_upto_region 4 with (first
    | (go_at_call 8; refine (HV.out _).mono ?_; rintro e w1 ⟨rfl, l1⟩; have b3 := (Blk.new w 24 #[.slice A n c] [.slice A n c] rfl).keep l1; have lw := Later.trans_ (later1 w (.cells #[.slice A n c] 24)) l1; have c3 := b3.cell (j := 0) (v := .slice A n c) rfl)
    | (go_at_call 9; refine (HA.out _).mono ?_; rintro e w3 ⟨rfl, rfl⟩)
    | (go_at_call 11; (with_reducible refine (KW.out _ lw).mono ?_); rintro e v1 ⟨AS, AR, sc, rc, rfl, hS, hR, z1⟩; clear c3; replace b3 := b3.keep z1; have hz1 := b3.lt; replace lw := Later.trans_ lw z1; have p1 := Blk.new v1 32 #[.int .i64 xa, .int .i64 xl, .slice AS 1 sc, .slice AR 2 rc] [.int .i64 xa, .int .i64 xl, .slice AS 1 sc, .slice AR 2 rc] rfl; have q1 := later1 v1 (.cells #[.int .i64 xa, .int .i64 xl, .slice AS 1 sc, .slice AR 2 rc] 32); replace b3 := b3.keep q1; replace hS := hS.keep q1; replace hR := hR.keep q1; replace lw := Later.trans_ lw q1))
  obtain ⟨u0, hu0⟩ : ∃ u0, u0 = v1.alloc (.cells #[.int .i64 xa, .int .i64 xl, .slice AS 1 sc, .slice AR 2 rc] 32) := ⟨_, rfl⟩
  rw [← hu0] at b3 p1 hS hR lw ⊢
  clear hu0 q1
  obtain ⟨adr, rfl, _, _⟩ := hR.2 (by omega)
  obtain ⟨ads, rfl, _, _⟩ := hS.2 (by omega)
  go_wp2
  replace b3 := b3.drew
  replace p1 := p1.drew
  replace hS := hS.drew
  replace hR := hR.drew
  replace lw := lw.drew
  refine wp_region_held_drew (S := fun w' => w'.cell? ⟨v1.heap.size, 0, none⟩ = some (.int .i64 xa) ∧ w'.cell? ⟨v1.heap.size, 1, none⟩ = some (.int .i64 xl) ∧ w'.cell? ⟨v1.heap.size, 2, none⟩ = some (.slice (some ads) 1 sc) ∧ w'.cell? ⟨v1.heap.size, 3, none⟩ = some (.slice (some adr) 2 rc) ∧ w'.cell? ⟨w.heap.size, 0, none⟩ = some (.slice A n c)) (by kernel_rfl) ⟨p1.cell (j := 0) rfl, p1.cell (j := 1) rfl, p1.cell (j := 2) rfl, p1.cell (j := 3) rfl, b3.cell (j := 0) rfl⟩ (fun hHeld => ?_)
  refine wpAnyH_take (i := 0) (oi := ⟨some 64, .fieldAddr 32 (.tmp 11) 0, _, _, _, none⟩) (v := .pointer (some ⟨v1.heap.size, 0, none⟩)) rfl (by kernel_rfl) (by kernel_rfl) (by kernel_rfl) (fun _ _ _ h => h) (Or.inl ⟨by rfl, fun w _ => by go_simp⟩) hHeld ?_
  simp only [Act.put, List.setIfInBounds_toArray, List.set_cons_zero, List.set_cons_succ]
  refine wpAnyH_take (i := 1) (oi := ⟨some 65, .load 3 (.tmp 64), _, _, _, none⟩) (v := .int .i64 xa) rfl (by kernel_rfl) (by kernel_rfl) (by kernel_rfl) (fun _ _ _ h => h) (Or.inl ⟨by rfl, fun w hSw => by have e1 := hSw.1; clear hSw; go_simp⟩) hHeld ?_
  simp only [Act.put, List.setIfInBounds_toArray, List.set_cons_zero, List.set_cons_succ]
  refine wpAnyH_take (i := 2) (oi := ⟨some 66, .binOp .lss 3 (.tmp 65) (.const (.int .i64 0)) 3, _, _, _, none⟩) (v := .bool false) rfl (by kernel_rfl) (by kernel_rfl) (by kernel_rfl) (fun _ _ _ h => h) (Or.inl ⟨by rfl, fun w _ => by go_simp⟩) hHeld ?_
  simp only [Act.put, List.setIfInBounds_toArray, List.set_cons_zero, List.set_cons_succ]
  refine wpAnyH_take (i := 3) (oi := ⟨some 67, .move (.tmp 66), _, _, _, none⟩) (v := .bool false) rfl (by kernel_rfl) (by kernel_rfl) (by kernel_rfl) (fun _ _ _ h => h) (Or.inl ⟨by rfl, fun _ _ => rfl⟩) hHeld ?_
  simp only [Act.put, List.setIfInBounds_toArray, List.set_cons_zero, List.set_cons_succ]
  refine wpAnyH_take (i := 4) (oi := ⟨some 68, .fieldAddr 32 (.tmp 11) 0, _, _, _, _⟩) (v := .pointer (some ⟨v1.heap.size, 0, none⟩)) rfl (by kernel_rfl) (by kernel_rfl) (by kernel_rfl) (fun _ _ _ h => h) (Or.inl ⟨by rfl, fun w _ => by go_simp⟩) hHeld ?_
  simp only [Act.put, List.setIfInBounds_toArray, List.set_cons_zero, List.set_cons_succ]
  refine wpAnyH_take (i := 5) (oi := ⟨some 69, .load 3 (.tmp 68), _, _, _, _⟩) (v := .int .i64 xa) rfl (by kernel_rfl) (by kernel_rfl) (by kernel_rfl) (fun _ _ _ h => h) (Or.inl ⟨by rfl, fun w hSw => by have e1 := hSw.1; clear hSw; go_simp⟩) hHeld ?_
  simp only [Act.put, List.setIfInBounds_toArray, List.set_cons_zero, List.set_cons_succ]
  refine wpAnyH_take (i := 6) (oi := ⟨some 70, .load 24 (.tmp 5), _, _, _, _⟩) (v := .agg #[.slice A n c]) rfl (by kernel_rfl) (by kernel_rfl) (by kernel_rfl) (fun _ _ _ h => h) (Or.inl ⟨by rfl, fun w hSw => by have e1 := hSw.2.2.2.2; clear hSw; go_simp⟩) hHeld ?_
  simp only [Act.put, List.setIfInBounds_toArray, List.set_cons_zero, List.set_cons_succ]
  refine wpAnyH_ready (rs := [7]) (by kernel_rfl) (by simp) (AllReadyH.cons (o := ⟨some 71, .call { callee := .value (.func 24), args := #[.tmp 70], argTypes := #[24] }, _, _, _, _⟩) rfl (fun K' hK => ?_) AllReadyH.nil)
  go_simp
  refine (HS.out _).mono ?_
  rintro e v2 ⟨rfl, l2⟩
  replace b3 := b3.keep l2
  replace p1 := p1.keep l2
  replace hS := hS.keep l2
  replace hR := hR.keep l2
  replace lw := Later.trans_ lw l2
  refine hK.out _ _ ⟨p1.cell (j := 0) rfl, p1.cell (j := 1) rfl, p1.cell (j := 2) rfl, p1.cell (j := 3) rfl, b3.cell (j := 0) rfl⟩ (fun hHeld => ?_)
  clear hK K'
  try simp only [Act.put, List.setIfInBounds_toArray, List.set_cons_zero, List.set_cons_succ]
  refine wpAnyH_take (i := 8) (oi := ⟨some 72, .binOp .geq 3 (.tmp 69) (.tmp 71) 3, _, _, _, _⟩) (v := .bool false) rfl (by kernel_rfl) (by kernel_rfl) (by kernel_rfl) (fun _ _ _ h => h) (Or.inl ⟨by rfl, fun w _ => by go_simp⟩) hHeld ?_
  simp only [Act.put, List.setIfInBounds_toArray, List.set_cons_zero, List.set_cons_succ]
  refine wpAnyH_take (i := 9) (oi := ⟨some 73, .pick (.tmp 67) (.const (.bool true)) (.tmp 72), _, _, _, none⟩) (v := .bool false) rfl (by kernel_rfl) (by kernel_rfl) (by kernel_rfl) (fun _ _ _ h => h) (Or.inl ⟨by rfl, fun w _ => by go_simp⟩) hHeld ?_
  simp only [Act.put, List.setIfInBounds_toArray, List.set_cons_zero, List.set_cons_succ]
  refine wpAnyH_take (i := 10) (oi := ⟨some 74, .move (.tmp 73), _, _, _, none⟩) (v := .bool false) rfl (by kernel_rfl) (by kernel_rfl) (by kernel_rfl) (fun _ _ _ h => h) (Or.inl ⟨by rfl, fun _ _ => rfl⟩) hHeld ?_
  simp only [Act.put, List.setIfInBounds_toArray, List.set_cons_zero, List.set_cons_succ]
  refine wpAnyH_take (i := 11) (oi := ⟨some 75, .fieldAddr 32 (.tmp 11) 0, _, _, _, _⟩) (v := .pointer (some ⟨v1.heap.size, 0, none⟩)) rfl (by kernel_rfl) (by kernel_rfl) (by kernel_rfl) (fun _ _ _ h => h) (Or.inl ⟨by rfl, fun w _ => by go_simp⟩) hHeld ?_
  simp only [Act.put, List.setIfInBounds_toArray, List.set_cons_zero, List.set_cons_succ]
  refine wpAnyH_take (i := 12) (oi := ⟨some 76, .load 3 (.tmp 75), _, _, _, _⟩) (v := .int .i64 xa) rfl (by kernel_rfl) (by kernel_rfl) (by kernel_rfl) (fun _ _ _ h => h) (Or.inl ⟨by rfl, fun w hSw => by have e1 := hSw.1; clear hSw; go_simp⟩) hHeld ?_
  simp only [Act.put, List.setIfInBounds_toArray, List.set_cons_zero, List.set_cons_succ]
  refine wpAnyH_take (i := 13) (oi := ⟨some 77, .binOp .rem 3 (.tmp 76) (.const (.int .i64 128)) 3, _, _, _, _⟩) (v := .int .i64 M) rfl (by kernel_rfl) (by kernel_rfl) (by kernel_rfl) (fun _ _ _ h => h) (Or.inl ⟨by rfl, fun w _ => by go_simp⟩) hHeld ?_
  simp only [Act.put, List.setIfInBounds_toArray, List.set_cons_zero, List.set_cons_succ]
  refine wpAnyH_take (i := 14) (oi := ⟨some 78, .move (.tmp 2), _, _, _, _⟩) (v := .int .u32 va) rfl (by kernel_rfl) (by kernel_rfl) (by kernel_rfl) (fun _ _ _ h => h) (Or.inl ⟨by rfl, fun _ _ => rfl⟩) hHeld ?_
  simp only [Act.put, List.setIfInBounds_toArray, List.set_cons_zero, List.set_cons_succ]
  refine wpAnyH_take (i := 15) (oi := ⟨some 79, .convert 25 3 (.tmp 78), _, _, _, _⟩) (v := .int .i64 va) rfl (by kernel_rfl) (by kernel_rfl) (by kernel_rfl) (fun _ _ _ h => h) (Or.inl ⟨by rfl, fun w _ => by go_simp⟩) hHeld ?_
  simp only [Act.put, List.setIfInBounds_toArray, List.set_cons_zero, List.set_cons_succ]
  refine wpAnyH_take (i := 16) (oi := ⟨some 80, .binOp .rem 3 (.tmp 79) (.const (.int .i64 128)) 3, _, _, _, _⟩) (v := .int .i64 M) rfl (by kernel_rfl) (by kernel_rfl) (by kernel_rfl) (fun _ _ _ h => h) (Or.inl ⟨by rfl, fun w _ => by go_simp⟩) hHeld ?_
  simp only [Act.put, List.setIfInBounds_toArray, List.set_cons_zero, List.set_cons_succ]
  refine wpAnyH_take (i := 17) (oi := ⟨some 81, .binOp .neq 3 (.tmp 77) (.tmp 80) 3, _, _, _, _⟩) (v := .bool false) rfl (by kernel_rfl) (by kernel_rfl) (by kernel_rfl) (fun _ _ _ h => h) (Or.inl ⟨by rfl, fun w _ => by go_simp⟩) hHeld ?_
  simp only [Act.put, List.setIfInBounds_toArray, List.set_cons_zero, List.set_cons_succ]
  refine wpAnyH_take (i := 18) (oi := ⟨some 82, .pick (.tmp 74) (.const (.bool true)) (.tmp 81), _, _, _, none⟩) (v := .bool false) rfl (by kernel_rfl) (by kernel_rfl) (by kernel_rfl) (fun _ _ _ h => h) (Or.inl ⟨by rfl, fun w _ => by go_simp⟩) hHeld ?_
  simp only [Act.put, List.setIfInBounds_toArray, List.set_cons_zero, List.set_cons_succ]
  refine wpAnyH_take (i := 19) (oi := ⟨some 83, .move (.tmp 82), _, _, _, none⟩) (v := .bool false) rfl (by kernel_rfl) (by kernel_rfl) (by kernel_rfl) (fun _ _ _ h => h) (Or.inl ⟨by rfl, fun _ _ => rfl⟩) hHeld ?_
  simp only [Act.put, List.setIfInBounds_toArray, List.set_cons_zero, List.set_cons_succ]
  refine wpAnyH_take (i := 20) (oi := ⟨some 84, .fieldAddr 32 (.tmp 11) 2, _, _, _, _⟩) (v := .pointer (some ⟨v1.heap.size, 2, none⟩)) rfl (by kernel_rfl) (by kernel_rfl) (by kernel_rfl) (fun _ _ _ h => h) (Or.inl ⟨by rfl, fun w _ => by go_simp⟩) hHeld ?_
  simp only [Act.put, List.setIfInBounds_toArray, List.set_cons_zero, List.set_cons_succ]
  refine wpAnyH_take (i := 21) (oi := ⟨some 85, .load 29 (.tmp 84), _, _, _, _⟩) (v := .slice (some ads) 1 sc) rfl (by kernel_rfl) (by kernel_rfl) (by kernel_rfl) (fun _ _ _ h => h) (Or.inl ⟨by rfl, fun w hSw => by have e1 := hSw.2.2.1; clear hSw; go_simp⟩) hHeld ?_
  simp only [Act.put, List.setIfInBounds_toArray, List.set_cons_zero, List.set_cons_succ]
  refine wpAnyH_take (i := 22) (oi := ⟨some 86, .call { callee := .builtin .len, args := #[.tmp 85], argTypes := #[29] }, _, _, _, _⟩) (v := .int .i64 1) rfl (by kernel_rfl) (by kernel_rfl) (by kernel_rfl) (fun _ _ _ h => h) (Or.inl ⟨by rfl, fun w _ => by go_simp⟩) hHeld ?_
  simp only [Act.put, List.setIfInBounds_toArray, List.set_cons_zero, List.set_cons_succ]
  refine wpAnyH_take (i := 23) (oi := ⟨some 87, .binOp .gtr 3 (.tmp 86) (.const (.int .i64 1)) 3, _, _, _, _⟩) (v := .bool false) rfl (by kernel_rfl) (by kernel_rfl) (by kernel_rfl) (fun _ _ _ h => h) (Or.inl ⟨by rfl, fun w _ => by go_simp⟩) hHeld ?_
  simp only [Act.put, List.setIfInBounds_toArray, List.set_cons_zero, List.set_cons_succ]
  refine wpAnyH_take (i := 24) (oi := ⟨some 88, .pick (.tmp 83) (.const (.bool true)) (.tmp 87), _, _, _, none⟩) (v := .bool false) rfl (by kernel_rfl) (by kernel_rfl) (by kernel_rfl) (fun _ _ _ h => h) (Or.inl ⟨by rfl, fun w _ => by go_simp⟩) hHeld ?_
  simp only [Act.put, List.setIfInBounds_toArray, List.set_cons_zero, List.set_cons_succ]
  refine wpAnyH_take (i := 25) (oi := ⟨some 89, .move (.tmp 88), _, _, _, none⟩) (v := .bool false) rfl (by kernel_rfl) (by kernel_rfl) (by kernel_rfl) (fun _ _ _ h => h) (Or.inl ⟨by rfl, fun _ _ => rfl⟩) hHeld ?_
  simp only [Act.put, List.setIfInBounds_toArray, List.set_cons_zero, List.set_cons_succ]
  refine wpAnyH_take (i := 26) (oi := ⟨some 90, .fieldAddr 32 (.tmp 11) 3, _, _, _, _⟩) (v := .pointer (some ⟨v1.heap.size, 3, none⟩)) rfl (by kernel_rfl) (by kernel_rfl) (by kernel_rfl) (fun _ _ _ h => h) (Or.inl ⟨by rfl, fun w _ => by go_simp⟩) hHeld ?_
  simp only [Act.put, List.setIfInBounds_toArray, List.set_cons_zero, List.set_cons_succ]
  refine wpAnyH_take (i := 27) (oi := ⟨some 91, .load 30 (.tmp 90), _, _, _, _⟩) (v := .slice (some adr) 2 rc) rfl (by kernel_rfl) (by kernel_rfl) (by kernel_rfl) (fun _ _ _ h => h) (Or.inl ⟨by rfl, fun w hSw => by have e1 := hSw.2.2.2.1; clear hSw; go_simp⟩) hHeld ?_
  simp only [Act.put, List.setIfInBounds_toArray, List.set_cons_zero, List.set_cons_succ]
  refine wpAnyH_take (i := 28) (oi := ⟨some 92, .call { callee := .builtin .len, args := #[.tmp 91], argTypes := #[30] }, _, _, _, _⟩) (v := .int .i64 2) rfl (by kernel_rfl) (by kernel_rfl) (by kernel_rfl) (fun _ _ _ h => h) (Or.inl ⟨by rfl, fun w _ => by go_simp⟩) hHeld ?_
  simp only [Act.put, List.setIfInBounds_toArray, List.set_cons_zero, List.set_cons_succ]
  refine wpAnyH_take (i := 29) (oi := ⟨some 93, .binOp .gtr 3 (.tmp 92) (.const (.int .i64 2)) 3, _, _, _, _⟩) (v := .bool false) rfl (by kernel_rfl) (by kernel_rfl) (by kernel_rfl) (fun _ _ _ h => h) (Or.inl ⟨by rfl, fun w _ => by go_simp⟩) hHeld ?_
  simp only [Act.put, List.setIfInBounds_toArray, List.set_cons_zero, List.set_cons_succ]
  refine wpAnyH_take (i := 30) (oi := ⟨some 94, .pick (.tmp 89) (.const (.bool true)) (.tmp 93), _, _, _, none⟩) (v := .bool false) rfl (by kernel_rfl) (by kernel_rfl) (by kernel_rfl) (fun _ _ _ h => h) (Or.inl ⟨by rfl, fun w _ => by go_simp⟩) hHeld ?_
  simp only [Act.put, List.setIfInBounds_toArray, List.set_cons_zero, List.set_cons_succ]
  refine wpAnyH_take (i := 31) (oi := ⟨some 95, .move (.tmp 94), _, _, _, none⟩) (v := .bool false) rfl (by kernel_rfl) (by kernel_rfl) (by kernel_rfl) (fun _ _ _ h => h) (Or.inl ⟨by rfl, fun _ _ => rfl⟩) hHeld ?_
  simp only [Act.put, List.setIfInBounds_toArray, List.set_cons_zero, List.set_cons_succ]
  refine wpAnyH_take (i := 32) (oi := ⟨some 96, .fieldAddr 32 (.tmp 11) 1, _, _, _, _⟩) (v := .pointer (some ⟨v1.heap.size, 1, none⟩)) rfl (by kernel_rfl) (by kernel_rfl) (by kernel_rfl) (fun _ _ _ h => h) (Or.inl ⟨by rfl, fun w _ => by go_simp⟩) hHeld ?_
  simp only [Act.put, List.setIfInBounds_toArray, List.set_cons_zero, List.set_cons_succ]
  refine wpAnyH_take (i := 33) (oi := ⟨some 97, .load 3 (.tmp 96), _, _, _, _⟩) (v := .int .i64 xl) rfl (by kernel_rfl) (by kernel_rfl) (by kernel_rfl) (fun _ _ _ h => h) (Or.inl ⟨by rfl, fun w hSw => by have e1 := hSw.2.1; clear hSw; go_simp⟩) hHeld ?_
  simp only [Act.put, List.setIfInBounds_toArray, List.set_cons_zero, List.set_cons_succ]
  refine wpAnyH_take (i := 34) (oi := ⟨some 98, .binOp .lss 3 (.tmp 97) (.const (.int .i64 0)) 3, _, _, _, _⟩) (v := .bool false) rfl (by kernel_rfl) (by kernel_rfl) (by kernel_rfl) (fun _ _ _ h => h) (Or.inl ⟨by rfl, fun w _ => by go_simp⟩) hHeld ?_
  simp only [Act.put, List.setIfInBounds_toArray, List.set_cons_zero, List.set_cons_succ]
  refine wpAnyH_take (i := 35) (oi := ⟨some 99, .move (.tmp 1), _, _, _, _⟩) (v := .int .u32 root) rfl (by kernel_rfl) (by kernel_rfl) (by kernel_rfl) (fun _ _ _ h => h) (Or.inl ⟨by rfl, fun _ _ => rfl⟩) hHeld ?_
  simp only [Act.put, List.setIfInBounds_toArray, List.set_cons_zero, List.set_cons_succ]
  refine wpAnyH_take (i := 36) (oi := ⟨some 100, .binOp .eql 25 (.tmp 99) (.const (.int .u32 0)) 25, _, _, _, _⟩) (v := .bool false) rfl (by kernel_rfl) (by kernel_rfl) (by kernel_rfl) (fun _ _ _ h => h) (Or.inl ⟨by rfl, fun w _ => by go_simp⟩) hHeld ?_
  simp only [Act.put, List.setIfInBounds_toArray, List.set_cons_zero, List.set_cons_succ]
  refine wpAnyH_take (i := 37) (oi := ⟨some 101, .binOp .neq 4 (.tmp 98) (.tmp 100) 4, _, _, _, _⟩) (v := .bool false) rfl (by kernel_rfl) (by kernel_rfl) (by kernel_rfl) (fun _ _ _ h => h) (Or.inl ⟨by rfl, fun w _ => by go_simp⟩) hHeld ?_
  simp only [Act.put, List.setIfInBounds_toArray, List.set_cons_zero, List.set_cons_succ]
  refine wpAnyH_take (i := 38) (oi := ⟨some 102, .pick (.tmp 95) (.const (.bool true)) (.tmp 101), _, _, _, none⟩) (v := .bool false) rfl (by kernel_rfl) (by kernel_rfl) (by kernel_rfl) (fun _ _ _ h => h) (Or.inl ⟨by rfl, fun w _ => by go_simp⟩) hHeld ?_
  simp only [Act.put, List.setIfInBounds_toArray, List.set_cons_zero, List.set_cons_succ]
  refine wpAnyH_done (by kernel_rfl) ?_ _
  clear hHeld
  go_wp2
  replace b3 := b3.drew
  replace p1 := p1.drew
  replace hS := hS.drew
  replace hR := hR.drew
  replace lw := lw.drew
  refine wp_region_held_drew (S := fun w' => w'.cell? ⟨v1.heap.size, 0, none⟩ = some (.int .i64 xa) ∧ w'.cell? ⟨v1.heap.size, 1, none⟩ = some (.int .i64 xl) ∧ w'.cell? ⟨v1.heap.size, 2, none⟩ = some (.slice (some ads) 1 sc) ∧ w'.cell? ⟨v1.heap.size, 3, none⟩ = some (.slice (some adr) 2 rc) ∧ w'.cell? ⟨w.heap.size, 0, none⟩ = some (.slice A n c) ∧ w'.cell? adr = some (.int .i64 f) ∧ w'.cell? ⟨adr.block, adr.off + 1, none⟩ = some (.int .i64 xl)) (by kernel_rfl) ⟨p1.cell (j := 0) rfl, p1.cell (j := 1) rfl, p1.cell (j := 2) rfl, p1.cell (j := 3) rfl, b3.cell (j := 0) rfl, sl_first hR (by omega), sl_second hR (by omega)⟩ (fun hHeld => ?_)
  refine wpAnyH_take (i := 0) (oi := ⟨some 125, .fieldAddr 32 (.tmp 11) 3, _, _, _, none⟩) (v := .pointer (some ⟨v1.heap.size, 3, none⟩)) rfl (by kernel_rfl) (by kernel_rfl) (by kernel_rfl) (fun _ _ _ h => h) (Or.inl ⟨by rfl, fun w _ => by go_simp⟩) hHeld ?_
  simp only [Act.put, List.setIfInBounds_toArray, List.set_cons_zero, List.set_cons_succ]
  refine wpAnyH_take (i := 1) (oi := ⟨some 126, .load 30 (.tmp 125), _, _, _, none⟩) (v := .slice (some adr) 2 rc) rfl (by kernel_rfl) (by kernel_rfl) (by kernel_rfl) (fun _ _ _ h => h) (Or.inl ⟨by rfl, fun w hSw => by have e1 := hSw.2.2.2.1; clear hSw; go_simp⟩) hHeld ?_
  simp only [Act.put, List.setIfInBounds_toArray, List.set_cons_zero, List.set_cons_succ]
  refine wpAnyH_take (i := 2) (oi := ⟨some 127, .call { callee := .builtin .len, args := #[.tmp 126], argTypes := #[30] }, _, _, _, none⟩) (v := .int .i64 2) rfl (by kernel_rfl) (by kernel_rfl) (by kernel_rfl) (fun _ _ _ h => h) (Or.inl ⟨by rfl, fun w _ => by go_simp⟩) hHeld ?_
  simp only [Act.put, List.setIfInBounds_toArray, List.set_cons_zero, List.set_cons_succ]
  refine wpAnyH_take (i := 3) (oi := ⟨some 128, .binOp .eql 3 (.tmp 127) (.const (.int .i64 0)) 3, _, _, _, none⟩) (v := .bool false) rfl (by kernel_rfl) (by kernel_rfl) (by kernel_rfl) (fun _ _ _ h => h) (Or.inl ⟨by rfl, fun w _ => by go_simp⟩) hHeld ?_
  simp only [Act.put, List.setIfInBounds_toArray, List.set_cons_zero, List.set_cons_succ]
  refine wpAnyH_take (i := 4) (oi := ⟨some 129, .move (.tmp 128), _, _, _, none⟩) (v := .bool false) rfl (by kernel_rfl) (by kernel_rfl) (by kernel_rfl) (fun _ _ _ h => h) (Or.inl ⟨by rfl, fun _ _ => rfl⟩) hHeld ?_
  simp only [Act.put, List.setIfInBounds_toArray, List.set_cons_zero, List.set_cons_succ]
  refine wpAnyH_take (i := 5) (oi := ⟨some 130, .fieldAddr 32 (.tmp 11) 3, _, _, _, _⟩) (v := .pointer (some ⟨v1.heap.size, 3, none⟩)) rfl (by kernel_rfl) (by kernel_rfl) (by kernel_rfl) (fun _ _ _ h => h) (Or.inl ⟨by rfl, fun w _ => by go_simp⟩) hHeld ?_
  simp only [Act.put, List.setIfInBounds_toArray, List.set_cons_zero, List.set_cons_succ]
  refine wpAnyH_take (i := 6) (oi := ⟨some 131, .load 30 (.tmp 130), _, _, _, _⟩) (v := .slice (some adr) 2 rc) rfl (by kernel_rfl) (by kernel_rfl) (by kernel_rfl) (fun _ _ _ h => h) (Or.inl ⟨by rfl, fun w hSw => by have e1 := hSw.2.2.2.1; clear hSw; go_simp⟩) hHeld ?_
  simp only [Act.put, List.setIfInBounds_toArray, List.set_cons_zero, List.set_cons_succ]
  refine wpAnyH_take (i := 7) (oi := ⟨some 132, .fieldAddr 32 (.tmp 11) 3, _, _, _, _⟩) (v := .pointer (some ⟨v1.heap.size, 3, none⟩)) rfl (by kernel_rfl) (by kernel_rfl) (by kernel_rfl) (fun _ _ _ h => h) (Or.inl ⟨by rfl, fun w _ => by go_simp⟩) hHeld ?_
  simp only [Act.put, List.setIfInBounds_toArray, List.set_cons_zero, List.set_cons_succ]
  refine wpAnyH_take (i := 8) (oi := ⟨some 133, .load 30 (.tmp 132), _, _, _, _⟩) (v := .slice (some adr) 2 rc) rfl (by kernel_rfl) (by kernel_rfl) (by kernel_rfl) (fun _ _ _ h => h) (Or.inl ⟨by rfl, fun w hSw => by have e1 := hSw.2.2.2.1; clear hSw; go_simp⟩) hHeld ?_
  simp only [Act.put, List.setIfInBounds_toArray, List.set_cons_zero, List.set_cons_succ]
  refine wpAnyH_take (i := 9) (oi := ⟨some 134, .call { callee := .builtin .len, args := #[.tmp 133], argTypes := #[30] }, _, _, _, _⟩) (v := .int .i64 2) rfl (by kernel_rfl) (by kernel_rfl) (by kernel_rfl) (fun _ _ _ h => h) (Or.inl ⟨by rfl, fun w _ => by go_simp⟩) hHeld ?_
  simp only [Act.put, List.setIfInBounds_toArray, List.set_cons_zero, List.set_cons_succ]
  refine wpAnyH_take (i := 10) (oi := ⟨some 135, .binOp .sub 3 (.tmp 134) (.const (.int .i64 1)) 3, _, _, _, _⟩) (v := .int .i64 1) rfl (by kernel_rfl) (by kernel_rfl) (by kernel_rfl) (fun _ _ _ h => h) (Or.inl ⟨by rfl, fun w _ => by go_simp⟩) hHeld ?_
  simp only [Act.put, List.setIfInBounds_toArray, List.set_cons_zero, List.set_cons_succ]
  refine wpAnyH_take (i := 11) (oi := ⟨some 136, .indexAddr 30 (.tmp 131) (.tmp 135), _, _, _, _⟩) (v := .pointer (some ⟨adr.block, adr.off + 1, none⟩)) rfl (by kernel_rfl) (by kernel_rfl) (by kernel_rfl) (fun _ _ _ h => h) (Or.inl ⟨by rfl, fun w _ => by go_simp⟩) hHeld ?_
  simp only [Act.put, List.setIfInBounds_toArray, List.set_cons_zero, List.set_cons_succ]
  refine wpAnyH_take (i := 12) (oi := ⟨some 137, .load 3 (.tmp 136), _, _, _, _⟩) (v := .int .i64 xl) rfl (by kernel_rfl) (by kernel_rfl) (by kernel_rfl) (fun _ _ _ h => h) (Or.inl ⟨by rfl, fun w hSw => by have e1 := hSw.2.2.2.2.2.2; clear hSw; go_simp⟩) hHeld ?_
  simp only [Act.put, List.setIfInBounds_toArray, List.set_cons_zero, List.set_cons_succ]
  refine wpAnyH_take (i := 13) (oi := ⟨some 138, .fieldAddr 32 (.tmp 11) 1, _, _, _, _⟩) (v := .pointer (some ⟨v1.heap.size, 1, none⟩)) rfl (by kernel_rfl) (by kernel_rfl) (by kernel_rfl) (fun _ _ _ h => h) (Or.inl ⟨by rfl, fun w _ => by go_simp⟩) hHeld ?_
  simp only [Act.put, List.setIfInBounds_toArray, List.set_cons_zero, List.set_cons_succ]
  refine wpAnyH_take (i := 14) (oi := ⟨some 139, .load 3 (.tmp 138), _, _, _, _⟩) (v := .int .i64 xl) rfl (by kernel_rfl) (by kernel_rfl) (by kernel_rfl) (fun _ _ _ h => h) (Or.inl ⟨by rfl, fun w hSw => by have e1 := hSw.2.1; clear hSw; go_simp⟩) hHeld ?_
  simp only [Act.put, List.setIfInBounds_toArray, List.set_cons_zero, List.set_cons_succ]
  refine wpAnyH_take (i := 15) (oi := ⟨some 140, .binOp .neq 3 (.tmp 137) (.tmp 139) 3, _, _, _, _⟩) (v := .bool false) rfl (by kernel_rfl) (by kernel_rfl) (by kernel_rfl) (fun _ _ _ h => h) (Or.inl ⟨by rfl, fun w _ => by go_simp⟩) hHeld ?_
  simp only [Act.put, List.setIfInBounds_toArray, List.set_cons_zero, List.set_cons_succ]
  refine wpAnyH_take (i := 16) (oi := ⟨some 141, .pick (.tmp 129) (.const (.bool true)) (.tmp 140), _, _, _, none⟩) (v := .bool false) rfl (by kernel_rfl) (by kernel_rfl) (by kernel_rfl) (fun _ _ _ h => h) (Or.inl ⟨by rfl, fun w _ => by go_simp⟩) hHeld ?_
  simp only [Act.put, List.setIfInBounds_toArray, List.set_cons_zero, List.set_cons_succ]
  refine wpAnyH_done (by kernel_rfl) ?_ _
  clear hHeld
  have f2 := p1.cell (j := 2) (v := .slice (some ads) 1 sc) rfl
  go_wp2
  clear f2
  go_loopw [145] (fun i wr => ∃ k : Nat, k ≤ 1 ∧ i = .int .i64 k ∧ Blk wr w.heap.size 24 [.slice A n c] ∧ Blk wr v1.heap.size 32 [.int .i64 xa, .int .i64 xl, .slice (some ads) 1 sc, .slice (some adr) 2 rc] ∧ Sl wr 3 (some ads) 1 (Ws [(xl, 4, v)]) ∧ Sl wr 1 (some adr) 2 (N64 [f, xl]) ∧ Later w wr) (fun i _ => 1 - (intOf i).toNat)
  case atStart => exact ⟨0, by omega, rfl, b3, p1, hS, hR, lw⟩
  case round =>
    clear b3 p1 hS hR lw
    rename_i wr
    obtain ⟨k, hk, rfl, b3, p1, hS, hR, lw⟩ := hrel
    by_cases hlt : k < 1
    · obtain rfl : k = 0 := by omega
      clear hk hlt
      obtain ⟨e0, e1, e2⟩ := sl_write hS
      have hw4 := b3.lt
      have c3 := (b3.keep (later1 wr (.cells #[.int .i64 xl, .int .i64 4, .int .u32 v] 57))).cell (j := 0) (v := .slice A n c) rfl
      have f1 := (p1.keep (later1 wr (.cells #[.int .i64 xl, .int .i64 4, .int .u32 v] 57))).cell (j := 1) (v := .int .i64 xl) rfl
      go_wp2_with (go_at_call 25; refine (KL.out _ (Later.trans_ lw (later1 wr (.cells #[.int .i64 xl, .int .i64 4, .int .u32 v] 57)))).mono ?_; rintro e w6 ⟨rfl, l6⟩; clear c3 f1 e0 e1 e2; have b14 := (Blk.new wr 57 #[.int .i64 xl, .int .i64 4, .int .u32 v] [.int .i64 xl, .int .i64 4, .int .u32 v] rfl).keep l6; have q6 := Later.trans_ (later1 wr (.cells #[.int .i64 xl, .int .i64 4, .int .u32 v] 57)) l6; replace b3 := b3.keep q6; replace p1 := p1.keep q6; replace hS := hS.keep q6; replace hR := hR.keep q6; replace lw := Later.trans_ lw q6; have f1 := p1.cell (j := 1) (v := .int .i64 xl) rfl; have k0 := b14.cell (j := 0) (v := .int .i64 xl) rfl; have k1 := b14.cell (j := 1) (v := .int .i64 4) rfl; have k2 := b14.cell (j := 2) (v := .int .u32 v) rfl)
      clear f1 k0 k1 k2
      go_roundw
      case rel => first | exact ⟨1, by omega, rfl, b3, p1, hS, hR, lw⟩ | exact ⟨1, by omega, by go_num, b3, p1, hS, hR, lw⟩ | exact ⟨_, ⟨1, by omega, rfl, b3, p1, hS, hR, lw⟩, rfl⟩ | exact ⟨_, _, ⟨1, by omega, rfl, b3, p1, hS, hR, lw⟩, rfl⟩ | exact ⟨_, _, _, ⟨1, by omega, rfl, b3, p1, hS, hR, lw⟩, rfl⟩ | exact ⟨_, _, _, _, ⟨1, by omega, rfl, b3, p1, hS, hR, lw⟩, rfl⟩ | exact ⟨_, _, _, _, _, ⟨1, by omega, rfl, b3, p1, hS, hR, lw⟩, rfl⟩ | exact ⟨_, _, _, _, _, _, ⟨1, by omega, rfl, b3, p1, hS, hR, lw⟩, rfl⟩ | exact ⟨_, _, _, _, _, _, _, ⟨1, by omega, rfl, b3, p1, hS, hR, lw⟩, rfl⟩ | exact ⟨_, _, _, _, _, _, _, _, ⟨1, by omega, rfl, b3, p1, hS, hR, lw⟩, rfl⟩ | exact ⟨_, _, _, _, _, _, _, _, _, ⟨1, by omega, rfl, b3, p1, hS, hR, lw⟩, rfl⟩ | exact ⟨_, _, _, _, _, _, _, _, _, _, ⟨1, by omega, rfl, b3, p1, hS, hR, lw⟩, rfl⟩ | exact ⟨_, _, _, _, _, _, _, _, _, _, _, ⟨1, by omega, rfl, b3, p1, hS, hR, lw⟩, rfl⟩ | exact ⟨_, _, _, _, _, _, _, _, _, _, _, _, ⟨1, by omega, rfl, b3, p1, hS, hR, lw⟩, rfl⟩ | exact ⟨_, _, _, _, _, _, _, _, _, _, _, _, _, ⟨1, by omega, rfl, b3, p1, hS, hR, lw⟩, rfl⟩ | exact ⟨_, _, _, _, _, _, _, _, _, _, _, _, _, _, ⟨1, by omega, rfl, b3, p1, hS, hR, lw⟩, rfl⟩ | exact ⟨_, _, _, _, _, _, _, _, _, _, _, _, _, _, _, ⟨1, by omega, rfl, b3, p1, hS, hR, lw⟩, rfl⟩ | exact ⟨_, _, _, _, _, _, _, _, _, _, _, _, _, _, _, _, ⟨1, by omega, rfl, b3, p1, hS, hR, lw⟩, rfl⟩ | exact ⟨_, _, _, _, _, _, _, _, _, _, _, _, _, _, _, _, _, ⟨1, by omega, rfl, b3, p1, hS, hR, lw⟩, rfl⟩ | exact ⟨_, _, _, _, _, _, _, _, _, _, _, _, _, _, _, _, _, _, ⟨1, by omega, rfl, b3, p1, hS, hR, lw⟩, rfl⟩ | exact ⟨_, _, _, _, _, _, _, _, _, _, _, _, _, _, _, _, _, _, _, ⟨1, by omega, rfl, b3, p1, hS, hR, lw⟩, rfl⟩ | exact ⟨_, _, _, _, _, _, _, _, _, _, _, _, _, _, _, _, _, _, _, _, ⟨1, by omega, rfl, b3, p1, hS, hR, lw⟩, rfl⟩ | exact ⟨_, _, _, _, _, _, _, _, _, _, _, _, _, _, _, _, _, _, _, _, _, ⟨1, by omega, rfl, b3, p1, hS, hR, lw⟩, rfl⟩ | exact ⟨_, _, _, _, _, _, _, _, _, _, _, _, _, _, _, _, _, _, _, _, _, _, ⟨1, by omega, rfl, b3, p1, hS, hR, lw⟩, rfl⟩ | exact ⟨_, _, _, _, _, _, _, _, _, _, _, _, _, _, _, _, _, _, _, _, _, _, _, ⟨1, by omega, rfl, b3, p1, hS, hR, lw⟩, rfl⟩ | exact ⟨_, _, _, _, _, _, _, _, _, _, _, _, _, _, _, _, _, _, _, _, _, _, _, _, ⟨1, by omega, rfl, b3, p1, hS, hR, lw⟩, rfl⟩ | exact ⟨_, _, _, _, _, _, _, _, _, _, _, _, _, _, _, _, _, _, _, _, _, _, _, _, _, ⟨1, by omega, rfl, b3, p1, hS, hR, lw⟩, rfl⟩ | exact ⟨_, _, _, _, _, _, _, _, _, _, _, _, _, _, _, _, _, _, _, _, _, _, _, _, _, _, ⟨1, by omega, rfl, b3, p1, hS, hR, lw⟩, rfl⟩ | exact ⟨_, _, _, _, _, _, _, _, _, _, _, _, _, _, _, _, _, _, _, _, _, _, _, _, _, _, _, ⟨1, by omega, rfl, b3, p1, hS, hR, lw⟩, rfl⟩ | exact ⟨_, _, _, _, _, _, _, _, _, _, _, _, _, _, _, _, _, _, _, _, _, _, _, _, _, _, _, _, ⟨1, by omega, rfl, b3, p1, hS, hR, lw⟩, rfl⟩ | exact ⟨_, _, _, _, _, _, _, _, _, _, _, _, _, _, _, _, _, _, _, _, _, _, _, _, _, _, _, _, _, ⟨1, by omega, rfl, b3, p1, hS, hR, lw⟩, rfl⟩ | exact ⟨_, _, _, _, _, _, _, _, _, _, _, _, _, _, _, _, _, _, _, _, _, _, _, _, _, _, _, _, _, _, ⟨1, by omega, rfl, b3, p1, hS, hR, lw⟩, rfl⟩ | exact ⟨_, _, _, _, _, _, _, _, _, _, _, _, _, _, _, _, _, _, _, _, _, _, _, _, _, _, _, _, _, _, _, ⟨1, by omega, rfl, b3, p1, hS, hR, lw⟩, rfl⟩ | exact ⟨_, _, _, _, _, _, _, _, _, _, _, _, _, _, _, _, _, _, _, _, _, _, _, _, _, _, _, _, _, _, _, _, ⟨1, by omega, rfl, b3, p1, hS, hR, lw⟩, rfl⟩ | exact ⟨_, _, _, _, _, _, _, _, _, _, _, _, _, _, _, _, _, _, _, _, _, _, _, _, _, _, _, _, _, _, _, _, _, ⟨1, by omega, rfl, b3, p1, hS, hR, lw⟩, rfl⟩ | exact ⟨_, _, _, _, _, _, _, _, _, _, _, _, _, _, _, _, _, _, _, _, _, _, _, _, _, _, _, _, _, _, _, _, _, _, ⟨1, by omega, rfl, b3, p1, hS, hR, lw⟩, rfl⟩ | exact ⟨_, _, _, _, _, _, _, _, _, _, _, _, _, _, _, _, _, _, _, _, _, _, _, _, _, _, _, _, _, _, _, _, _, _, _, ⟨1, by omega, rfl, b3, p1, hS, hR, lw⟩, rfl⟩ | exact ⟨_, _, _, _, _, _, _, _, _, _, _, _, _, _, _, _, _, _, _, _, _, _, _, _, _, _, _, _, _, _, _, _, _, _, _, _, ⟨1, by omega, rfl, b3, p1, hS, hR, lw⟩, rfl⟩ | exact ⟨_, _, _, _, _, _, _, _, _, _, _, _, _, _, _, _, _, _, _, _, _, _, _, _, _, _, _, _, _, _, _, _, _, _, _, _, _, ⟨1, by omega, rfl, b3, p1, hS, hR, lw⟩, rfl⟩ | exact ⟨_, _, _, _, _, _, _, _, _, _, _, _, _, _, _, _, _, _, _, _, _, _, _, _, _, _, _, _, _, _, _, _, _, _, _, _, _, _, ⟨1, by omega, rfl, b3, p1, hS, hR, lw⟩, rfl⟩ | exact ⟨_, _, _, _, _, _, _, _, _, _, _, _, _, _, _, _, _, _, _, _, _, _, _, _, _, _, _, _, _, _, _, _, _, _, _, _, _, _, _, ⟨1, by omega, rfl, b3, p1, hS, hR, lw⟩, rfl⟩ | exact ⟨_, _, _, _, _, _, _, _, _, _, _, _, _, _, _, _, _, _, _, _, _, _, _, _, _, _, _, _, _, _, _, _, _, _, _, _, _, _, _, _, ⟨1, by omega, rfl, b3, p1, hS, hR, lw⟩, rfl⟩ | exact ⟨_, _, _, _, _, _, _, _, _, _, _, _, _, _, _, _, _, _, _, _, _, _, _, _, _, _, _, _, _, _, _, _, _, _, _, _, _, _, _, _, _, ⟨1, by omega, rfl, b3, p1, hS, hR, lw⟩, rfl⟩ | exact ⟨_, _, _, _, _, _, _, _, _, _, _, _, _, _, _, _, _, _, _, _, _, _, _, _, _, _, _, _, _, _, _, _, _, _, _, _, _, _, _, _, _, _, ⟨1, by omega, rfl, b3, p1, hS, hR, lw⟩, rfl⟩ | exact ⟨_, _, _, _, _, _, _, _, _, _, _, _, _, _, _, _, _, _, _, _, _, _, _, _, _, _, _, _, _, _, _, _, _, _, _, _, _, _, _, _, _, _, _, ⟨1, by omega, rfl, b3, p1, hS, hR, lw⟩, rfl⟩ | exact ⟨_, _, _, _, _, _, _, _, _, _, _, _, _, _, _, _, _, _, _, _, _, _, _, _, _, _, _, _, _, _, _, _, _, _, _, _, _, _, _, _, _, _, _, _, ⟨1, by omega, rfl, b3, p1, hS, hR, lw⟩, rfl⟩
      case measure => simp [intOf]
    · obtain rfl : k = 1 := by omega
      clear hk hlt
      go_wp2
      replace b3 := b3.drew
      replace p1 := p1.drew
      replace hS := hS.drew
      replace hR := hR.drew
      replace lw := lw.drew
      refine wp_region_held_drew (S := fun w' => w'.cell? ⟨v1.heap.size, 0, none⟩ = some (.int .i64 xa) ∧ w'.cell? ⟨v1.heap.size, 1, none⟩ = some (.int .i64 xl) ∧ w'.cell? ⟨v1.heap.size, 2, none⟩ = some (.slice (some ads) 1 sc) ∧ w'.cell? ⟨v1.heap.size, 3, none⟩ = some (.slice (some adr) 2 rc) ∧ w'.cell? ⟨w.heap.size, 0, none⟩ = some (.slice A n c) ∧ w'.cell? adr = some (.int .i64 f) ∧ w'.cell? ⟨adr.block, adr.off + 1, none⟩ = some (.int .i64 xl)) (by kernel_rfl) ⟨p1.cell (j := 0) rfl, p1.cell (j := 1) rfl, p1.cell (j := 2) rfl, p1.cell (j := 3) rfl, b3.cell (j := 0) rfl, sl_first hR (by omega), sl_second hR (by omega)⟩ (fun hHeld => ?_)
      refine wpAnyH_take (i := 0) (oi := ⟨some 192, .fieldAddr 32 (.tmp 11) 3, _, _, _, none⟩) (v := .pointer (some ⟨v1.heap.size, 3, none⟩)) rfl (by kernel_rfl) (by kernel_rfl) (by kernel_rfl) (fun _ _ _ h => h) (Or.inl ⟨by rfl, fun w _ => by go_simp⟩) hHeld ?_
      simp only [Act.put, List.setIfInBounds_toArray, List.set_cons_zero, List.set_cons_succ]
      refine wpAnyH_take (i := 1) (oi := ⟨some 193, .load 30 (.tmp 192), _, _, _, none⟩) (v := .slice (some adr) 2 rc) rfl (by kernel_rfl) (by kernel_rfl) (by kernel_rfl) (fun _ _ _ h => h) (Or.inl ⟨by rfl, fun w hSw => by have e1 := hSw.2.2.2.1; clear hSw; go_simp⟩) hHeld ?_
      simp only [Act.put, List.setIfInBounds_toArray, List.set_cons_zero, List.set_cons_succ]
      refine wpAnyH_take (i := 2) (oi := ⟨some 194, .call { callee := .builtin .len, args := #[.tmp 193], argTypes := #[30] }, _, _, _, none⟩) (v := .int .i64 2) rfl (by kernel_rfl) (by kernel_rfl) (by kernel_rfl) (fun _ _ _ h => h) (Or.inl ⟨by rfl, fun w _ => by go_simp⟩) hHeld ?_
      simp only [Act.put, List.setIfInBounds_toArray, List.set_cons_zero, List.set_cons_succ]
      refine wpAnyH_take (i := 3) (oi := ⟨some 195, .binOp .eql 3 (.tmp 194) (.const (.int .i64 2)) 3, _, _, _, none⟩) (v := .bool true) rfl (by kernel_rfl) (by kernel_rfl) (by kernel_rfl) (fun _ _ _ h => h) (Or.inl ⟨by rfl, fun w _ => by go_simp⟩) hHeld ?_
      simp only [Act.put, List.setIfInBounds_toArray, List.set_cons_zero, List.set_cons_succ]
      refine wpAnyH_take (i := 4) (oi := ⟨some 196, .move (.tmp 195), _, _, _, none⟩) (v := .bool true) rfl (by kernel_rfl) (by kernel_rfl) (by kernel_rfl) (fun _ _ _ h => h) (Or.inl ⟨by rfl, fun _ _ => rfl⟩) hHeld ?_
      simp only [Act.put, List.setIfInBounds_toArray, List.set_cons_zero, List.set_cons_succ]
      refine wpAnyH_take (i := 5) (oi := ⟨some 197, .fieldAddr 32 (.tmp 11) 3, _, _, _, _⟩) (v := .pointer (some ⟨v1.heap.size, 3, none⟩)) rfl (by kernel_rfl) (by kernel_rfl) (by kernel_rfl) (fun _ _ _ h => h) (Or.inl ⟨by rfl, fun w _ => by go_simp⟩) hHeld ?_
      simp only [Act.put, List.setIfInBounds_toArray, List.set_cons_zero, List.set_cons_succ]
      refine wpAnyH_take (i := 6) (oi := ⟨some 198, .load 30 (.tmp 197), _, _, _, _⟩) (v := .slice (some adr) 2 rc) rfl (by kernel_rfl) (by kernel_rfl) (by kernel_rfl) (fun _ _ _ h => h) (Or.inl ⟨by rfl, fun w hSw => by have e1 := hSw.2.2.2.1; clear hSw; go_simp⟩) hHeld ?_
      simp only [Act.put, List.setIfInBounds_toArray, List.set_cons_zero, List.set_cons_succ]
      refine wpAnyH_take (i := 7) (oi := ⟨some 199, .indexAddr 30 (.tmp 198) (.const (.int .i64 0)), _, _, _, _⟩) (v := .pointer (some adr)) rfl (by kernel_rfl) (by kernel_rfl) (by kernel_rfl) (fun _ _ _ h => h) (Or.inl ⟨by rfl, fun w _ => by go_simp⟩) hHeld ?_
      simp only [Act.put, List.setIfInBounds_toArray, List.set_cons_zero, List.set_cons_succ]
      refine wpAnyH_take (i := 8) (oi := ⟨some 200, .load 3 (.tmp 199), _, _, _, _⟩) (v := .int .i64 f) rfl (by kernel_rfl) (by kernel_rfl) (by kernel_rfl) (fun _ _ _ h => h) (Or.inl ⟨by rfl, fun w hSw => by have e1 := hSw.2.2.2.2.2.1; clear hSw; go_simp⟩) hHeld ?_
      simp only [Act.put, List.setIfInBounds_toArray, List.set_cons_zero, List.set_cons_succ]
      refine wpAnyH_take (i := 9) (oi := ⟨some 201, .fieldAddr 32 (.tmp 11) 1, _, _, _, _⟩) (v := .pointer (some ⟨v1.heap.size, 1, none⟩)) rfl (by kernel_rfl) (by kernel_rfl) (by kernel_rfl) (fun _ _ _ h => h) (Or.inl ⟨by rfl, fun w _ => by go_simp⟩) hHeld ?_
      simp only [Act.put, List.setIfInBounds_toArray, List.set_cons_zero, List.set_cons_succ]
      refine wpAnyH_take (i := 10) (oi := ⟨some 202, .load 3 (.tmp 201), _, _, _, _⟩) (v := .int .i64 xl) rfl (by kernel_rfl) (by kernel_rfl) (by kernel_rfl) (fun _ _ _ h => h) (Or.inl ⟨by rfl, fun w hSw => by have e1 := hSw.2.1; clear hSw; go_simp⟩) hHeld ?_
      simp only [Act.put, List.setIfInBounds_toArray, List.set_cons_zero, List.set_cons_succ]
      refine wpAnyH_take (i := 11) (oi := ⟨some 203, .binOp .eql 3 (.tmp 200) (.tmp 202) 3, _, _, _, _⟩) (v := .bool false) rfl (by kernel_rfl) (by kernel_rfl) (by kernel_rfl) (fun _ _ _ h => h) (Or.inl ⟨by rfl, fun w _ => by go_simp⟩) hHeld ?_
      simp only [Act.put, List.setIfInBounds_toArray, List.set_cons_zero, List.set_cons_succ]
      refine wpAnyH_take (i := 12) (oi := ⟨some 204, .pick (.tmp 196) (.tmp 203) (.const (.bool false)), _, _, _, none⟩) (v := .bool false) rfl (by kernel_rfl) (by kernel_rfl) (by kernel_rfl) (fun _ _ _ h => h) (Or.inl ⟨by rfl, fun w _ => by go_simp⟩) hHeld ?_
      simp only [Act.put, List.setIfInBounds_toArray, List.set_cons_zero, List.set_cons_succ]
      refine wpAnyH_done (by kernel_rfl) ?_ _
      clear hHeld
      have c3 := b3.cell (j := 0) (v := .slice A n c) rfl
      have f2 := p1.cell (j := 2) (v := .slice (some ads) 1 sc) rfl
      go_wp2_with (first
        | (go_at_call 26; refine (KA.out _ _ _ lw hS).mono ?_; rintro e w12 ⟨g, c', rfl, _, _, _, hd, l12⟩; clear c3 f2; replace p1 := p1.keep l12; replace lw := Later.trans_ lw l12; have b17 := Blk.new w12 24 #[.slice (some ⟨g, 0, none⟩) n c'] [.slice (some ⟨g, 0, none⟩) n c'] rfl; have q12 := later1 w12 (.cells #[.slice (some ⟨g, 0, none⟩) n c'] 24); replace p1 := p1.keep q12; replace hd := hd.keep q12; replace lw := Later.trans_ lw q12; have c17 := b17.cell (j := 0) (v := .slice (some ⟨g, 0, none⟩) n c') rfl)
        | (go_at_call 11; (with_reducible refine (KW2.out _ _ _ hd).mono ?_); rintro e v13 ⟨AS2, AR2, sc2, rc2, rfl, _, _, z13⟩; clear c17; replace p1 := p1.keep z13; replace lw := Later.trans_ lw z13; have p19 := Blk.new v13 32 #[.int .i64 xa, .int .i64 xl, .slice AS2 0 sc2, .slice AR2 2 rc2] [.int .i64 xa, .int .i64 xl, .slice AS2 0 sc2, .slice AR2 2 rc2] rfl; have q13 := later1 v13 (.cells #[.int .i64 xa, .int .i64 xl, .slice AS2 0 sc2, .slice AR2 2 rc2] 32); replace p1 := p1.keep q13; replace lw := Later.trans_ lw q13)
        | (go_at_call 10; refine (HN.out _).mono ?_; rintro e w9 ⟨rfl, l9⟩; replace p1 := p1.keep l9; replace p19 := p19.keep l9; replace lw := Later.trans_ lw l9; have f0 := p1.cell (j := 0) (v := .int .i64 xa) rfl; have f1 := p1.cell (j := 1) (v := .int .i64 xl) rfl; have k0 := p19.cell (j := 0) (v := .int .i64 xa) rfl; have k1 := p19.cell (j := 1) (v := .int .i64 xl) rfl; have k2 := p19.cell (j := 2) (v := .slice AS2 0 sc2) rfl))
      go_ret
      exact ⟨rfl, lw⟩
set_option maxRecDepth 100000 in
set_option maxHeartbeats 4000000 in
theorem stays_12s (A : Option Addr) (n c : Nat) (root va acc : Int) (us : Bool) (b : Wm.Bs) (w : World) (hs : Sl w 128 A n (U b)) (hb : Wm.isBs b) (h1 : 1 ≤ n ∧ n ≤ 64) (hr : 0 ≤ root ∧ root ≤ 4294967295) (hv : 0 ≤ va ∧ va ≤ 4294967295) (hacc : 1 ≤ acc ∧ acc ≤ 4) (xa xl f v : Int) (hX : Tm.walk n b root va acc us = ⟨true, xa, xl, [(xl, 4, v)], [f, xl]⟩) (h0 : root ≠ 0) (x0 : 0 ≤ xa) (x1 : xa < (n : Int) * 128) (x2 : xa % 128 = va % 128) (x3 : 0 ≤ xl) (x4 : Mm.There b.length xl 4) (hf : f = xl) (_ : Tm.isE v) (y1 : bits .andNot .u32 (bits .xor .u32 (Tm.wd b xl) v) 48 = 0) (y2 : bits .andNot .u32 (Tm.wd b xl) v = 0) (y3 : Tm.wd b xl ≠ v) :
    Calls Try.prog 5 #[.agg #[.slice A n c], .int .u32 root, .int .u32 va, .int .i64 acc, .bool us] w fun e w' => e = .returned (.bool true) ∧ Later w w' := by
  have HV := Lib.hid fun w' => rvalid_any A n c w'
  rw [decide_eq_true h1] at HV
  have HA := Lib.hid fun w' => access_any acc w'
  rw [decide_eq_true hacc] at HA
  have HN := Lib.hid fun w' => sanity_any w'
  have HS := Lib.hid fun w' => size_any A n c w' h1.2
  have KW := Lib.hid fun w' hl => walk_got A n c root va acc us b w hs hb h1 hr hv _ hX 0 rfl w' hl
  have KW : Hid (∀ w', Later w w' → Calls Try.prog 11 #[.agg #[.slice A n c], .int .u32 root, .int .u32 va, .int .i64 acc, .bool us] w' (GotX xa xl [(xl, 4, v)] [f, xl] 1 2 0 w')) := KW
  have hbl : b.length = n * 128 := by have := hs.1; rwa [U_length] at this
  have KL : Hid (∀ w', Later w w' → Calls Try.prog 25 #[.agg #[.slice A n c], .int .i64 xl, .int .i64 4] w' fun e w'' => e = .returned (.tuple #[.int .u32 (Tm.wd b xl), .bool true]) ∧ Later w' w'') := Lib.hid fun w' hl => by
    have h := load_any A n c xl 4 b w' (hs.keep hl) hb h1.1 h1.2 ⟨by omega, by have := x4.2.2; omega⟩
    rw [decide_eq_true (by rw [← hbl]; exact x4)] at h
    exact h
  obtain ⟨N, hN⟩ : ∃ N : Int, N = ((n * 128 : Nat) : Int) := ⟨_, rfl⟩
  rw [← hN] at HS
  have d1 : decide (xa < 0) = false := decide_eq_false (by omega)
  have d2 : decide (N ≤ xa) = false := decide_eq_false (by omega)
  obtain ⟨M, hM⟩ : ∃ M, M = va % 128 := ⟨_, rfl⟩
  have d3 : xa.tmod 128 = M := by rw [Int.tmod_eq_emod_of_nonneg x0, hM]; exact x2
  have d4 : va.tmod 128 = M := by rw [Int.tmod_eq_emod_of_nonneg hv.1, hM]
  have d5 : IntKind.i64.wrap va = va := by rw [IntKind.wrap_i64]; omega
  have d6 : decide (xl < 0) = false := decide_eq_false (by omega)
  have d7 : (root == 0) = false := by simpa using h0
  have d10 : IntKind.i64.wrap 0 = 0 := by decide +kernel
  have d11 : IntKind.i64.wrap 1 = 1 := by decide +kernel
  obtain ⟨SS, hSS⟩ : ∃ S : List (Int × Int × Int), S = [(xl, 4, v)] := ⟨_, rfl⟩
  obtain ⟨RR, hRR⟩ : ∃ S : List Int, S = [f, xl] := ⟨_, rfl⟩
  have d8 : (f == xl) = true := by simpa using hf
  obtain ⟨old, hold⟩ : ∃ o, o = Tm.wd b xl := ⟨_, rfl⟩
  rw [← hold] at KL y1 y2 y3
  obtain ⟨xo, hxo⟩ : ∃ o, bits .xor .u32 old v = o := ⟨_, rfl⟩
  rw [hxo] at y1
  have d9 : (old == v) = false := by simpa using y3
  clear hold y3
  clear hf
  clear hX h0 x0 x1 x2 x3 x4 hN hM hs hb h1 hr hv hacc hbl
  clear hSS hRR SS RR
  go_enter Try.func5, Try.ntmps5
  go_upto_region 4 with (first
    | (go_at_call 8; refine (HV.out _).mono ?_; rintro e w1 ⟨rfl, l1⟩; have b3 := (Blk.new w 24 #[.slice A n c] [.slice A n c] rfl).keep l1; have lw := Later.trans_ (later1 w (.cells #[.slice A n c] 24)) l1; have c3 := b3.cell (j := 0) (v := .slice A n c) rfl)
    | (go_at_call 9; refine (HA.out _).mono ?_; rintro e w3 ⟨rfl, rfl⟩)
    | (go_at_call 11; (with_reducible refine (KW.out _ lw).mono ?_); rintro e v1 ⟨AS, AR, sc, rc, rfl, hS, hR, z1⟩; clear c3; replace b3 := b3.keep z1; have hz1 := b3.lt; replace lw := Later.trans_ lw z1; have p1 := Blk.new v1 32 #[.int .i64 xa, .int .i64 xl, .slice AS 1 sc, .slice AR 2 rc] [.int .i64 xa, .int .i64 xl, .slice AS 1 sc, .slice AR 2 rc] rfl; have q1 := later1 v1 (.cells #[.int .i64 xa, .int .i64 xl, .slice AS 1 sc, .slice AR 2 rc] 32); replace b3 := b3.keep q1; replace hS := hS.keep q1; replace hR := hR.keep q1; replace lw := Later.trans_ lw q1))
  obtain ⟨u0, hu0⟩ : ∃ u0, u0 = v1.alloc (.cells #[.int .i64 xa, .int .i64 xl, .slice AS 1 sc, .slice AR 2 rc] 32) := ⟨_, rfl⟩
  rw [← hu0] at b3 p1 hS hR lw ⊢
  clear hu0 q1
  obtain ⟨adr, rfl, _, _⟩ := hR.2 (by omega)
  obtain ⟨ads, rfl, _, _⟩ := hS.2 (by omega)
  go_wp2
  replace b3 := b3.drew
  replace p1 := p1.drew
  replace hS := hS.drew
  replace hR := hR.drew
  replace lw := lw.drew
  refine wp_region_held_drew (S := fun w' => w'.cell? ⟨v1.heap.size, 0, none⟩ = some (.int .i64 xa) ∧ w'.cell? ⟨v1.heap.size, 1, none⟩ = some (.int .i64 xl) ∧ w'.cell? ⟨v1.heap.size, 2, none⟩ = some (.slice (some ads) 1 sc) ∧ w'.cell? ⟨v1.heap.size, 3, none⟩ = some (.slice (some adr) 2 rc) ∧ w'.cell? ⟨w.heap.size, 0, none⟩ = some (.slice A n c)) (by kernel_rfl) ⟨p1.cell (j := 0) rfl, p1.cell (j := 1) rfl, p1.cell (j := 2) rfl, p1.cell (j := 3) rfl, b3.cell (j := 0) rfl⟩ (fun hHeld => ?_)
  refine wpAnyH_take (i := 0) (oi := ⟨some 64, .fieldAddr 32 (.tmp 11) 0, _, _, _, none⟩) (v := .pointer (some ⟨v1.heap.size, 0, none⟩)) rfl (by kernel_rfl) (by kernel_rfl) (by kernel_rfl) (fun _ _ _ h => h) (Or.inl ⟨by rfl, fun w _ => by go_simp⟩) hHeld ?_
  simp only [Act.put, List.setIfInBounds_toArray, List.set_cons_zero, List.set_cons_succ]
  refine wpAnyH_take (i := 1) (oi := ⟨some 65, .load 3 (.tmp 64), _, _, _, none⟩) (v := .int .i64 xa) rfl (by kernel_rfl) (by kernel_rfl) (by kernel_rfl) (fun _ _ _ h => h) (Or.inl ⟨by rfl, fun w hSw => by have e1 := hSw.1; clear hSw; go_simp⟩) hHeld ?_
  simp only [Act.put, List.setIfInBounds_toArray, List.set_cons_zero, List.set_cons_succ]
  refine wpAnyH_take (i := 2) (oi := ⟨some 66, .binOp .lss 3 (.tmp 65) (.const (.int .i64 0)) 3, _, _, _, none⟩) (v := .bool false) rfl (by kernel_rfl) (by kernel_rfl) (by kernel_rfl) (fun _ _ _ h => h) (Or.inl ⟨by rfl, fun w _ => by go_simp⟩) hHeld ?_
  simp only [Act.put, List.setIfInBounds_toArray, List.set_cons_zero, List.set_cons_succ]
  refine wpAnyH_take (i := 3) (oi := ⟨some 67, .move (.tmp 66), _, _, _, none⟩) (v := .bool false) rfl (by kernel_rfl) (by kernel_rfl) (by kernel_rfl) (fun _ _ _ h => h) (Or.inl ⟨by rfl, fun _ _ => rfl⟩) hHeld ?_
  simp only [Act.put, List.setIfInBounds_toArray, List.set_cons_zero, List.set_cons_succ]
  refine wpAnyH_take (i := 4) (oi := ⟨some 68, .fieldAddr 32 (.tmp 11) 0, _, _, _, _⟩) (v := .pointer (some ⟨v1.heap.size, 0, none⟩)) rfl (by kernel_rfl) (by kernel_rfl) (by kernel_rfl) (fun _ _ _ h => h) (Or.inl ⟨by rfl, fun w _ => by go_simp⟩) hHeld ?_
  simp only [Act.put, List.setIfInBounds_toArray, List.set_cons_zero, List.set_cons_succ]
  refine wpAnyH_take (i := 5) (oi := ⟨some 69, .load 3 (.tmp 68), _, _, _, _⟩) (v := .int .i64 xa) rfl (by kernel_rfl) (by kernel_rfl) (by kernel_rfl) (fun _ _ _ h => h) (Or.inl ⟨by rfl, fun w hSw => by have e1 := hSw.1; clear hSw; go_simp⟩) hHeld ?_
  simp only [Act.put, List.setIfInBounds_toArray, List.set_cons_zero, List.set_cons_succ]
  refine wpAnyH_take (i := 6) (oi := ⟨some 70, .load 24 (.tmp 5), _, _, _, _⟩) (v := .agg #[.slice A n c]) rfl (by kernel_rfl) (by kernel_rfl) (by kernel_rfl) (fun _ _ _ h => h) (Or.inl ⟨by rfl, fun w hSw => by have e1 := hSw.2.2.2.2; clear hSw; go_simp⟩) hHeld ?_
  simp only [Act.put, List.setIfInBounds_toArray, List.set_cons_zero, List.set_cons_succ]
  refine wpAnyH_ready (rs := [7]) (by kernel_rfl) (by simp) (AllReadyH.cons (o := ⟨some 71, .call { callee := .value (.func 24), args := #[.tmp 70], argTypes := #[24] }, _, _, _, _⟩) rfl (fun K' hK => ?_) AllReadyH.nil)
  go_simp
  refine (HS.out _).mono ?_
  rintro e v2 ⟨rfl, l2⟩
  replace b3 := b3.keep l2
  replace p1 := p1.keep l2
  replace hS := hS.keep l2
  replace hR := hR.keep l2
  replace lw := Later.trans_ lw l2
  refine hK.out _ _ ⟨p1.cell (j := 0) rfl, p1.cell (j := 1) rfl, p1.cell (j := 2) rfl, p1.cell (j := 3) rfl, b3.cell (j := 0) rfl⟩ (fun hHeld => ?_)
  clear hK K'
  try simp only [Act.put, List.setIfInBounds_toArray, List.set_cons_zero, List.set_cons_succ]
  refine wpAnyH_take (i := 8) (oi := ⟨some 72, .binOp .geq 3 (.tmp 69) (.tmp 71) 3, _, _, _, _⟩) (v := .bool false) rfl (by kernel_rfl) (by kernel_rfl) (by kernel_rfl) (fun _ _ _ h => h) (Or.inl ⟨by rfl, fun w _ => by go_simp⟩) hHeld ?_
  simp only [Act.put, List.setIfInBounds_toArray, List.set_cons_zero, List.set_cons_succ]
  refine wpAnyH_take (i := 9) (oi := ⟨some 73, .pick (.tmp 67) (.const (.bool true)) (.tmp 72), _, _, _, none⟩) (v := .bool false) rfl (by kernel_rfl) (by kernel_rfl) (by kernel_rfl) (fun _ _ _ h => h) (Or.inl ⟨by rfl, fun w _ => by go_simp⟩) hHeld ?_
  simp only [Act.put, List.setIfInBounds_toArray, List.set_cons_zero, List.set_cons_succ]
  refine wpAnyH_take (i := 10) (oi := ⟨some 74, .move (.tmp 73), _, _, _, none⟩) (v := .bool false) rfl (by kernel_rfl) (by kernel_rfl) (by kernel_rfl) (fun _ _ _ h => h) (Or.inl ⟨by rfl, fun _ _ => rfl⟩) hHeld ?_
  simp only [Act.put, List.setIfInBounds_toArray, List.set_cons_zero, List.set_cons_succ]
  refine wpAnyH_take (i := 11) (oi := ⟨some 75, .fieldAddr 32 (.tmp 11) 0, _, _, _, _⟩) (v := .pointer (some ⟨v1.heap.size, 0, none⟩)) rfl (by kernel_rfl) (by kernel_rfl) (by kernel_rfl) (fun _ _ _ h => h) (Or.inl ⟨by rfl, fun w _ => by go_simp⟩) hHeld ?_
  simp only [Act.put, List.setIfInBounds_toArray, List.set_cons_zero, List.set_cons_succ]
  refine wpAnyH_take (i := 12) (oi := ⟨some 76, .load 3 (.tmp 75), _, _, _, _⟩) (v := .int .i64 xa) rfl (by kernel_rfl) (by kernel_rfl) (by kernel_rfl) (fun _ _ _ h => h) (Or.inl ⟨by rfl, fun w hSw => by have e1 := hSw.1; clear hSw; go_simp⟩) hHeld ?_
  simp only [Act.put, List.setIfInBounds_toArray, List.set_cons_zero, List.set_cons_succ]
  refine wpAnyH_take (i := 13) (oi := ⟨some 77, .binOp .rem 3 (.tmp 76) (.const (.int .i64 128)) 3, _, _, _, _⟩) (v := .int .i64 M) rfl (by kernel_rfl) (by kernel_rfl) (by kernel_rfl) (fun _ _ _ h => h) (Or.inl ⟨by rfl, fun w _ => by go_simp⟩) hHeld ?_
  simp only [Act.put, List.setIfInBounds_toArray, List.set_cons_zero, List.set_cons_succ]
  refine wpAnyH_take (i := 14) (oi := ⟨some 78, .move (.tmp 2), _, _, _, _⟩) (v := .int .u32 va) rfl (by kernel_rfl) (by kernel_rfl) (by kernel_rfl) (fun _ _ _ h => h) (Or.inl ⟨by rfl, fun _ _ => rfl⟩) hHeld ?_
  simp only [Act.put, List.setIfInBounds_toArray, List.set_cons_zero, List.set_cons_succ]
  refine wpAnyH_take (i := 15) (oi := ⟨some 79, .convert 25 3 (.tmp 78), _, _, _, _⟩) (v := .int .i64 va) rfl (by kernel_rfl) (by kernel_rfl) (by kernel_rfl) (fun _ _ _ h => h) (Or.inl ⟨by rfl, fun w _ => by go_simp⟩) hHeld ?_
  simp only [Act.put, List.setIfInBounds_toArray, List.set_cons_zero, List.set_cons_succ]
  refine wpAnyH_take (i := 16) (oi := ⟨some 80, .binOp .rem 3 (.tmp 79) (.const (.int .i64 128)) 3, _, _, _, _⟩) (v := .int .i64 M) rfl (by kernel_rfl) (by kernel_rfl) (by kernel_rfl) (fun _ _ _ h => h) (Or.inl ⟨by rfl, fun w _ => by go_simp⟩) hHeld ?_
  simp only [Act.put, List.setIfInBounds_toArray, List.set_cons_zero, List.set_cons_succ]
  refine wpAnyH_take (i := 17) (oi := ⟨some 81, .binOp .neq 3 (.tmp 77) (.tmp 80) 3, _, _, _, _⟩) (v := .bool false) rfl (by kernel_rfl) (by kernel_rfl) (by kernel_rfl) (fun _ _ _ h => h) (Or.inl ⟨by rfl, fun w _ => by go_simp⟩) hHeld ?_
  simp only [Act.put, List.setIfInBounds_toArray, List.set_cons_zero, List.set_cons_succ]
  refine wpAnyH_take (i := 18) (oi := ⟨some 82, .pick (.tmp 74) (.const (.bool true)) (.tmp 81), _, _, _, none⟩) (v := .bool false) rfl (by kernel_rfl) (by kernel_rfl) (by kernel_rfl) (fun _ _ _ h => h) (Or.inl ⟨by rfl, fun w _ => by go_simp⟩) hHeld ?_
  simp only [Act.put, List.setIfInBounds_toArray, List.set_cons_zero, List.set_cons_succ]
  refine wpAnyH_take (i := 19) (oi := ⟨some 83, .move (.tmp 82), _, _, _, none⟩) (v := .bool false) rfl (by kernel_rfl) (by kernel_rfl) (by kernel_rfl) (fun _ _ _ h => h) (Or.inl ⟨by rfl, fun _ _ => rfl⟩) hHeld ?_
  simp only [Act.put, List.setIfInBounds_toArray, List.set_cons_zero, List.set_cons_succ]
  refine wpAnyH_take (i := 20) (oi := ⟨some 84, .fieldAddr 32 (.tmp 11) 2, _, _, _, _⟩) (v := .pointer (some ⟨v1.heap.size, 2, none⟩)) rfl (by kernel_rfl) (by kernel_rfl) (by kernel_rfl) (fun _ _ _ h => h) (Or.inl ⟨by rfl, fun w _ => by go_simp⟩) hHeld ?_
  simp only [Act.put, List.setIfInBounds_toArray, List.set_cons_zero, List.set_cons_succ]
  refine wpAnyH_take (i := 21) (oi := ⟨some 85, .load 29 (.tmp 84), _, _, _, _⟩) (v := .slice (some ads) 1 sc) rfl (by kernel_rfl) (by kernel_rfl) (by kernel_rfl) (fun _ _ _ h => h) (Or.inl ⟨by rfl, fun w hSw => by have e1 := hSw.2.2.1; clear hSw; go_simp⟩) hHeld ?_
  simp only [Act.put, List.setIfInBounds_toArray, List.set_cons_zero, List.set_cons_succ]
  refine wpAnyH_take (i := 22) (oi := ⟨some 86, .call { callee := .builtin .len, args := #[.tmp 85], argTypes := #[29] }, _, _, _, _⟩) (v := .int .i64 1) rfl (by kernel_rfl) (by kernel_rfl) (by kernel_rfl) (fun _ _ _ h => h) (Or.inl ⟨by rfl, fun w _ => by go_simp⟩) hHeld ?_
  simp only [Act.put, List.setIfInBounds_toArray, List.set_cons_zero, List.set_cons_succ]
  refine wpAnyH_take (i := 23) (oi := ⟨some 87, .binOp .gtr 3 (.tmp 86) (.const (.int .i64 1)) 3, _, _, _, _⟩) (v := .bool false) rfl (by kernel_rfl) (by kernel_rfl) (by kernel_rfl) (fun _ _ _ h => h) (Or.inl ⟨by rfl, fun w _ => by go_simp⟩) hHeld ?_
  simp only [Act.put, List.setIfInBounds_toArray, List.set_cons_zero, List.set_cons_succ]
  refine wpAnyH_take (i := 24) (oi := ⟨some 88, .pick (.tmp 83) (.const (.bool true)) (.tmp 87), _, _, _, none⟩) (v := .bool false) rfl (by kernel_rfl) (by kernel_rfl) (by kernel_rfl) (fun _ _ _ h => h) (Or.inl ⟨by rfl, fun w _ => by go_simp⟩) hHeld ?_
  simp only [Act.put, List.setIfInBounds_toArray, List.set_cons_zero, List.set_cons_succ]
  refine wpAnyH_take (i := 25) (oi := ⟨some 89, .move (.tmp 88), _, _, _, none⟩) (v := .bool false) rfl (by kernel_rfl) (by kernel_rfl) (by kernel_rfl) (fun _ _ _ h => h) (Or.inl ⟨by rfl, fun _ _ => rfl⟩) hHeld ?_
  simp only [Act.put, List.setIfInBounds_toArray, List.set_cons_zero, List.set_cons_succ]
  refine wpAnyH_take (i := 26) (oi := ⟨some 90, .fieldAddr 32 (.tmp 11) 3, _, _, _, _⟩) (v := .pointer (some ⟨v1.heap.size, 3, none⟩)) rfl (by kernel_rfl) (by kernel_rfl) (by kernel_rfl) (fun _ _ _ h => h) (Or.inl ⟨by rfl, fun w _ => by go_simp⟩) hHeld ?_
  simp only [Act.put, List.setIfInBounds_toArray, List.set_cons_zero, List.set_cons_succ]
  refine wpAnyH_take (i := 27) (oi := ⟨some 91, .load 30 (.tmp 90), _, _, _, _⟩) (v := .slice (some adr) 2 rc) rfl (by kernel_rfl) (by kernel_rfl) (by kernel_rfl) (fun _ _ _ h => h) (Or.inl ⟨by rfl, fun w hSw => by have e1 := hSw.2.2.2.1; clear hSw; go_simp⟩) hHeld ?_
  simp only [Act.put, List.setIfInBounds_toArray, List.set_cons_zero, List.set_cons_succ]
  refine wpAnyH_take (i := 28) (oi := ⟨some 92, .call { callee := .builtin .len, args := #[.tmp 91], argTypes := #[30] }, _, _, _, _⟩) (v := .int .i64 2) rfl (by kernel_rfl) (by kernel_rfl) (by kernel_rfl) (fun _ _ _ h => h) (Or.inl ⟨by rfl, fun w _ => by go_simp⟩) hHeld ?_
  simp only [Act.put, List.setIfInBounds_toArray, List.set_cons_zero, List.set_cons_succ]
  refine wpAnyH_take (i := 29) (oi := ⟨some 93, .binOp .gtr 3 (.tmp 92) (.const (.int .i64 2)) 3, _, _, _, _⟩) (v := .bool false) rfl (by kernel_rfl) (by kernel_rfl) (by kernel_rfl) (fun _ _ _ h => h) (Or.inl ⟨by rfl, fun w _ => by go_simp⟩) hHeld ?_
  simp only [Act.put, List.setIfInBounds_toArray, List.set_cons_zero, List.set_cons_succ]
  refine wpAnyH_take (i := 30) (oi := ⟨some 94, .pick (.tmp 89) (.const (.bool true)) (.tmp 93), _, _, _, none⟩) (v := .bool false) rfl (by kernel_rfl) (by kernel_rfl) (by kernel_rfl) (fun _ _ _ h => h) (Or.inl ⟨by rfl, fun w _ => by go_simp⟩) hHeld ?_
  simp only [Act.put, List.setIfInBounds_toArray, List.set_cons_zero, List.set_cons_succ]
  refine wpAnyH_take (i := 31) (oi := ⟨some 95, .move (.tmp 94), _, _, _, none⟩) (v := .bool false) rfl (by kernel_rfl) (by kernel_rfl) (by kernel_rfl) (fun _ _ _ h => h) (Or.inl ⟨by rfl, fun _ _ => rfl⟩) hHeld ?_
  simp only [Act.put, List.setIfInBounds_toArray, List.set_cons_zero, List.set_cons_succ]
  refine wpAnyH_take (i := 32) (oi := ⟨some 96, .fieldAddr 32 (.tmp 11) 1, _, _, _, _⟩) (v := .pointer (some ⟨v1.heap.size, 1, none⟩)) rfl (by kernel_rfl) (by kernel_rfl) (by kernel_rfl) (fun _ _ _ h => h) (Or.inl ⟨by rfl, fun w _ => by go_simp⟩) hHeld ?_
  simp only [Act.put, List.setIfInBounds_toArray, List.set_cons_zero, List.set_cons_succ]
  refine wpAnyH_take (i := 33) (oi := ⟨some 97, .load 3 (.tmp 96), _, _, _, _⟩) (v := .int .i64 xl) rfl (by kernel_rfl) (by kernel_rfl) (by kernel_rfl) (fun _ _ _ h => h) (Or.inl ⟨by rfl, fun w hSw => by have e1 := hSw.2.1; clear hSw; go_simp⟩) hHeld ?_
  simp only [Act.put, List.setIfInBounds_toArray, List.set_cons_zero, List.set_cons_succ]
  refine wpAnyH_take (i := 34) (oi := ⟨some 98, .binOp .lss 3 (.tmp 97) (.const (.int .i64 0)) 3, _, _, _, _⟩) (v := .bool false) rfl (by kernel_rfl) (by kernel_rfl) (by kernel_rfl) (fun _ _ _ h => h) (Or.inl ⟨by rfl, fun w _ => by go_simp⟩) hHeld ?_
  simp only [Act.put, List.setIfInBounds_toArray, List.set_cons_zero, List.set_cons_succ]
  refine wpAnyH_take (i := 35) (oi := ⟨some 99, .move (.tmp 1), _, _, _, _⟩) (v := .int .u32 root) rfl (by kernel_rfl) (by kernel_rfl) (by kernel_rfl) (fun _ _ _ h => h) (Or.inl ⟨by rfl, fun _ _ => rfl⟩) hHeld ?_
  simp only [Act.put, List.setIfInBounds_toArray, List.set_cons_zero, List.set_cons_succ]
  refine wpAnyH_take (i := 36) (oi := ⟨some 100, .binOp .eql 25 (.tmp 99) (.const (.int .u32 0)) 25, _, _, _, _⟩) (v := .bool false) rfl (by kernel_rfl) (by kernel_rfl) (by kernel_rfl) (fun _ _ _ h => h) (Or.inl ⟨by rfl, fun w _ => by go_simp⟩) hHeld ?_
  simp only [Act.put, List.setIfInBounds_toArray, List.set_cons_zero, List.set_cons_succ]
  refine wpAnyH_take (i := 37) (oi := ⟨some 101, .binOp .neq 4 (.tmp 98) (.tmp 100) 4, _, _, _, _⟩) (v := .bool false) rfl (by kernel_rfl) (by kernel_rfl) (by kernel_rfl) (fun _ _ _ h => h) (Or.inl ⟨by rfl, fun w _ => by go_simp⟩) hHeld ?_
  simp only [Act.put, List.setIfInBounds_toArray, List.set_cons_zero, List.set_cons_succ]
  refine wpAnyH_take (i := 38) (oi := ⟨some 102, .pick (.tmp 95) (.const (.bool true)) (.tmp 101), _, _, _, none⟩) (v := .bool false) rfl (by kernel_rfl) (by kernel_rfl) (by kernel_rfl) (fun _ _ _ h => h) (Or.inl ⟨by rfl, fun w _ => by go_simp⟩) hHeld ?_
  simp only [Act.put, List.setIfInBounds_toArray, List.set_cons_zero, List.set_cons_succ]
  refine wpAnyH_done (by kernel_rfl) ?_ _
  clear hHeld
  go_wp2
  replace b3 := b3.drew
  replace p1 := p1.drew
  replace hS := hS.drew
  replace hR := hR.drew
  replace lw := lw.drew
  refine wp_region_held_drew (S := fun w' => w'.cell? ⟨v1.heap.size, 0, none⟩ = some (.int .i64 xa) ∧ w'.cell? ⟨v1.heap.size, 1, none⟩ = some (.int .i64 xl) ∧ w'.cell? ⟨v1.heap.size, 2, none⟩ = some (.slice (some ads) 1 sc) ∧ w'.cell? ⟨v1.heap.size, 3, none⟩ = some (.slice (some adr) 2 rc) ∧ w'.cell? ⟨w.heap.size, 0, none⟩ = some (.slice A n c) ∧ w'.cell? adr = some (.int .i64 f) ∧ w'.cell? ⟨adr.block, adr.off + 1, none⟩ = some (.int .i64 xl)) (by kernel_rfl) ⟨p1.cell (j := 0) rfl, p1.cell (j := 1) rfl, p1.cell (j := 2) rfl, p1.cell (j := 3) rfl, b3.cell (j := 0) rfl, sl_first hR (by omega), sl_second hR (by omega)⟩ (fun hHeld => ?_)
  refine wpAnyH_take (i := 0) (oi := ⟨some 125, .fieldAddr 32 (.tmp 11) 3, _, _, _, none⟩) (v := .pointer (some ⟨v1.heap.size, 3, none⟩)) rfl (by kernel_rfl) (by kernel_rfl) (by kernel_rfl) (fun _ _ _ h => h) (Or.inl ⟨by rfl, fun w _ => by go_simp⟩) hHeld ?_
  simp only [Act.put, List.setIfInBounds_toArray, List.set_cons_zero, List.set_cons_succ]
  refine wpAnyH_take (i := 1) (oi := ⟨some 126, .load 30 (.tmp 125), _, _, _, none⟩) (v := .slice (some adr) 2 rc) rfl (by kernel_rfl) (by kernel_rfl) (by kernel_rfl) (fun _ _ _ h => h) (Or.inl ⟨by rfl, fun w hSw => by have e1 := hSw.2.2.2.1; clear hSw; go_simp⟩) hHeld ?_
  simp only [Act.put, List.setIfInBounds_toArray, List.set_cons_zero, List.set_cons_succ]
  refine wpAnyH_take (i := 2) (oi := ⟨some 127, .call { callee := .builtin .len, args := #[.tmp 126], argTypes := #[30] }, _, _, _, none⟩) (v := .int .i64 2) rfl (by kernel_rfl) (by kernel_rfl) (by kernel_rfl) (fun _ _ _ h => h) (Or.inl ⟨by rfl, fun w _ => by go_simp⟩) hHeld ?_
  simp only [Act.put, List.setIfInBounds_toArray, List.set_cons_zero, List.set_cons_succ]
  refine wpAnyH_take (i := 3) (oi := ⟨some 128, .binOp .eql 3 (.tmp 127) (.const (.int .i64 0)) 3, _, _, _, none⟩) (v := .bool false) rfl (by kernel_rfl) (by kernel_rfl) (by kernel_rfl) (fun _ _ _ h => h) (Or.inl ⟨by rfl, fun w _ => by go_simp⟩) hHeld ?_
  simp only [Act.put, List.setIfInBounds_toArray, List.set_cons_zero, List.set_cons_succ]
  refine wpAnyH_take (i := 4) (oi := ⟨some 129, .move (.tmp 128), _, _, _, none⟩) (v := .bool false) rfl (by kernel_rfl) (by kernel_rfl) (by kernel_rfl) (fun _ _ _ h => h) (Or.inl ⟨by rfl, fun _ _ => rfl⟩) hHeld ?_
  simp only [Act.put, List.setIfInBounds_toArray, List.set_cons_zero, List.set_cons_succ]
  refine wpAnyH_take (i := 5) (oi := ⟨some 130, .fieldAddr 32 (.tmp 11) 3, _, _, _, _⟩) (v := .pointer (some ⟨v1.heap.size, 3, none⟩)) rfl (by kernel_rfl) (by kernel_rfl) (by kernel_rfl) (fun _ _ _ h => h) (Or.inl ⟨by rfl, fun w _ => by go_simp⟩) hHeld ?_
  simp only [Act.put, List.setIfInBounds_toArray, List.set_cons_zero, List.set_cons_succ]
  refine wpAnyH_take (i := 6) (oi := ⟨some 131, .load 30 (.tmp 130), _, _, _, _⟩) (v := .slice (some adr) 2 rc) rfl (by kernel_rfl) (by kernel_rfl) (by kernel_rfl) (fun _ _ _ h => h) (Or.inl ⟨by rfl, fun w hSw => by have e1 := hSw.2.2.2.1; clear hSw; go_simp⟩) hHeld ?_
  simp only [Act.put, List.setIfInBounds_toArray, List.set_cons_zero, List.set_cons_succ]
  refine wpAnyH_take (i := 7) (oi := ⟨some 132, .fieldAddr 32 (.tmp 11) 3, _, _, _, _⟩) (v := .pointer (some ⟨v1.heap.size, 3, none⟩)) rfl (by kernel_rfl) (by kernel_rfl) (by kernel_rfl) (fun _ _ _ h => h) (Or.inl ⟨by rfl, fun w _ => by go_simp⟩) hHeld ?_
  simp only [Act.put, List.setIfInBounds_toArray, List.set_cons_zero, List.set_cons_succ]
  refine wpAnyH_take (i := 8) (oi := ⟨some 133, .load 30 (.tmp 132), _, _, _, _⟩) (v := .slice (some adr) 2 rc) rfl (by kernel_rfl) (by kernel_rfl) (by kernel_rfl) (fun _ _ _ h => h) (Or.inl ⟨by rfl, fun w hSw => by have e1 := hSw.2.2.2.1; clear hSw; go_simp⟩) hHeld ?_
  simp only [Act.put, List.setIfInBounds_toArray, List.set_cons_zero, List.set_cons_succ]
  refine wpAnyH_take (i := 9) (oi := ⟨some 134, .call { callee := .builtin .len, args := #[.tmp 133], argTypes := #[30] }, _, _, _, _⟩) (v := .int .i64 2) rfl (by kernel_rfl) (by kernel_rfl) (by kernel_rfl) (fun _ _ _ h => h) (Or.inl ⟨by rfl, fun w _ => by go_simp⟩) hHeld ?_
  simp only [Act.put, List.setIfInBounds_toArray, List.set_cons_zero, List.set_cons_succ]
  refine wpAnyH_take (i := 10) (oi := ⟨some 135, .binOp .sub 3 (.tmp 134) (.const (.int .i64 1)) 3, _, _, _, _⟩) (v := .int .i64 1) rfl (by kernel_rfl) (by kernel_rfl) (by kernel_rfl) (fun _ _ _ h => h) (Or.inl ⟨by rfl, fun w _ => by go_simp⟩) hHeld ?_
  simp only [Act.put, List.setIfInBounds_toArray, List.set_cons_zero, List.set_cons_succ]
  refine wpAnyH_take (i := 11) (oi := ⟨some 136, .indexAddr 30 (.tmp 131) (.tmp 135), _, _, _, _⟩) (v := .pointer (some ⟨adr.block, adr.off + 1, none⟩)) rfl (by kernel_rfl) (by kernel_rfl) (by kernel_rfl) (fun _ _ _ h => h) (Or.inl ⟨by rfl, fun w _ => by go_simp⟩) hHeld ?_
  simp only [Act.put, List.setIfInBounds_toArray, List.set_cons_zero, List.set_cons_succ]
  refine wpAnyH_take (i := 12) (oi := ⟨some 137, .load 3 (.tmp 136), _, _, _, _⟩) (v := .int .i64 xl) rfl (by kernel_rfl) (by kernel_rfl) (by kernel_rfl) (fun _ _ _ h => h) (Or.inl ⟨by rfl, fun w hSw => by have e1 := hSw.2.2.2.2.2.2; clear hSw; go_simp⟩) hHeld ?_
  simp only [Act.put, List.setIfInBounds_toArray, List.set_cons_zero, List.set_cons_succ]
  refine wpAnyH_take (i := 13) (oi := ⟨some 138, .fieldAddr 32 (.tmp 11) 1, _, _, _, _⟩) (v := .pointer (some ⟨v1.heap.size, 1, none⟩)) rfl (by kernel_rfl) (by kernel_rfl) (by kernel_rfl) (fun _ _ _ h => h) (Or.inl ⟨by rfl, fun w _ => by go_simp⟩) hHeld ?_
  simp only [Act.put, List.setIfInBounds_toArray, List.set_cons_zero, List.set_cons_succ]
  refine wpAnyH_take (i := 14) (oi := ⟨some 139, .load 3 (.tmp 138), _, _, _, _⟩) (v := .int .i64 xl) rfl (by kernel_rfl) (by kernel_rfl) (by kernel_rfl) (fun _ _ _ h => h) (Or.inl ⟨by rfl, fun w hSw => by have e1 := hSw.2.1; clear hSw; go_simp⟩) hHeld ?_
  simp only [Act.put, List.setIfInBounds_toArray, List.set_cons_zero, List.set_cons_succ]
  refine wpAnyH_take (i := 15) (oi := ⟨some 140, .binOp .neq 3 (.tmp 137) (.tmp 139) 3, _, _, _, _⟩) (v := .bool false) rfl (by kernel_rfl) (by kernel_rfl) (by kernel_rfl) (fun _ _ _ h => h) (Or.inl ⟨by rfl, fun w _ => by go_simp⟩) hHeld ?_
  simp only [Act.put, List.setIfInBounds_toArray, List.set_cons_zero, List.set_cons_succ]
  refine wpAnyH_take (i := 16) (oi := ⟨some 141, .pick (.tmp 129) (.const (.bool true)) (.tmp 140), _, _, _, none⟩) (v := .bool false) rfl (by kernel_rfl) (by kernel_rfl) (by kernel_rfl) (fun _ _ _ h => h) (Or.inl ⟨by rfl, fun w _ => by go_simp⟩) hHeld ?_
  simp only [Act.put, List.setIfInBounds_toArray, List.set_cons_zero, List.set_cons_succ]
  refine wpAnyH_done (by kernel_rfl) ?_ _
  clear hHeld
  have f2 := p1.cell (j := 2) (v := .slice (some ads) 1 sc) rfl
  go_wp2
  clear f2
  go_loopw [145] (fun i wr => ∃ k : Nat, k ≤ 1 ∧ i = .int .i64 k ∧ Blk wr w.heap.size 24 [.slice A n c] ∧ Blk wr v1.heap.size 32 [.int .i64 xa, .int .i64 xl, .slice (some ads) 1 sc, .slice (some adr) 2 rc] ∧ Sl wr 3 (some ads) 1 (Ws [(xl, 4, v)]) ∧ Sl wr 1 (some adr) 2 (N64 [f, xl]) ∧ Later w wr) (fun i _ => 1 - (intOf i).toNat)
  case atStart => exact ⟨0, by omega, rfl, b3, p1, hS, hR, lw⟩
  case round =>
    clear b3 p1 hS hR lw
    rename_i wr
    obtain ⟨k, hk, rfl, b3, p1, hS, hR, lw⟩ := hrel
    by_cases hlt : k < 1
    · obtain rfl : k = 0 := by omega
      clear hk hlt
      obtain ⟨e0, e1, e2⟩ := sl_write hS
      have hw4 := b3.lt
      have c3 := (b3.keep (later1 wr (.cells #[.int .i64 xl, .int .i64 4, .int .u32 v] 57))).cell (j := 0) (v := .slice A n c) rfl
      have f1 := (p1.keep (later1 wr (.cells #[.int .i64 xl, .int .i64 4, .int .u32 v] 57))).cell (j := 1) (v := .int .i64 xl) rfl
      go_wp2_with (go_at_call 25; refine (KL.out _ (Later.trans_ lw (later1 wr (.cells #[.int .i64 xl, .int .i64 4, .int .u32 v] 57)))).mono ?_; rintro e w6 ⟨rfl, l6⟩; clear c3 f1 e0 e1 e2; have b14 := (Blk.new wr 57 #[.int .i64 xl, .int .i64 4, .int .u32 v] [.int .i64 xl, .int .i64 4, .int .u32 v] rfl).keep l6; have q6 := Later.trans_ (later1 wr (.cells #[.int .i64 xl, .int .i64 4, .int .u32 v] 57)) l6; replace b3 := b3.keep q6; replace p1 := p1.keep q6; replace hS := hS.keep q6; replace hR := hR.keep q6; replace lw := Later.trans_ lw q6; have f1 := p1.cell (j := 1) (v := .int .i64 xl) rfl; have k0 := b14.cell (j := 0) (v := .int .i64 xl) rfl; have k1 := b14.cell (j := 1) (v := .int .i64 4) rfl; have k2 := b14.cell (j := 2) (v := .int .u32 v) rfl)
      clear f1 k0 k1 k2
      go_roundw
      case rel => first | exact ⟨1, by omega, rfl, b3, p1, hS, hR, lw⟩ | exact ⟨1, by omega, by go_num, b3, p1, hS, hR, lw⟩ | exact ⟨_, ⟨1, by omega, rfl, b3, p1, hS, hR, lw⟩, rfl⟩ | exact ⟨_, _, ⟨1, by omega, rfl, b3, p1, hS, hR, lw⟩, rfl⟩ | exact ⟨_, _, _, ⟨1, by omega, rfl, b3, p1, hS, hR, lw⟩, rfl⟩ | exact ⟨_, _, _, _, ⟨1, by omega, rfl, b3, p1, hS, hR, lw⟩, rfl⟩ | exact ⟨_, _, _, _, _, ⟨1, by omega, rfl, b3, p1, hS, hR, lw⟩, rfl⟩ | exact ⟨_, _, _, _, _, _, ⟨1, by omega, rfl, b3, p1, hS, hR, lw⟩, rfl⟩ | exact ⟨_, _, _, _, _, _, _, ⟨1, by omega, rfl, b3, p1, hS, hR, lw⟩, rfl⟩ | exact ⟨_, _, _, _, _, _, _, _, ⟨1, by omega, rfl, b3, p1, hS, hR, lw⟩, rfl⟩ | exact ⟨_, _, _, _, _, _, _, _, _, ⟨1, by omega, rfl, b3, p1, hS, hR, lw⟩, rfl⟩ | exact ⟨_, _, _, _, _, _, _, _, _, _, ⟨1, by omega, rfl, b3, p1, hS, hR, lw⟩, rfl⟩ | exact ⟨_, _, _, _, _, _, _, _, _, _, _, ⟨1, by omega, rfl, b3, p1, hS, hR, lw⟩, rfl⟩ | exact ⟨_, _, _, _, _, _, _, _, _, _, _, _, ⟨1, by omega, rfl, b3, p1, hS, hR, lw⟩, rfl⟩ | exact ⟨_, _, _, _, _, _, _, _, _, _, _, _, _, ⟨1, by omega, rfl, b3, p1, hS, hR, lw⟩, rfl⟩ | exact ⟨_, _, _, _, _, _, _, _, _, _, _, _, _, _, ⟨1, by omega, rfl, b3, p1, hS, hR, lw⟩, rfl⟩ | exact ⟨_, _, _, _, _, _, _, _, _, _, _, _, _, _, _, ⟨1, by omega, rfl, b3, p1, hS, hR, lw⟩, rfl⟩ | exact ⟨_, _, _, _, _, _, _, _, _, _, _, _, _, _, _, _, ⟨1, by omega, rfl, b3, p1, hS, hR, lw⟩, rfl⟩ | exact ⟨_, _, _, _, _, _, _, _, _, _, _, _, _, _, _, _, _, ⟨1, by omega, rfl, b3, p1, hS, hR, lw⟩, rfl⟩ | exact ⟨_, _, _, _, _, _, _, _, _, _, _, _, _, _, _, _, _, _, ⟨1, by omega, rfl, b3, p1, hS, hR, lw⟩, rfl⟩ | exact ⟨_, _, _, _, _, _, _, _, _, _, _, _, _, _, _, _, _, _, _, ⟨1, by omega, rfl, b3, p1, hS, hR, lw⟩, rfl⟩ | exact ⟨_, _, _, _, _, _, _, _, _, _, _, _, _, _, _, _, _, _, _, _, ⟨1, by omega, rfl, b3, p1, hS, hR, lw⟩, rfl⟩ | exact ⟨_, _, _, _, _, _, _, _, _, _, _, _, _, _, _, _, _, _, _, _, _, ⟨1, by omega, rfl, b3, p1, hS, hR, lw⟩, rfl⟩ | exact ⟨_, _, _, _, _, _, _, _, _, _, _, _, _, _, _, _, _, _, _, _, _, _, ⟨1, by omega, rfl, b3, p1, hS, hR, lw⟩, rfl⟩ | exact ⟨_, _, _, _, _, _, _, _, _, _, _, _, _, _, _, _, _, _, _, _, _, _, _, ⟨1, by omega, rfl, b3, p1, hS, hR, lw⟩, rfl⟩ | exact ⟨_, _, _, _, _, _, _, _, _, _, _, _, _, _, _, _, _, _, _, _, _, _, _, _, ⟨1, by omega, rfl, b3, p1, hS, hR, lw⟩, rfl⟩ | exact ⟨_, _, _, _, _, _, _, _, _, _, _, _, _, _, _, _, _, _, _, _, _, _, _, _, _, ⟨1, by omega, rfl, b3, p1, hS, hR, lw⟩, rfl⟩ | exact ⟨_, _, _, _, _, _, _, _, _, _, _, _, _, _, _, _, _, _, _, _, _, _, _, _, _, _, ⟨1, by omega, rfl, b3, p1, hS, hR, lw⟩, rfl⟩ | exact ⟨_, _, _, _, _, _, _, _, _, _, _, _, _, _, _, _, _, _, _, _, _, _, _, _, _, _, _, ⟨1, by omega, rfl, b3, p1, hS, hR, lw⟩, rfl⟩ | exact ⟨_, _, _, _, _, _, _, _, _, _, _, _, _, _, _, _, _, _, _, _, _, _, _, _, _, _, _, _, ⟨1, by omega, rfl, b3, p1, hS, hR, lw⟩, rfl⟩ | exact ⟨_, _, _, _, _, _, _, _, _, _, _, _, _, _, _, _, _, _, _, _, _, _, _, _, _, _, _, _, _, ⟨1, by omega, rfl, b3, p1, hS, hR, lw⟩, rfl⟩ | exact ⟨_, _, _, _, _, _, _, _, _, _, _, _, _, _, _, _, _, _, _, _, _, _, _, _, _, _, _, _, _, _, ⟨1, by omega, rfl, b3, p1, hS, hR, lw⟩, rfl⟩ | exact ⟨_, _, _, _, _, _, _, _, _, _, _, _, _, _, _, _, _, _, _, _, _, _, _, _, _, _, _, _, _, _, _, ⟨1, by omega, rfl, b3, p1, hS, hR, lw⟩, rfl⟩ | exact ⟨_, _, _, _, _, _, _, _, _, _, _, _, _, _, _, _, _, _, _, _, _, _, _, _, _, _, _, _, _, _, _, _, ⟨1, by omega, rfl, b3, p1, hS, hR, lw⟩, rfl⟩ | exact ⟨_, _, _, _, _, _, _, _, _, _, _, _, _, _, _, _, _, _, _, _, _, _, _, _, _, _, _, _, _, _, _, _, _, ⟨1, by omega, rfl, b3, p1, hS, hR, lw⟩, rfl⟩ | exact ⟨_, _, _, _, _, _, _, _, _, _, _, _, _, _, _, _, _, _, _, _, _, _, _, _, _, _, _, _, _, _, _, _, _, _, ⟨1, by omega, rfl, b3, p1, hS, hR, lw⟩, rfl⟩ | exact ⟨_, _, _, _, _, _, _, _, _, _, _, _, _, _, _, _, _, _, _, _, _, _, _, _, _, _, _, _, _, _, _, _, _, _, _, ⟨1, by omega, rfl, b3, p1, hS, hR, lw⟩, rfl⟩ | exact ⟨_, _, _, _, _, _, _, _, _, _, _, _, _, _, _, _, _, _, _, _, _, _, _, _, _, _, _, _, _, _, _, _, _, _, _, _, ⟨1, by omega, rfl, b3, p1, hS, hR, lw⟩, rfl⟩ | exact ⟨_, _, _, _, _, _, _, _, _, _, _, _, _, _, _, _, _, _, _, _, _, _, _, _, _, _, _, _, _, _, _, _, _, _, _, _, _, ⟨1, by omega, rfl, b3, p1, hS, hR, lw⟩, rfl⟩ | exact ⟨_, _, _, _, _, _, _, _, _, _, _, _, _, _, _, _, _, _, _, _, _, _, _, _, _, _, _, _, _, _, _, _, _, _, _, _, _, _, ⟨1, by omega, rfl, b3, p1, hS, hR, lw⟩, rfl⟩ | exact ⟨_, _, _, _, _, _, _, _, _, _, _, _, _, _, _, _, _, _, _, _, _, _, _, _, _, _, _, _, _, _, _, _, _, _, _, _, _, _, _, ⟨1, by omega, rfl, b3, p1, hS, hR, lw⟩, rfl⟩ | exact ⟨_, _, _, _, _, _, _, _, _, _, _, _, _, _, _, _, _, _, _, _, _, _, _, _, _, _, _, _, _, _, _, _, _, _, _, _, _, _, _, _, ⟨1, by omega, rfl, b3, p1, hS, hR, lw⟩, rfl⟩ | exact ⟨_, _, _, _, _, _, _, _, _, _, _, _, _, _, _, _, _, _, _, _, _, _, _, _, _, _, _, _, _, _, _, _, _, _, _, _, _, _, _, _, _, ⟨1, by omega, rfl, b3, p1, hS, hR, lw⟩, rfl⟩ | exact ⟨_, _, _, _, _, _, _, _, _, _, _, _, _, _, _, _, _, _, _, _, _, _, _, _, _, _, _, _, _, _, _, _, _, _, _, _, _, _, _, _, _, _, ⟨1, by omega, rfl, b3, p1, hS, hR, lw⟩, rfl⟩ | exact ⟨_, _, _, _, _, _, _, _, _, _, _, _, _, _, _, _, _, _, _, _, _, _, _, _, _, _, _, _, _, _, _, _, _, _, _, _, _, _, _, _, _, _, _, ⟨1, by omega, rfl, b3, p1, hS, hR, lw⟩, rfl⟩ | exact ⟨_, _, _, _, _, _, _, _, _, _, _, _, _, _, _, _, _, _, _, _, _, _, _, _, _, _, _, _, _, _, _, _, _, _, _, _, _, _, _, _, _, _, _, _, ⟨1, by omega, rfl, b3, p1, hS, hR, lw⟩, rfl⟩
      case measure => simp [intOf]
    · obtain rfl : k = 1 := by omega
      clear hk hlt
      go_wp2
      replace b3 := b3.drew
      replace p1 := p1.drew
      replace hS := hS.drew
      replace hR := hR.drew
      replace lw := lw.drew
      refine wp_region_held_drew (S := fun w' => w'.cell? ⟨v1.heap.size, 0, none⟩ = some (.int .i64 xa) ∧ w'.cell? ⟨v1.heap.size, 1, none⟩ = some (.int .i64 xl) ∧ w'.cell? ⟨v1.heap.size, 2, none⟩ = some (.slice (some ads) 1 sc) ∧ w'.cell? ⟨v1.heap.size, 3, none⟩ = some (.slice (some adr) 2 rc) ∧ w'.cell? ⟨w.heap.size, 0, none⟩ = some (.slice A n c) ∧ w'.cell? adr = some (.int .i64 f) ∧ w'.cell? ⟨adr.block, adr.off + 1, none⟩ = some (.int .i64 xl)) (by kernel_rfl) ⟨p1.cell (j := 0) rfl, p1.cell (j := 1) rfl, p1.cell (j := 2) rfl, p1.cell (j := 3) rfl, b3.cell (j := 0) rfl, sl_first hR (by omega), sl_second hR (by omega)⟩ (fun hHeld => ?_)
      refine wpAnyH_take (i := 0) (oi := ⟨some 192, .fieldAddr 32 (.tmp 11) 3, _, _, _, none⟩) (v := .pointer (some ⟨v1.heap.size, 3, none⟩)) rfl (by kernel_rfl) (by kernel_rfl) (by kernel_rfl) (fun _ _ _ h => h) (Or.inl ⟨by rfl, fun w _ => by go_simp⟩) hHeld ?_
      simp only [Act.put, List.setIfInBounds_toArray, List.set_cons_zero, List.set_cons_succ]
      refine wpAnyH_take (i := 1) (oi := ⟨some 193, .load 30 (.tmp 192), _, _, _, none⟩) (v := .slice (some adr) 2 rc) rfl (by kernel_rfl) (by kernel_rfl) (by kernel_rfl) (fun _ _ _ h => h) (Or.inl ⟨by rfl, fun w hSw => by have e1 := hSw.2.2.2.1; clear hSw; go_simp⟩) hHeld ?_
      simp only [Act.put, List.setIfInBounds_toArray, List.set_cons_zero, List.set_cons_succ]
      refine wpAnyH_take (i := 2) (oi := ⟨some 194, .call { callee := .builtin .len, args := #[.tmp 193], argTypes := #[30] }, _, _, _, none⟩) (v := .int .i64 2) rfl (by kernel_rfl) (by kernel_rfl) (by kernel_rfl) (fun _ _ _ h => h) (Or.inl ⟨by rfl, fun w _ => by go_simp⟩) hHeld ?_
      simp only [Act.put, List.setIfInBounds_toArray, List.set_cons_zero, List.set_cons_succ]
      refine wpAnyH_take (i := 3) (oi := ⟨some 195, .binOp .eql 3 (.tmp 194) (.const (.int .i64 2)) 3, _, _, _, none⟩) (v := .bool true) rfl (by kernel_rfl) (by kernel_rfl) (by kernel_rfl) (fun _ _ _ h => h) (Or.inl ⟨by rfl, fun w _ => by go_simp⟩) hHeld ?_
      simp only [Act.put, List.setIfInBounds_toArray, List.set_cons_zero, List.set_cons_succ]
      refine wpAnyH_take (i := 4) (oi := ⟨some 196, .move (.tmp 195), _, _, _, none⟩) (v := .bool true) rfl (by kernel_rfl) (by kernel_rfl) (by kernel_rfl) (fun _ _ _ h => h) (Or.inl ⟨by rfl, fun _ _ => rfl⟩) hHeld ?_
      simp only [Act.put, List.setIfInBounds_toArray, List.set_cons_zero, List.set_cons_succ]
      refine wpAnyH_take (i := 5) (oi := ⟨some 197, .fieldAddr 32 (.tmp 11) 3, _, _, _, _⟩) (v := .pointer (some ⟨v1.heap.size, 3, none⟩)) rfl (by kernel_rfl) (by kernel_rfl) (by kernel_rfl) (fun _ _ _ h => h) (Or.inl ⟨by rfl, fun w _ => by go_simp⟩) hHeld ?_
      simp only [Act.put, List.setIfInBounds_toArray, List.set_cons_zero, List.set_cons_succ]
      refine wpAnyH_take (i := 6) (oi := ⟨some 198, .load 30 (.tmp 197), _, _, _, _⟩) (v := .slice (some adr) 2 rc) rfl (by kernel_rfl) (by kernel_rfl) (by kernel_rfl) (fun _ _ _ h => h) (Or.inl ⟨by rfl, fun w hSw => by have e1 := hSw.2.2.2.1; clear hSw; go_simp⟩) hHeld ?_
      simp only [Act.put, List.setIfInBounds_toArray, List.set_cons_zero, List.set_cons_succ]
      refine wpAnyH_take (i := 7) (oi := ⟨some 199, .indexAddr 30 (.tmp 198) (.const (.int .i64 0)), _, _, _, _⟩) (v := .pointer (some adr)) rfl (by kernel_rfl) (by kernel_rfl) (by kernel_rfl) (fun _ _ _ h => h) (Or.inl ⟨by rfl, fun w _ => by go_simp⟩) hHeld ?_
      simp only [Act.put, List.setIfInBounds_toArray, List.set_cons_zero, List.set_cons_succ]
      refine wpAnyH_take (i := 8) (oi := ⟨some 200, .load 3 (.tmp 199), _, _, _, _⟩) (v := .int .i64 f) rfl (by kernel_rfl) (by kernel_rfl) (by kernel_rfl) (fun _ _ _ h => h) (Or.inl ⟨by rfl, fun w hSw => by have e1 := hSw.2.2.2.2.2.1; clear hSw; go_simp⟩) hHeld ?_
      simp only [Act.put, List.setIfInBounds_toArray, List.set_cons_zero, List.set_cons_succ]
      refine wpAnyH_take (i := 9) (oi := ⟨some 201, .fieldAddr 32 (.tmp 11) 1, _, _, _, _⟩) (v := .pointer (some ⟨v1.heap.size, 1, none⟩)) rfl (by kernel_rfl) (by kernel_rfl) (by kernel_rfl) (fun _ _ _ h => h) (Or.inl ⟨by rfl, fun w _ => by go_simp⟩) hHeld ?_
      simp only [Act.put, List.setIfInBounds_toArray, List.set_cons_zero, List.set_cons_succ]
      refine wpAnyH_take (i := 10) (oi := ⟨some 202, .load 3 (.tmp 201), _, _, _, _⟩) (v := .int .i64 xl) rfl (by kernel_rfl) (by kernel_rfl) (by kernel_rfl) (fun _ _ _ h => h) (Or.inl ⟨by rfl, fun w hSw => by have e1 := hSw.2.1; clear hSw; go_simp⟩) hHeld ?_
      simp only [Act.put, List.setIfInBounds_toArray, List.set_cons_zero, List.set_cons_succ]
      refine wpAnyH_take (i := 11) (oi := ⟨some 203, .binOp .eql 3 (.tmp 200) (.tmp 202) 3, _, _, _, _⟩) (v := .bool true) rfl (by kernel_rfl) (by kernel_rfl) (by kernel_rfl) (fun _ _ _ h => h) (Or.inl ⟨by rfl, fun w _ => by go_simp⟩) hHeld ?_
      simp only [Act.put, List.setIfInBounds_toArray, List.set_cons_zero, List.set_cons_succ]
      refine wpAnyH_take (i := 12) (oi := ⟨some 204, .pick (.tmp 196) (.tmp 203) (.const (.bool false)), _, _, _, none⟩) (v := .bool true) rfl (by kernel_rfl) (by kernel_rfl) (by kernel_rfl) (fun _ _ _ h => h) (Or.inl ⟨by rfl, fun w _ => by go_simp⟩) hHeld ?_
      simp only [Act.put, List.setIfInBounds_toArray, List.set_cons_zero, List.set_cons_succ]
      refine wpAnyH_done (by kernel_rfl) ?_ _
      clear hHeld
      have g0 := b3.cell (j := 0) (v := .slice A n c) rfl
      go_wp2_with (go_at_call 10; refine (HN.out _).mono ?_; rintro e w9 ⟨rfl, l9⟩)
      go_ret
      exact ⟨rfl, Later.trans_ lw l9⟩
end Go.Proofs.Ytiaejldknbicdaa
