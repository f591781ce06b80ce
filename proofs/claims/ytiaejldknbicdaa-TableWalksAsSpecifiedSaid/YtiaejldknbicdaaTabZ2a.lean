/-
  THE STATEMENT TableStaysInMemory: the walks that lead nowhere, and without a root.
-/
import Derived.Test.YtiaejldknbicdaaTabU
import Derived.Test.YtiaejldknbicdaaTabW2
import Derived.Deep.DeepCutAuto
namespace Go.Proofs.Ytiaejldknbicdaa
open Go.RowKit Go.ChangeShapes Go.WideShapes Go.ChangeAt

theorem walk_got (A : Option Addr) (n c : Nat) (root va acc : Int) (u : Bool) (b : Wm.Bs) (w0 : World) (hs : Sl w0 128 A n (U b)) (hb : Wm.isBs b) (h1 : 1 ≤ n ∧ n ≤ 64) (hr : 0 ≤ root ∧ root ≤ 4294967295) (hv : 0 ≤ va ∧ va ≤ 4294967295) (X : Tm.Wk) (hX : Tm.walk n b root va acc u = X) (ca : Int) (hc : (if X.ok then 0 else Tm.cause acc) = ca) (w : World) (hl : Later w0 w) :
    Calls Try.prog 11 #[.agg #[.slice A n c], .int .u32 root, .int .u32 va, .int .i64 acc, .bool u] w (GotX X.a X.l X.s X.r X.s.length X.r.length ca w) := by
  have h := twalk_any A n c root va acc u b w (hs.keep hl) hb h1.1 h1.2 hr.1 (by omega) hv.1 (by omega)
  rw [hX] at h
  refine h.mono fun e w' hh => ?_
  unfold GotW at hh
  rw [hc] at hh
  exact hh
theorem cause_nz (acc : Int) : (Tm.cause acc != 0) = true := by
  unfold Tm.cause
  split
  · rfl
  · split <;> rfl
theorem sl_first {w : World} {ad : Addr} {n : Nat} {v : Value} {l : List Value} (h : Sl w 1 (some ad) n (v :: l)) (hn : 0 < n) : w.cell? ad = some v := by
  obtain ⟨a, e, _, hc⟩ := h.2 hn
  cases e
  have := hc 0 v rfl
  rwa [show ad.add 0 = ad by cases ad; simp [Addr.add]] at this
theorem sl_second {w : World} {ad : Addr} {n : Nat} {v u : Value} {l : List Value} (h : Sl w 1 (some ad) n (v :: u :: l)) (hn : 0 < n) : w.cell? ⟨ad.block, ad.off + 1, none⟩ = some u := by
  obtain ⟨a, e, _, hc⟩ := h.2 hn
  cases e
  exact hc 1 u rfl
theorem sl_write {w : World} {ad : Addr} {a s v : Int} (h : Sl w 3 (some ad) 1 (Ws [(a, s, v)])) : w.cell? ad = some (.int .i64 a) ∧ w.cell? ⟨ad.block, ad.off + 1, none⟩ = some (.int .i64 s) ∧ w.cell? ⟨ad.block, ad.off + 2, none⟩ = some (.int .u32 v) := by
  obtain ⟨x, e, _, hc⟩ := h.2 (by omega)
  cases e
  have h0 := hc 0 (.int .i64 a) rfl
  rw [show ad.add 0 = ad by cases ad; simp [Addr.add]] at h0
  exact ⟨h0, hc 1 (.int .i64 s) rfl, hc 2 (.int .u32 v) rfl⟩
theorem walk_on (n : Nat) (root va acc : Int) (u : Bool) (b : Wm.Bs) (h1 : 1 ≤ n ∧ n ≤ 64) (hb : Wm.isBs b) (hr : 0 ≤ root ∧ root ≤ 4294967295) (hv : 0 ≤ va ∧ va ≤ 4294967295) (xa xl : Int) (r : List Int) (hX : Tm.walk n b root va acc u = ⟨true, xa, xl, [], r⟩) (g c : Nat) (w : World) (hd : Draft w g n b) :
    Calls Try.prog 11 #[.agg #[.slice (some ⟨g, 0, none⟩) n c], .int .u32 root, .int .u32 va, .int .i64 acc, .bool u] w (GotX xa xl [] r 0 r.length 0 w) := by
  have h := twalk_any (some ⟨g, 0, none⟩) n c root va acc u b w hd.sl hb h1.1 h1.2 hr.1 (by omega) hv.1 (by omega)
  rw [hX] at h
  refine h.mono fun e w' hh => ?_
  unfold GotW at hh
  exact hh
set_option maxRecDepth 100000 in
theorem stays_bad1 (A : Option Addr) (n c : Nat) (root va acc : Int) (us : Bool) (w : World) (h : ¬ (1 ≤ n ∧ n ≤ 64)) :
    Calls Try.prog 5 #[.agg #[.slice A n c], .int .u32 root, .int .u32 va, .int .i64 acc, .bool us] w fun e w' => e = .returned (.bool true) ∧ Later w w' := by
  have HV := Lib.hid fun w' => rvalid_any A n c w'
  rw [decide_eq_false h] at HV
  have HN := Lib.hid fun w' => sanity_any w'
  clear h
  go_enter Try.func5, Try.ntmps5
  go_wp2_with (first
    | (go_at_call 8; refine (HV.out _).mono ?_; rintro e w1 ⟨rfl, l1⟩)
    | (go_at_call 10; refine (HN.out _).mono ?_; rintro e w2 ⟨rfl, l2⟩))
  go_ret
  exact ⟨rfl, Later.trans_ (Later.trans_ (later1 _ _) l1) l2⟩
set_option maxRecDepth 100000 in
theorem stays_bad2 (A : Option Addr) (n c : Nat) (root va acc : Int) (us : Bool) (w : World) (h1 : 1 ≤ n ∧ n ≤ 64) (h : ¬ (1 ≤ acc ∧ acc ≤ 4)) :
    Calls Try.prog 5 #[.agg #[.slice A n c], .int .u32 root, .int .u32 va, .int .i64 acc, .bool us] w fun e w' => e = .returned (.bool true) ∧ Later w w' := by
  have HV := Lib.hid fun w' => rvalid_any A n c w'
  rw [decide_eq_true h1] at HV
  have HA := Lib.hid fun w' => access_any acc w'
  rw [decide_eq_false h] at HA
  have HN := Lib.hid fun w' => sanity_any w'
  clear h h1
  go_enter Try.func5, Try.ntmps5
  go_wp2_with (first
    | (go_at_call 8; refine (HV.out _).mono ?_; rintro e w1 ⟨rfl, l1⟩)
    | (go_at_call 9; refine (HA.out _).mono ?_; rintro e w3 ⟨rfl, rfl⟩)
    | (go_at_call 10; refine (HN.out _).mono ?_; rintro e w2 ⟨rfl, l2⟩))
  go_ret
  exact ⟨rfl, Later.trans_ (Later.trans_ (later1 _ _) l1) l2⟩
set_option maxRecDepth 100000 in
set_option maxHeartbeats 2000000 in
theorem stays_no (A : Option Addr) (n c : Nat) (root va acc : Int) (us : Bool) (b : Wm.Bs) (w : World) (hs : Sl w 128 A n (U b)) (hb : Wm.isBs b) (h1 : 1 ≤ n ∧ n ≤ 64) (hr : 0 ≤ root ∧ root ≤ 4294967295) (hv : 0 ≤ va ∧ va ≤ 4294967295) (hacc : 1 ≤ acc ∧ acc ≤ 4) (hno : (Tm.walk n b root va acc us).ok = false) :
    Calls Try.prog 5 #[.agg #[.slice A n c], .int .u32 root, .int .u32 va, .int .i64 acc, .bool us] w fun e w' => e = .returned (.bool true) ∧ Later w w' := by
  have HV := Lib.hid fun w' => rvalid_any A n c w'
  rw [decide_eq_true h1] at HV
  have HA := Lib.hid fun w' => access_any acc w'
  rw [decide_eq_true hacc] at HA
  have HN := Lib.hid fun w' => sanity_any w'
  obtain ⟨x1, x2, x3, x4⟩ := Tm.leads_not hno
  obtain ⟨X, hX⟩ : ∃ X, Tm.walk n b root va acc us = X := ⟨_, rfl⟩
  rw [hX] at x1 x2 x3 x4 hno
  obtain ⟨ca, hca⟩ : ∃ ca, (if X.ok then 0 else Tm.cause acc) = ca := ⟨_, rfl⟩
  have hnz : (ca != 0) = true := by rw [← hca, hno]; exact cause_nz acc
  have KW := Lib.hid fun w' hl => walk_got A n c root va acc us b w hs hb h1 hr hv X hX ca hca w' hl
  rw [x1, x2, x3] at KW
  rw [show ([] : List (Int × Int × Int)).length = 0 from rfl] at KW
  obtain ⟨R, hR0⟩ : ∃ R, R = X.r.length := ⟨_, rfl⟩
  rw [← hR0] at KW x4
  have hR2 : (R : Int) ≤ 2 := by omega
  clear hX hca hno x1 x2 x3 x4 hR0 hs hb h1 hr hv hacc
  go_enter Try.func5, Try.ntmps5
  go_upto_region 4 with (first
    | (go_at_call 8; refine (HV.out _).mono ?_; rintro e w1 ⟨rfl, l1⟩; have b3 := (Blk.new w 24 #[.slice A n c] [.slice A n c] rfl).keep l1; have lw := Later.trans_ (later1 w (.cells #[.slice A n c] 24)) l1; have c3 := b3.cell (j := 0) (v := .slice A n c) rfl)
    | (go_at_call 9; refine (HA.out _).mono ?_; rintro e w3 ⟨rfl, rfl⟩)
    | (go_at_call 11; (with_reducible refine (KW.out _ lw).mono ?_); rintro e v1 ⟨AS, AR, sc, rc, rfl, hS, hR, z1⟩; clear c3; replace b3 := b3.keep z1; have hz1 := b3.lt; replace lw := Later.trans_ lw z1; have p1 := Blk.new v1 32 #[.int .i64 0, .int .i64 0, .slice AS 0 sc, .slice AR R rc] [.int .i64 0, .int .i64 0, .slice AS 0 sc, .slice AR R rc] rfl; have q1 := later1 v1 (.cells #[.int .i64 0, .int .i64 0, .slice AS 0 sc, .slice AR R rc] 32); replace b3 := b3.keep q1; replace hS := hS.keep q1; replace hR := hR.keep q1; replace lw := Later.trans_ lw q1))
  obtain ⟨u0, hu0⟩ : ∃ u0, u0 = v1.alloc (.cells #[.int .i64 0, .int .i64 0, .slice AS 0 sc, .slice AR R rc] 32) := ⟨_, rfl⟩
  rw [← hu0] at b3 p1 hS hR lw ⊢
  clear hu0 q1
  go_wp2_with (go_at_call 10; refine (HN.out _).mono ?_; rintro e w9 ⟨rfl, l9⟩; replace b3 := b3.keep l9; replace p1 := p1.keep l9; replace lw := Later.trans_ lw l9; have f0 := p1.cell (j := 0) (v := .int .i64 0) rfl; have f1 := p1.cell (j := 1) (v := .int .i64 0) rfl; have f2 := p1.cell (j := 2) (v := .slice AS 0 sc) rfl; have f3 := p1.cell (j := 3) (v := .slice AR R rc) rfl)
  go_ret
  exact ⟨rfl, lw⟩
set_option maxRecDepth 100000 in
set_option maxHeartbeats 4000000 in
theorem stays_zero (A : Option Addr) (n c : Nat) (va acc : Int) (us : Bool) (b : Wm.Bs) (w : World) (hs : Sl w 128 A n (U b)) (hb : Wm.isBs b) (h1 : 1 ≤ n ∧ n ≤ 64) (hv : 0 ≤ va ∧ va ≤ 4294967295) (hacc : 1 ≤ acc ∧ acc ≤ 4) (hX : Tm.walk n b 0 va acc us = ⟨true, va, -1, [], []⟩) (hlt : va < (n : Int) * 128) :
    Calls Try.prog 5 #[.agg #[.slice A n c], .int .u32 0, .int .u32 va, .int .i64 acc, .bool us] w fun e w' => e = .returned (.bool true) ∧ Later w w' := by
  have HV := Lib.hid fun w' => rvalid_any A n c w'
  rw [decide_eq_true h1] at HV
  have HA := Lib.hid fun w' => access_any acc w'
  rw [decide_eq_true hacc] at HA
  have HN := Lib.hid fun w' => sanity_any w'
  have HS := Lib.hid fun w' => size_any A n c w' h1.2
  have KW := Lib.hid fun w' hl => walk_got A n c 0 va acc us b w hs hb h1 ⟨by omega, by omega⟩ hv _ hX 0 rfl w' hl
  have KW : Hid (∀ w', Later w w' → Calls Try.prog 11 #[.agg #[.slice A n c], .int .u32 0, .int .u32 va, .int .i64 acc, .bool us] w' (GotX va (-1) [] [] 0 0 0 w')) := KW
  obtain ⟨N, hN⟩ : ∃ N : Int, N = ((n * 128 : Nat) : Int) := ⟨_, rfl⟩
  rw [← hN] at HS
  have d1 : decide (va < 0) = false := decide_eq_false (by omega)
  have d2 : decide (N ≤ va) = false := decide_eq_false (by omega)
  obtain ⟨M, hM⟩ : ∃ M, va.tmod 128 = M := ⟨_, rfl⟩
  have d5 : IntKind.i64.wrap va = va := by rw [IntKind.wrap_i64]; omega
  clear hX hlt hN hs hb h1 hv hacc
  go_enter Try.func5, Try.ntmps5
  go_upto_region 4 with (first
    | (go_at_call 8; refine (HV.out _).mono ?_; rintro e w1 ⟨rfl, l1⟩; have b3 := (Blk.new w 24 #[.slice A n c] [.slice A n c] rfl).keep l1; have lw := Later.trans_ (later1 w (.cells #[.slice A n c] 24)) l1; have c3 := b3.cell (j := 0) (v := .slice A n c) rfl)
    | (go_at_call 9; refine (HA.out _).mono ?_; rintro e w3 ⟨rfl, rfl⟩)
    | (go_at_call 11; (with_reducible refine (KW.out _ lw).mono ?_); rintro e v1 ⟨AS, AR, sc, rc, rfl, hS, hR, z1⟩; clear c3; replace b3 := b3.keep z1; have hz1 := b3.lt; replace lw := Later.trans_ lw z1; have p1 := Blk.new v1 32 #[.int .i64 va, .int .i64 (-1), .slice AS 0 sc, .slice AR 0 rc] [.int .i64 va, .int .i64 (-1), .slice AS 0 sc, .slice AR 0 rc] rfl; have q1 := later1 v1 (.cells #[.int .i64 va, .int .i64 (-1), .slice AS 0 sc, .slice AR 0 rc] 32); replace b3 := b3.keep q1; replace hS := hS.keep q1; replace hR := hR.keep q1; replace lw := Later.trans_ lw q1))
  obtain ⟨u0, hu0⟩ : ∃ u0, u0 = v1.alloc (.cells #[.int .i64 va, .int .i64 (-1), .slice AS 0 sc, .slice AR 0 rc] 32) := ⟨_, rfl⟩
  rw [← hu0] at b3 p1 hS hR lw ⊢
  clear hu0 q1
  go_wp2
  replace b3 := b3.drew
  replace p1 := p1.drew
  replace hS := hS.drew
  replace hR := hR.drew
  replace lw := lw.drew
  refine wp_region_held_drew (S := fun w' => w'.cell? ⟨v1.heap.size, 0, none⟩ = some (.int .i64 va) ∧ w'.cell? ⟨v1.heap.size, 1, none⟩ = some (.int .i64 (-1)) ∧ w'.cell? ⟨v1.heap.size, 2, none⟩ = some (.slice AS 0 sc) ∧ w'.cell? ⟨v1.heap.size, 3, none⟩ = some (.slice AR 0 rc) ∧ w'.cell? ⟨w.heap.size, 0, none⟩ = some (.slice A n c)) (by kernel_rfl) ⟨p1.cell (j := 0) rfl, p1.cell (j := 1) rfl, p1.cell (j := 2) rfl, p1.cell (j := 3) rfl, b3.cell (j := 0) rfl⟩ (fun hHeld => ?_)
  refine wpAnyH_take (i := 0) (oi := ⟨some 64, .fieldAddr 32 (.tmp 11) 0, _, _, _, none⟩) (v := .pointer (some ⟨v1.heap.size, 0, none⟩)) rfl (by kernel_rfl) (by kernel_rfl) (by kernel_rfl) (fun _ _ _ h => h) (Or.inl ⟨by rfl, fun w _ => by go_simp⟩) hHeld ?_
  simp only [Act.put, List.setIfInBounds_toArray, List.set_cons_zero, List.set_cons_succ]
  refine wpAnyH_take (i := 1) (oi := ⟨some 65, .load 3 (.tmp 64), _, _, _, none⟩) (v := .int .i64 va) rfl (by kernel_rfl) (by kernel_rfl) (by kernel_rfl) (fun _ _ _ h => h) (Or.inl ⟨by rfl, fun w hSw => by have e1 := hSw.1; clear hSw; go_simp⟩) hHeld ?_
  simp only [Act.put, List.setIfInBounds_toArray, List.set_cons_zero, List.set_cons_succ]
  refine wpAnyH_take (i := 2) (oi := ⟨some 66, .binOp .lss 3 (.tmp 65) (.const (.int .i64 0)) 3, _, _, _, none⟩) (v := .bool false) rfl (by kernel_rfl) (by kernel_rfl) (by kernel_rfl) (fun _ _ _ h => h) (Or.inl ⟨by rfl, fun w _ => by go_simp⟩) hHeld ?_
  simp only [Act.put, List.setIfInBounds_toArray, List.set_cons_zero, List.set_cons_succ]
  refine wpAnyH_take (i := 3) (oi := ⟨some 67, .move (.tmp 66), _, _, _, none⟩) (v := .bool false) rfl (by kernel_rfl) (by kernel_rfl) (by kernel_rfl) (fun _ _ _ h => h) (Or.inl ⟨by rfl, fun _ _ => rfl⟩) hHeld ?_
  simp only [Act.put, List.setIfInBounds_toArray, List.set_cons_zero, List.set_cons_succ]
  refine wpAnyH_take (i := 4) (oi := ⟨some 68, .fieldAddr 32 (.tmp 11) 0, _, _, _, _⟩) (v := .pointer (some ⟨v1.heap.size, 0, none⟩)) rfl (by kernel_rfl) (by kernel_rfl) (by kernel_rfl) (fun _ _ _ h => h) (Or.inl ⟨by rfl, fun w _ => by go_simp⟩) hHeld ?_
  simp only [Act.put, List.setIfInBounds_toArray, List.set_cons_zero, List.set_cons_succ]
  refine wpAnyH_take (i := 5) (oi := ⟨some 69, .load 3 (.tmp 68), _, _, _, _⟩) (v := .int .i64 va) rfl (by kernel_rfl) (by kernel_rfl) (by kernel_rfl) (fun _ _ _ h => h) (Or.inl ⟨by rfl, fun w hSw => by have e1 := hSw.1; clear hSw; go_simp⟩) hHeld ?_
  simp only [Act.put, List.setIfInBounds_toArray, List.set_cons_zero, List.set_cons_succ]
  refine wpAnyH_take (i := 6) (oi := ⟨some 70, .load 24 (.tmp 5), _, _, _, _⟩) (v := .agg #[.slice A n c]) rfl (by kernel_rfl) (by kernel_rfl) (by kernel_rfl) (fun _ _ _ h => h) (Or.inl ⟨by rfl, fun w hSw => by have e1 := hSw.2.2.2.2; clear hSw; go_simp⟩) hHeld ?_
  simp only [Act.put, List.setIfInBounds_toArray, List.set_cons_zero, List.set_cons_succ]
  refine wpAnyH_ready (rs := [7]) (by kernel_rfl) (by simp) (AllReadyH.cons (o := ⟨some 71, .call { callee := .value (.func 24), args := #[.tmp 70], argTypes := #[24] }, _, _, _, _⟩) rfl (fun K' hK => ?_) AllReadyH.nil)
  go_simp
  refine (HS.out _).mono ?_
  rintro e v2 ⟨rfl, l2⟩
  replace b3 := b3.keep l2
  replace p1 := p1.keep l2
  replace hS := hS.keep l2
  replace hR := hR.keep l2
  replace lw := Later.trans_ lw l2
  refine hK.out _ _ ⟨p1.cell (j := 0) rfl, p1.cell (j := 1) rfl, p1.cell (j := 2) rfl, p1.cell (j := 3) rfl, b3.cell (j := 0) rfl⟩ (fun hHeld => ?_)
  clear hK K'
  try simp only [Act.put, List.setIfInBounds_toArray, List.set_cons_zero, List.set_cons_succ]
  refine wpAnyH_take (i := 8) (oi := ⟨some 72, .binOp .geq 3 (.tmp 69) (.tmp 71) 3, _, _, _, _⟩) (v := .bool false) rfl (by kernel_rfl) (by kernel_rfl) (by kernel_rfl) (fun _ _ _ h => h) (Or.inl ⟨by rfl, fun w _ => by go_simp⟩) hHeld ?_
  simp only [Act.put, List.setIfInBounds_toArray, List.set_cons_zero, List.set_cons_succ]
  refine wpAnyH_take (i := 9) (oi := ⟨some 73, .pick (.tmp 67) (.const (.bool true)) (.tmp 72), _, _, _, none⟩) (v := .bool false) rfl (by kernel_rfl) (by kernel_rfl) (by kernel_rfl) (fun _ _ _ h => h) (Or.inl ⟨by rfl, fun w _ => by go_simp⟩) hHeld ?_
  simp only [Act.put, List.setIfInBounds_toArray, List.set_cons_zero, List.set_cons_succ]
  refine wpAnyH_take (i := 10) (oi := ⟨some 74, .move (.tmp 73), _, _, _, none⟩) (v := .bool false) rfl (by kernel_rfl) (by kernel_rfl) (by kernel_rfl) (fun _ _ _ h => h) (Or.inl ⟨by rfl, fun _ _ => rfl⟩) hHeld ?_
  simp only [Act.put, List.setIfInBounds_toArray, List.set_cons_zero, List.set_cons_succ]
  refine wpAnyH_take (i := 11) (oi := ⟨some 75, .fieldAddr 32 (.tmp 11) 0, _, _, _, _⟩) (v := .pointer (some ⟨v1.heap.size, 0, none⟩)) rfl (by kernel_rfl) (by kernel_rfl) (by kernel_rfl) (fun _ _ _ h => h) (Or.inl ⟨by rfl, fun w _ => by go_simp⟩) hHeld ?_
  simp only [Act.put, List.setIfInBounds_toArray, List.set_cons_zero, List.set_cons_succ]
  refine wpAnyH_take (i := 12) (oi := ⟨some 76, .load 3 (.tmp 75), _, _, _, _⟩) (v := .int .i64 va) rfl (by kernel_rfl) (by kernel_rfl) (by kernel_rfl) (fun _ _ _ h => h) (Or.inl ⟨by rfl, fun w hSw => by have e1 := hSw.1; clear hSw; go_simp⟩) hHeld ?_
  simp only [Act.put, List.setIfInBounds_toArray, List.set_cons_zero, List.set_cons_succ]
  refine wpAnyH_take (i := 13) (oi := ⟨some 77, .binOp .rem 3 (.tmp 76) (.const (.int .i64 128)) 3, _, _, _, _⟩) (v := .int .i64 M) rfl (by kernel_rfl) (by kernel_rfl) (by kernel_rfl) (fun _ _ _ h => h) (Or.inl ⟨by rfl, fun w _ => by go_simp⟩) hHeld ?_
  simp only [Act.put, List.setIfInBounds_toArray, List.set_cons_zero, List.set_cons_succ]
  refine wpAnyH_take (i := 14) (oi := ⟨some 78, .move (.tmp 2), _, _, _, _⟩) (v := .int .u32 va) rfl (by kernel_rfl) (by kernel_rfl) (by kernel_rfl) (fun _ _ _ h => h) (Or.inl ⟨by rfl, fun _ _ => rfl⟩) hHeld ?_
  simp only [Act.put, List.setIfInBounds_toArray, List.set_cons_zero, List.set_cons_succ]
  refine wpAnyH_take (i := 15) (oi := ⟨some 79, .convert 25 3 (.tmp 78), _, _, _, _⟩) (v := .int .i64 va) rfl (by kernel_rfl) (by kernel_rfl) (by kernel_rfl) (fun _ _ _ h => h) (Or.inl ⟨by rfl, fun w _ => by go_simp⟩) hHeld ?_
  simp only [Act.put, List.setIfInBounds_toArray, List.set_cons_zero, List.set_cons_succ]
  refine wpAnyH_take (i := 16) (oi := ⟨some 80, .binOp .rem 3 (.tmp 79) (.const (.int .i64 128)) 3, _, _, _, _⟩) (v := .int .i64 M) rfl (by kernel_rfl) (by kernel_rfl) (by kernel_rfl) (fun _ _ _ h => h) (Or.inl ⟨by rfl, fun w _ => by go_simp⟩) hHeld ?_
  simp only [Act.put, List.setIfInBounds_toArray, List.set_cons_zero, List.set_cons_succ]
  refine wpAnyH_take (i := 17) (oi := ⟨some 81, .binOp .neq 3 (.tmp 77) (.tmp 80) 3, _, _, _, _⟩) (v := .bool false) rfl (by kernel_rfl) (by kernel_rfl) (by kernel_rfl) (fun _ _ _ h => h) (Or.inl ⟨by rfl, fun w _ => by go_simp⟩) hHeld ?_
  simp only [Act.put, List.setIfInBounds_toArray, List.set_cons_zero, List.set_cons_succ]
  refine wpAnyH_take (i := 18) (oi := ⟨some 82, .pick (.tmp 74) (.const (.bool true)) (.tmp 81), _, _, _, none⟩) (v := .bool false) rfl (by kernel_rfl) (by kernel_rfl) (by kernel_rfl) (fun _ _ _ h => h) (Or.inl ⟨by rfl, fun w _ => by go_simp⟩) hHeld ?_
  simp only [Act.put, List.setIfInBounds_toArray, List.set_cons_zero, List.set_cons_succ]
  refine wpAnyH_take (i := 19) (oi := ⟨some 83, .move (.tmp 82), _, _, _, none⟩) (v := .bool false) rfl (by kernel_rfl) (by kernel_rfl) (by kernel_rfl) (fun _ _ _ h => h) (Or.inl ⟨by rfl, fun _ _ => rfl⟩) hHeld ?_
  simp only [Act.put, List.setIfInBounds_toArray, List.set_cons_zero, List.set_cons_succ]
  refine wpAnyH_take (i := 20) (oi := ⟨some 84, .fieldAddr 32 (.tmp 11) 2, _, _, _, _⟩) (v := .pointer (some ⟨v1.heap.size, 2, none⟩)) rfl (by kernel_rfl) (by kernel_rfl) (by kernel_rfl) (fun _ _ _ h => h) (Or.inl ⟨by rfl, fun w _ => by go_simp⟩) hHeld ?_
  simp only [Act.put, List.setIfInBounds_toArray, List.set_cons_zero, List.set_cons_succ]
  refine wpAnyH_take (i := 21) (oi := ⟨some 85, .load 29 (.tmp 84), _, _, _, _⟩) (v := .slice AS 0 sc) rfl (by kernel_rfl) (by kernel_rfl) (by kernel_rfl) (fun _ _ _ h => h) (Or.inl ⟨by rfl, fun w hSw => by have e1 := hSw.2.2.1; clear hSw; go_simp⟩) hHeld ?_
  simp only [Act.put, List.setIfInBounds_toArray, List.set_cons_zero, List.set_cons_succ]
  refine wpAnyH_take (i := 22) (oi := ⟨some 86, .call { callee := .builtin .len, args := #[.tmp 85], argTypes := #[29] }, _, _, _, _⟩) (v := .int .i64 0) rfl (by kernel_rfl) (by kernel_rfl) (by kernel_rfl) (fun _ _ _ h => h) (Or.inl ⟨by rfl, fun w _ => by go_simp⟩) hHeld ?_
  simp only [Act.put, List.setIfInBounds_toArray, List.set_cons_zero, List.set_cons_succ]
  refine wpAnyH_take (i := 23) (oi := ⟨some 87, .binOp .gtr 3 (.tmp 86) (.const (.int .i64 1)) 3, _, _, _, _⟩) (v := .bool false) rfl (by kernel_rfl) (by kernel_rfl) (by kernel_rfl) (fun _ _ _ h => h) (Or.inl ⟨by rfl, fun w _ => by go_simp⟩) hHeld ?_
  simp only [Act.put, List.setIfInBounds_toArray, List.set_cons_zero, List.set_cons_succ]
  refine wpAnyH_take (i := 24) (oi := ⟨some 88, .pick (.tmp 83) (.const (.bool true)) (.tmp 87), _, _, _, none⟩) (v := .bool false) rfl (by kernel_rfl) (by kernel_rfl) (by kernel_rfl) (fun _ _ _ h => h) (Or.inl ⟨by rfl, fun w _ => by go_simp⟩) hHeld ?_
  simp only [Act.put, List.setIfInBounds_toArray, List.set_cons_zero, List.set_cons_succ]
  refine wpAnyH_take (i := 25) (oi := ⟨some 89, .move (.tmp 88), _, _, _, none⟩) (v := .bool false) rfl (by kernel_rfl) (by kernel_rfl) (by kernel_rfl) (fun _ _ _ h => h) (Or.inl ⟨by rfl, fun _ _ => rfl⟩) hHeld ?_
  simp only [Act.put, List.setIfInBounds_toArray, List.set_cons_zero, List.set_cons_succ]
  refine wpAnyH_take (i := 26) (oi := ⟨some 90, .fieldAddr 32 (.tmp 11) 3, _, _, _, _⟩) (v := .pointer (some ⟨v1.heap.size, 3, none⟩)) rfl (by kernel_rfl) (by kernel_rfl) (by kernel_rfl) (fun _ _ _ h => h) (Or.inl ⟨by rfl, fun w _ => by go_simp⟩) hHeld ?_
  simp only [Act.put, List.setIfInBounds_toArray, List.set_cons_zero, List.set_cons_succ]
  refine wpAnyH_take (i := 27) (oi := ⟨some 91, .load 30 (.tmp 90), _, _, _, _⟩) (v := .slice AR 0 rc) rfl (by kernel_rfl) (by kernel_rfl) (by kernel_rfl) (fun _ _ _ h => h) (Or.inl ⟨by rfl, fun w hSw => by have e1 := hSw.2.2.2.1; clear hSw; go_simp⟩) hHeld ?_
  simp only [Act.put, List.setIfInBounds_toArray, List.set_cons_zero, List.set_cons_succ]
  refine wpAnyH_take (i := 28) (oi := ⟨some 92, .call { callee := .builtin .len, args := #[.tmp 91], argTypes := #[30] }, _, _, _, _⟩) (v := .int .i64 0) rfl (by kernel_rfl) (by kernel_rfl) (by kernel_rfl) (fun _ _ _ h => h) (Or.inl ⟨by rfl, fun w _ => by go_simp⟩) hHeld ?_
  simp only [Act.put, List.setIfInBounds_toArray, List.set_cons_zero, List.set_cons_succ]
  refine wpAnyH_take (i := 29) (oi := ⟨some 93, .binOp .gtr 3 (.tmp 92) (.const (.int .i64 2)) 3, _, _, _, _⟩) (v := .bool false) rfl (by kernel_rfl) (by kernel_rfl) (by kernel_rfl) (fun _ _ _ h => h) (Or.inl ⟨by rfl, fun w _ => by go_simp⟩) hHeld ?_
  simp only [Act.put, List.setIfInBounds_toArray, List.set_cons_zero, List.set_cons_succ]
  refine wpAnyH_take (i := 30) (oi := ⟨some 94, .pick (.tmp 89) (.const (.bool true)) (.tmp 93), _, _, _, none⟩) (v := .bool false) rfl (by kernel_rfl) (by kernel_rfl) (by kernel_rfl) (fun _ _ _ h => h) (Or.inl ⟨by rfl, fun w _ => by go_simp⟩) hHeld ?_
  simp only [Act.put, List.setIfInBounds_toArray, List.set_cons_zero, List.set_cons_succ]
  refine wpAnyH_take (i := 31) (oi := ⟨some 95, .move (.tmp 94), _, _, _, none⟩) (v := .bool false) rfl (by kernel_rfl) (by kernel_rfl) (by kernel_rfl) (fun _ _ _ h => h) (Or.inl ⟨by rfl, fun _ _ => rfl⟩) hHeld ?_
  simp only [Act.put, List.setIfInBounds_toArray, List.set_cons_zero, List.set_cons_succ]
  refine wpAnyH_take (i := 32) (oi := ⟨some 96, .fieldAddr 32 (.tmp 11) 1, _, _, _, _⟩) (v := .pointer (some ⟨v1.heap.size, 1, none⟩)) rfl (by kernel_rfl) (by kernel_rfl) (by kernel_rfl) (fun _ _ _ h => h) (Or.inl ⟨by rfl, fun w _ => by go_simp⟩) hHeld ?_
  simp only [Act.put, List.setIfInBounds_toArray, List.set_cons_zero, List.set_cons_succ]
  refine wpAnyH_take (i := 33) (oi := ⟨some 97, .load 3 (.tmp 96), _, _, _, _⟩) (v := .int .i64 (-1)) rfl (by kernel_rfl) (by kernel_rfl) (by kernel_rfl) (fun _ _ _ h => h) (Or.inl ⟨by rfl, fun w hSw => by have e1 := hSw.2.1; clear hSw; go_simp⟩) hHeld ?_
  simp only [Act.put, List.setIfInBounds_toArray, List.set_cons_zero, List.set_cons_succ]
  refine wpAnyH_take (i := 34) (oi := ⟨some 98, .binOp .lss 3 (.tmp 97) (.const (.int .i64 0)) 3, _, _, _, _⟩) (v := .bool true) rfl (by kernel_rfl) (by kernel_rfl) (by kernel_rfl) (fun _ _ _ h => h) (Or.inl ⟨by rfl, fun w _ => by go_simp⟩) hHeld ?_
  simp only [Act.put, List.setIfInBounds_toArray, List.set_cons_zero, List.set_cons_succ]
  refine wpAnyH_take (i := 35) (oi := ⟨some 99, .move (.tmp 1), _, _, _, _⟩) (v := .int .u32 0) rfl (by kernel_rfl) (by kernel_rfl) (by kernel_rfl) (fun _ _ _ h => h) (Or.inl ⟨by rfl, fun _ _ => rfl⟩) hHeld ?_
  simp only [Act.put, List.setIfInBounds_toArray, List.set_cons_zero, List.set_cons_succ]
  refine wpAnyH_take (i := 36) (oi := ⟨some 100, .binOp .eql 25 (.tmp 99) (.const (.int .u32 0)) 25, _, _, _, _⟩) (v := .bool true) rfl (by kernel_rfl) (by kernel_rfl) (by kernel_rfl) (fun _ _ _ h => h) (Or.inl ⟨by rfl, fun w _ => by go_simp⟩) hHeld ?_
  simp only [Act.put, List.setIfInBounds_toArray, List.set_cons_zero, List.set_cons_succ]
  refine wpAnyH_take (i := 37) (oi := ⟨some 101, .binOp .neq 4 (.tmp 98) (.tmp 100) 4, _, _, _, _⟩) (v := .bool false) rfl (by kernel_rfl) (by kernel_rfl) (by kernel_rfl) (fun _ _ _ h => h) (Or.inl ⟨by rfl, fun w _ => by go_simp⟩) hHeld ?_
  simp only [Act.put, List.setIfInBounds_toArray, List.set_cons_zero, List.set_cons_succ]
  refine wpAnyH_take (i := 38) (oi := ⟨some 102, .pick (.tmp 95) (.const (.bool true)) (.tmp 101), _, _, _, none⟩) (v := .bool false) rfl (by kernel_rfl) (by kernel_rfl) (by kernel_rfl) (fun _ _ _ h => h) (Or.inl ⟨by rfl, fun w _ => by go_simp⟩) hHeld ?_
  simp only [Act.put, List.setIfInBounds_toArray, List.set_cons_zero, List.set_cons_succ]
  refine wpAnyH_done (by kernel_rfl) ?_ _
  clear hHeld
  go_wp2_with (go_at_call 10; refine (HN.out _).mono ?_; rintro e w9 ⟨rfl, l9⟩; replace b3 := b3.keep l9; replace p1 := p1.keep l9; replace lw := Later.trans_ lw l9; have f0 := p1.cell (j := 0) (v := .int .i64 va) rfl; have f1 := p1.cell (j := 1) (v := .int .i64 (-1)) rfl; have f2 := p1.cell (j := 2) (v := .slice AS 0 sc) rfl; have f3 := p1.cell (j := 3) (v := .slice AR 0 rc) rfl)
  go_ret
  exact ⟨rfl, lw⟩
end Go.Proofs.Ytiaejldknbicdaa
