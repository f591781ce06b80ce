/-
  THE WALK OF Walk: the four ways.
-/
import Derived.Test.YtempcbdlaoblhabTabK
namespace Go.Proofs.Ytempcbdlaoblhab
open Go.RowKit Go.ChangeShapes Go.WideShapes Go.ChangeAt

theorem results_ci {fn : Func} {p q : Tmp} (h : fn.results = #[.cell p 32, .cell q 3]) (tmps : Array Value) (w : World) (g k : Nat) (cs : List Value) (v : Int)
    (hp : tmps.getD p undef = .pointer (some ⟨g, 0, none⟩)) (hq : tmps.getD q undef = .pointer (some ⟨k, 0, none⟩)) (hg : Blk w g 32 cs) (hk : Blk w k 3 [.int .i64 v])
    (hi : (Try.prog.info? 32).map (·.size) = some cs.length) :
    (results fn tmps).run Try.prog w = .ok (.tuple #[.agg cs.toArray, .int .i64 v]) w := by
  have hp' : tmps[p]?.getD undef = .pointer (some ⟨g, 0, none⟩) := by simpa using hp
  have hq' : tmps[q]?.getD undef = .pointer (some ⟨k, 0, none⟩) := by simpa using hq
  have hc := hk.cell (j := 0) (v := .int .i64 v) rfl
  simp [results, h, hp', hq', asAddr, run_loadVar_row w g 32 32 cs.toArray (0, 0) _ hg Try.underlying32 rfl (by rw [List.size_toArray]; exact hi)]
  simp [go_sem, hc]
/-- .. where it leads somewhere. -/
def GotOk (x : Tm.Wk) (tB : Nat) (w0 wc : World) (e : Ending) (w' : World) : Prop :=
  ∃ AS AR sc rc, e = .returned (.agg #[.int .i64 x.a, .int .i64 x.l, .slice AS x.s.length sc, .slice AR x.r.length rc]) ∧ Sl w' 3 AS x.s.length (Ws x.s) ∧ Sl w' 1 AR x.r.length (N64 x.r) ∧ (∀ ad, AS = some ad → wc.heap.size ≤ ad.block) ∧ (∀ ad, AR = some ad → wc.heap.size ≤ ad.block) ∧ Later w0 w' ∧ Kept wc.heap.size tB wc w'
/-- .. where it faults. -/
def GotNo (x : Tm.Wk) (base tB : Nat) (A : Option Addr) (n c : Nat) (w0 wc : World) (e : Ending) (w' : World) : Prop :=
  e = .panicked Flt ∧ (∃ lo, wc.heap.size ≤ lo ∧ Wkr w' base lo tB A n c x.r) ∧ Later w0 w' ∧ Kept wc.heap.size tB wc w'
theorem GotT.yes {x : Tm.Wk} {base tB : Nat} {A : Option Addr} {n c : Nat} {w0 wc w' : World} {e : Ending} (h : GotT x base tB A n c w0 wc e w') (ho : x.ok = true) : GotOk x tB w0 wc e w' := by
  unfold GotT at h
  rw [if_pos ho] at h
  exact h
theorem GotT.no {x : Tm.Wk} {base tB : Nat} {A : Option Addr} {n c : Nat} {w0 wc w' : World} {e : Ending} (h : GotT x base tB A n c w0 wc e w') (ho : x.ok = false) : GotNo x base tB A n c w0 wc e w' := by
  unfold GotT at h
  rw [if_neg (by rw [ho]; decide)] at h
  exact h
set_option maxRecDepth 100000 in
set_option maxHeartbeats 4000000 in
theorem twalk_any (A : Option Addr) (n c : Nat) (root va acc : Int) (u : Bool) (b : Wm.Bs) (w : World) (hs : Sl w 128 A n (U b)) (hb : Wm.isBs b) (hn1 : 1 ≤ n) (hn : n ≤ 64) (hr0 : 0 ≤ root) (hr : root < 4294967296) (hv0 : 0 ≤ va) (hv : va < 4294967296) :
    Calls Try.prog 11 #[.agg #[.slice A n c], .int .u32 root, .int .u32 va, .int .i64 acc, .bool u] w (GotW (Tm.walk n b root va acc u) acc w) := by
  have hmf : ∀ (fn : Fn) (first cap : Array Value) (w : World), (Instr.makeFunc fn first cap).run Try.prog w = .ok (.func fn first cap) w := fun _ _ _ _ => rfl
  obtain ⟨W5, hW5⟩ : ∃ W5, W5 = (((((w.alloc (.cells #[.slice A n c] 24)).alloc (.cells #[.int .i64 acc] 3)).alloc (.cells #[.int .i64 0, .int .i64 0, .slice none 0 0, .slice none 0 0] 32)).alloc (.cells #[.int .i64 0] 3)).alloc (.cells #[.slice A n c, .slice none 0 0] 68)) := ⟨_, rfl⟩
  have l5 : Later w W5 := by rw [hW5]; exact ((((later1 w _).alloc (by simp) _).alloc (by simp; omega) _).alloc (by simp; omega) _).alloc (by simp; omega) _
  have z5 : W5.heap.size = w.heap.size + 5 := by rw [hW5]; simp
  have bA : Blk W5 (w.heap.size + 1) 3 [.int .i64 acc] := by rw [hW5]; exact (((Blk.new' (w.alloc (.cells #[.slice A n c] 24)) (w.heap.size + 1) _ _ _ (by simp) rfl).alloc _).alloc _).alloc _
  have bW : Blk W5 (w.heap.size + 2) 32 [.int .i64 0, .int .i64 0, .slice none 0 0, .slice none 0 0] := by rw [hW5]; exact ((Blk.new' ((w.alloc (.cells #[.slice A n c] 24)).alloc (.cells #[.int .i64 acc] 3)) (w.heap.size + 2) _ _ _ (by simp) rfl).alloc _).alloc _
  have bC : Blk W5 (w.heap.size + 3) 3 [.int .i64 0] := by rw [hW5]; exact (Blk.new' (((w.alloc (.cells #[.slice A n c] 24)).alloc (.cells #[.int .i64 acc] 3)).alloc (.cells #[.int .i64 0, .int .i64 0, .slice none 0 0, .slice none 0 0] 32)) (w.heap.size + 3) _ _ _ (by simp) rfl).alloc _
  have bT : Blk W5 (w.heap.size + 4) 68 [.slice A n c, .slice none 0 0] := by rw [hW5]; exact Blk.new' ((((w.alloc (.cells #[.slice A n c] 24)).alloc (.cells #[.int .i64 acc] 3)).alloc (.cells #[.int .i64 0, .int .i64 0, .slice none 0 0, .slice none 0 0] 32)).alloc (.cells #[.int .i64 0] 3)) (w.heap.size + 4) _ _ _ (by simp) rfl
  have cA5 := bA.cell (j := 0) (v := .int .i64 acc) rfl
  have hT0 : Wk0 W5 w.heap.size (w.heap.size + 4) A n c := ⟨by omega, bT⟩
  have HU := Lib.hid (untranslated_any A n c va w.heap.size (w.heap.size + 4) w W5 hn hv0 hv hT0 l5)
  have HT := Lib.hid (translated_any A n c root va acc u b w.heap.size (w.heap.size + 4) w W5 rfl hs hb hn1 hn hr0 hr hv0 hv hT0 l5)
  unfold Tm.walk
  have HW := Lib.hid hW5
  clear hW5 hs hb cA5
  by_cases h0 : root = 0
  · rw [if_pos h0]
    obtain ⟨X, hX⟩ : ∃ X, X = Tm.unt n va := ⟨_, rfl⟩
    rw [← hX] at HU ⊢
    have hno := fun h => Tm.unt_no (n := n) (va := va) h
    rw [← hX] at hno
    obtain ⟨ok, xa, xl, xs, xr⟩ := X
    have e0 : (root == 0) = true := by simpa using h0
    clear hX h0 HT
    cases ok with
    | true =>
      clear hno
      have HUo := Lib.hid (HU.out.mono (R' := GotOk ⟨true, xa, xl, xs, xr⟩ (w.heap.size + 4) w W5) fun e w' h => GotT.yes h rfl)
      clear HU
      go_enter_defers Try.func11, Try.ntmps11
      go_wp2_with (first
        | (go_at_call 30; rw [← HW.out]; refine HUo.out.mono ?_; rintro e w6 ⟨AS, AR, sc, rc, rfl, s1, s2, q1, q2, l6, k6⟩; have b6 := k6.2 _ _ _ (by omega) (by omega) bW; have d6 := k6.2 _ _ _ (by omega) (by omega) bC)
        | ((with_reducible refine wpList_store_abs (o := ⟨none, .store 32 (.tmp 10) (.tmp 19), _, _, _, none⟩) rfl _ _ _ rfl (w.heap.size + 2) 32 [.int .i64 0, .int .i64 0, .slice none 0 0, .slice none 0 0] [.int .i64 xa, .int .i64 xl, .slice AS xs.length sc, .slice AR xr.length rc] ?_ ?_ b6 (walk_sz _ _ _ _) rfl (img_one _ _ _ _ _ _ _ _) ?_); rfl; rfl; intro w7 b7 o7; have d7 := d6.only o7 (by omega); have c7 := d7.cell (j := 0) (v := .int .i64 0) rfl; have f7 := d7.frz 0))
      have z8 := o7.size
      have z6 := k6.1
      have ne1 : ∀ (X : Option Addr), (∀ ad, X = some ad → W5.heap.size ≤ ad.block) → ∀ (g : Nat), g < w.heap.size + 5 → ∀ ad, X = some ad → ad.block ≠ g := fun X hX g hg ad e => by have := hX ad e; omega
      have b8 := b7.set_other ⟨w.heap.size + 3, 0, none⟩ (.int .i64 0) (by show w.heap.size + 2 ≠ w.heap.size + 3; omega)
      have d8 : Blk (w7.setCell ⟨w.heap.size + 3, 0, none⟩ (.int .i64 0)) (w.heap.size + 3) 3 [.int .i64 0] := d7.set 0 (.int .i64 0)
      have o8 := Only.set w7 (w.heap.size + 3) 0 (.int .i64 0)
      refine leaves_cons (f := 28) (args := #[.pointer (some ⟨w.heap.size + 4, 0, none⟩), .pointer (some ⟨w.heap.size + 1, 0, none⟩), .pointer (some ⟨w.heap.size + 2, 0, none⟩), .pointer (some ⟨w.heap.size + 3, 0, none⟩)]) (by simp) (by simp [go_sem]) ?_
      refine (catch_idle ⟨w.heap.size + 4, 0, none⟩ ⟨w.heap.size + 1, 0, none⟩ ⟨w.heap.size + 2, 0, none⟩ ⟨w.heap.size + 3, 0, none⟩ _).mono ?_
      rintro e u' w'' ⟨rfl, rfl, rfl⟩
      refine ⟨_, results_ci Try.results11 _ _ (w.heap.size + 2) (w.heap.size + 3) _ 0 rfl rfl b8 d8 (walk_sz _ _ _ _), ⟨AS, AR, sc, rc, rfl, (s1.only_ne o7 (ne1 _ q1 _ (by omega))).only_ne o8 (ne1 _ q1 _ (by omega)), (s2.only_ne o7 (ne1 _ q2 _ (by omega))).only_ne o8 (ne1 _ q2 _ (by omega)), Below.only (Below.only l6 o7 (by omega)) o8 (by omega)⟩⟩
    | false =>
      have HUo := Lib.hid (HU.out.mono (R' := GotNo ⟨false, xa, xl, xs, xr⟩ w.heap.size (w.heap.size + 4) A n c w W5) fun e w' h => GotT.no h rfl)
      clear HU
      obtain ⟨rfl, rfl, rfl⟩ : xa = 0 ∧ xl = 0 ∧ xs = [] := by have := hno rfl; simp at this; exact ⟨this.1, this.2.1, this.2.2.1⟩
      clear hno
      go_enter_defers Try.func11, Try.ntmps11
      go_wp2_with (go_at_call 30; rw [← HW.out]; refine HUo.out.mono ?_; rintro e w6 ⟨rfl, ⟨lo, hlo2, _, _, R, k, t6, o6, _⟩, l6, k6⟩)
      have a6 := k6.2 _ _ _ (by omega) (by omega) bA
      have b6 := k6.2 _ _ _ (by omega) (by omega) bW
      have d6 := k6.2 _ _ _ (by omega) (by omega) bC
      refine leaves_cons (f := 28) (args := #[.pointer (some ⟨w.heap.size + 4, 0, none⟩), .pointer (some ⟨w.heap.size + 1, 0, none⟩), .pointer (some ⟨w.heap.size + 2, 0, none⟩), .pointer (some ⟨w.heap.size + 3, 0, none⟩)]) (by simp) (by simp [go_sem]) ?_
      refine (catch_fault (w.heap.size + 4) (w.heap.size + 1) (w.heap.size + 2) (w.heap.size + 3) acc R xr.length k A n c w6 t6 a6 b6 d6 (by omega) (by omega) (by omega) (by omega) (by omega) (by omega)).mono ?_
      rintro e u' w8 ⟨rfl, rfl, b8, d8, w7, o7, o8⟩
      refine ⟨_, results_ci Try.results11 _ _ (w.heap.size + 2) (w.heap.size + 3) _ _ rfl rfl b8 d8 (walk_sz _ _ _ _), ⟨none, R, 0, k, rfl, sl_nil _ _, ((Sl.own o6).drew.only_ne o7 (fun ad e => by have h9 := (o6.lt ad.block (by rw [e]; rfl)).1; omega)).only_ne o8 (fun ad e => by have h9 := (o6.lt ad.block (by rw [e]; rfl)).1; omega), Below.only (Below.only l6.drew o7 (by omega)) o8 (by omega)⟩⟩
  · rw [if_neg h0]
    obtain ⟨X, hX⟩ : ∃ X, X = Tm.trans n b root va acc u := ⟨_, rfl⟩
    rw [← hX] at HT ⊢
    have hno := fun h => Tm.trans_no (n := n) (b := b) (root := root) (va := va) (acc := acc) (u := u) h
    rw [← hX] at hno
    obtain ⟨ok, xa, xl, xs, xr⟩ := X
    have e0 : (root == 0) = false := by simpa using h0
    clear hX h0 HU
    cases ok with
    | true =>
      clear hno
      have HUo := Lib.hid (HT.out.mono (R' := GotOk ⟨true, xa, xl, xs, xr⟩ (w.heap.size + 4) w W5) fun e w' h => GotT.yes h rfl)
      clear HT
      go_enter_defers Try.func11, Try.ntmps11
      go_wp2_with (first
        | (go_at_call 31; rw [← HW.out]; refine HUo.out.mono ?_; rintro e w6 ⟨AS, AR, sc, rc, rfl, s1, s2, q1, q2, l6, k6⟩; have b6 := k6.2 _ _ _ (by omega) (by omega) bW; have d6 := k6.2 _ _ _ (by omega) (by omega) bC)
        | ((with_reducible refine wpList_store_abs (o := ⟨none, .store 32 (.tmp 10) (.tmp 24), _, _, _, none⟩) rfl _ _ _ rfl (w.heap.size + 2) 32 [.int .i64 0, .int .i64 0, .slice none 0 0, .slice none 0 0] [.int .i64 xa, .int .i64 xl, .slice AS xs.length sc, .slice AR xr.length rc] ?_ ?_ b6 (walk_sz _ _ _ _) rfl (img_one _ _ _ _ _ _ _ _) ?_); rfl; rfl; intro w7 b7 o7; have d7 := d6.only o7 (by omega); have c7 := d7.cell (j := 0) (v := .int .i64 0) rfl; have f7 := d7.frz 0))
      have z8 := o7.size
      have z6 := k6.1
      have ne1 : ∀ (X : Option Addr), (∀ ad, X = some ad → W5.heap.size ≤ ad.block) → ∀ (g : Nat), g < w.heap.size + 5 → ∀ ad, X = some ad → ad.block ≠ g := fun X hX g hg ad e => by have := hX ad e; omega
      have b8 := b7.set_other ⟨w.heap.size + 3, 0, none⟩ (.int .i64 0) (by show w.heap.size + 2 ≠ w.heap.size + 3; omega)
      have d8 : Blk (w7.setCell ⟨w.heap.size + 3, 0, none⟩ (.int .i64 0)) (w.heap.size + 3) 3 [.int .i64 0] := d7.set 0 (.int .i64 0)
      have o8 := Only.set w7 (w.heap.size + 3) 0 (.int .i64 0)
      refine leaves_cons (f := 28) (args := #[.pointer (some ⟨w.heap.size + 4, 0, none⟩), .pointer (some ⟨w.heap.size + 1, 0, none⟩), .pointer (some ⟨w.heap.size + 2, 0, none⟩), .pointer (some ⟨w.heap.size + 3, 0, none⟩)]) (by simp) (by simp [go_sem]) ?_
      refine (catch_idle ⟨w.heap.size + 4, 0, none⟩ ⟨w.heap.size + 1, 0, none⟩ ⟨w.heap.size + 2, 0, none⟩ ⟨w.heap.size + 3, 0, none⟩ _).mono ?_
      rintro e u' w'' ⟨rfl, rfl, rfl⟩
      refine ⟨_, results_ci Try.results11 _ _ (w.heap.size + 2) (w.heap.size + 3) _ 0 rfl rfl b8 d8 (walk_sz _ _ _ _), ⟨AS, AR, sc, rc, rfl, (s1.only_ne o7 (ne1 _ q1 _ (by omega))).only_ne o8 (ne1 _ q1 _ (by omega)), (s2.only_ne o7 (ne1 _ q2 _ (by omega))).only_ne o8 (ne1 _ q2 _ (by omega)), Below.only (Below.only l6 o7 (by omega)) o8 (by omega)⟩⟩
    | false =>
      have HUo := Lib.hid (HT.out.mono (R' := GotNo ⟨false, xa, xl, xs, xr⟩ w.heap.size (w.heap.size + 4) A n c w W5) fun e w' h => GotT.no h rfl)
      clear HT
      obtain ⟨rfl, rfl, rfl⟩ : xa = 0 ∧ xl = 0 ∧ xs = [] := by have := hno rfl; simp at this; exact ⟨this.1, this.2.1, this.2.2⟩
      clear hno
      go_enter_defers Try.func11, Try.ntmps11
      go_wp2_with (go_at_call 31; rw [← HW.out]; refine HUo.out.mono ?_; rintro e w6 ⟨rfl, ⟨lo, hlo2, _, _, R, k, t6, o6, _⟩, l6, k6⟩)
      have a6 := k6.2 _ _ _ (by omega) (by omega) bA
      have b6 := k6.2 _ _ _ (by omega) (by omega) bW
      have d6 := k6.2 _ _ _ (by omega) (by omega) bC
      refine leaves_cons (f := 28) (args := #[.pointer (some ⟨w.heap.size + 4, 0, none⟩), .pointer (some ⟨w.heap.size + 1, 0, none⟩), .pointer (some ⟨w.heap.size + 2, 0, none⟩), .pointer (some ⟨w.heap.size + 3, 0, none⟩)]) (by simp) (by simp [go_sem]) ?_
      refine (catch_fault (w.heap.size + 4) (w.heap.size + 1) (w.heap.size + 2) (w.heap.size + 3) acc R xr.length k A n c w6 t6 a6 b6 d6 (by omega) (by omega) (by omega) (by omega) (by omega) (by omega)).mono ?_
      rintro e u' w8 ⟨rfl, rfl, b8, d8, w7, o7, o8⟩
      refine ⟨_, results_ci Try.results11 _ _ (w.heap.size + 2) (w.heap.size + 3) _ _ rfl rfl b8 d8 (walk_sz _ _ _ _), ⟨none, R, 0, k, rfl, sl_nil _ _, ((Sl.own o6).drew.only_ne o7 (fun ad e => by have h9 := (o6.lt ad.block (by rw [e]; rfl)).1; omega)).only_ne o8 (fun ad e => by have h9 := (o6.lt ad.block (by rw [e]; rfl)).1; omega), Below.only (Below.only l6.drew o7 (by omega)) o8 (by omega)⟩⟩
end Go.Proofs.Ytempcbdlaoblhab
