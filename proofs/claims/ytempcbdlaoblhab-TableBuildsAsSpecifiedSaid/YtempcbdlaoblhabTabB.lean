/-
  THE WALKS OF isRightFirst, store, mapping, areMappable, with, zeros.
-/
import Derived.Test.YtempcbdlaoblhabTabA
namespace Go.Proofs.Ytempcbdlaoblhab
open Go.RowKit Go.ChangeShapes Go.WideShapes Go.ChangeAt

theorem reM {f : FuncId} {args : Array Value} {w : World} {v : Value} (h : ∀ w', Later w w' → Calls Try.prog f args w' fun e w'' => e = .returned v ∧ Later w' w'') (d : Nat) (os : Array Obj) :
    Calls Try.prog f args (Sort.grow (redrawn w d) os) fun e w'' => e = .returned v ∧ ∃ p : Regrown, w'' = Sort.grow (redrawn w p.d) p.os := Calls.regrown_of (h _ (below_regrown w d os))
theorem laterEq {f : FuncId} {args : Array Value} {w : World} {v : Value} (h : Calls Try.prog f args w fun e w' => e = .returned v ∧ w = w') : Calls Try.prog f args w fun e w' => e = .returned v ∧ Later w w' :=
  h.mono fun _ _ ⟨h1, h2⟩ => ⟨h1, by rw [← h2]; exact Below.refl _ _⟩
set_option maxRecDepth 100000 in
theorem isRightFirst_any (e : Int) (A : Option Addr) (n c : Nat) (w : World) (h : Tm.isE e) (hn : n ≤ 64) : Calls Try.prog 49 #[.int .u32 e, .agg #[.slice A n c]] w fun r w' => r = .returned (.bool (Tm.rF n e)) ∧ Later w w' := by
  have HL := Lib.hid fun w' => isLarge_any e w' h
  have HA := Lib.hid fun w' => address_any e w' h
  have ha := Tm.adr_e h
  have h62 := fun w' => has62_any e w' h
  have HP := fun w' => isPage_any A n c (Tm.adr e) w' hn ha
  obtain ⟨w0, hw0⟩ : ∃ w0, w0 = w.alloc (.cells #[.slice A n c] 24) := ⟨_, rfl⟩
  have hl0 : Later w w0 := by rw [hw0]; exact later1 _ _
  have k0 := cell_regrown (show w0.cell? ⟨w.heap.size, 0, none⟩ = some (.slice A n c) by rw [hw0]; exact (Blk.new _ _ _ [.slice A n c] rfl).cell (j := 0) rfl)
  have K62 := reM (w := w0) (fun w' _ => laterEq (h62 w'))
  have KA := reM (w := w0) (fun w' _ => laterEq (HA.out w'))
  have KP := reM (w := w0) (fun w' _ => HP w')
  have hw1 := Lib.hid hw0
  have HL0 := Lib.hid hl0
  clear hw0 hl0 HP h62
  obtain ⟨h0, h1⟩ := ha
  unfold Tm.rF
  obtain ⟨x, hX⟩ : ∃ x, x = Tm.adr e := ⟨_, rfl⟩
  rw [← hX] at HA KA KP h0 h1 ⊢
  obtain ⟨q, hq⟩ : ∃ q, q = Tm.pageB n x := ⟨_, rfl⟩
  rw [← hq] at KP ⊢
  clear hX h hq
  cases hl : Tm.has e 64 with
  | true =>
    rw [hl] at HL
    rw [if_pos rfl]
    clear hl K62 KA KP
    go_enter Try.func49, Try.ntmps49
    go_wp2_with (first
      | (go_at_call 50; refine (HL.out _).mono ?_; rintro r w' ⟨rfl, rfl⟩)
      | (go_at_call 43; refine (HA.out _).mono ?_; rintro r w' ⟨rfl, rfl⟩))
    go_ret
    exact ⟨rfl, later1 _ _⟩
  | false =>
    rw [hl] at HL
    rw [if_neg (by decide)]
    clear hl
    cases hz : decide (e / 2 % 32 = 0) with
    | true =>
      rw [hz, show (!true) = false from rfl] at K62
      clear hz
      go_enter Try.func49, Try.ntmps49
      go_wp2_with (go_at_call 50; refine (HL.out _).mono ?_; rintro r w' ⟨rfl, rfl⟩)
      rw [← hw1.out]
      refine wp_region_quiet_below (by kernel_rfl) (by kernel_rfl) ?_
      repeat (go_big_quiet_step (first | with_reducible exact K62 _ _ | with_reducible exact KA _ _ | with_reducible exact KP _ _))
      refine wpQuiet_nil ?_
      rintro _ ⟨⟨dq, osq⟩, rfl⟩
      go_wp2
      go_ret
      exact ⟨rfl, Later.trans_ HL0.out (below_regrown w0 dq osq)⟩
    | false =>
      rw [hz, show (!false) = true from rfl] at K62
      clear hz
      go_enter Try.func49, Try.ntmps49
      go_wp2_with (go_at_call 50; refine (HL.out _).mono ?_; rintro r w' ⟨rfl, rfl⟩)
      rw [← hw1.out]
      refine wp_region_quiet_below (by kernel_rfl) (by kernel_rfl) ?_
      repeat (go_big_quiet_step (first | with_reducible exact K62 _ _ | with_reducible exact KA _ _ | with_reducible exact KP _ _))
      refine wpQuiet_nil ?_
      rintro _ ⟨⟨dq, osq⟩, rfl⟩
      go_wp2
      go_ret
      exact ⟨rfl, Later.trans_ HL0.out (below_regrown w0 dq osq)⟩
theorem wr_sz (x y z : Value) : (Try.prog.info? 57).map (·.size) = some [x, y, z].length := w_sz x y z
theorem map_sz (x y z : Value) : (Try.prog.info? 65).map (·.size) = some [x, y, z].length := by
  rw [show [x, y, z].length = 3 from rfl]; kernel_rfl
theorem estore_any (e a : Int) (w : World) (ha : 0 ≤ a ∧ a < 4294967296) : Calls Try.prog 45 #[.int .u32 e, .int .u32 a] w fun r w' => r = .returned (.agg #[.int .i64 a, .int .i64 4, .int .u32 e]) ∧ Later w w' := by
  obtain ⟨ha0, ha1⟩ := ha
  go_enter Try.func45, Try.ntmps45
  go_wp2
  exact bodyPost_ret (v := .agg #[.int .i64 a, .int .i64 4, .int .u32 e]) (results_blk Try.results45 _ _ w.heap.size 57 [.int .i64 a, .int .i64 4, .int .u32 e] _ rfl (Blk.new _ _ _ _ rfl) Try.underlying57 rfl (wr_sz _ _ _)) rfl ⟨rfl, later1 _ _⟩
/-- What an entry maps. -/
def Mp (va e : Int) : List Value := [.int .u32 va, .int .u32 (Tm.adr e), .int .i64 (e % 128)]
theorem mapping_any (e v : Int) (w : World) (h : Tm.isE e) : Calls Try.prog 90 #[.int .u32 e, .int .u32 v] w fun r w' => r = .returned (.agg (Mp v e).toArray) ∧ w' = w.alloc (.cells (Mp v e).toArray 65) := by
  have HA := Lib.hid fun w' => address_any e w' h
  have HB := Lib.hid fun w' => bits_any e w' h
  unfold Mp
  obtain ⟨x, hX⟩ : ∃ x, x = Tm.adr e := ⟨_, rfl⟩
  obtain ⟨y, hY⟩ : ∃ y, y = e % 128 := ⟨_, rfl⟩
  rw [← hX] at HA ⊢
  rw [← hY] at HB ⊢
  clear hX hY h
  go_enter Try.func90, Try.ntmps90
  go_wp2_with (first
    | (go_at_call 43; refine (HA.out _).mono ?_; rintro r w' ⟨rfl, rfl⟩)
    | (go_at_call 91; refine (HB.out _).mono ?_; rintro r w' ⟨rfl, rfl⟩))
  exact bodyPost_ret (v := .agg #[.int .u32 v, .int .u32 x, .int .i64 y]) (results_blk Try.results90 _ _ w.heap.size 65 [.int .u32 v, .int .u32 x, .int .i64 y] _ rfl (Blk.new _ _ _ _ rfl) Try.underlying65 rfl (map_sz _ _ _)) rfl ⟨rfl, rfl⟩
end Go.Proofs.Ytempcbdlaoblhab
