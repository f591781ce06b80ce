/-
  THE WALKS OF hash.Crc40, BeginCrc, Add, Value, and of the reference's Crc40.
-/
import Derived.Test.YtoigpokmlohhkaaDoorHashA
namespace Go.Proofs.YtoigpokmlohhkaaDoor
open Go.RowKit

theorem k40' : (1099511627775 : Int) = q40 Hm.ones := by decide
theorem xor40 (r s : Hm.R) : bits .xor .u64 (q40 r) (q40 s) = q40 (r ^^^ s) := by
  rw [q40_64, q40_64, xor64, ← BitVec.setWidth_xor, ← q40_64]

/-- The value Crc. -/
def crcV (r : Hm.R) : Value := .agg #[.int .u64 (q40 r)]

theorem later1 (w : World) (o : Obj) : Later w (w.alloc o) := (Below.refl _ _).alloc (Nat.le_refl _) _

set_option maxHeartbeats 400000 in
theorem value_any (r : Hm.R) (w : World) :
    Calls Tryd.prog 19 #[.agg #[.int .u64 (q40 r)]] w fun e w' => e = .returned (.int .i64 (q40 (r ^^^ Hm.ones))) ∧ Later w w' := by
  have hb := q40_bd r
  have hb2 := q40_bd (r ^^^ Hm.ones)
  have hx : bits .xor .u64 (q40 r) 1099511627775 = q40 (r ^^^ Hm.ones) := by rw [k40', xor40]
  generalize q40 (r ^^^ Hm.ones) = v at hb2 hx ⊢
  go_enter Tryd.func19, Tryd.ntmps19
  go_wp2
  go_ret
  exact ⟨rfl, later1 _ _⟩

set_option maxHeartbeats 400000 in
theorem begin_any (w : World) :
    Calls Tryd.prog 16 #[] w fun e w' => e = .returned (.agg #[.int .u64 (q40 Hm.ones)]) ∧ Later w w' := by
  go_enter Tryd.func16, Tryd.ntmps16
  go_wp2
  exact bodyPost_ret (v := .agg #[.int .u64 1099511627775]) (by simp [results, Tryd.results16, go_sem]) rfl ⟨by rw [k40'], later1 _ _⟩

set_option maxHeartbeats 400000 in
theorem add_any (r : Hm.R) (s : ByteArray) (w : World) (hn : s.size ≤ maxLen) :
    Calls Tryd.prog 17 #[.agg #[.int .u64 (q40 r)], .string s] w fun e w' => e = .returned (.agg #[.int .u64 (q40 (Hm.bytes r (bv (sb s))))]) ∧ Later w w' := by
  go_enter Tryd.func17, Tryd.ntmps17
  go_wp2_with (go_at_call 57; refine (shiftAllS_any r s _ hn).mono ?_; rintro e w' ⟨rfl, rfl⟩)
  exact bodyPost_ret (v := .agg #[.int .u64 (q40 (Hm.bytes r (bv (sb s))))]) (by simp [results, Tryd.results17, go_sem]) rfl ⟨rfl, (((Below.refl _ _).alloc (Nat.le_refl _) _).alloc (by simp) _)⟩

/-- The check, as an integer. -/
def crcI (b : Wm.Bs) : Int := q40 (Hm.crc (bv b))
theorem crcI_eq (b : Wm.Bs) : q40 (Hm.bytes Hm.ones (bv b) ^^^ Hm.ones) = crcI b := rfl

set_option maxHeartbeats 400000 in
theorem crc40_any (A : Option Addr) (n c : Nat) (b : Wm.Bs) (w : World) (hs : Sl w 1 A n (U b)) (hb : Wm.isBs b) (hn : n ≤ maxLen) :
    Calls Tryd.prog 20 #[.slice A n c] w fun e w' => e = .returned (.int .i64 (crcI b)) ∧ Later w w' := by
  have h1 := shiftAllB_any Hm.ones A n c b w hs hb hn
  rw [← k40'] at h1
  have H1 := Lib.hid h1
  clear h1
  go_enter Tryd.func20, Tryd.ntmps20
  go_wp2_with (first
    | (go_at_call 58; refine (H1.out).mono ?_; rintro e w' ⟨rfl, rfl⟩)
    | (go_at_call 19; refine (value_any _ _).mono ?_; rintro e w' ⟨rfl, hl⟩))
  go_ret
  exact ⟨rfl, hl⟩

end Go.Proofs.YtoigpokmlohhkaaDoor
