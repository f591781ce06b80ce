/-
  THE WALKS OF hash.shift, shiftAll, times, Join, and of the reference's step, Crc40, Join: the check of 40 bits.
-/
import Derived.Test.YtoigpokmlohhkaaDoorProg
import Derived.Test.YtoigpokmlohhkaaDoorWireMem
import Derived.Test.YtoigpokmlohhkaaDoorHashBits
namespace Go.Proofs.YtoigpokmlohhkaaDoor
open Go.RowKit

theorem k40 : (1099511627775 : Int) = q64 1099511627775#64 := by decide
theorem kfb : (75628553 : Int) = q64 75628553#64 := by decide
theorem sl1 (A : BitVec 64) : IntKind.u64.wrap (q64 A * 2) = q64 (A <<< 1) := shl64 A 1 2 rfl
theorem sl3 (A : BitVec 64) : IntKind.u64.wrap (q64 A * 8) = q64 (A <<< 3) := shl64 A 3 8 rfl
theorem sl8 (A : BitVec 64) : IntKind.u64.wrap (q64 A * 256) = q64 (A <<< 8) := shl64 A 8 256 rfl
theorem sl17 (A : BitVec 64) : IntKind.u64.wrap (q64 A * 131072) = q64 (A <<< 17) := shl64 A 17 131072 rfl
theorem sl23 (A : BitVec 64) : IntKind.u64.wrap (q64 A * 8388608) = q64 (A <<< 23) := shl64 A 23 8388608 rfl
theorem sl26 (A : BitVec 64) : IntKind.u64.wrap (q64 A * 67108864) = q64 (A <<< 26) := shl64 A 26 67108864 rfl
theorem sr32 (A : BitVec 64) : q64 A / (4294967296 : Int) = q64 (A >>> 32) := shr64 A 32 4294967296 rfl
theorem sr39 (A : BitVec 64) : q64 A / (549755813888 : Int) = q64 (A >>> 39) := shr64 A 39 549755813888 rfl

set_option maxHeartbeats 400000 in
theorem shift_64 (A C : BitVec 64) (w : World) (hc : q64 C < 256) :
    Calls Tryd.prog 89 #[.int .u64 (q64 A), .int .u8 (q64 C)] w fun e w' => e = .returned (.int .u64 (q64 (shift64 A C))) ∧ w = w' := by
  have ha := q64_bd A
  have hc0 := (q64_bd C).1
  go_enter Tryd.func89, Tryd.ntmps89
  go_wp2
  go_ret
  exact ⟨ret_int (by simp only [shift64, k40, sl3, sl8, sl17, sl23, sl26, sr32, xor64, and64]), rfl⟩
theorem shift_any (r : Hm.R) (x : Int) (w : World) (hx : 0 ≤ x ∧ x < 256) :
    Calls Tryd.prog 89 #[.int .u64 (q40 r), .int .u8 x] w fun e w' => e = .returned (.int .u64 (q40 (Hm.byte r (ob x)))) ∧ w = w' := by
  have h := shift_64 (r.setWidth 64) ((ob x).setWidth 64) w (by rw [← q8_64]; exact (q8_bd _).2)
  rw [shift64_is, ← q40_64, ← q40_64, ← q8_64, q8_ob hx] at h
  exact h

def ib (b : Bool) : Int := if b then 1 else 0
theorem bs_at {b : Wm.Bs} (hb : Wm.isBs b) (k : Nat) : 0 ≤ b.getD k 0 ∧ b.getD k 0 < 256 := by
  rcases Nat.lt_or_ge k b.length with h | h
  · rw [List.getD_eq_getElem?_getD, List.getElem?_eq_getElem h]; exact hb _ (List.getElem_mem h)
  · rw [List.getD_eq_getElem?_getD, List.getElem?_eq_none h]; exact ⟨by decide, by decide⟩
theorem Sl.byte {w : World} {A : Option Addr} {n : Nat} {b : Wm.Bs} (h : Sl w 1 A n (U b)) {k : Nat} (hk : k < n) : ∃ ad, A = some ad ∧ ad.block < w.heap.size ∧ w.cell? (ad.add k) = some (.int .u8 (b.getD k 0)) := by
  obtain ⟨ad, u, e, hb, hu, hc⟩ := h.at1 hk
  have hl : k < b.length := by have := h.1; rw [U_length] at this; omega
  rw [U_get b k hl] at hu
  cases hu
  exact ⟨ad, e, hb, hc⟩
/-- Bytes, as bit vectors. -/
def bv (b : Wm.Bs) : List (BitVec 8) := b.map ob
theorem bv_len (b : Wm.Bs) : (bv b).length = b.length := List.length_map _
theorem bv_append (a b : Wm.Bs) : bv (a ++ b) = bv a ++ bv b := List.map_append
theorem bv_take (b : Wm.Bs) (k : Nat) (h : k < b.length) : bv (b.take (k + 1)) = bv (b.take k) ++ [ob (b.getD k 0)] := by
  rw [List.take_succ_eq_append_getElem h, bv_append]
  simp [bv, h]
theorem bytes_snoc (r : Hm.R) (l : List (BitVec 8)) (c : BitVec 8) : Hm.bytes r (l ++ [c]) = Hm.byte (Hm.bytes r l) c := Hm.bytes_append _ _ _
theorem Sl.next {w : World} {A : Option Addr} {n : Nat} {b : Wm.Bs} (h : Sl w 1 A n (U b)) (hb : Wm.isBs b) {k : Nat} (hk : k < n) :
    ∃ ad x, A = some ad ∧ ad.block < w.heap.size ∧ w.cell? (ad.add k) = some (.int .u8 x) ∧ 0 ≤ x ∧ x < 256 ∧ Hid (b.getD k 0 = x ∧ bv (b.take (k + 1)) = bv (b.take k) ++ [ob x]) := by
  obtain ⟨ad, e, hl, hc⟩ := h.byte hk
  have hx := bs_at hb k
  exact ⟨ad, _, e, hl, hc, hx.1, hx.2, Lib.hid ⟨rfl, bv_take b k (by have := h.blen; omega)⟩⟩

set_option maxHeartbeats 400000 in
theorem shiftAllB_any (r : Hm.R) (A : Option Addr) (n c : Nat) (b : Wm.Bs) (w : World) (hs : Sl w 1 A n (U b)) (hb : Wm.isBs b) (hn : n ≤ maxLen) :
    Calls Tryd.prog 58 #[.int .u64 (q40 r), .slice A n c] w fun e w' => e = .returned (.int .u64 (q40 (Hm.bytes r (bv b)))) ∧ w = w' := by
  unfold maxLen at hn
  have hln := hs.blen
  have HL := Lib.hid hln; clear hln
  go_enter Tryd.func58, Tryd.ntmps58
  go_wp2
  go_loop [0, 8] (fun x i => ∃ k : Nat, k ≤ n ∧ i = .int .i64 k ∧ x = .int .u64 (q40 (Hm.bytes r (bv (b.take k))))) (fun _ i => n - (intOf i).toNat)
  case atStart => exact ⟨0, Nat.zero_le _, rfl, rfl⟩
  case round =>
    obtain ⟨k, hk, rfl, rfl⟩ := hrel
    by_cases hlt : k < n
    · obtain ⟨ad, x, rfl, hbl, hc, h0, h1, HX⟩ := hs.next hb hlt
      have H := Lib.hid (shift_any (Hm.bytes r (bv (b.take k))) x w ⟨h0, h1⟩)
      go_wp2_with (go_at_call 89; refine (H.out).mono ?_; rintro e w' ⟨rfl, rfl⟩)
      go_round
      case rel => exact ⟨k + 1, by omega, by go_num, by rw [HX.out.2, bytes_snoc]⟩
      case measure => simp [intOf]; omega
    · go_wp2
      go_ret
      exact ⟨ret_int (by rw [List.take_of_length_le (by rw [HL.out]; omega)]), rfl⟩

/-- The bytes of a string. -/
def sb (s : ByteArray) : Wm.Bs := s.data.toList.map fun u => (u.toNat : Int)
theorem sb_len (s : ByteArray) : (sb s).length = s.size := by simp [sb]
theorem sb_bs (s : ByteArray) : Wm.isBs (sb s) := fun x hx => by
  obtain ⟨u, _, rfl⟩ := List.mem_map.1 hx
  have := u.toNat_lt
  omega
theorem sb_at (s : ByteArray) (k : Nat) (h : k < s.size) : (sb s).getD k 0 = ((s[k]).toNat : Int) := by
  have hl : k < (sb s).length := by rw [sb_len]; exact h
  rw [List.getD_eq_getElem?_getD, List.getElem?_eq_getElem hl]
  simp [sb]
  rfl
theorem sb_next (s : ByteArray) (k : Nat) (h : k < s.size) : Hid ((sb s).getD k 0 = ((s[k]).toNat : Int) ∧ bv ((sb s).take (k + 1)) = bv ((sb s).take k) ++ [ob ((s[k]).toNat : Int)]) := by
  have hx := sb_at s k h
  have h2 := bv_take (sb s) k (by rw [sb_len]; exact h)
  rw [hx] at h2
  exact Lib.hid ⟨hx, h2⟩

set_option maxHeartbeats 400000 in
theorem shiftAllS_any (r : Hm.R) (s : ByteArray) (w : World) (hn : s.size ≤ maxLen) :
    Calls Tryd.prog 57 #[.int .u64 (q40 r), .string s] w fun e w' => e = .returned (.int .u64 (q40 (Hm.bytes r (bv (sb s))))) ∧ w = w' := by
  unfold maxLen at hn
  go_enter Tryd.func57, Tryd.ntmps57
  go_wp2
  go_loop [0, 8] (fun x i => ∃ k : Nat, k ≤ s.size ∧ i = .int .i64 k ∧ x = .int .u64 (q40 (Hm.bytes r (bv ((sb s).take k))))) (fun _ i => s.size - (intOf i).toNat)
  case atStart => exact ⟨0, Nat.zero_le _, rfl, rfl⟩
  case round =>
    obtain ⟨k, hk, rfl, rfl⟩ := hrel
    by_cases hlt : k < s.size
    · have HX := sb_next s k hlt
      have hx := s[k].toNat_lt
      have H := Lib.hid (shift_any (Hm.bytes r (bv ((sb s).take k))) (s[k].toNat : Int) w ⟨by omega, by omega⟩)
      go_wp2_with (go_at_call 89; refine (H.out).mono ?_; rintro e w' ⟨rfl, rfl⟩)
      go_round
      case rel => exact ⟨k + 1, by omega, by go_num, by rw [HX.out.2, bytes_snoc]⟩
      case measure => simp [intOf]; omega
    · go_wp2
      go_ret
      exact ⟨ret_int (by rw [List.take_of_length_le (by rw [sb_len]; omega)]), rfl⟩

/-- Registers of the reference's round: the bits of a byte so far. -/
theorem bits_snoc (r : Hm.R) (l : List Bool) (b : Bool) : Hm.bits r (l ++ [b]) = Hm.bit (Hm.bits r l) b := by simp [Hm.bits]
theorem bitsOf_len (c : BitVec 8) : (Hm.bitsOf c).length = 8 := rfl
theorem bitsOf_next (c : BitVec 8) (k : Nat) (h : k < 8) : (Hm.bitsOf c).take (k + 1) = (Hm.bitsOf c).take k ++ [c.getLsbD (7 - k)] := by
  obtain rfl | rfl | rfl | rfl | rfl | rfl | rfl | rfl : k = 0 ∨ k = 1 ∨ k = 2 ∨ k = 3 ∨ k = 4 ∨ k = 5 ∨ k = 6 ∨ k = 7 := by omega
  all_goals rfl
theorem bit_of (x : Int) (hx : 0 ≤ x ∧ x < 256) (j : Nat) (h : j < 8) : bits .and .u64 (x / 2 ^ j) 1 = ib ((ob x).getLsbD j) := by
  have e : x = q64 ((ob x).setWidth 64) := by rw [← q8_64, q8_ob hx]
  have k1 : (1 : Int) = q64 1#64 := by decide
  have hm : ((2 ^ j : Nat) : Int) = (2 : Int) ^ j := by rw [Int.natCast_pow]; rfl
  have e2 : x / 2 ^ j = q64 (((ob x).setWidth 64) >>> j) := by rw [← shr64 _ j _ hm.symm, ← e]
  rw [e2, k1, and64]
  have : ∀ c : BitVec 8, (List.range 8).all (fun j => decide (q64 ((c.setWidth 64 >>> j) &&& 1#64) = ib (c.getLsbD j))) = true := by decide +kernel
  have h1 := Hm.of_range (this (ob x)) j h
  exact of_decide_eq_true h1
end Go.Proofs.YtoigpokmlohhkaaDoor
