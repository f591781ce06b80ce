/-
  THE WALKS OF hash.Words and of the reference's Five, Bytes, Words.
-/
import Derived.Test.YtoigpokmlohhkaaDoorHashC
import Derived.Test.YtoigpokmlohhkaaDoorHashMem
import Derived.StillTailTactics
namespace Go.Proofs.YtoigpokmlohhkaaDoor
open Go.RowKit

/-- The lowest 40 bits as five bytes. -/
def five (x : Int) : Wm.Bs := [x / 4294967296 % 256, x / 16777216 % 256, x / 65536 % 256, x / 256 % 256, x % 256]
theorem five_bs (x : Int) : Wm.isBs (five x) := fun y hy => by
  simp only [five, List.mem_cons, List.not_mem_nil, or_false] at hy
  omega
theorem five_next (x : Int) (j : Nat) (h : j < 5) : (five x).take (j + 1) = (five x).take j ++ [x / 2 ^ (32 - 8 * j) % 256] := by
  obtain rfl | rfl | rfl | rfl | rfl : j = 0 ∨ j = 1 ∨ j = 2 ∨ j = 3 ∨ j = 4 := by omega
  · rfl
  · rfl
  · rfl
  · rfl
  · simp [five]
/-- The bytes of words. -/
def fives (l : List Int) : Wm.Bs := l.flatMap five
theorem fives_bs (l : List Int) : Wm.isBs (fives l) := fun y hy => by
  obtain ⟨x, _, h⟩ := List.mem_flatMap.1 hy
  exact five_bs x y h
theorem fives_len (l : List Int) : (fives l).length = 5 * l.length := by
  induction l with
  | nil => rfl
  | cons a l ih => show (five a ++ fives l).length = _; rw [List.length_append, ih, List.length_cons]; show 5 + _ = _; omega
theorem fives_snoc (l : List Int) (x : Int) : fives (l ++ [x]) = fives l ++ five x := by simp [fives]
/-- Integers as cells. -/
def N64 (l : List Int) : List Value := l.map (Value.int .i64)
theorem Sl.int {w : World} {A : Option Addr} {n : Nat} {l : List Int} (h : Sl w 1 A n (N64 l)) {k : Nat} (hk : k < n) : ∃ ad x, A = some ad ∧ ad.block < w.heap.size ∧ w.cell? (ad.add k) = some (.int .i64 x) ∧ Hid (l.take (k + 1) = l.take k ++ [x]) := by
  obtain ⟨ad, u, e, hb, hu, hc⟩ := h.at1 hk
  have hl : k < l.length := by have := h.1; simp only [N64, List.length_map] at this; omega
  simp only [N64, List.getElem?_map, List.getElem?_eq_getElem hl, Option.map_some] at hu
  cases hu
  exact ⟨ad, l[k], e, hb, hc, Lib.hid (List.take_succ_eq_append_getElem hl)⟩

set_option maxRecDepth 100000 in
set_option maxHeartbeats 400000 in
theorem words_any (A : Option Addr) (n c : Nat) (l : List Int) (w : World) (hs : Sl w 1 A n (N64 l)) (hn : n ≤ maxLen) :
    Calls Tryd.prog 52 #[.slice A n c] w fun e w' => e = .returned (.int .i64 (crcI (fives l))) ∧ Later w w' := by
  unfold maxLen at hn
  have hln : l.length = n := by have := hs.1; simp only [N64, List.length_map] at this; omega
  have HL := Lib.hid hln; clear hln
  go_enter Tryd.func52, Tryd.ntmps52
  go_wp2_with (go_at_call 16; refine (begin_any _).mono ?_; rintro e w1 ⟨rfl, hl1⟩)
  have hlt1 := hl1.size
  go_loopw [10] (fun i wr => ∃ k : Nat, k ≤ n ∧ i = .int .i64 k ∧ Blk wr w1.heap.size 27 [.int .u64 (q40 (Hm.bytes Hm.ones (bv (fives (l.take k)))))] ∧ Later w wr) (fun i _ => n - (intOf i).toNat)
  case atStart => exact ⟨0, Nat.zero_le _, rfl, Blk.new _ _ _ _ rfl, hl1.alloc hlt1 _⟩
  case round =>
    obtain ⟨k, hk, rfl, hblk, hbr⟩ := hrel
    by_cases hlt : k < n
    · obtain ⟨ad, x, rfl, hbl, hc, HX⟩ := (hs.keep hbr).int hlt
      go_wp2
      go_loopw [6] (fun i wr => ∃ j : Nat, j ≤ 5 ∧ i = .int .i64 (32 - 8 * (j : Int)) ∧ Blk wr w1.heap.size 27 [.int .u64 (q40 (Hm.bytes Hm.ones (bv (fives (l.take k) ++ (five x).take j))))] ∧ Later w wr) (fun i _ => (intOf i + 8).toNat)
      case atStart => exact ⟨0, by omega, rfl, by simpa using hblk, hbr⟩
      case round =>
        clear hblk hbr hbl hc
        rename_i wr1
        rename_i wr
        obtain ⟨j, hj, rfl, hblk, hbr⟩ := hrel
        by_cases hj5 : j < 5
        · have hcast : ((32 : Int) - 8 * (j : Int)).toNat = 32 - 8 * j := by omega
          have hcell := hblk.cell (j := 0) rfl
          have hfr := hblk.frz 0
          obtain ⟨y, hy, hy2, hy0, hy1⟩ : ∃ y, IntKind.u8.wrap (x / 2 ^ (32 - 8 * j)) = y ∧ x / 2 ^ (32 - 8 * j) % 256 = y ∧ 0 ≤ y ∧ y < 256 := ⟨_, rfl, (IntKind.wrap_u8 _).symm, by rw [IntKind.wrap_u8]; omega, by rw [IntKind.wrap_u8]; omega⟩
          have hnx : q40 (Hm.byte (Hm.bytes Hm.ones (bv (fives (l.take k) ++ (five x).take j))) (ob y)) = q40 (Hm.bytes Hm.ones (bv (fives (l.take k) ++ (five x).take (j + 1)))) := by
            rw [five_next x j hj5, hy2, ← List.append_assoc, bv_append _ [y]]
            exact congrArg q40 (bytes_snoc _ _ _).symm
          have HN := Lib.hid hnx; clear hnx hy2
          have H := fun w => (shift_any (Hm.bytes Hm.ones (bv (fives (l.take k) ++ (five x).take j))) y w ⟨hy0, hy1⟩)
          rw [HN.out] at H
          have HH := Lib.hid H; clear H
          go_wp2
          go_still_tail 8, (by kernel_rfl)
          still_call ((HH.out _).mono fun _ _ h => ⟨h.1, h.2.symm⟩)
          repeat still_step
          refine wpStill_nil ?_
          change wpList _ _ _ _ _ wr.drew
          go_wp2
          have hset := (hblk.drew.set 0 (.int .u64 (q40 (Hm.bytes Hm.ones (bv (fives (l.take k) ++ (five x).take (j + 1)))))))
          have hbr2 : Later w (wr.drew.setCell ⟨w1.heap.size, 0, none⟩ (.int .u64 (q40 (Hm.bytes Hm.ones (bv (fives (l.take k) ++ (five x).take (j + 1))))))) := hbr.drew.setCell hlt1 _
          clear hblk hbr hcell hfr
          go_roundw
          case rel => exact ⟨j + 1, by omega, by go_num, hset, hbr2⟩
          case measure => simp [intOf]; omega
        · obtain rfl : j = 5 := by omega
          have h5 : fives (l.take k) ++ (five x).take 5 = fives (l.take (k + 1)) := by rw [HX.out, fives_snoc]; rfl
          rw [h5] at hblk
          clear h5
          go_wp2
          go_roundw
          case rel => exact ⟨k + 1, by omega, by go_num, hblk, hbr⟩
          case measure => simp [intOf]; omega
    · have hcell := hblk.cell (j := 0) rfl
      have hf : q40 (Hm.bytes Hm.ones (bv (fives (l.take k))) ^^^ Hm.ones) = crcI (fives l) := by rw [List.take_of_length_le (by rw [HL.out]; omega)]; rfl
      have H := fun w => value_any (Hm.bytes Hm.ones (bv (fives (l.take k)))) w
      rw [hf] at H
      have HH := Lib.hid H; clear H hf
      go_wp2_with (go_at_call 19; refine (HH.out _).mono ?_; rintro e w2 ⟨rfl, hl2⟩)
      go_ret
      exact ⟨rfl, Later.trans_ hbr hl2⟩

theorem u8_info : (Tryd.prog.info? 5).map (fun i => (i.zero, i.size, i.bytes)) = some (some (.int .u8 0), 1, 1) := by kernel_rfl
theorem own_snoc {w : World} {B : Nat} {e : TypeId} {v : Value} {a : Wm.Bs} {x : Int} (h : w.ownsRow B e 1 v (a.length + 1) (U a ++ [Value.int .u8 x])) : w.ownsRow B e 1 v (a ++ [x]).length (U (a ++ [x])) := by
  have e1 : (a ++ [x]).length = a.length + 1 := by simp
  rw [e1, U_append]
  exact h
theorem own_app {w : World} {B : Nat} {e : TypeId} {v : Value} {a b : Wm.Bs} {m : Nat} (hm : m = b.length) (h : w.ownsRow B e 1 v (a.length + m) (U a ++ U b)) : w.ownsRow B e 1 v (a ++ b).length (U (a ++ b)) := by
  subst hm
  rw [List.length_append, U_append]
  exact h
/-- What a maker of bytes answers: a new slice that holds them. -/
def Made (bs : Wm.Bs) (w : World) (e : Ending) (w' : World) : Prop := ∃ A c, e = .returned (.slice A bs.length c) ∧ bs.length ≤ c ∧ c ≤ maxLen ∧ w'.ownsRow w.heap.size 5 1 (.slice A bs.length c) bs.length (U bs) ∧ Sl w' 1 A bs.length (U bs) ∧ Later w w'
theorem made_of {bs : Wm.Bs} {w w' : World} {v : Value} (ho : w'.ownsRow w.heap.size 5 1 v bs.length (U bs)) (hb : Later w w') : Made bs w (.returned v) w' := by
  obtain ⟨A, c, hv, h1, h2, h3, _⟩ := own_form ho
  subst hv
  exact ⟨A, c, rfl, h1, h2, ho, h3, hb⟩

end Go.Proofs.YtoigpokmlohhkaaDoor
