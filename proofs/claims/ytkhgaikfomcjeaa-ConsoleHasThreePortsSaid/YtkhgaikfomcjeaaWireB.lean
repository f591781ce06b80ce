/-
  THE WALKS OF wire.appendInt, wire.Int and the reference's Int.
-/
import Derived.Test.YtkhgaikfomcjeaaWireA
namespace Go.Proofs.Ytkhgaikfomcjeaa
open Go.RowKit

theorem u8_info : (Try.prog.info? 5).map (fun i => (i.zero, i.size, i.bytes)) = some (some (.int .u8 0), 1, 1) := by kernel_rfl

/-- What a round of the encoding loop keeps: the bytes so far, and those of what is left, are the whole. -/
def Left (whole pre : Wm.Bs) (z : Nat) : Prop := pre ++ Wm.encN z = whole
theorem Left.len {whole pre : Wm.Bs} {z : Nat} (h : Left whole pre z) : pre.length < whole.length := by
  unfold Left at h; rw [← h, List.length_append]; have := Wm.encN_pos z; omega
theorem Left.next {whole pre : Wm.Bs} {z : Nat} (h : Left whole pre z) (hz : 128 ≤ z) : Left whole (pre ++ [(z : Int) % 128 + 128]) (z / 128) := by
  unfold Left at h ⊢
  rw [← h, Wm.encN_big hz, List.append_assoc]
  congr 1
theorem Left.last {whole pre : Wm.Bs} {z : Nat} (h : Left whole pre z) (hz : z < 128) : pre ++ [(z : Int)] = whole := by
  unfold Left at h; rw [← h, Wm.encN_small hz]

theorem own_snoc {w : World} {B : Nat} {e : TypeId} {v : Value} {a : Wm.Bs} {x : Int} (h : w.ownsRow B e 1 v (a.length + 1) (U a ++ [Value.int .u8 x])) : w.ownsRow B e 1 v (a ++ [x]).length (U (a ++ [x])) := by
  have e1 : (a ++ [x]).length = a.length + 1 := by simp
  rw [e1, U_append]
  exact h

set_option maxRecDepth 100000 in
set_option maxHeartbeats 400000 in
theorem appendInt_any (B : Nat) (v : Value) (xs : Wm.Bs) (n : Int) (w : World) (hown : w.ownsRow B 5 1 v xs.length (U xs)) (hB : B ≤ w.heap.size)
    (h1 : -9223372036854775808 ≤ n) (h2 : n ≤ 9223372036854775807) (hm : xs.length + (Wm.encI n).length ≤ 140737488355328) :
    Calls Try.prog 29 #[v, .int .i64 n] w fun e w' => ∃ v', e = .returned v' ∧ w'.ownsRow B 5 1 v' (xs ++ Wm.encI n).length (U (xs ++ Wm.encI n)) ∧ Below B w w' := by
  obtain ⟨i0, hi, hz0, hz1, hz2⟩ := info_parts u8_info
  have hzl := Wm.zig_lt h1 h2
  have HL : Left (Wm.encI n) [] (Wm.zig n) := rfl
  go_enter Try.func29, Try.ntmps29
  go_wp2_with (go_at_call 35; refine (fold_any n _ h1 h2).mono ?_; rintro e w' ⟨rfl, rfl⟩)
  go_loopw [0, 5] (fun b z wr => ∃ (pre : Wm.Bs) (zz : Nat), z = .int .u64 zz ∧ zz < 18446744073709551616 ∧ Left (Wm.encI n) pre zz ∧ wr.ownsRow B 5 1 b (xs ++ pre).length (U (xs ++ pre)) ∧ Below B w wr)
    (fun _ z _ => (intOf z).toNat)
  case atStart => exact ⟨[], _, rfl, hzl, HL, by simpa using hown, Below.refl _ _⟩
  case round =>
    obtain ⟨pre, zz, rfl, hzz, hleft, hor, hbr⟩ := hrel
    have hpl := hleft.len
    have hap : (xs ++ pre).length = xs.length + pre.length := List.length_append
    have hap1 : (xs ++ pre).length ≤ xs.length + pre.length := by omega
    clear hap
    by_cases hbig : 128 ≤ zz
    · go_wp2_with (at_builtin; refine wpList_append_own _ rfl _ _ 29 rfl B 5 i0 (.int .u8 0) 1 1 Try.underlying29 hi hz0 hz1 hz2 rfl (by decide) _ _ _ rfl (hor.alloc _) ⟨wr.heap.size, 0, none⟩ 1 1 [.int .u8 _] rfl rfl (cell_one_new _ _ _) (one_int _ _) (by unfold maxLen; omega) (by omega) (by have := hbr.size; simp; omega) ?_; intro v' w1 hown' hgrow _)
      have hn := hleft.next hbig
      have hb1 : Below B w w1 := (hbr.alloc (by have := hbr.size; omega) _).grown hgrow (by have := hbr.size; simp; omega) (fun k hk => (hor.lt k hk).1)
      have ho2 := own_snoc hown'
      rw [List.append_assoc] at ho2
      clear hown' hgrow hor hleft
      go_wp2
      go_roundw
      case rel => exact ⟨_, zz / 128, by go_num, by omega, hn, ho2, hb1⟩
      case measure => simp [intOf]; omega
    · have hz : zz < 128 := by omega
      go_wp2_with (at_builtin; refine wpList_append_own _ rfl _ _ 29 rfl B 5 i0 (.int .u8 0) 1 1 Try.underlying29 hi hz0 hz1 hz2 rfl (by decide) _ _ _ rfl (hor.alloc _) ⟨wr.heap.size, 0, none⟩ 1 1 [.int .u8 _] rfl rfl (cell_one_new _ _ _) (one_int _ _) (by unfold maxLen; omega) (by omega) (by have := hbr.size; simp; omega) ?_; intro v' w1 hown' hgrow _)
      have hn := hleft.last hz
      have hb1 : Below B w w1 := (hbr.alloc (by have := hbr.size; omega) _).grown hgrow (by have := hbr.size; simp; omega) (fun k hk => (hor.lt k hk).1)
      have ho2 := own_snoc hown'
      rw [List.append_assoc, hn] at ho2
      clear hown' hgrow hor hleft hn
      go_wp2
      go_ret
      exact ⟨_, rfl, ho2, hb1⟩

/-- What the two encoders of an integer answer: a new slice that holds the encoding. -/
def Made (bs : Wm.Bs) (w : World) (e : Ending) (w' : World) : Prop := ∃ v, e = .returned v ∧ w'.ownsRow w.heap.size 5 1 v bs.length (U bs) ∧ Later w w'

/-- The same, the slice written out. -/
def MadeAs (bs : Wm.Bs) (w : World) (e : Ending) (w' : World) : Prop := ∃ A c, e = .returned (.slice A bs.length c) ∧ bs.length ≤ c ∧ c ≤ maxLen ∧ w'.ownsRow w.heap.size 5 1 (.slice A bs.length c) bs.length (U bs) ∧ Sl w' 1 A bs.length (U bs) ∧ Later w w'
theorem Made.as {bs : Wm.Bs} {w : World} {e : Ending} {w' : World} (h : Made bs w e w') : MadeAs bs w e w' := by
  obtain ⟨v, he, ho, hb⟩ := h
  obtain ⟨A, c, hv, h1, h2, h3, _⟩ := own_form ho
  rw [hv] at he ho
  exact ⟨A, c, he, h1, h2, ho, h3, hb⟩
theorem made_as {f : FuncId} {args : Array Value} {bs : Wm.Bs} {w : World} (h : Calls Try.prog f args w (Made bs w)) : Calls Try.prog f args w (MadeAs bs w) := h.mono fun _ _ hh => hh.as

set_option maxHeartbeats 400000 in
theorem wireInt_any (n : Int) (w : World) (h1 : -9223372036854775808 ≤ n) (h2 : n ≤ 9223372036854775807) :
    Calls Try.prog 19 #[.int .i64 n] w (Made (Wm.encI n) w) := by
  have hc := appendInt_any w.heap.size (.slice none 0 0) [] n w (World.ownsRow_nil _ _ _ _) (Nat.le_refl _) h1 h2 (by have := Wm.encI_len h1 h2; simp; omega)
  simp only [List.nil_append] at hc
  have H := Lib.hid hc; clear hc
  go_enter Try.func19, Try.ntmps19
  go_wp2_with (go_at_call 29; refine (H.out).mono ?_; rintro e w' ⟨v, rfl, ho, hb⟩)
  go_ret
  exact ⟨_, rfl, ho, hb⟩

set_option maxRecDepth 100000 in
set_option maxHeartbeats 400000 in
theorem refInt_any (n : Int) (w : World) (h1 : -9223372036854775808 ≤ n) (h2 : n ≤ 9223372036854775807) :
    Calls Try.prog 21 #[.int .i64 n] w (Made (Wm.encI n) w) := by
  obtain ⟨i0, hi, hz0, hz1, hz2⟩ := info_parts u8_info
  have hl := Wm.encI_len h1 h2
  have hzl := Wm.zig_lt h1 h2
  have HL : Left (Wm.encI n) [] (Wm.zig n) := rfl
  have hw : 0 ≤ n → (n * 2 : Int) = (Wm.zig n : Int) := fun h => by unfold Wm.zig; rw [if_pos h]; omega
  have hw2 : n < 0 → ((-1 - n) * 2 + 1 : Int) = (Wm.zig n : Int) := fun h => by unfold Wm.zig; rw [if_neg (by omega)]; omega
  have HW := Lib.hid hw; have HW2 := Lib.hid hw2; clear hw hw2
  rcases Int.lt_or_le n 0 with hn | hn
  all_goals
    go_enter Try.func21, Try.ntmps21
    go_wp2
    go_loopw [3, 4] (fun z b wr => ∃ (pre : Wm.Bs) (zz : Nat), z = .int .u64 zz ∧ zz < 18446744073709551616 ∧ Left (Wm.encI n) pre zz ∧ wr.ownsRow w.heap.size 5 1 b pre.length (U pre) ∧ Later w wr)
      (fun z _ _ => (intOf z).toNat)
    case atStart => exact ⟨[], _, by first | rw [HW2.out hn] | rw [HW.out hn], hzl, HL, World.ownsRow_nil _ _ _ _, Below.refl _ _⟩
    case round =>
      obtain ⟨pre, zz, rfl, hzz, hleft, hor, hbr⟩ := hrel
      have hpl := hleft.len
      by_cases hbig : 128 ≤ zz
      · go_wp2_with (at_builtin; refine wpList_append_own _ rfl _ _ 29 rfl w.heap.size 5 i0 (.int .u8 0) 1 1 Try.underlying29 hi hz0 hz1 hz2 rfl (by decide) _ _ _ rfl (hor.alloc _) ⟨wr.heap.size, 0, none⟩ 1 1 [.int .u8 _] rfl rfl (cell_one_new _ _ _) (one_int _ _) (by unfold maxLen; omega) (by omega) (by have := hbr.size; simp; omega) ?_; intro v' w1 hown' hgrow _)
        have hn' := hleft.next hbig
        have hb1 : Later w w1 := (hbr.alloc hbr.size _).grown hgrow (by have := hbr.size; simp; omega) (fun k hk => (hor.lt k hk).1)
        have ho2 := own_snoc hown'
        clear hown' hgrow hor hleft
        go_wp2
        go_roundw
        case rel => exact ⟨_, zz / 128, by go_num, by omega, hn', ho2, hb1⟩
        case measure => simp [intOf]; omega
      · have hz : zz < 128 := by omega
        go_wp2_with (at_builtin; refine wpList_append_own _ rfl _ _ 29 rfl w.heap.size 5 i0 (.int .u8 0) 1 1 Try.underlying29 hi hz0 hz1 hz2 rfl (by decide) _ _ _ rfl (hor.alloc _) ⟨wr.heap.size, 0, none⟩ 1 1 [.int .u8 _] rfl rfl (cell_one_new _ _ _) (one_int _ _) (by unfold maxLen; omega) (by omega) (by have := hbr.size; simp; omega) ?_; intro v' w1 hown' hgrow _)
        have hn' := hleft.last hz
        have hb1 : Later w w1 := (hbr.alloc hbr.size _).grown hgrow (by have := hbr.size; simp; omega) (fun k hk => (hor.lt k hk).1)
        have ho2 := own_snoc hown'
        rw [hn'] at ho2
        clear hown' hgrow hor hleft hn'
        go_wp2
        go_ret
        exact ⟨_, rfl, ho2, hb1⟩

end Go.Proofs.Ytkhgaikfomcjeaa
