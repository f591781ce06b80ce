/-
  THE WALKS OF wire.fold, appendInt, appendBytes, Bytes, and of the reference's Int and Bytes (layer 1).
-/
import Derived.Test.YtoigpokmlohhkaaDoorHashM
import Derived.Lib.AppendStr
namespace Go.Proofs.YtoigpokmlohhkaaDoor
open Go.RowKit


theorem not64 (b : Nat) (hb : b < 18446744073709551616) : bits .xor .u64 IntKind.u64.max (b : Int) = ((18446744073709551615 - b : Nat) : Int) := by
  have e2 : IntKind.u64.max = ((2 ^ 64 - 1 : Nat) : Int) := by decide
  rw [e2, bits_xor_u64_nat _ _ (by decide) (by omega), Lib.xor_ones64 _ (by omega)]

theorem fold_any (n : Int) (w : World) (h1 : -9223372036854775808 ≤ n) (h2 : n ≤ 9223372036854775807) :
    Calls Tryd.prog 109 #[.int .i64 n] w fun e w' => e = .returned (.int .u64 (Wm.zig n)) ∧ w = w' := by
  rcases Int.lt_or_le n 0 with hn | hn
  · have hw : IntKind.u64.wrap n = n + 18446744073709551616 := by rw [IntKind.wrap_u64]; omega
    have hz : bits .xor .u64 IntKind.u64.max (IntKind.u64.wrap (IntKind.u64.wrap n * 2)) = ((Wm.zig n : Nat) : Int) := by
      have := Lib.zigzag_neg h1 hn
      rw [this]; unfold Lib.zigzag Wm.zig; rfl
    have HZ := Lib.hid hz; clear hz hw
    go_enter Tryd.func109, Tryd.ntmps109
    go_wp2
    go_ret
    exact ⟨ret_int HZ.out, rfl⟩
  · have hz : ((Wm.zig n : Nat) : Int) = n * 2 := by unfold Wm.zig; rw [if_pos hn]; omega
    have HZ := Lib.hid hz; clear hz
    go_enter Tryd.func109, Tryd.ntmps109
    go_wp2
    go_ret
    exact ⟨ret_int HZ.out.symm, rfl⟩

/-- What a round of the encoding loop keeps: the bytes so far, and those of what is left, are the whole. -/
def Left (whole pre : Wm.Bs) (z : Nat) : Prop := pre ++ Wm.encN z = whole
theorem Left.len {whole pre : Wm.Bs} {z : Nat} (h : Left whole pre z) : pre.length < whole.length := by
  unfold Left at h; rw [← h, List.length_append]; have := Wm.encN_pos z; omega
theorem Left.next {whole pre : Wm.Bs} {z : Nat} (h : Left whole pre z) (hz : 128 ≤ z) : Left whole (pre ++ [(z : Int) % 128 + 128]) (z / 128) := by
  unfold Left at h ⊢
  rw [← h, Wm.encN_big hz, List.append_assoc]
  congr 1
theorem Left.last {whole pre : Wm.Bs} {z : Nat} (h : Left whole pre z) (hz : z < 128) : pre ++ [(z : Int)] = whole := by
  unfold Left at h; rw [← h, Wm.encN_small hz]

set_option maxRecDepth 100000 in
set_option maxHeartbeats 400000 in
theorem appendInt_any (B : Nat) (v : Value) (xs : Wm.Bs) (n : Int) (w : World) (hown : w.ownsRow B 5 1 v xs.length (U xs)) (hB : B ≤ w.heap.size)
    (h1 : -9223372036854775808 ≤ n) (h2 : n ≤ 9223372036854775807) (hm : xs.length + (Wm.encI n).length ≤ 140737488355328) :
    Calls Tryd.prog 104 #[v, .int .i64 n] w fun e w' => ∃ v', e = .returned v' ∧ w'.ownsRow B 5 1 v' (xs ++ Wm.encI n).length (U (xs ++ Wm.encI n)) ∧ Below B w w' := by
  obtain ⟨i0, hi, hz0, hz1, hz2⟩ := info_parts u8_info
  have hzl := Wm.zig_lt h1 h2
  have HL : Left (Wm.encI n) [] (Wm.zig n) := rfl
  go_enter Tryd.func104, Tryd.ntmps104
  go_wp2_with (go_at_call 109; refine (fold_any n _ h1 h2).mono ?_; rintro e w' ⟨rfl, rfl⟩)
  go_loopw [0, 5] (fun b z wr => ∃ (pre : Wm.Bs) (zz : Nat), z = .int .u64 zz ∧ zz < 18446744073709551616 ∧ Left (Wm.encI n) pre zz ∧ wr.ownsRow B 5 1 b (xs ++ pre).length (U (xs ++ pre)) ∧ Below B w wr)
    (fun _ z _ => (intOf z).toNat)
  case atStart => exact ⟨[], _, rfl, hzl, HL, by simpa using hown, Below.refl _ _⟩
  case round =>
    obtain ⟨pre, zz, rfl, hzz, hleft, hor, hbr⟩ := hrel
    have hpl := hleft.len
    have hap : (xs ++ pre).length = xs.length + pre.length := List.length_append
    have hap1 : (xs ++ pre).length ≤ xs.length + pre.length := by omega
    clear hap
    by_cases hbig : 128 ≤ zz
    · go_wp2_with (at_builtin; refine wpList_append_own _ rfl _ _ 33 rfl B 5 i0 (.int .u8 0) 1 1 Tryd.underlying33 hi hz0 hz1 hz2 rfl (by decide) _ _ _ rfl (hor.alloc _) ⟨wr.heap.size, 0, none⟩ 1 1 [.int .u8 _] rfl rfl (cell_one_new _ _ _) (one_int _ _) (by unfold maxLen; omega) (by omega) (by have := hbr.size; simp; omega) ?_; intro v' w1 hown' hgrow _)
      have hn := hleft.next hbig
      have hb1 : Below B w w1 := (hbr.alloc (by have := hbr.size; omega) _).grown hgrow (by have := hbr.size; simp; omega) (fun k hk => (hor.lt k hk).1)
      have ho2 := own_snoc hown'
      rw [List.append_assoc] at ho2
      clear hown' hgrow hor hleft
      go_wp2
      go_roundw
      case rel => exact ⟨_, zz / 128, by go_num, by omega, hn, ho2, hb1⟩
      case measure => simp [intOf]; omega
    · have hz : zz < 128 := by omega
      go_wp2_with (at_builtin; refine wpList_append_own _ rfl _ _ 33 rfl B 5 i0 (.int .u8 0) 1 1 Tryd.underlying33 hi hz0 hz1 hz2 rfl (by decide) _ _ _ rfl (hor.alloc _) ⟨wr.heap.size, 0, none⟩ 1 1 [.int .u8 _] rfl rfl (cell_one_new _ _ _) (one_int _ _) (by unfold maxLen; omega) (by omega) (by have := hbr.size; simp; omega) ?_; intro v' w1 hown' hgrow _)
      have hn := hleft.last hz
      have hb1 : Below B w w1 := (hbr.alloc (by have := hbr.size; omega) _).grown hgrow (by have := hbr.size; simp; omega) (fun k hk => (hor.lt k hk).1)
      have ho2 := own_snoc hown'
      rw [List.append_assoc, hn] at ho2
      clear hown' hgrow hor hleft hn
      go_wp2
      go_ret
      exact ⟨_, rfl, ho2, hb1⟩

def MadeV (bs : Wm.Bs) (w : World) (e : Ending) (w' : World) : Prop := ∃ v, e = .returned v ∧ w'.ownsRow w.heap.size 5 1 v bs.length (U bs) ∧ Later w w'

set_option maxRecDepth 100000 in
set_option maxHeartbeats 400000 in
theorem refInt_any (n : Int) (w : World) (h1 : -9223372036854775808 ≤ n) (h2 : n ≤ 9223372036854775807) :
    Calls Tryd.prog 94 #[.int .i64 n] w (MadeV (Wm.encI n) w) := by
  obtain ⟨i0, hi, hz0, hz1, hz2⟩ := info_parts u8_info
  have hl := Wm.encI_len h1 h2
  have hzl := Wm.zig_lt h1 h2
  have HL : Left (Wm.encI n) [] (Wm.zig n) := rfl
  have hw : 0 ≤ n → (n * 2 : Int) = (Wm.zig n : Int) := fun h => by unfold Wm.zig; rw [if_pos h]; omega
  have hw2 : n < 0 → ((-1 - n) * 2 + 1 : Int) = (Wm.zig n : Int) := fun h => by unfold Wm.zig; rw [if_neg (by omega)]; omega
  have HW := Lib.hid hw; have HW2 := Lib.hid hw2; clear hw hw2
  rcases Int.lt_or_le n 0 with hn | hn
  all_goals
    go_enter Tryd.func94, Tryd.ntmps94
    go_wp2
    go_loopw [3, 4] (fun z b wr => ∃ (pre : Wm.Bs) (zz : Nat), z = .int .u64 zz ∧ zz < 18446744073709551616 ∧ Left (Wm.encI n) pre zz ∧ wr.ownsRow w.heap.size 5 1 b pre.length (U pre) ∧ Later w wr)
      (fun z _ _ => (intOf z).toNat)
    case atStart => exact ⟨[], _, by first | rw [HW2.out hn] | rw [HW.out hn], hzl, HL, World.ownsRow_nil _ _ _ _, Below.refl _ _⟩
    case round =>
      obtain ⟨pre, zz, rfl, hzz, hleft, hor, hbr⟩ := hrel
      have hpl := hleft.len
      by_cases hbig : 128 ≤ zz
      · go_wp2_with (at_builtin; refine wpList_append_own _ rfl _ _ 33 rfl w.heap.size 5 i0 (.int .u8 0) 1 1 Tryd.underlying33 hi hz0 hz1 hz2 rfl (by decide) _ _ _ rfl (hor.alloc _) ⟨wr.heap.size, 0, none⟩ 1 1 [.int .u8 _] rfl rfl (cell_one_new _ _ _) (one_int _ _) (by unfold maxLen; omega) (by omega) (by have := hbr.size; simp; omega) ?_; intro v' w1 hown' hgrow _)
        have hn' := hleft.next hbig
        have hb1 : Later w w1 := (hbr.alloc hbr.size _).grown hgrow (by have := hbr.size; simp; omega) (fun k hk => (hor.lt k hk).1)
        have ho2 := own_snoc hown'
        clear hown' hgrow hor hleft
        go_wp2
        go_roundw
        case rel => exact ⟨_, zz / 128, by go_num, by omega, hn', ho2, hb1⟩
        case measure => simp [intOf]; omega
      · have hz : zz < 128 := by omega
        go_wp2_with (at_builtin; refine wpList_append_own _ rfl _ _ 33 rfl w.heap.size 5 i0 (.int .u8 0) 1 1 Tryd.underlying33 hi hz0 hz1 hz2 rfl (by decide) _ _ _ rfl (hor.alloc _) ⟨wr.heap.size, 0, none⟩ 1 1 [.int .u8 _] rfl rfl (cell_one_new _ _ _) (one_int _ _) (by unfold maxLen; omega) (by omega) (by have := hbr.size; simp; omega) ?_; intro v' w1 hown' hgrow _)
        have hn' := hleft.last hz
        have hb1 : Later w w1 := (hbr.alloc hbr.size _).grown hgrow (by have := hbr.size; simp; omega) (fun k hk => (hor.lt k hk).1)
        have ho2 := own_snoc hown'
        rw [hn'] at ho2
        clear hown' hgrow hor hleft hn'
        go_wp2
        go_ret
        exact ⟨_, rfl, ho2, hb1⟩

theorem strCells_U (s : ByteArray) : Lib.strCells s = U (Wm.ofS s) := by simp [Lib.strCells, U, Wm.ofS]
theorem own_str {w : World} {B : Nat} {e : TypeId} {v : Value} {a : Wm.Bs} {s : ByteArray} (h : w.ownsRow B e 1 v (a.length + s.size) (U a ++ Lib.strCells s)) : w.ownsRow B e 1 v (a ++ Wm.ofS s).length (U (a ++ Wm.ofS s)) := by
  rw [List.length_append, Wm.ofS_length, U_append, ← strCells_U]; exact h

set_option maxHeartbeats 400000 in
theorem appendBytes_any (B : Nat) (v : Value) (xs : Wm.Bs) (s : ByteArray) (w : World) (hown : w.ownsRow B 5 1 v xs.length (U xs)) (hB : B ≤ w.heap.size)
    (hs : s.size ≤ 9223372036854775807) (hm : xs.length + (Wm.encB (Wm.ofS s)).length ≤ 140737488355328) :
    Calls Tryd.prog 93 #[v, .string s] w fun e w' => ∃ v', e = .returned v' ∧ w'.ownsRow B 5 1 v' (xs ++ Wm.encB (Wm.ofS s)).length (U (xs ++ Wm.encB (Wm.ofS s))) ∧ Below B w w' := by
  obtain ⟨i0, hi, hz0, hz1, hz2⟩ := info_parts u8_info
  have he : (Wm.encB (Wm.ofS s)).length = (Wm.encI s.size).length + s.size := by unfold Wm.encB; rw [List.length_append, Wm.ofS_length]
  have hc := appendInt_any B v xs s.size w hown hB (by omega) (by omega) (by omega)
  have hm2 : (xs ++ Wm.encI s.size).length + s.size ≤ 140737488355328 := by rw [List.length_append]; omega
  have heq : xs ++ Wm.encB (Wm.ofS s) = (xs ++ Wm.encI s.size) ++ Wm.ofS s := by unfold Wm.encB; rw [Wm.ofS_length, List.append_assoc]
  rw [heq]
  clear he heq hm
  have H := Lib.hid hc; clear hc
  go_enter Tryd.func93, Tryd.ntmps93
  go_wp2_with (first
    | (go_at_call 104; refine (H.out).mono ?_; rintro e w1 ⟨v1, rfl, ho, hb⟩)
    | (at_builtin; refine Lib.wpList_append_own_string _ rfl _ _ 33 9 rfl B 5 i0 Tryd.underlying33 Tryd.underlying9 hi hz0 hz1 hz2 _ _ _ rfl ho s rfl (by unfold maxLen; omega) hm2 (by have := hb.size; omega) ?_; intro v2 w2 ho2 hg2 _))
  go_ret
  exact ⟨_, rfl, own_str ho2, hb.grown hg2 (by have := hb.size; omega) (fun k hk => (ho.lt k hk).1)⟩

set_option maxHeartbeats 400000 in
theorem wireBytes_any (s : ByteArray) (w : World) (hs : s.size ≤ 9223372036854775807) (hm : (Wm.encB (Wm.ofS s)).length ≤ 140737488355328) :
    Calls Tryd.prog 66 #[.string s] w (MadeV (Wm.encB (Wm.ofS s)) w) := by
  have hc := appendBytes_any w.heap.size (.slice none 0 0) [] s w (World.ownsRow_nil _ _ _ _) (Nat.le_refl _) hs (by simpa using hm)
  simp only [List.nil_append] at hc
  have H := Lib.hid hc; clear hc
  go_enter Tryd.func66, Tryd.ntmps66
  go_wp2_with (go_at_call 93; refine (H.out).mono ?_; rintro e w' ⟨v, rfl, ho, hb⟩)
  go_ret
  exact ⟨_, rfl, ho, hb⟩

set_option maxHeartbeats 400000 in
theorem ref01Bytes_any (s : ByteArray) (w : World) (hs : s.size ≤ 9223372036854775807) (hm : (Wm.encB (Wm.ofS s)).length ≤ 140737488355328) :
    Calls Tryd.prog 68 #[.string s] w (MadeV (Wm.encB (Wm.ofS s)) w) := by
  obtain ⟨i0, hi, hz0, hz1, hz2⟩ := info_parts u8_info
  have he : (Wm.encB (Wm.ofS s)).length = (Wm.encI s.size).length + s.size := by unfold Wm.encB; rw [List.length_append, Wm.ofS_length]
  have hc := refInt_any s.size w (by omega) (by omega)
  have hm2 : (Wm.encI s.size).length + s.size ≤ 140737488355328 := by omega
  have heq : Wm.encB (Wm.ofS s) = Wm.encI s.size ++ Wm.ofS s := by unfold Wm.encB; rw [Wm.ofS_length]
  rw [heq]
  clear he heq hm
  have H := Lib.hid hc; clear hc
  go_enter Tryd.func68, Tryd.ntmps68
  go_wp2_with (first
    | (go_at_call 94; refine (H.out).mono ?_; rintro e w1 ⟨v1, rfl, ho, hb⟩)
    | (at_builtin; refine Lib.wpList_append_own_string _ rfl _ _ 33 9 rfl w.heap.size 5 i0 Tryd.underlying33 Tryd.underlying9 hi hz0 hz1 hz2 _ _ _ rfl ho s rfl (by unfold maxLen; omega) hm2 hb.size ?_; intro v2 w2 ho2 hg2 _))
  go_ret
  exact ⟨_, rfl, own_str ho2, hb.grown hg2 hb.size (fun k hk => (ho.lt k hk).1)⟩

theorem madeV_as {f : FuncId} {args : Array Value} {bs : Wm.Bs} {w : World} (h : Calls Tryd.prog f args w (MadeV bs w)) : Calls Tryd.prog f args w (Made bs w) :=
  h.mono fun e w' ⟨v, he, ho, hb⟩ => by subst he; exact made_of ho hb
theorem ofS_sb (s : ByteArray) : Wm.ofS s = sb s := rfl

end Go.Proofs.YtoigpokmlohhkaaDoor
