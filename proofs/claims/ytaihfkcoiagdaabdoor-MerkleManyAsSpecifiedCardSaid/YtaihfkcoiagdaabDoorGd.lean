/-
  THE WALKS OF hash.Sum, and of wire.Bytes, which hash.Of calls.
-/
import Derived.Test.YtaihfkcoiagdaabDoorGc
import Derived.Test.YtaihfkcoiagdaabDoorGa
import Derived.Test.YtaihfkcoiagdaabDoorRows
import Derived.Test.YtaihfkcoiagdaabDoorCards
import Derived.Test.YtaihfkcoiagdaabDoorTie
import Derived.Lib.Zigzag
import Derived.Lib.AppendStr
import Derived.Deep.RegionHeld3
import Derived.Laws.Cover3
import Derived.Deep.RegionLaw
import Derived.Deep.AppendLies
import Derived.ChangeKeysEq
import Derived.Lib.SlBytesConst
import Derived.WalkKit
import Derived.ProofKit
import Derived.OpenShut
import Derived.SliceStrings
import Derived.Deep.Slices
import Derived.ArgAppend
import Derived.Deep.DeepHandedRow
import Derived.Lib.LaidTab
import Derived.SizedLaws
import Derived.Laws.IdiomStrings
namespace Go.Proofs.YtaihfkcoiagdaabDoor
open Go.RowKit

/-- The hash of bytes, as cells. -/
def shaC (b : Wm.Bs) : List Value := U (iv8 (Hs.sha (bv b)))
theorem shaC_len (b : Wm.Bs) : (shaC b).length = 32 := fresh_out _
theorem shaC_one (b : Wm.Bs) : ∀ v ∈ shaC b, v.oneCell' = true := U_one _

end Go.Proofs.YtaihfkcoiagdaabDoor

/-
  THE WALKS OF wire.fold, appendInt, appendBytes, Bytes, and of the reference's Int and Bytes (layer 1).
-/
namespace Go.Proofs.YtaihfkcoiagdaabDoor
open Go.RowKit


theorem not64 (b : Nat) (hb : b < 18446744073709551616) : bits .xor .u64 IntKind.u64.max (b : Int) = ((18446744073709551615 - b : Nat) : Int) := by
  have e2 : IntKind.u64.max = ((2 ^ 64 - 1 : Nat) : Int) := by decide
  rw [e2, bits_xor_u64_nat _ _ (by decide) (by omega), Lib.xor_ones64 _ (by omega)]

theorem fold_any (n : Int) (w : World) (h1 : -9223372036854775808 ≤ n) (h2 : n ≤ 9223372036854775807) :
    Calls Tryd.prog 87 #[.int .i64 n] w fun e w' => e = .returned (.int .u64 (Wm.zig n)) ∧ w = w' := by
  rcases Int.lt_or_le n 0 with hn | hn
  · have hw : IntKind.u64.wrap n = n + 18446744073709551616 := by rw [IntKind.wrap_u64]; omega
    have hz : bits .xor .u64 IntKind.u64.max (IntKind.u64.wrap (IntKind.u64.wrap n * 2)) = ((Wm.zig n : Nat) : Int) := by
      have := Lib.zigzag_neg h1 hn
      rw [this]; unfold Lib.zigzag Wm.zig; rfl
    have HZ := Lib.hid hz; clear hz hw
    go_enter Tryd.func87, Tryd.ntmps87
    go_wp2
    go_ret
    exact ⟨ret_int HZ.out, rfl⟩
  · have hz : ((Wm.zig n : Nat) : Int) = n * 2 := by unfold Wm.zig; rw [if_pos hn]; omega
    have HZ := Lib.hid hz; clear hz
    go_enter Tryd.func87, Tryd.ntmps87
    go_wp2
    go_ret
    exact ⟨ret_int HZ.out.symm, rfl⟩

/-- What a round of the encoding loop keeps: the bytes so far, and those of what is left, are the whole. -/
def Left (whole pre : Wm.Bs) (z : Nat) : Prop := pre ++ Wm.encN z = whole
theorem Left.len {whole pre : Wm.Bs} {z : Nat} (h : Left whole pre z) : pre.length < whole.length := by
  unfold Left at h; rw [← h, List.length_append]; have := Wm.encN_pos z; omega
theorem Left.next {whole pre : Wm.Bs} {z : Nat} (h : Left whole pre z) (hz : 128 ≤ z) : Left whole (pre ++ [(z : Int) % 128 + 128]) (z / 128) := by
  unfold Left at h ⊢
  rw [← h, Wm.encN_big hz, List.append_assoc]
  congr 1
theorem Left.last {whole pre : Wm.Bs} {z : Nat} (h : Left whole pre z) (hz : z < 128) : pre ++ [(z : Int)] = whole := by
  unfold Left at h; rw [← h, Wm.encN_small hz]

set_option maxRecDepth 100000 in
set_option maxHeartbeats 400000 in
theorem appendInt_any (B : Nat) (v : Value) (xs : Wm.Bs) (n : Int) (w : World) (hown : w.ownsRow B 5 1 v xs.length (U xs)) (hB : B ≤ w.heap.size)
    (h1 : -9223372036854775808 ≤ n) (h2 : n ≤ 9223372036854775807) (hm : xs.length + (Wm.encI n).length ≤ 140737488355328) :
    Calls Tryd.prog 81 #[v, .int .i64 n] w fun e w' => ∃ v', e = .returned v' ∧ w'.ownsRow B 5 1 v' (xs ++ Wm.encI n).length (U (xs ++ Wm.encI n)) ∧ Below B w w' := by
  obtain ⟨i0, hi, hz0, hz1, hz2⟩ := info_parts u8_info
  have hzl := Wm.zig_lt h1 h2
  have HL : Left (Wm.encI n) [] (Wm.zig n) := rfl
  go_enter Tryd.func81, Tryd.ntmps81
  go_wp2_with (go_at_call 87; refine (fold_any n _ h1 h2).mono ?_; rintro e w' ⟨rfl, rfl⟩)
  go_loopw [0, 5] (fun b z wr => ∃ (pre : Wm.Bs) (zz : Nat), z = .int .u64 zz ∧ zz < 18446744073709551616 ∧ Left (Wm.encI n) pre zz ∧ wr.ownsRow B 5 1 b (xs ++ pre).length (U (xs ++ pre)) ∧ Below B w wr)
    (fun _ z _ => (intOf z).toNat)
  case atStart => exact ⟨[], _, rfl, hzl, HL, by simpa using hown, Below.refl _ _⟩
  case round =>
    obtain ⟨pre, zz, rfl, hzz, hleft, hor, hbr⟩ := hrel
    have hpl := hleft.len
    have hap : (xs ++ pre).length = xs.length + pre.length := List.length_append
    have hap1 : (xs ++ pre).length ≤ xs.length + pre.length := by omega
    clear hap
    by_cases hbig : 128 ≤ zz
    · go_wp2_with (at_builtin; refine wpList_append_own _ rfl _ _ 75 rfl B 5 i0 (.int .u8 0) 1 1 Tryd.underlying75 hi hz0 hz1 hz2 rfl (by decide) _ _ _ rfl (hor.alloc _) ⟨wr.heap.size, 0, none⟩ 1 1 [.int .u8 _] rfl rfl (cell_one_new _ _ _) (one_int _ _) (by unfold maxLen; omega) (by omega) (by have := hbr.size; simp; omega) ?_; intro v' w1 hown' hgrow _)
      have hn := hleft.next hbig
      have hb1 : Below B w w1 := (hbr.alloc (by have := hbr.size; omega) _).grown hgrow (by have := hbr.size; simp; omega) (fun k hk => (hor.lt k hk).1)
      have ho2 := own_snoc hown'
      rw [List.append_assoc] at ho2
      clear hown' hgrow hor hleft
      go_wp2
      go_roundw
      case rel => exact ⟨_, zz / 128, by go_num, by omega, hn, ho2, hb1⟩
      case measure => simp [intOf]; omega
    · have hz : zz < 128 := by omega
      go_wp2_with (at_builtin; refine wpList_append_own _ rfl _ _ 75 rfl B 5 i0 (.int .u8 0) 1 1 Tryd.underlying75 hi hz0 hz1 hz2 rfl (by decide) _ _ _ rfl (hor.alloc _) ⟨wr.heap.size, 0, none⟩ 1 1 [.int .u8 _] rfl rfl (cell_one_new _ _ _) (one_int _ _) (by unfold maxLen; omega) (by omega) (by have := hbr.size; simp; omega) ?_; intro v' w1 hown' hgrow _)
      have hn := hleft.last hz
      have hb1 : Below B w w1 := (hbr.alloc (by have := hbr.size; omega) _).grown hgrow (by have := hbr.size; simp; omega) (fun k hk => (hor.lt k hk).1)
      have ho2 := own_snoc hown'
      rw [List.append_assoc, hn] at ho2
      clear hown' hgrow hor hleft hn
      go_wp2
      go_ret
      exact ⟨_, rfl, ho2, hb1⟩

def MadeV (bs : Wm.Bs) (w : World) (e : Ending) (w' : World) : Prop := ∃ v, e = .returned v ∧ w'.ownsRow w.heap.size 5 1 v bs.length (U bs) ∧ Later w w'

set_option maxRecDepth 100000 in
set_option maxHeartbeats 400000 in
theorem refInt_any (n : Int) (w : World) (h1 : -9223372036854775808 ≤ n) (h2 : n ≤ 9223372036854775807) :
    Calls Tryd.prog 85 #[.int .i64 n] w (MadeV (Wm.encI n) w) := by
  obtain ⟨i0, hi, hz0, hz1, hz2⟩ := info_parts u8_info
  have hl := Wm.encI_len h1 h2
  have hzl := Wm.zig_lt h1 h2
  have HL : Left (Wm.encI n) [] (Wm.zig n) := rfl
  have hw : 0 ≤ n → (n * 2 : Int) = (Wm.zig n : Int) := fun h => by unfold Wm.zig; rw [if_pos h]; omega
  have hw2 : n < 0 → ((-1 - n) * 2 + 1 : Int) = (Wm.zig n : Int) := fun h => by unfold Wm.zig; rw [if_neg (by omega)]; omega
  have HW := Lib.hid hw; have HW2 := Lib.hid hw2; clear hw hw2
  rcases Int.lt_or_le n 0 with hn | hn
  all_goals
    go_enter Tryd.func85, Tryd.ntmps85
    go_wp2
    go_loopw [3, 4] (fun z b wr => ∃ (pre : Wm.Bs) (zz : Nat), z = .int .u64 zz ∧ zz < 18446744073709551616 ∧ Left (Wm.encI n) pre zz ∧ wr.ownsRow w.heap.size 5 1 b pre.length (U pre) ∧ Later w wr)
      (fun z _ _ => (intOf z).toNat)
    case atStart => exact ⟨[], _, by first | rw [HW2.out hn] | rw [HW.out hn], hzl, HL, World.ownsRow_nil _ _ _ _, Below.refl _ _⟩
    case round =>
      obtain ⟨pre, zz, rfl, hzz, hleft, hor, hbr⟩ := hrel
      have hpl := hleft.len
      by_cases hbig : 128 ≤ zz
      · go_wp2_with (at_builtin; refine wpList_append_own _ rfl _ _ 75 rfl w.heap.size 5 i0 (.int .u8 0) 1 1 Tryd.underlying75 hi hz0 hz1 hz2 rfl (by decide) _ _ _ rfl (hor.alloc _) ⟨wr.heap.size, 0, none⟩ 1 1 [.int .u8 _] rfl rfl (cell_one_new _ _ _) (one_int _ _) (by unfold maxLen; omega) (by omega) (by have := hbr.size; simp; omega) ?_; intro v' w1 hown' hgrow _)
        have hn' := hleft.next hbig
        have hb1 : Later w w1 := (hbr.alloc hbr.size _).grown hgrow (by have := hbr.size; simp; omega) (fun k hk => (hor.lt k hk).1)
        have ho2 := own_snoc hown'
        clear hown' hgrow hor hleft
        go_wp2
        go_roundw
        case rel => exact ⟨_, zz / 128, by go_num, by omega, hn', ho2, hb1⟩
        case measure => simp [intOf]; omega
      · have hz : zz < 128 := by omega
        go_wp2_with (at_builtin; refine wpList_append_own _ rfl _ _ 75 rfl w.heap.size 5 i0 (.int .u8 0) 1 1 Tryd.underlying75 hi hz0 hz1 hz2 rfl (by decide) _ _ _ rfl (hor.alloc _) ⟨wr.heap.size, 0, none⟩ 1 1 [.int .u8 _] rfl rfl (cell_one_new _ _ _) (one_int _ _) (by unfold maxLen; omega) (by omega) (by have := hbr.size; simp; omega) ?_; intro v' w1 hown' hgrow _)
        have hn' := hleft.last hz
        have hb1 : Later w w1 := (hbr.alloc hbr.size _).grown hgrow (by have := hbr.size; simp; omega) (fun k hk => (hor.lt k hk).1)
        have ho2 := own_snoc hown'
        rw [hn'] at ho2
        clear hown' hgrow hor hleft hn'
        go_wp2
        go_ret
        exact ⟨_, rfl, ho2, hb1⟩

theorem strCells_U (s : ByteArray) : Lib.strCells s = U (Wm.ofS s) := by simp [Lib.strCells, U, Wm.ofS]
theorem own_str {w : World} {B : Nat} {e : TypeId} {v : Value} {a : Wm.Bs} {s : ByteArray} (h : w.ownsRow B e 1 v (a.length + s.size) (U a ++ Lib.strCells s)) : w.ownsRow B e 1 v (a ++ Wm.ofS s).length (U (a ++ Wm.ofS s)) := by
  rw [List.length_append, Wm.ofS_length, U_append, ← strCells_U]; exact h

set_option maxHeartbeats 400000 in
theorem appendBytes_any (B : Nat) (v : Value) (xs : Wm.Bs) (s : ByteArray) (w : World) (hown : w.ownsRow B 5 1 v xs.length (U xs)) (hB : B ≤ w.heap.size)
    (hs : s.size ≤ 9223372036854775807) (hm : xs.length + (Wm.encB (Wm.ofS s)).length ≤ 140737488355328) :
    Calls Tryd.prog 70 #[v, .string s] w fun e w' => ∃ v', e = .returned v' ∧ w'.ownsRow B 5 1 v' (xs ++ Wm.encB (Wm.ofS s)).length (U (xs ++ Wm.encB (Wm.ofS s))) ∧ Below B w w' := by
  obtain ⟨i0, hi, hz0, hz1, hz2⟩ := info_parts u8_info
  have he : (Wm.encB (Wm.ofS s)).length = (Wm.encI s.size).length + s.size := by unfold Wm.encB; rw [List.length_append, Wm.ofS_length]
  have hc := appendInt_any B v xs s.size w hown hB (by omega) (by omega) (by omega)
  have hm2 : (xs ++ Wm.encI s.size).length + s.size ≤ 140737488355328 := by rw [List.length_append]; omega
  have heq : xs ++ Wm.encB (Wm.ofS s) = (xs ++ Wm.encI s.size) ++ Wm.ofS s := by unfold Wm.encB; rw [Wm.ofS_length, List.append_assoc]
  rw [heq]
  clear he heq hm
  have H := Lib.hid hc; clear hc
  go_enter Tryd.func70, Tryd.ntmps70
  go_wp2_with (first
    | (go_at_call 81; refine (H.out).mono ?_; rintro e w1 ⟨v1, rfl, ho, hb⟩)
    | (at_builtin; refine Lib.wpList_append_own_string _ rfl _ _ 75 9 rfl B 5 i0 Tryd.underlying75 Tryd.underlying9 hi hz0 hz1 hz2 _ _ _ rfl ho s rfl (by unfold maxLen; omega) hm2 (by have := hb.size; omega) ?_; intro v2 w2 ho2 hg2 _))
  go_ret
  exact ⟨_, rfl, own_str ho2, hb.grown hg2 (by have := hb.size; omega) (fun k hk => (ho.lt k hk).1)⟩

set_option maxHeartbeats 400000 in
theorem wireBytes_any (s : ByteArray) (w : World) (hs : s.size ≤ 9223372036854775807) (hm : (Wm.encB (Wm.ofS s)).length ≤ 140737488355328) :
    Calls Tryd.prog 58 #[.string s] w (MadeV (Wm.encB (Wm.ofS s)) w) := by
  have hc := appendBytes_any w.heap.size (.slice none 0 0) [] s w (World.ownsRow_nil _ _ _ _) (Nat.le_refl _) hs (by simpa using hm)
  simp only [List.nil_append] at hc
  have H := Lib.hid hc; clear hc
  go_enter Tryd.func58, Tryd.ntmps58
  go_wp2_with (go_at_call 70; refine (H.out).mono ?_; rintro e w' ⟨v, rfl, ho, hb⟩)
  go_ret
  exact ⟨_, rfl, ho, hb⟩

set_option maxHeartbeats 400000 in
theorem ref01Bytes_any (s : ByteArray) (w : World) (hs : s.size ≤ 9223372036854775807) (hm : (Wm.encB (Wm.ofS s)).length ≤ 140737488355328) :
    Calls Tryd.prog 73 #[.string s] w (MadeV (Wm.encB (Wm.ofS s)) w) := by
  obtain ⟨i0, hi, hz0, hz1, hz2⟩ := info_parts u8_info
  have he : (Wm.encB (Wm.ofS s)).length = (Wm.encI s.size).length + s.size := by unfold Wm.encB; rw [List.length_append, Wm.ofS_length]
  have hc := refInt_any s.size w (by omega) (by omega)
  have hm2 : (Wm.encI s.size).length + s.size ≤ 140737488355328 := by omega
  have heq : Wm.encB (Wm.ofS s) = Wm.encI s.size ++ Wm.ofS s := by unfold Wm.encB; rw [Wm.ofS_length]
  rw [heq]
  clear he heq hm
  have H := Lib.hid hc; clear hc
  go_enter Tryd.func73, Tryd.ntmps73
  go_wp2_with (first
    | (go_at_call 85; refine (H.out).mono ?_; rintro e w1 ⟨v1, rfl, ho, hb⟩)
    | (at_builtin; refine Lib.wpList_append_own_string _ rfl _ _ 75 9 rfl w.heap.size 5 i0 Tryd.underlying75 Tryd.underlying9 hi hz0 hz1 hz2 _ _ _ rfl ho s rfl (by unfold maxLen; omega) hm2 hb.size ?_; intro v2 w2 ho2 hg2 _))
  go_ret
  exact ⟨_, rfl, own_str ho2, hb.grown hg2 hb.size (fun k hk => (ho.lt k hk).1)⟩

theorem madeV_as {f : FuncId} {args : Array Value} {bs : Wm.Bs} {w : World} (h : Calls Tryd.prog f args w (MadeV bs w)) : Calls Tryd.prog f args w (Made bs w) :=
  h.mono fun e w' ⟨v, he, ho, hb⟩ => by subst he; exact made_of ho hb
theorem ofS_sb (s : ByteArray) : Wm.ofS s = sb s := rfl

end Go.Proofs.YtaihfkcoiagdaabDoor

/-
  THE WALK OF hash.Of: a digest of parts with a tag.
-/
namespace Go.Proofs.YtaihfkcoiagdaabDoor
open Go.RowKit

def Strs (l : List ByteArray) : List Value := l.map .string
theorem Sl.str {w : World} {A : Option Addr} {n : Nat} {l : List ByteArray} (h : Sl w 1 A n (Strs l)) {k : Nat} (hk : k < n) : ∃ ad s, A = some ad ∧ ad.block < w.heap.size ∧ w.cell? (ad.add k) = some (.string s) ∧ s ∈ l ∧ Hid (l.take (k + 1) = l.take k ++ [s] ∧ l[k]? = some s) := by
  obtain ⟨ad, u, e, hb, hu, hc⟩ := h.at1 hk
  have hl : k < l.length := by have := h.1; simp only [Strs, List.length_map] at this; omega
  simp only [Strs, List.getElem?_map, List.getElem?_eq_getElem hl, Option.map_some] at hu
  cases hu
  exact ⟨ad, l[k], e, hb, hc, List.getElem_mem hl, Lib.hid ⟨List.take_succ_eq_append_getElem hl, List.getElem?_eq_getElem hl⟩⟩
theorem Sl.slen {w : World} {A : Option Addr} {n : Nat} {l : List ByteArray} (h : Sl w 1 A n (Strs l)) : l.length = n := by
  have := h.1; simp only [Strs, List.length_map] at this; omega

/-- The input that Of hashes. -/
def inputB (tag : Int) (l : List ByteArray) : Wm.Bs := [tag % 256] ++ l.flatMap fun s => Wm.encB (sb s)
theorem inputB_snoc (tag : Int) (l : List ByteArray) (s : ByteArray) : inputB tag (l ++ [s]) = inputB tag l ++ Wm.encB (sb s) := by
  unfold inputB; simp
theorem encB_bs (s : ByteArray) : Wm.isBs (Wm.encB (sb s)) := Wm.encB_bytes (sb_bs s)
theorem inputB_bs (tag : Int) (l : List ByteArray) : Wm.isBs (inputB tag l) := bs_app (fun x hx => by simp at hx; omega) (fun x hx => by
  obtain ⟨s, _, h⟩ := List.mem_flatMap.1 hx
  exact encB_bs s x h)
theorem encB_le (s : ByteArray) (h : s.size ≤ 9223372036854775807) : (Wm.encB (sb s)).length ≤ s.size + 10 := by
  rw [Wm.encB_len, sb_len]
  have := Wm.encI_len (n := s.size) (by omega) (by omega)
  omega
theorem inputB_le (tag : Int) (l : List ByteArray) (h : ∀ s ∈ l, s.size ≤ 400) : (inputB tag l).length ≤ 1 + 410 * l.length := by
  induction l with
  | nil => simp [inputB]
  | cons s r ih =>
    have h1 := ih (fun x hx => h x (List.mem_cons_of_mem _ hx))
    have h2 := encB_le s (by have := h s List.mem_cons_self; omega)
    have h3 := h s List.mem_cons_self
    unfold inputB at *
    simp only [List.flatMap_cons, List.length_append, List.length_cons] at *
    omega
theorem inputB_take (tag : Int) (l : List ByteArray) (k : Nat) : (inputB tag (l.take k)).length ≤ (inputB tag l).length := by
  have e : l = l.take k ++ l.drop k := (List.take_append_drop k l).symm
  conv => rhs; rw [e]
  unfold inputB
  rw [List.flatMap_append, List.length_append, List.length_append, List.length_append]
  omega

theorem blk_range {w : World} {B : Nat} {t : TypeId} {cs : List Value} (h : Blk w B t cs) (hl : cs.length = 73) : w.rangeAt B 0 cs ∧ w.there B 0 73 := by
  refine ⟨?_, h.there 0 73 (by omega)⟩
  have := h.range 0 73
  rwa [List.drop_zero, List.take_of_length_le (by omega)] at this

set_option maxRecDepth 100000 in
set_option maxHeartbeats 2000000 in
theorem of_any (tag : Int) (A : Option Addr) (n c : Nat) (l : List ByteArray) (w : World) (hs : Sl w 1 A n (Strs l)) (h400 : ∀ s ∈ l, s.size ≤ 400) (hn : n ≤ 1000) (tab : Tab w) :
    Calls Tryd.prog 37 #[.int .i64 tag, .slice A n c] w fun e w' => e = .returned (.agg ((shaC (inputB tag l)).take 16).toArray) ∧ Later w w' := by
  have hll := hs.slen
  have HLL := Lib.hid hll; clear hll
  have hsc : ∀ (cs : List Value) {m : List Hs.By}, StrOf m cs → (Tryd.prog.info? 99).map (·.size) = some cs.length := fun cs m hS => by rw [hS.len]; kernel_rfl
  have hzc : ∀ (cs : List Value) {m : List Hs.By}, StrOf m cs → Tryd.zeroCells99.toList.length = cs.length := fun cs m hS => by rw [hS.len]; rfl
  have HSC := Lib.hid hsc; have HZC := Lib.hid hzc
  clear hsc hzc
  go_enter Tryd.func37, Tryd.ntmps37
  have hM : ∀ w' cs, Later w w' → StrOf [] cs → ∀ (x : Int) (B : Nat), 0 ≤ x → x < 256 → Blk w' B 5 (U [x]) → Calls Tryd.prog 56 #[.agg cs.toArray, .slice (some ⟨B, 0, none⟩) 1 1] w' (Added (bv [x]) w') := fun w' cs hl hS x B h0 h1 hB => by
    have h := addB_any [] cs (some ⟨B, 0, none⟩) 1 1 [x] w' hS (hB.sl 0 1 (by simp [U])) (fun y hy => by simp at hy; omega) (Nat.le_refl _) (by omega) (by simp) (tab.keep hl)
    rwa [List.nil_append] at h
  have HM := Lib.hid hM; clear hM
  have htag : IntKind.u8.wrap tag = tag % 256 := IntKind.wrap_u8 _
  obtain ⟨tg, htg, t0, t1⟩ : ∃ tg, IntKind.u8.wrap tag = tg ∧ 0 ≤ tg ∧ tg < 256 := ⟨_, rfl, by rw [htag]; omega, by rw [htag]; omega⟩
  have HTG : Hid (tg = tag % 256) := Lib.hid (htg.symm.trans htag)
  clear htag
  go_wp2_with (first
    | (go_at_call 57; refine (strBegin_any _).mono ?_; rintro e w1 ⟨cs1, rfl, hS1, hl1⟩; have hl1' : Later w w1 := ((Below.refl _ _).alloc (Nat.le_refl _) _).trans (hl1.mono (by simp)))
    | (go_at_call 56; refine (HM.out _ cs1 (hl1'.alloc hl1'.size _) hS1 tg w1.heap.size t0 t1 (Blk.new _ _ _ _ rfl)).mono ?_; rintro e w2 ⟨cs2, rfl, hS2, hl2⟩)
    | ((with_reducible refine wpList_store_abs (o := ⟨none, .store 99 (.tmp 5) (.tmp 13), _, _, _, none⟩) rfl _ _ _ rfl w2.heap.size 99 Tryd.zeroCells99.toList cs2 ?_ ?_ ?_ (HSC.out cs2 hS2) (HZC.out cs2 hS2) hS2.one ?_); rfl; rfl; exact Blk.new _ _ _ _ (by simp); intro w3 z1 z2))
  have hl2' : Later w w2 := Later.trans_ (hl1'.alloc hl1'.size _) hl2
  have hle2 := hl2'.size
  have hle1 := hl1.size
  have hle3 := hl2.size
  simp only [World.size_alloc] at hle1 hle3
  have hl3 : Later w w3 := Below.only (hl2'.alloc hle2 _) z2 hle2
  have hD : Blk w3 w.heap.size 31 (PartB [] 16) := ((((Blk.new w _ _ _ rfl).keep hl1).alloc _).keep hl2 |>.alloc _).only z2 (by omega)
  have hS3 : StrOf (bv (inputB tag (l.take 0))) cs2 := by
    have : inputB tag (l.take 0) = [tg] := by simp [inputB, HTG.out]
    rw [this]; exact hS2
  clear htg t0 t1 HTG HM hS1 hl1 hl1' hl2 hl2' z2 hS2
  go_loopw [16] (fun i wr => ∃ (k : Nat) (cs : List Value), k ≤ n ∧ i = .int .i64 k ∧ StrOf (bv (inputB tag (l.take k))) cs ∧ Blk wr w2.heap.size 99 cs ∧ Blk wr w.heap.size 31 (PartB [] 16) ∧ Later w wr) (fun i _ => n - (intOf i).toNat)
  case atStart => exact ⟨0, cs2, Nat.zero_le _, rfl, hS3, z1, hD, hl3⟩
  case round =>
    clear hS3 z1 hD hl3
    rename_i wr
    obtain ⟨k, cs, hk, rfl, hS, g1, g2, g3⟩ := hrel
    by_cases hlt : k < n
    · obtain ⟨ad, s, rfl, hbl, hc, hmem, HX⟩ := (hs.keep g3).str hlt
      have hs4 := h400 s hmem
      have hy : cs.length = 73 := hS.len
      have hi : (Tryd.prog.info? 99).map (·.size) = some cs.length := HSC.out cs hS
      have hone := hS.one
      have hu := Tryd.underlying99
      have hr : wr.rangeAt w2.heap.size 0 cs := by
        have := g1.range 0 73
        rwa [List.drop_zero, List.take_of_length_le (by omega)] at this
      have ht : wr.there w2.heap.size 0 73 := g1.there 0 73 (by omega)
      have hmE : (Wm.encB (sb s)).length ≤ 410 := by have := encB_le s (by omega); omega
      have hil := inputB_le tag (l.take k) (fun x hx => h400 x (List.mem_of_mem_take hx))
      have htk : (l.take k).length ≤ k := List.length_take_le _ _
      have hA : ∀ wx A1 c1, Later w wx → (Wm.encB (sb s)).length ≤ c1 → c1 ≤ maxLen → Sl wx 1 A1 (Wm.encB (sb s)).length (U (Wm.encB (sb s))) → Calls Tryd.prog 56 #[.agg cs.toArray, .slice A1 (Wm.encB (sb s)).length c1] wx (Added (bv (inputB tag (l.take (k + 1)))) wx) := fun wx A1 c1 hl h1 h2 h3 => by
        have h := addB_any _ cs A1 _ c1 _ wx hS h3 (encB_bs s) h1 (by unfold maxLen at h2; omega) (by rw [bv_len]; omega) (tab.keep hl)
        rwa [← bv_append, ← inputB_snoc, ← HX.out.1] at h
      have HA := Lib.hid hA
      clear hA hil htk
      go_wp2
      refine wp_region_any (by kernel_rfl) ?_
      change wpAny _ _ _ _ _ _ _ wr.drew
      have g1 := g1.drew
      have g2 := g2.drew
      have g3 := g3.drew
      refine wpAny_take (i := 1) (oi := ⟨some 21, .move (.tmp 7), 9, _, _, none⟩) (v := .string s) rfl (by kernel_rfl) (by kernel_rfl) (by kernel_rfl) (fun _ _ _ h => h) (Or.inl ⟨by rfl, fun _ => rfl⟩) ?_
      simp only [Act.put, List.setIfInBounds_toArray, List.set_cons_zero, List.set_cons_succ]
      refine wpAny_ready (rs := [0, 2]) (by kernel_rfl) (by simp) ?_
      refine AllReady.cons (o := ⟨some 20, .load 99 (.tmp 5), _, _, _, none⟩) rfl (fun K hK => ?_) (AllReady.cons (o := ⟨some 22, .call { callee := .value (.func 58), args := #[.tmp 21], argTypes := #[9] }, _, _, _, none⟩) rfl (fun K hK => ?_) AllReady.nil)
      · rw [if_pos (by rfl)]
        refine wp_load_row 99 _ rfl w2.heap.size rfl 99 cs.toArray (0, 0) _ g1 hu rfl (by rw [List.size_toArray]; exact hi) ?_
        refine hK _ _ ?_
        clear hK K
        try simp only [Act.put, List.setIfInBounds_toArray, List.set_cons_zero, List.set_cons_succ]
        refine wpAny_ready (rs := [2]) (by kernel_rfl) (by simp) (AllReady.cons (o := ⟨some 22, .call { callee := .value (.func 58), args := #[.tmp 21], argTypes := #[9] }, _, _, _, none⟩) rfl (fun K hK => ?_) AllReady.nil)
        rw [if_pos (by rfl)]
        go_simp
        refine (madeV_as (wireBytes_any s _ (by omega) (by rw [ofS_sb]; omega))).mono ?_
        rw [ofS_sb]
        rintro e wa ⟨A1, c1, rfl, m1, m2, _, m3, m4⟩
        refine hK _ _ ?_
        clear hK K
        try simp only [Act.put, List.setIfInBounds_toArray, List.set_cons_zero, List.set_cons_succ]
        refine wpAny_ready (rs := [3]) (by kernel_rfl) (by simp) (AllReady.cons (o := ⟨some 23, .call { callee := .value (.func 56), args := #[.tmp 20, .tmp 22], argTypes := #[99, 75] }, _, _, _, none⟩) rfl (fun K hK => ?_) AllReady.nil)
        rw [if_pos (by rfl)]
        go_simp
        refine (HA.out wa A1 c1 (Later.trans_ g3 m4) m1 m2 m3).mono ?_
        rintro e wb ⟨cs', rfl, hS', hlb⟩
        refine hK _ _ ?_
        clear hK K
        try simp only [Act.put, List.setIfInBounds_toArray, List.set_cons_zero, List.set_cons_succ]
        refine wpAny_ready (rs := [4]) (by kernel_rfl) (by simp) (AllReady.cons (o := ⟨none, .store 99 (.tmp 5) (.tmp 23), _, _, _, none⟩) rfl (fun K hK => ?_) AllReady.nil)
        rw [if_pos (by rfl)]
        refine wp_store_row 99 _ _ rfl w2.heap.size cs'.toArray rfl rfl 99 cs.toArray ((g1.keep m4).keep hlb) (by rw [List.size_toArray]; exact HSC.out cs' hS') (by rw [List.size_toArray, List.size_toArray, hy, hS'.len]) (all_oneCell_toArray hS'.one) ?_
        refine hK _ _ ?_
        clear hK K
        refine wpAny_done (by kernel_rfl) ?_ _
        have r1 : Blk ((wb).setRow w2.heap.size cs'.toArray) w2.heap.size 99 cs' := ((g1.keep m4).keep hlb).row cs'
        have r2 := ((g2.keep m4).keep hlb).only (Only.row wb w2.heap.size cs'.toArray) (by omega)
        have r3 : Later w (wb.setRow w2.heap.size cs'.toArray) := below_setRow (Later.trans_ (Later.trans_ g3 m4) hlb) hle2 _
        clear g1 g2 g3 hr ht m3 m4 hlb hS
        generalize wb.setRow w2.heap.size cs'.toArray = wc at r1 r2 r3 ⊢
        go_wp2
        go_roundw
        case rel => exact ⟨k + 1, cs', by omega, by go_num, hS', r1, r2, r3⟩
        case measure => simp [intOf]; omega
      · skip
        rw [if_pos (by rfl)]
        go_simp
        refine (madeV_as (wireBytes_any s _ (by omega) (by rw [ofS_sb]; omega))).mono ?_
        rw [ofS_sb]
        rintro e wa ⟨A1, c1, rfl, m1, m2, _, m3, m4⟩
        refine hK _ _ ?_
        clear hK K
        try simp only [Act.put, List.setIfInBounds_toArray, List.set_cons_zero, List.set_cons_succ]
        refine wpAny_ready (rs := [0]) (by kernel_rfl) (by simp) (AllReady.cons (o := ⟨some 20, .load 99 (.tmp 5), _, _, _, none⟩) rfl (fun K hK => ?_) AllReady.nil)
        rw [if_pos (by rfl)]
        refine wp_load_row 99 _ rfl w2.heap.size rfl 99 cs.toArray (0, 0) _ (g1.keep m4) hu rfl (by rw [List.size_toArray]; exact hi) ?_
        refine hK _ _ ?_
        clear hK K
        try simp only [Act.put, List.setIfInBounds_toArray, List.set_cons_zero, List.set_cons_succ]
        refine wpAny_ready (rs := [3]) (by kernel_rfl) (by simp) (AllReady.cons (o := ⟨some 23, .call { callee := .value (.func 56), args := #[.tmp 20, .tmp 22], argTypes := #[99, 75] }, _, _, _, none⟩) rfl (fun K hK => ?_) AllReady.nil)
        rw [if_pos (by rfl)]
        go_simp
        refine (HA.out wa A1 c1 (Later.trans_ g3 m4) m1 m2 m3).mono ?_
        rintro e wb ⟨cs', rfl, hS', hlb⟩
        refine hK _ _ ?_
        clear hK K
        try simp only [Act.put, List.setIfInBounds_toArray, List.set_cons_zero, List.set_cons_succ]
        refine wpAny_ready (rs := [4]) (by kernel_rfl) (by simp) (AllReady.cons (o := ⟨none, .store 99 (.tmp 5) (.tmp 23), _, _, _, none⟩) rfl (fun K hK => ?_) AllReady.nil)
        rw [if_pos (by rfl)]
        refine wp_store_row 99 _ _ rfl w2.heap.size cs'.toArray rfl rfl 99 cs.toArray ((g1.keep m4).keep hlb) (by rw [List.size_toArray]; exact HSC.out cs' hS') (by rw [List.size_toArray, List.size_toArray, hy, hS'.len]) (all_oneCell_toArray hS'.one) ?_
        refine hK _ _ ?_
        clear hK K
        refine wpAny_done (by kernel_rfl) ?_ _
        have r1 : Blk ((wb).setRow w2.heap.size cs'.toArray) w2.heap.size 99 cs' := ((g1.keep m4).keep hlb).row cs'
        have r2 := ((g2.keep m4).keep hlb).only (Only.row wb w2.heap.size cs'.toArray) (by omega)
        have r3 : Later w (wb.setRow w2.heap.size cs'.toArray) := below_setRow (Later.trans_ (Later.trans_ g3 m4) hlb) hle2 _
        clear g1 g2 g3 hr ht m3 m4 hlb hS
        generalize wb.setRow w2.heap.size cs'.toArray = wc at r1 r2 r3 ⊢
        go_wp2
        go_roundw
        case rel => exact ⟨k + 1, cs', by omega, by go_num, hS', r1, r2, r3⟩
        case measure => simp [intOf]; omega
    · have hkn : l.take k = l := List.take_of_length_le (by rw [HLL.out]; omega)
      rw [hkn] at hS
      have hi : (Tryd.prog.info? 99).map (·.size) = some cs.length := HSC.out cs hS
      have hu := Tryd.underlying99
      have HU := Lib.hid hu
      have hil := inputB_le tag l h400
      have hM := strSum_any (bv (inputB tag l)) cs wr hS (by rw [bv_len]; have := HLL.out; omega) (tab.keep g3)
      have hM2 : Calls Tryd.prog 59 #[.agg cs.toArray] wr fun e w'' => e = .returned (.agg (shaC (inputB tag l)).toArray) ∧ Later wr w'' := hM
      obtain ⟨O, hO⟩ : ∃ O, O = shaC (inputB tag l) := ⟨_, rfl⟩
      rw [← hO] at hM2
      have hfo : O.length = 32 := by rw [hO]; exact shaC_len _
      have hsO : (Tryd.prog.info? 103).map (·.size) = some O.length := by rw [hfo]; kernel_rfl
      have hO1 : ∀ v ∈ O, v.oneCell' = true := by rw [hO]; exact shaC_one _
      have hOl : (PartB [] 32).length = O.length := by rw [hfo]; rfl
      obtain ⟨D, hD⟩ : ∃ D, D = O.take 16 := ⟨_, rfl⟩
      have hDl : D.length = 16 := by rw [hD, List.length_take, hfo]; rfl
      have hsD : (Tryd.prog.info? 31).map (·.size) = some D.length := by rw [hDl]; kernel_rfl
      have hD1 : ∀ v ∈ D, v.oneCell' = true := by rw [hD]; exact fun v hv => hO1 v (List.mem_of_mem_take hv)
      have hDz : (PartB [] 16).length = D.length := by rw [hDl]; rfl
      have hcut : (O.drop 0).take 16 = D := by rw [List.drop_zero, hD]
      have HM := Lib.hid hM2; have HO := Lib.hid hO; have HO1 := Lib.hid hO1; have HOL := Lib.hid hOl; have HD := Lib.hid hD; have HD1 := Lib.hid hD1; have HDZ := Lib.hid hDz; have HCUT := Lib.hid hcut
      have hu58 := Tryd.underlying31
      have HU58 := Lib.hid hu58
      clear hM hM2 hO hO1 hOl hD hD1 hDz hcut hil hu hkn hS hu58 hfo hDl
      go_wp2_with (first
        | ((with_reducible refine wpList_load_blk (o := ⟨some 25, .load 99 (.tmp 5), _, _, _, none⟩) rfl _ _ rfl w2.heap.size 99 cs _ ?_ g1 HU.out rfl hi ?_); rfl)
        | (go_at_call 59; refine (HM.out).mono ?_; rintro e w4 ⟨rfl, hl4⟩)
        | ((with_reducible refine wpList_store_abs (o := ⟨none, .store 103 (.tmp 8) (.tmp 26), _, _, _, none⟩) rfl _ _ _ rfl w4.heap.size 103 (PartB [] 32) O ?_ ?_ ?_ hsO HOL.out HO1.out ?_); rfl; rfl; exact Blk.new _ _ _ _ rfl; intro w5 z1 z2; have harr := run_arrayAt (P := Tryd.prog) (w := w5) 31 5 16 (some ⟨w4.heap.size, 0, none⟩) 16 32 HU58.out (by omega))
        | ((with_reducible refine wpList_load_at (o := ⟨some 29, .load 31 (.tmp 28), _, _, _, none⟩) rfl _ _ rfl w4.heap.size 0 16 103 O D _ ?_ z1 HCUT.out HU58.out rfl hsD ?_); rfl)
        | ((with_reducible refine wpList_store_abs (o := ⟨none, .store 31 (.tmp 4) (.tmp 29), _, _, _, none⟩) rfl _ _ _ rfl w.heap.size 31 (PartB [] 16) D ?_ ?_ (((g2.keep hl4).alloc _).only z2 (by have := g2.lt; have := hl4.size; omega)) hsD HDZ.out HD1.out ?_); rfl; rfl; intro w6 y1 y2))
      have hl5 : Later w w5 := Below.only ((Later.trans_ g3 hl4).alloc (Later.trans_ g3 hl4).size _) z2 (Later.trans_ g3 hl4).size
      exact bodyPost_ret (v := .agg D.toArray) (results_blk Tryd.results37 _ _ w.heap.size _ D _ rfl y1 HU58.out rfl hsD) rfl ⟨by rw [HD.out, HO.out], Below.only hl5 y2 (Nat.le_refl _)⟩
end Go.Proofs.YtaihfkcoiagdaabDoor

/-
  THE WALKS OF the statements' hex, and of the reference's Bytes32 and Text.
-/
namespace Go.Proofs.YtaihfkcoiagdaabDoor
open Go.RowKit

end Go.Proofs.YtaihfkcoiagdaabDoor

/-
  THE WALK OF the statements' hex.
-/
namespace Go.Proofs.YtaihfkcoiagdaabDoor
open Go.RowKit

def hexDigits : ByteArray := ⟨#[48, 49, 50, 51, 52, 53, 54, 55, 56, 57, 97, 98, 99, 100, 101, 102]⟩
/-- The digit of a number below 16. -/
def hexd (i : Nat) : Int := if i < 10 then 48 + i else 87 + i
theorem hexd_at (i : Nat) (h : i < 16) : ∀ h', (((⟨#[48, 49, 50, 51, 52, 53, 54, 55, 56, 57, 97, 98, 99, 100, 101, 102]⟩ : ByteArray)[i]'h').toNat : Int) = hexd i := by
  intro h'
  have : (List.range 16).all (fun i => match hexDigits[i]? with | some u => decide ((u.toNat : Int) = hexd i) | none => false) = true := by decide +kernel
  have h1 := Hm.of_range this i h
  have h2 : hexDigits[i]? = some (hexDigits[i]'h') := getElem?_pos hexDigits i h'
  rw [h2] at h1
  exact of_decide_eq_true h1
def hexB (l : Wm.Bs) : Wm.Bs := l.flatMap fun c => [hexd (c.toNat / 16), hexd (c.toNat % 16)]
theorem hexB_snoc (l : Wm.Bs) (c : Int) : hexB (l ++ [c]) = hexB l ++ [hexd (c.toNat / 16), hexd (c.toNat % 16)] := by
  unfold hexB; simp
theorem hexB_len (l : Wm.Bs) : (hexB l).length = 2 * l.length := by
  induction l with
  | nil => rfl
  | cons a r ih => unfold hexB at *; rw [List.flatMap_cons, List.length_append, ih]; simp; omega

theorem two_ints (x y : Int) : ∀ u ∈ [Value.int .u8 x, Value.int .u8 y], u.oneCell' = true := by
  intro u hu
  simp only [List.mem_cons, List.not_mem_nil, or_false] at hu
  rcases hu with rfl | rfl <;> rfl
end Go.Proofs.YtaihfkcoiagdaabDoor

/-
  THE WALK OF the statements' sanity check: the document's examples; and arrays of bytes compared.
-/
namespace Go.Proofs.YtaihfkcoiagdaabDoor
open Go.RowKit

/-- Two digests compared. -/
theorem items_eq (d : Nat) (x y : Wm.Bs) (w : World) : ∀ is : List Nat, (∀ i ∈ is, i < x.length ∧ i < y.length) →
    (Op.eqItems (d + 1) 5 1 (U x).toArray (U y).toArray is).run Tryd.prog w = .ok (is.all fun i => x.getD i 0 == y.getD i 0) w := by
  have hag : (isAgg 5).run Tryd.prog w = .ok false w := by kernel_rfl
  intro is
  induction is with
  | nil => intro _; simp [Op.eqItems]
  | cons i r ih =>
    intro h
    have hi := h i (List.mem_cons_self)
    have px : (part 5 (U x).toArray (i * 1)).run Tryd.prog w = .ok (.int .u8 (x.getD i 0)) w := by
      unfold part
      rw [Sem.run_bind, hag]
      have := U_get x i hi.1
      simp [Result.andThen, this]
    have py : (part 5 (U y).toArray (i * 1)).run Tryd.prog w = .ok (.int .u8 (y.getD i 0)) w := by
      unfold part
      rw [Sem.run_bind, hag]
      have := U_get y i hi.2
      simp [Result.andThen, this]
    have he := run_equalIn_int (P := Tryd.prog) w d 5 .u8 .u8 (x.getD i 0) (y.getD i 0) Tryd.underlying5
    have hr := ih (fun j hj => h j (List.mem_cons_of_mem _ hj))
    simp only [Op.eqItems, Sem.run_bind, px, py, he, Result.andThen_ok, List.all_cons]
    cases hb : (x.getD i 0 == y.getD i 0)
    · simp
    · simpa using hr
theorem range_eq {n : Nat} {x y : Wm.Bs} (hx : x.length = n) (hy : y.length = n) : ((List.range n).all fun i => x.getD i 0 == y.getD i 0) = decide (x = y) := by
  by_cases h : x = y
  · subst h; simp
  · rw [decide_eq_false h, Bool.eq_false_iff]
    intro hall
    apply h
    apply List.ext_getElem?
    intro j
    rcases Nat.lt_or_ge j n with hj | hj
    · have := List.all_eq_true.1 hall j (List.mem_range.2 hj)
      rw [List.getD_eq_getElem?_getD, List.getD_eq_getElem?_getD, List.getElem?_eq_getElem (by omega), List.getElem?_eq_getElem (by omega)] at this
      rw [List.getElem?_eq_getElem (by omega), List.getElem?_eq_getElem (by omega)]
      simpa using this
    · rw [List.getElem?_eq_none (by omega), List.getElem?_eq_none (by omega)]
theorem sum_eq {x y : Wm.Bs} (hx : x.length = 32) (hy : y.length = 32) (w : World) : (Op.equalIn 10000 103 (.agg (U x).toArray) (.agg (U y).toArray)).run Tryd.prog w = .ok (decide (x = y)) w := by
  obtain ⟨i0, hi, _, _, _⟩ := info_parts u8_info
  have hc : Tryd.prog.cellsOf 5 = 1 := by kernel_rfl
  rw [run_equalIn_array w 9999 _ _ Tryd.underlying103 hi, hc, items_eq 9998 x y w _ (fun i hi => by rw [hx, hy]; have := List.mem_range.1 hi; omega), range_eq hx hy]
theorem dig_eq {x y : Wm.Bs} (hx : x.length = 16) (hy : y.length = 16) (w : World) : (Op.equalIn 10000 31 (.agg (U x).toArray) (.agg (U y).toArray)).run Tryd.prog w = .ok (decide (x = y)) w := by
  obtain ⟨i0, hi, _, _, _⟩ := info_parts u8_info
  have hc : Tryd.prog.cellsOf 5 = 1 := by kernel_rfl
  rw [run_equalIn_array w 9999 _ _ Tryd.underlying31 hi, hc, items_eq 9998 x y w _ (fun i hi => by rw [hx, hy]; have := List.mem_range.1 hi; omega), range_eq hx hy]

/-- The examples, by the kernel. -/
def abc : Wm.Bs := iv8 (Hs.sha (bv [97, 98, 99]))
def one : Wm.Bs := (iv8 (Hs.sha (bv (inputB 1 [])))).take 16
def lit1 : ByteArray := ⟨#[98, 97, 55, 56, 49, 54, 98, 102, 56, 102, 48, 49, 99, 102, 101, 97, 52, 49, 52, 49, 52, 48, 100, 101, 53, 100, 97, 101, 50, 50, 50, 51, 98, 48, 48, 51, 54, 49, 97, 51, 57, 54, 49, 55, 55, 97, 57, 99, 98, 52, 49, 48, 102, 102, 54, 49, 102, 50, 48, 48, 49, 53, 97, 100]⟩
def lit2 : ByteArray := ⟨#[52, 98, 102, 53, 49, 50, 50, 102, 51, 52, 52, 53, 53, 52, 99, 53, 51, 98, 100, 101, 50, 101, 98, 98, 56, 99, 100, 50, 98, 55, 101, 51]⟩
theorem ex_abc : strOfNums (hexB (sb (strOfNums abc))) = lit1 := by kernel_rfl
theorem ex_one : strOfNums (hexB (sb (strOfNums one))) = lit2 := by kernel_rfl
theorem ex_crc : crcI [254] = 75628790 := by decide +kernel
theorem ex_two : q40 (Hm.bytes (Hm.bytes Hm.ones (bv (sb ⟨#[255]⟩))) (bv (sb ⟨#[255]⟩)) ^^^ Hm.ones) = 65535 := by decide +kernel
theorem ex_words : crcI (fives [1099511627774]) = 1099435999222 := by decide +kernel
theorem ex_j1 : joinR 255 255 1 = 65535 := by decide +kernel
theorem ex_j2 : joinR 255 0 1 = 65280 := by decide +kernel
theorem ex_j3 : joinR 7 9 0 = 14 := by decide +kernel
end Go.Proofs.YtaihfkcoiagdaabDoor

/-
  THE WALK OF the statements' sanity check.
-/
namespace Go.Proofs.YtaihfkcoiagdaabDoor
open Go.RowKit

theorem blk3 {w : World} {B : Nat} {b : Wm.Bs} (h : Blk w B 5 (U b)) (n : Nat) (hn : b.length = n) : Sl w 1 (some ⟨B, 0, none⟩) n (U b) := by
  have := h.sl 0 n (by rw [U_length]; omega)
  rwa [List.drop_zero, List.take_of_length_le (by rw [U_length]; omega)] at this
theorem bs_lit {b : Wm.Bs} (h : (b.all fun x => decide (0 ≤ x) && decide (x < 256)) = true) : Wm.isBs b := fun x hx => by
  have := List.all_eq_true.1 h x hx
  simpa using this
theorem abc_len : abc.length = 32 := by kernel_rfl
theorem one_len : one.length = 16 := by kernel_rfl

section
variable (w : World) (tab : Tab w)
include tab
theorem c_ssum (w' : World) (hl : Later w w') (cs : List Value) (hS : StrOf (bv [97, 98, 99]) cs) :
    Calls Tryd.prog 59 #[.agg cs.toArray] w' fun e w'' => e = .returned (.agg (U abc).toArray) ∧ Later w' w'' :=
  strSum_any (bv [97, 98, 99]) cs w' hS (by decide) (tab.keep hl)
theorem c_of (w' : World) (hl : Later w w') :
    Calls Tryd.prog 37 #[.int .i64 1, .slice none 0 0] w' fun e w'' => e = .returned (.agg (U one).toArray) ∧ Later w' w'' := by
  have h := of_any 1 none 0 0 [] w' (Sl.nil _ _ _) (fun s hs => by cases hs) (by omega) (tab.keep hl)
  have e : (shaC (inputB 1 [])).take 16 = U one := by unfold shaC U one; rw [List.map_take]
  rw [e] at h
  exact h
end
theorem wpList_load_g {P : Program} {ops : Array Oper} {rest : List Oper} {o : Oper} {a : Act} {w : World} {Q : Exit → Act → World → Prop} (ty : TypeId) (x : Operand) (ho : o.op = .load ty x)
    (g : Nat) (t : TypeId) (cs : List Value) (d : TypeDesc) (hw : Region.wanted o (yielded ops a.tmps) = true) (hx : a.eval x = .pointer (some ⟨g, 0, none⟩)) (hg : Blk w g t cs)
    (hu : P.underlying ty = some d) (hd : (match d with | .struct _ | .array _ _ => true | _ => false) = true) (hi : (P.info? ty).map (·.size) = some cs.length)
    (h : wpList P ops Q rest (a.put o.dst (.agg cs.toArray)) w) : wpList P ops Q (o :: rest) a w :=
  wpList_step fun K hK => by
    rw [hw, if_pos rfl]
    exact wp_load_row ty x ho g hx t cs.toArray (0, 0) d hg hu hd (by rw [List.size_toArray]; exact hi) (hK _ _ h)

theorem sl_abc (w : World) : Sl (w.alloc (.cells #[.int .u8 97, .int .u8 98, .int .u8 99] 5 (3, 4))) 1 (some ⟨w.heap.size, 0, none⟩) 3 (U [97, 98, 99]) := by
  have h := heap_alloc_new w (.cells #[.int .u8 97, .int .u8 98, .int .u8 99] 5 (3, 4))
  refine ⟨rfl, fun _ => ⟨_, rfl, Nat.lt_of_lt_of_eq (Nat.lt_succ_self _) (Eq.symm (by simp)), fun j u hu => ?_⟩⟩
  rw [Addr.add_mid]
  unfold World.cell?
  show (match (w.alloc _).heap[w.heap.size]? with | some (.cells c _ _) => c[0 + j]? | _ => none) = some u
  rw [h, Nat.zero_add]
  show (#[Value.int .u8 97, .int .u8 98, .int .u8 99] : Array Value)[j]? = some u
  rw [← hu]; rcases j with _ | _ | _ | j <;> rfl

end Go.Proofs.YtaihfkcoiagdaabDoor

/-
  FROM A WALK TO A CARD: what every statement of this seat needs: its arguments opened, its end closed, the constants, the world of the witness.
-/
namespace Go.Proofs.YtaihfkcoiagdaabDoor
open Go.RowKit Go.ChangeShapes Go.WideShapes Go.ChangeAt

def inR (l : List Int) : Prop := ∀ x ∈ l, -9223372036854775808 ≤ x ∧ x ≤ 9223372036854775807
theorem ret_bool {a b : Bool} (h : a = b) : Ending.returned (.bool a) = .returned (.bool b) := by rw [h]
theorem ownK : ownKnob Tryd.prog.godebug = none := by kernel_rfl
theorem laidK : laidOutB Tryd.prog = true := by kernel_rfl

section
variable {H : Type} {enc : TypeId × Value → H} {P : Program}
/-- Arguments read in a later world as they did. -/
theorem all_later (hl : laidOutB P = true) {W W' : World} (hb : Later W W') (sp : Nat → Bool) : ∀ {ts : List TypeId} {vs : List Value} {ds : List (DataW H)} {ps : List MemPlace},
    (ts.all fun t => P.readableRec t && decide (t < P.types.size)) = true → DataW.TrodAll enc P W 0 (fun _ => true) true ts vs ds ps → (∀ x ∈ ps, x.block < W.heap.size) → (∀ x ∈ ps, sp x.block = true) → DataW.TrodAll enc P W' 0 sp true ts vs ds ps := by
  intro ts
  induction ts with
  | nil => intro vs ds ps _ h _ _; obtain ⟨rfl, rfl, rfl⟩ := trodAll_nil h; exact trodAll_mk0
  | cons t ts ih =>
    intro vs ds ps hr h hlt hsp
    obtain ⟨v, vs', d, ds', p, q, rfl, rfl, rfl, h0, h1⟩ := trodAll_cons h
    simp only [List.all_cons, Bool.and_eq_true, decide_eq_true_eq] at hr
    exact trodAll_cons_mk (WideElems.Trod_stays hl hr.1.1 hr.1.2 h0 (fun x hx => hb.same (hlt x (by simp [hx]))) (fun x hx => hsp x (by simp [hx]))) (ih hr.2 h1 (fun x hx => hlt x (by simp [hx])) (fun x hx => hsp x (by simp [hx])))

/-- The end of every statement: true, and nothing that was there has turned. -/
theorem law_post {f : Func} {s : ChangeSpec} {W W' : World} {args : Array Value} {ds gs : List (DataW H)} {before : List MemPlace} {tb : TypeId} (hl : laidOutB P = true)
    (hv : s.vars = []) (hr : f.resultTypes.toList = [tb]) (hn : f.resultTypes.size = 1) (htb : P.underlying tb = some .bool) (hrows : (f.params.toList.all fun t => P.readableRec t && decide (t < P.types.size)) = true)
    (hW : DataW.Whole enc P f.params.toList s.vars false W args.toList ds gs before) (hs : s.fn H (ds ++ gs) = { results := [.lit (.bool true)], args := ds }) (hb : Later W W') :
    s.post enc P f false true false false W args (.bool true) W' := by
  have hlt : ∀ p ∈ before, p.block < W.heap.size := fun p hp => hW.lt p hp
  have hW0 := hW
  obtain ⟨p, q, hA, hV, rfl, _, _⟩ := hW
  rw [hv] at hV
  obtain ⟨rfl, rfl⟩ := trodVars_none hV
  simp only [List.append_nil] at hlt hW0
  refine ⟨ds, [], p, [], p, [], hW0, ?_, ?_, ?_, World.keptBut_mono (fun x hx => ⟨hx, .inr (.inl hx)⟩) (hb.frame (· ∈ p)), fun h => by cases h⟩
  · rw [hs, hr, hn]
    exact trodAll_mk1 (shut_bool htb _)
  · rw [hs]
    exact all_later hl hb _ hrows hA hlt (fun x hx => by simpa using hlt x hx)
  · rw [hs, hv]
    rfl
end

section
variable {H : Type} {enc : TypeId × Value → H} {P : Program} {W : World} {r : Reach} {b0 : Nat} {v : Value} {d : DataW H} {p : List MemPlace}
/-- An int. -/
theorem int_arg {t : TypeId} (ht : P.underlying t = some (.int .i64)) (hv : Value.okWide P W r b0 t v) (h : DataW.Trod enc P W 0 (fun _ => true) true t v d p) : ∃ n : Int, v = .int .i64 n ∧ -9223372036854775808 ≤ n ∧ n ≤ 9223372036854775807 := by
  obtain ⟨n, rfl, _, _, hw⟩ := open_int ht hv h
  have h1 : IntKind.i64.min = -9223372036854775808 := rfl
  have h2 : IntKind.i64.max = 9223372036854775807 := rfl
  simp only [Lit.wf, Bool.and_eq_true, decide_eq_true_eq] at hw
  exact ⟨n, rfl, by omega, by omega⟩
theorem str_arg {t : TypeId} (ht : P.underlying t = some .string) (hv : Value.okWide P W r b0 t v) (h : DataW.Trod enc P W 0 (fun _ => true) true t v d p) : ∃ s : ByteArray, v = .string s ∧ s.size ≤ maxLen := by
  obtain ⟨s, rfl, _, _, hs⟩ := ChangeMaps.open_string ht hv h
  exact ⟨s, rfl, hs⟩
theorem bytes_arg {t e : TypeId} (ht : P.underlying t = some (.slice e)) (he : P.underlying e = some (.int .u8)) (hc : P.cellsOf e = 1) (hv : Value.okWide P W r b0 t v) (h : DataW.Trod enc P W 0 (fun _ => true) true t v d p) :
    ∃ A n c b, v = .slice A n c ∧ n ≤ c ∧ c ≤ maxLen ∧ Sl W 1 A n (U b) ∧ Wm.isBs b := by
  obtain ⟨a0, len, cap, rfl⟩ := okWide_slice ht hv
  obtain ⟨fuel, hf⟩ := h
  rcases open_ints ht he hc hf with ⟨hcs, hx⟩ | ⟨a, len', cap', zs, hcs, _, hl, hm, hz, hx, hcell, hwz⟩
  · simp [Value.cells] at hcs
    obtain ⟨rfl, rfl, rfl⟩ := hcs
    exact ⟨none, 0, 0, [], rfl, Nat.le_refl _, Nat.zero_le _, Sl.nil _ _ _, fun x hx => by cases hx⟩
  · simp [Value.cells] at hcs
    obtain ⟨rfl, rfl, rfl⟩ := hcs
    simp only [if_true] at hz
    refine ⟨some a, len, cap, zs.take len, rfl, hl, hm, ⟨by rw [U_length, List.length_take]; omega, fun hn => ⟨a, rfl, ?_, ?_⟩⟩, fun x hx => ?_⟩
    · have h0 := World.block_lt_of_cell? W _ (hcell 0 (by omega))
      rwa [addr_add_block] at h0
    · intro j u hu
      have hj : j < len := by
        rcases Nat.lt_or_ge j len with h | h
        · exact h
        · rw [List.getElem?_eq_none (by rw [U_length, List.length_take]; omega)] at hu; cases hu
      rw [U_get _ j (by rw [List.length_take]; omega)] at hu
      cases hu
      rw [hcell j (by omega)]
      congr 2
      rw [List.getD_eq_getElem?_getD, List.getD_eq_getElem?_getD, List.getElem?_take_of_lt hj]
    · have hw := hwz x (List.mem_of_mem_take hx)
      have h1 : IntKind.u8.min = 0 := rfl
      have h2 : IntKind.u8.max = 255 := rfl
      simp only [Lit.wf, Bool.and_eq_true, decide_eq_true_eq] at hw
      omega
theorem ints_arg {t e : TypeId} (ht : P.underlying t = some (.slice e)) (he : P.underlying e = some (.int .i64)) (hc : P.cellsOf e = 1) (hv : Value.okWide P W r b0 t v) (h : DataW.Trod enc P W 0 (fun _ => true) true t v d p) :
    ∃ A n c l, v = .slice A n c ∧ n ≤ c ∧ c ≤ maxLen ∧ Sl W 1 A n (N64 l) ∧ inR l := by
  obtain ⟨a0, len, cap, rfl⟩ := okWide_slice ht hv
  obtain ⟨fuel, hf⟩ := h
  rcases open_ints ht he hc hf with ⟨hcs, hx⟩ | ⟨a, len', cap', zs, hcs, _, hl, hm, hz, hx, hcell, hwz⟩
  · simp [Value.cells] at hcs
    obtain ⟨rfl, rfl, rfl⟩ := hcs
    exact ⟨none, 0, 0, [], rfl, Nat.le_refl _, Nat.zero_le _, Sl.nil _ _ _, fun x hx => by cases hx⟩
  · simp [Value.cells] at hcs
    obtain ⟨rfl, rfl, rfl⟩ := hcs
    simp only [if_true] at hz
    refine ⟨some a, len, cap, zs.take len, rfl, hl, hm, ⟨by rw [N64, List.length_map, List.length_take]; omega, fun hn => ⟨a, rfl, ?_, ?_⟩⟩, fun x hx => ?_⟩
    · have h0 := World.block_lt_of_cell? W _ (hcell 0 (by omega))
      rwa [addr_add_block] at h0
    · intro j u hu
      have hj : j < len := by
        rcases Nat.lt_or_ge j len with h | h
        · exact h
        · rw [List.getElem?_eq_none (by rw [N64, List.length_map, List.length_take]; omega)] at hu; cases hu
      rw [N64, List.getElem?_map, List.getElem?_take_of_lt hj, List.getElem?_eq_getElem (by omega)] at hu
      cases hu
      rw [hcell j (by omega), List.getD_eq_getElem?_getD, List.getElem?_eq_getElem (by omega)]
      rfl
    · have hw := hwz x (List.mem_of_mem_take hx)
      have h1 : IntKind.i64.min = -9223372036854775808 := rfl
      have h2 : IntKind.i64.max = 9223372036854775807 := rfl
      simp only [Lit.wf, Bool.and_eq_true, decide_eq_true_eq] at hw
      omega
theorem strs_arg {t e : TypeId} (ht : P.underlying t = some (.slice e)) (he : P.underlying e = some .string) (hc : P.cellsOf e = 1) (hv : Value.okWide P W r b0 t v) (h : DataW.Trod enc P W 0 (fun _ => true) true t v d p) :
    ∃ A n c l, v = .slice A n c ∧ n ≤ c ∧ c ≤ maxLen ∧ Sl W 1 A n (Strs l) ∧ (∀ s ∈ l, s.size ≤ maxLen) := by
  obtain ⟨a0, len, cap, rfl⟩ := okWide_slice ht hv
  obtain ⟨fuel, hf⟩ := h
  rcases open_strings ht he hc hf with ⟨hcs, hx⟩ | ⟨a, len', cap', zs, hcs, _, hl, hm, hz, hx, hcell, hwz⟩
  · simp [Value.cells] at hcs
    obtain ⟨rfl, rfl, rfl⟩ := hcs
    exact ⟨none, 0, 0, [], rfl, Nat.le_refl _, Nat.zero_le _, Sl.nil _ _ _, fun x hx => by cases hx⟩
  · simp [Value.cells] at hcs
    obtain ⟨rfl, rfl, rfl⟩ := hcs
    simp only [if_true] at hz
    refine ⟨some a, len, cap, zs.take len, rfl, hl, hm, ⟨by rw [Strs, List.length_map, List.length_take]; omega, fun hn => ⟨a, rfl, ?_, ?_⟩⟩, fun x hx => hwz x (List.mem_of_mem_take hx)⟩
    · have h0 := World.block_lt_of_cell? W _ (hcell 0 (by omega))
      rwa [addr_add_block] at h0
    · intro j u hu
      have hj : j < len := by
        rcases Nat.lt_or_ge j len with h | h
        · exact h
        · rw [List.getElem?_eq_none (by rw [Strs, List.length_map, List.length_take]; omega)] at hu; cases hu
      rw [Strs, List.getElem?_map, List.getElem?_take_of_lt hj, List.getElem?_eq_getElem (by omega)] at hu
      cases hu
      rw [hcell j (by omega), List.getD_eq_getElem?_getD, List.getElem?_eq_getElem (by omega)]
      rfl
end


theorem gTab : Tryd.prog.globalNamed "simulacrum/hash.rounds" = some 0 := by kernel_rfl
theorem tab_data : (Rows.laid_simulacrum_hash_rounds : DataW Unit) = Lib.tabData .u32 (Hs.K.map q32) := by kernel_rfl
theorem K_len : Hs.K.length = 64 := by kernel_rfl
/-- What the row's list gives: the constants. -/
theorem tab_of {W : World} {rest : List (String × DataW Unit)} (h : laidMet Tryd.prog (("simulacrum/hash.rounds", Rows.laid_simulacrum_hash_rounds) :: rest) W) : Tab W := by
  rw [tab_data] at h
  have ht : ∃ t e : TypeId, (Tryd.prog.globals[0]?).map (·.type) = some t ∧ Tryd.prog.underlying t = some (.array 64 e) ∧ Tryd.prog.underlying e = some (.int .u32) ∧ Tryd.prog.cellsOf e = 1 ∧ Tryd.prog.cellsOf t = 64 :=
    ⟨119, 95, by kernel_rfl, by kernel_rfl, by kernel_rfl, by kernel_rfl, by kernel_rfl⟩
  obtain ⟨t, e, h1, h2, h3, h4, h5⟩ := ht
  have hT := Lib.tabIs_of_head gTab h1 h2 h3 h4 h5 h
  intro j hj
  have hc := hT.cell gTab j (by rw [List.length_map, K_len]; exact hj)
  rw [hc, List.getD_eq_getElem?_getD, List.getElem?_map, List.getD_eq_getElem?_getD, List.getElem?_eq_getElem (by rw [K_len]; exact hj)]
  rfl
/-- A world for the witness. -/
noncomputable def laidWorld (os : Os) : World :=
  { World.holding Tryd.prog os ⟨#[], #[], []⟩ with heap := (World.holding Tryd.prog os ⟨#[], #[], []⟩).heap.modify 0 fun
      | .cells _ t frozen => .cells (W32 Hs.K).toArray t frozen
      | o => o }

theorem wants_none (_f : FuncId) (ps : Array TypeId) (h : (ps.toList.all fun t => !Tryd.prog.wantsStandIn t) = true) (j : Nat) (t : TypeId) (ht : ps[j]? = some t) : Tryd.prog.wantsStandIn t = false := by
  have := List.all_eq_true.1 h t (by rw [Array.mem_toList_iff]; exact Array.mem_of_getElem? ht)
  simpa using this

end Go.Proofs.YtaihfkcoiagdaabDoor

/-
  STRINGS AND BYTES laid anew, as slices that read as the string's bytes.
-/
namespace Go.Proofs.YtaihfkcoiagdaabDoor
open Go.RowKit Go.ChangeShapes Go.WideShapes Go.ChangeAt

theorem sb_ofN {b : Wm.Bs} (h : Wm.isBs b) : sb (strOfNums b) = b := by
  unfold sb strOfNums
  show ((b.map fun x => UInt8.ofNat x.toNat).toArray.toList).map _ = b
  rw [List.toList_toArray, List.map_map]
  conv => rhs; rw [← List.map_id b]
  apply List.map_congr_left
  intro x hx
  have hx2 := h x hx
  show (((UInt8.ofNat x.toNat).toNat : Nat) : Int) = x
  rw [UInt8.toNat_ofNat']
  show ((x.toNat % 256 : Nat) : Int) = x
  omega
/-- The bytes of a string, laid anew. -/
theorem sl_row (w : World) (s : ByteArray) (cap : Nat) (e : TypeId) (fr : Nat × Nat) : Sl (w.drew.alloc (.cells (bytesRow s cap) e fr)) 1 (some ⟨w.heap.size, 0, none⟩) s.size (U (sb s)) := by
  have h := heap_alloc_new w.drew (.cells (bytesRow s cap) e fr)
  refine ⟨by rw [U_length, sb_len, Nat.mul_one], fun _ => ⟨_, rfl, Nat.lt_of_lt_of_eq (Nat.lt_succ_self _) (Eq.symm (by simp)), fun j u hu => ?_⟩⟩
  rw [Addr.add_mid]
  unfold World.cell?
  show (match (w.drew.alloc _).heap[w.drew.heap.size]? with | some (.cells c _ _) => c[0 + j]? | _ => none) = some u
  rw [h, Nat.zero_add]
  show (bytesRow s cap)[j]? = some u
  have e1 : U (sb s) = (s.data.map fun b => Value.int .u8 b.toNat).toList := by simp [U, sb]
  rw [e1, Array.getElem?_toList] at hu
  obtain ⟨hj, _⟩ := Array.getElem?_eq_some_iff.1 hu
  unfold bytesRow
  rw [Array.getElem?_append_left hj, hu]

theorem sl_row2 (w : World) (s : ByteArray) (cap : Nat) (e : TypeId) (fr : Nat × Nat) : Sl (w.alloc (.cells (bytesRow s cap) e fr)).drew.drew 1 (some ⟨w.heap.size, 0, none⟩) s.size (U (sb s)) := sl_row w.drew s cap e fr
end Go.Proofs.YtaihfkcoiagdaabDoor
