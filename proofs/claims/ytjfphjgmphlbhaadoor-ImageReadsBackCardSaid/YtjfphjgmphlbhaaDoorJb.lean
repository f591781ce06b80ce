/-
  WORDS FOR MEMORY, OF NO PROGRAM: a slice that reads as a list of values; a slice that the call owns; worlds that came later.
-/
import Derived.Test.YtjfphjgmphlbhaaDoorJa
import Derived.Test.YtjfphjgmphlbhaaDoorProg
import Derived.WalkKit
import Derived.WalkSpells
import Derived.WalkLawsBesides
import Derived.Maps.AppendAt
import Derived.Deep.AppendLies
import Derived.Deep.Draws
import Derived.Lib.Hide
import Derived.Laws.BytesArg
import Derived.Lib.Zigzag
import Derived.Lib.VarintBits
namespace Go.Proofs.YtjfphjgmphlbhaaDoor
open Go.RowKit

set_option maxRecDepth 100000 in
/-- Bytes as cells. -/
def U (b : Wm.Bs) : List Value := b.map (Value.int .u8)
set_option maxRecDepth 100000 in
theorem U_length (b : Wm.Bs) : (U b).length = b.length := by simp [U]
set_option maxRecDepth 100000 in
theorem U_append (a b : Wm.Bs) : U (a ++ b) = U a ++ U b := by simp [U]
set_option maxRecDepth 100000 in
theorem U_one (b : Wm.Bs) : ∀ u ∈ U b, u.oneCell' = true := by
  intro u hu
  obtain ⟨x, _, rfl⟩ := List.mem_map.1 hu
  rfl
set_option maxRecDepth 100000 in
theorem one_int (k : IntKind) (x : Int) : ∀ u ∈ [Value.int k x], u.oneCell' = true := by
  intro u hu
  obtain rfl : u = .int k x := by simpa using hu
  rfl
set_option maxRecDepth 100000 in
theorem U_get (b : Wm.Bs) (j : Nat) (h : j < b.length) : (U b)[j]? = some (.int .u8 (b.getD j 0)) := by
  simp [U, h]

set_option maxRecDepth 100000 in
/-- Everything that was there is there. -/
abbrev Later (w w' : World) : Prop := Below w.heap.size w w'
set_option maxRecDepth 100000 in
theorem Later.trans_ {a b c : World} (h : Later a b) (k : Later b c) : Later a c := Below.trans h (k.mono h.size)

set_option maxRecDepth 100000 in
/-- THE SLICE OF n ELEMENTS AT A READS AS THE CELLS xs (size of them an element). -/
def Sl (w : World) (size : Nat) (A : Option Addr) (n : Nat) (xs : List Value) : Prop :=
  xs.length = n * size ∧ (0 < n → ∃ ad, A = some ad ∧ ad.block < w.heap.size ∧ ∀ j u, xs[j]? = some u → w.cell? (ad.add j) = some u)

set_option maxRecDepth 100000 in
theorem addr_add_block (a : Addr) (n : Nat) : (a.add n).block = a.block := by unfold Addr.add; split <;> rfl
set_option maxRecDepth 100000 in
theorem addr_add_add (a : Addr) (i j : Nat) : (a.add i).add j = a.add (i + j) := by
  unfold Addr.add
  by_cases hi : i = 0 <;> by_cases hj : j = 0 <;> simp [hi, hj, Nat.add_assoc]

section
variable {w w' : World} {size n : Nat} {A : Option Addr} {xs : List Value}
set_option maxRecDepth 100000 in
theorem Sl.nil (w : World) (size : Nat) (A : Option Addr) : Sl w size A 0 [] := ⟨by simp, fun h => absurd h (by omega)⟩
set_option maxRecDepth 100000 in
theorem Sl.later {B : Nat} (h : Sl w size A n xs) (hb : Below B w w') (hB : ∀ ad, A = some ad → ad.block < w.heap.size → ad.block < B) : Sl w' size A n xs :=
  ⟨h.1, fun hn => by
    obtain ⟨ad, e, hl, hc⟩ := h.2 hn
    refine ⟨ad, e, Nat.lt_of_lt_of_le hl hb.size, fun j u hu => ?_⟩
    rw [hb.cell (by rw [addr_add_block]; exact hB ad e hl)]
    exact hc j u hu⟩
set_option maxRecDepth 100000 in
theorem Sl.keep (h : Sl w size A n xs) (hb : Later w w') : Sl w' size A n xs := h.later hb fun _ _ hl => hl
set_option maxRecDepth 100000 in
theorem Sl.alloc (h : Sl w size A n xs) (o : Obj) : Sl (w.alloc o) size A n xs := h.keep ((Below.refl _ _).alloc (Nat.le_refl _) o)
set_option maxRecDepth 100000 in
theorem Sl.drew (h : Sl w size A n xs) : Sl w.drew size A n xs := h
set_option maxRecDepth 100000 in
theorem Sl.at1 {k : Nat} (h : Sl w 1 A n xs) (hk : k < n) : ∃ ad u, A = some ad ∧ ad.block < w.heap.size ∧ xs[k]? = some u ∧ w.cell? (ad.add k) = some u := by
  obtain ⟨ad, e, hb, hc⟩ := h.2 (by omega)
  have hl : k < xs.length := by rw [h.1]; omega
  exact ⟨ad, xs[k], e, hb, List.getElem?_eq_getElem hl, hc k _ (List.getElem?_eq_getElem hl)⟩
set_option maxRecDepth 100000 in
theorem Sl.cut (h : Sl w size A n xs) {k cap : Nat} (hk : k ≤ n) (hc : n ≤ cap) :
    Sl w size (if cap = k then A else A.map (·.add (k * size))) (n - k) (xs.drop (k * size)) := by
  refine ⟨by rw [List.length_drop, h.1, Nat.sub_mul], fun hn => ?_⟩
  obtain ⟨ad, rfl, hb, hcell⟩ := h.2 (by omega)
  rw [if_neg (by omega)]
  refine ⟨ad.add (k * size), rfl, by rw [addr_add_block]; exact hb, fun j u hu => ?_⟩
  rw [addr_add_add]
  exact hcell _ u (by rw [← hu, List.getElem?_drop])
set_option maxRecDepth 100000 in
theorem Sl.front (h : Sl w size A n xs) {k : Nat} (hk : k ≤ n) : Sl w size A k (xs.take (k * size)) := by
  refine ⟨by rw [List.length_take, h.1]; exact Nat.min_eq_left (Nat.mul_le_mul_right _ hk), fun hn => ?_⟩
  obtain ⟨ad, rfl, hb, hcell⟩ := h.2 (by omega)
  refine ⟨ad, rfl, hb, fun j u hu => hcell j u ?_⟩
  rw [List.getElem?_take] at hu
  split at hu
  · exact hu
  · cases hu
set_option maxRecDepth 100000 in
theorem Sl.own {base : Nat} {e : TypeId} {c : Nat} (h : w.ownsRow base e size (.slice A n c) n xs) : Sl w size A n xs := by
  refine ⟨h.1, fun hn => ?_⟩
  obtain ⟨g, cap, hv, _, hlt⟩ := h.form hn
  have hA : A = some ⟨g, 0, none⟩ := by injection hv
  subst hA
  exact ⟨_, rfl, hlt, h.cells (g := g) rfl⟩
end

set_option maxRecDepth 100000 in
/-- A value that is owned is a slice of its length, within its capacity. -/
theorem own_form {w : World} {base : Nat} {e : TypeId} {size n : Nat} {v : Value} {xs : List Value} (h : w.ownsRow base e size v n xs) :
    ∃ A c, v = .slice A n c ∧ n ≤ c ∧ c ≤ maxLen ∧ Sl w size A n xs ∧ (∀ ad, A = some ad → base ≤ ad.block ∧ ad.block < w.heap.size) := by
  rcases h.2 with ⟨rfl, rfl⟩ | ⟨g, cap, cur, rfl, hb, hg, hn, hm, _, _⟩
  · refine ⟨none, 0, rfl, Nat.le_refl _, Nat.zero_le _, Sl.own h, by simp⟩
  · refine ⟨_, cap, rfl, hn, hm, Sl.own h, fun ad e => ?_⟩
    injection e with e
    subst e
    refine ⟨hb, ?_⟩
    rcases Nat.lt_or_ge g w.heap.size with hlt | hge
    · exact hlt
    · rw [Array.getElem?_eq_none hge] at hg; cases hg

set_option maxRecDepth 100000 in
theorem own_below {w w' : World} {base : Nat} {e : TypeId} {size n : Nat} {v : Value} {xs : List Value} (h : w.ownsRow base e size v n xs) (hb : Later w w') : w'.ownsRow base e size v n xs :=
  h.kept (row := none) ⟨hb.os, hb.tape, hb.output, hb.size, fun k hk _ => hb.block k hk⟩ (by
    cases e : v.ownBlock with
    | none => exact .inl rfl
    | some g => exact .inr (by simp))

section
variable {w : World} {n : Nat} {A : Option Addr} {b : Wm.Bs}
set_option maxRecDepth 100000 in
theorem Sl.blen (h : Sl w 1 A n (U b)) : b.length = n := by have := h.1; rw [U_length] at this; omega
set_option maxRecDepth 100000 in
theorem Sl.cutB (h : Sl w 1 A n (U b)) {k cap : Nat} (hk : k ≤ n) (hc : n ≤ cap) (hne : cap ≠ k) : Sl w 1 (A.map (·.add k)) (n - k) (U (b.drop k)) := by
  have h1 := h.cut hk hc
  rw [if_neg hne, Nat.mul_one] at h1
  rw [show U (b.drop k) = (U b).drop k by simp [U]]
  exact h1
set_option maxRecDepth 100000 in
theorem Sl.cutEnd (h : Sl w 1 A n (U b)) {k cap : Nat} (hk : k ≤ n) (hc : n ≤ cap) (hne : cap = k) : Sl w 1 A (n - k) (U (b.drop k)) := by
  have h1 := h.cut hk hc
  rw [if_pos hne, Nat.mul_one] at h1
  rw [show U (b.drop k) = (U b).drop k by simp [U]]
  exact h1
set_option maxRecDepth 100000 in
theorem Sl.frontB (h : Sl w 1 A n (U b)) {k : Nat} (hk : k ≤ n) : Sl w 1 A k (U (b.take k)) := by
  have h1 := h.front hk
  rw [Nat.mul_one] at h1
  rw [show U (b.take k) = (U b).take k by simp [U]]
  exact h1
set_option maxRecDepth 100000 in
/-- A slice of bytes made a string. -/
theorem run_str {P : Program} (src dst e : TypeId) (hs : P.underlying src = some (.slice e)) (he : P.underlying e = some (.int .u8)) (hd : P.underlying dst = some .string)
    (h : Sl w 1 A n (U b)) (c : Nat) : (convert src dst (.slice A n c)).run P w = .ok (.string (strOfNums b)) w := by
  have hl := h.blen
  rw [run_convert_bytes_string w src dst e A n c hs he hd]
  cases A with
  | none =>
    have hn : n = 0 := by
      rcases Nat.eq_zero_or_pos n with h0 | h0
      · exact h0
      · obtain ⟨ad, e, _⟩ := h.2 h0; cases e
    subst hn
    obtain rfl : b = [] := List.eq_nil_of_length_eq_zero hl
    simp [Conv.bytesToString, Sem.run_pure, strOfNums, ByteArray.empty, ByteArray.emptyWithCapacity]
    rfl
  | some ad =>
    have hcells : ∀ j u, (U b)[j]? = some u → w.cell? (ad.add j) = some u := by
      intro j u hu
      rcases Nat.eq_zero_or_pos n with h0 | h0
      · rw [h0] at hl
        obtain rfl : b = [] := List.eq_nil_of_length_eq_zero hl
        simp [U] at hu
      · obtain ⟨ad', e, _, hc⟩ := h.2 h0
        cases e
        exact hc j u hu
    have hload := run_loadCells_list (P := P) w ad (U b) hcells
    rw [U_length, hl] at hload
    rw [run_bytesToString w ad n c b hload, foldl_push_bytes]
    simp [strOfNums, ByteArray.empty, ByteArray.emptyWithCapacity]
    rfl
end

set_option maxRecDepth 100000 in
/-- append, onto a slice that the call owns, of whatever slice that reads as cells, nil too. -/
theorem run_app {P : Program} (w : World) (base : Nat) (t ty e : TypeId) (i : TypeInfo) (z : Value) (size bytes : Nat) (ht : P.underlying t = some (.slice e)) (hi : P.info? e = some i) (hz : i.zero = some z)
    (hsize : i.size = size) (hby : i.bytes = bytes) (hzs : z.cells.size = size) (hsz : 0 < size)
    (v : Value) (n : Nat) (xs : List Value) (hown : w.ownsRow base e size v n xs)
    (A : Option Addr) (m c : Nat) (news : List Value) (hs : Sl w size A m news) (h1 : ∀ u ∈ news, u.oneCell' = true)
    (h63 : n + m ≤ maxLen) (hbytes : (n + m) * bytes ≤ 140737488355328) (hbase : base ≤ w.heap.size) :
    ∃ v' w', (Builtin.append_ #[t, t] ty #[v, .slice A m c]).run P w = .ok v' w' ∧ w'.ownsRow base e size v' (n + m) (xs ++ news) ∧ w.grownBy w' v.ownBlock := by
  cases A with
  | none =>
    have hm : m = 0 := by
      rcases Nat.eq_zero_or_pos m with h0 | h0
      · exact h0
      · obtain ⟨ad, e, _⟩ := hs.2 h0; cases e
    subst hm
    obtain rfl : news = [] := List.eq_nil_of_length_eq_zero (by have := hs.1; simpa using this)
    refine ⟨v, w, ?_, by simpa using hown, ⟨rfl, rfl, rfl, Nat.le_refl _, fun _ _ _ => rfl⟩⟩
    rcases hown.2 with ⟨rfl, rfl⟩ | ⟨g, cap, cur, rfl, _, _, hnc, _⟩
    · simp [Builtin.append_, run_underlying ht, sizeOf, typeInfo, hi, Builtin.lenOf, Builtin.firstCells]
    · simp [Builtin.append_, run_underlying ht, sizeOf, typeInfo, hi, Builtin.lenOf, Builtin.firstCells, hnc, storeCells]
  | some ad =>
    have hcells : ∀ j u, news[j]? = some u → w.cell? (ad.add j) = some u := by
      intro j u hu
      rcases Nat.eq_zero_or_pos m with h0 | h0
      · have hl := hs.1
        rw [h0, Nat.zero_mul] at hl
        obtain rfl : news = [] := List.eq_nil_of_length_eq_zero hl
        simp at hu
      · obtain ⟨ad', e, _, hc⟩ := hs.2 h0
        cases e
        exact hc j u hu
    obtain ⟨v', w', hr, h2, h3, _⟩ := run_append_own (P := P) w base t ty e i z size bytes ht hi hz hsize hby hzs hsz v n xs hown ad m c news hs.1 hcells h1 h63 hbytes hbase
    exact ⟨v', w', hr, h2, h3⟩

set_option maxRecDepth 100000 in
theorem wpList_app {P : Program} (w : World) {ops : Array Oper} {rest : List Oper} {o : Oper} {a : Act} {Q : Exit → Act → World → Prop} (hgd : o.guard = none) (s x : Operand) (t : TypeId)
    (ho : o.op = .call { callee := .builtin .append, args := #[s, x], argTypes := #[t, t] })
    (base : Nat) (e : TypeId) (i : TypeInfo) (z : Value) (size bytes : Nat) (ht : P.underlying t = some (.slice e)) (hi : P.info? e = some i) (hz : i.zero = some z)
    (hsize : i.size = size) (hby : i.bytes = bytes) (hzs : z.cells.size = size) (hsz : 0 < size)
    (v : Value) (n : Nat) (xs : List Value) (hsv : a.eval s = v) (hown : w.ownsRow base e size v n xs)
    (A : Option Addr) (m c : Nat) (news : List Value) (hx : a.eval x = .slice A m c) (hs : Sl w size A m news) (h1 : ∀ u ∈ news, u.oneCell' = true)
    (h63 : n + m ≤ maxLen) (hbytes : (n + m) * bytes ≤ 140737488355328) (hbase : base ≤ w.heap.size)
    (h : ∀ v' w', w'.ownsRow base e size v' (n + m) (xs ++ news) → w.grownBy w' v.ownBlock → wpList P ops Q rest (a.put o.dst v') w') : wpList P ops Q (o :: rest) a w := by
  refine wpList_plain hgd fun K hK => ?_
  obtain ⟨v', w', hr, h2, h3⟩ := run_app (P := P) w base t o.type e i z size bytes ht hi hz hsize hby hzs hsz v n xs hown A m c news hs h1 h63 hbytes hbase
  unfold Oper.wp execOp
  simp only [ho, resolve, invoke, builtin, Sem.run_bind, Sem.run_pure, Result.andThen_ok, List.map_toArray, List.map_cons, List.map_nil, hsv, hx, hr]
  exact hK _ _ (h v' w' h2 h3)

set_option maxRecDepth 100000 in
theorem ret_int {k : IntKind} {a b : Int} (h : a = b) : Ending.returned (.int k a) = .returned (.int k b) := by rw [h]

end Go.Proofs.YtjfphjgmphlbhaaDoor

/-
  THE WALKS OF wire.fold, wire.unfold: an integer's number, and back.
-/
namespace Go.Proofs.YtjfphjgmphlbhaaDoor
open Go.RowKit

set_option maxRecDepth 100000 in
theorem not64 (b : Nat) (hb : b < 18446744073709551616) : bits .xor .u64 IntKind.u64.max (b : Int) = ((18446744073709551615 - b : Nat) : Int) := by
  have e2 : IntKind.u64.max = ((2 ^ 64 - 1 : Nat) : Int) := by decide
  rw [e2, bits_xor_u64_nat _ _ (by decide) (by omega), Lib.xor_ones64 _ (by omega)]



set_option maxRecDepth 100000 in
theorem fold_any (n : Int) (w : World) (h1 : -9223372036854775808 ≤ n) (h2 : n ≤ 9223372036854775807) :
    Calls Tryd.prog 88 #[.int .i64 n] w fun e w' => e = .returned (.int .u64 (Wm.zig n)) ∧ w = w' := by
  rcases Int.lt_or_le n 0 with hn | hn
  · have hw : IntKind.u64.wrap n = n + 18446744073709551616 := by rw [IntKind.wrap_u64]; omega
    have hz : bits .xor .u64 IntKind.u64.max (IntKind.u64.wrap (IntKind.u64.wrap n * 2)) = ((Wm.zig n : Nat) : Int) := by
      have := Lib.zigzag_neg h1 hn
      rw [this]; unfold Lib.zigzag Wm.zig; rfl
    have HZ := Lib.hid hz; clear hz hw
    go_enter Tryd.func88, Tryd.ntmps88
    go_wp2
    go_ret
    exact ⟨ret_int HZ.out, rfl⟩
  · have hz : ((Wm.zig n : Nat) : Int) = n * 2 := by unfold Wm.zig; rw [if_pos hn]; omega
    have HZ := Lib.hid hz; clear hz
    go_enter Tryd.func88, Tryd.ntmps88
    go_wp2
    go_ret
    exact ⟨ret_int HZ.out.symm, rfl⟩

set_option maxRecDepth 100000 in
theorem unfold_any (z : Nat) (w : World) (h : z < 18446744073709551616) :
    Calls Tryd.prog 84 #[.int .u64 z] w fun e w' => e = .returned (.int .i64 (Wm.zag z)) ∧ w = w' := by
  rcases Nat.mod_two_eq_zero_or_one z with hm | hm
  · have hz : Wm.zag z = (z : Int) / 2 := by unfold Wm.zag; rw [if_neg (by omega)]; omega
    have hb : ((z : Int) % 2 == 1) = false := by rw [beq_eq_false_iff_ne]; omega
    have HZ := Lib.hid hz; clear hz
    go_enter Tryd.func84, Tryd.ntmps84
    go_wp2
    go_ret
    exact ⟨ret_int HZ.out.symm, rfl⟩
  · have hz : wrap64 (bits .xor .u64 IntKind.u64.max ((z : Int) / 2)) = Wm.zag z := by
      have e : ((z : Int) / 2) = ((z / 2 : Nat) : Int) := by omega
      unfold Wm.zag
      rw [if_pos (by omega), e, not64 _ (by omega)]
      unfold wrap64
      omega
    have hb : ((z : Int) % 2 == 1) = true := by rw [beq_iff_eq]; omega
    have HZ := Lib.hid hz; clear hz
    go_enter Tryd.func84, Tryd.ntmps84
    go_wp2
    go_ret
    exact ⟨ret_int HZ.out, rfl⟩

end Go.Proofs.YtjfphjgmphlbhaaDoor

/-
  THE WALKS OF wire.appendInt, wire.Int and the reference's Int.
-/
namespace Go.Proofs.YtjfphjgmphlbhaaDoor
open Go.RowKit

set_option maxRecDepth 100000 in
theorem u8_info : (Tryd.prog.info? 5).map (fun i => (i.zero, i.size, i.bytes)) = some (some (.int .u8 0), 1, 1) := by kernel_rfl

set_option maxRecDepth 100000 in
/-- What a round of the encoding loop keeps: the bytes so far, and those of what is left, are the whole. -/
def Left (whole pre : Wm.Bs) (z : Nat) : Prop := pre ++ Wm.encN z = whole
set_option maxRecDepth 100000 in
theorem Left.len {whole pre : Wm.Bs} {z : Nat} (h : Left whole pre z) : pre.length < whole.length := by
  unfold Left at h; rw [← h, List.length_append]; have := Wm.encN_pos z; omega
set_option maxRecDepth 100000 in
theorem Left.next {whole pre : Wm.Bs} {z : Nat} (h : Left whole pre z) (hz : 128 ≤ z) : Left whole (pre ++ [(z : Int) % 128 + 128]) (z / 128) := by
  unfold Left at h ⊢
  rw [← h, Wm.encN_big hz, List.append_assoc]
  congr 1
set_option maxRecDepth 100000 in
theorem Left.last {whole pre : Wm.Bs} {z : Nat} (h : Left whole pre z) (hz : z < 128) : pre ++ [(z : Int)] = whole := by
  unfold Left at h; rw [← h, Wm.encN_small hz]

set_option maxRecDepth 100000 in
theorem own_snoc {w : World} {B : Nat} {e : TypeId} {v : Value} {a : Wm.Bs} {x : Int} (h : w.ownsRow B e 1 v (a.length + 1) (U a ++ [Value.int .u8 x])) : w.ownsRow B e 1 v (a ++ [x]).length (U (a ++ [x])) := by
  have e1 : (a ++ [x]).length = a.length + 1 := by simp
  rw [e1, U_append]
  exact h

set_option maxRecDepth 100000 in
set_option maxHeartbeats 400000 in
theorem appendInt_any (B : Nat) (v : Value) (xs : Wm.Bs) (n : Int) (w : World) (hown : w.ownsRow B 5 1 v xs.length (U xs)) (hB : B ≤ w.heap.size)
    (h1 : -9223372036854775808 ≤ n) (h2 : n ≤ 9223372036854775807) (hm : xs.length + (Wm.encI n).length ≤ 140737488355328) :
    Calls Tryd.prog 69 #[v, .int .i64 n] w fun e w' => ∃ v', e = .returned v' ∧ w'.ownsRow B 5 1 v' (xs ++ Wm.encI n).length (U (xs ++ Wm.encI n)) ∧ Below B w w' := by
  obtain ⟨i0, hi, hz0, hz1, hz2⟩ := info_parts u8_info
  have hzl := Wm.zig_lt h1 h2
  have HL : Left (Wm.encI n) [] (Wm.zig n) := rfl
  go_enter Tryd.func69, Tryd.ntmps69
  go_wp2_with (go_at_call 88; refine (fold_any n _ h1 h2).mono ?_; rintro e w' ⟨rfl, rfl⟩)
  go_loopw [0, 5] (fun b z wr => ∃ (pre : Wm.Bs) (zz : Nat), z = .int .u64 zz ∧ zz < 18446744073709551616 ∧ Left (Wm.encI n) pre zz ∧ wr.ownsRow B 5 1 b (xs ++ pre).length (U (xs ++ pre)) ∧ Below B w wr)
    (fun _ z _ => (intOf z).toNat)
  case atStart => exact ⟨[], _, rfl, hzl, HL, by simpa using hown, Below.refl _ _⟩
  case round =>
    obtain ⟨pre, zz, rfl, hzz, hleft, hor, hbr⟩ := hrel
    have hpl := hleft.len
    have hap : (xs ++ pre).length = xs.length + pre.length := List.length_append
    have hap1 : (xs ++ pre).length ≤ xs.length + pre.length := by omega
    clear hap
    by_cases hbig : 128 ≤ zz
    · go_wp2_with (at_builtin; refine wpList_append_own _ rfl _ _ 25 rfl B 5 i0 (.int .u8 0) 1 1 Tryd.underlying25 hi hz0 hz1 hz2 rfl (by decide) _ _ _ rfl (hor.alloc _) ⟨wr.heap.size, 0, none⟩ 1 1 [.int .u8 _] rfl rfl (cell_one_new _ _ _) (one_int _ _) (by unfold maxLen; omega) (by omega) (by have := hbr.size; simp; omega) ?_; intro v' w1 hown' hgrow _)
      have hn := hleft.next hbig
      have hb1 : Below B w w1 := (hbr.alloc (by have := hbr.size; omega) _).grown hgrow (by have := hbr.size; simp; omega) (fun k hk => (hor.lt k hk).1)
      have ho2 := own_snoc hown'
      rw [List.append_assoc] at ho2
      clear hown' hgrow hor hleft
      go_wp2
      go_roundw
      case rel => exact ⟨_, zz / 128, by go_num, by omega, hn, ho2, hb1⟩
      case measure => simp [intOf]; omega
    · have hz : zz < 128 := by omega
      go_wp2_with (at_builtin; refine wpList_append_own _ rfl _ _ 25 rfl B 5 i0 (.int .u8 0) 1 1 Tryd.underlying25 hi hz0 hz1 hz2 rfl (by decide) _ _ _ rfl (hor.alloc _) ⟨wr.heap.size, 0, none⟩ 1 1 [.int .u8 _] rfl rfl (cell_one_new _ _ _) (one_int _ _) (by unfold maxLen; omega) (by omega) (by have := hbr.size; simp; omega) ?_; intro v' w1 hown' hgrow _)
      have hn := hleft.last hz
      have hb1 : Below B w w1 := (hbr.alloc (by have := hbr.size; omega) _).grown hgrow (by have := hbr.size; simp; omega) (fun k hk => (hor.lt k hk).1)
      have ho2 := own_snoc hown'
      rw [List.append_assoc, hn] at ho2
      clear hown' hgrow hor hleft hn
      go_wp2
      go_ret
      exact ⟨_, rfl, ho2, hb1⟩

set_option maxRecDepth 100000 in
/-- What the two encoders of an integer answer: a new slice that holds the encoding. -/
def Made (bs : Wm.Bs) (w : World) (e : Ending) (w' : World) : Prop := ∃ v, e = .returned v ∧ w'.ownsRow w.heap.size 5 1 v bs.length (U bs) ∧ Later w w'

set_option maxRecDepth 100000 in
/-- The same, the slice written out. -/
def MadeAs (bs : Wm.Bs) (w : World) (e : Ending) (w' : World) : Prop := ∃ A c, e = .returned (.slice A bs.length c) ∧ bs.length ≤ c ∧ c ≤ maxLen ∧ w'.ownsRow w.heap.size 5 1 (.slice A bs.length c) bs.length (U bs) ∧ Sl w' 1 A bs.length (U bs) ∧ Later w w'
set_option maxRecDepth 100000 in
theorem Made.as {bs : Wm.Bs} {w : World} {e : Ending} {w' : World} (h : Made bs w e w') : MadeAs bs w e w' := by
  obtain ⟨v, he, ho, hb⟩ := h
  obtain ⟨A, c, hv, h1, h2, h3, _⟩ := own_form ho
  rw [hv] at he ho
  exact ⟨A, c, he, h1, h2, ho, h3, hb⟩
set_option maxRecDepth 100000 in
theorem made_as {f : FuncId} {args : Array Value} {bs : Wm.Bs} {w : World} (h : Calls Tryd.prog f args w (Made bs w)) : Calls Tryd.prog f args w (MadeAs bs w) := h.mono fun _ _ hh => hh.as

set_option maxRecDepth 100000 in
set_option maxHeartbeats 400000 in
theorem wireInt_any (n : Int) (w : World) (h1 : -9223372036854775808 ≤ n) (h2 : n ≤ 9223372036854775807) :
    Calls Tryd.prog 87 #[.int .i64 n] w (Made (Wm.encI n) w) := by
  have hc := appendInt_any w.heap.size (.slice none 0 0) [] n w (World.ownsRow_nil _ _ _ _) (Nat.le_refl _) h1 h2 (by have := Wm.encI_len h1 h2; simp; omega)
  simp only [List.nil_append] at hc
  have H := Lib.hid hc; clear hc
  go_enter Tryd.func87, Tryd.ntmps87
  go_wp2_with (go_at_call 69; refine (H.out).mono ?_; rintro e w' ⟨v, rfl, ho, hb⟩)
  go_ret
  exact ⟨_, rfl, ho, hb⟩

set_option maxRecDepth 100000 in
set_option maxHeartbeats 400000 in
theorem refInt_any (n : Int) (w : World) (h1 : -9223372036854775808 ≤ n) (h2 : n ≤ 9223372036854775807) :
    Calls Tryd.prog 85 #[.int .i64 n] w (Made (Wm.encI n) w) := by
  obtain ⟨i0, hi, hz0, hz1, hz2⟩ := info_parts u8_info
  have hl := Wm.encI_len h1 h2
  have hzl := Wm.zig_lt h1 h2
  have HL : Left (Wm.encI n) [] (Wm.zig n) := rfl
  have hw : 0 ≤ n → (n * 2 : Int) = (Wm.zig n : Int) := fun h => by unfold Wm.zig; rw [if_pos h]; omega
  have hw2 : n < 0 → ((-1 - n) * 2 + 1 : Int) = (Wm.zig n : Int) := fun h => by unfold Wm.zig; rw [if_neg (by omega)]; omega
  have HW := Lib.hid hw; have HW2 := Lib.hid hw2; clear hw hw2
  rcases Int.lt_or_le n 0 with hn | hn
  all_goals
    go_enter Tryd.func85, Tryd.ntmps85
    go_wp2
    go_loopw [3, 4] (fun z b wr => ∃ (pre : Wm.Bs) (zz : Nat), z = .int .u64 zz ∧ zz < 18446744073709551616 ∧ Left (Wm.encI n) pre zz ∧ wr.ownsRow w.heap.size 5 1 b pre.length (U pre) ∧ Later w wr)
      (fun z _ _ => (intOf z).toNat)
    case atStart => exact ⟨[], _, by first | rw [HW2.out hn] | rw [HW.out hn], hzl, HL, World.ownsRow_nil _ _ _ _, Below.refl _ _⟩
    case round =>
      obtain ⟨pre, zz, rfl, hzz, hleft, hor, hbr⟩ := hrel
      have hpl := hleft.len
      by_cases hbig : 128 ≤ zz
      · go_wp2_with (at_builtin; refine wpList_append_own _ rfl _ _ 25 rfl w.heap.size 5 i0 (.int .u8 0) 1 1 Tryd.underlying25 hi hz0 hz1 hz2 rfl (by decide) _ _ _ rfl (hor.alloc _) ⟨wr.heap.size, 0, none⟩ 1 1 [.int .u8 _] rfl rfl (cell_one_new _ _ _) (one_int _ _) (by unfold maxLen; omega) (by omega) (by have := hbr.size; simp; omega) ?_; intro v' w1 hown' hgrow _)
        have hn' := hleft.next hbig
        have hb1 : Later w w1 := (hbr.alloc hbr.size _).grown hgrow (by have := hbr.size; simp; omega) (fun k hk => (hor.lt k hk).1)
        have ho2 := own_snoc hown'
        clear hown' hgrow hor hleft
        go_wp2
        go_roundw
        case rel => exact ⟨_, zz / 128, by go_num, by omega, hn', ho2, hb1⟩
        case measure => simp [intOf]; omega
      · have hz : zz < 128 := by omega
        go_wp2_with (at_builtin; refine wpList_append_own _ rfl _ _ 25 rfl w.heap.size 5 i0 (.int .u8 0) 1 1 Tryd.underlying25 hi hz0 hz1 hz2 rfl (by decide) _ _ _ rfl (hor.alloc _) ⟨wr.heap.size, 0, none⟩ 1 1 [.int .u8 _] rfl rfl (cell_one_new _ _ _) (one_int _ _) (by unfold maxLen; omega) (by omega) (by have := hbr.size; simp; omega) ?_; intro v' w1 hown' hgrow _)
        have hn' := hleft.last hz
        have hb1 : Later w w1 := (hbr.alloc hbr.size _).grown hgrow (by have := hbr.size; simp; omega) (fun k hk => (hor.lt k hk).1)
        have ho2 := own_snoc hown'
        rw [hn'] at ho2
        clear hown' hgrow hor hleft hn'
        go_wp2
        go_ret
        exact ⟨_, rfl, ho2, hb1⟩

end Go.Proofs.YtjfphjgmphlbhaaDoor

/-
  THE WALKS OF wire.GetInt and the reference's GetInt.
-/
namespace Go.Proofs.YtjfphjgmphlbhaaDoor
open Go.RowKit

set_option maxRecDepth 100000 in
/-- An integer, a length and an error, as they are handed back. -/
def ans (r : Int × Nat × Int) : Value := .tuple #[.int .i64 r.1, .int .i64 r.2.1, .int .i64 r.2.2]
set_option maxRecDepth 100000 in
theorem ret_ans {a b c : Int} {r : Int × Nat × Int} (h1 : a = r.1) (h2 : b = r.2.1) (h3 : c = r.2.2) : Ending.returned (.tuple #[.int .i64 a, .int .i64 b, .int .i64 c]) = .returned (ans r) := by
  rw [h1, h2, h3]; rfl
set_option maxRecDepth 100000 in
def Ahead (b : Wm.Bs) (k : Nat) : Prop := ∀ i, i < k → 128 ≤ b.getD i 0
set_option maxRecDepth 100000 in
theorem Ahead.zero (b : Wm.Bs) : Ahead b 0 := fun i hi => by omega
set_option maxRecDepth 100000 in
theorem Ahead.next {b : Wm.Bs} {k : Nat} (h : Ahead b k) (hx : 128 ≤ b.getD k 0) : Ahead b (k + 1) := fun i hi => by
  rcases Nat.lt_or_ge i k with h1 | h1
  · exact h i h1
  · rw [show i = k by omega]; exact hx

set_option maxRecDepth 100000 in
theorem bs_at {b : Wm.Bs} (hb : Wm.isBs b) (k : Nat) : 0 ≤ b.getD k 0 ∧ b.getD k 0 < 256 := by
  rcases Nat.lt_or_ge k b.length with h | h
  · rw [List.getD_eq_getElem?_getD, List.getElem?_eq_getElem h]; exact hb _ (List.getElem_mem h)
  · rw [List.getD_eq_getElem?_getD, List.getElem?_eq_none h]; exact ⟨by decide, by decide⟩
set_option maxRecDepth 100000 in
theorem Sl.byte {w : World} {A : Option Addr} {n : Nat} {b : Wm.Bs} (h : Sl w 1 A n (U b)) {k : Nat} (hk : k < n) : ∃ ad, A = some ad ∧ ad.block < w.heap.size ∧ w.cell? (ad.add k) = some (.int .u8 (b.getD k 0)) := by
  obtain ⟨ad, u, e, hb, hu, hc⟩ := h.at1 hk
  have hl : k < b.length := by have := h.1; rw [U_length] at this; omega
  rw [U_get b k hl] at hu
  cases hu
  exact ⟨ad, e, hb, hc⟩

set_option maxRecDepth 100000 in
theorem or_step (b : Wm.Bs) (k : Nat) (x : Int) (hx : b.getD k 0 = x) (h0 : 0 ≤ x) (h1 : x < 256) (hk : k < b.length) (h9 : k < 9 ∨ k = 9 ∧ x ≤ 1) :
    bits .or .u64 (Wm.low k b) (IntKind.u64.wrap (x % 128 * 2 ^ (7 * k))) = ((Wm.low (k + 1) b : Nat) : Int) := by
  obtain ⟨X, hX⟩ : ∃ X : Nat, x % 128 = (X : Int) := ⟨(x % 128).toNat, by omega⟩
  have hXlt : X < 128 := by omega
  have hl := Wm.low_lt k b
  have ep : (2 : Nat) ^ (7 * k) = 128 ^ k := by rw [Nat.pow_mul]
  have hle : 128 ^ k * X < 2 ^ 64 := by
    rcases h9 with h | ⟨rfl, h⟩
    · have h2 : 128 ^ k ≤ 128 ^ 8 := Nat.pow_le_pow_right (by decide) (by omega)
      have h3 := Nat.mul_le_mul h2 (show X ≤ 127 by omega)
      exact Nat.lt_of_le_of_lt h3 (by decide)
    · have h3 := Nat.mul_le_mul_left (128 ^ 9) (show X ≤ 1 by omega)
      exact Nat.lt_of_le_of_lt h3 (by decide)
  have hk2 : 128 ^ k < 2 ^ 64 := by
    have h2 : 128 ^ k ≤ 128 ^ 9 := Nat.pow_le_pow_right (by decide) (by rcases h9 with h | ⟨h, _⟩ <;> omega)
    exact Nat.lt_of_le_of_lt h2 (by decide)
  have e1 : (x % 128 * 2 ^ (7 * k) : Int) = ((128 ^ k * X : Nat) : Int) := by
    rw [hX, ← ep, Int.natCast_mul, Int.natCast_pow, Int.mul_comm]; rfl
  have e2 : IntKind.u64.wrap ((128 ^ k * X : Nat) : Int) = ((128 ^ k * X : Nat) : Int) := by
    rw [IntKind.wrap_u64]
    generalize 128 ^ k * X = M at hle
    omega
  rw [e1, e2, bits_or_u64_nat _ _ (Nat.lt_trans hl hk2) hle, Wm.low_snoc k b hk, hx, hX, Int.toNat_natCast, ← ep, Nat.or_comm, ← Nat.two_pow_add_eq_or_of_lt (by rw [ep]; exact hl), Nat.add_comm]

set_option maxRecDepth 100000 in
theorem dec_big {b : Wm.Bs} (h : Ahead b 9) (hl : 9 < b.length) (hx : 1 < b.getD 9 0) : Wm.decI b = (0, 0, 11) := by
  unfold Wm.decI
  by_cases h10 : b.getD 9 0 < 128
  · have e : Wm.lead 10 b = 9 := Wm.lead_is 10 b 9 h (by omega) (by omega) (.inr (.inr h10))
    rw [e, if_neg (by omega), if_neg (by omega), if_pos (.inl ⟨rfl, hx⟩)]
  · have e : Wm.lead 10 b = 10 := Wm.lead_is 10 b 10 (h.next (by omega)) (by omega) (by omega) (.inl rfl)
    rw [e, if_pos rfl]
set_option maxRecDepth 100000 in
theorem dec_zero {b : Wm.Bs} {k : Nat} (h : Ahead b k) (h0 : 0 < k) (hk : k ≤ 9) (hl : k < b.length) (hx : b.getD k 0 = 0) : Wm.decI b = (0, 0, 11) := by
  have e : Wm.lead 10 b = k := Wm.lead_is 10 b k h (by omega) (by omega) (.inr (.inr (by omega)))
  unfold Wm.decI
  rw [e, if_neg (by omega), if_neg (by omega), if_pos (.inr ⟨h0, hx⟩)]
set_option maxRecDepth 100000 in
theorem dec_good {b : Wm.Bs} {k : Nat} (h : Ahead b k) (hk : k ≤ 9) (hl : k < b.length) (hx : b.getD k 0 < 128) (h1 : ¬ (k = 9 ∧ 1 < b.getD 9 0)) (h2 : ¬ (0 < k ∧ b.getD k 0 = 0)) : Wm.decI b = (Wm.zag (Wm.low (k + 1) b), k + 1, 0) := by
  have e : Wm.lead 10 b = k := Wm.lead_is 10 b k h (by omega) (by omega) (.inr (.inr hx))
  unfold Wm.decI
  rw [e, if_neg (by omega), if_neg (by omega), if_neg (by rintro (h | h); exact h1 h; exact h2 h)]
set_option maxRecDepth 100000 in
theorem dec_end {b : Wm.Bs} (h : Ahead b b.length) (hk : b.length ≤ 9) : Wm.decI b = (0, 0, 10) := by
  have e : Wm.lead 10 b = b.length := Wm.lead_is 10 b b.length h (by omega) (by omega) (.inr (.inl rfl))
  unfold Wm.decI
  rw [e, if_neg (by omega), if_pos rfl]
set_option maxRecDepth 100000 in
theorem dec_ten {b : Wm.Bs} (h : Ahead b 10) (hk : 10 ≤ b.length) : Wm.decI b = (0, 0, 11) := by
  have e : Wm.lead 10 b = 10 := Wm.lead_is 10 b 10 h hk (by omega) (.inl rfl)
  unfold Wm.decI
  rw [e, if_pos rfl]

set_option maxRecDepth 100000 in
set_option maxHeartbeats 400000 in
theorem getInt_any (A : Option Addr) (n c : Nat) (b : Wm.Bs) (w : World) (hs : Sl w 1 A n (U b)) (hb : Wm.isBs b) (hn : n ≤ maxLen) :
    Calls Tryd.prog 57 #[.slice A n c] w fun e w' => e = .returned (ans (Wm.decI b)) ∧ w = w' := by
  unfold maxLen at hn
  go_enter Tryd.func57, Tryd.ntmps57
  go_wp2; go_step3; go_wp2; go_step3; go_wp2
  go_loop [5, 6, 11] (fun z u i => ∃ k : Nat, k ≤ n ∧ k ≤ 9 ∧ Ahead b k ∧ i = .int .i64 k ∧ z = .int .u64 (Wm.low k b) ∧ u = .int .i64 0) (fun _ _ i => n - (intOf i).toNat)
  case atStart => exact ⟨0, Nat.zero_le _, by omega, Ahead.zero b, rfl, rfl, rfl⟩
  case round =>
    obtain ⟨k, hk, hk9, hah, rfl, rfl, rfl⟩ := hrel
    have hln : n ≤ b.length := Nat.le_of_eq hs.blen.symm
    have hln2 : b.length ≤ n := Nat.le_of_eq hs.blen
    by_cases hlt : k < n
    · obtain ⟨ad, rfl, hbl, hc⟩ := hs.byte hlt
      obtain ⟨x, hx, h0, h1⟩ : ∃ x, b.getD k 0 = x ∧ 0 ≤ x ∧ x < 256 := ⟨_, rfl, bs_at hb k⟩
      rw [hx] at hc
      have HX := Lib.hid hx; clear hx
      go_wp2_with fail
      · have hq : Wm.decI b = (0, 0, 11) := dec_big (by rwa [show k = 9 by omega] at hah) (by omega) (by rw [show k = 9 by omega] at HX; rw [HX.out]; assumption)
        go_ret3
        exact ⟨by rw [hq]; rfl, rfl⟩
      · have hx0 : x = 0 := by simpa using (show (x == 0) = true by assumption)
        have hq : Wm.decI b = (0, 0, 11) := dec_zero hah (by omega) (by omega) (by omega) (by rw [HX.out]; exact hx0)
        go_ret3
        exact ⟨by rw [hq]; rfl, rfl⟩
      · have hx0 : ¬ x = 0 := by simpa using (show (x == 0) = false by assumption)
        have hq : Wm.decI b = (Wm.zag (Wm.low (k + 1) b), k + 1, 0) := dec_good hah (by omega) (by omega) (by rw [HX.out]; assumption) (by rintro ⟨rfl, h⟩; rw [HX.out] at h; omega) (by rintro ⟨_, h⟩; rw [HX.out] at h; exact hx0 h)
        have hcap := Wm.low_cap hb (show k < b.length by omega) (by rcases Nat.lt_or_ge k 9 with h | h; exact .inl h; exact .inr ⟨by omega, by rw [show k = 9 by omega] at HX; rw [HX.out]; omega⟩)
        have HQ := Lib.hid hq; clear hq
        rw [or_step b k x HX.out h0 h1 (by omega) (by omega)]
        refine (unfold_any _ _ hcap).mono ?_
        rintro e w' ⟨rfl, rfl⟩
        go_wp2
        rw [Exit.noGoto_ret]
        go_ret3
        exact ⟨ret_ans (by rw [HQ.out]) (by rw [HQ.out]; show _ = ((k + 1 : Nat) : Int); omega) (by rw [HQ.out]), rfl⟩
      · have hx0 : x = 0 := by simpa using (show (x == 0) = true by assumption)
        have hq : Wm.decI b = (0, 0, 11) := dec_zero hah (by omega) (by omega) (by omega) (by rw [HX.out]; exact hx0)
        go_ret3
        exact ⟨by rw [hq]; rfl, rfl⟩
      · have hx0 : ¬ x = 0 := by simpa using (show (x == 0) = false by assumption)
        have hq : Wm.decI b = (Wm.zag (Wm.low (k + 1) b), k + 1, 0) := dec_good hah (by omega) (by omega) (by rw [HX.out]; assumption) (by rintro ⟨rfl, h⟩; rw [HX.out] at h; omega) (by rintro ⟨_, h⟩; rw [HX.out] at h; exact hx0 h)
        have hcap := Wm.low_cap hb (show k < b.length by omega) (by rcases Nat.lt_or_ge k 9 with h | h; exact .inl h; exact .inr ⟨by omega, by rw [show k = 9 by omega] at HX; rw [HX.out]; omega⟩)
        have HQ := Lib.hid hq; clear hq
        rw [or_step b k x HX.out h0 h1 (by omega) (by omega)]
        refine (unfold_any _ _ hcap).mono ?_
        rintro e w' ⟨rfl, rfl⟩
        go_wp2
        rw [Exit.noGoto_ret]
        go_ret3
        exact ⟨ret_ans (by rw [HQ.out]) (by rw [HQ.out]; show _ = ((k + 1 : Nat) : Int); omega) (by rw [HQ.out]), rfl⟩
      · have ho := or_step b k x HX.out h0 h1 (by omega) (by omega)
        have hnx := hah.next (by rw [HX.out]; assumption)
        go_round
        case rel => exact ⟨k + 1, by omega, by omega, hnx, by go_num, by rw [ho], rfl⟩
        case measure => simp [intOf]; omega
      · have hq : Wm.decI b = (Wm.zag (Wm.low (k + 1) b), k + 1, 0) := dec_good hah (by omega) (by omega) (by rw [HX.out]; assumption) (by rintro ⟨rfl, h⟩; rw [HX.out] at h; omega) (by omega)
        have hcap := Wm.low_cap hb (show k < b.length by omega) (by rcases Nat.lt_or_ge k 9 with h | h; exact .inl h; exact .inr ⟨by omega, by rw [show k = 9 by omega] at HX; rw [HX.out]; omega⟩)
        have HQ := Lib.hid hq; clear hq
        rw [or_step b k x HX.out h0 h1 (by omega) (by omega)]
        refine (unfold_any _ _ hcap).mono ?_
        rintro e w' ⟨rfl, rfl⟩
        go_wp2
        rw [Exit.noGoto_ret]
        go_ret3
        exact ⟨ret_ans (by rw [HQ.out]) (by rw [HQ.out]; show _ = ((k + 1 : Nat) : Int); omega) (by rw [HQ.out]), rfl⟩
      · have ho := or_step b k x HX.out h0 h1 (by omega) (by omega)
        have hnx := hah.next (by rw [HX.out]; assumption)
        go_round
        case rel => exact ⟨k + 1, by omega, by omega, hnx, by go_num, by rw [ho], rfl⟩
        case measure => simp [intOf]; omega
    · obtain rfl : k = n := by omega
      have hq : Wm.decI b = (0, 0, 10) := by
        have e : k = b.length := by omega
        subst e
        exact dec_end hah hk9
      have HQ := Lib.hid hq; clear hq
      go_wp2
      go_ret3
      exact ⟨by rw [HQ.out]; rfl, rfl⟩

set_option maxRecDepth 100000 in
theorem zag_even {z : Nat} (h : z % 2 = 0) : ((z : Int) / 2) = Wm.zag z := by unfold Wm.zag; rw [if_neg (by omega)]; omega
set_option maxRecDepth 100000 in
theorem zag_odd {z : Nat} (h : z % 2 = 1) : (-1 - (z : Int) / 2) = Wm.zag z := by unfold Wm.zag; rw [if_pos h]; omega

set_option maxRecDepth 100000 in
theorem low_le_drop (b : Wm.Bs) (m : Nat) (j : Nat) : ∀ i, i + j ≤ b.length → Wm.low m (b.drop (i + j)) ≤ Wm.low (m + j) (b.drop i) := by
  induction j generalizing m with
  | zero => intro i _; exact Nat.le_refl _
  | succ j ih =>
    intro i h
    have h1 := Wm.low_drop m b (i + j) (by omega)
    have h2 := ih (m + 1) i (by omega)
    rw [show m + (j + 1) = m + 1 + j by omega]
    rw [show i + (j + 1) = i + j + 1 by omega]
    omega

set_option maxRecDepth 100000 in
set_option maxHeartbeats 400000 in
theorem refGetInt_any (A : Option Addr) (n c : Nat) (b : Wm.Bs) (w : World) (hs : Sl w 1 A n (U b)) (hb : Wm.isBs b) (hn : n ≤ maxLen) :
    Calls Tryd.prog 63 #[.slice A n c] w fun e w' => e = .returned (ans (Wm.decI b)) ∧ w = w' := by
  unfold maxLen at hn
  have hln : n ≤ b.length := Nat.le_of_eq hs.blen.symm
  have hln2 : b.length ≤ n := Nat.le_of_eq hs.blen
  go_enter Tryd.func63, Tryd.ntmps63
  go_wp2
  go_loop [5] (fun i => ∃ k : Nat, k ≤ n ∧ k ≤ 10 ∧ Ahead b k ∧ i = .int .i64 k) (fun i => n - (intOf i).toNat)
  case atStart => exact ⟨0, Nat.zero_le _, by omega, Ahead.zero b, rfl⟩
  case round =>
    obtain ⟨k, hk, hk9, hah, rfl⟩ := hrel
    by_cases hlt : k < n
    · by_cases h10 : k < 10
      · obtain ⟨ad, rfl, hbl, hc⟩ := hs.byte hlt
        obtain ⟨x, hx, h0, h1⟩ : ∃ x, b.getD k 0 = x ∧ 0 ≤ x ∧ x < 256 := ⟨_, rfl, bs_at hb k⟩
        rw [hx] at hc
        have HX := Lib.hid hx; clear hx
        by_cases hbig : 128 ≤ x
        · have hnx := hah.next (by rw [HX.out]; exact hbig)
          go_wp2
          go_round
          case rel => exact ⟨k + 1, by omega, by omega, hnx, by go_num⟩
          case measure => simp [intOf]; omega
        · have hk10 : ((k : Int) == 10) = false := by rw [beq_eq_false_iff_ne]; omega
          have hkn : ((k : Int) == (n : Int)) = false := by rw [beq_eq_false_iff_ne]; omega
          have h9t : ((k : Int) == 9) = true ∨ ((k : Int) == 9) = false := by cases ((k : Int) == 9) <;> simp
          have hpk : (0 < k) ∨ ¬ (0 < k) := by omega
          by_cases hbad : (k = 9 ∧ 1 < x) ∨ (0 < k ∧ x = 0)
          · have hq : Wm.decI b = (0, 0, 11) := by
              rcases hbad with ⟨rfl, h⟩ | ⟨h, h'⟩
              · exact dec_big hah (by omega) (by rw [HX.out]; exact h)
              · exact dec_zero hah h (by omega) (by omega) (by rw [HX.out]; exact h')
            have HQ := Lib.hid hq; clear hq
            have H9 := Lib.hid hbad; clear hbad hpk
            rcases h9t with h9t | h9t
            · have hk0 : 0 < k := by have := beq_iff_eq.1 h9t; omega
              by_cases hx1 : 1 < x
              · go_wp2
                go_ret3
                exact ⟨by rw [HQ.out]; rfl, rfl⟩
              · have hx0 : (x == 0) = true := by rcases H9.out with ⟨_, h⟩ | ⟨_, h⟩; exact absurd h hx1; rw [h]; rfl
                go_wp2
                go_ret3
                exact ⟨by rw [HQ.out]; rfl, rfl⟩
            · have hk9' : ¬ k = 9 := by have := beq_eq_false_iff_ne.1 h9t; omega
              have hk0 : 0 < k := by rcases H9.out with ⟨h, _⟩ | ⟨h, _⟩ <;> omega
              have hx0 : (x == 0) = true := by rcases H9.out with ⟨h, _⟩ | ⟨_, h⟩; exact absurd h hk9'; rw [h]; rfl
              clear hk9'
              go_wp2
              go_ret3
              exact ⟨by rw [HQ.out]; rfl, rfl⟩
          · have hq : Wm.decI b = (Wm.zag (Wm.low (k + 1) b), k + 1, 0) := dec_good hah (by omega) (by omega) (by rw [HX.out]; omega) (by rintro ⟨rfl, h⟩; rw [HX.out] at h; exact hbad (.inl ⟨rfl, h⟩)) (by rintro ⟨h, h'⟩; rw [HX.out] at h'; exact hbad (.inr ⟨h, h'⟩))
            have hcap := Wm.low_cap hb (show k < b.length by omega) (by rcases Nat.lt_or_ge k 9 with h | h; exact .inl h; exact .inr ⟨by omega, by rw [show k = 9 by omega] at HX hbad; rw [HX.out]; omega⟩)
            have HQ := Lib.hid hq; clear hq
            have hx0 : (0 < k) → (x == 0) = false := fun h => by rw [beq_eq_false_iff_ne]; intro h'; exact hbad (.inr ⟨h, h'⟩)
            have hx1 : k = 9 → ¬ 1 < x := fun h h' => hbad (.inl ⟨h, h'⟩)
            clear hbad
            have hways : (((k : Int) == 9) = true ∧ 0 < k ∧ ¬ 1 < x ∧ (x == 0) = false) ∨ (((k : Int) == 9) = false ∧ 0 < k ∧ (x == 0) = false) ∨ (((k : Int) == 9) = false ∧ ¬ 0 < k) := by
              rcases h9t with h | h
              · have h' := beq_iff_eq.1 h
                exact .inl ⟨h, by omega, hx1 (by omega), hx0 (by omega)⟩
              · rcases hpk with h' | h'
                · exact .inr (.inl ⟨h, h', hx0 h'⟩)
                · exact .inr (.inr ⟨h, h'⟩)
            clear hx0 hx1 h9t hpk
            rcases hways with ⟨t1, t2, t3, t4⟩ | ⟨t1, t2, t3⟩ | ⟨t1, t2⟩
            all_goals
              go_wp2
              go_loop [6, 7] (fun z i => ∃ t : Int, -1 ≤ t ∧ t ≤ k ∧ i = .int .i64 t ∧ z = .int .u64 (Wm.low ((k : Int) - t).toNat (b.drop (t + 1).toNat))) (fun _ i => (intOf i + 1).toNat)
              case atStart => exact ⟨k, by omega, by omega, rfl, by rw [show ((k : Int) - k).toNat = 0 by omega]; rfl⟩
              case round =>
                obtain ⟨t, ht0, htk, rfl, rfl⟩ := hrel
                by_cases htn : 0 ≤ t
                · obtain ⟨i, rfl⟩ := Int.eq_ofNat_of_zero_le htn
                  obtain ⟨ad', hade, _, hci⟩ := hs.byte (show i < n by omega)
                  cases hade
                  have e1 : ((k : Int) - (i : Int)).toNat = k - i := by omega
                  have e2 : ((i : Int) + 1).toNat = i + 1 := by omega
                  rw [e1, e2]
                  clear e1 e2
                  obtain ⟨y, hy, y0, y1⟩ : ∃ y, b.getD i 0 = y ∧ 0 ≤ y ∧ y < 256 := ⟨_, rfl, bs_at hb i⟩
                  rw [hy] at hci
                  have hld := Wm.low_drop (k - i) b i (by omega)
                  have hle := low_le_drop b (k - i + 1) i 0 (by omega)
                  rw [Nat.zero_add, List.drop_zero, show k - i + 1 + i = k + 1 by omega] at hle
                  rw [hy] at hld
                  obtain ⟨Z, hZ⟩ : ∃ Z, Wm.low (k - i) (b.drop (i + 1)) = Z := ⟨_, rfl⟩
                  rw [hZ] at hld ⊢
                  have hzb : ((Z : Int) * 128 + y % 128) < 18446744073709551616 := by omega
                  have HZ : Hid (((Z : Int) * 128 + y % 128) = ((Wm.low (k - i + 1) (b.drop i) : Nat) : Int)) := by rw [hld]; show _ = _; omega
                  clear hZ hld hle hy
                  go_wp2
                  go_round
                  case rel => exact ⟨(i : Int) - 1, by omega, by omega, rfl, by rw [HZ.out, show ((k : Int) - ((i : Int) - 1)).toNat = k - i + 1 by omega, show ((i : Int) - 1 + 1).toNat = i by omega]⟩
                  case measure => simp [intOf]
                · obtain rfl : t = -1 := by omega
                  have e1 : ((k : Int) - (-1)).toNat = k + 1 := by omega
                  have e2 : ((-1 : Int) + 1).toNat = 0 := by decide
                  rw [e1, e2, List.drop_zero]
                  clear e1 e2
                  obtain ⟨Z, hZ⟩ : ∃ Z, Wm.low (k + 1) b = Z := ⟨_, rfl⟩
                  rw [hZ] at hcap HQ ⊢
                  clear hZ
                  rcases Nat.mod_two_eq_zero_or_one Z with hm | hm
                  · have hzb : ((Z : Int) % 2 == 1) = false := by rw [beq_eq_false_iff_ne]; omega
                    have HM := Lib.hid hm; clear hm
                    go_wp2
                    go_ret3
                    exact ⟨ret_ans (by rw [HQ.out]; exact zag_even HM.out) (by rw [HQ.out]; show _ = ((k + 1 : Nat) : Int); omega) (by rw [HQ.out]), rfl⟩
                  · have hzb : ((Z : Int) % 2 == 1) = true := by rw [beq_iff_eq]; omega
                    have HM := Lib.hid hm; clear hm
                    go_wp2
                    go_ret3
                    exact ⟨ret_ans (by rw [HQ.out]; exact zag_odd HM.out) (by rw [HQ.out]; show _ = ((k + 1 : Nat) : Int); omega) (by rw [HQ.out]), rfl⟩
      · have hq : Wm.decI b = (0, 0, 11) := dec_ten (by rwa [show k = 10 by omega] at hah) (by omega)
        have HQ := Lib.hid hq; clear hq
        have hk10 : ((k : Int) == 10) = true := by rw [beq_iff_eq]; omega
        go_wp2
        go_ret3
        exact ⟨by rw [HQ.out]; rfl, rfl⟩
    · have hkn : ((k : Int) == (n : Int)) = true := by rw [beq_iff_eq]; omega
      by_cases h10 : k = 10
      · have hq : Wm.decI b = (0, 0, 11) := dec_ten (by rwa [h10] at hah) (by omega)
        have HQ := Lib.hid hq; clear hq
        have hk10 : ((k : Int) == 10) = true := by rw [beq_iff_eq]; omega
        clear h10
        go_wp2
        go_ret3
        exact ⟨by rw [HQ.out]; rfl, rfl⟩
      · have hq : Wm.decI b = (0, 0, 10) := by
          obtain rfl : k = b.length := by omega
          exact dec_end hah (by omega)
        have HQ := Lib.hid hq; clear hq
        have hk10 : ((k : Int) == 10) = false := by rw [beq_eq_false_iff_ne]; omega
        clear h10
        go_wp2
        go_ret3
        exact ⟨by rw [HQ.out]; rfl, rfl⟩

end Go.Proofs.YtjfphjgmphlbhaaDoor

/-
  THE WALKS OF wire.getLength, the reference's length; wire.GetBytes and the reference's.
-/
namespace Go.Proofs.YtjfphjgmphlbhaaDoor
open Go.RowKit

set_option maxRecDepth 100000 in
theorem neq_false {a b : Int} (h : a = b) : (a != b) = false := by rw [h]; simp
set_option maxRecDepth 100000 in
theorem neq_true {a b : Int} (h : a ≠ b) : (a != b) = true := by simpa using h
set_option maxRecDepth 100000 in
theorem eq_false {a b : Int} (h : a ≠ b) : (a == b) = false := by simpa using h
set_option maxRecDepth 100000 in
theorem eq_true {a b : Int} (h : a = b) : (a == b) = true := by simpa using h

set_option maxRecDepth 100000 in
/-- A contract's answer, written out. -/
theorem Calls.out3 {P : Program} {f : FuncId} {args : Array Value} {w : World} {r : Int × Nat × Int} {z : Int} {u : Nat} {e : Int} (h : Calls P f args w fun x w' => x = .returned (ans r) ∧ w = w') (hr : r = (z, u, e)) :
    Calls P f args w fun x w' => x = .returned (.tuple #[.int .i64 z, .int .i64 u, .int .i64 e]) ∧ w = w' := by subst hr; exact h

set_option maxRecDepth 100000 in
theorem len_cast (n u least : Nat) (h : u ≤ n) : (((n - u) / least : Nat) : Int) = ((n : Int) - u) / least := by
  rw [show ((n : Int) - u) = ((n - u : Nat) : Int) by omega]; rfl

set_option maxRecDepth 100000 in
set_option maxHeartbeats 400000 in
theorem getLength_any (A : Option Addr) (n c : Nat) (b : Wm.Bs) (least : Nat) (w : World) (hs : Sl w 1 A n (U b)) (hb : Wm.isBs b) (hn : n ≤ maxLen) (hl : 1 ≤ least) (hl2 : least ≤ 1000) :
    Calls Tryd.prog 83 #[.slice A n c, .int .i64 least] w fun e w' => e = .returned (ans (Wm.decLen b least)) ∧ w = w' := by
  have hc := getInt_any A n c b w hs hb hn
  unfold maxLen at hn
  obtain ⟨z, u, e, hr⟩ : ∃ z u e, Wm.decI b = (z, u, e) := ⟨_, _, _, rfl⟩
  have hq : Wm.decLen b least = if e ≠ 0 then (0, 0, e) else if z < 0 then (0, 0, 11) else if (((b.length - u) / least : Nat) : Int) < z then (0, 0, 10) else (z, u, 0) := by unfold Wm.decLen; rw [hr]
  rw [hs.blen] at hq
  have H := Lib.hid (Calls.out3 hc hr)
  have hok := Wm.decI_ok hb hr
  rw [hs.blen] at hok
  clear hr hc
  rcases hok with ⟨he, h1, h2, h3, h4, h5, _⟩ | ⟨hz, hu, he⟩
  · subst he
    rw [if_neg (by simp), len_cast n u least h3] at hq
    have HQ := Lib.hid hq; clear hq
    have t1 : ((0 : Int) != 0) = false := rfl
    go_enter Tryd.func83, Tryd.ntmps83
    go_wp2_with (go_at_call 57; refine (H.out).mono ?_; rintro e w' ⟨rfl, rfl⟩)
    · go_ret3
      have q : Wm.decLen b least = (0, 0, 11) := by rw [HQ.out, if_pos (by assumption)]
      exact ⟨ret_ans (by rw [q]) (by rw [q]; rfl) (by rw [q]), rfl⟩
    · go_ret3
      have q : Wm.decLen b least = (0, 0, 10) := by rw [HQ.out, if_neg (by omega), if_pos (by assumption)]
      exact ⟨ret_ans (by rw [q]) (by rw [q]; rfl) (by rw [q]), rfl⟩
    · go_ret3
      have q : Wm.decLen b least = (z, u, 0) := by rw [HQ.out, if_neg (by omega), if_neg (by omega)]
      exact ⟨ret_ans (by rw [q]) (by rw [q]) (by rw [q]), rfl⟩
  · subst hz hu
    rw [if_pos (by omega)] at hq
    have HQ := Lib.hid hq; clear hq
    have t1 : (e != 0) = true := neq_true (by omega)
    go_enter Tryd.func83, Tryd.ntmps83
    go_wp2_with (go_at_call 57; refine (H.out).mono ?_; rintro e w' ⟨rfl, rfl⟩)
    go_ret3
    exact ⟨ret_ans (by rw [HQ.out]) (by rw [HQ.out]; rfl) (by rw [HQ.out]), rfl⟩

set_option maxRecDepth 100000 in
set_option maxHeartbeats 400000 in
theorem refLength_any (A : Option Addr) (n c : Nat) (b : Wm.Bs) (least : Nat) (w : World) (hs : Sl w 1 A n (U b)) (hb : Wm.isBs b) (hn : n ≤ maxLen) (hl : 1 ≤ least) (hl2 : least ≤ 1000) :
    Calls Tryd.prog 62 #[.slice A n c, .int .i64 least] w fun e w' => e = .returned (ans (Wm.decLen b least)) ∧ w = w' := by
  have hc := refGetInt_any A n c b w hs hb hn
  unfold maxLen at hn
  obtain ⟨z, u, e, hr⟩ : ∃ z u e, Wm.decI b = (z, u, e) := ⟨_, _, _, rfl⟩
  have hq : Wm.decLen b least = if e ≠ 0 then (0, 0, e) else if z < 0 then (0, 0, 11) else if (((b.length - u) / least : Nat) : Int) < z then (0, 0, 10) else (z, u, 0) := by unfold Wm.decLen; rw [hr]
  rw [hs.blen] at hq
  have H := Lib.hid (Calls.out3 hc hr)
  have hok := Wm.decI_ok hb hr
  rw [hs.blen] at hok
  clear hr hc
  rcases hok with ⟨he, h1, h2, h3, h4, h5, _⟩ | ⟨hz, hu, he⟩
  · subst he
    rw [if_neg (by simp), len_cast n u least h3] at hq
    have HQ := Lib.hid hq; clear hq
    have t1 : ((0 : Int) != 0) = false := rfl
    go_enter Tryd.func62, Tryd.ntmps62
    go_wp2_with (go_at_call 63; refine (H.out).mono ?_; rintro e w' ⟨rfl, rfl⟩)
    · go_ret3
      have q : Wm.decLen b least = (0, 0, 11) := by rw [HQ.out, if_pos (by assumption)]
      exact ⟨ret_ans (by rw [q]) (by rw [q]; rfl) (by rw [q]), rfl⟩
    · go_ret3
      have q : Wm.decLen b least = (0, 0, 10) := by rw [HQ.out, if_neg (by omega), if_pos (by assumption)]
      exact ⟨ret_ans (by rw [q]) (by rw [q]; rfl) (by rw [q]), rfl⟩
    · go_ret3
      have q : Wm.decLen b least = (z, u, 0) := by rw [HQ.out, if_neg (by omega), if_neg (by omega)]
      exact ⟨ret_ans (by rw [q]) (by rw [q]) (by rw [q]), rfl⟩
  · subst hz hu
    rw [if_pos (by omega)] at hq
    have HQ := Lib.hid hq; clear hq
    have t1 : (e != 0) = true := neq_true (by omega)
    go_enter Tryd.func62, Tryd.ntmps62
    go_wp2_with (go_at_call 63; refine (H.out).mono ?_; rintro e w' ⟨rfl, rfl⟩)
    go_ret3
    exact ⟨ret_ans (by rw [HQ.out]) (by rw [HQ.out]; rfl) (by rw [HQ.out]), rfl⟩

set_option maxRecDepth 100000 in
/-- A byte string, a length and an error, as they are handed back. -/
def ansB (r : Wm.Bs × Nat × Int) : Value := .tuple #[.string (strOfNums r.1), .int .i64 r.2.1, .int .i64 r.2.2]

set_option maxRecDepth 100000 in
set_option maxHeartbeats 400000 in
theorem getBytes_any (A : Option Addr) (n c : Nat) (b : Wm.Bs) (w : World) (hs : Sl w 1 A n (U b)) (hb : Wm.isBs b) (hnc : n ≤ c) (hn : c ≤ maxLen) :
    Calls Tryd.prog 59 #[.slice A n c] w fun e w' => e = .returned (ansB (Wm.decB b)) ∧ w = w' := by
  have hc := getLength_any A n c b 1 w hs hb (by omega) (by omega) (by omega)
  unfold maxLen at hn
  obtain ⟨z, u, e, hr⟩ : ∃ z u e, Wm.decLen b 1 = (z, u, e) := ⟨_, _, _, rfl⟩
  have hq : Wm.decB b = if e ≠ 0 then ([], 0, e) else ((b.drop u).take z.toNat, u + z.toNat, 0) := by unfold Wm.decB; rw [hr]
  have H := Lib.hid (Calls.out3 hc hr)
  have hok := Wm.decLen_ok hb (by decide) hr
  rw [hs.blen] at hok
  clear hr hc
  rcases hok with ⟨he, h1, h2, h3, h4, h5, _⟩ | ⟨hz, hu, he⟩
  · subst he
    rw [if_neg (by simp)] at hq
    have HQ := Lib.hid hq; clear hq
    obtain ⟨m, rfl⟩ := Int.eq_ofNat_of_zero_le h1
    rw [Int.toNat_natCast] at h5 HQ
    have t1 : ((0 : Int) != 0) = false := rfl
    rcases Nat.lt_or_ge u c with hcu | hcu
    · have hcv := run_str (P := Tryd.prog) 25 9 5 Tryd.underlying25 Tryd.underlying5 Tryd.underlying9 ((hs.cutB (k := u) (by omega) hnc (by omega)).frontB (k := m) (by omega)) (c - u)
      go_enter Tryd.func59, Tryd.ntmps59
      go_wp2_with (go_at_call 83; refine (H.out).mono ?_; rintro e w' ⟨rfl, rfl⟩)
      go_ret3
      exact ⟨by rw [HQ.out]; rfl, rfl⟩
    · obtain rfl : c = u := by omega
      obtain rfl : m = 0 := by omega
      have hcv := run_str (P := Tryd.prog) 25 9 5 Tryd.underlying25 Tryd.underlying5 Tryd.underlying9 ((hs.cutEnd (k := c) (by omega) hnc rfl).frontB (k := 0) (by omega)) 0
      go_enter Tryd.func59, Tryd.ntmps59
      go_wp2_with (go_at_call 83; refine (H.out).mono ?_; rintro e w' ⟨rfl, rfl⟩)
      go_ret3
      exact ⟨by rw [HQ.out]; rfl, rfl⟩
  · subst hz hu
    rw [if_pos (by omega)] at hq
    have HQ := Lib.hid hq; clear hq
    have t1 : (e != 0) = true := neq_true (by omega)
    go_enter Tryd.func59, Tryd.ntmps59
    go_wp2_with (go_at_call 83; refine (H.out).mono ?_; rintro e w' ⟨rfl, rfl⟩)
    go_ret3
    exact ⟨by rw [HQ.out]; rfl, rfl⟩

set_option maxRecDepth 100000 in
set_option maxHeartbeats 400000 in
theorem refGetBytes_any (A : Option Addr) (n c : Nat) (b : Wm.Bs) (w : World) (hs : Sl w 1 A n (U b)) (hb : Wm.isBs b) (hnc : n ≤ c) (hn : c ≤ maxLen) :
    Calls Tryd.prog 64 #[.slice A n c] w fun e w' => e = .returned (ansB (Wm.decB b)) ∧ w = w' := by
  have hc := refGetInt_any A n c b w hs hb (by omega)
  unfold maxLen at hn
  obtain ⟨z, u, e, hr⟩ : ∃ z u e, Wm.decI b = (z, u, e) := ⟨_, _, _, rfl⟩
  have hq : Wm.decLen b 1 = if e ≠ 0 then (0, 0, e) else if z < 0 then (0, 0, 11) else if (((b.length - u) / 1 : Nat) : Int) < z then (0, 0, 10) else (z, u, 0) := by unfold Wm.decLen; rw [hr]
  rw [hs.blen, Nat.div_one] at hq
  have H := Lib.hid (Calls.out3 hc hr)
  have hok := Wm.decI_ok hb hr
  rw [hs.blen] at hok
  clear hr hc
  rcases hok with ⟨he, h1, h2, h3, h4, h5, _⟩ | ⟨hz, hu, he⟩
  · subst he
    rw [if_neg (by simp)] at hq
    have t1 : ((0 : Int) != 0) = false := rfl
    rcases Int.lt_or_le z 0 with hz0 | hz0
    · rw [if_pos hz0] at hq
      have hB : Wm.decB b = ([], 0, 11) := by unfold Wm.decB; rw [hq]; rfl
      have HQ := Lib.hid hB; clear hB hq
      go_enter Tryd.func64, Tryd.ntmps64
      go_wp2_with (go_at_call 63; refine (H.out).mono ?_; rintro e w' ⟨rfl, rfl⟩)
      go_ret3
      exact ⟨by rw [HQ.out]; rfl, rfl⟩
    · rw [if_neg (by omega)] at hq
      obtain ⟨m, rfl⟩ := Int.eq_ofNat_of_zero_le hz0
      rcases Int.lt_or_le ((n : Int) - u) m with hm | hm
      · rw [if_pos (by omega)] at hq
        have hB : Wm.decB b = ([], 0, 10) := by unfold Wm.decB; rw [hq]; rfl
        have HQ := Lib.hid hB; clear hB hq
        go_enter Tryd.func64, Tryd.ntmps64
        go_wp2_with (go_at_call 63; refine (H.out).mono ?_; rintro e w' ⟨rfl, rfl⟩)
        go_ret3
        exact ⟨by rw [HQ.out]; rfl, rfl⟩
      · rw [if_neg (by omega)] at hq
        have hB : Wm.decB b = ((b.drop u).take m, u + m, 0) := by unfold Wm.decB; rw [hq]; rfl
        have HQ := Lib.hid hB; clear hB hq
        rcases Nat.lt_or_ge u c with hcu | hcu
        · have hcv := run_str (P := Tryd.prog) 25 9 5 Tryd.underlying25 Tryd.underlying5 Tryd.underlying9 ((hs.cutB (k := u) (by omega) hnc (by omega)).frontB (k := m) (by omega)) (c - u)
          go_enter Tryd.func64, Tryd.ntmps64
          go_wp2_with (go_at_call 63; refine (H.out).mono ?_; rintro e w' ⟨rfl, rfl⟩)
          go_ret3
          exact ⟨by rw [HQ.out]; rfl, rfl⟩
        · obtain rfl : c = u := by omega
          obtain rfl : m = 0 := by omega
          have hcv := run_str (P := Tryd.prog) 25 9 5 Tryd.underlying25 Tryd.underlying5 Tryd.underlying9 ((hs.cutEnd (k := c) (by omega) hnc rfl).frontB (k := 0) (by omega)) 0
          go_enter Tryd.func64, Tryd.ntmps64
          go_wp2_with (go_at_call 63; refine (H.out).mono ?_; rintro e w' ⟨rfl, rfl⟩)
          go_ret3
          exact ⟨by rw [HQ.out]; rfl, rfl⟩
  · subst hz hu
    rw [if_pos (by omega)] at hq
    have hB : Wm.decB b = ([], 0, e) := by unfold Wm.decB; rw [hq]; rw [if_pos (by simp only; omega)]
    have HQ := Lib.hid hB; clear hB hq
    have t1 : (e != 0) = true := neq_true (by omega)
    go_enter Tryd.func64, Tryd.ntmps64
    go_wp2_with (go_at_call 63; refine (H.out).mono ?_; rintro e w' ⟨rfl, rfl⟩)
    go_ret3
    exact ⟨by rw [HQ.out]; rfl, rfl⟩

end Go.Proofs.YtjfphjgmphlbhaaDoor
