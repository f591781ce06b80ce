/-
  FACTS of the base; the reference's table.
-/
import Derived.Test.YtidhodalnikhlaaGreatDoorYa
namespace Go.Proofs.YtidhodalnikhlaaGreatDoor
open Go.RowKit Go.ChangeShapes Go.WideShapes Go.ChangeAt
set_option maxRecDepth 100000 in
/-- A value that is owned is a slice of its length, within its capacity. -/
theorem own_form {w : World} {base : Nat} {e : TypeId} {size n : Nat} {v : Value} {xs : List Value} (h : w.ownsRow base e size v n xs) :
    ∃ A c, v = .slice A n c ∧ n ≤ c ∧ c ≤ maxLen ∧ Sl w size A n xs ∧ (∀ ad, A = some ad → base ≤ ad.block ∧ ad.block < w.heap.size) := by
  rcases h.2 with ⟨rfl, rfl⟩ | ⟨g, cap, cur, rfl, hb, hg, hn, hm, _, _⟩
  · refine ⟨none, 0, rfl, Nat.le_refl _, Nat.zero_le _, Sl.own h, by simp⟩
  · refine ⟨_, cap, rfl, hn, hm, Sl.own h, fun ad e => ?_⟩
    injection e with e
    subst e
    refine ⟨hb, ?_⟩
    rcases Nat.lt_or_ge g w.heap.size with hlt | hge
    · exact hlt
    · rw [Array.getElem?_eq_none hge] at hg; cases hg
namespace Mm
open Wm
set_option maxRecDepth 100000 in
theorem put_other {m : Bs} {o : Nat} {d : Bs} (h : o + d.length ≤ m.length) {a s : Nat} (hs : a + s ≤ o ∨ o + d.length ≤ a) : ((put m o d).drop a).take s = (m.drop a).take s := by
  apply List.ext_getElem?
  intro i
  rw [List.getElem?_take, List.getElem?_take]
  by_cases c : i < s
  · rw [if_pos c, if_pos c, List.getElem?_drop, List.getElem?_drop, put_get h]
    by_cases e : a + i < o
    · rw [if_pos e]
    · rw [if_neg e, if_neg (by omega)]
  · rw [if_neg c, if_neg c]
end Mm
set_option maxRecDepth 100000 in
theorem byte_any (A : Option Addr) (n c a : Nat) (b : Wm.Bs) (w : World) (hs : Sl w 128 A n (U b)) (hn : n ≤ 64) (ha : a < n * 128) :
    Calls Tryz.prog 83 #[.agg #[.slice A n c], .int .i64 (a : Int)] w fun e w' => e = .returned (.int .u8 (b.getD a 0)) ∧ Later w w' := by
  obtain ⟨ad, rfl⟩ := hs.addr (by omega)
  have hbl : b.length = n * 128 := by have := hs.1; rwa [U_length] at this
  have hc : (w.alloc (.cells #[.slice (some ad) n c] 29)).cell? ((ad.add (a / 128 * 128)).add (a % 128)) = some (.int .u8 (b.getD a 0)) := by
    obtain ⟨_, e, _, hcell⟩ := (hs.alloc (.cells #[.slice (some ad) n c] 29)).2 (by omega)
    cases e
    rw [addr_add_add, show a / 128 * 128 + a % 128 = a by omega]
    exact hcell a _ (U_get b a (by omega))
  obtain ⟨X, hX⟩ : ∃ X, X = b.getD a 0 := ⟨_, rfl⟩
  rw [← hX] at hc ⊢
  have t1 : ((a : Int).tdiv 128) = ((a / 128 : Nat) : Int) := by rw [Int.tdiv_eq_ediv_of_nonneg (by omega)]; rfl
  have t2 : ((a : Int).tmod 128) = ((a % 128 : Nat) : Int) := by rw [Int.tmod_eq_emod_of_nonneg (by omega)]; rfl
  have b1 : (a : Int) / 128 < (n : Int) := by omega
  have b2 : (a : Int) % 128 < 128 := by omega
  have b5 : (a : Int) % 128 ≤ 128 := by omega
  have b3 : (0 : Int) ≤ (a : Int) / 128 := by omega
  have b4 : (0 : Int) ≤ (a : Int) % 128 := by omega
  clear hs hX hbl
  go_enter Tryz.func83, Tryz.ntmps83
  go_wp2
  go_ret
  exact ⟨rfl, later1 _ _⟩
set_option maxRecDepth 100000 in
theorem load2_sz (u v : Value) : (Tryz.prog.info? 98).map (·.size) = some [u, v].length := by
  show _ = some 2
  kernel_rfl
set_option maxRecDepth 100000 in
set_option maxHeartbeats 1000000 in
theorem rload_none (A : Option Addr) (n c : Nat) (a s : Int) (w : World) (hn : n ≤ 64) (ha : -9223372036854775808 ≤ a ∧ a ≤ 9223372036854775807) (h : ¬ Mm.There (n * 128) a s) :
    Calls Tryz.prog 39 #[.agg #[.slice A n c], .int .i64 a, .int .i64 s] w fun e w' => e = .returned (.agg #[.int .u32 0, .bool false]) ∧ Later w w' := by
  have HT := Lib.hid fun w' => rthere_any A n c a s w' hn ha
  rw [decide_eq_false h] at HT
  clear h
  go_enter Tryz.func39, Tryz.ntmps39
  go_wp2_with (first
    | (go_at_call 70; refine (HT.out _).mono ?_; rintro e w1 ⟨rfl, l1⟩; have bR := (Blk.new' (w.alloc (.cells #[.slice A n c] 29)) (w.heap.size + 1) 98 #[.int .u32 0, .bool false] [.int .u32 0, .bool false] (by simp) rfl).keep l1; have c0 := bR.cell (j := 0) (v := .int .u32 0) rfl; have c1 := bR.cell (j := 1) (v := .bool false) rfl; have f0 := bR.frz 0; have f1 := bR.frz 1; have l2 := Later.trans_ ((later1 w _).alloc (by simp) _) l1))
  exact bodyPost_ret (results_blk Tryz.results39 _ _ (w.heap.size + 1) 98 [.int .u32 0, .bool false] _ rfl ((bR.set 0 (.int .u32 0)).set 1 (.bool false)) Tryz.underlying98 rfl (load2_sz _ _)) rfl ⟨rfl, (l2.setCell (by simp) _).setCell (by simp) _⟩
set_option maxRecDepth 100000 in
theorem le_drop (x : Wm.Bs) (k : Nat) (h : k < x.length) : Mm.le (x.drop k) = x.getD k 0 + 256 * Mm.le (x.drop (k + 1)) := by
  rw [List.drop_eq_getElem_cons h, List.getD_eq_getElem?_getD, List.getElem?_eq_getElem h]
  rfl
set_option maxRecDepth 100000 in
theorem isBs_getD {x : Wm.Bs} (h : Wm.isBs x) (k : Nat) : 0 ≤ x.getD k 0 ∧ x.getD k 0 < 256 := by
  rw [List.getD_eq_getElem?_getD]
  rcases Nat.lt_or_ge k x.length with h1 | h1
  · rw [List.getElem?_eq_getElem h1]; exact h _ (List.getElem_mem h1)
  · rw [List.getElem?_eq_none h1]; decide
set_option maxRecDepth 100000 in
theorem part_getD (b : Wm.Bs) (a s k : Nat) (h : k < s) : ((b.drop a).take s).getD k 0 = b.getD (a + k) 0 := by
  rw [List.getD_eq_getElem?_getD, List.getD_eq_getElem?_getD, List.getElem?_take, if_pos h, List.getElem?_drop]
set_option maxRecDepth 100000 in
theorem le3 {x : Wm.Bs} (h : Wm.isBs x) (hl : x.length ≤ 3) : Mm.le x < 16777216 := by
  have h1 := Mm.le_lt h
  rcases (show x.length = 0 ∨ x.length = 1 ∨ x.length = 2 ∨ x.length = 3 by omega) with e | e | e | e <;> rw [e] at h1 <;> omega
set_option maxRecDepth 100000 in
set_option maxHeartbeats 1000000 in
theorem rload_there (A : Option Addr) (n c a s : Nat) (b : Wm.Bs) (w : World) (hs : Sl w 128 A n (U b)) (hb : Wm.isBs b) (hn : n ≤ 64) (h : Mm.There (n * 128) (a : Int) (s : Int)) :
    Calls Tryz.prog 39 #[.agg #[.slice A n c], .int .i64 (a : Int), .int .i64 (s : Int)] w fun e w' => e = .returned (.agg #[.int .u32 (Mm.le ((b.drop a).take s)), .bool true]) ∧ Later w w' := by
  have HT := Lib.hid fun w' => rthere_any A n c (a : Int) (s : Int) w' hn ⟨by omega, by have := h.2.2; omega⟩
  rw [decide_eq_true h] at HT
  obtain ⟨h1, h2, h3⟩ := h
  have hs4 : s = 1 ∨ s = 4 := by omega
  have has : a + s ≤ n * 128 := by omega
  have hbl : b.length = n * 128 := by have := hs.1; rwa [U_length] at this
  obtain ⟨x, hx⟩ : ∃ x, x = (b.drop a).take s := ⟨_, rfl⟩
  have hxl : x.length = s := by rw [hx, List.length_take, List.length_drop]; omega
  have hxb : Wm.isBs x := by rw [hx]; exact isBs_take (isBs_drop hb _) _
  have HB := Lib.hid fun (w' : World) (hl : Later w w') (k : Nat) (hk : k < s) => by
    have h1 := byte_any A n c (a + k) b w' (hs.keep hl) hn (by omega)
    rw [← part_getD b a s k hk, ← hx, Int.natCast_add] at h1
    exact h1
  rw [← hx]
  have HX := Lib.hid (show x.length = s ∧ Wm.isBs x from ⟨hxl, hxb⟩)
  have hn2 : (n : Int) * 128 ≤ 8192 := by omega
  have has2 : (a : Int) + s ≤ 8192 := by omega
  clear hx hxl hxb hbl h1 h2 h3 hs hb has hn2
  go_enter Tryz.func39, Tryz.ntmps39
  go_wp2_with (first
    | (go_at_call 70; refine (HT.out _).mono ?_; rintro e w1 ⟨rfl, l1⟩; have bP := ((Blk.new w 29 #[.slice A n c] _ rfl).alloc (.cells #[.int .u32 0, .bool false] 98)).keep l1; have bR := (Blk.new' (w.alloc (.cells #[.slice A n c] 29)) (w.heap.size + 1) 98 #[.int .u32 0, .bool false] [.int .u32 0, .bool false] (by simp) rfl).keep l1; have l2 := Later.trans_ ((later1 w _).alloc (by simp) _) l1))
  go_loopw [8, 9] (fun v i wr => ∃ k : Nat, k ≤ s ∧ i = .int .i64 ((k : Int) - 1) ∧ v = .int .u32 (Mm.le (x.drop k)) ∧ Blk wr w.heap.size 29 [.slice A n c] ∧ Blk wr (w.heap.size + 1) 98 [.int .u32 0, .bool false] ∧ Later w wr) (fun _ i _ => (intOf i + 1).toNat)
  case atStart => exact ⟨s, Nat.le_refl _, by go_num, by rw [List.drop_eq_nil_of_le (by rw [HX.out.1]; exact Nat.le_refl _)]; rfl, bP, bR, l2⟩
  case round =>
    clear bP bR l2
    rename_i wr
    obtain ⟨k, hk, rfl, rfl, bP, bR, lr⟩ := hrel
    cases k with
    | zero =>
      have c0 := bR.cell (j := 0) (v := .int .u32 0) rfl
      have c1 := bR.cell (j := 1) (v := .bool false) rfl
      have f0 := bR.frz 0
      have f1 := bR.frz 1
      obtain ⟨Z, hZ⟩ : ∃ Z, Z = Mm.le x := ⟨_, rfl⟩
      rw [List.drop_zero]
      rw [← hZ]
      have HZ := Lib.hid hZ
      clear hZ
      simp only [Int.natCast_zero]
      go_wp2
      exact bodyPost_ret (results_blk Tryz.results39 _ _ (w.heap.size + 1) 98 [.int .u32 Z, .bool true] _ rfl ((bR.set 0 _).set 1 _) Tryz.underlying98 rfl (load2_sz _ _)) rfl ⟨by rw [HZ.out], (lr.setCell (by simp) _).setCell (by simp) _⟩
    | succ k =>
      rw [show (((k + 1 : Nat) : Int) - 1) = (k : Int) by omega]
      have hle := le_drop x k (by rw [HX.out.1]; omega)
      have hX := isBs_getD HX.out.2 k
      have hY0 := Mm.le_nn (isBs_drop HX.out.2 (k + 1))
      have hY1 := le3 (isBs_drop HX.out.2 (k + 1)) (by rw [List.length_drop, HX.out.1]; omega)
      have HBk := Lib.hid fun (w' : World) (hl : Later w w') => HB.out w' hl k (by omega)
      obtain ⟨X, eX⟩ : ∃ X, X = x.getD k 0 := ⟨_, rfl⟩
      obtain ⟨Y, eY⟩ : ∃ Y, Y = Mm.le (x.drop (k + 1)) := ⟨_, rfl⟩
      rw [← eX] at hle hX HBk
      rw [← eY] at hle hY0 hY1 ⊢
      have HL := Lib.hid hle
      have p0 := bP.cell (j := 0) (v := .slice A n c) rfl
      have ho := or_hi 8 256 rfl (n := X) (y := Y) (by omega) (by omega) hY0 (by omega)
      rw [or_comm32] at ho
      have HO := Lib.hid ho
      clear hle eX eY ho HB
      go_wp2_with (first
        | (go_at_call 83; refine (HBk.out _ lr).mono ?_; rintro e w2 ⟨rfl, l2⟩))
      go_roundw
      case rel => exact ⟨k, by omega, by go_num, by rw [HL.out, HO.out]; congr 1; omega, bP.keep l2, bR.keep l2, Later.trans_ lr l2⟩
      case measure => simp [intOf]
set_option maxRecDepth 100000 in
theorem rload_any (A : Option Addr) (n c : Nat) (a s : Int) (b : Wm.Bs) (w : World) (hs : Sl w 128 A n (U b)) (hb : Wm.isBs b) (hn : n ≤ 64) (ha : -9223372036854775808 ≤ a ∧ a ≤ 9223372036854775807) :
    Calls Tryz.prog 39 #[.agg #[.slice A n c], .int .i64 a, .int .i64 s] w fun e w' => e = .returned (.agg #[.int .u32 (Mm.ld b a s), .bool (decide (Mm.There (n * 128) a s))]) ∧ Later w w' := by
  have hbl : b.length = n * 128 := by have := hs.1; rwa [U_length] at this
  unfold Mm.ld
  rw [hbl]
  by_cases h : Mm.There (n * 128) a s
  · rw [if_pos h, decide_eq_true h]
    obtain ⟨a', rfl⟩ := Int.eq_ofNat_of_zero_le h.2.1
    obtain ⟨s', rfl⟩ := Int.eq_ofNat_of_zero_le (show 0 ≤ s by have := h.1; omega)
    exact rload_there A n c a' s' b w hs hb hn h
  · rw [if_neg h, decide_eq_false h]
    exact rload_none _ n c a s w hn ha h
end Go.Proofs.YtidhodalnikhlaaGreatDoor
namespace Go.Proofs.YtidhodalnikhlaaGreatDoor
open Go.RowKit Go.ChangeShapes Go.WideShapes Go.ChangeAt

set_option maxRecDepth 100000 in
/-- A mapping: its virtual and physical address, and its bits. -/
abbrev Mg := {x : Int × Int × Int // 0 ≤ x.2.1 ∧ x.2.1 < 4294967296}
set_option maxRecDepth 100000 in
def mgC (x : Mg) : List Value := [.int .u32 x.1.1, .int .u32 x.1.2.1, .int .i64 x.1.2.2]
set_option maxRecDepth 100000 in
def encM (x : Mg) : Array Value := #[.agg (mgC x).toArray]
namespace Tm
set_option maxRecDepth 100000 in
def mkM (va e : Int) : Mg := ⟨(va, adr e % 4294967296, e % 128), by have := Int.emod_nonneg (adr e) (by decide : (4294967296 : Int) ≠ 0); have := Int.emod_lt_of_pos (adr e) (by decide : (0 : Int) < 4294967296); exact ⟨by assumption, by assumption⟩⟩
set_option maxRecDepth 100000 in
def secY (b : Wm.Bs) (ex va : Int) (i : Fin 32) : Int := wd b (sA (adr ex) (va + 128 * (i.1 : Int)))
set_option maxRecDepth 100000 in
def secAt (b : Wm.Bs) (ex va : Int) (i : Fin 32) : List Mg := if has (secY b ex va i) 1 && !has (secY b ex va i) 64 then [mkM (va + 128 * (i.1 : Int)) (secY b ex va i)] else []
set_option maxRecDepth 100000 in
def blw (b : Wm.Bs) (ex va : Int) : List Mg := if has ex 64 then [mkM va ex] else (List.finRange 32).flatMap (secAt b ex va)
end Tm
set_option maxRecDepth 100000 in
theorem mgC_mk {va e : Int} (h : Tm.isE e) : mgC (Tm.mkM va e) = Mp va e := by
  have ha := Tm.adr_e h
  have h2 := Int.emod_eq_of_lt ha.1 ha.2
  show [Value.int .u32 va, .int .u32 (Tm.adr e % 4294967296), .int .i64 (e % 128)] = _
  rw [h2]
  rfl
set_option maxRecDepth 100000 in
theorem secAt_len (b : Wm.Bs) (ex va : Int) (i : Fin 32) : (Tm.secAt b ex va i).length ≤ 1 := by
  unfold Tm.secAt
  split <;> simp
set_option maxRecDepth 100000 in
theorem flat_len {α β : Type} (f : α → List β) (k : Nat) (h : ∀ x, (f x).length ≤ k) : ∀ l : List α, (l.flatMap f).length ≤ l.length * k := by
  intro l
  induction l with
  | nil => simp
  | cons x r ih =>
    rw [List.flatMap_cons, List.length_append, List.length_cons, Nat.add_mul, Nat.one_mul]
    have := h x
    omega
end Go.Proofs.YtidhodalnikhlaaGreatDoor
namespace Go.Proofs.YtidhodalnikhlaaGreatDoor
open Go.RowKit Go.ChangeShapes Go.WideShapes Go.ChangeAt

namespace Tm
set_option maxRecDepth 100000 in
def topX (b : Wm.Bs) (root : Int) (i : Fin 32) : Int := wd b (fA root (4096 * (i.1 : Int)))
set_option maxRecDepth 100000 in
def topAt (n : Nat) (b : Wm.Bs) (root : Int) (i : Fin 32) : List Mg :=
  if has (topX b root i) 1 && rF n (topX b root i) then (blw b (topX b root i) (4096 * (i.1 : Int))).filter (fun x => pageB n x.1.2.1) else []
set_option maxRecDepth 100000 in
def lst (n : Nat) (b : Wm.Bs) (root : Int) : List Mg := if rootB n root then (List.finRange 32).flatMap (topAt n b root) else []
end Tm
set_option maxRecDepth 100000 in
theorem blw_len (b : Wm.Bs) (ex va : Int) : (Tm.blw b ex va).length ≤ 32 := by
  unfold Tm.blw
  split
  · simp
  · have := flat_len (Tm.secAt b ex va) 1 (secAt_len b ex va) (List.finRange 32)
    rw [List.length_finRange] at this
    omega
set_option maxRecDepth 100000 in
theorem topAt_len (n : Nat) (b : Wm.Bs) (root : Int) (i : Fin 32) : (Tm.topAt n b root i).length ≤ 32 := by
  unfold Tm.topAt
  split
  · exact Nat.le_trans (List.length_filter_le _ _) (blw_len _ _ _)
  · simp
end Go.Proofs.YtidhodalnikhlaaGreatDoor
namespace Go.Proofs.YtidhodalnikhlaaGreatDoor
open Go.RowKit Go.ChangeShapes Go.WideShapes Go.ChangeAt

def Mgs (l : List Mg) : List Value := l.flatMap mgC
theorem Mgs_snoc (l : List Mg) (x : Mg) : Mgs (l ++ [x]) = Mgs l ++ mgC x := by unfold Mgs; rw [List.flatMap_append]; simp
theorem mg_info : (Tryz.prog.info? 68).map (fun i => (i.zero, i.size, i.bytes)) = some (some (.agg #[.int .u32 0, .int .u32 0, .int .i64 0]), 3, 16) := by kernel_rfl
end Go.Proofs.YtidhodalnikhlaaGreatDoor
namespace Go.Proofs.YtidhodalnikhlaaGreatDoor
open Go.RowKit Go.ChangeShapes Go.WideShapes Go.ChangeAt

set_option maxRecDepth 100000 in
theorem wrp64 (n : Int) (h₀ : 0 ≤ n) (h₁ : n < 2 ^ 63) : IntKind.i64.wrap n = n := by rw [IntKind.wrap_i64]; omega
set_option maxRecDepth 100000 in
theorem raddress_any (e : Int) (w : World) (h : 0 ≤ e ∧ e < 1099511627776) : Calls Tryz.prog 63 #[.int .i64 e] w fun r w' => r = .returned (.int .i64 (Tm.adr e)) ∧ w = w' := by
  have hq : e.tdiv 128 = e / 128 := Int.tdiv_eq_ediv_of_nonneg h.1
  have hz : IntKind.i64.wrap (e / 128 * 128) = e / 128 * 128 := wrp64 _ (by omega) (by omega)
  go_enter Tryz.func63, Tryz.ntmps63
  go_wp2
  go_ret
  exact ⟨rfl, rfl⟩
set_option maxRecDepth 100000 in
theorem rhas_any (e M : Int) (w : World) (h : 0 ≤ e ∧ e < 1099511627776) (hM : 1 ≤ M ∧ M ≤ 64) : Calls Tryz.prog 66 #[.int .i64 e, .int .i64 M] w fun r w' => r = .returned (.bool (Tm.has e M)) ∧ w = w' := by
  have hq : e.tdiv M = e / M := Int.tdiv_eq_ediv_of_nonneg h.1
  have hd0 : 0 ≤ e / M := Int.ediv_nonneg h.1 (by omega)
  have hd1 : e / M ≤ e := Int.ediv_le_self _ h.1
  have hr : (e / M).tmod 2 = e / M % 2 := Int.tmod_eq_emod_of_nonneg hd0
  have hm0 : ¬ M = 0 := by omega
  have hm1 : (M == 0) = false := by simpa using hm0
  have hz : IntKind.i64.wrap (e / M) = e / M := wrp64 _ hd0 (by omega)
  unfold Tm.has
  have hb : (e / M % 2 == 1) = decide (e / M % 2 = 1) := by rw [Bool.eq_iff_iff]; simp
  rw [← hb]
  clear hb
  go_enter Tryz.func66, Tryz.ntmps66
  go_wp2
  go_ret
  exact ⟨rfl, rfl⟩
set_option maxRecDepth 100000 in
theorem rpage_any (A : Option Addr) (n c : Nat) (a : Int) (w : World) (hn : n ≤ 64) (ha : 0 ≤ a ∧ a < 1099511627776) : Calls Tryz.prog 61 #[.agg #[.slice A n c], .int .i64 a] w fun r w' => r = .returned (.bool (Tm.pageB n a)) ∧ Later w w' := by
  have HS := Lib.hid fun w' => rsize_any A n c w' hn
  have hr : a.tmod 128 = a % 128 := Int.tmod_eq_emod_of_nonneg ha.1
  have h0 : 0 ≤ a := ha.1
  unfold Tm.pageB
  rw [show ((n : Int) * 128) = ((n * 128 : Nat) : Int) by omega]
  obtain ⟨N, hN⟩ : ∃ N : Int, N = ((n * 128 : Nat) : Int) := ⟨_, rfl⟩
  rw [← hN] at HS ⊢
  clear hN ha
  by_cases h1 : a % 128 = 0
  · have e1 : (a % 128 == 0) = true := beq_iff_eq.2 h1
    rw [decide_eq_true h1, Bool.true_and]
    go_enter Tryz.func61, Tryz.ntmps61
    go_wp2_with (go_at_call 98; refine (HS.out _).mono ?_; rintro e w1 ⟨rfl, l1⟩)
    go_ret
    exact ⟨rfl, Later.trans_ (later1 _ _) l1⟩
  · have e1 : (a % 128 == 0) = false := beq_eq_false_iff_ne.2 h1
    rw [decide_eq_false h1, Bool.false_and]
    go_enter Tryz.func61, Tryz.ntmps61
    go_wp2
    go_ret
    exact ⟨rfl, later1 _ _⟩
set_option maxRecDepth 100000 in
theorem ld_f0 (x y : Value) (w : World) : (Instr.field 98 (.agg #[x, y]) 0).run Tryz.prog w = .ok x w := by kernel_rfl
set_option maxRecDepth 100000 in
theorem rword_any (A : Option Addr) (n c : Nat) (a : Int) (b : Wm.Bs) (w : World) (hs : Sl w 128 A n (U b)) (hb : Wm.isBs b) (hn : n ≤ 64) (ha : 0 ≤ a ∧ a < 1099511627776) : Calls Tryz.prog 64 #[.agg #[.slice A n c], .int .i64 a] w fun r w' => r = .returned (.int .i64 (Tm.wd b a)) ∧ Later w w' := by
  have HL := Lib.hid fun w' (hl : Later w w') => rload_any A n c a 4 b w' (hs.keep hl) hb hn (by omega)
  have he := Tm.wd_e hb a
  unfold Tm.wd at he ⊢
  obtain ⟨x, hx⟩ : ∃ x, x = Mm.ld b a 4 := ⟨_, rfl⟩
  rw [← hx] at HL he ⊢
  have h0 := he.1
  have h1 := he.2
  clear hx he hs hb
  have hf := ld_f0
  have hw : IntKind.i64.wrap x = x := wrp64 _ h0 (by omega)
  go_enter Tryz.func64, Tryz.ntmps64
  go_wp2_with (go_at_call 39; refine (HL.out _ (later1 _ _)).mono ?_; rintro e w1 ⟨rfl, l1⟩)
  go_ret
  exact ⟨rfl, Later.trans_ (later1 _ _) l1⟩
end Go.Proofs.YtidhodalnikhlaaGreatDoor
namespace Go.Proofs.YtidhodalnikhlaaGreatDoor
open Go.RowKit Go.ChangeShapes Go.WideShapes Go.ChangeAt

set_option maxRecDepth 100000 in
theorem first_sz (a b c d e : Value) : (Tryz.prog.info? 134).map (·.size) = some [a, b, c, d, e].length := by
  show _ = some 5
  kernel_rfl
set_option maxRecDepth 100000 in
theorem first_one (a e : Int) (x y z : Bool) : ∀ v ∈ [Value.int .i64 a, .int .i64 e, .bool x, .bool y, .bool z], v.oneCell' = true := by
  intro v hv
  simp only [List.mem_cons, List.not_mem_nil, or_false] at hv
  rcases hv with rfl | rfl | rfl | rfl | rfl <;> rfl
set_option maxRecDepth 100000 in
theorem rbelow_any (a e va : Int) (x y z : Bool) (w : World) (he : 0 ≤ e ∧ e < 1099511627776) (hv : 0 ≤ va ∧ va < 1099511627776) : Calls Tryz.prog 65 #[.agg #[.int .i64 a, .int .i64 e, .bool x, .bool y, .bool z], .int .i64 va] w fun r w' => r = .returned (.int .i64 (Tm.adr e + 4 * (va / 128 % 32))) ∧ Later w w' := by
  have HA := Lib.hid fun w' => raddress_any e w' he
  have hA : 0 ≤ Tm.adr e ∧ Tm.adr e < 1099511627776 := by unfold Tm.adr; omega
  obtain ⟨p, hp⟩ : ∃ p, p = Tm.adr e := ⟨_, rfl⟩
  rw [← hp] at HA hA ⊢
  have h0 : IntKind.i64.wrap (va / 128) = va / 128 := wrp64 _ (by omega) (by omega)
  have h1 : va.tdiv 128 = va / 128 := Int.tdiv_eq_ediv_of_nonneg hv.1
  have h2 : (va / 128).tmod 32 = va / 128 % 32 := Int.tmod_eq_emod_of_nonneg (by omega)
  have h3 : IntKind.i64.wrap (4 * (va / 128 % 32)) = 4 * (va / 128 % 32) := wrp64 _ (by omega) (by omega)
  have h4 : IntKind.i64.wrap (p + 4 * (va / 128 % 32)) = p + 4 * (va / 128 % 32) := wrp64 _ (by omega) (by omega)
  clear hp hA he hv
  go_enter Tryz.func65, Tryz.ntmps65
  go_wp2_with (go_at_call 63; refine (HA.out _).mono ?_; rintro r w' ⟨rfl, rfl⟩)
  go_ret
  exact ⟨rfl, later1 _ _⟩

set_option maxRecDepth 100000 in
set_option maxHeartbeats 4000000 in
theorem rtop_any (A : Option Addr) (n c : Nat) (root va : Int) (b : Wm.Bs) (w : World) (hs : Sl w 128 A n (U b)) (hb : Wm.isBs b) (hn : n ≤ 64) (hr : 0 ≤ root ∧ root < 4294967296) (hv : 0 ≤ va ∧ va < 131072) :
    Calls Tryz.prog 62 #[.agg #[.slice A n c], .int .i64 root, .int .i64 va] w fun r w' => r = .returned (.agg #[.int .i64 (Tm.fA root va), .int .i64 (Tm.wd b (Tm.fA root va)), .bool (Tm.has (Tm.wd b (Tm.fA root va)) 1), .bool (Tm.rF n (Tm.wd b (Tm.fA root va))), .bool (Tm.has (Tm.wd b (Tm.fA root va)) 64)]) ∧ Later w w' := by
  have hf : root + 4 * (va / 4096) = Tm.fA root va := by unfold Tm.fA; omega
  have hf1 : 0 ≤ Tm.fA root va ∧ Tm.fA root va < 1099511627776 := by unfold Tm.fA; omega
  have h1 : va.tdiv 4096 = va / 4096 := Int.tdiv_eq_ediv_of_nonneg hv.1
  have h3 : IntKind.i64.wrap (4 * (va / 4096)) = 4 * (va / 4096) := wrp64 _ (by omega) (by omega)
  have hq1 : IntKind.i64.wrap (va / 4096) = va / 4096 := wrp64 _ (by omega) (by omega)
  obtain ⟨a, ha⟩ : ∃ a, a = Tm.fA root va := ⟨_, rfl⟩
  rw [← ha] at hf hf1 ⊢
  have h4 : IntKind.i64.wrap a = a := wrp64 _ hf1.1 (by omega)
  have HW := Lib.hid fun w' (hl : Later w w') => rword_any A n c a b w' (hs.keep hl) hb hn hf1
  have he := Tm.wd_e hb a
  obtain ⟨e, hE⟩ : ∃ e, e = Tm.wd b a := ⟨_, rfl⟩
  rw [← hE] at HW he ⊢
  have he' : 0 ≤ e ∧ e < 1099511627776 := ⟨he.1, by have := he.2; omega⟩
  have HV := Lib.hid fun w' => rhas_any e 1 w' he' (by omega)
  have HG := Lib.hid fun w' => rhas_any e 64 w' he' (by omega)
  have HA := Lib.hid fun w' => raddress_any e w' he'
  have hpa : 0 ≤ Tm.adr e ∧ Tm.adr e < 1099511627776 := by unfold Tm.adr; omega
  have HP := Lib.hid fun w' => rpage_any A n c (Tm.adr e) w' hn hpa
  have h5 : (Tm.adr e).tmod 4096 = Tm.adr e % 4096 := Int.tmod_eq_emod_of_nonneg hpa.1
  have h6 : e.tdiv 2 = e / 2 := Int.tdiv_eq_ediv_of_nonneg he.1
  have h7 : (e / 2).tmod 32 = e / 2 % 32 := Int.tmod_eq_emod_of_nonneg (by have := he.1; omega)
  have hd2 : IntKind.i64.wrap (e / 2) = e / 2 := wrp64 _ (by have := he.1; omega) (by have := he.2; omega)
  unfold Tm.rF
  obtain ⟨p, hp⟩ : ∃ p, p = Tm.adr e := ⟨_, rfl⟩
  rw [← hp] at HA HP hpa h5 ⊢
  obtain ⟨vl, hvl⟩ : ∃ v, v = Tm.has e 1 := ⟨_, rfl⟩
  rw [← hvl] at HV ⊢
  obtain ⟨lg, hlg⟩ : ∃ v, v = Tm.has e 64 := ⟨_, rfl⟩
  rw [← hlg] at HG ⊢
  have b3 := (Blk.new w 29 #[.slice A n c] [.slice A n c] rfl).alloc (.cells #[.int .i64 0, .int .i64 0, .bool false, .bool false, .bool false] 134)
  have b6 := Blk.new' (w.alloc (.cells #[.slice A n c] 29)) (w.heap.size + 1) 134 #[.int .i64 0, .int .i64 0, .bool false, .bool false, .bool false] [.int .i64 0, .int .i64 0, .bool false, .bool false, .bool false] (by simp) rfl
  have lx := (later1 w (.cells #[.slice A n c] 29)).alloc (by simp) (.cells #[.int .i64 0, .int .i64 0, .bool false, .bool false, .bool false] 134)
  clear hs hb ha hE hp hvl hlg hv hr
  cases lg with
  | true =>
    rw [if_pos rfl]
    go_enter Tryz.func62, Tryz.ntmps62
    go_wp2_with (first
      | (go_at_call 64; refine (HW.out _ lx).mono ?_; rintro r w2 ⟨rfl, l2⟩; replace b3 := b3.keep l2; replace b6 := b6.keep l2; have lw := Later.trans_ lx l2; have h6' := b6.lt)
      | (go_at_call 66; (with_reducible refine (HV.out _).mono ?_); rintro r w' ⟨rfl, rfl⟩)
      | (go_at_call 66; (with_reducible refine (HG.out _).mono ?_); rintro r w' ⟨rfl, rfl⟩)
      | (go_at_call 63; refine (HA.out _).mono ?_; rintro r w' ⟨rfl, rfl⟩)
      | ((with_reducible refine wpList_store_abs (o := ⟨none, .store 134 (.tmp 6) (.tmp 43), _, _, _, none⟩) rfl _ _ _ rfl (w.heap.size + 1) 134 [.int .i64 0, .int .i64 0, .bool false, .bool false, .bool false] [.int .i64 a, .int .i64 e, .bool vl, .bool (p % 4096 == 0), .bool true] ?_ ?_ (b6.keep (later1 w2 (.cells #[.int .i64 a, .int .i64 e, .bool vl, .bool (p % 4096 == 0), .bool true] 134))) ?_ ?_ ?_ ?_); rfl; rfl; exact first_sz _ _ _ _ _; rfl; exact first_one _ _ _ _ _; intro w5 b7 o5))
    exact bodyPost_ret (v := .agg #[.int .i64 a, .int .i64 e, .bool vl, .bool (p % 4096 == 0), .bool true]) (results_blk Tryz.results62 _ _ (w.heap.size + 1) 134 [.int .i64 a, .int .i64 e, .bool vl, .bool (p % 4096 == 0), .bool true] _ rfl b7 Tryz.underlying134 rfl (first_sz _ _ _ _ _)) rfl
      ⟨rfl, Below.only (Later.trans_ lw (later1 w2 (.cells #[.int .i64 a, .int .i64 e, .bool vl, .bool (p % 4096 == 0), .bool true] 134))) o5 (by omega)⟩
  | false =>
    rw [if_neg (by decide)]
    obtain ⟨q, hq⟩ : ∃ q, q = decide (e / 2 % 32 = 0) := ⟨_, rfl⟩
    rw [← hq]
    have hq2 : (e / 2 % 32 == 0) = q := hq.symm
    clear hq
    cases q with
    | true =>
      rw [Bool.true_and]
      go_enter Tryz.func62, Tryz.ntmps62
      go_wp2_with (first
        | (go_at_call 64; refine (HW.out _ lx).mono ?_; rintro r w2 ⟨rfl, l2⟩; replace b3 := b3.keep l2; replace b6 := b6.keep l2; have lw := Later.trans_ lx l2; have h6' := b6.lt)
        | (go_at_call 66; (with_reducible refine (HV.out _).mono ?_); rintro r w' ⟨rfl, rfl⟩)
        | (go_at_call 66; (with_reducible refine (HG.out _).mono ?_); rintro r w' ⟨rfl, rfl⟩)
        | (go_at_call 63; refine (HA.out _).mono ?_; rintro r w' ⟨rfl, rfl⟩))
      have b9 := Blk.new w2 134 #[.int .i64 a, .int .i64 e, .bool vl, .bool false, .bool false] [.int .i64 a, .int .i64 e, .bool vl, .bool false, .bool false] rfl
      replace b3 := (b3.keep (later1 w2 (.cells #[.int .i64 a, .int .i64 e, .bool vl, .bool false, .bool false] 134))).drew
      replace b6 := (b6.keep (later1 w2 (.cells #[.int .i64 a, .int .i64 e, .bool vl, .bool false, .bool false] 134))).drew
      replace b9 := b9.drew
      replace lw := (Later.trans_ lw (later1 w2 (.cells #[.int .i64 a, .int .i64 e, .bool vl, .bool false, .bool false] 134))).drew
      have c9 := b9.cell (j := 3) (v := .bool false) rfl
      have f9 := b9.frz 3
      refine wp_region_held_drew (S := fun w' => w'.cell? ⟨w.heap.size, 0, none⟩ = some (.slice A n c)) (by kernel_rfl) (b3.cell (j := 0) rfl) (fun hHeld => ?_)
      refine wpAnyH_take (i := 0) (oi := ⟨some 32, .move (.tmp 8), _, _, _, none⟩) (v := .int .i64 e) rfl (by kernel_rfl) (by kernel_rfl) (by kernel_rfl) (fun _ _ _ h => h) (Or.inl ⟨by rfl, fun _ _ => rfl⟩) hHeld ?_
      simp only [Act.put, List.setIfInBounds_toArray, List.set_cons_zero, List.set_cons_succ]
      refine wpAnyH_take (i := 1) (oi := ⟨some 33, .binOp .quo 3 (.tmp 32) (.const (.int .i64 2)) 3, _, _, _, none⟩) (v := .int .i64 (e / 2)) rfl (by kernel_rfl) (by kernel_rfl) (by kernel_rfl) (fun _ _ _ h => h) (Or.inl ⟨by rfl, fun w _ => by go_simp⟩) hHeld ?_
      simp only [Act.put, List.setIfInBounds_toArray, List.set_cons_zero, List.set_cons_succ]
      refine wpAnyH_take (i := 2) (oi := ⟨some 34, .binOp .rem 3 (.tmp 33) (.const (.int .i64 32)) 3, _, _, _, none⟩) (v := .int .i64 (e / 2 % 32)) rfl (by kernel_rfl) (by kernel_rfl) (by kernel_rfl) (fun _ _ _ h => h) (Or.inl ⟨by rfl, fun w _ => by go_simp⟩) hHeld ?_
      simp only [Act.put, List.setIfInBounds_toArray, List.set_cons_zero, List.set_cons_succ]
      refine wpAnyH_take (i := 3) (oi := ⟨some 35, .binOp .eql 3 (.tmp 34) (.const (.int .i64 0)) 3, _, _, _, none⟩) (v := .bool true) rfl (by kernel_rfl) (by kernel_rfl) (by kernel_rfl) (fun _ _ _ h => h) (Or.inl ⟨by rfl, fun w _ => by go_simp⟩) hHeld ?_
      simp only [Act.put, List.setIfInBounds_toArray, List.set_cons_zero, List.set_cons_succ]
      refine wpAnyH_take (i := 4) (oi := ⟨some 36, .move (.tmp 35), _, _, _, none⟩) (v := .bool true) rfl (by kernel_rfl) (by kernel_rfl) (by kernel_rfl) (fun _ _ _ h => h) (Or.inl ⟨by rfl, fun _ _ => rfl⟩) hHeld ?_
      simp only [Act.put, List.setIfInBounds_toArray, List.set_cons_zero, List.set_cons_succ]
      refine wpAnyH_take (i := 5) (oi := ⟨some 37, .load 29 (.tmp 3), _, _, _, _⟩) (v := .agg #[.slice A n c]) rfl (by kernel_rfl) (by kernel_rfl) (by kernel_rfl) (fun _ _ _ h => h) (Or.inl ⟨by rfl, fun w hSw => by have e1 := hSw; clear hSw; go_simp⟩) hHeld ?_
      simp only [Act.put, List.setIfInBounds_toArray, List.set_cons_zero, List.set_cons_succ]
      refine wpAnyH_take (i := 6) (oi := ⟨some 38, .move (.tmp 8), _, _, _, _⟩) (v := .int .i64 e) rfl (by kernel_rfl) (by kernel_rfl) (by kernel_rfl) (fun _ _ _ h => h) (Or.inl ⟨by rfl, fun _ _ => rfl⟩) hHeld ?_
      simp only [Act.put, List.setIfInBounds_toArray, List.set_cons_zero, List.set_cons_succ]
      refine wpAnyH_ready (rs := [7]) (by kernel_rfl) (by simp) (AllReadyH.cons (o := ⟨some 39, .call { callee := .value (.func 63), args := #[.tmp 38], argTypes := #[3] }, _, _, _, _⟩) rfl (fun K' hK => ?_) (AllReadyH.nil))
      go_simp
      refine (HA.out _).mono ?_
      rintro r w' ⟨rfl, rfl⟩
      refine hK.out _ _ (b3.cell (j := 0) rfl) (fun hHeld => ?_)
      clear hK K'
      try simp only [Act.put, List.setIfInBounds_toArray, List.set_cons_zero, List.set_cons_succ]
      refine wpAnyH_ready (rs := [8]) (by kernel_rfl) (by simp) (AllReadyH.cons (o := ⟨some 40, .call { callee := .value (.func 61), args := #[.tmp 37, .tmp 39], argTypes := #[29, 3] }, _, _, _, _⟩) rfl (fun K' hK => ?_) (AllReadyH.nil))
      go_simp
      refine (HP.out _).mono ?_
      rintro r w4 ⟨rfl, l4⟩
      replace b3 := b3.keep l4
      replace b6 := b6.keep l4
      replace b9 := b9.keep l4
      replace lw := Later.trans_ lw l4
      clear c9 f9
      have c9 := b9.cell (j := 3) (v := .bool false) rfl
      have f9 := b9.frz 3
      refine hK.out _ _ (b3.cell (j := 0) rfl) (fun hHeld => ?_)
      clear hK K'
      try simp only [Act.put, List.setIfInBounds_toArray, List.set_cons_zero, List.set_cons_succ]
      refine wpAnyH_take (i := 9) (oi := ⟨some 41, .pick (.tmp 36) (.tmp 40) (.const (.bool false)), _, _, _, none⟩) (v := .bool (Tm.pageB n p)) rfl (by kernel_rfl) (by kernel_rfl) (by kernel_rfl) (fun _ _ _ h => h) (Or.inl ⟨by rfl, fun w _ => by go_simp⟩) hHeld ?_
      simp only [Act.put, List.setIfInBounds_toArray, List.set_cons_zero, List.set_cons_succ]
      refine wpAnyH_take (i := 10) (oi := ⟨some 42, .fieldAddr 134 (.tmp 9) 3, _, _, _, none⟩) (v := .pointer (some ⟨w2.heap.size, 3, none⟩)) rfl (by kernel_rfl) (by kernel_rfl) (by kernel_rfl) (fun _ _ _ h => h) (Or.inl ⟨by rfl, fun w _ => by go_simp⟩) hHeld ?_
      simp only [Act.put, List.setIfInBounds_toArray, List.set_cons_zero, List.set_cons_succ]
      refine wpAnyH_ready (rs := [11]) (by kernel_rfl) (by simp) (AllReadyH.cons (o := ⟨none, .store 4 (.tmp 42) (.tmp 41), _, _, _, none⟩) rfl (fun K' hK => ?_) (AllReadyH.nil))
      go_simp
      replace b6 := b6.set_other ⟨w2.heap.size, 3, none⟩ (.bool (Tm.pageB n p)) (by show w.heap.size + 1 ≠ w2.heap.size; omega)
      replace b3 := b3.set_other ⟨w2.heap.size, 3, none⟩ (.bool (Tm.pageB n p)) (by show w.heap.size ≠ w2.heap.size; omega)
      have b9' := b9.set 3 (.bool (Tm.pageB n p))
      replace lw := lw.setCell (p := ⟨w2.heap.size, 3, none⟩) (by show w.heap.size ≤ w2.heap.size; omega) (.bool (Tm.pageB n p))
      clear c9 f9
      have k0 := b9'.cell (j := 0) (v := .int .i64 a) rfl
      have k1 := b9'.cell (j := 1) (v := .int .i64 e) rfl
      have k2 := b9'.cell (j := 2) (v := .bool vl) rfl
      have k3 := b9'.cell (j := 3) (v := .bool (Tm.pageB n p)) rfl
      have k4 := b9'.cell (j := 4) (v := .bool false) rfl
      refine hK.out _ _ (b3.cell (j := 0) rfl) (fun hHeld => ?_)
      clear hK K'
      try simp only [Act.put, List.setIfInBounds_toArray, List.set_cons_zero, List.set_cons_succ]
      refine wpAnyH_done (by kernel_rfl) ?_ _
      clear hHeld
      go_wp2_with (first
        | ((with_reducible refine wpList_store_abs (o := ⟨none, .store 134 (.tmp 6) (.tmp 43), _, _, _, none⟩) rfl _ _ _ rfl (w.heap.size + 1) 134 [.int .i64 0, .int .i64 0, .bool false, .bool false, .bool false] [.int .i64 a, .int .i64 e, .bool vl, .bool (Tm.pageB n p), .bool false] ?_ ?_ b6 ?_ ?_ ?_ ?_); rfl; rfl; exact first_sz _ _ _ _ _; rfl; exact first_one _ _ _ _ _; intro w5 b7 o5))
      exact bodyPost_ret (v := .agg #[.int .i64 a, .int .i64 e, .bool vl, .bool (Tm.pageB n p), .bool false]) (results_blk Tryz.results62 _ _ (w.heap.size + 1) 134 [.int .i64 a, .int .i64 e, .bool vl, .bool (Tm.pageB n p), .bool false] _ rfl b7 Tryz.underlying134 rfl (first_sz _ _ _ _ _)) rfl
        ⟨rfl, Below.only lw o5 (by omega)⟩
    | false =>
      rw [Bool.false_and]
      go_enter Tryz.func62, Tryz.ntmps62
      go_wp2_with (first
        | (go_at_call 64; refine (HW.out _ lx).mono ?_; rintro r w2 ⟨rfl, l2⟩; replace b3 := b3.keep l2; replace b6 := b6.keep l2; have lw := Later.trans_ lx l2; have h6' := b6.lt)
        | (go_at_call 66; (with_reducible refine (HV.out _).mono ?_); rintro r w' ⟨rfl, rfl⟩)
        | (go_at_call 66; (with_reducible refine (HG.out _).mono ?_); rintro r w' ⟨rfl, rfl⟩)
        | (go_at_call 63; refine (HA.out _).mono ?_; rintro r w' ⟨rfl, rfl⟩))
      have b9 := Blk.new w2 134 #[.int .i64 a, .int .i64 e, .bool vl, .bool false, .bool false] [.int .i64 a, .int .i64 e, .bool vl, .bool false, .bool false] rfl
      replace b3 := (b3.keep (later1 w2 (.cells #[.int .i64 a, .int .i64 e, .bool vl, .bool false, .bool false] 134))).drew
      replace b6 := (b6.keep (later1 w2 (.cells #[.int .i64 a, .int .i64 e, .bool vl, .bool false, .bool false] 134))).drew
      replace b9 := b9.drew
      replace lw := (Later.trans_ lw (later1 w2 (.cells #[.int .i64 a, .int .i64 e, .bool vl, .bool false, .bool false] 134))).drew
      have c9 := b9.cell (j := 3) (v := .bool false) rfl
      have f9 := b9.frz 3
      refine wp_region_held_drew (S := fun w' => w'.cell? ⟨w.heap.size, 0, none⟩ = some (.slice A n c)) (by kernel_rfl) (b3.cell (j := 0) rfl) (fun hHeld => ?_)
      refine wpAnyH_take (i := 0) (oi := ⟨some 32, .move (.tmp 8), _, _, _, none⟩) (v := .int .i64 e) rfl (by kernel_rfl) (by kernel_rfl) (by kernel_rfl) (fun _ _ _ h => h) (Or.inl ⟨by rfl, fun _ _ => rfl⟩) hHeld ?_
      simp only [Act.put, List.setIfInBounds_toArray, List.set_cons_zero, List.set_cons_succ]
      refine wpAnyH_take (i := 1) (oi := ⟨some 33, .binOp .quo 3 (.tmp 32) (.const (.int .i64 2)) 3, _, _, _, none⟩) (v := .int .i64 (e / 2)) rfl (by kernel_rfl) (by kernel_rfl) (by kernel_rfl) (fun _ _ _ h => h) (Or.inl ⟨by rfl, fun w _ => by go_simp⟩) hHeld ?_
      simp only [Act.put, List.setIfInBounds_toArray, List.set_cons_zero, List.set_cons_succ]
      refine wpAnyH_take (i := 2) (oi := ⟨some 34, .binOp .rem 3 (.tmp 33) (.const (.int .i64 32)) 3, _, _, _, none⟩) (v := .int .i64 (e / 2 % 32)) rfl (by kernel_rfl) (by kernel_rfl) (by kernel_rfl) (fun _ _ _ h => h) (Or.inl ⟨by rfl, fun w _ => by go_simp⟩) hHeld ?_
      simp only [Act.put, List.setIfInBounds_toArray, List.set_cons_zero, List.set_cons_succ]
      refine wpAnyH_take (i := 3) (oi := ⟨some 35, .binOp .eql 3 (.tmp 34) (.const (.int .i64 0)) 3, _, _, _, none⟩) (v := .bool false) rfl (by kernel_rfl) (by kernel_rfl) (by kernel_rfl) (fun _ _ _ h => h) (Or.inl ⟨by rfl, fun w _ => by go_simp⟩) hHeld ?_
      simp only [Act.put, List.setIfInBounds_toArray, List.set_cons_zero, List.set_cons_succ]
      refine wpAnyH_take (i := 4) (oi := ⟨some 36, .move (.tmp 35), _, _, _, none⟩) (v := .bool false) rfl (by kernel_rfl) (by kernel_rfl) (by kernel_rfl) (fun _ _ _ h => h) (Or.inl ⟨by rfl, fun _ _ => rfl⟩) hHeld ?_
      simp only [Act.put, List.setIfInBounds_toArray, List.set_cons_zero, List.set_cons_succ]
      refine wpAnyH_take (i := 5) (oi := ⟨some 37, .load 29 (.tmp 3), _, _, _, _⟩) (v := undef) rfl (by kernel_rfl) (by kernel_rfl) (by kernel_rfl) (fun _ _ _ h => h) (Or.inr ⟨by rfl, rfl⟩) hHeld ?_
      simp only [Act.put, List.setIfInBounds_toArray, List.set_cons_zero, List.set_cons_succ]
      refine wpAnyH_take (i := 6) (oi := ⟨some 38, .move (.tmp 8), _, _, _, _⟩) (v := undef) rfl (by kernel_rfl) (by kernel_rfl) (by kernel_rfl) (fun _ _ _ h => h) (Or.inr ⟨by rfl, rfl⟩) hHeld ?_
      simp only [Act.put, List.setIfInBounds_toArray, List.set_cons_zero, List.set_cons_succ]
      refine wpAnyH_take (i := 7) (oi := ⟨some 39, .call { callee := .value (.func 63), args := #[.tmp 38], argTypes := #[3] }, _, _, _, _⟩) (v := undef) rfl (by kernel_rfl) (by kernel_rfl) (by kernel_rfl) (fun _ _ _ h => h) (Or.inr ⟨by rfl, rfl⟩) hHeld ?_
      simp only [Act.put, List.setIfInBounds_toArray, List.set_cons_zero, List.set_cons_succ]
      refine wpAnyH_take (i := 8) (oi := ⟨some 40, .call { callee := .value (.func 61), args := #[.tmp 37, .tmp 39], argTypes := #[29, 3] }, _, _, _, _⟩) (v := undef) rfl (by kernel_rfl) (by kernel_rfl) (by kernel_rfl) (fun _ _ _ h => h) (Or.inr ⟨by rfl, rfl⟩) hHeld ?_
      simp only [Act.put, List.setIfInBounds_toArray, List.set_cons_zero, List.set_cons_succ]
      refine wpAnyH_take (i := 9) (oi := ⟨some 41, .pick (.tmp 36) (.tmp 40) (.const (.bool false)), _, _, _, none⟩) (v := .bool false) rfl (by kernel_rfl) (by kernel_rfl) (by kernel_rfl) (fun _ _ _ h => h) (Or.inl ⟨by rfl, fun w _ => by go_simp⟩) hHeld ?_
      simp only [Act.put, List.setIfInBounds_toArray, List.set_cons_zero, List.set_cons_succ]
      refine wpAnyH_take (i := 10) (oi := ⟨some 42, .fieldAddr 134 (.tmp 9) 3, _, _, _, none⟩) (v := .pointer (some ⟨w2.heap.size, 3, none⟩)) rfl (by kernel_rfl) (by kernel_rfl) (by kernel_rfl) (fun _ _ _ h => h) (Or.inl ⟨by rfl, fun w _ => by go_simp⟩) hHeld ?_
      simp only [Act.put, List.setIfInBounds_toArray, List.set_cons_zero, List.set_cons_succ]
      refine wpAnyH_ready (rs := [11]) (by kernel_rfl) (by simp) (AllReadyH.cons (o := ⟨none, .store 4 (.tmp 42) (.tmp 41), _, _, _, none⟩) rfl (fun K' hK => ?_) (AllReadyH.nil))
      go_simp
      clear c9 f9
      have k0 := b9.cell (j := 0) (v := .int .i64 a) rfl
      have k1 := b9.cell (j := 1) (v := .int .i64 e) rfl
      have k2 := b9.cell (j := 2) (v := .bool vl) rfl
      have k3 := b9.cell (j := 3) (v := .bool false) rfl
      have k4 := b9.cell (j := 4) (v := .bool false) rfl
      refine hK.out _ _ (b3.cell (j := 0) rfl) (fun hHeld => ?_)
      clear hK K'
      try simp only [Act.put, List.setIfInBounds_toArray, List.set_cons_zero, List.set_cons_succ]
      refine wpAnyH_done (by kernel_rfl) ?_ _
      clear hHeld
      go_wp2_with (first
        | ((with_reducible refine wpList_store_abs (o := ⟨none, .store 134 (.tmp 6) (.tmp 43), _, _, _, none⟩) rfl _ _ _ rfl (w.heap.size + 1) 134 [.int .i64 0, .int .i64 0, .bool false, .bool false, .bool false] [.int .i64 a, .int .i64 e, .bool vl, .bool false, .bool false] ?_ ?_ b6 ?_ ?_ ?_ ?_); rfl; rfl; exact first_sz _ _ _ _ _; rfl; exact first_one _ _ _ _ _; intro w5 b7 o5))
      exact bodyPost_ret (v := .agg #[.int .i64 a, .int .i64 e, .bool vl, .bool false, .bool false]) (results_blk Tryz.results62 _ _ (w.heap.size + 1) 134 [.int .i64 a, .int .i64 e, .bool vl, .bool false, .bool false] _ rfl b7 Tryz.underlying134 rfl (first_sz _ _ _ _ _)) rfl
        ⟨rfl, Below.only lw o5 (by omega)⟩
end Go.Proofs.YtidhodalnikhlaaGreatDoor
