/-
  THE WALK OF the reference's Load.
-/
import Derived.Test.YtffgbbfcbobecaaMemC
namespace Go.Proofs.Ytffgbbfcbobecaa
open Go.RowKit Go.ChangeShapes Go.WideShapes Go.ChangeAt

theorem load2_sz (u v : Value) : (Try.prog.info? 121).map (·.size) = some [u, v].length := by
  show _ = some 2
  kernel_rfl
set_option maxRecDepth 100000 in
set_option maxHeartbeats 1000000 in
theorem rload_none (A : Option Addr) (n c : Nat) (a s : Int) (w : World) (hn : n ≤ 64) (ha : -9223372036854775808 ≤ a ∧ a ≤ 9223372036854775807) (h : ¬ Mm.There (n * 128) a s) :
    Calls Try.prog 67 #[.agg #[.slice A n c], .int .i64 a, .int .i64 s] w fun e w' => e = .returned (.agg #[.int .u32 0, .bool false]) ∧ Later w w' := by
  have HT := Lib.hid fun w' => rthere_any A n c a s w' hn ha
  rw [decide_eq_false h] at HT
  clear h
  go_enter Try.func67, Try.ntmps67
  go_wp2_with (first
    | (go_at_call 85; refine (HT.out _).mono ?_; rintro e w1 ⟨rfl, l1⟩; have bR := (Blk.new' (w.alloc (.cells #[.slice A n c] 24)) (w.heap.size + 1) 121 #[.int .u32 0, .bool false] [.int .u32 0, .bool false] (by simp) rfl).keep l1; have c0 := bR.cell (j := 0) (v := .int .u32 0) rfl; have c1 := bR.cell (j := 1) (v := .bool false) rfl; have f0 := bR.frz 0; have f1 := bR.frz 1; have l2 := Later.trans_ ((later1 w _).alloc (by simp) _) l1))
  exact bodyPost_ret (results_blk Try.results67 _ _ (w.heap.size + 1) 121 [.int .u32 0, .bool false] _ rfl ((bR.set 0 (.int .u32 0)).set 1 (.bool false)) Try.underlying121 rfl (load2_sz _ _)) rfl ⟨rfl, (l2.setCell (by simp) _).setCell (by simp) _⟩
theorem le_drop (x : Wm.Bs) (k : Nat) (h : k < x.length) : Mm.le (x.drop k) = x.getD k 0 + 256 * Mm.le (x.drop (k + 1)) := by
  rw [List.drop_eq_getElem_cons h, List.getD_eq_getElem?_getD, List.getElem?_eq_getElem h]
  rfl
theorem isBs_drop {x : Wm.Bs} (h : Wm.isBs x) (k : Nat) : Wm.isBs (x.drop k) := fun y hy => h y (List.mem_of_mem_drop hy)
theorem isBs_take {x : Wm.Bs} (h : Wm.isBs x) (k : Nat) : Wm.isBs (x.take k) := fun y hy => h y (List.mem_of_mem_take hy)
theorem isBs_getD {x : Wm.Bs} (h : Wm.isBs x) (k : Nat) : 0 ≤ x.getD k 0 ∧ x.getD k 0 < 256 := by
  rw [List.getD_eq_getElem?_getD]
  rcases Nat.lt_or_ge k x.length with h1 | h1
  · rw [List.getElem?_eq_getElem h1]; exact h _ (List.getElem_mem h1)
  · rw [List.getElem?_eq_none h1]; decide
theorem part_getD (b : Wm.Bs) (a s k : Nat) (h : k < s) : ((b.drop a).take s).getD k 0 = b.getD (a + k) 0 := by
  rw [List.getD_eq_getElem?_getD, List.getD_eq_getElem?_getD, List.getElem?_take, if_pos h, List.getElem?_drop]

theorem le3 {x : Wm.Bs} (h : Wm.isBs x) (hl : x.length ≤ 3) : Mm.le x < 16777216 := by
  have h1 := Mm.le_lt h
  rcases (show x.length = 0 ∨ x.length = 1 ∨ x.length = 2 ∨ x.length = 3 by omega) with e | e | e | e <;> rw [e] at h1 <;> omega
set_option maxRecDepth 100000 in
set_option maxHeartbeats 1000000 in
theorem rload_there (A : Option Addr) (n c a s : Nat) (b : Wm.Bs) (w : World) (hs : Sl w 128 A n (U b)) (hb : Wm.isBs b) (hn : n ≤ 64) (h : Mm.There (n * 128) (a : Int) (s : Int)) :
    Calls Try.prog 67 #[.agg #[.slice A n c], .int .i64 (a : Int), .int .i64 (s : Int)] w fun e w' => e = .returned (.agg #[.int .u32 (Mm.le ((b.drop a).take s)), .bool true]) ∧ Later w w' := by
  have HT := Lib.hid fun w' => rthere_any A n c (a : Int) (s : Int) w' hn ⟨by omega, by have := h.2.2; omega⟩
  rw [decide_eq_true h] at HT
  obtain ⟨h1, h2, h3⟩ := h
  have hs4 : s = 1 ∨ s = 4 := by omega
  have has : a + s ≤ n * 128 := by omega
  have hbl : b.length = n * 128 := by have := hs.1; rwa [U_length] at this
  obtain ⟨x, hx⟩ : ∃ x, x = (b.drop a).take s := ⟨_, rfl⟩
  have hxl : x.length = s := by rw [hx, List.length_take, List.length_drop]; omega
  have hxb : Wm.isBs x := by rw [hx]; exact isBs_take (isBs_drop hb _) _
  have HB := Lib.hid fun (w' : World) (hl : Later w w') (k : Nat) (hk : k < s) => by
    have h1 := byte_any A n c (a + k) b w' (hs.keep hl) hn (by omega)
    rw [← part_getD b a s k hk, ← hx, Int.natCast_add] at h1
    exact h1
  rw [← hx]
  have HX := Lib.hid (show x.length = s ∧ Wm.isBs x from ⟨hxl, hxb⟩)
  have hn2 : (n : Int) * 128 ≤ 8192 := by omega
  have has2 : (a : Int) + s ≤ 8192 := by omega
  clear hx hxl hxb hbl h1 h2 h3 hs hb has hn2
  go_enter Try.func67, Try.ntmps67
  go_wp2_with (first
    | (go_at_call 85; refine (HT.out _).mono ?_; rintro e w1 ⟨rfl, l1⟩; have bP := ((Blk.new w 24 #[.slice A n c] _ rfl).alloc (.cells #[.int .u32 0, .bool false] 121)).keep l1; have bR := (Blk.new' (w.alloc (.cells #[.slice A n c] 24)) (w.heap.size + 1) 121 #[.int .u32 0, .bool false] [.int .u32 0, .bool false] (by simp) rfl).keep l1; have l2 := Later.trans_ ((later1 w _).alloc (by simp) _) l1))
  go_loopw [8, 9] (fun v i wr => ∃ k : Nat, k ≤ s ∧ i = .int .i64 ((k : Int) - 1) ∧ v = .int .u32 (Mm.le (x.drop k)) ∧ Blk wr w.heap.size 24 [.slice A n c] ∧ Blk wr (w.heap.size + 1) 121 [.int .u32 0, .bool false] ∧ Later w wr) (fun _ i _ => (intOf i + 1).toNat)
  case atStart => exact ⟨s, Nat.le_refl _, by go_num, by rw [List.drop_eq_nil_of_le (by rw [HX.out.1]; exact Nat.le_refl _)]; rfl, bP, bR, l2⟩
  case round =>
    clear bP bR l2
    rename_i wr
    obtain ⟨k, hk, rfl, rfl, bP, bR, lr⟩ := hrel
    cases k with
    | zero =>
      have c0 := bR.cell (j := 0) (v := .int .u32 0) rfl
      have c1 := bR.cell (j := 1) (v := .bool false) rfl
      have f0 := bR.frz 0
      have f1 := bR.frz 1
      obtain ⟨Z, hZ⟩ : ∃ Z, Z = Mm.le x := ⟨_, rfl⟩
      rw [List.drop_zero]
      rw [← hZ]
      have HZ := Lib.hid hZ
      clear hZ
      simp only [Int.natCast_zero]
      go_wp2
      exact bodyPost_ret (results_blk Try.results67 _ _ (w.heap.size + 1) 121 [.int .u32 Z, .bool true] _ rfl ((bR.set 0 _).set 1 _) Try.underlying121 rfl (load2_sz _ _)) rfl ⟨by rw [HZ.out], (lr.setCell (by simp) _).setCell (by simp) _⟩
    | succ k =>
      rw [show (((k + 1 : Nat) : Int) - 1) = (k : Int) by omega]
      have hle := le_drop x k (by rw [HX.out.1]; omega)
      have hX := isBs_getD HX.out.2 k
      have hY0 := Mm.le_nn (isBs_drop HX.out.2 (k + 1))
      have hY1 := le3 (isBs_drop HX.out.2 (k + 1)) (by rw [List.length_drop, HX.out.1]; omega)
      have HBk := Lib.hid fun (w' : World) (hl : Later w w') => HB.out w' hl k (by omega)
      obtain ⟨X, eX⟩ : ∃ X, X = x.getD k 0 := ⟨_, rfl⟩
      obtain ⟨Y, eY⟩ : ∃ Y, Y = Mm.le (x.drop (k + 1)) := ⟨_, rfl⟩
      rw [← eX] at hle hX HBk
      rw [← eY] at hle hY0 hY1 ⊢
      have HL := Lib.hid hle
      have p0 := bP.cell (j := 0) (v := .slice A n c) rfl
      have ho := or_hi 8 256 rfl (n := X) (y := Y) (by omega) (by omega) hY0 (by omega)
      rw [or_comm32] at ho
      have HO := Lib.hid ho
      clear hle eX eY ho HB
      go_wp2_with (first
        | (go_at_call 75; refine (HBk.out _ lr).mono ?_; rintro e w2 ⟨rfl, l2⟩))
      go_roundw
      case rel => exact ⟨k, by omega, by go_num, by rw [HL.out, HO.out]; congr 1; omega, bP.keep l2, bR.keep l2, Later.trans_ lr l2⟩
      case measure => simp [intOf]
theorem rload_any (A : Option Addr) (n c : Nat) (a s : Int) (b : Wm.Bs) (w : World) (hs : Sl w 128 A n (U b)) (hb : Wm.isBs b) (hn : n ≤ 64) (ha : -9223372036854775808 ≤ a ∧ a ≤ 9223372036854775807) :
    Calls Try.prog 67 #[.agg #[.slice A n c], .int .i64 a, .int .i64 s] w fun e w' => e = .returned (.agg #[.int .u32 (Mm.ld b a s), .bool (decide (Mm.There (n * 128) a s))]) ∧ Later w w' := by
  have hbl : b.length = n * 128 := by have := hs.1; rwa [U_length] at this
  unfold Mm.ld
  rw [hbl]
  by_cases h : Mm.There (n * 128) a s
  · rw [if_pos h, decide_eq_true h]
    obtain ⟨a', rfl⟩ := Int.eq_ofNat_of_zero_le h.2.1
    obtain ⟨s', rfl⟩ := Int.eq_ofNat_of_zero_le (show 0 ≤ s by have := h.1; omega)
    exact rload_there A n c a' s' b w hs hb hn h
  · rw [if_neg h, decide_eq_false h]
    exact rload_none _ n c a s w hn ha h
end Go.Proofs.Ytffgbbfcbobecaa
