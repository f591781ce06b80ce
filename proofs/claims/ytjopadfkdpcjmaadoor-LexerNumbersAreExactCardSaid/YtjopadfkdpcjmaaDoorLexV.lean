/-
  THE WALK OF the statements' sanity check: the document's examples.
-/
import Derived.Test.YtjopadfkdpcjmaaDoorLexT
import Derived.Test.YtjopadfkdpcjmaaDoorLexP
import Derived.Test.YtjopadfkdpcjmaaDoorLexH
namespace Go.Proofs.YtjopadfkdpcjmaaDoor
open Go.RowKit Go.ChangeShapes Go.WideShapes Go.ChangeAt

set_option maxRecDepth 100000 in
theorem pb_eq (a e : Int) (w : World) : (Op.equalIn 10000 26 (.agg #[.int .i64 a, .int .i64 e]) (.agg #[.int .i64 a, .int .i64 e])).run Tryd.prog w = .ok true w := by
  obtain ⟨fs, hfs, hu⟩ : ∃ fs, Tryd.prog.fieldsOf 26 = fs ∧ Tryd.prog.underlying 26 = some (.struct fs) := ⟨_, by kernel_rfl, Tryd.underlying26⟩
  rw [run_equalIn_struct w 9999 _ _ _ (by rw [hfs]; exact hu) (by kernel_rfl), hfs]
  have hfs2 := hu.symm.trans Tryd.underlying26
  injection hfs2 with h1
  injection h1 with h2
  subst h2
  have hag : (isAgg 3).run Tryd.prog w = .ok false w := by kernel_rfl
  have hag2 : (isAgg 24).run Tryd.prog w = .ok false w := by kernel_rfl
  have he := fun a b => run_equalIn_int (P := Tryd.prog) w 9998 3 .i64 .i64 a b Tryd.underlying3
  have he2 := fun a b => run_equalIn_int (P := Tryd.prog) w 9998 24 .i64 .i64 a b Tryd.underlying24
  simp [Op.eqFields, part, hag, hag2, he, he2, Result.andThen]
theorem k_toks {s : ByteArray} {T : List Lx.Tok} {n : Nat} (h : Lx.Tokens (L s) = (T, 0, 0)) (hl : T.length = n) (h0 : 0 < n) (w : World) : Calls Tryd.prog 10 #[.string s] w fun e w' =>
    ∃ ad c, e = .returned (.tuple #[.slice (some ad) n c, .agg #[.int .i64 0, .int .i64 0]]) ∧ Sl w' 4 (some ad) n (Tks T) ∧ Later w w' := by
  have k := tokens_any s w
  rw [h] at k
  refine k.mono ?_
  rintro e w' ⟨A, m, c, rfl, hm, _, _, hs, l1⟩
  obtain rfl : m = n := by rw [← hl]; exact hm.symm
  obtain ⟨ad, rfl, _⟩ := hs.2 h0
  exact ⟨ad, c, rfl, hs, l1⟩
theorem k_bad {s : ByteArray} {p : Nat} {ee : Int} (h : Lx.Tokens (L s) = ([], p, ee)) (w : World) : Calls Tryd.prog 10 #[.string s] w fun e w' =>
    ∃ A c, e = .returned (.tuple #[.slice A 0 c, .agg #[.int .i64 p, .int .i64 ee]]) ∧ Later w w' := by
  have k := tokens_any s w
  rw [h] at k
  refine k.mono ?_
  rintro e w' ⟨A, m, c, rfl, hm, _, _, _, l1⟩
  obtain rfl : m = 0 := hm.symm
  exact ⟨A, c, rfl, l1⟩
def T1 : List Lx.Tok := [⟨1, 0, 0, [108, 111, 111, 112]⟩, ⟨4, 4, 0, [58]⟩, ⟨1, 6, 0, [108, 119]⟩, ⟨1, 9, 0, [114, 49]⟩, ⟨4, 11, 0, [44]⟩, ⟨2, 13, 16, []⟩, ⟨4, 17, 0, [40]⟩, ⟨1, 18, 0, [114, 50]⟩, ⟨4, 20, 0, [41]⟩]
def T2 : List Lx.Tok := [⟨3, 0, 0, [97, 65, 10]⟩, ⟨4, 10, 0, [45]⟩, ⟨2, 11, 5, []⟩, ⟨5, 12, 0, []⟩]
theorem t_1 : Lx.Tokens (L ⟨#[108, 111, 111, 112, 58, 32, 108, 119, 32, 114, 49, 44, 32, 48, 120, 49, 48, 40, 114, 50, 41, 32, 59, 32, 102, 105, 114, 115, 116]⟩) = (T1, 0, 0) := by decide +kernel
theorem t_2 : Lx.Tokens (L ⟨#[34, 97, 92, 120, 52, 49, 92, 110, 34, 32, 45, 53, 10]⟩) = (T2, 0, 0) := by decide +kernel
theorem t_p : Lx.Print T2 = ([34, 97, 65, 92, 110, 34, 32, 45, 32, 53, 10], 0) := by decide +kernel
theorem t_w : placeOf (L ⟨#[97, 10, 98, 99]⟩) 3 = (2, 2) := by decide +kernel
def badS : Nat → ByteArray
  | 0 => ⟨#[97, 32, 49, 50, 98]⟩
  | 1 => ⟨#[48, 120]⟩
  | 2 => ⟨#[52, 50, 57, 52, 57, 54, 55, 50, 57, 54]⟩
  | 3 => ⟨#[34, 97]⟩
  | 4 => ⟨#[34, 92, 113, 34]⟩
  | _ => ⟨#[97, 32, 36]⟩
def badP : Nat → Nat
  | 0 => 2
  | 1 => 0
  | 2 => 0
  | 3 => 0
  | 4 => 0
  | _ => 2
def badE : Nat → Int
  | 0 => 71
  | 1 => 71
  | 2 => 71
  | 3 => 72
  | 4 => 72
  | _ => 70
theorem t_b0 : Lx.Tokens (L ⟨#[97, 32, 49, 50, 98]⟩) = ([], 2, 71) := by decide +kernel
theorem t_b1 : Lx.Tokens (L ⟨#[48, 120]⟩) = ([], 0, 71) := by decide +kernel
theorem t_b2 : Lx.Tokens (L ⟨#[52, 50, 57, 52, 57, 54, 55, 50, 57, 54]⟩) = ([], 0, 71) := by decide +kernel
theorem t_b3 : Lx.Tokens (L ⟨#[34, 97]⟩) = ([], 0, 72) := by decide +kernel
theorem t_b4 : Lx.Tokens (L ⟨#[34, 92, 113, 34]⟩) = ([], 0, 72) := by decide +kernel
theorem t_b5 : Lx.Tokens (L ⟨#[97, 32, 36]⟩) = ([], 2, 70) := by decide +kernel
theorem t_b (k : Nat) (hk : k < 6) : Lx.Tokens (L (badS k)) = ([], badP k, badE k) := by
  rcases (show k = 0 ∨ k = 1 ∨ k = 2 ∨ k = 3 ∨ k = 4 ∨ k = 5 by omega) with rfl | rfl | rfl | rfl | rfl | rfl
  · exact t_b0
  · exact t_b1
  · exact t_b2
  · exact t_b3
  · exact t_b4
  · exact t_b5
def badC (k : Nat) : List Value := [.string (badS k), .int .i64 (badP k), .int .i64 (badE k)]
def badL : List Value := [.string ⟨#[97, 32, 49, 50, 98]⟩, .int .i64 2, .int .i64 71, .string ⟨#[48, 120]⟩, .int .i64 0, .int .i64 71, .string ⟨#[52, 50, 57, 52, 57, 54, 55, 50, 57, 54]⟩, .int .i64 0, .int .i64 71, .string ⟨#[34, 97]⟩, .int .i64 0, .int .i64 72, .string ⟨#[34, 92, 113, 34]⟩, .int .i64 0, .int .i64 72, .string ⟨#[97, 32, 36]⟩, .int .i64 2, .int .i64 70]
theorem bad_at (k j : Nat) (hk : k < 6) (u : Value) (h : (badC k)[j]? = some u) : badL[k * 3 + j]? = some u := by
  rcases (show k = 0 ∨ k = 1 ∨ k = 2 ∨ k = 3 ∨ k = 4 ∨ k = 5 by omega) with rfl | rfl | rfl | rfl | rfl | rfl <;>
    (match j, h with
      | 0, h => exact h
      | 1, h => exact h
      | 2, h => exact h
      | j + 3, h => cases h)
theorem bad_sz (k : Nat) : (Tryd.prog.info? 67).map (·.size) = some (badC k).length := by
  show _ = some 3
  kernel_rfl

set_option maxRecDepth 100000 in
set_option maxHeartbeats 8000000 in
theorem sanity_any (w : World) (tab : Tab10 w) : Calls Tryd.prog 9 #[] w fun e w' => e = .returned (.bool true) ∧ Later w w' := by
  have TB := Lib.hid fun w' (h : Later w w') => tab.keep h
  clear tab
  have K1 := Lib.hid fun w' => k_toks t_1 (n := 9) rfl (by omega) w'
  have K2 := Lib.hid fun w' => k_toks t_2 (n := 4) rfl (by omega) w'
  have KB := Lib.hid fun k (hk : k < 6) w' => k_bad (t_b k hk) w'
  have KP := Lib.hid fun ad c w' (hs : Sl w' 4 (some ad) 4 (Tks T2)) (l : Later w w') => (show Calls Tryd.prog 18 #[.slice (some ad) 4 c] w' fun e w'' => e = .returned (.tuple #[.string ⟨#[34, 97, 65, 92, 110, 34, 32, 45, 32, 53, 10]⟩, .int .i64 0]) ∧ Later w' w'' by
    have h := print_any (some ad) 4 c T2 w' hs rfl (by unfold maxLen; omega) (TB.out w' l)
    rw [t_p] at h
    exact h)
  have KW := Lib.hid fun w' => (show Calls Tryd.prog 12 #[.string ⟨#[97, 10, 98, 99]⟩, .int .i64 3] w' fun e w'' => e = .returned (.tuple #[.int .i64 2, .int .i64 2]) ∧ w'' = w' by
    have h := place_any ⟨#[97, 10, 98, 99]⟩ 3 w' (show (4 : Nat) ≤ 1000000 by omega) (by omega)
    rw [t_w] at h
    exact h)
  have hE1 : ∀ w', (Op.equalIn 10000 41 (.agg #[.int .i64 1, .int .i64 0, .int .i64 0, .string ⟨#[108, 111, 111, 112]⟩]) (.agg #[.int .i64 1, .int .i64 0, .int .i64 0, .string ⟨#[108, 111, 111, 112]⟩])).run Tryd.prog w' = .ok true w' := fun w' => tok_eq ⟨1, 0, 0, [108, 111, 111, 112]⟩ w'
  have hE2 : ∀ w', (Op.equalIn 10000 41 (.agg #[.int .i64 2, .int .i64 13, .int .i64 16, .string ⟨#[]⟩]) (.agg #[.int .i64 2, .int .i64 13, .int .i64 16, .string ⟨#[]⟩])).run Tryd.prog w' = .ok true w' := fun w' => tok_eq ⟨2, 13, 16, []⟩ w'
  have hE3 : ∀ w', (Op.equalIn 10000 41 (.agg #[.int .i64 4, .int .i64 20, .int .i64 0, .string ⟨#[41]⟩]) (.agg #[.int .i64 4, .int .i64 20, .int .i64 0, .string ⟨#[41]⟩])).run Tryd.prog w' = .ok true w' := fun w' => tok_eq ⟨4, 20, 0, [41]⟩ w'
  go_enter Tryd.func9, Tryd.ntmps9
  go_wp2_with (first
    | (go_at_call 10; (with_reducible refine (K1.out _).mono ?_); rintro e w1 ⟨ad1, c1, rfl, sl1, l1⟩; have lw := Later.trans_ l1 (later1 w1 (.cells #[.int .i64 0, .int .i64 0] 26)); replace sl1 := sl1.keep (later1 w1 (.cells #[.int .i64 0, .int .i64 0] 26)); have g00a : (w1.alloc (.cells #[.int .i64 0, .int .i64 0] 26)).cell? ad1 = some (.int .i64 1) := Sl.tok sl1 (k := 0) (by decide) rfl 0 _ rfl; have g01a : (w1.alloc (.cells #[.int .i64 0, .int .i64 0] 26)).cell? ⟨ad1.block, ad1.off + 1, none⟩ = some (.int .i64 0) := Sl.tok sl1 (k := 0) (by decide) rfl 1 _ rfl; have g02a : (w1.alloc (.cells #[.int .i64 0, .int .i64 0] 26)).cell? ⟨ad1.block, ad1.off + 2, none⟩ = some (.int .i64 0) := Sl.tok sl1 (k := 0) (by decide) rfl 2 _ rfl; have g03a : (w1.alloc (.cells #[.int .i64 0, .int .i64 0] 26)).cell? ⟨ad1.block, ad1.off + 3, none⟩ = some (.string ⟨#[108, 111, 111, 112]⟩) := Sl.tok sl1 (k := 0) (by decide) rfl 3 _ rfl; have g50a : (w1.alloc (.cells #[.int .i64 0, .int .i64 0] 26)).cell? ⟨ad1.block, ad1.off + 20, none⟩ = some (.int .i64 2) := Sl.tok sl1 (k := 5) (by decide) rfl 0 _ rfl; have g50b : (w1.alloc (.cells #[.int .i64 0, .int .i64 0] 26)).cell? (ad1.add 20) = some (.int .i64 2) := Sl.tok sl1 (k := 5) (by decide) rfl 0 _ rfl; have g51a : (w1.alloc (.cells #[.int .i64 0, .int .i64 0] 26)).cell? ⟨ad1.block, ad1.off + 21, none⟩ = some (.int .i64 13) := Sl.tok sl1 (k := 5) (by decide) rfl 1 _ rfl; have g51b : (w1.alloc (.cells #[.int .i64 0, .int .i64 0] 26)).cell? ⟨ad1.block, ad1.off + 20 + 1, none⟩ = some (.int .i64 13) := Sl.tok sl1 (k := 5) (by decide) rfl 1 _ rfl; have g51c : (w1.alloc (.cells #[.int .i64 0, .int .i64 0] 26)).cell? (ad1.add 21) = some (.int .i64 13) := Sl.tok sl1 (k := 5) (by decide) rfl 1 _ rfl; have g52a : (w1.alloc (.cells #[.int .i64 0, .int .i64 0] 26)).cell? ⟨ad1.block, ad1.off + 22, none⟩ = some (.int .i64 16) := Sl.tok sl1 (k := 5) (by decide) rfl 2 _ rfl; have g52b : (w1.alloc (.cells #[.int .i64 0, .int .i64 0] 26)).cell? ⟨ad1.block, ad1.off + 20 + 2, none⟩ = some (.int .i64 16) := Sl.tok sl1 (k := 5) (by decide) rfl 2 _ rfl; have g52c : (w1.alloc (.cells #[.int .i64 0, .int .i64 0] 26)).cell? (ad1.add 22) = some (.int .i64 16) := Sl.tok sl1 (k := 5) (by decide) rfl 2 _ rfl; have g53a : (w1.alloc (.cells #[.int .i64 0, .int .i64 0] 26)).cell? ⟨ad1.block, ad1.off + 23, none⟩ = some (.string ⟨#[]⟩) := Sl.tok sl1 (k := 5) (by decide) rfl 3 _ rfl; have g53b : (w1.alloc (.cells #[.int .i64 0, .int .i64 0] 26)).cell? ⟨ad1.block, ad1.off + 20 + 3, none⟩ = some (.string ⟨#[]⟩) := Sl.tok sl1 (k := 5) (by decide) rfl 3 _ rfl; have g53c : (w1.alloc (.cells #[.int .i64 0, .int .i64 0] 26)).cell? (ad1.add 23) = some (.string ⟨#[]⟩) := Sl.tok sl1 (k := 5) (by decide) rfl 3 _ rfl; have g80a : (w1.alloc (.cells #[.int .i64 0, .int .i64 0] 26)).cell? ⟨ad1.block, ad1.off + 32, none⟩ = some (.int .i64 4) := Sl.tok sl1 (k := 8) (by decide) rfl 0 _ rfl; have g80b : (w1.alloc (.cells #[.int .i64 0, .int .i64 0] 26)).cell? (ad1.add 32) = some (.int .i64 4) := Sl.tok sl1 (k := 8) (by decide) rfl 0 _ rfl; have g81a : (w1.alloc (.cells #[.int .i64 0, .int .i64 0] 26)).cell? ⟨ad1.block, ad1.off + 33, none⟩ = some (.int .i64 20) := Sl.tok sl1 (k := 8) (by decide) rfl 1 _ rfl; have g81b : (w1.alloc (.cells #[.int .i64 0, .int .i64 0] 26)).cell? ⟨ad1.block, ad1.off + 32 + 1, none⟩ = some (.int .i64 20) := Sl.tok sl1 (k := 8) (by decide) rfl 1 _ rfl; have g81c : (w1.alloc (.cells #[.int .i64 0, .int .i64 0] 26)).cell? (ad1.add 33) = some (.int .i64 20) := Sl.tok sl1 (k := 8) (by decide) rfl 1 _ rfl; have g82a : (w1.alloc (.cells #[.int .i64 0, .int .i64 0] 26)).cell? ⟨ad1.block, ad1.off + 34, none⟩ = some (.int .i64 0) := Sl.tok sl1 (k := 8) (by decide) rfl 2 _ rfl; have g82b : (w1.alloc (.cells #[.int .i64 0, .int .i64 0] 26)).cell? ⟨ad1.block, ad1.off + 32 + 2, none⟩ = some (.int .i64 0) := Sl.tok sl1 (k := 8) (by decide) rfl 2 _ rfl; have g82c : (w1.alloc (.cells #[.int .i64 0, .int .i64 0] 26)).cell? (ad1.add 34) = some (.int .i64 0) := Sl.tok sl1 (k := 8) (by decide) rfl 2 _ rfl; have g83a : (w1.alloc (.cells #[.int .i64 0, .int .i64 0] 26)).cell? ⟨ad1.block, ad1.off + 35, none⟩ = some (.string ⟨#[41]⟩) := Sl.tok sl1 (k := 8) (by decide) rfl 3 _ rfl; have g83b : (w1.alloc (.cells #[.int .i64 0, .int .i64 0] 26)).cell? ⟨ad1.block, ad1.off + 32 + 3, none⟩ = some (.string ⟨#[41]⟩) := Sl.tok sl1 (k := 8) (by decide) rfl 3 _ rfl; have g83c : (w1.alloc (.cells #[.int .i64 0, .int .i64 0] 26)).cell? (ad1.add 35) = some (.string ⟨#[41]⟩) := Sl.tok sl1 (k := 8) (by decide) rfl 3 _ rfl)
    | (go_at_call 10; (with_reducible refine (K2.out _).mono ?_); rintro e w2 ⟨ad2, c2, rfl, sl2, l2⟩; clear sl1 g00a g01a g02a g03a g50a g50b g51a g51b g51c g52a g52b g52c g53a g53b g53c g80a g80b g81a g81b g81c g82a g82b g82c g83a g83b g83c; replace lw := Later.trans_ (Later.trans_ lw l2) (later1 w2 (.cells #[.int .i64 0, .int .i64 0] 26)); replace sl2 := sl2.keep (later1 w2 (.cells #[.int .i64 0, .int .i64 0] 26)); have h03a : (w2.alloc (.cells #[.int .i64 0, .int .i64 0] 26)).cell? ⟨ad2.block, ad2.off + 3, none⟩ = some (.string ⟨#[97, 65, 10]⟩) := Sl.tok sl2 (k := 0) (by decide) rfl 3 _ rfl; have h13a : (w2.alloc (.cells #[.int .i64 0, .int .i64 0] 26)).cell? ⟨ad2.block, ad2.off + 7, none⟩ = some (.string ⟨#[45]⟩) := Sl.tok sl2 (k := 1) (by decide) rfl 3 _ rfl; have h13b : (w2.alloc (.cells #[.int .i64 0, .int .i64 0] 26)).cell? ⟨ad2.block, ad2.off + 4 + 3, none⟩ = some (.string ⟨#[45]⟩) := Sl.tok sl2 (k := 1) (by decide) rfl 3 _ rfl; have h13c : (w2.alloc (.cells #[.int .i64 0, .int .i64 0] 26)).cell? (ad2.add 7) = some (.string ⟨#[45]⟩) := Sl.tok sl2 (k := 1) (by decide) rfl 3 _ rfl; have h22a : (w2.alloc (.cells #[.int .i64 0, .int .i64 0] 26)).cell? ⟨ad2.block, ad2.off + 10, none⟩ = some (.int .i64 5) := Sl.tok sl2 (k := 2) (by decide) rfl 2 _ rfl; have h22b : (w2.alloc (.cells #[.int .i64 0, .int .i64 0] 26)).cell? ⟨ad2.block, ad2.off + 8 + 2, none⟩ = some (.int .i64 5) := Sl.tok sl2 (k := 2) (by decide) rfl 2 _ rfl; have h22c : (w2.alloc (.cells #[.int .i64 0, .int .i64 0] 26)).cell? (ad2.add 10) = some (.int .i64 5) := Sl.tok sl2 (k := 2) (by decide) rfl 2 _ rfl; have h30a : (w2.alloc (.cells #[.int .i64 0, .int .i64 0] 26)).cell? ⟨ad2.block, ad2.off + 12, none⟩ = some (.int .i64 5) := Sl.tok sl2 (k := 3) (by decide) rfl 0 _ rfl; have h30b : (w2.alloc (.cells #[.int .i64 0, .int .i64 0] 26)).cell? (ad2.add 12) = some (.int .i64 5) := Sl.tok sl2 (k := 3) (by decide) rfl 0 _ rfl))
  have b92 := Blk.new (w2.alloc (.cells #[.int .i64 0, .int .i64 0] 26)) 67 #[.string ⟨#[97, 32, 49, 50, 98]⟩, .int .i64 2, .int .i64 71, .string ⟨#[48, 120]⟩, .int .i64 0, .int .i64 71, .string ⟨#[52, 50, 57, 52, 57, 54, 55, 50, 57, 54]⟩, .int .i64 0, .int .i64 71, .string ⟨#[34, 97]⟩, .int .i64 0, .int .i64 72, .string ⟨#[34, 92, 113, 34]⟩, .int .i64 0, .int .i64 72, .string ⟨#[97, 32, 36]⟩, .int .i64 2, .int .i64 70] badL rfl
  replace lw := Later.trans_ lw (later1 _ (.cells #[.string ⟨#[97, 32, 49, 50, 98]⟩, .int .i64 2, .int .i64 71, .string ⟨#[48, 120]⟩, .int .i64 0, .int .i64 71, .string ⟨#[52, 50, 57, 52, 57, 54, 55, 50, 57, 54]⟩, .int .i64 0, .int .i64 71, .string ⟨#[34, 97]⟩, .int .i64 0, .int .i64 72, .string ⟨#[34, 92, 113, 34]⟩, .int .i64 0, .int .i64 72, .string ⟨#[97, 32, 36]⟩, .int .i64 2, .int .i64 70] 67))
  replace sl2 := sl2.keep (later1 _ (.cells #[.string ⟨#[97, 32, 49, 50, 98]⟩, .int .i64 2, .int .i64 71, .string ⟨#[48, 120]⟩, .int .i64 0, .int .i64 71, .string ⟨#[52, 50, 57, 52, 57, 54, 55, 50, 57, 54]⟩, .int .i64 0, .int .i64 71, .string ⟨#[34, 97]⟩, .int .i64 0, .int .i64 72, .string ⟨#[34, 92, 113, 34]⟩, .int .i64 0, .int .i64 72, .string ⟨#[97, 32, 36]⟩, .int .i64 2, .int .i64 70] 67))
  obtain ⟨B, hB⟩ : ∃ B, (w2.alloc (.cells #[.int .i64 0, .int .i64 0] 26)).heap.size = B := ⟨_, rfl⟩
  obtain ⟨w3, hw3⟩ : ∃ x, (w2.alloc (.cells #[.int .i64 0, .int .i64 0] 26)).alloc (.cells #[.string ⟨#[97, 32, 49, 50, 98]⟩, .int .i64 2, .int .i64 71, .string ⟨#[48, 120]⟩, .int .i64 0, .int .i64 71, .string ⟨#[52, 50, 57, 52, 57, 54, 55, 50, 57, 54]⟩, .int .i64 0, .int .i64 71, .string ⟨#[34, 97]⟩, .int .i64 0, .int .i64 72, .string ⟨#[34, 92, 113, 34]⟩, .int .i64 0, .int .i64 72, .string ⟨#[97, 32, 36]⟩, .int .i64 2, .int .i64 70] 67) = x := ⟨_, rfl⟩
  rw [hw3] at b92 lw sl2 ⊢
  rw [hB] at b92
  have hB2 : w2.heap.size + 1 = B := by rw [← hB]; simp
  clear hB
  subst hB2
  have HSL := Lib.hid fun w' (h : Later w3 w') => sl2.keep h
  have HB := Lib.hid fun w' (h : Later w3 w') => b92.keep h
  have LW := Lib.hid fun w' (h : Later w3 w') => Later.trans_ lw h
  clear hw3 b92 sl2 lw hE1 hE2 hE3 K1 K2
  clear h03a h13a h13b h13c h22a h22b h22c h30a h30b
  go_loopw [94] (fun i wr => ∃ k : Nat, k ≤ 6 ∧ i = .int .i64 k ∧ Later w3 wr) (fun i _ => 6 - (intOf i).toNat)
  case atStart => exact ⟨0, by omega, rfl, later0 _⟩
  case round =>
    obtain ⟨k, hk, rfl, hbr⟩ := hrel
    rename_i wr
    by_cases hlt : k < 6
    · have bq := HB.out wr hbr
      have cc := Lib.hid (show ∀ j u, (badC k)[j]? = some u → wr.cell? ((⟨w2.heap.size + 1, 0, none⟩ : Addr).add (k * 3 + j)) = some u from fun j u hu => by
        rw [Addr.add_mid]
        simpa using bq.cell (bad_at k j hlt u hu))
      have HC := Lib.hid fun w' => KB.out k hlt w'
      obtain ⟨xs, hxs⟩ : ∃ x, badS k = x := ⟨_, rfl⟩
      obtain ⟨xp, hxp⟩ : ∃ x, badP k = x := ⟨_, rfl⟩
      obtain ⟨xe, hxe⟩ : ∃ x, badE k = x := ⟨_, rfl⟩
      unfold badC at cc
      have hz := bad_sz k
      unfold badC at hz
      rw [hxs, hxp, hxe] at cc HC hz
      clear hxs hxp hxe bq
      have cc2 := Lib.hid (show ∀ j u, ([.string xs, .int .i64 xp, .int .i64 xe] : List Value)[j]? = some u → wr.cell? ((⟨w2.heap.size + 1, k * 3, none⟩ : Addr).add j) = some u from fun j u hu => by
        rw [← cc.out j u hu]
        unfold Addr.add
        congr 1
        (repeat' split) <;> simp_all <;> omega)
      go_wp2_with (first
        | (refine wpList_load_addr (o := ⟨some 97, .load 67 (.tmp 96), _, _, _, none⟩) rfl _ _ rfl ⟨w2.heap.size + 1, k * 3, none⟩ [.string xs, .int .i64 xp, .int .i64 xe] _ rfl cc2.out Tryd.underlying67 rfl hz ?_)
        | (go_at_call 10; (with_reducible refine (HC.out _).mono ?_); rintro e w5 ⟨A5, c5, rfl, l5⟩; have l6 := Later.trans_ (Later.trans_ (hbr.alloc hbr.size _) l5) (later1 w5 (.cells #[.int .i64 xp, .int .i64 xe] 26)); have b6 := ((Blk.new wr 67 #[.string xs, .int .i64 xp, .int .i64 xe] [.string xs, .int .i64 xp, .int .i64 xe] rfl).keep l5).alloc (.cells #[.int .i64 xp, .int .i64 xe] 26); have c61 := b6.cell (j := 1) (v := .int .i64 xp) rfl; have c62 := b6.cell (j := 2) (v := .int .i64 xe) rfl))
      go_roundw
      case rel => exact ⟨k + 1, by omega, by go_num, l6⟩
      case measure => first | (simp [intOf]; omega) | (simp [intOf]; done) | (simp; omega)
    · have hk6 : k = 6 := by omega
      subst hk6
      go_wp2_with (first
        | (go_at_call 18; refine (KP.out ad2 _ _ (HSL.out _ hbr) (LW.out _ hbr)).mono ?_; rintro e w7 ⟨rfl, l7⟩)
        | (go_at_call 12; refine (KW.out _).mono ?_; rintro e w8 ⟨rfl, hw8⟩; rw [hw8]; clear hw8 w8))
      go_ret
      exact ⟨rfl, Later.trans_ (LW.out _ hbr) l7⟩
end Go.Proofs.YtjopadfkdpcjmaaDoor
