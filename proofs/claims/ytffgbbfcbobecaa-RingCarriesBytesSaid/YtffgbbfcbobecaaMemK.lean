/-
  THE WALK OF the reference's Read.
-/
import Derived.Test.YtffgbbfcbobecaaMemJ
namespace Go.Proofs.Ytffgbbfcbobecaa
open Go.RowKit Go.ChangeShapes Go.WideShapes Go.ChangeAt

theorem bytes2_sz (u v : Value) : (Try.prog.info? 103).map (·.size) = some [u, v].length := by
  show _ = some 2
  kernel_rfl
set_option maxRecDepth 100000 in
set_option maxHeartbeats 1000000 in
theorem rread_none (A : Option Addr) (n c : Nat) (a r : Int) (w : World) (hn : n ≤ 64) (ha : -9223372036854775808 ≤ a ∧ a ≤ 9223372036854775807) (h : ¬ Mm.Inside (n * 128) a r) :
    Calls Try.prog 56 #[.agg #[.slice A n c], .int .i64 a, .int .i64 r] w fun e w' => e = .returned (.agg #[.string ⟨#[]⟩, .bool false]) ∧ Later w w' := by
  have HS := Lib.hid fun w' => rsize_any A n c w' hn
  obtain ⟨L, hL⟩ : ∃ L, L = n * 128 := ⟨_, rfl⟩
  rw [← hL] at HS h
  have hL2 : L ≤ 8192 := by omega
  have hh : a < 0 ∨ (0 ≤ a ∧ r < 0) ∨ (0 ≤ a ∧ 0 ≤ r ∧ (L : Int) < a) ∨ (0 ≤ a ∧ 0 ≤ r ∧ a ≤ L ∧ (L : Int) - a < r) := by unfold Mm.Inside at h; omega
  clear h hL
  have bP := (Blk.new w 24 #[.slice A n c] [.slice A n c] rfl).alloc (.cells #[.string ⟨#[]⟩, .bool false] 103)
  have bR := Blk.new' (w.alloc (.cells #[.slice A n c] 24)) (w.heap.size + 1) 103 #[.string ⟨#[]⟩, .bool false] [.string ⟨#[]⟩, .bool false] (by simp) rfl
  have l0 : Later w ((w.alloc (.cells #[.slice A n c] 24)).alloc (.cells #[.string ⟨#[]⟩, .bool false] 103)) := (later1 w _).alloc (by simp) _
  rcases hh with h1 | ⟨h1, h2⟩ | ⟨h1, h2, h3⟩ | ⟨h1, h2, h3, h4⟩
  · have d1 : decide (a < 0) = true := decide_eq_true h1
    go_enter Try.func56, Try.ntmps56
    go_wp2
    exact bodyPost_ret (results_blk Try.results56 _ _ (w.heap.size + 1) 103 [.string ⟨#[]⟩, .bool false] _ rfl bR Try.underlying103 rfl (bytes2_sz _ _)) rfl ⟨rfl, l0⟩
  · have d1 : decide (a < 0) = false := decide_eq_false (by omega)
    have d2 : decide (r < 0) = true := decide_eq_true h2
    go_enter Try.func56, Try.ntmps56
    go_wp2
    exact bodyPost_ret (results_blk Try.results56 _ _ (w.heap.size + 1) 103 [.string ⟨#[]⟩, .bool false] _ rfl bR Try.underlying103 rfl (bytes2_sz _ _)) rfl ⟨rfl, l0⟩
  · have d1 : decide (a < 0) = false := decide_eq_false (by omega)
    have d2 : decide (r < 0) = false := decide_eq_false (by omega)
    have d3 : decide ((L : Int) < a) = true := decide_eq_true h3
    go_enter Try.func56, Try.ntmps56
    go_wp2_with (first
      | (go_at_call 39; refine (HS.out _).mono ?_; rintro e w1 ⟨rfl, l1⟩; replace bP := bP.keep l1; have p0 := bP.cell (j := 0) (v := .slice A n c) rfl; replace bR := bR.keep l1; have c0 := bR.cell (j := 0) (v := .string ⟨#[]⟩) rfl; have c1 := bR.cell (j := 1) (v := .bool false) rfl; have f0 := bR.frz 0; have f1 := bR.frz 1))
    exact bodyPost_ret (results_blk Try.results56 _ _ (w.heap.size + 1) 103 [.string ⟨#[]⟩, .bool false] _ rfl ((bR.set 0 _).set 1 _) Try.underlying103 rfl (bytes2_sz _ _)) rfl ⟨rfl, ((Later.trans_ l0 l1).setCell (by simp) _).setCell (by simp) _⟩
  · have d1 : decide (a < 0) = false := decide_eq_false (by omega)
    have d2 : decide (r < 0) = false := decide_eq_false (by omega)
    have d3 : decide ((L : Int) < a) = false := decide_eq_false (by omega)
    go_enter Try.func56, Try.ntmps56
    go_wp2_with (first
      | (go_at_call 39; refine (HS.out w1).mono ?_; rintro e w2 ⟨rfl, l2⟩; clear c0 c1 f0 f1; replace bR := bR.keep l2; have c0 := bR.cell (j := 0) (v := .string ⟨#[]⟩) rfl; have c1 := bR.cell (j := 1) (v := .bool false) rfl; have f0 := bR.frz 0; have f1 := bR.frz 1)
      | (go_at_call 39; refine (HS.out _).mono ?_; rintro e w1 ⟨rfl, l1⟩; replace bP := bP.keep l1; have p0 := bP.cell (j := 0) (v := .slice A n c) rfl; replace bR := bR.keep l1; have c0 := bR.cell (j := 0) (v := .string ⟨#[]⟩) rfl; have c1 := bR.cell (j := 1) (v := .bool false) rfl; have f0 := bR.frz 0; have f1 := bR.frz 1))
    exact bodyPost_ret (results_blk Try.results56 _ _ (w.heap.size + 1) 103 [.string ⟨#[]⟩, .bool false] _ rfl ((bR.set 0 _).set 1 _) Try.underlying103 rfl (bytes2_sz _ _)) rfl ⟨rfl, ((Later.trans_ (Later.trans_ l0 l1) l2).setCell (by simp) _).setCell (by simp) _⟩

theorem own_app {w : World} {B : Nat} {e : TypeId} {v : Value} {a b : Wm.Bs} {n : Nat} (h : w.ownsRow B e 1 v (a.length + n) (U a ++ U b)) (hn : n = b.length) : w.ownsRow B e 1 v (a ++ b).length (U (a ++ b)) := by
  rw [List.length_append, U_append, ← hn]; exact h
theorem take_snoc (X : Wm.Bs) (k : Nat) (h : k < X.length) : X.take (k + 1) = X.take k ++ [X.getD k 0] := by
  rw [List.take_succ_eq_append_getElem h, List.getD_eq_getElem?_getD, List.getElem?_eq_getElem h]
  rfl
set_option maxRecDepth 100000 in
set_option maxHeartbeats 2000000 in
theorem rread_in (A : Option Addr) (n c a r : Nat) (b : Wm.Bs) (w : World) (hs : Sl w 128 A n (U b)) (hn : n ≤ 64) (h : Mm.Inside (n * 128) (a : Int) (r : Int)) :
    Calls Try.prog 56 #[.agg #[.slice A n c], .int .i64 (a : Int), .int .i64 (r : Int)] w fun e w' => e = .returned (.agg #[.string (strOfNums ((b.drop a).take r)), .bool true]) ∧ Later w w' := by
  obtain ⟨i0, hi, hz0, hz1, hz2⟩ := info_parts u8_info
  have HS := Lib.hid fun w' => rsize_any A n c w' hn
  obtain ⟨h1, h2, h3⟩ := h
  have har : a + r ≤ n * 128 := by omega
  have hbl : b.length = n * 128 := by have := hs.1; rwa [U_length] at this
  obtain ⟨X, hX⟩ : ∃ X, X = (b.drop a).take r := ⟨_, rfl⟩
  have hXl : X.length = r := by rw [hX, List.length_take, List.length_drop]; omega
  have HB := Lib.hid fun (k : Nat) (hk : k < r) (w' : World) (hl : Later w w') => by
    have h1 := byte_any A n c (a + k) b w' (hs.keep hl) hn (by omega)
    rw [← part_getD b a r k hk, ← hX, Int.natCast_add] at h1
    exact h1
  rw [← hX]
  have HX := Lib.hid hXl
  have hr8 : a + r ≤ 8192 := by omega
  obtain ⟨L, hL⟩ : ∃ L, L = n * 128 := ⟨_, rfl⟩
  rw [← hL] at HS
  have hL2 : L ≤ 8192 := by omega
  have d1 : decide ((a : Int) < 0) = false := decide_eq_false (by omega)
  have d2 : decide ((r : Int) < 0) = false := decide_eq_false (by omega)
  have d3 : decide (L < a) = false := decide_eq_false (by omega)
  have d4 : (r : Int) ≤ (L : Int) - a := by omega
  have d5 : decide ((L : Int) - a < r) = false := decide_eq_false (by omega)
  have bP := (Blk.new w 24 #[.slice A n c] [.slice A n c] rfl).alloc (.cells #[.string ⟨#[]⟩, .bool false] 103)
  have bR := Blk.new' (w.alloc (.cells #[.slice A n c] 24)) (w.heap.size + 1) 103 #[.string ⟨#[]⟩, .bool false] [.string ⟨#[]⟩, .bool false] (by simp) rfl
  have l0 : Later w ((w.alloc (.cells #[.slice A n c] 24)).alloc (.cells #[.string ⟨#[]⟩, .bool false] 103)) := (later1 w _).alloc (by simp) _
  clear hX hXl h1 h2 h3 hbl hs har hL
  go_enter Try.func56, Try.ntmps56
  go_wp2_with (first
    | (go_at_call 39; refine (HS.out w1).mono ?_; rintro e w2 ⟨rfl, l2⟩; replace bP := bP.keep l2; replace bR := bR.keep l2; clear p0)
    | (go_at_call 39; refine (HS.out _).mono ?_; rintro e w1 ⟨rfl, l1⟩; replace bP := bP.keep l1; have p0 := bP.cell (j := 0) (v := .slice A n c) rfl; replace bR := bR.keep l1))
  have l3 : Later w w2 := Later.trans_ (Later.trans_ l0 l1) l2
  clear d1 d2 d3 d4 d5 l0 l1 l2
  go_loopw [7, 8] (fun v i wr => ∃ k : Nat, k ≤ r ∧ i = .int .i64 (k : Int) ∧ wr.ownsRow (w.heap.size + 2) 5 1 v (X.take k).length (U (X.take k)) ∧ w.heap.size + 2 ≤ wr.heap.size ∧ Blk wr w.heap.size 24 [.slice A n c] ∧ Blk wr (w.heap.size + 1) 103 [.string ⟨#[]⟩, .bool false] ∧ Later w wr) (fun _ i _ => r - (intOf i).toNat)
  case atStart => exact ⟨0, Nat.zero_le _, rfl, World.ownsRow_nil _ _ _ _, by have := bR.lt; omega, bP, bR, l3⟩
  case round =>
    clear bP bR l3
    rename_i wr
    obtain ⟨k, hk, rfl, hor, hz, bP, bR, lr⟩ := hrel
    by_cases hkr : k < r
    · have p0 := bP.cell (j := 0) (v := .slice A n c) rfl
      have hsn := take_snoc X k (by rw [HX.out]; exact hkr)
      have HBk := Lib.hid fun w' (hl : Later w w') => HB.out k hkr w' hl
      obtain ⟨x, hx⟩ : ∃ x, x = X.getD k 0 := ⟨_, rfl⟩
      rw [← hx] at hsn HBk
      have HN := Lib.hid hsn
      have hlk : (X.take k).length ≤ 8192 := by rw [List.length_take]; omega
      have kr : (k : Int) < (r : Int) := by omega
      clear hsn hx
      go_wp2_with (first
        | (go_at_call 75; refine (HBk.out _ lr).mono ?_; rintro e w3 ⟨rfl, l3⟩; replace bP := bP.keep l3; replace bR := bR.keep l3; replace hor := own_below hor l3; replace lr := Later.trans_ lr l3; replace hz := Nat.le_trans hz l3.size; clear p0 l3)
        | (at_builtin; refine wpList_append_own _ rfl _ _ 94 rfl (w.heap.size + 2) 5 i0 (.int .u8 0) 1 1 Try.underlying94 hi hz0 hz1 hz2 rfl (by decide) _ _ _ rfl (hor.alloc _) ⟨w3.heap.size, 0, none⟩ 1 1 [.int .u8 _] rfl rfl (cell_one_new _ _ _) (one_int _ _) (by unfold maxLen; omega) (by omega) (by simp; omega) ?_; intro v' w4 hown' hgrow _))
      all_goals
        have hb2 : Below (w.heap.size + 2) (w3.alloc (.cells #[.int .u8 x] 5)) w4 := (Below.refl _ _).grown hgrow (by simp; omega) (fun j hj => (hor.lt j hj).1)
        have hb1 : Later w w4 := (lr.alloc (by omega) _).grown hgrow (by simp; omega) (fun j hj => by have := (hor.lt j hj).1; omega)
        have ho2 := own_app (b := [x]) (n := 1) hown' rfl
        rw [← HN.out] at ho2
        replace bP := (bP.alloc (.cells #[.int .u8 x] 5)).later hb2 (by omega)
        replace bR := (bR.alloc (.cells #[.int .u8 x] 5)).later hb2 (by omega)
        have hz4 : w.heap.size + 2 ≤ w4.heap.size := Nat.le_trans (by simp; omega) hb2.size
        clear hown' hgrow hor hb2
        go_wp2
        go_roundw
        case rel => exact ⟨k + 1, by omega, by go_num, ho2, hz4, bP, bR, hb1⟩
        case measure => simp [intOf]; omega
    · obtain rfl : k = r := by omega
      rw [List.take_of_length_le (by rw [HX.out]; exact Nat.le_refl _)] at hor
      obtain ⟨A', c', rfl, o1, o2, o3, _⟩ := own_form hor
      have hcv := run_str (P := Try.prog) 94 9 5 Try.underlying94 Try.underlying5 Try.underlying9 o3 c'
      have c0 := bR.cell (j := 0) (v := .string ⟨#[]⟩) rfl
      have c1 := bR.cell (j := 1) (v := .bool false) rfl
      have f0 := bR.frz 0
      have f1 := bR.frz 1
      have nkk : ¬ (k : Int) < (k : Int) := by omega
      clear hor o3
      go_wp2
      exact bodyPost_ret (results_blk Try.results56 _ _ (w.heap.size + 1) 103 [.string (strOfNums X), .bool true] _ rfl ((bR.set 0 _).set 1 _) Try.underlying103 rfl (bytes2_sz _ _)) rfl ⟨rfl, (lr.setCell (by simp) _).setCell (by simp) _⟩
theorem rread_any (A : Option Addr) (n c : Nat) (a r : Int) (b : Wm.Bs) (w : World) (hs : Sl w 128 A n (U b)) (hn : n ≤ 64) (ha : -9223372036854775808 ≤ a ∧ a ≤ 9223372036854775807) :
    Calls Try.prog 56 #[.agg #[.slice A n c], .int .i64 a, .int .i64 r] w fun e w' => e = .returned (.agg #[.string (strOfNums (Mm.rd b a r)), .bool (decide (Mm.Inside (n * 128) a r))]) ∧ Later w w' := by
  have hbl : b.length = n * 128 := by have := hs.1; rwa [U_length] at this
  unfold Mm.rd
  rw [hbl]
  by_cases h : Mm.Inside (n * 128) a r
  · rw [if_pos h, decide_eq_true h]
    obtain ⟨a', rfl⟩ := Int.eq_ofNat_of_zero_le h.1
    obtain ⟨r', rfl⟩ := Int.eq_ofNat_of_zero_le h.2.1
    exact rread_in A n c a' r' b w hs hn h
  · rw [if_neg h, decide_eq_false h]
    exact rread_none _ n c a r w hn ha h
end Go.Proofs.Ytffgbbfcbobecaa
