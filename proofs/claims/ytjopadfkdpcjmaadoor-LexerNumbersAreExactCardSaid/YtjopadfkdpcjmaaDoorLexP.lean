/-
  THE WALKS OF Place, lexer's and the reference's; few.
-/
import Derived.Test.YtjopadfkdpcjmaaDoorLexG
import Derived.Lib.LastIndexByte
namespace Go.Proofs.YtjopadfkdpcjmaaDoor
open Go.RowKit Go.ChangeShapes Go.WideShapes Go.ChangeAt

/-- The line and the column behind so many bytes. -/
def where_ : Lx.Str → Nat × Nat → Nat × Nat
  | [], p => p
  | c :: r, p => where_ r (if c = 10 then (p.1 + 1, 1) else (p.1, p.2 + 1))
theorem where_app (a b : Lx.Str) (p : Nat × Nat) : where_ (a ++ b) p = where_ b (where_ a p) := by
  induction a generalizing p with
  | nil => rfl
  | cons c r ih => rw [List.cons_append, where_, ih]; rfl
theorem where_line : ∀ (l : Lx.Str) (p : Nat × Nat), (where_ l p).1 = p.1 + l.count 10
  | [], p => by simp [where_]
  | c :: r, p => by
    rw [where_, where_line r]
    by_cases h : c = 10
    · subst h; rw [if_pos rfl, List.count_cons_self]; simp only; omega
    · rw [if_neg h, List.count_cons_of_ne (fun e => h e)]
/-- The bytes behind the last line feed. -/
def tail10 (l : Lx.Str) : Nat := (where_ l (1, 1)).2
theorem where_col (l : Lx.Str) (j : Nat) (hj : j < l.length) (hc : l[j] = 10) (hn : ∀ k (hk : k < l.length), j < k → l[k] ≠ 10) : (where_ l (1, 1)).2 = l.length - j := by
  have key : ∀ (r : Lx.Str) (p : Nat × Nat), (∀ c ∈ r, c ≠ 10) → (where_ r p).2 = p.2 + r.length := by
    intro r
    induction r with
    | nil => intro p _; rfl
    | cons c r ih =>
      intro p h
      rw [where_, if_neg (h c List.mem_cons_self), ih _ (fun x hx => h x (List.mem_cons_of_mem _ hx)), List.length_cons]
      simp only
      omega
  have hs : l = l.take j ++ (10 :: l.drop (j + 1)) := by
    rw [← hc, ← List.drop_eq_getElem_cons hj, List.take_append_drop]
  rw [hs, where_app, where_, if_pos rfl, key]
  · simp
    omega
  · intro c hcm
    obtain ⟨i, hi, rfl⟩ := List.mem_iff_getElem.1 hcm
    rw [List.getElem_drop]
    rw [List.length_drop] at hi
    exact hn (j + 1 + i) (by omega) (by omega)
theorem where_col0 (l : Lx.Str) (hn : ∀ k (hk : k < l.length), l[k] ≠ 10) : (where_ l (1, 1)).2 = l.length + 1 := by
  have key : ∀ (r : Lx.Str) (p : Nat × Nat), (∀ c ∈ r, c ≠ 10) → (where_ r p).2 = p.2 + r.length := by
    intro r
    induction r with
    | nil => intro p _; rfl
    | cons c r ih =>
      intro p h
      rw [where_, if_neg (h c List.mem_cons_self), ih _ (fun x hx => h x (List.mem_cons_of_mem _ hx)), List.length_cons]
      simp only
      omega
  rw [key]
  · simp only; omega
  · intro c hcm
    obtain ⟨i, hi, rfl⟩ := List.mem_iff_getElem.1 hcm
    exact hn i hi
/-- Where the place at_ of l is. -/
def placeOf (l : Lx.Str) (a : Int) : Nat × Nat := if 0 ≤ a ∧ a ≤ l.length then where_ (l.take a.toNat) (1, 1) else (0, 0)
theorem data_bang (s : ByteArray) (j : Nat) (h : j < s.size) : s.data[j]! = (L s)[j]'(by rw [L_len]; exact h) := by
  have h2 : j < s.data.size := h
  rw [getElem!_pos s.data j h2]
  rfl
theorem last_col (s : ByteArray) : (s.size : Int) - Lib.lastIndexByte s 10 = ((where_ (L s) (1, 1)).2 : Nat) := by
  have hlen := L_len s
  unfold Lib.lastIndexByte
  rcases Lib.lastIdx_spec s 10 s.size with ⟨e, hn⟩ | ⟨i, hi, e, hc, hn⟩
  · rw [e, where_col0 (L s)]
    · omega
    · intro k hk h
      apply hn k (by omega)
      rw [data_bang s k (by omega), h]
      rfl
  · rw [e, where_col (L s) i (by omega)]
    · omega
    · rw [data_bang s i hi] at hc
      exact UInt8.toNat_inj.1 (by show _ = 10; omega)
    · intro k hk hik h
      apply hn k hik (by omega)
      rw [data_bang s k (by omega), h]
      rfl

set_option maxRecDepth 100000 in
set_option maxHeartbeats 1000000 in
theorem place_any (s : ByteArray) (a : Int) (w : World) (hs : s.size ≤ 1000000) (ha : -9223372036854775808 ≤ a ∧ a ≤ 9223372036854775807) : Calls Tryd.prog 12 #[.string s, .int .i64 a] w fun e w' => e = .returned (.tuple #[.int .i64 (placeOf (L s) a).1, .int .i64 (placeOf (L s) a).2]) ∧ w' = w := by
  have hlen := L_len s
  unfold placeOf
  by_cases h0 : 0 ≤ a
  · have d0 : decide (a < 0) = false := decide_eq_false (by omega)
    by_cases h1 : a ≤ s.size
    · have d1 : decide ((s.size : Int) < a) = false := decide_eq_false (by omega)
      rw [if_pos ⟨h0, by rw [hlen]; exact h1⟩]
      obtain ⟨k, rfl⟩ := Int.eq_ofNat_of_zero_le h0
      rw [Int.toNat_natCast]
      have ht : L (s.extract 0 k) = (L s).take k := L_take s k
      have hts : (s.extract 0 k).size = k := by rw [← L_len, ht, List.length_take]; omega
      have HC := Lib.hid fun w' => by
        have h := Tryd.strings_Count_one (s.extract 0 k) 10 w'
        rw [show (s.extract 0 k).data.toList = (L s).take k from ht] at h
        exact h
      have HX := Lib.hid fun w' => Tryd.strings_LastIndexByte (s.extract 0 k) 10 (by omega) w'
      have hcol := last_col (s.extract 0 k)
      rw [hts, ht] at hcol
      have hline := where_line ((L s).take k) (1, 1)
      obtain ⟨W, hW⟩ : ∃ W, where_ ((L s).take k) (1, 1) = W := ⟨_, rfl⟩
      rw [hW] at hcol hline ⊢
      obtain ⟨x, hx⟩ : ∃ x, Lib.lastIndexByte (s.extract 0 k) 10 = x := ⟨_, rfl⟩
      rw [hx] at HX hcol
      have hcb : Lib.countByte ((L s).take k) 10 ≤ k := by
        unfold Lib.countByte
        have := List.count_le_length (a := (10 : UInt8)) (l := (L s).take k)
        rw [List.length_take] at this
        omega
      obtain ⟨y, hy⟩ : ∃ y, Lib.countByte ((L s).take k) 10 = y := ⟨_, rfl⟩
      rw [show List.count 10 ((L s).take k) = y from hy] at hline
      rw [hy] at HC hcb
      have HL := Lib.hid hline
      have HCo := Lib.hid hcol
      have hx1 : -1 ≤ x ∧ x ≤ k := by
        have h1 : 0 ≤ ((W.2 : Nat) : Int) := by omega
        rw [← hx]
        unfold Lib.lastIndexByte
        rcases Lib.lastIdx_spec (s.extract 0 k) 10 (s.extract 0 k).size with ⟨e, _⟩ | ⟨i, hi, e, _⟩
        · rw [e]; omega
        · rw [e]; omega
      clear hline hcol hx hy hW ht
      go_enter Tryd.func12, Tryd.ntmps12
      go_wp2_with (first
        | (go_at_call 30; refine (HC.out _).mono ?_; rintro e w' ⟨rfl, rfl⟩)
        | (go_at_call 31; refine (HX.out _).mono ?_; rintro e w' ⟨rfl, rfl⟩))
      go_ret2
      refine ⟨ret_two ?_ ?_, rfl⟩
      · rw [HL.out]
        show (1 : Int) + y = ((1 + y : Nat) : Int)
        omega
      · exact HCo.out
    · have d1 : decide ((s.size : Int) < a) = true := decide_eq_true (by omega)
      rw [if_neg (fun h => h1 (by rw [← hlen]; exact h.2))]
      go_enter Tryd.func12, Tryd.ntmps12
      go_wp2
      go_ret2
      exact ⟨rfl, rfl⟩
  · have d0 : decide (a < 0) = true := decide_eq_true (by omega)
    rw [if_neg (fun h => h0 h.1)]
    go_enter Tryd.func12, Tryd.ntmps12
    go_wp2
    go_ret2
    exact ⟨rfl, rfl⟩

def Wh (p : Nat × Nat) : List Value := [.int .i64 p.1, .int .i64 p.2]
theorem wh_sz (p : Nat × Nat) : (Tryd.prog.info? 35).map (·.size) = some (Wh p).length := by kernel_rfl
theorem wh_one (p : Nat × Nat) : ∀ v ∈ Wh p, v.oneCell' = true := by
  intro v hv
  simp only [Wh, List.mem_cons, List.not_mem_nil, or_false] at hv
  rcases hv with rfl | rfl <;> rfl
theorem where_bound : ∀ (l : Lx.Str) (p : Nat × Nat), (where_ l p).1 ≤ p.1 + l.length ∧ (where_ l p).2 ≤ p.2 + l.length + 1
  | [], p => by unfold where_; simp only [List.length_nil]; omega
  | c :: r, p => by
    have h := where_bound r (if c = 10 then (p.1 + 1, 1) else (p.1, p.2 + 1))
    rw [where_, List.length_cons]
    split at h <;> rename_i hc <;> simp [hc] at h ⊢ <;> omega

set_option maxRecDepth 100000 in
set_option maxHeartbeats 2000000 in
theorem rplace_any (s : ByteArray) (a : Int) (w : World) (hs : s.size ≤ 1000000) (ha : -9223372036854775808 ≤ a ∧ a ≤ 9223372036854775807) : Calls Tryd.prog 13 #[.string s, .int .i64 a] w fun e w' => e = .returned (.agg (Wh (placeOf (L s) a)).toArray) ∧ Later w w' := by
  have hlen := L_len s
  unfold placeOf
  by_cases h0 : 0 ≤ a
  · have d0 : decide (a < 0) = false := decide_eq_false (by omega)
    by_cases h1 : a ≤ s.size
    · have d1 : decide ((s.size : Int) < a) = false := decide_eq_false (by omega)
      rw [if_pos ⟨h0, by rw [hlen]; exact h1⟩]
      obtain ⟨k, rfl⟩ := Int.eq_ofNat_of_zero_le h0
      rw [Int.toNat_natCast]
      obtain ⟨R, hR⟩ : ∃ R, where_ ((L s).take k) (1, 1) = R := ⟨_, rfl⟩
      rw [hR]
      have HR := Lib.hid hR
      clear hR
      go_enter Tryd.func13, Tryd.ntmps13
      go_wp2
      have HKS := Lib.hid (show k ≤ s.size by omega)
      obtain ⟨bb, hbb⟩ : ∃ bb, bb = decide (s.size < k) := ⟨_, rfl⟩
      rw [← hbb]
      clear d1 d0 h1 hbb
      obtain ⟨B, hB⟩ : ∃ B, w.heap.size + 1 = B := ⟨_, rfl⟩
      obtain ⟨w2, hw2⟩ : ∃ x, (w.alloc (.cells #[.int .i64 0, .int .i64 0] 35)).alloc (.cells #[.int .i64 1, .int .i64 1] 35) = x := ⟨_, rfl⟩
      have b0 : Blk w2 w.heap.size 35 (Wh (0, 0)) := hw2 ▸ (Blk.new w _ _ (Wh (0, 0)) rfl).alloc _
      have b1 : Blk w2 B 35 (Wh (1, 1)) := hw2 ▸ Blk.new' _ B _ _ (Wh (1, 1)) (by simp; omega) rfl
      have lw : Later w w2 := hw2 ▸ (later1 w _).alloc (by simp) _
      rw [hw2, hB]
      have hBw : w.heap.size < B := by omega
      clear hw2 hB
      go_loopw [6] (fun i wr => ∃ j : Nat, i = .int .i64 j ∧ j ≤ k ∧ Blk wr B 35 (Wh (where_ ((L s).take j) (1, 1))) ∧ Blk wr w.heap.size 35 (Wh (0, 0)) ∧ Later w wr) (fun i _ => k - (intOf i).toNat)
      case atStart => exact ⟨0, rfl, Nat.zero_le _, b1, b0, lw⟩
      case round =>
        obtain ⟨j, rfl, hj, c1, c0, hbr⟩ := hrel
        rename_i wr
        clear b0 b1
        by_cases hlt : j < k
        · have hjs : j < s.size := by have := HKS.out; omega
          obtain ⟨c, hc⟩ : ∃ c, s[j]'hjs = c := ⟨_, rfl⟩
          have hcl : (L s)[j]'(by omega) = c := by rw [← L_get s j hjs, hc]
          have hst : where_ ((L s).take (j + 1)) (1, 1) = (if c = 10 then ((where_ ((L s).take j) (1, 1)).1 + 1, 1) else ((where_ ((L s).take j) (1, 1)).1, (where_ ((L s).take j) (1, 1)).2 + 1)) := by
            rw [List.take_succ_eq_append_getElem (by omega), where_app, hcl]
            rfl
          have hbd := where_bound ((L s).take j) (1, 1)
          rw [List.length_take] at hbd
          obtain ⟨x, y, hxy⟩ : ∃ x y, where_ ((L s).take j) (1, 1) = (x, y) := ⟨_, _, rfl⟩
          rw [hxy] at c1 hst hbd
          simp only at hst hbd
          have HS := Lib.hid hst
          clear hst hxy hcl
          have e0 := c1.cell (j := 0) (v := .int .i64 x) rfl
          have e1 := c1.cell (j := 1) (v := .int .i64 y) rfl
          have f1 := c1.frz 1
          have c2 := c1.set 1 (.int .i64 ((y : Int) + 1))
          have o2 := Only.set wr B 1 (.int .i64 ((y : Int) + 1))
          by_cases h10 : c = 10
          · have b10 := ceqT (k := 10) h10 rfl
            have hS2 := HS.out
            rw [if_pos h10] at hS2
            have HS2 := Lib.hid hS2
            clear hS2 HS h10
            go_wp2_with (refine wpList_store_abs (o := ⟨none, .store 35 (.tmp 5) (.tmp 33), _, _, _, none⟩) rfl _ _ _ rfl B 35 _ (Wh (x + 1, 1)) rfl rfl c2 (wh_sz _) rfl (wh_one _) ?_; intro w3 y1 y2)
            go_roundw
            case rel => exact ⟨j + 1, by go_num, by omega, by rw [HS2.out]; exact y1, (c0.only o2 (by omega)).only y2 (by omega), Below.only (Below.only hbr o2 (by omega)) y2 (by omega)⟩
            case measure => simp [intOf]; omega
          · have b10 := ceqF (k := 10) h10 rfl
            have hS2 := HS.out
            rw [if_neg h10] at hS2
            have HS2 := Lib.hid hS2
            clear hS2 HS h10
            go_wp2
            go_roundw
            case rel => exact ⟨j + 1, by go_num, by omega, by rw [HS2.out]; exact c2, c0.only o2 (by omega), Below.only hbr o2 (by omega)⟩
            case measure => simp [intOf]; omega
        · obtain rfl : j = k := by omega
          rw [HR.out] at c1
          obtain ⟨x, y⟩ := R
          go_wp2_with (first
            | (refine wpList_load_blk (o := ⟨some 34, .load 35 (.tmp 5), _, _, _, none⟩) rfl _ _ rfl B 35 (Wh (x, y)) _ rfl c1 Tryd.underlying35 rfl (wh_sz _) ?_)
            | (refine wpList_store_abs (o := ⟨none, .store 35 (.tmp 4) (.tmp 34), _, _, _, none⟩) rfl _ _ _ rfl w.heap.size 35 _ (Wh (x, y)) rfl rfl c0 (wh_sz _) rfl (wh_one _) ?_; intro w3 y1 y2))
          exact bodyPost_ret (v := .agg (Wh (x, y)).toArray) (results_blk Tryd.results13 _ _ w.heap.size 35 (Wh (x, y)) _ rfl y1 Tryd.underlying35 rfl (wh_sz _)) rfl ⟨rfl, Below.only hbr y2 (Nat.le_refl _)⟩
    · have d1 : decide ((s.size : Int) < a) = true := decide_eq_true (by omega)
      rw [if_neg (fun h => h1 (by rw [← hlen]; exact h.2))]
      go_enter Tryd.func13, Tryd.ntmps13
      go_wp2
      exact bodyPost_ret (v := .agg (Wh (0, 0)).toArray) (results_blk Tryd.results13 _ _ w.heap.size 35 (Wh (0, 0)) _ rfl (Blk.new w _ _ _ rfl) Tryd.underlying35 rfl (wh_sz _)) rfl ⟨rfl, later1 _ _⟩
  · have d0 : decide (a < 0) = true := decide_eq_true (by omega)
    rw [if_neg (fun h => h0 h.1)]
    go_enter Tryd.func13, Tryd.ntmps13
    go_wp2
    exact bodyPost_ret (v := .agg (Wh (0, 0)).toArray) (results_blk Tryd.results13 _ _ w.heap.size 35 (Wh (0, 0)) _ rfl (Blk.new w _ _ _ rfl) Tryd.underlying35 rfl (wh_sz _)) rfl ⟨rfl, later1 _ _⟩
end Go.Proofs.YtjopadfkdpcjmaaDoor
