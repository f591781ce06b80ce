/-
  THE STATEMENT LexerIsLocal: two sources joined by the end of a line have the tokens of the first one, the end of the line, and those of the second one, moved; an error of the first one, and otherwise of the second one, is the error of both.
-/
import Derived.Test.YtnoajpcgegocdaaDoorLexU
import Derived.Test.YtnoajpcgegocdaaDoorLexV
namespace Go.Proofs.YtnoajpcgegocdaaDoor
open Go.RowKit Go.ChangeShapes Go.WideShapes Go.ChangeAt

theorem toksF_ats : ∀ (f p : Nat) (l : Lx.Str), ∀ t ∈ (Lx.toksF f p l).1, (0 : Int) ≤ t.at_ ∧ t.at_ ≤ ((p + l.length : Nat) : Int) := by
  intro f
  induction f with
  | zero => intro p l t ht; cases ht
  | succ f ih =>
    intro p l
    cases l with
    | nil => intro t ht; cases ht
    | cons c r =>
      unfold Lx.toksF
      rw [List.length_cons]
      split
      · intro t ht; have := ih (p + 1) r t ht; omega
      split
      · intro t ht
        have := ih (p + (Lx.rest r + 1)) (r.drop (Lx.rest r)) t ht
        have hr := Lx.rest_le r
        rw [List.length_drop] at this
        omega
      split
      · rename_i h0
        have hk := Lx.tok1_ok c r
        rw [List.length_cons] at hk
        have h2 := ih (p + (Lx.tok1 (c :: r)).2.1) (r.drop ((Lx.tok1 (c :: r)).2.1 - 1))
        rw [List.length_drop] at h2
        unfold Lx.cat
        split
        · intro t ht
          rcases List.mem_append.1 ht with h | h
          · rw [List.mem_singleton] at h
            subst h
            simp only
            omega
          · have := h2 t h
            rcases hk with hk | hk <;> omega
        · intro t ht; cases ht
      · intro t ht; cases ht
theorem Tokens_ats (l : Lx.Str) (hl : l.length ≤ 16384) : ∀ t ∈ (Lx.Tokens l).1, (0 : Int) ≤ t.at_ ∧ t.at_ ≤ (l.length : Int) := by
  unfold Lx.Tokens
  rw [if_pos hl]
  intro t ht
  have := toksF_ats _ _ _ t ht
  omega
theorem toksF_few : ∀ (f p : Nat) (l : Lx.Str), (Lx.toksF f p l).1.length ≤ l.length := by
  intro f
  induction f with
  | zero => intro p l; exact Nat.zero_le _
  | succ f ih =>
    intro p l
    cases l with
    | nil => exact Nat.zero_le _
    | cons c r =>
      unfold Lx.toksF
      rw [List.length_cons]
      split
      · have := ih (p + 1) r; omega
      split
      · have := ih (p + (Lx.rest r + 1)) (r.drop (Lx.rest r)); rw [List.length_drop] at this; omega
      split
      · have := ih (p + (Lx.tok1 (c :: r)).2.1) (r.drop ((Lx.tok1 (c :: r)).2.1 - 1))
        rw [List.length_drop] at this
        unfold Lx.cat
        split
        · rw [List.length_append, List.length_singleton]; omega
        · exact Nat.zero_le _
      · exact Nat.zero_le _
theorem Tokens_few (l : Lx.Str) : (Lx.Tokens l).1.length ≤ l.length := by
  unfold Lx.Tokens
  split
  · exact toksF_few _ _ _
  · exact Nat.zero_le _
/-- The tokens of two sources, joined. -/
theorem Tokens_short (a : Lx.Str) (ha : a.length ≤ 16384) : Lx.Tokens a = Lx.toks 0 a := by
  unfold Lx.Tokens
  rw [if_pos ha]
theorem Tokens_local (a b : Lx.Str) (ha : a.length ≤ 1500) (hb : b.length ≤ 1500) : Lx.Tokens ((a ++ [10]) ++ b) =
    if (Lx.Tokens a).2.2 = 0 then (if (Lx.Tokens b).2.2 = 0 then ((Lx.Tokens a).1 ++ [⟨5, (a.length : Int), 0, []⟩] ++ (Lx.Tokens b).1.map (Lx.shift (a.length + 1)), 0, 0) else ([], (Lx.Tokens b).2.1 + (a.length + 1), (Lx.Tokens b).2.2)) else ([], (Lx.Tokens a).2.1, (Lx.Tokens a).2.2) := by
  rw [Tokens_short a (by omega), Tokens_short b (by omega), Tokens_short _ (by simp; omega), List.append_assoc, show [10] ++ b = 10 :: b from rfl, Lx.toks_lf a.length 0 a b (Nat.le_refl _)]
  split
  · rename_i h
    rw [show 0 + a.length + 1 = 0 + (a.length + 1) by omega, Lx.toks_shift (a.length + 1) b.length 0 b (Nat.le_refl _), Nat.zero_add]
    unfold Lx.cat
    simp only
    by_cases h2 : (Lx.toks 0 b).2.2 = 0
    · rw [if_pos h2, if_pos h2]
    · rw [if_neg h2, if_neg h2, if_neg h2]
  · rename_i h
    exact Prod.ext ((Lx.toks_form a.length 0 a (Nat.le_refl _)).1 h) rfl
theorem L_join (x y : ByteArray) : L (x ++ y) = L x ++ L y := by
  unfold L
  simp

theorem run_append_zero {P : Program} (w : World) (base : Nat) (t ty e : TypeId) (i : TypeInfo) (size : Nat) (ht : P.underlying t = some (.slice e)) (hi : P.info? e = some i)
    (v : Value) (n : Nat) (xs : List Value) (hown : w.ownsRow base e size v n xs) (A : Option Addr) (c : Nat) :
    (Builtin.append_ #[t, t] ty #[v, .slice A 0 c]).run P w = .ok v w := by
  rcases hown.2 with ⟨rfl, rfl⟩ | ⟨g, cap, cur, rfl, _, _, hnc, _⟩
  · cases A <;> simp [Builtin.append_, run_underlying ht, sizeOf, typeInfo, hi, Builtin.lenOf, Builtin.firstCells, loadCells, loadCellsFrom]
  · cases A <;> simp [Builtin.append_, run_underlying ht, sizeOf, typeInfo, hi, Builtin.lenOf, Builtin.firstCells, hnc, storeCells, loadCells, loadCellsFrom]
/-- The tokens of a slice put behind those that a row holds. -/
theorem wpList_append_sl {P : Program} {w : World} {ops : Array Oper} {rest : List Oper} {o : Oper} {a : Act} {Q : Exit → Act → World → Prop} (hgd : o.guard = none) (s x : Operand) (t : TypeId)
    (ho : o.op = .call { callee := .builtin .append, args := #[s, x], argTypes := #[t, t] })
    (base : Nat) (e : TypeId) (i : TypeInfo) (z : Value) (size bytes : Nat) (ht : P.underlying t = some (.slice e)) (hi : P.info? e = some i) (hz : i.zero = some z)
    (hsize : i.size = size) (hby : i.bytes = bytes) (hzs : z.cells.size = size) (hsz : 0 < size)
    (v : Value) (n : Nat) (xs : List Value) (hs : a.eval s = v) (hown : w.ownsRow base e size v n xs)
    (A : Option Addr) (m c : Nat) (news : List Value) (hx : a.eval x = .slice A m c) (hsl : Sl w size A m news) (h1 : ∀ u ∈ news, u.oneCell' = true)
    (h63 : n + m ≤ maxLen) (hbytes : (n + m) * bytes ≤ 140737488355328) (hbase : base ≤ w.heap.size)
    (h : ∀ v' w', w'.ownsRow base e size v' (n + m) (xs ++ news) → w.grownBy w' v.ownBlock → wpList P ops Q rest (a.put o.dst v') w') :
    wpList P ops Q (o :: rest) a w := by
  by_cases hm : m = 0
  · subst hm
    obtain rfl : news = [] := List.eq_nil_of_length_eq_zero (by rw [hsl.1]; omega)
    refine wpList_plain hgd fun K hK => ?_
    have hr := run_append_zero (P := P) w base t o.type e i size ht hi v n xs hown A c
    unfold Oper.wp execOp
    simp only [ho, resolve, invoke, builtin, Sem.run_bind, Sem.run_pure, Result.andThen_ok, List.map_toArray, List.map_cons, List.map_nil, hs, hx, hr]
    exact hK _ _ (h v w (by rw [List.append_nil]; exact hown) ⟨rfl, rfl, rfl, Nat.le_refl _, fun _ _ _ => rfl⟩)
  · obtain ⟨ad, rfl, _, hc⟩ := hsl.2 (by omega)
    exact wpList_append_own _ hgd s x t ho base e i z size bytes ht hi hz hsize hby hzs hsz v n xs hs hown ad m c news hx hsl.1 hc h1 h63 hbytes hbase (fun v' w' p q _ => h v' w' p q)
theorem Tks_one (l : List Lx.Tok) : ∀ u ∈ Tks l, u.oneCell' = true := by
  intro u hu
  obtain ⟨t, _, h⟩ := List.mem_flatMap.1 hu
  exact tk_one t u h

set_option maxRecDepth 100000 in
theorem local_long (a b : ByteArray) (w : World) (h : ¬ (a.size ≤ 1500 ∧ b.size ≤ 1500)) (tab : Tab10 w) :
    Calls Tryd.prog 7 #[.string a, .string b] w fun e w' => e = .returned (.bool true) ∧ Later w w' := by
  have HN := Lib.hid fun w' (h : Later w w') => sanity_any w' (tab.keep h)
  clear tab
  by_cases h1 : a.size ≤ 1500
  · have d0 : decide ((1500 : Int) < (a.size : Int)) = false := decide_eq_false (by omega)
    have g0 : ¬ (1500 : Int) < (a.size : Int) := by omega
    have d1 : decide ((1500 : Int) < (b.size : Int)) = true := decide_eq_true (by omega)
    have g1 : (1500 : Int) < (b.size : Int) := by omega
    clear h
    go_enter Tryd.func7, Tryd.ntmps7
    go_wp2_with (first
      | (go_at_call 9; refine (HN.out _ (later0 _)).mono ?_; rintro e w2 ⟨rfl, l2⟩))
    go_ret
    exact ⟨rfl, l2⟩
  · have d0 : decide ((1500 : Int) < (a.size : Int)) = true := decide_eq_true (by omega)
    have g0 : (1500 : Int) < (a.size : Int) := by omega
    clear h
    go_enter Tryd.func7, Tryd.ntmps7
    go_wp2_with (first
      | (go_at_call 9; refine (HN.out _ (later0 _)).mono ?_; rintro e w2 ⟨rfl, l2⟩))
    go_ret
    exact ⟨rfl, l2⟩
set_option maxRecDepth 100000 in
set_option maxHeartbeats 4000000 in
theorem local_a (a b : ByteArray) (w : World) (ha : a.size ≤ 1500) (hb : b.size ≤ 1500) (hea : (Lx.Tokens (L a)).2.2 ≠ 0) (tab : Tab10 w) :
    Calls Tryd.prog 7 #[.string a, .string b] w fun e w' => e = .returned (.bool true) ∧ Later w w' := by
  have d0 : decide ((1500 : Int) < (a.size : Int)) = false := decide_eq_false (by omega)
  have g0 : ¬ (1500 : Int) < (a.size : Int) := by omega
  have d1 : decide ((1500 : Int) < (b.size : Int)) = false := decide_eq_false (by omega)
  have g1 : ¬ (1500 : Int) < (b.size : Int) := by omega
  have HN := Lib.hid fun w' (h : Later w w') => sanity_any w' (tab.keep h)
  have hloc := Tokens_local (L a) (L b) (by rw [L_len]; exact ha) (by rw [L_len]; exact hb)
  have hats := Tokens_ats (L b) (by rw [L_len]; omega)
  have hfa := Tokens_few (L a)
  have hfb := Tokens_few (L b)
  rw [L_len] at hfa hfb hats
  have HA := Lib.hid fun w' => tokens_any a w'
  have HB := Lib.hid fun w' => tokens_any b w'
  have hk : L (a ++ ⟨#[10]⟩ ++ b) = (L a ++ [10]) ++ L b := by rw [L_join, L_join]
  have HC := Lib.hid fun w' => tokens_any (a ++ ⟨#[10]⟩ ++ b) w'
  rw [hk] at HC
  rw [hloc, L_len] at HC
  obtain ⟨ra, hra⟩ : ∃ r, Lx.Tokens (L a) = r := ⟨_, rfl⟩
  obtain ⟨rb, hrb⟩ : ∃ r, Lx.Tokens (L b) = r := ⟨_, rfl⟩
  rw [hra] at HA HC hea hfa
  rw [hrb] at HB HC hats hfb
  try rw [hrb] at heb
  clear hra hrb hloc tab
  obtain ⟨TA, pa0, ea⟩ := ra
  obtain ⟨TB, pb0, eb⟩ := rb
  simp only at HC hea hfa hats hfb
  try simp only at heb
  rw [if_neg hea] at HC
  unfold GotToks at HA HB HC
  simp only at HA HB HC
  obtain ⟨pa, hpa⟩ : ∃ p : Int, (pa0 : Int) = p := ⟨_, rfl⟩
  obtain ⟨pb, hpb⟩ : ∃ p : Int, (pb0 : Int) = p := ⟨_, rfl⟩
  rw [hpa] at HA HC
  rw [hpb] at HB
  have e1 : (ea != 0) = true := bne_iff_ne.2 hea
  clear hpa hpb hea hats
  have hE := fun w' => pb_eq pa ea w'
  go_enter Tryd.func7, Tryd.ntmps7
  go_wp2_with (first
    | (go_at_call 10; (with_reducible refine (HA.out _).mono ?_); rintro e w1 ⟨A1, n1, c1, rfl, hn1, _, hm1, sl1, l1⟩; have lw := Later.trans_ l1 (later1 w1 (.cells #[.int .i64 pa, .int .i64 ea] 26)); replace sl1 := sl1.keep (later1 w1 (.cells #[.int .i64 pa, .int .i64 ea] 26)); have b6 := Blk.new w1 26 #[.int .i64 pa, .int .i64 ea] [.int .i64 pa, .int .i64 ea] rfl)
    | (go_at_call 10; (with_reducible refine (HB.out _).mono ?_); rintro e w2 ⟨A2, n2, c2, rfl, hn2, _, hm2, sl2, l2⟩; replace sl1 := (sl1.keep l2).keep (later1 w2 (.cells #[.int .i64 pb, .int .i64 eb] 26)); replace sl2 := sl2.keep (later1 w2 (.cells #[.int .i64 pb, .int .i64 eb] 26)); replace b6 := (b6.keep l2).keep (later1 w2 (.cells #[.int .i64 pb, .int .i64 eb] 26)); have b8 := Blk.new w2 26 #[.int .i64 pb, .int .i64 eb] [.int .i64 pb, .int .i64 eb] rfl; replace lw := Later.trans_ (Later.trans_ lw l2) (later1 w2 (.cells #[.int .i64 pb, .int .i64 eb] 26)))
    | (go_at_call 10; go_loud ((with_reducible refine (HC.out _).mono ?_); rintro e w3 ⟨A3, n3, c3, he, hn3, _, hm3, sl3, l3⟩; rw [← hn3] at he sl3; simp only [List.length_nil] at he sl3; subst he; replace sl1 := (sl1.keep l3).keep (later1 w3 (.cells #[.int .i64 pa, .int .i64 ea] 26)); replace sl2 := (sl2.keep l3).keep (later1 w3 (.cells #[.int .i64 pa, .int .i64 ea] 26)); replace sl3 := sl3.keep (later1 w3 (.cells #[.int .i64 pa, .int .i64 ea] 26)); replace b6 := (b6.keep l3).keep (later1 w3 (.cells #[.int .i64 pa, .int .i64 ea] 26)); replace b8 := (b8.keep l3).keep (later1 w3 (.cells #[.int .i64 pa, .int .i64 ea] 26)); have b10 := Blk.new w3 26 #[.int .i64 pa, .int .i64 ea] [.int .i64 pa, .int .i64 ea] rfl; replace lw := Later.trans_ (Later.trans_ lw l3) (later1 w3 (.cells #[.int .i64 pa, .int .i64 ea] 26)); have c60 := b6.cell (j := 0) (v := .int .i64 pa) rfl; have c61 := b6.cell (j := 1) (v := .int .i64 ea) rfl; have c80 := b8.cell (j := 0) (v := .int .i64 pb) rfl; have c81 := b8.cell (j := 1) (v := .int .i64 eb) rfl; have c100 := b10.cell (j := 0) (v := .int .i64 pa) rfl; have c101 := b10.cell (j := 1) (v := .int .i64 ea) rfl))
    | (go_at_call 9; refine (HN.out _ lw).mono ?_; rintro e w4 ⟨rfl, l4⟩; clear c60 c61 c80 c81 c100 c101; replace b6 := b6.keep l4; replace b8 := b8.keep l4; replace b10 := b10.keep l4; replace lw := Later.trans_ lw l4; have c60 := b6.cell (j := 0) (v := .int .i64 pa) rfl; have c61 := b6.cell (j := 1) (v := .int .i64 ea) rfl; have c80 := b8.cell (j := 0) (v := .int .i64 pb) rfl; have c81 := b8.cell (j := 1) (v := .int .i64 eb) rfl; have c100 := b10.cell (j := 0) (v := .int .i64 pa) rfl; have c101 := b10.cell (j := 1) (v := .int .i64 ea) rfl))
  go_ret
  exact ⟨rfl, lw⟩
set_option maxRecDepth 100000 in
set_option maxHeartbeats 4000000 in
theorem local_b (a b : ByteArray) (w : World) (ha : a.size ≤ 1500) (hb : b.size ≤ 1500) (hea : (Lx.Tokens (L a)).2.2 = 0) (heb : (Lx.Tokens (L b)).2.2 ≠ 0) (hpl : (Lx.Tokens (L b)).2.1 ≤ 16384) (tab : Tab10 w) :
    Calls Tryd.prog 7 #[.string a, .string b] w fun e w' => e = .returned (.bool true) ∧ Later w w' := by
  have d0 : decide ((1500 : Int) < (a.size : Int)) = false := decide_eq_false (by omega)
  have g0 : ¬ (1500 : Int) < (a.size : Int) := by omega
  have d1 : decide ((1500 : Int) < (b.size : Int)) = false := decide_eq_false (by omega)
  have g1 : ¬ (1500 : Int) < (b.size : Int) := by omega
  have HN := Lib.hid fun w' (h : Later w w') => sanity_any w' (tab.keep h)
  have hloc := Tokens_local (L a) (L b) (by rw [L_len]; exact ha) (by rw [L_len]; exact hb)
  have hats := Tokens_ats (L b) (by rw [L_len]; omega)
  have hfa := Tokens_few (L a)
  have hfb := Tokens_few (L b)
  rw [L_len] at hfa hfb hats
  have HA := Lib.hid fun w' => tokens_any a w'
  have HB := Lib.hid fun w' => tokens_any b w'
  have hk : L (a ++ ⟨#[10]⟩ ++ b) = (L a ++ [10]) ++ L b := by rw [L_join, L_join]
  have HC := Lib.hid fun w' => tokens_any (a ++ ⟨#[10]⟩ ++ b) w'
  rw [hk] at HC
  rw [hloc, L_len] at HC
  obtain ⟨ra, hra⟩ : ∃ r, Lx.Tokens (L a) = r := ⟨_, rfl⟩
  obtain ⟨rb, hrb⟩ : ∃ r, Lx.Tokens (L b) = r := ⟨_, rfl⟩
  rw [hra] at HA HC hea hfa
  rw [hrb] at HB HC hats hfb
  rw [hrb] at heb hpl
  clear hra hrb hloc tab
  obtain ⟨TA, pa0, ea⟩ := ra
  obtain ⟨TB, pb0, eb⟩ := rb
  simp only at HC hea hfa hats hfb
  simp only at heb hpl
  rw [if_pos hea, if_neg heb] at HC
  unfold GotToks at HA HB HC
  simp only at HA HB HC
  obtain ⟨pa, hpa⟩ : ∃ p : Int, (pa0 : Int) = p := ⟨_, rfl⟩
  obtain ⟨pb, hpb⟩ : ∃ p : Int, (pb0 : Int) = p := ⟨_, rfl⟩
  have hpn : ((pb0 + (a.size + 1) : Nat) : Int) = pb + (a.size : Int) + 1 := by omega
  have hpb0 : 0 ≤ pb ∧ pb ≤ 16384 := by omega
  rw [hpa] at HA
  rw [hpb] at HB
  simp only [hpn] at HC
  have e1 : (ea != 0) = false := by rw [hea]; rfl
  have e2 : (eb != 0) = true := bne_iff_ne.2 heb
  clear hpa hpb hpn hea heb hats hpl
  have hE := fun w' => pb_eq (pb + (a.size : Int) + 1) eb w'
  go_enter Tryd.func7, Tryd.ntmps7
  go_wp2_with (first
    | (go_at_call 10; (with_reducible refine (HA.out _).mono ?_); rintro e w1 ⟨A1, n1, c1, rfl, hn1, _, hm1, sl1, l1⟩; have lw := Later.trans_ l1 (later1 w1 (.cells #[.int .i64 pa, .int .i64 ea] 26)); replace sl1 := sl1.keep (later1 w1 (.cells #[.int .i64 pa, .int .i64 ea] 26)); have b6 := Blk.new w1 26 #[.int .i64 pa, .int .i64 ea] [.int .i64 pa, .int .i64 ea] rfl)
    | (go_at_call 10; (with_reducible refine (HB.out _).mono ?_); rintro e w2 ⟨A2, n2, c2, rfl, hn2, _, hm2, sl2, l2⟩; replace sl1 := (sl1.keep l2).keep (later1 w2 (.cells #[.int .i64 pb, .int .i64 eb] 26)); replace sl2 := sl2.keep (later1 w2 (.cells #[.int .i64 pb, .int .i64 eb] 26)); replace b6 := (b6.keep l2).keep (later1 w2 (.cells #[.int .i64 pb, .int .i64 eb] 26)); have b8 := Blk.new w2 26 #[.int .i64 pb, .int .i64 eb] [.int .i64 pb, .int .i64 eb] rfl; replace lw := Later.trans_ (Later.trans_ lw l2) (later1 w2 (.cells #[.int .i64 pb, .int .i64 eb] 26)))
    | (go_at_call 10; go_loud ((with_reducible refine (HC.out _).mono ?_); rintro e w3 ⟨A3, n3, c3, he, hn3, _, hm3, sl3, l3⟩; rw [← hn3] at he sl3; simp only [List.length_nil] at he sl3; subst he; replace sl1 := (sl1.keep l3).keep (later1 w3 (.cells #[.int .i64 (pb + (a.size : Int) + 1), .int .i64 eb] 26)); replace sl2 := (sl2.keep l3).keep (later1 w3 (.cells #[.int .i64 (pb + (a.size : Int) + 1), .int .i64 eb] 26)); replace sl3 := sl3.keep (later1 w3 (.cells #[.int .i64 (pb + (a.size : Int) + 1), .int .i64 eb] 26)); replace b6 := (b6.keep l3).keep (later1 w3 (.cells #[.int .i64 (pb + (a.size : Int) + 1), .int .i64 eb] 26)); replace b8 := (b8.keep l3).keep (later1 w3 (.cells #[.int .i64 (pb + (a.size : Int) + 1), .int .i64 eb] 26)); have b10 := Blk.new w3 26 #[.int .i64 (pb + (a.size : Int) + 1), .int .i64 eb] [.int .i64 (pb + (a.size : Int) + 1), .int .i64 eb] rfl; replace lw := Later.trans_ (Later.trans_ lw l3) (later1 w3 (.cells #[.int .i64 (pb + (a.size : Int) + 1), .int .i64 eb] 26)); have c60 := b6.cell (j := 0) (v := .int .i64 pa) rfl; have c61 := b6.cell (j := 1) (v := .int .i64 ea) rfl; have c80 := b8.cell (j := 0) (v := .int .i64 pb) rfl; have c81 := b8.cell (j := 1) (v := .int .i64 eb) rfl; have c100 := b10.cell (j := 0) (v := .int .i64 (pb + (a.size : Int) + 1)) rfl; have c101 := b10.cell (j := 1) (v := .int .i64 eb) rfl))
    | (go_at_call 9; refine (HN.out _ lw).mono ?_; rintro e w4 ⟨rfl, l4⟩; clear c60 c61 c80 c81 c100 c101; replace b6 := b6.keep l4; replace b8 := b8.keep l4; replace b10 := b10.keep l4; replace lw := Later.trans_ lw l4; have c60 := b6.cell (j := 0) (v := .int .i64 pa) rfl; have c61 := b6.cell (j := 1) (v := .int .i64 ea) rfl; have c80 := b8.cell (j := 0) (v := .int .i64 pb) rfl; have c81 := b8.cell (j := 1) (v := .int .i64 eb) rfl; have c100 := b10.cell (j := 0) (v := .int .i64 (pb + (a.size : Int) + 1)) rfl; have c101 := b10.cell (j := 1) (v := .int .i64 eb) rfl))
  go_ret
  exact ⟨rfl, lw⟩
theorem tok5_shift (TA TB : List Lx.Tok) (E : Lx.Tok) (q k : Nat) (h : k < TB.length) : TA ++ [E] ++ (TB.take (k + 1)).map (Lx.shift q) = (TA ++ [E] ++ (TB.take k).map (Lx.shift q)) ++ [Lx.shift q TB[k]] := by
  rw [List.take_succ_eq_append_getElem h, List.map_append, List.append_assoc]
  simp
set_option maxRecDepth 100000 in
set_option maxHeartbeats 8000000 in
theorem local_c (a b : ByteArray) (w : World) (ha : a.size ≤ 1500) (hb : b.size ≤ 1500) (hea : (Lx.Tokens (L a)).2.2 = 0) (heb : (Lx.Tokens (L b)).2.2 = 0) (tab : Tab10 w) :
    Calls Tryd.prog 7 #[.string a, .string b] w fun e w' => e = .returned (.bool true) ∧ Later w w' := by
  obtain ⟨i0, hi, hz0, hz1, hz2⟩ := info_parts tk_info
  have d0 : decide ((1500 : Int) < (a.size : Int)) = false := decide_eq_false (by omega)
  have g0 : ¬ (1500 : Int) < (a.size : Int) := by omega
  have d1 : decide ((1500 : Int) < (b.size : Int)) = false := decide_eq_false (by omega)
  have g1 : ¬ (1500 : Int) < (b.size : Int) := by omega
  have HN := Lib.hid fun w' (h : Later w w') => sanity_any w' (tab.keep h)
  have hloc := Tokens_local (L a) (L b) (by rw [L_len]; exact ha) (by rw [L_len]; exact hb)
  have hats := Tokens_ats (L b) (by rw [L_len]; omega)
  have hfa := Tokens_few (L a)
  have hfb := Tokens_few (L b)
  rw [L_len] at hfa hfb hats
  have HA := Lib.hid fun w' => tokens_any a w'
  have HB := Lib.hid fun w' => tokens_any b w'
  have hk : L (a ++ ⟨#[10]⟩ ++ b) = (L a ++ [10]) ++ L b := by rw [L_join, L_join]
  have HC := Lib.hid fun w' => tokens_any (a ++ ⟨#[10]⟩ ++ b) w'
  rw [hk] at HC
  rw [hloc, L_len] at HC
  obtain ⟨ra, hra⟩ : ∃ r, Lx.Tokens (L a) = r := ⟨_, rfl⟩
  obtain ⟨rb, hrb⟩ : ∃ r, Lx.Tokens (L b) = r := ⟨_, rfl⟩
  rw [hra] at HA HC hea hfa
  rw [hrb] at HB HC hats hfb
  try rw [hrb] at heb
  clear hra hrb hloc tab
  obtain ⟨TA, pa0, ea⟩ := ra
  obtain ⟨TB, pb0, eb⟩ := rb
  simp only at HC hea hfa hats hfb
  try simp only at heb
  rw [if_pos hea, if_pos heb] at HC
  unfold GotToks at HA HB HC
  simp only at HA HB HC
  obtain ⟨pa, hpa⟩ : ∃ p : Int, (pa0 : Int) = p := ⟨_, rfl⟩
  obtain ⟨pb, hpb⟩ : ∃ p : Int, (pb0 : Int) = p := ⟨_, rfl⟩
  rw [hpa] at HA
  rw [hpb] at HB
  have e1 : (ea != 0) = false := by rw [hea]; rfl
  have e2 : (eb != 0) = false := by rw [heb]; rfl
  clear hpa hpb hea heb
  have hE := fun w' => pb_eq 0 0 w'
  have HATS := Lib.hid hats
  obtain ⟨TN, hTN⟩ : ∃ x, TA ++ [⟨5, (a.size : Int), 0, []⟩] ++ TB.map (Lx.shift (a.size + 1)) = x := ⟨_, rfl⟩
  rw [hTN] at HC
  rw [show ((0 : Nat) : Int) = 0 from rfl] at HC
  have hTNl : TN.length = TA.length + 1 + TB.length := by rw [← hTN]; simp; omega
  have HTN := Lib.hid hTN
  clear hTN hats
  go_enter Tryd.func7, Tryd.ntmps7
  go_wp2_with (first
    | (go_at_call 10; (with_reducible refine (HA.out _).mono ?_); rintro e w1 ⟨A1, n1, c1, rfl, hn1, _, hm1, sl1, l1⟩; have lw := Later.trans_ l1 (later1 w1 (.cells #[.int .i64 pa, .int .i64 ea] 26)); replace sl1 := sl1.keep (later1 w1 (.cells #[.int .i64 pa, .int .i64 ea] 26)); have b6 := Blk.new w1 26 #[.int .i64 pa, .int .i64 ea] [.int .i64 pa, .int .i64 ea] rfl)
    | (go_at_call 10; (with_reducible refine (HB.out _).mono ?_); rintro e w2 ⟨A2, n2, c2, rfl, hn2, _, hm2, sl2, l2⟩; replace sl1 := (sl1.keep l2).keep (later1 w2 (.cells #[.int .i64 pb, .int .i64 eb] 26)); replace sl2 := sl2.keep (later1 w2 (.cells #[.int .i64 pb, .int .i64 eb] 26)); replace b6 := (b6.keep l2).keep (later1 w2 (.cells #[.int .i64 pb, .int .i64 eb] 26)); have b8 := Blk.new w2 26 #[.int .i64 pb, .int .i64 eb] [.int .i64 pb, .int .i64 eb] rfl; replace lw := Later.trans_ (Later.trans_ lw l2) (later1 w2 (.cells #[.int .i64 pb, .int .i64 eb] 26)))
    | (go_at_call 10; go_loud ((with_reducible refine (HC.out _).mono ?_); rintro e w3 ⟨A3, n3, c3, he, hn3, _, hm3, sl3, l3⟩; skip; subst he; replace sl1 := (sl1.keep l3).keep (later1 w3 (.cells #[.int .i64 0, .int .i64 0] 26)); replace sl2 := (sl2.keep l3).keep (later1 w3 (.cells #[.int .i64 0, .int .i64 0] 26)); replace sl3 := sl3.keep (later1 w3 (.cells #[.int .i64 0, .int .i64 0] 26)); replace b6 := (b6.keep l3).keep (later1 w3 (.cells #[.int .i64 0, .int .i64 0] 26)); replace b8 := (b8.keep l3).keep (later1 w3 (.cells #[.int .i64 0, .int .i64 0] 26)); have b10 := Blk.new w3 26 #[.int .i64 0, .int .i64 0] [.int .i64 0, .int .i64 0] rfl; replace lw := Later.trans_ (Later.trans_ lw l3) (later1 w3 (.cells #[.int .i64 0, .int .i64 0] 26)); have c60 := b6.cell (j := 0) (v := .int .i64 pa) rfl; have c61 := b6.cell (j := 1) (v := .int .i64 ea) rfl; have c80 := b8.cell (j := 0) (v := .int .i64 pb) rfl; have c81 := b8.cell (j := 1) (v := .int .i64 eb) rfl; have c100 := b10.cell (j := 0) (v := .int .i64 0) rfl; have c101 := b10.cell (j := 1) (v := .int .i64 0) rfl; have hwb : (w3.alloc (.cells #[.int .i64 0, .int .i64 0] 26)).heap.size = w3.heap.size + 1 := (by simp); have ho0 : ((w3.alloc (.cells #[.int .i64 0, .int .i64 0] 26)).alloc (.cells #[] 41)).ownsRow (w3.alloc (.cells #[.int .i64 0, .int .i64 0] 26)).heap.size 41 4 (.slice (some ⟨w3.heap.size + 1, 0, none⟩) 0 0) 0 [] := (by have h := World.ownsRow_lit (base := (w3.alloc (.cells #[.int .i64 0, .int .i64 0] 26)).heap.size) (e := 41) (size := 4) (w3.alloc (.cells #[.int .i64 0, .int .i64 0] 26)) #[] 0 (Nat.le_refl _) (by unfold maxLen; omega) rfl; rw [show (⟨(w3.alloc (.cells #[.int .i64 0, .int .i64 0] 26)).heap.size, 0, none⟩ : Addr) = ⟨w3.heap.size + 1, 0, none⟩ by rw [hwb]] at h; exact h); clear hwb))
    | (at_builtin; (refine wpList_append_sl rfl _ _ 23 rfl (w3.alloc (.cells #[.int .i64 0, .int .i64 0] 26)).heap.size 41 i0 (.agg #[.int .i64 0, .int .i64 0, .int .i64 0, .string ⟨#[]⟩]) 4 40 Tryd.underlying23 hi hz0 hz1 hz2 rfl (by decide) (.slice (some ⟨w3.heap.size + 1, 0, none⟩) 0 0) 0 [] rfl ho0 A1 n1 c1 (Tks TA) rfl (sl1.keep (later1 _ (.cells #[] 41))) (Tks_one TA) (by unfold maxLen; omega) (by omega) (by simp) ?_; intro v1 w5 hown1 hgrow1; have lw5 : Later (w3.alloc (.cells #[.int .i64 0, .int .i64 0] 26)) w5 := (later1 (w3.alloc (.cells #[.int .i64 0, .int .i64 0] 26)) (.cells #[] 41)).grown hgrow1 (by simp) (fun j hj => by cases hj; simp); have ho1 : w5.ownsRow (w3.alloc (.cells #[.int .i64 0, .int .i64 0] 26)).heap.size 41 4 v1 TA.length (Tks TA) := (by rw [Nat.zero_add, List.nil_append, ← hn1] at hown1; exact hown1); clear hown1 hgrow1))
    | (at_builtin; refine wpList_append_own _ rfl _ _ 23 rfl (w3.alloc (.cells #[.int .i64 0, .int .i64 0] 26)).heap.size 41 i0 (.agg #[.int .i64 0, .int .i64 0, .int .i64 0, .string ⟨#[]⟩]) 4 40 Tryd.underlying23 hi hz0 hz1 hz2 rfl (by decide) _ _ _ rfl (ho1.alloc _) ⟨w5.heap.size, 0, none⟩ 1 1 [.int .i64 5, .int .i64 (a.size : Int), .int .i64 0, .string ⟨#[]⟩] rfl rfl (fun j u hu => World.news_of_block (heap_alloc_new w5 _) j u hu) (tk_one ⟨5, (a.size : Int), 0, []⟩) (by unfold maxLen; omega) (by omega) (by have := lw5.size; simp at this ⊢; omega) ?_; intro v2 w6 hown2 hgrow2 _; have ho2 := own_snocT (t := ⟨5, (a.size : Int), 0, []⟩) hown2; have lw6 : Later (w3.alloc (.cells #[.int .i64 0, .int .i64 0] 26)) w6 := (lw5.alloc lw5.size _).grown hgrow2 (by have := lw5.size; simp at this ⊢; omega) (fun j hj => (ho1.lt j hj).1); clear hown2 hgrow2 ho1 lw5))
  have HB10 := Lib.hid fun w' (h : Later (w3.alloc (.cells #[.int .i64 0, .int .i64 0] 26)) w') => b10.keep h
  have HS2 := Lib.hid fun w' (h : Later (w3.alloc (.cells #[.int .i64 0, .int .i64 0] 26)) w') => sl2.keep h
  have HS3 := Lib.hid fun w' (h : Later (w3.alloc (.cells #[.int .i64 0, .int .i64 0] 26)) w') => sl3.keep h
  have LW := Lib.hid fun w' (h : Later (w3.alloc (.cells #[.int .i64 0, .int .i64 0] 26)) w') => Later.trans_ lw h
  have HAD := Lib.hid fun (h : 0 < n2) => (show ∃ ad, A2 = some ad from by obtain ⟨ad, e, _⟩ := sl2.2 h; exact ⟨ad, e⟩)
  clear ho0 b6 b8 b10 sl1 sl2 sl3 HA HB HC c60 c61 c80 c81 c100 c101
  go_loopw [11, 87] (fun v i wr => ∃ k : Nat, k ≤ n2 ∧ i = .int .i64 k ∧ wr.ownsRow (w3.alloc (.cells #[.int .i64 0, .int .i64 0] 26)).heap.size 41 4 v (TA ++ [(⟨5, (a.size : Int), 0, []⟩ : Lx.Tok)] ++ (TB.take k).map (Lx.shift (a.size + 1))).length (Tks (TA ++ [(⟨5, (a.size : Int), 0, []⟩ : Lx.Tok)] ++ (TB.take k).map (Lx.shift (a.size + 1)))) ∧ Later (w3.alloc (.cells #[.int .i64 0, .int .i64 0] 26)) wr) (fun _ i _ => n2 - (intOf i).toNat)
  case atStart => exact ⟨0, Nat.zero_le _, rfl, by rw [List.take_zero, List.map_nil, List.append_nil]; exact ho2, lw6⟩
  case round =>
    obtain ⟨k, hk, rfl, hor, hbr⟩ := hrel
    rename_i wr
    clear ho2 lw6
    by_cases hlt : k < n2
    · obtain ⟨ad, rfl⟩ := HAD.out (by omega)
      have hkl : k < TB.length := by omega
      have cx := Lib.hid (Sl.tok (HS2.out wr hbr) hkl hn2)
      have hnx := tok5_shift TA TB ⟨5, (a.size : Int), 0, []⟩ (a.size + 1) k hkl
      have hat := HATS.out TB[k] (List.getElem_mem hkl)
      have hacl : (TA ++ [(⟨5, (a.size : Int), 0, []⟩ : Lx.Tok)] ++ (TB.take k).map (Lx.shift (a.size + 1))).length = TA.length + 1 + k := by simp; omega
      obtain ⟨t, ht⟩ : ∃ t, TB[k]'hkl = t := ⟨_, rfl⟩
      rw [ht] at cx hnx hat
      obtain ⟨acc, hac⟩ : ∃ x, (TA ++ [(⟨5, (a.size : Int), 0, []⟩ : Lx.Tok)] ++ (TB.take k).map (Lx.shift (a.size + 1))) = x := ⟨_, rfl⟩
      rw [hac] at hnx hor hacl
      clear ht hac
      obtain ⟨tk, ta, tn, ts⟩ := t
      unfold Tk at cx
      simp only at cx hat
      have HNX := Lib.hid (show (TA ++ [(⟨5, (a.size : Int), 0, []⟩ : Lx.Tok)] ++ (TB.take (k + 1)).map (Lx.shift (a.size + 1))) = acc ++ [⟨tk, ta + ((a.size : Int) + 1), tn, ts⟩] from hnx)
      clear hnx
      have hnews : ∀ j u, ([.int .i64 tk, .int .i64 (ta + ((a.size : Int) + 1)), .int .i64 tn, .string ⟨ts.toArray⟩] : List Value)[j]? = some u → ((wr.alloc (.cells #[.int .i64 tk, .int .i64 (ta + ((a.size : Int) + 1)), .int .i64 tn, .string ⟨ts.toArray⟩] 41)).alloc (.cells #[.int .i64 tk, .int .i64 (ta + ((a.size : Int) + 1)), .int .i64 tn, .string ⟨ts.toArray⟩] 41)).cell? ((⟨wr.heap.size + 1, 0, none⟩ : Addr).add j) = some u := by
        have h := fun j u hu => World.news_of_block (cs := #[.int .i64 tk, .int .i64 (ta + ((a.size : Int) + 1)), .int .i64 tn, .string ⟨ts.toArray⟩]) (heap_alloc_new (wr.alloc (.cells #[.int .i64 tk, .int .i64 (ta + ((a.size : Int) + 1)), .int .i64 tn, .string ⟨ts.toArray⟩] 41)) (.cells #[.int .i64 tk, .int .i64 (ta + ((a.size : Int) + 1)), .int .i64 tn, .string ⟨ts.toArray⟩] 41)) j u hu
        rw [show (wr.alloc (.cells #[.int .i64 tk, .int .i64 (ta + ((a.size : Int) + 1)), .int .i64 tn, .string ⟨ts.toArray⟩] 41)).heap.size = wr.heap.size + 1 by simp] at h
        exact h
      have hsz := hbr.size
      go_wp2_with (first
        | (refine wpList_load_addr (o := ⟨some 90, .load 41 (.tmp 89), _, _, _, none⟩) rfl _ _ rfl (ad.add (k * 4)) [.int .i64 tk, .int .i64 ta, .int .i64 tn, .string ⟨ts.toArray⟩] _ rfl cx.out Tryd.underlying41 rfl (tk_sz ⟨tk, ta, tn, ts⟩) ?_)
        | (at_builtin; (refine wpList_append_own _ rfl _ _ 23 rfl (w3.alloc (.cells #[.int .i64 0, .int .i64 0] 26)).heap.size 41 i0 (.agg #[.int .i64 0, .int .i64 0, .int .i64 0, .string ⟨#[]⟩]) 4 40 Tryd.underlying23 hi hz0 hz1 hz2 rfl (by decide) _ _ _ rfl ((hor.alloc (.cells #[.int .i64 tk, .int .i64 (ta + ((a.size : Int) + 1)), .int .i64 tn, .string ⟨ts.toArray⟩] 41)).alloc (.cells #[.int .i64 tk, .int .i64 (ta + ((a.size : Int) + 1)), .int .i64 tn, .string ⟨ts.toArray⟩] 41)) ⟨wr.heap.size + 1, 0, none⟩ 1 1 [.int .i64 tk, .int .i64 (ta + ((a.size : Int) + 1)), .int .i64 tn, .string ⟨ts.toArray⟩] rfl rfl hnews (tk_one ⟨tk, ta + ((a.size : Int) + 1), tn, ts⟩) (by unfold maxLen; omega) (by omega) (by simp at hsz ⊢; omega) ?_; intro v' w7 hown' hgrow _)))
      have ho3 := own_snocT (t := ⟨tk, ta + ((a.size : Int) + 1), tn, ts⟩) hown'
      have hb3 : Later (w3.alloc (.cells #[.int .i64 0, .int .i64 0] 26)) w7 := ((hbr.alloc hbr.size (.cells #[.int .i64 tk, .int .i64 (ta + ((a.size : Int) + 1)), .int .i64 tn, .string ⟨ts.toArray⟩] 41)).alloc (by simp at hsz ⊢; omega) (.cells #[.int .i64 tk, .int .i64 (ta + ((a.size : Int) + 1)), .int .i64 tn, .string ⟨ts.toArray⟩] 41)).grown hgrow (by simp at hsz ⊢; omega) (fun j hj => (hor.lt j hj).1)
      clear hown' hgrow hor
      go_wp2
      go_roundw
      case rel => exact ⟨k + 1, by omega, by go_num, by rw [HNX.out]; exact ho3, hb3⟩
      case measure => first | (simp [intOf]; omega) | (simp [intOf]; done) | (simp; omega)
    · have hkn : n2 = k := by omega
      subst hkn
      rw [List.take_of_length_le (by omega), HTN.out, hn3] at hor
      obtain ⟨A4, c4, rfl, _, _, s4, _⟩ := own_form hor
      have b10 := HB10.out _ hbr
      have sl3 := HS3.out _ hbr
      have lw := LW.out _ hbr
      clear hor HB10 HS3 HS2 LW HAD HATS HTN
      go_wp2_with (first
        | (go_at_call 9; refine (HN.out _ lw).mono ?_; rintro e w8 ⟨rfl, l8⟩; replace b10 := b10.keep l8; replace sl3 := sl3.keep l8; replace s4 := Sl.keep s4 l8; replace lw := Later.trans_ lw l8; have c100 := b10.cell (j := 0) (v := .int .i64 0) rfl; have c101 := b10.cell (j := 1) (v := .int .i64 0) rfl)
        | (go_at_call 14; go_loud (refine (same_any A3 A4 n3 c3 c4 TN TN false _ sl3 s4 hn3 hn3 (by omega) (fun _ => rfl) (fun _ => rfl)).mono ?_; rintro e w9 ⟨rfl, l9⟩)))
      go_ret
      exact ⟨rfl, Later.trans_ lw l9⟩
theorem problem_le (l : Lx.Str) (hl : l.length ≤ 16384) : (Lx.Tokens l).2.1 ≤ 16384 := by
  rw [Tokens_short l hl]
  have : ∀ (f p : Nat) (l : Lx.Str), (Lx.toksF f p l).2.1 ≤ p + l.length := by
    intro f
    induction f with
    | zero => intro p l; exact Nat.zero_le _
    | succ f ih =>
      intro p l
      cases l with
      | nil => exact Nat.zero_le _
      | cons c r =>
        unfold Lx.toksF
        rw [List.length_cons]
        split
        · have := ih (p + 1) r; omega
        split
        · have := ih (p + (Lx.rest r + 1)) (r.drop (Lx.rest r)); have := Lx.rest_le r; rw [List.length_drop] at *; omega
        split
        · have hk := Lx.tok1_ok c r
          rw [List.length_cons] at hk
          have := ih (p + (Lx.tok1 (c :: r)).2.1) (r.drop ((Lx.tok1 (c :: r)).2.1 - 1))
          rw [List.length_drop] at this
          unfold Lx.cat
          split
          · exact Nat.zero_le _
          · simp only
            rcases hk with hk | hk <;> omega
        · simp only; omega
  have := this (l.length + 1) 0 l
  unfold Lx.toks
  omega
theorem local_all (a b : ByteArray) (w : World) (tab : Tab10 w) :
    Calls Tryd.prog 7 #[.string a, .string b] w fun e w' => e = .returned (.bool true) ∧ Later w w' := by
  by_cases h : a.size ≤ 1500 ∧ b.size ≤ 1500
  · by_cases h1 : (Lx.Tokens (L a)).2.2 = 0
    · by_cases h2 : (Lx.Tokens (L b)).2.2 = 0
      · exact local_c a b w h.1 h.2 h1 h2 tab
      · exact local_b a b w h.1 h.2 h1 h2 (problem_le _ (by rw [L_len]; omega)) tab
    · exact local_a a b w h.1 h.2 h1 tab
  · exact local_long a b w h tab

set_option maxRecDepth 100000 in
theorem lexerIsLocal_contract (H : Type) (enc : TypeId × Value → H) (W : World) (base : Nat) (args : Array Value) (ds gs : List (DataW H)) (before : List MemPlace)
    (hval : ∀ (j : Nat) t v, Tryd.f7.params[j]? = some t → args[j]? = some v → Value.okWide Tryd.prog W .any base t v)
    (hW : DataW.Whole enc Tryd.prog Tryd.f7.params.toList Rows.lexerIsLocalSpec.vars false W args.toList ds gs before) (hL : laidMetH Tryd.prog Rows.lexerIsLocalRow.laid W) :
    Calls Tryd.prog 7 args W fun e W' => ∃ v, e = .returned v ∧ Rows.lexerIsLocalSpec.post enc Tryd.prog Tryd.f7 false true false false W args v W' := by
  have hW' := hW
  have tab : Tab10 W := tab10_of hL
  obtain ⟨p, q, hA0, hV, rfl, _, _⟩ := hW
  have hA : DataW.TrodAll enc Tryd.prog W 0 (fun _ => true) true Tryd.f7.params.toList args.toList ds p := hA0
  rw [Tryd.params7] at hA hval
  obtain ⟨v0, vs0, d0, ds0, p0, q0, hargs, rfl, rfl, h0, r0⟩ := trodAll_cons hA
  obtain ⟨v1, vs1, d1, ds1, p1, q1, rfl, rfl, rfl, h1, r1⟩ := trodAll_cons r0
  obtain ⟨rfl, rfl, rfl⟩ := trodAll_nil r1
  obtain rfl : args = #[v0, v1] := by cases args; simp_all
  obtain ⟨rfl, rfl⟩ := trodVars_none hV
  obtain ⟨s0, rfl, x0⟩ := str_arg Tryd.underlying9 (hval 0 9 v0 rfl rfl) h0
  obtain ⟨s1, rfl, x1⟩ := str_arg Tryd.underlying9 (hval 1 9 v1 rfl rfl) h1
  clear hA0
  simp only [List.append_nil] at hW'
  refine (local_all s0 s1 W tab).mono fun e W' ⟨he, hw⟩ => ?_
  subst he
  exact ⟨_, rfl, law_post laidK rfl (by kernel_rfl) (by kernel_rfl) Tryd.underlying4 (by kernel_rfl) hW' rfl hw⟩
set_option maxRecDepth 100000 in
theorem lexerIsLocal_met (os : Os) : laidMet Tryd.prog Rows.lexerIsLocalRow.laid ((laidWorld os).forCall (fun _ _ => 0) ⟨#[], #[.string ⟨#[]⟩, .string ⟨#[]⟩], []⟩).memory :=
  laidMet_of_run' 8 (by kernel_rfl) (by kernel_rfl)
set_option maxRecDepth 100000 in
theorem lexerIsLocal_reads (os : Os) {H : Type} (enc : TypeId × Value → H) : ∃ places, DataW.whole enc Tryd.prog ((laidWorld os).forCall (fun _ _ => 0) ⟨#[], #[.string ⟨#[]⟩, .string ⟨#[]⟩], []⟩).memory Tryd.f7.params.toList Rows.lexerIsLocalSpec.vars false (#[.string ⟨#[]⟩, .string ⟨#[]⟩] : Array Value).toList 8 = some ([.lit (.string []), .lit (.string [])], [], places) :=
  ⟨[], by kernel_rfl⟩

set_option maxRecDepth 100000 in
theorem lexerIsLocal_lifted (os : Os) (started : os.Started) (H : Type) (enc : TypeId × Value → H) (F : Stop.Interp) :
    ReturnsInHanded {} Tryd.checked os 7 .any ((OpenSpec.ofChange Rows.lexerIsLocalSpec).preRow enc Tryd.prog Tryd.f7 Rows.lexerIsLocalRow.domain false Rows.lexerIsLocalRow.laid) (((OpenSpec.ofChange Rows.lexerIsLocalSpec).at F).post enc Tryd.prog Tryd.f7 false true false false) := by
  obtain ⟨places, hx⟩ := lexerIsLocal_reads os enc
  refine returnsInHanded_of_row (C := Tryd.checked) (s := OpenSpec.ofChange Rows.lexerIsLocalSpec) ownK started (by kernel_rfl) Tryd.func7
    (witness_row_at (enc := enc) (C := Tryd.checked) false (laidWorld os) #[.string ⟨#[]⟩, .string ⟨#[]⟩] rfl (by kernel_rfl) (by kernel_rfl) (by kernel_rfl)
      (OpenSpec.preRow_of_cond 8 hx (by kernel_rfl) (fun k hk => by cases hk) (by kernel_rfl) (lexerIsLocal_met os))) ?_
  intro W base args ds gs before hval hW _ _ _ hL _ _
  exact lexerIsLocal_contract H enc W base args ds gs before hval hW hL

set_option maxRecDepth 100000 in
theorem lexerIsLocal_said : Rows.LexerIsLocalSaid :=
  OpenClaim.holds_of_cond 7 Tryd.f7 rfl rfl rfl rfl rfl rfl rfl ⟨rfl, rfl, rfl, rfl, rfl⟩ rfl rfl rfl rfl rfl (by kernel_rfl) Tryd.func7 (by kernel_rfl)
    (of_decide_eq_true (by kernel_rfl)) (by unfold Func.isWrapper; first | (rw [if_pos (by decide +kernel)]; kernel_rfl) | (rw [if_neg (by decide +kernel)]; exact ⟨rfl, rfl⟩))
    (fun os started H enc _ F => by rw [OpenClaim.pre_eq_preRow]; exact lexerIsLocal_lifted os started H enc F)

set_option maxRecDepth 100000 in
theorem lexerIsLocal_plain (f : FuncId) (fn : Func) (hf : Tryd.pinned.checked.prog.funcNamed "simulacrum/simulacrumlaw07.LexerIsLocal" = some f) (hfn : Tryd.pinned.checked.prog.funcs[f]? = some fn) :
    false = Tryd.pinned.checked.prog.looks [] ∧ ∀ (j : Nat) t, fn.params[j]? = some t → Tryd.pinned.checked.prog.wantsStandIn t = false := by
  obtain rfl : f = 7 := Option.some.inj ((show Tryd.prog.funcNamed "simulacrum/simulacrumlaw07.LexerIsLocal" = some 7 by kernel_rfl).symm.trans hf) |>.symm
  obtain rfl : fn = Tryd.f7 := (Option.some.inj (Tryd.func7.symm.trans hfn)).symm
  refine ⟨by kernel_rfl, fun j t ht => ?_⟩
  exact wants_none 7 Tryd.f7.params (by kernel_rfl) j t ht

set_option maxRecDepth 100000 in
/-- The card. -/
theorem lexerIsLocal_card : Rows.LexerIsLocalCardSaid :=
  Claim7.holds_tied_plain_at .later [] _ _ _ _ lexerIsLocal_said (fun _ h => by cases h) (by kernel_rfl) (fun _ h => by cases h) lexerIsLocal_row_tie rfl ⟨rfl, rfl⟩ (by kernel_rfl) rfl lexerIsLocal_plain (by kernel_rfl)
#print axioms lexerIsLocal_card

end Go.Proofs.YtnoajpcgegocdaaDoor
