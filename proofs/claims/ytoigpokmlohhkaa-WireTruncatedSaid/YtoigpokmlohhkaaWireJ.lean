/-
  THE WALKS OF THE COMPARISONS and of the statements' own helpers.
-/
import Derived.Test.YtoigpokmlohhkaaWireI
import Derived.BigQuiet
import Derived.Deep.QuietTactic
import Derived.ChangeKeysEq
namespace Go.Proofs.Ytoigpokmlohhkaa
open Go.RowKit

theorem str_inj {a b : Wm.Bs} (ha : Wm.isBs a) (hb : Wm.isBs b) (h : strOfNums a = strOfNums b) : a = b := by
  rw [← Wm.ofS_str ha, ← Wm.ofS_str hb, h]

theorem str_eqb {a b : Wm.Bs} (ha : Wm.isBs a) (hb : Wm.isBs b) : ((strOfNums a).toList == (strOfNums b).toList) = decide (a = b) := by
  rw [ByteArray.toList_eq, ByteArray.toList_eq]
  by_cases h : a = b
  · subst h; simp
  · have h2 : ¬ (strOfNums a).data = (strOfNums b).data := fun e => h (str_inj ha hb (by
      cases h1 : strOfNums a; cases h2 : strOfNums b; rw [h1, h2] at e; simp at e; rw [e]))
    simp [h, h2]
theorem ret_bool {a b : Bool} (h : a = b) : Ending.returned (.bool a) = .returned (.bool b) := by rw [h]

set_option maxHeartbeats 400000 in
theorem same_any (A A2 : Option Addr) (n c n2 c2 : Nat) (a b : Wm.Bs) (w : World) (hs : Sl w 1 A n (U a)) (hs2 : Sl w 1 A2 n2 (U b)) (ha : Wm.isBs a) (hb : Wm.isBs b) :
    Calls Try.prog 17 #[.slice A n c, .slice A2 n2 c2] w fun e w' => e = .returned (.bool (decide (a = b))) ∧ w = w' := by
  have h1 := run_str (P := Try.prog) 27 9 5 Try.underlying27 Try.underlying5 Try.underlying9 hs c
  have h2 := run_str (P := Try.prog) 27 9 5 Try.underlying27 Try.underlying5 Try.underlying9 hs2 c2
  have HE := Lib.hid (str_eqb ha hb)
  go_enter Try.func17, Try.ntmps17
  go_wp2
  go_ret
  exact ⟨ret_bool HE.out, rfl⟩

/-- Two lists are alike so far. -/
def Alike {α : Type} (xs ys : List α) (k : Nat) : Prop := ∀ j, j < k → xs[j]? = ys[j]?
theorem Alike.zero {α : Type} (xs ys : List α) : Alike xs ys 0 := fun j hj => by omega
theorem Alike.next {α : Type} {xs ys : List α} {k : Nat} (h : Alike xs ys k) (hx : xs[k]? = ys[k]?) : Alike xs ys (k + 1) := fun j hj => by
  rcases Nat.lt_or_ge j k with h1 | h1
  · exact h j h1
  · rw [show j = k by omega]; exact hx
theorem Alike.all {α : Type} {xs ys : List α} {k : Nat} (h : Alike xs ys k) (hx : xs.length = k) (hy : ys.length = k) : xs = ys := by
  apply List.ext_getElem?
  intro j
  rcases Nat.lt_or_ge j k with h1 | h1
  · exact h j h1
  · rw [List.getElem?_eq_none (by omega), List.getElem?_eq_none (by omega)]

set_option maxRecDepth 100000 in
set_option maxHeartbeats 400000 in
theorem sameInts_any (A A2 : Option Addr) (n c n2 c2 : Nat) (xs ys : List Int) (w : World) (hs : Sl w 1 A n (N64 xs)) (hs2 : Sl w 1 A2 n2 (N64 ys)) (hn : n ≤ maxLen) (hn2 : n2 ≤ maxLen) :
    Calls Try.prog 18 #[.slice A n c, .slice A2 n2 c2] w fun e w' => e = .returned (.bool (decide (xs = ys))) ∧ Later w w' := by
  unfold maxLen at hn hn2
  have hl1 := Lib.hid hs.mlen
  have hl2 := Lib.hid hs2.mlen
  by_cases hnn : n = n2
  · subst hnn
    have t0 : ((n : Int) != (n : Int)) = false := neq_false rfl
    go_enter Try.func18, Try.ntmps18
    go_wp2
    go_loopw [5] (fun i wr => ∃ k : Nat, k ≤ n ∧ i = .int .i64 k ∧ Alike xs ys k ∧ Later w wr) (fun i _ => n - (intOf i).toNat)
    case atStart => exact ⟨0, Nat.zero_le _, rfl, Alike.zero _ _, Below.refl _ _⟩
    case round =>
      obtain ⟨k, hk, rfl, hal, hbr⟩ := hrel
      by_cases hlt : k < n
      · obtain ⟨ad, rfl, hb1, hk1, hc1⟩ := (hs.keep hbr).elem hlt
        obtain ⟨ad2, rfl, hb2, hk2, hc2⟩ := (hs2.keep hbr).elem hlt
        obtain ⟨x, hx⟩ : ∃ x, x = xs[k] := ⟨_, rfl⟩
        obtain ⟨y, hy⟩ : ∃ y, y = ys[k] := ⟨_, rfl⟩
        rw [← hx] at hc1
        rw [← hy] at hc2
        have HX := Lib.hid hx; have HY := Lib.hid hy
        clear hx hy
        by_cases hxy : x = y
        · have t1 : (x != y) = false := neq_false hxy
          have hnx := hal.next (k := k) (by rw [List.getElem?_eq_getElem hk1, List.getElem?_eq_getElem hk2, ← HX.out, ← HY.out, hxy])
          clear hxy
          go_wp2
          go_quiet (fail)
          go_wp2
          go_roundw
          case rel => exact ⟨k + 1, by omega, by go_num, hnx, below_drewN hbr nq⟩
          case measure => simp [intOf]; omega
        · have t1 : (x != y) = true := neq_true hxy
          have hne : xs ≠ ys := fun h => hxy (by rw [HX.out, HY.out]; simp only [h])
          have HN := Lib.hid hne
          clear hxy hne
          go_wp2
          go_quiet (fail)
          go_wp2
          go_ret
          exact ⟨ret_bool (by simp [HN.out]), below_drewN hbr nq⟩
      · obtain rfl : k = n := by omega
        have HN := Lib.hid (hal.all hl1.out hl2.out)
        go_wp2
        go_ret
        exact ⟨ret_bool (by simp [HN.out]), hbr⟩
  · have t0 : ((n : Int) != (n2 : Int)) = true := neq_true (by omega)
    have hne : xs ≠ ys := fun h => hnn (by rw [← hl1.out, ← hl2.out, h])
    have HN := Lib.hid hne; clear hne hnn
    go_enter Try.func18, Try.ntmps18
    go_wp2
    go_ret
    exact ⟨ret_bool (by simp [HN.out]), Below.refl _ _⟩

theorem str_ne {a b : ByteArray} (h : a ≠ b) : (a.toList == b.toList) = false := by
  rw [ByteArray.toList_eq, ByteArray.toList_eq]
  have h2 : ¬ a.data = b.data := fun e => h (by cases a; cases b; simp at e; rw [e])
  simp [h2]

set_option maxRecDepth 100000 in
set_option maxHeartbeats 400000 in
theorem sameTexts_any (A A2 : Option Addr) (n c n2 c2 : Nat) (xs ys : List ByteArray) (w : World) (hs : Sl w 1 A n (Strs xs)) (hs2 : Sl w 1 A2 n2 (Strs ys)) (hn : n ≤ maxLen) (hn2 : n2 ≤ maxLen) :
    Calls Try.prog 16 #[.slice A n c, .slice A2 n2 c2] w fun e w' => e = .returned (.bool (decide (xs = ys))) ∧ Later w w' := by
  unfold maxLen at hn hn2
  have hl1 := Lib.hid hs.mlen
  have hl2 := Lib.hid hs2.mlen
  by_cases hnn : n = n2
  · subst hnn
    have t0 : ((n : Int) != (n : Int)) = false := neq_false rfl
    go_enter Try.func16, Try.ntmps16
    go_wp2
    go_loopw [5] (fun i wr => ∃ k : Nat, k ≤ n ∧ i = .int .i64 k ∧ Alike xs ys k ∧ Later w wr) (fun i _ => n - (intOf i).toNat)
    case atStart => exact ⟨0, Nat.zero_le _, rfl, Alike.zero _ _, Below.refl _ _⟩
    case round =>
      obtain ⟨k, hk, rfl, hal, hbr⟩ := hrel
      by_cases hlt : k < n
      · obtain ⟨ad, rfl, hb1, hk1, hc1⟩ := (hs.keep hbr).elem hlt
        obtain ⟨ad2, rfl, hb2, hk2, hc2⟩ := (hs2.keep hbr).elem hlt
        obtain ⟨x, hx⟩ : ∃ x, x = xs[k] := ⟨_, rfl⟩
        obtain ⟨y, hy⟩ : ∃ y, y = ys[k] := ⟨_, rfl⟩
        rw [← hx] at hc1
        rw [← hy] at hc2
        have HX := Lib.hid hx; have HY := Lib.hid hy
        clear hx hy
        by_cases hxy : x = y
        · have t1 : (x.toList == y.toList) = true := by rw [hxy]; simp
          have hnx := hal.next (k := k) (by rw [List.getElem?_eq_getElem hk1, List.getElem?_eq_getElem hk2, ← HX.out, ← HY.out, hxy])
          clear hxy
          go_wp2
          go_quiet (fail)
          go_wp2
          go_roundw
          case rel => exact ⟨k + 1, by omega, by go_num, hnx, below_drewN hbr nq⟩
          case measure => simp [intOf]; omega
        · have t1 : (x.toList == y.toList) = false := str_ne hxy
          have hne : xs ≠ ys := fun h => hxy (by rw [HX.out, HY.out]; simp only [h])
          have HN := Lib.hid hne
          clear hxy hne
          go_wp2
          go_quiet (fail)
          go_wp2
          go_ret
          exact ⟨ret_bool (by simp [HN.out]), below_drewN hbr nq⟩
      · obtain rfl : k = n := by omega
        have HN := Lib.hid (hal.all hl1.out hl2.out)
        go_wp2
        go_ret
        exact ⟨ret_bool (by simp [HN.out]), hbr⟩
  · have t0 : ((n : Int) != (n2 : Int)) = true := neq_true (by omega)
    have hne : xs ≠ ys := fun h => hnn (by rw [← hl1.out, ← hl2.out, h])
    have HN := Lib.hid hne; clear hne hnn
    go_enter Try.func16, Try.ntmps16
    go_wp2
    go_ret
    exact ⟨ret_bool (by simp [HN.out]), Below.refl _ _⟩

/-- Two digests compared. -/
theorem items_eq (d : Nat) (x y : Wm.Bs) (w : World) : ∀ is : List Nat, (∀ i ∈ is, i < x.length ∧ i < y.length) →
    (Op.eqItems (d + 1) 5 1 (U x).toArray (U y).toArray is).run Try.prog w = .ok (is.all fun i => x.getD i 0 == y.getD i 0) w := by
  have hag : (isAgg 5).run Try.prog w = .ok false w := by kernel_rfl
  intro is
  induction is with
  | nil => intro _; simp [Op.eqItems]
  | cons i r ih =>
    intro h
    have hi := h i (List.mem_cons_self)
    have px : (part 5 (U x).toArray (i * 1)).run Try.prog w = .ok (.int .u8 (x.getD i 0)) w := by
      unfold part
      rw [Sem.run_bind, hag]
      have := U_get x i hi.1
      simp [Result.andThen, this]
    have py : (part 5 (U y).toArray (i * 1)).run Try.prog w = .ok (.int .u8 (y.getD i 0)) w := by
      unfold part
      rw [Sem.run_bind, hag]
      have := U_get y i hi.2
      simp [Result.andThen, this]
    have he := run_equalIn_int (P := Try.prog) w d 5 .u8 .u8 (x.getD i 0) (y.getD i 0) Try.underlying5
    have hr := ih (fun j hj => h j (List.mem_cons_of_mem _ hj))
    simp only [Op.eqItems, Sem.run_bind, px, py, he, Result.andThen_ok, List.all_cons]
    cases hb : (x.getD i 0 == y.getD i 0)
    · simp
    · simpa using hr
theorem range_eq {x y : Wm.Bs} (hx : x.length = 16) (hy : y.length = 16) : ((List.range 16).all fun i => x.getD i 0 == y.getD i 0) = decide (x = y) := by
  by_cases h : x = y
  · subst h; simp
  · rw [decide_eq_false h, Bool.eq_false_iff]
    intro hall
    apply h
    apply List.ext_getElem?
    intro j
    rcases Nat.lt_or_ge j 16 with hj | hj
    · have := List.all_eq_true.1 hall j (List.mem_range.2 hj)
      rw [List.getD_eq_getElem?_getD, List.getD_eq_getElem?_getD, List.getElem?_eq_getElem (by omega), List.getElem?_eq_getElem (by omega)] at this
      rw [List.getElem?_eq_getElem (by omega), List.getElem?_eq_getElem (by omega)]
      simpa using this
    · rw [List.getElem?_eq_none (by omega), List.getElem?_eq_none (by omega)]
theorem dig_eq {x y : Wm.Bs} (hx : x.length = 16) (hy : y.length = 16) (w : World) : (Op.equalIn 10000 47 (.agg (U x).toArray) (.agg (U y).toArray)).run Try.prog w = .ok (decide (x = y)) w := by
  obtain ⟨i0, hi, _, _, _⟩ := info_parts u8_info
  have hc : Try.prog.cellsOf 5 = 1 := by kernel_rfl
  rw [run_equalIn_array w 9999 _ _ dig_under hi, hc, items_eq 9998 x y w _ (fun i hi => by rw [hx, hy]; have := List.mem_range.1 hi; omega), range_eq hx hy]

/-- A whole array read in a region that only reads. -/
theorem wpQuiet_load {P : Program} {ops : Array Oper} {w0 : World} {Q : Act → Prop} {a : Act} {o : Oper} {rest : List Oper} (hw : Region.wanted o (yielded ops a.tmps) = true) (ty : TypeId) (x : Operand) (ho : o.op = .load ty x)
    (ad : Addr) (cs : List Value) (d : TypeDesc) (hx : a.eval x = .pointer (some ad)) (hc : ∀ j v, cs[j]? = some v → w0.cell? (ad.add j) = some v)
    (hu : P.underlying ty = some d) (hd : d.isRow = true) (hi : (P.info? ty).map (·.size) = some cs.length)
    (h : wpQuiet P ops (fun w' => ∃ n, w' = w0.drewN n) Q rest (a.put o.dst (.agg cs.toArray))) : wpQuiet P ops (fun w' => ∃ n, w' = w0.drewN n) Q (o :: rest) a := by
  refine wpQuiet_step fun K hK => ?_
  rw [if_pos hw]
  refine ⟨.agg cs.toArray, fun w' hw' => ?_, hK _ h⟩
  obtain ⟨n, rfl⟩ := hw'
  have hrun := run_loadAt_addr (P := P) (w0.drewN n) ad ty cs d hc hu hd hi
  unfold Oper.quietAt execOp
  simp only [ho, hx, Sem.run_bind, hrun, Sem.run_pure, Result.andThen_ok]
  exact ⟨rfl, rfl⟩

set_option maxRecDepth 100000 in
set_option maxHeartbeats 400000 in
theorem sameDigs_any (A A2 : Option Addr) (n c n2 c2 : Nat) (xs ys : List Wm.Bs) (w : World) (hs : Sl w 16 A n (Ds xs)) (hs2 : Sl w 16 A2 n2 (Ds ys)) (hx : isD xs) (hy : isD ys) (hn : n ≤ maxLen) (hn2 : n2 ≤ maxLen) :
    Calls Try.prog 19 #[.slice A n c, .slice A2 n2 c2] w fun e w' => e = .returned (.bool (decide (xs = ys))) ∧ Later w w' := by
  unfold maxLen at hn hn2
  have hl1 := Lib.hid (hs.dlen hx)
  have hl2 := Lib.hid (hs2.dlen hy)
  by_cases hnn : n = n2
  · subst hnn
    have t0 : ((n : Int) != (n : Int)) = false := neq_false rfl
    go_enter Try.func19, Try.ntmps19
    go_wp2
    go_loopw [5] (fun i wr => ∃ k : Nat, k ≤ n ∧ i = .int .i64 k ∧ Alike xs ys k ∧ Later w wr) (fun i _ => n - (intOf i).toNat)
    case atStart => exact ⟨0, Nat.zero_le _, rfl, Alike.zero _ _, Below.refl _ _⟩
    case round =>
      obtain ⟨k, hk, rfl, hal, hbr⟩ := hrel
      by_cases hlt : k < n
      · obtain ⟨ad, rfl, hb1, hk1, hc1⟩ := (hs.keep hbr).digest hx hlt
        obtain ⟨ad2, rfl, hb2, hk2, hc2⟩ := (hs2.keep hbr).digest hy hlt
        have hX := (hx _ (List.getElem_mem hk1)).1
        have hY := (hy _ (List.getElem_mem hk2)).1
        have hq := fun nq => dig_eq hX hY (wr.drewN nq)
        have hX2 : (Try.prog.info? 47).map (·.size) = some (U xs[k]).length := by rw [U_length, hX]; exact dig_size
        have hY2 : (Try.prog.info? 47).map (·.size) = some (U ys[k]).length := by rw [U_length, hY]; exact dig_size
        obtain ⟨x, ex⟩ : ∃ x, x = U xs[k] := ⟨_, rfl⟩
        obtain ⟨y, ey⟩ : ∃ y, y = U ys[k] := ⟨_, rfl⟩
        by_cases hxy : xs[k] = ys[k]
        · have hnx := hal.next (k := k) (by rw [List.getElem?_eq_getElem hk1, List.getElem?_eq_getElem hk2, hxy])
          rw [decide_eq_true hxy] at hq
          rw [← ex] at hc1 hX2 hq
          rw [← ey] at hc2 hY2 hq
          clear hxy ex ey
          go_wp2
          refine wp_region_quiet_lit (by kernel_rfl) (by kernel_rfl) ?_
          iterate 3 (quiet_step (fail))
          refine wpQuiet_load (by rfl) 47 (.tmp 19) rfl (ad.add (k * 16)) x _ rfl hc1 dig_under rfl hX2 ?_
          iterate 3 (quiet_step (fail))
          refine wpQuiet_load (by rfl) 47 (.tmp 23) rfl (ad2.add (k * 16)) y _ rfl hc2 dig_under rfl hY2 ?_
          quiet_step (fail)
          refine wpQuiet_nil ?_
          intro _ hw'
          obtain ⟨nq, hw''⟩ := hw'
          subst hw''
          go_wp2
          go_roundw
          case rel => exact ⟨k + 1, by omega, by go_num, hnx, below_drewN hbr nq⟩
          case measure => simp [intOf]; omega
        · have hne : xs ≠ ys := fun h => hxy (by simp only [h])
          have HN := Lib.hid hne
          rw [decide_eq_false hxy] at hq
          rw [← ex] at hc1 hX2 hq
          rw [← ey] at hc2 hY2 hq
          clear hxy ex ey hne
          go_wp2
          refine wp_region_quiet_lit (by kernel_rfl) (by kernel_rfl) ?_
          iterate 3 (quiet_step (fail))
          refine wpQuiet_load (by rfl) 47 (.tmp 19) rfl (ad.add (k * 16)) x _ rfl hc1 dig_under rfl hX2 ?_
          iterate 3 (quiet_step (fail))
          refine wpQuiet_load (by rfl) 47 (.tmp 23) rfl (ad2.add (k * 16)) y _ rfl hc2 dig_under rfl hY2 ?_
          quiet_step (fail)
          refine wpQuiet_nil ?_
          intro _ hw'
          obtain ⟨nq, hw''⟩ := hw'
          subst hw''
          go_wp2
          go_ret
          exact ⟨ret_bool (by simp [HN.out]), below_drewN hbr nq⟩
      · obtain rfl : k = n := by omega
        have HN := Lib.hid (hal.all hl1.out hl2.out)
        go_wp2
        go_ret
        exact ⟨ret_bool (by simp [HN.out]), hbr⟩
  · have t0 : ((n : Int) != (n2 : Int)) = true := neq_true (by omega)
    have hne : xs ≠ ys := fun h => hnn (by rw [← hl1.out, ← hl2.out, h])
    have HN := Lib.hid hne; clear hne hnn
    go_enter Try.func19, Try.ntmps19
    go_wp2
    go_ret
    exact ⟨ret_bool (by simp [HN.out]), Below.refl _ _⟩

end Go.Proofs.Ytoigpokmlohhkaa
