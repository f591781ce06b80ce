/-
  THE ARGUMENT OPENED: a slice of tokens; few: not many tokens, and none too long.
-/
import Derived.Test.YtjopadfkdpcjmaaDoorLexU
import Derived.Deep.Strs
namespace Go.Proofs.YtjopadfkdpcjmaaDoor
open Go.RowKit Go.ChangeShapes Go.WideShapes Go.ChangeAt

theorem cells_at {w : World} {base : Nat} {a : Addr} {n : Nat} {cs : List Value} (h : w.cells? base a n = some cs) : cs.length = n ∧ ∀ j, j < n → w.cell? (a.add j) = cs[j]? := by
  unfold World.cells? at h
  split at h
  · refine ⟨by simpa using mapM_some_length h, fun j hj => mapM_some_get h j j (by simp [hj])⟩
  · cases h
section
variable {H : Type} {enc : TypeId × Value → H} {P : Program} {W : World} {r : Reach} {b0 : Nat} {v : Value} {d : DataW H} {p : List MemPlace}
theorem token_open {t : TypeId} {f0 f1 f2 f3 : Field} {fuel : Nat} {cs : List Value} {x : DataW H × List MemPlace} (ht : P.underlying t = some (.struct #[f0, f1, f2, f3])) (o0 : f0.offset = 0) (o1 : f1.offset = 1) (o2 : f2.offset = 2) (o3 : f3.offset = 3)
    (h0 : P.underlying f0.type = some (.int .i64)) (h1 : P.underlying f1.type = some (.int .i64)) (h2 : P.underlying f2.type = some (.int .i64)) (h3 : P.underlying f3.type = some .string) (c0 : P.cellsOf f0.type = 1) (c1 : P.cellsOf f1.type = 1) (c2 : P.cellsOf f2.type = 1) (c3 : P.cellsOf f3.type = 1) (hct : P.cellsOf t = 4)
    (hf : DataW.trod enc P W 0 (fun _ => true) true fuel t cs = some x) : ∃ w : Lx.Tok, cs = Tk w := by
  obtain ⟨xs, m, rfl, hx, hl, hxl, hall⟩ := DataW.trod_struct ht hf
  have k0 := hall 0 f0 rfl
  have k1 := hall 1 f1 rfl
  have k2 := hall 2 f2 rfl
  have k3 := hall 3 f3 rfl
  rw [hct] at hl
  simp only [List.size_toArray, List.length_cons, List.length_nil] at hxl
  match xs, hxl with
  | [y0, y1, y2, y3], _ =>
    rw [o0, c0] at k0
    rw [o1, c1] at k1
    rw [o2, c2] at k2
    rw [o3, c3] at k3
    obtain ⟨z0, e0, _⟩ := DataW.trod_int h0 k0
    obtain ⟨z1, e1, _⟩ := DataW.trod_int h1 k1
    obtain ⟨z2, e2, _⟩ := DataW.trod_int h2 k2
    obtain ⟨z3, e3, _⟩ := DataW.trod_string h3 k3
    refine ⟨⟨z0, z1, z2, z3.data.toList⟩, ?_⟩
    match cs, hl with
    | [x0, x1, x2, x3], _ =>
      simp at e0 e1 e2 e3
      rw [e0, e1, e2, e3]
      simp [Tk]
theorem tokens_arg {t e : TypeId} {f0 f1 f2 f3 : Field} (hs : P.underlying t = some (.slice e)) (ht : P.underlying e = some (.struct #[f0, f1, f2, f3])) (o0 : f0.offset = 0) (o1 : f1.offset = 1) (o2 : f2.offset = 2) (o3 : f3.offset = 3)
    (h0 : P.underlying f0.type = some (.int .i64)) (h1 : P.underlying f1.type = some (.int .i64)) (h2 : P.underlying f2.type = some (.int .i64)) (h3 : P.underlying f3.type = some .string) (c0 : P.cellsOf f0.type = 1) (c1 : P.cellsOf f1.type = 1) (c2 : P.cellsOf f2.type = 1) (c3 : P.cellsOf f3.type = 1) (hct : P.cellsOf e = 4)
    (hv : Value.okWide P W r b0 t v) (h : DataW.Trod enc P W 0 (fun _ => true) true t v d p) : ∃ A n c l, v = .slice A n c ∧ n ≤ c ∧ c ≤ maxLen ∧ Sl W 4 A n (Tks l) ∧ l.length = n := by
  obtain ⟨a0, len, cap, rfl⟩ := okWide_slice hs hv
  obtain ⟨fuel, hf⟩ := h
  rcases Deep.open_slice hs hf with ⟨hcs, hx⟩ | ⟨a, len', cap', m, n, D, Pl, hcs, _, hl, hm, hmm, hx, hel⟩
  · simp [Value.cells] at hcs
    obtain ⟨rfl, rfl, rfl⟩ := hcs
    exact ⟨none, 0, 0, [], rfl, Nat.le_refl _, Nat.zero_le _, Sl.nil _ _ _, rfl⟩
  · simp [Value.cells] at hcs
    obtain ⟨rfl, rfl, rfl⟩ := hcs
    simp only [if_true] at hmm
    have each : ∀ i, i < len → ∃ w : Lx.Tok, ∀ j, j < 4 → W.cell? ((a.add (i * 4)).add j) = (Tk w)[j]? := by
      intro i hi
      obtain ⟨cs', h4, h5⟩ := hel i (by omega)
      rw [hct] at h4
      obtain ⟨w, rfl⟩ := token_open ht o0 o1 o2 o3 h0 h1 h2 h3 c0 c1 c2 c3 hct h5
      exact ⟨w, (cells_at h4).2⟩
    haveI : Inhabited Lx.Tok := ⟨Lx.Tok.zero⟩
    obtain ⟨f, hfl⟩ := Deep.choose_lt each
    refine ⟨some a, len, cap, (List.range len).map f, rfl, hl, hm, ⟨by rw [Tks_len]; simp, fun hn => ⟨a, rfl, ?_, ?_⟩⟩, by simp⟩
    · have h4 := hfl 0 hn 0 (by omega)
      have h5 := World.block_lt_of_cell? W _ (h4.trans (show (Tk (f 0))[0]? = some _ from rfl))
      rwa [addr_add_block, addr_add_block] at h5
    · intro j y hy
      have hj : j < len * 4 := by
        rcases Nat.lt_or_ge j (len * 4) with h | h
        · exact h
        · rw [List.getElem?_eq_none (by rw [Tks_len]; simpa using h)] at hy; cases hy
      have h4 := hfl (j / 4) (by omega) (j % 4) (by omega)
      rw [addr_add_add, show j / 4 * 4 + j % 4 = j by omega] at h4
      rw [h4]
      have h5 := Tks_at ((List.range len).map f) (j / 4) (by simp; omega) (j % 4) (by omega)
      rw [show j / 4 * 4 + j % 4 = j by omega] at h5
      rw [← hy, h5]
      simp
end

/-- Few tokens, none of them long. -/
def fewB (l : List Lx.Tok) : Bool := (l.all fun t => decide (t.s.length ≤ 400)) && decide (l.length ≤ 100)
set_option maxRecDepth 100000 in
set_option maxHeartbeats 4000000 in
theorem few_any (A : Option Addr) (n c : Nat) (l : List Lx.Tok) (w : World) (hs : Sl w 4 A n (Tks l)) (hll : l.length = n) (hn : n ≤ maxLen) :
    Calls Tryd.prog 15 #[.slice A n c] w fun e w' => e = .returned (.bool (fewB l)) ∧ Later w w' := by
  unfold maxLen at hn
  have HS := Lib.hid fun w' (h : Later w w') => hs.keep h
  have HAD := Lib.hid fun (h : 0 < n) => (show ∃ ad, A = some ad from by obtain ⟨ad, e, _⟩ := hs.2 h; exact ⟨ad, e⟩)
  obtain ⟨R, hR⟩ : ∃ R, fewB l = R := ⟨_, rfl⟩
  rw [hR]
  have HR := Lib.hid hR
  clear hs hR
  go_enter Tryd.func15, Tryd.ntmps15
  go_wp2
  go_loopw [7] (fun i wr => ∃ k : Nat, k ≤ n ∧ i = .int .i64 k ∧ Aside (∀ j (h : j < l.length), j < k → l[j].s.length ≤ 400) ∧ Later w wr) (fun i _ => n - (intOf i).toNat)
  case atStart => exact ⟨0, Nat.zero_le _, rfl, fun j _ h => absurd h (by omega), later0 _⟩
  case round =>
    obtain ⟨k, hk, rfl, hall, hbr⟩ := hrel
    rename_i wr
    by_cases hlt : k < n
    · obtain ⟨ad, rfl⟩ := HAD.out (by omega)
      have hkl : k < l.length := by omega
      have cx := Lib.hid (Sl.tok (HS.out wr hbr) hkl hll)
      obtain ⟨t, ht⟩ : ∃ t, l[k]'hkl = t := ⟨_, rfl⟩
      rw [ht] at cx
      by_cases h4 : t.s.length ≤ 400
      · have hall2 : Aside (∀ j (h : j < l.length), j < k + 1 → l[j].s.length ≤ 400) := fun j h hj => by
          rcases Nat.lt_succ_iff_lt_or_eq.1 hj with h' | rfl
          · exact hall j h h'
          · rw [ht]; exact h4
        clear ht hall HAD
        obtain ⟨tk, ta, tn, ts⟩ := t
        unfold Tk at cx
        simp only at cx h4
        obtain ⟨zs, hzs⟩ : ∃ z : ByteArray, (⟨ts.toArray⟩ : ByteArray) = z := ⟨_, rfl⟩
        have hz : zs.size ≤ 400 := by rw [← hzs]; exact h4
        have tz := tk_sz ⟨tk, ta, tn, ts⟩
        unfold Tk at tz
        simp only at tz
        rw [hzs] at cx tz
        have d0 : decide ((400 : Int) < (zs.size : Int)) = false := decide_eq_false (by omega)
        have g0 : ¬ (400 : Int) < (zs.size : Int) := by omega
        clear h4 hzs
        go_wp2_with (first
          | (refine wpList_load_addr (o := ⟨some 10, .load 41 (.tmp 9), _, _, _, none⟩) rfl _ _ rfl (ad.add (k * 4)) [.int .i64 tk, .int .i64 ta, .int .i64 tn, .string zs] _ rfl cx.out Tryd.underlying41 rfl tz ?_))
        go_roundw
        case rel => exact ⟨k + 1, by omega, by go_num, hall2, hbr.alloc hbr.size _⟩
        case measure => first | (simp [intOf]; omega) | (simp [intOf]; done) | (simp; omega)
      · have hpr : R = false := by
          rw [← HR.out]
          unfold fewB
          cases hq : (l.all fun t => decide (t.s.length ≤ 400)) with
          | false => rfl
          | true =>
            rw [List.all_eq_true] at hq
            have := hq _ (List.getElem_mem hkl)
            rw [ht] at this
            exact absurd (of_decide_eq_true this) h4
        have HP := Lib.hid hpr
        clear ht hall HAD hpr
        obtain ⟨tk, ta, tn, ts⟩ := t
        unfold Tk at cx
        simp only at cx h4
        obtain ⟨zs, hzs⟩ : ∃ z : ByteArray, (⟨ts.toArray⟩ : ByteArray) = z := ⟨_, rfl⟩
        have hz : ¬ zs.size ≤ 400 := by rw [← hzs]; exact h4
        have tz := tk_sz ⟨tk, ta, tn, ts⟩
        unfold Tk at tz
        simp only at tz
        rw [hzs] at cx tz
        have d0 : decide ((400 : Int) < (zs.size : Int)) = true := decide_eq_true (by omega)
        have g0 : (400 : Int) < (zs.size : Int) := by omega
        clear h4 hzs
        go_wp2_with (first
          | (refine wpList_load_addr (o := ⟨some 10, .load 41 (.tmp 9), _, _, _, none⟩) rfl _ _ rfl (ad.add (k * 4)) [.int .i64 tk, .int .i64 ta, .int .i64 tn, .string zs] _ rfl cx.out Tryd.underlying41 rfl tz ?_))
        go_ret
        rw [HP.out]
        exact ⟨rfl, hbr.alloc hbr.size _⟩
    · have hkn : n = k := by omega
      subst hkn
      have hpr : R = decide ((n : Int) ≤ 100) := by
        rw [← HR.out]
        unfold fewB
        rw [show (l.all fun t => decide (t.s.length ≤ 400)) = true from List.all_eq_true.2 fun x hx => by
          obtain ⟨j, hj, rfl⟩ := List.mem_iff_getElem.1 hx
          exact decide_eq_true (hall j hj (by omega)), Bool.true_and, hll]
        exact decide_eq_decide.2 (by omega)
      have HP := Lib.hid hpr
      clear hall HAD HS HR hpr
      go_wp2
      go_ret
      rw [HP.out]
      exact ⟨rfl, hbr⟩
end Go.Proofs.YtjopadfkdpcjmaaDoor
