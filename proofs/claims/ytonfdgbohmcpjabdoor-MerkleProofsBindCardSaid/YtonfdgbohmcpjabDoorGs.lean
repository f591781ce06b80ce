/-
  AN ARGUMENT OF PEAKS: opened.
-/
import Derived.Test.YtonfdgbohmcpjabDoorGf
import Derived.Test.YtonfdgbohmcpjabDoorGn
namespace Go.Proofs.YtonfdgbohmcpjabDoor
open Go.RowKit Go.ChangeShapes Go.WideShapes Go.ChangeAt

section
variable {H : Type} {enc : TypeId × Value → H} {P : Program} {W : World} {r : Reach} {b0 : Nat} {v : Value} {d : DataW H} {p : List MemPlace}
theorem digs_open {t e u : TypeId} {fuel : Nat} {cs : List Value} {x : DataW H × List MemPlace} (ht : P.underlying t = some (.slice e)) (he : P.underlying e = some (.array 16 u)) (hu : P.underlying u = some (.int .u8)) (hc : P.cellsOf e = 16) (hcu : P.cellsOf u = 1) (hf : DataW.trod enc P W 0 (fun _ => true) true fuel t cs = some x) :
    ∃ A n c l, cs = [.slice A n c] ∧ n ≤ c ∧ c ≤ maxLen ∧ Sl W 16 A n (Ds l) ∧ isD l := by
  rcases Deep.open_slice ht hf with ⟨hcs, hx⟩ | ⟨a, len, cap, m, n, D, Pl, hcs, _, hl, hm, hmm, hx, hel⟩
  · exact ⟨none, 0, 0, [], hcs, Nat.le_refl _, Nat.zero_le _, Sl.nil _ _ _, fun x hx => by cases hx⟩
  · simp only [if_true] at hmm
    have each : ∀ i, i < len → ∃ b : Wm.Bs, b.length = 16 ∧ Wm.isBs b ∧ ∀ j, j < 16 → W.cell? ((a.add (i * 16)).add j) = (U b)[j]? := by
      intro i hi
      obtain ⟨cs', h1, h2⟩ := hel i (by omega)
      rw [hc] at h1
      obtain ⟨b, h3, h4, rfl⟩ := digest_open he hu hcu hc h2
      exact ⟨b, h3, h4, (cells_at h1).2⟩
    obtain ⟨f, hfl⟩ := Deep.choose_lt each
    have hD : isD ((List.range len).map f) := fun y hy => by
      obtain ⟨i, hi, rfl⟩ := List.mem_map.1 hy
      exact ⟨(hfl i (by simpa using hi)).1, (hfl i (by simpa using hi)).2.1⟩
    refine ⟨some a, len, cap, (List.range len).map f, hcs, hl, hm, ⟨by unfold Ds; rw [U_length, flat_len hD]; simp, fun hn => ⟨a, rfl, ?_, ?_⟩⟩, hD⟩
    · have h0 := (hfl 0 hn).2.2 0 (by omega)
      rw [U_get _ 0 (by rw [(hfl 0 hn).1]; omega)] at h0
      have h1 := World.block_lt_of_cell? W _ h0
      rwa [addr_add_block, addr_add_block] at h1
    · intro j y hy
      have hj : j < len * 16 := by
        rcases Nat.lt_or_ge j (len * 16) with h | h
        · exact h
        · rw [List.getElem?_eq_none (by unfold Ds; rw [U_length, flat_len hD]; simpa using h)] at hy; cases hy
      have hk : j / 16 < len := by omega
      have h1 := (hfl (j / 16) hk).2.2 (j % 16) (by omega)
      rw [addr_add_add, show j / 16 * 16 + j % 16 = j by omega] at h1
      rw [h1]
      have h2 := flat_at hD (j / 16) (by simpa using hk) (j % 16) (by omega)
      rw [show j / 16 * 16 + j % 16 = j by omega] at h2
      unfold Ds U at hy
      unfold U
      rw [List.getElem?_map, h2] at hy
      rw [List.getElem?_map, ← hy]
      simp
theorem peaks_arg {t e u : TypeId} {f0 f1 : Field} (ht : P.underlying t = some (.struct #[f0, f1])) (o0 : f0.offset = 0) (o1 : f1.offset = 1) (h0 : P.underlying f0.type = some (.int .i64)) (h1 : P.underlying f1.type = some (.slice e)) (he : P.underlying e = some (.array 16 u)) (hu : P.underlying u = some (.int .u8))
    (c0 : P.cellsOf f0.type = 1) (c1 : P.cellsOf f1.type = 1) (hc : P.cellsOf e = 16) (hcu : P.cellsOf u = 1) (hct : P.cellsOf t = 2) (hv : Value.okWide P W r b0 t v) (h : DataW.Trod enc P W 0 (fun _ => true) true t v d p) :
    ∃ (s : Int) (A : Option Addr) (n c : Nat) (l : List Wm.Bs), v = .agg #[.int .i64 s, .slice A n c] ∧ n ≤ c ∧ c ≤ maxLen ∧ Sl W 16 A n (Ds l) ∧ isD l := by
  obtain ⟨cs, rfl, hsz⟩ := okWide_struct ht hv
  obtain ⟨fuel, hf⟩ := h
  obtain ⟨y0, y1, m, _, _, k0, k1⟩ := trod_struct2 ht hf
  rw [o0, c0] at k0
  rw [o1, c1] at k1
  obtain ⟨z, hz, _, _⟩ := DataW.trod_int h0 k0
  obtain ⟨A, n, c, l, hcs, r1, r2, r3, r4⟩ := digs_open h1 he hu hc hcu k1
  refine ⟨z, A, n, c, l, ?_, r1, r2, r3, r4⟩
  obtain ⟨l2⟩ := cs
  rw [hct] at hsz
  match l2, hsz with
  | [x, y], _ =>
    simp [Value.cells] at hz hcs
    rw [hz, hcs]
end
end Go.Proofs.YtonfdgbohmcpjabDoor

/-
  WALKS: the reference's ones, Formed, Top.
-/
namespace Go.Proofs.YtonfdgbohmcpjabDoor
open Go.RowKit Go.ChangeShapes Go.WideShapes Go.ChangeAt

set_option maxRecDepth 100000 in
set_option maxHeartbeats 1000000 in
theorem refOnes_any (s : Nat) (hs : s ≤ 1099511627776) (w : World) : Calls Tryd.prog 67 #[.int .i64 s] w fun e w' => e = .returned (.int .i64 (Mk.ones s : Nat)) ∧ w = w' := by
  have hb : Mk.ones s ≤ 64 := by rw [← pop_ones 64 s (by omega)]; exact Pop.ones_le 64 _
  obtain ⟨z, hz⟩ : ∃ z, z = Mk.ones s := ⟨_, rfl⟩
  rw [← hz] at hb ⊢
  have HZ := Lib.hid hz
  clear hz
  go_enter Tryd.func67, Tryd.ntmps67
  go_wp2
  go_loop [0, 3] (fun n k => ∃ m q o : Nat, Hid (o = Mk.ones m) ∧ q + o = z ∧ m ≤ 1099511627776 ∧ n = .int .i64 m ∧ k = .int .i64 q) (fun n _ => (intOf n).toNat)
  case atStart => exact ⟨s, 0, z, HZ, by omega, hs, rfl, rfl⟩
  case round =>
    obtain ⟨m, q, o, ho, hq, hm, rfl, rfl⟩ := hrel
    by_cases h0 : m = 0
    · subst h0
      have h1 : o = 0 := by rw [ho.out, Mk.ones_zero]
      have h2 : ¬ ((0 : Nat) : Int) > 0 := by decide
      obtain rfl : q = z := by omega
      go_wp2
      go_ret
      exact ⟨rfl, rfl⟩
    · have h1 : (m : Int) > 0 := by omega
      have h3 := Mk.ones_step m h0
      have h4 : (m : Int).tmod 2 = ((m % 2 : Nat) : Int) := by rw [Int.tmod_eq_emod_of_nonneg (by omega)]; rfl
      have h5 : (m : Int).tdiv 2 = ((m / 2 : Nat) : Int) := by rw [Int.tdiv_eq_ediv_of_nonneg (by omega)]; rfl
      have h6 := Nat.mod_lt m (show 0 < 2 by decide)
      have h7 : o = m % 2 + Mk.ones (m / 2) := by rw [ho.out, h3]
      obtain ⟨o2, ho2⟩ : ∃ o2, o2 = Mk.ones (m / 2) := ⟨_, rfl⟩
      rw [← ho2] at h7
      have HO := Lib.hid ho2
      clear h3 ho2
      obtain ⟨b, hbb⟩ : ∃ b, b = m % 2 := ⟨_, rfl⟩
      obtain ⟨d, hdd⟩ : ∃ d, d = m / 2 := ⟨_, rfl⟩
      rw [← hbb] at h4 h6 h7
      rw [← hdd] at h5 HO
      have hdm : d < m := by omega
      clear hbb hdd
      go_wp2
      go_round
      case rel => exact ⟨d, q + b, o2, HO, by omega, by omega, by go_num, by go_num⟩
      case measure => simp [intOf]; omega
set_option maxRecDepth 100000 in
set_option maxHeartbeats 1000000 in
theorem refFormed_any (s : Int) (A : Option Addr) (n c : Nat) (w : World) :
    Calls Tryd.prog 51 #[.agg #[.int .i64 s, .slice A n c]] w fun e w' => e = .returned (.bool (decide (WF s n))) ∧ Later w w' := by
  obtain ⟨w0, hw0⟩ : ∃ w0, w0 = w.alloc (.cells #[.int .i64 s, .slice A n c] 43) := ⟨_, rfl⟩
  have hl0 : Later w w0 := by rw [hw0]; exact laterA _ _
  have hb : Blk w0 w.heap.size 43 [.int .i64 s, .slice A n c] := by rw [hw0]; exact Blk.new _ _ _ _ rfl
  have k0 := cell_regrown (hb.cell (j := 0) rfl); have k1 := cell_regrown (hb.cell (j := 1) rfl)
  have hw1 := Lib.hid hw0; have HL := Lib.hid hl0
  clear hw0 hl0 hb
  by_cases h0 : 0 ≤ s
  · by_cases h1 : s ≤ 1099511627776
    · obtain ⟨x, rfl⟩ := Int.eq_ofNat_of_zero_le h0
      have K := reM (w := w0) (fun w' _ => (refOnes_any x (by omega) w').mono fun e w'' ⟨h1, h2⟩ => (⟨h1, h2 ▸ Below.refl _ _⟩ : e = _ ∧ Later w' w''))
      have hp : Pop.ones 64 (x : Int).toNat = Mk.ones x := pop_ones 64 _ (by rw [Int.toNat_natCast]; omega)
      obtain ⟨m, hm⟩ : ∃ m, m = Mk.ones x := ⟨_, rfl⟩
      rw [← hm] at K hp
      by_cases he : n = m
      · rw [decide_eq_true (show WF (x : Int) n from ⟨h0, h1, by rw [he, hp]⟩)]
        have e1 : ((n : Int) == (m : Int)) = true := by rw [he]; simp
        clear hm he hp
        go_enter Tryd.func51, Tryd.ntmps51
        go_wp2
        rw [← hw1.out]
        refine wp_region_quiet_below (by kernel_rfl) (by kernel_rfl) ?_
        repeat (go_big_quiet_step (first | with_reducible exact K _ _))
        refine wpQuiet_nil ?_
        rintro _ ⟨⟨dq, osq⟩, rfl⟩
        go_wp2
        go_ret
        exact ⟨rfl, Later.trans_ HL.out (below_regrown w0 dq osq)⟩
      · rw [decide_eq_false (fun h : WF (x : Int) n => he (by rw [← hp]; exact h.2.2))]
        have e1 : ((n : Int) == (m : Int)) = false := beq_eq_false_iff_ne.2 (by omega)
        clear hm he hp
        go_enter Tryd.func51, Tryd.ntmps51
        go_wp2
        rw [← hw1.out]
        refine wp_region_quiet_below (by kernel_rfl) (by kernel_rfl) ?_
        repeat (go_big_quiet_step (first | with_reducible exact K _ _))
        refine wpQuiet_nil ?_
        rintro _ ⟨⟨dq, osq⟩, rfl⟩
        go_wp2
        go_ret
        exact ⟨rfl, Later.trans_ HL.out (below_regrown w0 dq osq)⟩
    · rw [decide_eq_false (fun h : WF s n => h1 h.2.1)]
      have d1 : decide (s ≤ 1099511627776) = false := decide_eq_false h1
      go_enter Tryd.func51, Tryd.ntmps51
      go_wp2
      rw [← hw1.out]
      refine wp_region_quiet_below (by kernel_rfl) (by kernel_rfl) ?_
      repeat (go_big_quiet_step (fail))
      refine wpQuiet_nil ?_
      rintro _ ⟨⟨dq, osq⟩, rfl⟩
      go_wp2
      go_ret
      exact ⟨rfl, Later.trans_ HL.out (below_regrown w0 dq osq)⟩
  · rw [decide_eq_false (fun h : WF s n => h0 h.1)]
    have d1 : decide (0 ≤ s) = false := decide_eq_false h0
    go_enter Tryd.func51, Tryd.ntmps51
    go_wp2
    rw [← hw1.out]
    refine wp_region_quiet_below (by kernel_rfl) (by kernel_rfl) ?_
    repeat (go_big_quiet_step (fail))
    refine wpQuiet_nil ?_
    rintro _ ⟨⟨dq, osq⟩, rfl⟩
    go_wp2
    go_ret
    exact ⟨rfl, Later.trans_ HL.out (below_regrown w0 dq osq)⟩

/-- A root, or an error, as cells. -/
def TpC (R : Wm.Bs) (e : Int) : List Value := U R ++ [.int .i64 e]
theorem TpC_len {R : Wm.Bs} (h : R.length = 16) (e : Int) : (TpC R e).length = 17 := by unfold TpC; rw [List.length_append, U_length, h]; rfl
theorem TpC_one (R : Wm.Bs) (e : Int) : ∀ u ∈ TpC R e, u.oneCell' = true := by
  intro u hu
  rcases List.mem_append.1 (show u ∈ U R ++ _ from hu) with h | h
  · exact U_one _ u h
  · rw [List.mem_singleton.1 h]; rfl
theorem TpC_sz {R : Wm.Bs} (h : R.length = 16) (e : Int) : (Tryd.prog.info? 52).map (·.size) = some (TpC R e).length := by rw [TpC_len h]; kernel_rfl
theorem TpC_same {R S : Wm.Bs} (h : R.length = 16) (h2 : S.length = 16) (e f : Int) : (TpC R e).length = (TpC S f).length := by rw [TpC_len h, TpC_len h2]
theorem built_tp16 (a0 a1 a2 a3 a4 a5 a6 a7 a8 a9 a10 a11 a12 a13 a14 a15 : Int) : Tryd.prog.built 52 [(0, .agg (U [a0, a1, a2, a3, a4, a5, a6, a7, a8, a9, a10, a11, a12, a13, a14, a15]).toArray)] = some (TpC [a0, a1, a2, a3, a4, a5, a6, a7, a8, a9, a10, a11, a12, a13, a14, a15] 0).toArray := by kernel_rfl
theorem built_tp {R : Wm.Bs} (h : R.length = 16) : Tryd.prog.built 52 [(0, .agg (U R).toArray)] = some (TpC R 0).toArray := by
  match R, h with
  | [a0, a1, a2, a3, a4, a5, a6, a7, a8, a9, a10, a11, a12, a13, a14, a15], _ => exact built_tp16 a0 a1 a2 a3 a4 a5 a6 a7 a8 a9 a10 a11 a12 a13 a14 a15
theorem run_tp {R : Wm.Bs} (h : R.length = 16) (w : World) : (Instr.build 52 #[(0, .agg (U R).toArray)]).run Tryd.prog w = .ok (.agg (TpC R 0).toArray) w := run_build w _ _ _ (built_tp h)
theorem built_tp3 : Tryd.prog.built 52 [(1, .int .i64 3)] = some (TpC zD 3).toArray := by kernel_rfl
theorem run_tp3 (w : World) : (Instr.build 52 #[(1, .int .i64 3)]).run Tryd.prog w = .ok (.agg (TpC zD 3).toArray) w := run_build w _ _ _ (show Tryd.prog.built 52 [(1, .int .i64 3)] = some (TpC zD 3).toArray from built_tp3)
theorem wpList_tp {R : Wm.Bs} (h : R.length = 16) {ops : Array Oper} {rest : List Oper} {o : Oper} {a : Act} {w : World} {Q : Exit → Act → World → Prop} (hg : o.guard = none) (x : Operand) (ho : o.op = .build 52 #[(0, x)]) (hx : a.eval x = .agg (U R).toArray)
    (hK : wpList Tryd.prog ops Q rest (a.put o.dst (.agg (TpC R 0).toArray)) w) : wpList Tryd.prog ops Q (o :: rest) a w := by
  refine wpList_plain hg fun K' hK' => ?_
  unfold Oper.wp execOp
  simp only [ho, List.map_toArray, List.map_cons, List.map_nil, hx, Sem.run_bind, Sem.run_pure, run_tp h, Result.andThen_ok]
  exact hK' _ _ hK
theorem tp_ret {R : Wm.Bs} {e : Int} {w : World} {fn : Func} {p : Tmp} (h : fn.results = #[.cell p 52]) (tmps : Array Value) (g : Nat) (t : TypeId) (hR : R.length = 16)
    (hp : tmps.getD p undef = .pointer (some ⟨g, 0, none⟩)) (hg : Blk w g t (TpC R e)) : (results fn tmps).run Tryd.prog w = .ok (.agg (TpC R e).toArray) w :=
  results_blk h tmps w g t (TpC R e) _ hp hg Tryd.underlying52 rfl (TpC_sz hR e)
set_option maxRecDepth 100000 in
set_option maxHeartbeats 1000000 in
theorem refTop_bad (s : Int) (A : Option Addr) (n c : Nat) (w : World) (h : ¬ WF s n) :
    Calls Tryd.prog 28 #[.agg #[.int .i64 s, .slice A n c]] w fun e w' => e = .returned (.agg (TpC zD 3).toArray) ∧ Later w w' := by
  have HF := Lib.hid fun w' => by have h2 := refFormed_any s A n c w'; rw [decide_eq_false h] at h2; exact h2
  have hbd := run_tp3
  clear h
  go_enter Tryd.func28, Tryd.ntmps28
  go_wp2_with (first
    | (go_at_call 51; refine (HF.out _).mono ?_; rintro e w1 ⟨rfl, l1⟩)
    | ((with_reducible refine wpList_store_abs (o := ⟨none, .store 52 (.tmp 2) (.tmp 10), _, _, _, none⟩) rfl _ _ _ rfl (w.heap.size + 1) 52 (TpC zD 0) (TpC zD 3) ?_ ?_ ((Blk.new' _ _ _ _ _ (by simp) rfl).keep l1) (TpC_sz zD_len 3) (TpC_same zD_len zD_len 0 3) (TpC_one _ _) ?_); rfl; rfl; intro w5 z1 z2))
  exact bodyPost_ret (v := .agg (TpC zD 3).toArray) (tp_ret Tryd.results28 _ (w.heap.size + 1) 52 zD_len rfl z1) rfl ⟨rfl, Below.only (Later.trans_ (((Below.refl _ _).alloc (Nat.le_refl _) _).alloc (by simp) _) l1) z2 (by omega)⟩
set_option maxRecDepth 100000 in
set_option maxHeartbeats 1000000 in
theorem refTop_zero (A : Option Addr) (n c : Nat) (w : World) (h : WF 0 n) (tab : Tab0 w) :
    Calls Tryd.prog 28 #[.agg #[.int .i64 0, .slice A n c]] w fun e w' => e = .returned (.agg (TpC emptyD 0).toArray) ∧ Later w w' := by
  have HF := Lib.hid fun w' => by have h2 := refFormed_any 0 A n c w'; rw [decide_eq_true h] at h2; exact h2
  have HE := Lib.hid fun (w' : World) (hw : Later w w') => refEmpty_any w' (tab.keep hw)
  have hl : emptyD.length = 16 := digOf_len _
  obtain ⟨F, hFe⟩ : ∃ F, F = emptyD := ⟨_, rfl⟩
  rw [← hFe] at HE hl ⊢
  have HL := Lib.hid hl
  clear h tab hl hFe
  go_enter Tryd.func28, Tryd.ntmps28
  go_wp2_with (first
    | (go_at_call 51; refine (HF.out _).mono ?_; rintro e w1 ⟨rfl, l1⟩; have b0 := (((Blk.new w 43 #[.int .i64 0, .slice A n c] _ rfl).alloc (.cells (TpC zD 0).toArray 52)).keep l1); have c0 := b0.cell (j := 0) (v := .int .i64 0) rfl)
    | (go_at_call 39; refine (HE.out _ (Later.trans_ (((Below.refl _ _).alloc (Nat.le_refl _) _).alloc (by simp) _) l1)).mono ?_; rintro e w2 ⟨rfl, l2⟩)
    | ((with_reducible refine wpList_tp HL.out (o := ⟨some 15, .build 52 #[(0, .tmp 14)], _, _, _, none⟩) rfl (.tmp 14) ?_ ?_ ?_); rfl; rfl)
    | ((with_reducible refine wpList_store_abs (o := ⟨none, .store 52 (.tmp 2) (.tmp 15), _, _, _, none⟩) rfl _ _ _ rfl (w.heap.size + 1) 52 (TpC zD 0) (TpC F 0) ?_ ?_ (((Blk.new' _ _ _ _ _ (by simp) rfl).keep l1).keep l2) (TpC_sz HL.out 0) (TpC_same zD_len HL.out 0 0) (TpC_one _ _) ?_); rfl; rfl; intro w5 z1 z2))
  exact bodyPost_ret (v := .agg (TpC F 0).toArray) (tp_ret Tryd.results28 _ (w.heap.size + 1) 52 HL.out rfl z1) rfl ⟨rfl, Below.only (Later.trans_ (Later.trans_ (((Below.refl _ _).alloc (Nat.le_refl _) _).alloc (by simp) _) l1) l2) z2 (by omega)⟩
set_option maxRecDepth 100000 in
set_option maxHeartbeats 2000000 in
theorem refTop_any (s : Int) (A : Option Addr) (n c : Nat) (T : List Wm.Bs) (w : World) (h : WF s n) (h0 : s ≠ 0) (hs : Sl w 16 A n (Ds T)) (hT : isD T) (tab : Tab0 w) :
    Calls Tryd.prog 28 #[.agg #[.int .i64 s, .slice A n c]] w fun e w' => e = .returned (.agg (TpC (Mk.topOf nodeD emptyD T) 0).toArray) ∧ Later w w' := by
  have HF := Lib.hid fun w' => by have h2 := refFormed_any s A n c w'; rw [decide_eq_true h] at h2; exact h2
  have hn : n ≤ 64 := by rw [h.2.2]; exact Pop.ones_le 64 _
  have hn1 : 1 ≤ n := by
    rw [h.2.2, pop_ones 64 _ (by have := h.1; have := h.2.1; omega)]
    exact ones_pos _ _ (Nat.le_refl _) (by have := h.1; omega)
  have hTl := hs.dlen hT
  have e0 : (s == 0) = false := beq_eq_false_iff_ne.2 h0
  obtain ⟨ad, rfl, hbl, hkl, hcl⟩ := hs.digest hT (k := n - 1) (by omega)
  have hr0 : Mk.topOf nodeD emptyD (T.drop (n - 1)) = T[n - 1] := by
    rw [List.drop_eq_getElem_cons (by omega), List.drop_eq_nil_of_le (by omega)]; rfl
  have HD := Lib.hid (hT _ (List.getElem_mem hkl))
  have HC := Lib.hid fun (w' : World) (hw : Later w w') (j : Nat) (v : Value) (hv : (U T[n - 1])[j]? = some v) => (by
    obtain ⟨a2, e, _, _, hc2⟩ := (hs.keep hw).digest hT (k := n - 1) (by omega)
    cases e
    exact hc2 j v hv : w'.cell? ((ad.add ((n - 1) * 16)).add j) = some v)
  obtain ⟨R0, hR0⟩ : ∃ R, R = T[n - 1] := ⟨_, rfl⟩
  rw [← hR0] at HC hr0 HD
  have TB := Lib.hid tab
  have HS := Lib.hid hs; have HT := Lib.hid hT; have HR := Lib.hid hr0; have HTl := Lib.hid hTl
  have x1 : IntKind.i64.wrap ((n : Int) - 1) = ((n - 1 : Nat) : Int) := by rw [IntWalk.i64_in _ (by omega)]; omega
  have x2 : ((n - 1 : Nat) : Int) < (n : Int) := by omega
  clear h hs hT tab hTl hr0 hR0 h0 hcl hkl hbl
  go_enter Tryd.func28, Tryd.ntmps28
  go_wp2_with (first
    | (go_at_call 51; refine (HF.out _).mono ?_; rintro e w1 ⟨rfl, l1⟩; have l2 := Later.trans_ (((Below.refl w.heap.size w).alloc (Nat.le_refl _) _).alloc (by simp) _) l1; have b0 := (((Blk.new w 43 #[.int .i64 s, .slice (some ad) n c] _ rfl).alloc (.cells (TpC zD 0).toArray 52)).keep l1); have c0 := b0.cell (j := 0) (v := .int .i64 s) rfl; have c1 := b0.cell (j := 1) (v := .slice (some ad) n c) rfl)
    | ((with_reducible refine wpList_load_addr (o := ⟨some 23, .load 31 (.tmp 22), _, _, _, none⟩) rfl _ _ rfl (ad.add ((n - 1) * 16)) (U R0) _ ?_ (fun j v hv => ?_) Tryd.underlying31 rfl (dig_sz HD.out.1) ?_); rfl; exact HC.out _ l2 j v hv)
    | ((with_reducible refine wpList_store_abs (o := ⟨none, .store 31 (.tmp 4) (.tmp 23), _, _, _, none⟩) rfl _ _ _ rfl w1.heap.size 31 (PartB [] 16) (U R0) ?_ ?_ (Blk.new w1 _ _ _ rfl) (dig_sz HD.out.1) (dig_z HD.out.1) (U_one _) ?_); rfl; rfl; intro w5 z1 z2; have bP := (b0.alloc (.cells (PartB [] 16).toArray 31)).only z2 (Nat.ne_of_lt b0.lt); clear c0 c1; have c1b := bP.cell (j := 1) (v := .slice (some ad) n c) rfl))
  have l5 : Later w w5 := Below.only (l2.alloc l2.size _) z2 l2.size
  have bR := (((Blk.new' (w.alloc (.cells #[.int .i64 s, .slice (some ad) n c] 43)) (w.heap.size + 1) 52 _ (TpC zD 0) (by simp) rfl).keep l1).alloc (.cells (PartB [] 16).toArray 31)).only z2 (Nat.ne_of_lt (by have := l1.size; simp at this; omega))
  have hB : w.heap.size + 2 ≤ w1.heap.size := by have := l1.size; simp at this; omega
  obtain ⟨B5, hB5⟩ : ∃ b, b = w1.heap.size := ⟨_, rfl⟩
  rw [← hB5] at z1 hB ⊢
  clear hB5 z2 l2 l1 b0 c1b
  go_loopw [5] (fun v wr => ∃ (j : Nat) (z : Int) (R : Wm.Bs), v = .int .i64 z ∧ j ≤ n - 1 ∧ z < (j : Int) ∧ (j : Int) ≤ z + 1 ∧ R.length = 16 ∧ Mk.topOf nodeD emptyD (T.drop j) = R ∧ Blk wr B5 31 (U R) ∧ Blk wr w.heap.size 43 [.int .i64 s, .slice (some ad) n c] ∧ Blk wr (w.heap.size + 1) 52 (TpC zD 0) ∧ Later w wr) (fun v _ => (intOf v + 1).toNat)
  case atStart => exact ⟨n - 1, (n : Int) - 2, R0, by go_num, Nat.le_refl _, by omega, by omega, HD.out.1, HR.out, z1, bP, bR, l5⟩
  case round =>
    clear z1 bP bR l5 x1 x2 HR HC HF
    obtain ⟨j, z, R, rfl, hj, hz1, hz2, hRl, hRt, bT, bP, bR, lr⟩ := hrel
    have HRl := Lib.hid hRl
    by_cases hlt : 0 ≤ z
    · obtain ⟨k, rfl⟩ := Int.eq_ofNat_of_zero_le hlt
      obtain rfl : j = k + 1 := by omega
      have hkn : (k : Int) < (n : Int) := by omega
      have HCk := Lib.hid ((HS.out.keep lr).digest HT.out (k := k) (by omega))
      obtain ⟨ad2, e2, _, hkl, hck⟩ := HCk.out
      cases e2
      have HDk := Lib.hid (HT.out _ (List.getElem_mem hkl))
      have hst : Mk.topOf nodeD emptyD (T.drop k) = nodeD T[k] R := by
        rw [List.drop_eq_getElem_cons hkl, Mk.topOf_cons _ _ _ _ (by intro h; have h2 := congrArg List.length h; rw [List.length_drop, HTl.out] at h2; simp at h2; omega), hRt]
      have HN := Lib.hid fun (w' : World) (hw : Later w w') => refNode_any T[k] R w' HDk.out.1 HRl.out (TB.out.keep hw)
      obtain ⟨Y, hY⟩ : ∃ Y, Y = T[k] := ⟨_, rfl⟩
      obtain ⟨N, hN⟩ : ∃ N, N = nodeD T[k] R := ⟨_, rfl⟩
      have HNl := Lib.hid (show N.length = 16 by rw [hN]; exact nodeD_len _ _)
      rw [← hN] at HN hst
      rw [← hY] at HN HDk hck
      have HST := Lib.hid hst
      have HCK := Lib.hid hck
      clear hst hck hY hN HCk hRt hRl
      have c1 := bP.cell (j := 1) (v := .slice (some ad) n c) rfl
      go_wp2_with fail
      refine wp_region_still_tail 6 (by kernel_rfl) (by kernel_rfl) ?_
      simp only [List.take_succ_cons, List.take_zero, List.drop_succ_cons, List.drop_zero]
      have c1d : wr.drew.cell? ⟨w.heap.size, 1, none⟩ = some (.slice (some ad) n c) := c1
      still_step
      still_step
      still_step
      still_step
      refine wpStill_load_addr (o := ⟨some 36, .load 31 (.tmp 35), _, _, _, none⟩) _ _ rfl (ad.add (k * 16)) (U Y) _ (by rfl) (by rfl) (fun j v hv => HCK.out j v hv) Tryd.underlying31 rfl (dig_sz HDk.out.1) ?_
      simp only [Act.put, List.setIfInBounds_toArray, List.set_cons_zero, List.set_cons_succ]
      refine wpStill_load_addr (o := ⟨some 37, .load 31 (.tmp 4), _, _, _, none⟩) _ _ rfl ⟨B5, 0, none⟩ (U R) _ (by rfl) (by rfl) bT.drew.addr Tryd.underlying31 rfl (dig_sz HRl.out) ?_
      simp only [Act.put, List.setIfInBounds_toArray, List.set_cons_zero, List.set_cons_succ]
      refine wpStill_nil ?_
      change wpList _ _ _ _ _ wr.drew
      go_wp2_with (first
        | (go_at_call 20; refine (HN.out _ lr.drew).mono ?_; rintro e w6 ⟨rfl, l6⟩)
        | ((with_reducible refine wpList_store_abs (o := ⟨none, .store 31 (.tmp 4) (.tmp 38), _, _, _, none⟩) rfl _ _ _ rfl B5 31 (U R) (U N) ?_ ?_ (bT.drew.keep l6) (dig_sz HNl.out) (by rw [U_length, U_length, HRl.out, HNl.out]) (U_one _) ?_); rfl; rfl; intro w7 z1 z2))
      have l7 : Later w w7 := Below.only (Later.trans_ lr.drew l6) z2 (by omega)
      have p7 := (bP.drew.keep l6).only z2 (by omega)
      have r7 := (bR.drew.keep l6).only z2 (by omega)
      go_roundw
      case rel => exact ⟨k, (k : Int) - 1, N, by go_num, by omega, by omega, by omega, HNl.out, HST.out, z1, p7, r7, l7⟩
      case measure => simp [intOf]
    · obtain rfl : j = 0 := by omega
      rw [List.drop_zero] at hRt
      have HRt := Lib.hid hRt
      have HLr := Lib.hid lr
      clear hRt hRl lr
      go_wp2_with (first
        | ((with_reducible refine wpList_load_blk (o := ⟨some 39, .load 31 (.tmp 4), _, _, _, none⟩) rfl _ _ rfl B5 31 (U R) _ ?_ bT Tryd.underlying31 rfl (dig_sz HRl.out) ?_); rfl)
        | ((with_reducible refine wpList_tp HRl.out (o := ⟨some 40, .build 52 #[(0, .tmp 39)], _, _, _, none⟩) rfl (.tmp 39) ?_ ?_ ?_); rfl; rfl)
        | ((with_reducible refine wpList_store_abs (o := ⟨none, .store 52 (.tmp 2) (.tmp 40), _, _, _, none⟩) rfl _ _ _ rfl (w.heap.size + 1) 52 (TpC zD 0) (TpC R 0) ?_ ?_ bR (TpC_sz HRl.out 0) (TpC_same zD_len HRl.out 0 0) (TpC_one _ _) ?_); rfl; rfl; intro w8 z1 z2))
      exact bodyPost_ret (v := .agg (TpC R 0).toArray) (tp_ret Tryd.results28 _ (w.heap.size + 1) 52 HRl.out rfl z1) rfl ⟨by rw [HRt.out], Below.only HLr.out z2 (by omega)⟩
end Go.Proofs.YtonfdgbohmcpjabDoor

/-
  WALKS: the reference's Append.
-/
namespace Go.Proofs.YtonfdgbohmcpjabDoor
open Go.RowKit Go.ChangeShapes Go.WideShapes Go.ChangeAt

theorem gr_ret {a b e : Value} {w : World} {fn : Func} {p : Tmp} (h : fn.results = #[.cell p 49]) (tmps : Array Value) (g : Nat) (t : TypeId)
    (hp : tmps.getD p undef = .pointer (some ⟨g, 0, none⟩)) (hg : Blk w g t [a, b, e]) : (results fn tmps).run Tryd.prog w = .ok (.agg #[a, b, e]) w :=
  results_blk h tmps w g t [a, b, e] _ hp hg Tryd.underlying49 rfl (by kernel_rfl)
set_option maxRecDepth 100000 in
set_option maxHeartbeats 1000000 in
theorem refAppend_bad (s : Int) (A : Option Addr) (n c : Nat) (X : Wm.Bs) (w : World) (h : ¬ WF s n) :
    Calls Tryd.prog 27 #[.agg #[.int .i64 s, .slice A n c], .agg (U X).toArray] w fun e w' => e = .returned (.agg #[.int .i64 0, .slice none 0 0, .int .i64 3]) ∧ Later w w' := by
  have HF := Lib.hid fun w' => by have h2 := refFormed_any s A n c w'; rw [decide_eq_false h] at h2; exact h2
  obtain ⟨X0, hX0⟩ : ∃ Y, Y = (U X).toArray := ⟨_, rfl⟩
  rw [← hX0]
  clear h hX0
  go_enter Tryd.func27, Tryd.ntmps27
  go_wp2_with (go_at_call 51; refine (HF.out _).mono ?_; rintro e w1 ⟨rfl, l1⟩; have l2 := Later.trans_ ((((Below.refl w.heap.size w).alloc (Nat.le_refl _) _).alloc (by simp) _).alloc (by simp; omega) _) l1; have bR := (Blk.new' ((w.alloc (.cells #[.int .i64 s, .slice A n c] 43)).alloc (.cells X0 31)) (w.heap.size + 1 + 1) 49 _ [.int .i64 0, .slice none 0 0, .int .i64 0] (by simp) rfl).keep l1; have bP := (((Blk.new w 43 #[.int .i64 s, .slice A n c] _ rfl).alloc (.cells X0 31)).alloc (.cells #[.int .i64 0, .slice none 0 0, .int .i64 0] 49)).keep l1; have p0 := bP.cell (j := 0) (v := .int .i64 s) rfl; have g0 := bR.cell (j := 0) rfl; have g1 := bR.cell (j := 1) rfl; have g2 := bR.cell (j := 2) rfl; have f0 := bR.frz 0; have f1 := bR.frz 1; have f2 := bR.frz 2)
  exact bodyPost_ret (v := .agg #[.int .i64 0, .slice none 0 0, .int .i64 3]) (gr_ret Tryd.results27 _ (w.heap.size + 1 + 1) 49 rfl (((bR.set 0 (.int .i64 0)).set 1 (.slice none 0 0)).set 2 (.int .i64 3))) rfl ⟨rfl, ((l2.setCell (by show w.heap.size ≤ w.heap.size + 1 + 1; omega) _).setCell (by show w.heap.size ≤ w.heap.size + 1 + 1; omega) _).setCell (by show w.heap.size ≤ w.heap.size + 1 + 1; omega) _⟩
set_option maxRecDepth 100000 in
set_option maxHeartbeats 1000000 in
theorem refAppend_full (A : Option Addr) (n c : Nat) (X : Wm.Bs) (w : World) (h : WF 1099511627776 n) :
    Calls Tryd.prog 27 #[.agg #[.int .i64 1099511627776, .slice A n c], .agg (U X).toArray] w fun e w' => e = .returned (.agg #[.int .i64 0, .slice none 0 0, .int .i64 2]) ∧ Later w w' := by
  have HF := Lib.hid fun w' => by have h2 := refFormed_any 1099511627776 A n c w'; rw [decide_eq_true h] at h2; exact h2
  obtain ⟨X0, hX0⟩ : ∃ Y, Y = (U X).toArray := ⟨_, rfl⟩
  rw [← hX0]
  clear h hX0
  go_enter Tryd.func27, Tryd.ntmps27
  go_wp2_with (go_at_call 51; refine (HF.out _).mono ?_; rintro e w1 ⟨rfl, l1⟩; have l2 := Later.trans_ ((((Below.refl w.heap.size w).alloc (Nat.le_refl _) _).alloc (by simp) _).alloc (by simp; omega) _) l1; have bR := (Blk.new' ((w.alloc (.cells #[.int .i64 1099511627776, .slice A n c] 43)).alloc (.cells X0 31)) (w.heap.size + 1 + 1) 49 _ [.int .i64 0, .slice none 0 0, .int .i64 0] (by simp) rfl).keep l1; have bP := (((Blk.new w 43 #[.int .i64 1099511627776, .slice A n c] _ rfl).alloc (.cells X0 31)).alloc (.cells #[.int .i64 0, .slice none 0 0, .int .i64 0] 49)).keep l1; have p0 := bP.cell (j := 0) (v := .int .i64 1099511627776) rfl; have g0 := bR.cell (j := 0) rfl; have g1 := bR.cell (j := 1) rfl; have g2 := bR.cell (j := 2) rfl; have f0 := bR.frz 0; have f1 := bR.frz 1; have f2 := bR.frz 2)
  exact bodyPost_ret (v := .agg #[.int .i64 0, .slice none 0 0, .int .i64 2]) (gr_ret Tryd.results27 _ (w.heap.size + 1 + 1) 49 rfl (((bR.set 0 (.int .i64 0)).set 1 (.slice none 0 0)).set 2 (.int .i64 2))) rfl ⟨rfl, ((l2.setCell (by show w.heap.size ≤ w.heap.size + 1 + 1; omega) _).setCell (by show w.heap.size ≤ w.heap.size + 1 + 1; omega) _).setCell (by show w.heap.size ≤ w.heap.size + 1 + 1; omega) _⟩

theorem gr_one (a b e : Value) (ha : a.oneCell' = true) (hb : b.oneCell' = true) (he : e.oneCell' = true) : ∀ u ∈ [a, b, e], u.oneCell' = true := fun x hx => by
  simp only [List.mem_cons, List.not_mem_nil, or_false] at hx
  rcases hx with rfl | rfl | rfl <;> assumption
def GotPr (s : Int) (l : List Wm.Bs) (w : World) (e : Ending) (w' : World) : Prop :=
  ∃ A c, e = .returned (.agg #[.int .i64 s, .slice A l.length c, .int .i64 0]) ∧ Pt w' A l.length c l ∧ Later w w'
set_option maxRecDepth 100000 in
set_option maxHeartbeats 4000000 in
theorem refAppend_any (s : Nat) (A : Option Addr) (n c : Nat) (T : List Wm.Bs) (X : Wm.Bs) (w : World) (h : WF (s : Int) n) (h0 : (s : Int) ≠ 1099511627776) (hs : Sl w 16 A n (Ds T)) (hT : isD T) (hX : X.length = 16 ∧ Wm.isBs X) (tab : Tab0 w) :
    Calls Tryd.prog 27 #[.agg #[.int .i64 s, .slice A n c], .agg (U X).toArray] w fun e w' => GotPr ((s : Int) + 1) (Mk.app nodeD emptyD s T X) w e w' := by
  have HF := Lib.hid fun w' => by have h2 := refFormed_any s A n c w'; rw [decide_eq_true h] at h2; exact h2
  have hn : n ≤ 64 := by rw [h.2.2]; exact Pop.ones_le 64 _
  have hs1 : s < 1099511627776 := by have := h.2.1; omega
  have hno : n = Mk.ones s := by rw [h.2.2, pop_ones 64 _ (by rw [Int.toNat_natCast]; omega), Int.toNat_natCast]
  have hTl := hs.dlen hT
  have e0 : ((s : Int) == 1099511627776) = false := beq_eq_false_iff_ne.2 h0
  have TB := Lib.hid tab
  have HS := Lib.hid hs; have HT := Lib.hid hT; have HTl := Lib.hid hTl; have HNO := Lib.hid hno; have HX := Lib.hid hX
  obtain ⟨G, hG⟩ : ∃ G, G = Mk.app nodeD emptyD s T X := ⟨_, rfl⟩
  have HG := Lib.hid hG
  rw [← hG]
  obtain ⟨X0, hX0⟩ : ∃ X0, X0 = (U X).toArray := ⟨_, rfl⟩
  have HX0 := Lib.hid hX0
  rw [← hX0]
  obtain ⟨i0, hI⟩ := dgI
  have HI := Lib.hid hI
  have sz3 : w.heap.size + 3 ≤ (((w.alloc (.cells #[.int .i64 s, .slice A n c] 43)).alloc (.cells X0 31)).alloc (.cells #[.int .i64 0, .slice none 0 0, .int .i64 0] 49)).heap.size := by simp
  clear h hs hT tab hTl h0 hno hG hX0 hX hI
  go_enter Tryd.func27, Tryd.ntmps27
  go_wp2_with (first
    | (go_at_call 51; refine (HF.out _).mono ?_; rintro e w1 ⟨rfl, l1⟩; have l2 := Later.trans_ ((((Below.refl w.heap.size w).alloc (Nat.le_refl _) (.cells #[.int .i64 s, .slice A n c] 43)).alloc (by simp) (.cells X0 31)).alloc (by simp; omega) (.cells #[.int .i64 0, .slice none 0 0, .int .i64 0] 49)) l1; have bR := (Blk.new' ((w.alloc (.cells #[.int .i64 s, .slice A n c] 43)).alloc (.cells X0 31)) (w.heap.size + 1 + 1) 49 _ [.int .i64 0, .slice none 0 0, .int .i64 0] (by simp) rfl).keep l1; have bP := (((Blk.new w 43 #[.int .i64 s, .slice A n c] _ rfl).alloc (.cells X0 31)).alloc (.cells #[.int .i64 0, .slice none 0 0, .int .i64 0] 49)).keep l1; have bL := ((Blk.new' (w.alloc (.cells #[.int .i64 s, .slice A n c] 43)) (w.heap.size + 1) 31 X0 (U X) (by simp) HX0.out).alloc (.cells #[.int .i64 0, .slice none 0 0, .int .i64 0] 49)).keep l1; have sz1 : w.heap.size + 3 ≤ w1.heap.size := Nat.le_trans sz3 l1.size; have p0 := bP.cell (j := 0) (v := .int .i64 s) rfl; have p1 := (bP.alloc (.cells #[] 31)).cell (j := 1) (v := .slice A n c) rfl; have own0 := own_empty w1 (w.heap.size + 3) sz1)
    | ((with_reducible refine wpList_plain (o := ⟨some 21, .call { callee := .builtin .append, args := #[.tmp 18, .tmp 20], argTypes := #[22, 22] }, _, _, _, none⟩) rfl (fun K' hK => ?_)); refine wp_app _ (.tmp 18) (.tmp 20) 22 rfl (w.heap.size + 3) 31 i0 _ 16 16 Tryd.underlying22 HI.out.hi HI.out.hz HI.out.hs HI.out.hb rfl (by decide) (.slice (some ⟨w1.heap.size, 0, none⟩) 0 0) 0 [] rfl own0 A n c (Ds T) rfl ((HS.out.keep l2).keep (laterZ _ _)) (U_one _) (by unfold maxLen; omega) (by omega) (by simp; omega) ?_; intro v1 w2 own1 grow1; refine hK _ _ ?_; clear hK K'; have k2 : Later w1 w2 := (laterZ w1 (.cells #[] 31)).grown grow1 (by simp) (fun b hb => (by have : b = w1.heap.size := (by simpa [Value.ownBlock] using hb.symm); omega)); replace bR := bR.keep k2; replace bP := bP.keep k2; replace bL := bL.keep k2; replace l2 := Later.trans_ l2 k2)
    | ((with_reducible refine wpList_load_blk (o := ⟨some 22, .load 31 (.tmp 3), _, _, _, none⟩) rfl _ _ rfl (w.heap.size + 1) 31 (U X) _ ?_ bL Tryd.underlying31 rfl (dig_sz HX.out.1) ?_); rfl)
    | ((with_reducible refine wpList_store_abs (o := ⟨none, .store 31 (.tmp 7) (.tmp 22), _, _, _, none⟩) rfl _ _ _ rfl w2.heap.size 31 (PartB [] 16) (U X) ?_ ?_ (Blk.new w2 _ _ _ rfl) (dig_sz HX.out.1) (dig_z HX.out.1) (U_one _) ?_); rfl; rfl; intro w3 x7 o7; have k3 : Later w2 w3 := Below.only (laterZ w2 (.cells (PartB [] 16).toArray 31)) o7 (Nat.le_refl _); replace bR := bR.keep k3; replace bP := bP.keep k3; replace l2 := Later.trans_ l2 k3; clear p0 p1; have p0 := bP.cell (j := 0) (v := .int .i64 s) rfl))
  have own3 := own_below own1 k3
  rw [List.nil_append, Nat.zero_add] at own3
  have hg7 : ∀ g, v1.ownBlock = some g → g ≠ w2.heap.size := fun g hg => by have := (own1.lt g hg).2; omega
  have hBs : w.heap.size + 3 ≤ w2.heap.size := by have := k2.size; omega
  obtain ⟨B7, e7⟩ : ∃ B, B = w2.heap.size := ⟨_, rfl⟩
  have hB7 : w.heap.size + 3 ≤ B7 := by rw [e7]; exact hBs
  rw [← e7] at x7 hg7 ⊢
  clear e7 o7 k3 k2 own1 grow1 own0 bL l1 sz1 hBs p0
  go_loopw [6, 8] (fun v z wr => ∃ (m b : Nat) (ts : List Wm.Bs) (x : Wm.Bs), z = .int .i64 m ∧ m ≤ 1099511627776 ∧ w.heap.size + 3 ≤ b ∧ b ≤ wr.heap.size ∧ wr.ownsRow b 31 16 v ts.length (Ds ts) ∧ Hid (∀ g, v.ownBlock = some g → g ≠ B7) ∧ Hid (ts.length = Mk.ones m) ∧ ts.length ≤ 64 ∧ Hid (isD ts) ∧ Hid (x.length = 16 ∧ Wm.isBs x) ∧ Hid (Mk.app nodeD emptyD m ts x = G) ∧ Blk wr B7 31 (U x) ∧ Blk wr (w.heap.size + 1 + 1) 49 [.int .i64 0, .slice none 0 0, .int .i64 0] ∧ Blk wr w.heap.size 43 [.int .i64 s, .slice A n c] ∧ Later w wr) (fun _ z _ => (intOf z).toNat)
  case atStart => exact ⟨s, w.heap.size + 3, T, X, rfl, by omega, Nat.le_refl _, by have := x7.lt; omega, by rw [HTl.out]; exact own3, Lib.hid hg7, Lib.hid (by rw [HTl.out, HNO.out]), by rw [HTl.out]; exact hn, HT, HX, Lib.hid HG.out.symm, x7, bR, bP, l2⟩
  case round =>
    clear x7 bR bP l2 own3 hg7 HF HNO HTl
    obtain ⟨m, b, ts, x, rfl, hm, hb1, hb2, own, SEP, HLN, hl64, HD, HXX, HGG, x7, bR, bP, lr⟩ := hrel
    by_cases hodd : m % 2 = 1
    · have ht : (m : Int).tmod 2 = 1 := by rw [Int.tmod_eq_emod_of_nonneg (by omega)]; omega
      have hm0 : m ≠ 0 := by omega
      have ho : 1 ≤ ts.length := by rw [HLN.out]; exact ones_pos _ _ (Nat.le_refl _) hm0
      have hdv : (m : Int).tdiv 2 = ((m / 2 : Nat) : Int) := by rw [Int.tdiv_eq_ediv_of_nonneg (by omega)]; rfl
      obtain ⟨A1, c1, rfl, q1, q2, q3, q4⟩ := own_form own
      obtain ⟨ad, eA, hadb, hkl, hck⟩ := q3.digest HD.out (k := ts.length - 1) (by omega)
      obtain ⟨Y, hY⟩ : ∃ Y, Y = ts[ts.length - 1] := ⟨_, rfl⟩
      have HYD := Lib.hid (HD.out _ (List.getElem_mem hkl))
      rw [← hY] at hck HYD
      have HCK := Lib.hid hck
      have hlast : ∀ z, ts.getLastD z = Y := fun z => by
        rw [List.getLastD_eq_getLast?, List.getLast?_eq_getElem?, List.getElem?_eq_getElem hkl, hY]; rfl
      have happ := Mk.app_odd nodeD emptyD m ts x hodd
      rw [hlast] at happ
      have HN := Lib.hid fun (w' : World) (hw : Later w w') => refNode_any Y x w' HYD.out.1 HXX.out.1 (TB.out.keep hw)
      obtain ⟨N, hN⟩ : ∃ N, N = nodeD Y x := ⟨_, rfl⟩
      have HND : Hid (N.length = 16 ∧ Wm.isBs N) := Lib.hid (by rw [hN]; exact ⟨nodeD_len _ _, nodeD_bs _ _⟩)
      rw [← hN] at HN happ
      have HAP : Hid (Mk.app nodeD emptyD (m / 2) ts.dropLast N = G) := Lib.hid (by rw [← happ]; exact HGG.out)
      have HL2 : Hid (ts.dropLast.length = Mk.ones (m / 2)) := Lib.hid (by
        rw [List.length_dropLast, HLN.out, Mk.ones_step m hm0]; omega)
      have HD2 : Hid (isD ts.dropLast) := Lib.hid (fun d hd => HD.out d (List.dropLast_subset _ hd))
      have HTK : Hid (ts.dropLast = ts.take (ts.length - 1)) := Lib.hid (List.dropLast_eq_take)
      obtain ⟨t, hlt⟩ : ∃ t, t = ts.length - 1 := ⟨_, rfl⟩
      have HLT : Hid (ts.length = t + 1) := Lib.hid (by omega)
      have e1 : IntKind.i64.wrap (((t + 1 : Nat) : Int) - 1) = t := by rw [IntWalk.i64_in _ (by omega)]; omega
      have ht2 : (t : Int) < (t : Int) + 1 := by omega
      have e2 : IntKind.i64.wrap (t : Int) = t := IntWalk.i64_in _ (by omega)
      rw [← hlt] at HCK HTK
      have SL2 := Lib.hid (sl_take q3 HD.out (k := t) (by omega))
      rw [HLT.out] at own q1 hl64 ⊢
      subst eA
      have ht64 : t ≤ 63 := by omega
      have htc : ¬ c1 < t := by omega
      clear hck hY hN hlast happ hlt hkl HGG HLN q2 q3 ho
      go_wp2_with fail
      refine wp_region_still_tail 7 (by kernel_rfl) (by kernel_rfl) ?_
      simp only [List.take_succ_cons, List.take_zero, List.drop_succ_cons, List.drop_zero]
      still_step
      still_step
      still_step
      still_step
      still_step
      refine wpStill_load_addr (o := ⟨some 35, .load 31 (.tmp 34), _, _, _, none⟩) _ _ rfl (ad.add (t * 16)) (U Y) _ (by rfl) (by rfl) (fun j v hv => HCK.out j v hv) Tryd.underlying31 rfl (dig_sz HYD.out.1) ?_
      simp only [Act.put, List.setIfInBounds_toArray, List.set_cons_zero, List.set_cons_succ]
      refine wpStill_load_addr (o := ⟨some 36, .load 31 (.tmp 7), _, _, _, none⟩) _ _ rfl ⟨B7, 0, none⟩ (U x) _ (by rfl) (by rfl) x7.drew.addr Tryd.underlying31 rfl (dig_sz HXX.out.1) ?_
      simp only [Act.put, List.setIfInBounds_toArray, List.set_cons_zero, List.set_cons_succ]
      refine wpStill_nil ?_
      change wpList _ _ _ _ _ wr.drew
      go_wp2_with (first
        | (go_at_call 20; refine (HN.out _ lr.drew).mono ?_; rintro e w6 ⟨rfl, l6⟩)
        | ((with_reducible refine wpList_store_abs (o := ⟨none, .store 31 (.tmp 7) (.tmp 37), _, _, _, none⟩) rfl _ _ _ rfl B7 31 (U x) (U N) ?_ ?_ (x7.drew.keep l6) (dig_sz HND.out.1) (by rw [U_length, U_length, HXX.out.1, HND.out.1]) (U_one _) ?_); rfl; rfl; intro w7 y7 z7; have sl7 : Sl w7 16 (some ad) t (Ds (ts.take t)) := (SL2.out.drew.keep l6).only z7 (SEP.out ad.block rfl); have lw7 : Later w w7 := Below.only (Later.trans_ lr.drew l6) z7 (by omega); have own0 := own_empty w7 w7.heap.size (Nat.le_refl _))
        | ((with_reducible refine wpList_plain (o := ⟨some 44, .call { callee := .builtin .append, args := #[.tmp 38, .tmp 43], argTypes := #[22, 22] }, _, _, _, none⟩) rfl (fun K' hK => ?_)); refine wp_app _ (.tmp 38) (.tmp 43) 22 rfl w7.heap.size 31 i0 _ 16 16 Tryd.underlying22 HI.out.hi HI.out.hz HI.out.hs HI.out.hb rfl (by decide) (.slice (some ⟨w7.heap.size, 0, none⟩) 0 0) 0 [] rfl own0 (some ad) t c1 (Ds (ts.take t)) rfl (sl7.keep (laterZ _ _)) (U_one _) (by unfold maxLen; omega) (by omega) (by simp) ?_; intro v2 w8 own1 grow1; refine hK _ _ ?_; clear hK K'))
      have k8 : Later w7 w8 := (laterZ w7 (.cells #[] 31)).grown grow1 (by simp) (fun b hb => (by have : b = w7.heap.size := (by simpa [Value.ownBlock] using hb.symm); omega))
      have p7 := ((bP.drew.keep l6).only z7 (by omega)).keep k8
      have r7 := ((bR.drew.keep l6).only z7 (by omega)).keep k8
      rw [List.nil_append, Nat.zero_add] at own1
      go_roundw
      case rel => exact ⟨m / 2, w7.heap.size, ts.dropLast, N, by go_num, by omega, by have := y7.lt; omega, by have := k8.size; omega, by rw [HTK.out, show (ts.take t).length = t by rw [List.length_take, HLT.out]; omega]; exact own1, Lib.hid (fun g hg => by have := (own1.lt g hg).1; have := y7.lt; omega), HL2, by rw [List.length_dropLast, HLT.out]; omega, HD2, HND, HAP, y7.keep k8, r7, p7, Later.trans_ lw7 k8⟩
      case measure => simp [intOf]; omega
    · have ht : (m : Int).tmod 2 = 0 := by rw [Int.tmod_eq_emod_of_nonneg (by omega)]; omega
      have happ := Mk.app_even nodeD emptyD m ts x hodd
      have HAP : Hid (G = ts ++ [x]) := Lib.hid (by rw [← HGG.out]; exact happ)
      clear happ HGG
      go_wp2
      have HRR := Lib.hid bR
      have hcP := fun (w' : World) (h : Blk w' w.heap.size 43 [.int .i64 s, .slice A n c]) => h.cell (j := 0) (v := .int .i64 s) rfl
      have HCP := Lib.hid hcP
      have es : IntKind.i64.wrap ((s : Int) + 1) = (s : Int) + 1 := IntWalk.i64_in _ (by omega)
      refine wp_region_held_drew (S := fun w' => w'.rangeAt B7 0 (U x) ∧ w'.cell? ⟨w.heap.size, 0, none⟩ = some (.int .i64 s)) (by kernel_rfl) ⟨blk_at x7.drew, HCP.out _ bP.drew⟩ (fun hHeld => ?_)
      refine wpAnyH_take (i := 0) (oi := ⟨some 45, .fieldAddr 43 (.tmp 2) 0, _, _, _, none⟩) (v := .pointer (some ⟨w.heap.size, 0, none⟩)) rfl (by kernel_rfl) (by kernel_rfl) (by kernel_rfl) (fun _ _ _ h => h) (Or.inl ⟨by rfl, fun w _ => by go_simp⟩) hHeld ?_
      simp only [Act.put, List.setIfInBounds_toArray, List.set_cons_zero, List.set_cons_succ]
      refine wpAnyH_take (i := 1) (oi := ⟨some 46, .load 3 (.tmp 45), _, _, _, none⟩) (v := .int .i64 s) rfl (by kernel_rfl) (by kernel_rfl) (by kernel_rfl) (fun _ _ _ h => h) (Or.inl ⟨by rfl, fun w h => by have hc := h.2; go_simp⟩) hHeld ?_
      simp only [Act.put, List.setIfInBounds_toArray, List.set_cons_zero, List.set_cons_succ]
      refine wpAnyH_take (i := 2) (oi := ⟨some 47, .binOp .add 3 (.tmp 46) (.const (.int .i64 1)) 3, _, _, _, none⟩) (v := .int .i64 ((s : Int) + 1)) rfl (by kernel_rfl) (by kernel_rfl) (by kernel_rfl) (fun _ _ _ h => h) (Or.inl ⟨by rfl, fun w _ => by go_simp⟩) hHeld ?_
      simp only [Act.put, List.setIfInBounds_toArray, List.set_cons_zero, List.set_cons_succ]
      refine wpAnyH_take (i := 3) (oi := ⟨some 48, .move (.tmp 6), _, _, _, none⟩) (v := u6) rfl (by kernel_rfl) (by kernel_rfl) (by kernel_rfl) (fun _ _ _ h => h) (Or.inl ⟨by rfl, fun _ _ => rfl⟩) hHeld ?_
      simp only [Act.put, List.setIfInBounds_toArray, List.set_cons_zero, List.set_cons_succ]
      refine wpAnyH_take (i := 4) (oi := ⟨some 49, .load 31 (.tmp 7), _, _, _, none⟩) (v := .agg (U x).toArray) rfl (by kernel_rfl) (by kernel_rfl) (by kernel_rfl) (fun _ _ _ h => h) (yieldsIf_load_mid (by rfl) _ _ rfl _ _ rfl _ _ (fun w h => h.1) Tryd.underlying31 rfl (dig_sz HXX.out.1)) hHeld ?_
      simp only [Act.put, List.setIfInBounds_toArray, List.set_cons_zero, List.set_cons_succ]
      refine wpAnyH_ready (rs := [5]) (by kernel_rfl) (by simp) (AllReadyH.cons (o := ⟨some 50, .buildSlice 22 1 #[(0, .tmp 49)], _, _, _, none⟩) rfl (fun K' hK => ?_) (AllReadyH.nil))
      refine wp_build1 _ 31 _ rfl (U x).toArray i0 _ Tryd.underlying22 HI.out.hi HI.out.hz (by rw [HI.out.hs, List.size_toArray, U_length, HXX.out.1]) (by rw [List.size_toArray, U_length, HXX.out.1]; decide) (by rw [List.size_toArray, U_length, HXX.out.1]; decide) rfl ?_
      have la := laterZ wr.drew (.cells (U x).toArray 31)
      refine hK.out _ _ ⟨blk_at (x7.drew.keep la), HCP.out _ (bP.drew.keep la)⟩ (fun hHeld => ?_)
      clear hK K'
      try simp only [Act.put, List.setIfInBounds_toArray, List.set_cons_zero, List.set_cons_succ]
      refine wpAnyH_ready (rs := [6]) (by kernel_rfl) (by simp) (AllReadyH.cons (o := ⟨some 51, .call { callee := .builtin .append, args := #[.tmp 48, .tmp 50], argTypes := #[22, 22] }, _, _, _, none⟩) rfl (fun K' hK => ?_) (AllReadyH.nil))
      refine wp_append_lies _ (.tmp 48) (.tmp 50) 22 rfl b 31 i0 _ 16 16 Tryd.underlying22 HI.out.hi HI.out.hz HI.out.hs HI.out.hb rfl (by decide) u6 ts.length (Ds ts) rfl (own.drew.alloc _) ⟨wr.drew.heap.size, 0, none⟩ 1 1 (U x) rfl (by rw [U_length, HXX.out.1]) (fun j u hu => World.news_of_block (heap_alloc_new wr.drew _) j u (by simpa using hu)) (U_one _) (by decide) (by unfold maxLen; omega) (by omega) (Nat.le_trans hb2 la.size) _ rfl ?_
      intro g cap w9 own9 grow9 hat9 hlt9
      have hbl : b ≤ (wr.drew.alloc (.cells (U x).toArray 31)).heap.size := Nat.le_trans hb2 la.size
      have k9 : Below b (wr.drew.alloc (.cells (U x).toArray 31)) w9 := (Below.refl _ _).grown grow9 hbl (fun g hg => (own.lt g hg).1)
      have kb : Below b wr w9 := Below.trans (((Below.refl b wr).drew).alloc hb2 (.cells (U x).toArray 31)) k9
      have x9 : Blk w9 B7 31 (U x) := (x7.drew.keep la).grown grow9 (fun e => SEP.out B7 e.symm rfl)
      have p9 : Blk w9 w.heap.size 43 [.int .i64 s, .slice A n c] := bP.later kb (by omega)
      have r9 : Blk w9 (w.heap.size + 1 + 1) 49 [.int .i64 0, .slice none 0 0, .int .i64 0] := HRR.out.later kb (by omega)
      have l9 : Later w w9 := Below.trans lr (kb.mono (by omega))
      refine hK.out _ _ ⟨blk_at x9, HCP.out _ p9⟩ (fun hHeld => ?_)
      clear hK K'
      try simp only [Act.put, List.setIfInBounds_toArray, List.set_cons_zero, List.set_cons_succ]
      refine wpAnyH_take (i := 7) (oi := ⟨some 52, .build 43 #[(0, .tmp 47), (1, .tmp 51)], _, _, _, none⟩) (v := .agg #[.int .i64 ((s : Int) + 1), .slice (some ⟨g, 0, none⟩) (ts.length + 1) cap]) rfl (by kernel_rfl) (by kernel_rfl) (by kernel_rfl) (fun _ _ _ h => h) (Or.inl ⟨by rfl, fun w _ => by go_simp⟩) hHeld ?_
      simp only [Act.put, List.setIfInBounds_toArray, List.set_cons_zero, List.set_cons_succ]
      refine wpAnyH_take (i := 8) (oi := ⟨some 53, .build 49 #[(0, .tmp 52)], _, _, _, none⟩) (v := .agg #[.int .i64 ((s : Int) + 1), .slice (some ⟨g, 0, none⟩) (ts.length + 1) cap, .int .i64 0]) rfl (by kernel_rfl) (by kernel_rfl) (by kernel_rfl) (fun _ _ _ h => h) (Or.inl ⟨by rfl, fun w _ => by go_simp⟩) hHeld ?_
      simp only [Act.put, List.setIfInBounds_toArray, List.set_cons_zero, List.set_cons_succ]
      refine wpAnyH_ready (rs := [9]) (by kernel_rfl) (by simp) (AllReadyH.cons (o := ⟨none, .store 49 (.tmp 4) (.tmp 53), _, _, _, none⟩) rfl (fun K' hK => ?_) (AllReadyH.nil))
      refine wp_store_whole _ _ _ rfl (w.heap.size + 1 + 1) 49 [.int .i64 0, .slice none 0 0, .int .i64 0] [.int .i64 ((s : Int) + 1), .slice (some ⟨g, 0, none⟩) (ts.length + 1) cap, .int .i64 0] rfl rfl r9 (by kernel_rfl) rfl (gr_one _ _ _ rfl rfl rfl) ?_
      intro w10 y10 z10
      have hgb := (own9.lt g rfl).1
      refine hK.out _ _ ⟨blk_at (x9.only z10 (by omega)), HCP.out _ (p9.only z10 (by omega))⟩ (fun hHeld => ?_)
      clear hK K'
      refine wpAnyH_done (by kernel_rfl) ?_ _
      clear hHeld
      go_wp2
      have own10 : Sl w9 16 (some ⟨g, 0, none⟩) (ts.length + 1) (Ds (ts ++ [x])) := by rw [Ds_snoc]; exact Sl.own own9
      obtain ⟨A9, c9, e9, r1, r2, _, _⟩ := own_form own9
      obtain ⟨rfl, rfl⟩ : (some (⟨g, 0, none⟩ : Addr)) = A9 ∧ cap = c9 := by cases e9; exact ⟨rfl, rfl⟩
      have hlen : (ts ++ [x]).length = ts.length + 1 := by rw [List.length_append, List.length_singleton]
      refine bodyPost_ret (v := .agg #[.int .i64 ((s : Int) + 1), .slice (some ⟨g, 0, none⟩) (ts.length + 1) cap, .int .i64 0]) (gr_ret Tryd.results27 _ (w.heap.size + 1 + 1) 49 rfl y10) rfl ⟨some ⟨g, 0, none⟩, cap, ?_, ⟨?_, ?_, ?_⟩, ?_⟩
      · rw [HAP.out, hlen]
      · rw [HAP.out, hlen]; exact own10.only z10 (by show g ≠ _; omega)
      · rw [HAP.out, hlen]; exact r1
      · unfold maxLen at r2; omega
      · exact Below.only l9 z10 (by omega)
end Go.Proofs.YtonfdgbohmcpjabDoor

/-
  THE WALK OF MerklePeaksMatchSpec.
-/
namespace Go.Proofs.YtonfdgbohmcpjabDoor
open Go.RowKit Go.ChangeShapes Go.WideShapes Go.ChangeAt

theorem emptyD_dig : emptyD.length = 16 ∧ Wm.isBs emptyD := ⟨digOf_len _, digOf_bs _⟩
theorem topOf_dig : ∀ T : List Wm.Bs, isD T → (Mk.topOf nodeD emptyD T).length = 16 ∧ Wm.isBs (Mk.topOf nodeD emptyD T)
  | [], _ => emptyD_dig
  | [d], h => h d List.mem_cons_self
  | _ :: _ :: _, _ => ⟨nodeD_len _ _, nodeD_bs _ _⟩
theorem pt_nil (w : World) : Pt w none 0 0 [] := ⟨Sl.nil _ _ _, Nat.le_refl _, by decide⟩
theorem isD_nil : isD [] := fun _ h => by cases h

theorem tpc_err {w : World} {B : Nat} {t : TypeId} {R : Wm.Bs} {e : Int} (h : R.length = 16) (b : Blk w B t (TpC R e)) : w.cell? ⟨B, 16, none⟩ = some (.int .i64 e) :=
  b.cell (j := 16) (by unfold TpC; rw [List.getElem?_append_right (by rw [U_length, h]; exact Nat.le_refl _), U_length, h]; rfl)
theorem tpc_dig {w : World} {B : Nat} {t : TypeId} {R : Wm.Bs} {e : Int} (h : R.length = 16) (b : Blk w B t (TpC R e)) : w.rangeAt B 0 (U R) := by
  have h1 := b.range 0 16
  rwa [List.drop_zero, show (TpC R e).take 16 = U R by unfold TpC; rw [List.take_append_of_le_length (by rw [U_length, h]; exact Nat.le_refl _), List.take_of_length_le (by rw [U_length, h]; exact Nat.le_refl _)]] at h1

/-- A load of a row out of the midst of a block, under a guard that holds. -/
theorem wpList_mid_g {P : Program} {ops : Array Oper} {rest : List Oper} {o : Oper} {a : Act} {w : World} {Q : Exit → Act → World → Prop} (ty : TypeId) (x : Operand) (ho : o.op = .load ty x)
    (b k : Nat) (cs : List Value) (d : TypeDesc) (hw : Region.wanted o (yielded ops a.tmps) = true) (hx : a.eval x = .pointer (some ⟨b, k, none⟩)) (hc : w.rangeAt b k cs)
    (hu : P.underlying ty = some d) (hd : d.isRow = true) (hi : (P.info? ty).map (·.size) = some cs.length)
    (h : wpList P ops Q rest (a.put o.dst (.agg cs.toArray)) w) : wpList P ops Q (o :: rest) a w :=
  wpList_step fun K hK => by
    rw [hw, if_pos rfl]
    exact wp_load_mid ty x ho b k hx cs d hc hu hd hi (hK _ _ h)

/-- What both sides' Append answer: a count, digests, an errno. -/
def GotAp (s1 : Int) (L : List Wm.Bs) (er : Int) (w : World) (e : Ending) (w' : World) : Prop :=
  ∃ A c, e = .returned (.tuple #[.agg #[.int .i64 s1, .slice A L.length c], .int .i64 er]) ∧ isD L ∧ Pt w' A L.length c L ∧ Later w w'
def GotAr (s1 : Int) (L : List Wm.Bs) (er : Int) (w : World) (e : Ending) (w' : World) : Prop :=
  ∃ A c, e = .returned (.agg #[.int .i64 s1, .slice A L.length c, .int .i64 er]) ∧ Pt w' A L.length c L ∧ Later w w'
theorem app_both (s : Int) (A : Option Addr) (n c : Nat) (T : List Wm.Bs) (X : Wm.Bs) (w : World) (hs : Sl w 16 A n (Ds T)) (hT : isD T) (hX : X.length = 16 ∧ Wm.isBs X) (hnc : n ≤ c) (tab : Tab w) (tab0 : Tab0 w) :
    ∃ (s1 : Int) (L : List Wm.Bs) (er : Int), (∀ w', Later w w' → Calls Tryd.prog 25 #[.agg #[.int .i64 s, .slice A n c], .agg (U X).toArray] w' (GotAp s1 L er w')) ∧ (∀ w', Later w w' → Calls Tryd.prog 27 #[.agg #[.int .i64 s, .slice A n c], .agg (U X).toArray] w' (GotAr s1 L er w')) := by
  by_cases h : WF s n
  · by_cases h0 : s = 1099511627776
    · subst h0
      exact ⟨0, [], 2, fun w' _ => (append_full A n c X w' h).mono fun _ w2 ⟨he, hl⟩ => ⟨none, 0, he, isD_nil, pt_nil w2, hl⟩, fun w' _ => (refAppend_full A n c X w' h).mono fun _ w2 ⟨he, hl⟩ => ⟨none, 0, he, pt_nil w2, hl⟩⟩
    · obtain ⟨m, rfl⟩ := Int.eq_ofNat_of_zero_le h.1
      exact ⟨(m : Int) + 1, Mk.app nodeD emptyD m T X, 0, fun w' hw => (append_any m A n c T X w' h h0 (hs.keep hw) hT hX hnc (tab.keep hw)).mono fun _ _ ⟨A', c', he, h1, h2, h3, h4, _, h6⟩ => ⟨A', c', he, h4, ⟨h3, h1, h2⟩, h6⟩,
        fun w' hw => refAppend_any m A n c T X w' h h0 (hs.keep hw) hT hX (tab0.keep hw)⟩
  · exact ⟨0, [], 3, fun w' _ => (append_bad s A n c X w' h).mono fun _ w2 ⟨he, hl⟩ => ⟨none, 0, he, isD_nil, pt_nil w2, hl⟩, fun w' _ => (refAppend_bad s A n c X w' h).mono fun _ w2 ⟨he, hl⟩ => ⟨none, 0, he, pt_nil w2, hl⟩⟩
theorem top_both (s : Int) (A : Option Addr) (n c : Nat) (T : List Wm.Bs) (w : World) (hs : Sl w 16 A n (Ds T)) (hT : isD T) (tab : Tab w) (tab0 : Tab0 w) :
    ∃ (R : Wm.Bs) (er : Int), (R.length = 16 ∧ Wm.isBs R) ∧ (∀ w', Later w w' → Calls Tryd.prog 26 #[.agg #[.int .i64 s, .slice A n c]] w' fun e w'' => e = .returned (.tuple #[.agg (U R).toArray, .int .i64 er]) ∧ Later w' w'') ∧ (∀ w', Later w w' → Calls Tryd.prog 28 #[.agg #[.int .i64 s, .slice A n c]] w' fun e w'' => e = .returned (.agg (TpC R er).toArray) ∧ Later w' w'') := by
  by_cases h : WF s n
  · by_cases h0 : s = 0
    · subst h0
      exact ⟨emptyD, 0, emptyD_dig, fun w' hw => top_zero A n c w' h (tab.keep hw), fun w' hw => refTop_zero A n c w' h (tab0.keep hw)⟩
    · exact ⟨Mk.topOf nodeD emptyD T, 0, topOf_dig T hT, fun w' hw => top_any s A n c T w' h h0 (hs.keep hw) hT (tab.keep hw), fun w' hw => refTop_any s A n c T w' h h0 (hs.keep hw) hT (tab0.keep hw)⟩
  · exact ⟨zD, 3, ⟨zD_len, zD_bs⟩, fun w' _ => top_bad s A n c w' h, fun w' _ => refTop_bad s A n c w' h⟩

set_option maxRecDepth 100000 in
set_option maxHeartbeats 1000000 in
theorem peaksSpec_big (s : Int) (A : Option Addr) (n c : Nat) (X : Wm.Bs) (w : World) (tab : Tab w) (tab0 : Tab0 w) (h : 50 < n) :
    Calls Tryd.prog 5 #[.agg #[.int .i64 s, .slice A n c], .agg (U X).toArray] w fun e w' => e = .returned (.bool true) ∧ Later w w' := by
  have HS := Lib.hid fun w' (h : Later w w') => sanity_any w' (tab.keep h) (tab0.keep h)
  obtain ⟨X0, hX0⟩ : ∃ X0, X0 = (U X).toArray := ⟨_, rfl⟩
  rw [← hX0]
  clear tab tab0 hX0
  have l0 : Later w ((w.alloc (.cells #[.int .i64 s, .slice A n c] 43)).alloc (.cells X0 31)) := ((Below.refl w.heap.size w).alloc (Nat.le_refl _) _).alloc (by simp) _
  go_enter Tryd.func5, Tryd.ntmps5
  go_wp2_with (go_at_call 9; refine (HS.out _ l0).mono ?_; rintro e w1 ⟨rfl, l1⟩)
  go_ret
  exact ⟨rfl, Later.trans_ l0 l1⟩
set_option maxRecDepth 100000 in
set_option maxHeartbeats 4000000 in
theorem peaksSpec_any (s : Int) (A : Option Addr) (n c : Nat) (T : List Wm.Bs) (X : Wm.Bs) (w : World) (tab : Tab w) (tab0 : Tab0 w) (hn : n ≤ 50) (hX : X.length = 16 ∧ Wm.isBs X) (hs : Sl w 16 A n (Ds T)) (hT : isD T) (hnc : n ≤ c) :
    Calls Tryd.prog 5 #[.agg #[.int .i64 s, .slice A n c], .agg (U X).toArray] w fun e w' => e = .returned (.bool true) ∧ Later w w' := by
  have HSN := Lib.hid fun w' (h : Later w w') => sanity_any w' (tab.keep h) (tab0.keep h)
  obtain ⟨s1, L, er, a1, a2⟩ := app_both s A n c T X w hs hT hX hnc tab tab0
  obtain ⟨R, tr, hR, a3, a4⟩ := top_both s A n c T w hs hT tab tab0
  have HA := Lib.hid a1; have HRA := Lib.hid a2; have HT := Lib.hid a3; have HRT := Lib.hid a4
  have HX := Lib.hid hX; have HR := Lib.hid hR
  have HSM := Lib.hid fun (J : List Wm.Bs) (A B : Option Addr) (x y : Nat) (w' : World) (jd : isD J) (h1 : Pt w' A J.length x J) (h2 : Pt w' B J.length y J) => (by
    have h := same_any A B J.length x J.length y J J w' h1.1 jd h2.1 jd (by have := h1.2; unfold maxLen; omega)
    rw [decide_eq_true rfl] at h; exact h : Calls Tryd.prog 17 #[.slice A J.length x, .slice B J.length y] w' fun e w'' => e = .returned (.bool true) ∧ Later w' w'')
  have k50 : ¬ 50 < n := by omega
  obtain ⟨X0, hX0⟩ : ∃ X0, X0 = (U X).toArray := ⟨_, rfl⟩
  have bL : Blk ((w.alloc (.cells #[.int .i64 s, .slice A n c] 43)).alloc (.cells X0 31)) (w.heap.size + 1) 31 (U X) := Blk.new' (w.alloc (.cells #[.int .i64 s, .slice A n c] 43)) (w.heap.size + 1) 31 X0 (U X) (by simp) hX0
  have bP : Blk ((w.alloc (.cells #[.int .i64 s, .slice A n c] 43)).alloc (.cells X0 31)) w.heap.size 43 [.int .i64 s, .slice A n c] := (Blk.new w 43 #[.int .i64 s, .slice A n c] _ rfl).alloc (.cells X0 31)
  have l0 : Later w ((w.alloc (.cells #[.int .i64 s, .slice A n c] 43)).alloc (.cells X0 31)) := ((Below.refl w.heap.size w).alloc (Nat.le_refl _) _).alloc (by simp) _
  rw [← hX0]
  have hgd : Tryd.prog.eqGuardType Tryd.prog.depth 31 = false := by kernel_rfl
  have qr : ∀ w' : World, (Op.equalIn 10000 31 (.agg (U R).toArray) (.agg (U R).toArray)).run Tryd.prog w' = .ok true w' := fun w' => by rw [dig_eq HR.out.1 HR.out.1 w', decide_eq_true rfl]
  clear tab tab0 hs hT hX a1 a2 a3 a4 hR hX0 hn hnc
  go_enter Tryd.func5, Tryd.ntmps5
  go_wp2_with (first
    | ((with_reducible refine wpList_load_blk (o := ⟨some 18, .load 31 (.tmp 3), _, _, _, none⟩) rfl _ _ rfl (w.heap.size + 1) 31 (U X) _ ?_ bL Tryd.underlying31 rfl (dig_sz HX.out.1) ?_); rfl)
    | ((with_reducible refine wpList_load_blk (o := ⟨some 28, .load 31 (.tmp 3), _, _, _, none⟩) rfl _ _ rfl (w.heap.size + 1) 31 (U X) _ ?_ bL Tryd.underlying31 rfl (dig_sz HX.out.1) ?_); rfl)
    | ((with_reducible refine wpList_load_blk (o := ⟨some 30, .load 43 (.tmp 2), _, _, _, none⟩) rfl _ _ rfl w.heap.size 43 [.int .i64 s, .slice A n c] _ ?_ (bP.alloc _) Tryd.underlying43 ?_ (pk_sz _ _) ?_); rfl; rfl)
    | ((with_reducible refine wpList_load_blk (o := ⟨some 27, .load 43 (.tmp 2), _, _, _, none⟩) rfl _ _ rfl w.heap.size 43 [.int .i64 s, .slice A n c] _ ?_ bP Tryd.underlying43 ?_ (pk_sz _ _) ?_); rfl; rfl)
    | ((with_reducible refine wpList_load_blk (o := ⟨some 23, .load 43 (.tmp 2), _, _, _, none⟩) rfl _ _ rfl w.heap.size 43 [.int .i64 s, .slice A n c] _ ?_ (bP.alloc _) Tryd.underlying43 ?_ (pk_sz _ _) ?_); rfl; rfl)
    | (go_at_call 25; (with_reducible refine (HA.out _ l0).mono ?_); rintro e w1 ⟨A1, c1, rfl, jd, p1, h1⟩; have l1 := Later.trans_ l0 h1; replace bL := bL.keep h1; replace bP := bP.keep h1)
    | (go_at_call 26; (with_reducible refine (HT.out _ (l1.alloc l1.size _)).mono ?_); rintro e w2 ⟨rfl, h2⟩; have l2 := Later.trans_ (l1.alloc l1.size _) h2; have b1 := (Blk.new w1 43 #[.int .i64 s1, .slice A1 L.length c1] [.int .i64 s1, .slice A1 L.length c1] rfl).keep h2; replace h2 : Later w1 w2 := Later.trans_ (laterZ _ _) h2; replace p1 := p1.keep h2; replace bL := bL.keep h2; replace bP := bP.keep h2)
    | ((with_reducible refine wpList_store_abs (o := ⟨none, .store 31 (.tmp 7) (.tmp 25), _, _, _, none⟩) rfl _ _ _ rfl w2.heap.size 31 (PartB [] 16) (U R) ?_ ?_ (Blk.new w2 _ _ _ rfl) (dig_sz HR.out.1) (dig_z HR.out.1) (U_one _) ?_); rfl; rfl; intro w3 x3 o3; have k3 : Later w2 w3 := Below.only (laterZ w2 (.cells (PartB [] 16).toArray 31)) o3 (Nat.le_refl _); have l3 := Later.trans_ l2 k3; replace p1 := p1.keep k3; replace bL := bL.keep k3; replace bP := bP.keep k3; replace b1 := b1.keep k3)
    | (go_at_call 27; (with_reducible refine (HRA.out _ l3).mono ?_); rintro e w4 ⟨A4, c4, rfl, p4, h4⟩; have l4 := Later.trans_ l3 h4; replace p1 := p1.keep h4; replace bP := bP.keep h4; replace b1 := b1.keep h4; replace x3 := x3.keep h4)
    | (go_at_call 28; (with_reducible refine (HRT.out _ (l4.alloc l4.size _)).mono ?_); rintro e w5 ⟨rfl, h5⟩; have l5 := Later.trans_ (l4.alloc l4.size _) h5; have b4 := (Blk.new w4 49 #[.int .i64 s1, .slice A4 L.length c4, .int .i64 er] [.int .i64 s1, .slice A4 L.length c4, .int .i64 er] rfl).keep h5; replace h5 : Later w4 w5 := Later.trans_ (laterZ _ _) h5; replace p1 := p1.keep h5; replace p4 := p4.keep h5; replace b1 := b1.keep h5; replace x3 := x3.keep h5)
    | ((with_reducible refine wpList_store_abs (o := ⟨none, .store 52 (.tmp 10) (.tmp 31), _, _, _, none⟩) rfl _ _ _ rfl w5.heap.size 52 (TpC zD 0) (TpC R tr) ?_ ?_ (Blk.new w5 _ _ _ rfl) (TpC_sz HR.out.1 tr) (TpC_same zD_len HR.out.1 0 tr) (TpC_one R tr) ?_); rfl; rfl; intro w6 x6 o6; have k6 : Later w5 w6 := Below.only (laterZ w5 (.cells (TpC zD 0).toArray 52)) o6 (Nat.le_refl _); have l6 := Later.trans_ l5 k6; replace p1 := p1.keep k6; replace p4 := p4.keep k6; replace b1 := b1.keep k6; replace b4 := b4.keep k6; replace x3 := x3.keep k6)
    | (go_at_call 9; (with_reducible refine (HSN.out _ l6).mono ?_); rintro e w7 ⟨rfl, h7⟩; have l7 := Later.trans_ l6 h7; replace p1 := p1.keep h7; replace p4 := p4.keep h7; replace b1 := b1.keep h7; replace b4 := b4.keep h7; replace x3 := x3.keep h7; replace x6 := x6.keep h7; have g1 := b1.cell (j := 0) rfl; have g2 := b1.cell (j := 1) rfl; have g3 := b4.cell (j := 0) rfl; have g4 := b4.cell (j := 1) rfl)
    | (go_at_call 17; (with_reducible refine (HSM.out L A1 A4 c1 c4 _ jd p1 p4).mono ?_); rintro e w8 ⟨rfl, h8⟩; have l8 := Later.trans_ l7 h8; clear g1 g2 g3 g4; replace b4 := b4.keep h8; replace x3 := x3.keep h8; replace x6 := x6.keep h8; have g5 := b4.cell (j := 2) (v := .int .i64 er) rfl; have g6 := tpc_err HR.out.1 x6)
    | ((with_reducible refine wpList_load_g (o := ⟨some 56, .load 31 (.tmp 7), _, _, _, _⟩) _ _ rfl w2.heap.size 31 (U R) _ ?_ ?_ x3 Tryd.underlying31 ?_ (dig_sz HR.out.1) ?_); rfl; rfl; rfl)
    | ((with_reducible refine wpList_mid_g (o := ⟨some 58, .load 31 (.tmp 57), _, _, _, _⟩) _ _ rfl w5.heap.size 0 (U R) _ ?_ ?_ (tpc_dig HR.out.1 x6) Tryd.underlying31 ?_ (dig_sz HR.out.1) ?_); rfl; rfl; rfl))
  go_ret
  exact ⟨rfl, l8⟩
end Go.Proofs.YtonfdgbohmcpjabDoor
