/-
  THE WALK OF the reference's Same.
-/
import Derived.Test.YtjopadfkdpcjmaaDoorLexG
import Derived.Laws.StructEq
namespace Go.Proofs.YtjopadfkdpcjmaaDoor
open Go.RowKit Go.ChangeShapes Go.WideShapes Go.ChangeAt

/-- A whole array read at an address. -/
theorem run_loadAt_addr {P : Program} (w : World) (ad : Addr) (ty : TypeId) (cs : List Value) (d : TypeDesc) (hc : ∀ j v, cs[j]? = some v → w.cell? (ad.add j) = some v)
    (hu : P.underlying ty = some d) (hd : d.isRow = true) (hi : (P.info? ty).map (·.size) = some cs.length) :
    (Instr.loadAt ty (.pointer (some ad))).run P w = .ok (.agg cs.toArray) w := by
  have hl : (loadCells ad cs.length).run P w = .ok cs.toArray w := run_loadCells_list (P := P) w ad cs hc
  cases hq : P.info? ty with
  | none => simp [hq] at hi
  | some i =>
    have hs : i.size = cs.length := by simpa [hq] using hi
    have hagg : (isAgg ty).run P w = .ok true w := by
      unfold isAgg
      rw [Sem.run_bind, run_underlying hu w]
      cases d <;> simp_all
    simp [Instr.loadAt, Instr.sureAddr, loadVar, Sem.run_bind, hagg, sizeOf, typeInfo, hq, hs, hl]
/-- At the operation. -/
theorem wpList_load_addr {P : Program} {ops : Array Oper} {rest : List Oper} {o : Oper} {a : Act} {w : World} {Q : Exit → Act → World → Prop} (hgd : o.guard = none) (ty : TypeId) (x : Operand) (ho : o.op = .load ty x)
    (ad : Addr) (cs : List Value) (d : TypeDesc) (hx : a.eval x = .pointer (some ad)) (hc : ∀ j v, cs[j]? = some v → w.cell? (ad.add j) = some v)
    (hu : P.underlying ty = some d) (hd : d.isRow = true) (hi : (P.info? ty).map (·.size) = some cs.length)
    (h : wpList P ops Q rest (a.put o.dst (.agg cs.toArray)) w) : wpList P ops Q (o :: rest) a w := by
  refine wpList_plain hgd fun K hK => ?_
  have hrun := run_loadAt_addr (P := P) w ad ty cs d hc hu hd hi
  unfold Oper.wp execOp
  simp only [ho, hx, Sem.run_bind, hrun, Sem.run_pure, Result.andThen_ok]
  exact hK _ _ h
theorem Sl.tok {w : World} {n : Nat} {ad : Addr} {l : List Lx.Tok} (h : Sl w 4 (some ad) n (Tks l)) {k : Nat} (hk : k < l.length) (hm : l.length = n) :
    ∀ j u, (Tk l[k])[j]? = some u → w.cell? ((ad.add (k * 4)).add j) = some u := by
  intro j u hu
  obtain ⟨_, e, _, hc⟩ := h.2 (by omega)
  cases e
  rw [addr_add_add]
  apply hc
  have hj : j < 4 := by
    rcases Nat.lt_or_ge j 4 with h | h
    · exact h
    · rw [List.getElem?_eq_none (by simpa [Tk] using h)] at hu; cases hu
  rw [Tks_at l k hk j hj]
  exact hu
set_option maxRecDepth 100000 in
/-- Two equal tokens compared. -/
theorem tok_eq (t : Lx.Tok) (w : World) : (Op.equalIn 10000 41 (.agg (Tk t).toArray) (.agg (Tk t).toArray)).run Tryd.prog w = .ok true w := by
  obtain ⟨fs, hfs, hu⟩ : ∃ fs, Tryd.prog.fieldsOf 41 = fs ∧ Tryd.prog.underlying 41 = some (.struct fs) := ⟨_, by kernel_rfl, Tryd.underlying41⟩
  rw [run_equalIn_struct w 9999 _ _ _ (by rw [hfs]; exact hu) (by kernel_rfl), hfs]
  have hfs2 := hu.symm.trans Tryd.underlying41
  injection hfs2 with h1
  injection h1 with h2
  subst h2
  have hag : (isAgg 3).run Tryd.prog w = .ok false w := by kernel_rfl
  have hag2 : (isAgg 9).run Tryd.prog w = .ok false w := by kernel_rfl
  have he := fun a b => run_equalIn_int (P := Tryd.prog) w 9998 3 .i64 .i64 a b Tryd.underlying3
  have hs : (Op.equalIn 9999 9 (.string ⟨t.s.toArray⟩) (.string ⟨t.s.toArray⟩)).run Tryd.prog w = .ok true w := by
    rw [run_equalIn_string (P := Tryd.prog) w 9998 9 _ _ Tryd.underlying9]
    simp
  obtain ⟨k, a, n, s⟩ := t
  simp only at hs
  obtain ⟨z, hz⟩ : ∃ z : ByteArray, z = ⟨s.toArray⟩ := ⟨_, rfl⟩
  unfold Tk
  simp only
  rw [← hz] at hs ⊢
  simp [Op.eqFields, part, hag, hag2, he, hs, Result.andThen]
set_option maxRecDepth 100000 in
set_option maxHeartbeats 8000000 in
/-- Same of tokens that are equal, but for At where that does not count. -/
theorem same_any (A B : Option Addr) (n c d : Nat) (x y : List Lx.Tok) (bare : Bool) (w : World) (hx : Sl w 4 A n (Tks x)) (hy : Sl w 4 B n (Tks y)) (hxl : x.length = n) (hyl : y.length = n) (hn : n ≤ 1000000)
    (hb : bare = false → x = y) (hb2 : bare = true → x.map Lx.bare = y.map Lx.bare) :
    Calls Tryd.prog 14 #[.slice A n c, .slice B n d, .bool bare] w fun e w' => e = .returned (.bool true) ∧ Later w w' := by
  have HX := Lib.hid fun w' (h : Later w w') => hx.keep h
  have HY := Lib.hid fun w' (h : Later w w') => hy.keep h
  have HAD := Lib.hid fun (h : 0 < n) => (show (∃ ad, A = some ad) ∧ ∃ ad, B = some ad from ⟨by obtain ⟨ad, e, _⟩ := hx.2 h; exact ⟨ad, e⟩, by obtain ⟨ad, e, _⟩ := hy.2 h; exact ⟨ad, e⟩⟩)
  have HB := Lib.hid hb
  have HB2 := Lib.hid hb2
  clear hx hy hb hb2
  go_enter Tryd.func14, Tryd.ntmps14
  go_wp2
  go_loopw [7] (fun i wr => ∃ k : Nat, k ≤ n ∧ i = .int .i64 k ∧ Later w wr) (fun i _ => n - (intOf i).toNat)
  case atStart => exact ⟨0, by omega, rfl, later0 _⟩
  case round =>
    obtain ⟨k, hk, rfl, hbr⟩ := hrel
    rename_i wr
    by_cases hlt : k < n
    · obtain ⟨⟨ad, rfl⟩, bd, rfl⟩ := HAD.out (by omega)
      have hkx : k < x.length := by omega
      have hky : k < y.length := by omega
      have cx := Lib.hid (Sl.tok (HX.out wr hbr) hkx hxl)
      have HYY := Lib.hid fun w' (h : Later w w') => Sl.tok (HY.out w' h) hky hyl
      obtain ⟨t, ht⟩ : ∃ t, x[k]'hkx = t := ⟨_, rfl⟩
      obtain ⟨u, hu⟩ : ∃ u, y[k]'hky = u := ⟨_, rfl⟩
      rw [ht] at cx
      rw [hu] at HYY
      cases bare with
      | false =>
        have htu : t = u := by rw [← ht, ← hu]; simp only [HB.out rfl]
        clear ht hu HX HY HAD HB HB2
        subst htu
        have HE := Lib.hid fun w' => tok_eq t w'
        obtain ⟨tk, ta, tn, ts⟩ := t
        unfold Tk at HE cx HYY
        simp only at HE cx HYY
        have hE1 := HE.out
        go_wp2_with (first
          | (refine wpList_load_addr (o := ⟨some 24, .load 41 (.tmp 23), _, _, _, none⟩) rfl _ _ rfl (ad.add (k * 4)) [.int .i64 tk, .int .i64 ta, .int .i64 tn, .string ⟨ts.toArray⟩] _ rfl cx.out Tryd.underlying41 rfl (tk_sz ⟨tk, ta, tn, ts⟩) ?_)
          | (refine wpList_load_addr (o := ⟨some 28, .load 41 (.tmp 27), _, _, _, none⟩) rfl _ _ rfl (bd.add (k * 4)) [.int .i64 tk, .int .i64 ta, .int .i64 tn, .string ⟨ts.toArray⟩] _ rfl (HYY.out _ (hbr.alloc hbr.size _)) Tryd.underlying41 rfl (tk_sz ⟨tk, ta, tn, ts⟩) ?_))
        go_roundw
        case rel => exact ⟨k + 1, by omega, by go_num, (hbr.alloc hbr.size _).alloc (by have := hbr.size; simp; omega) _⟩
        case measure => simp [intOf]; omega
      | true =>
        have htu : Lx.bare t = Lx.bare u := by
          have h1 := congrArg (·[k]?) (HB2.out rfl)
          simp only [List.getElem?_map] at h1
          rw [List.getElem?_eq_getElem hkx, List.getElem?_eq_getElem hky, ht, hu] at h1
          exact Option.some.inj h1
        clear ht hu HX HY HAD HB HB2
        obtain ⟨tk, ta, tn, ts⟩ := t
        obtain ⟨uk, ua, un, us⟩ := u
        unfold Lx.bare at htu
        injection htu with h1 _ h3 h4
        subst h1 h3 h4
        have HE := Lib.hid fun w' => tok_eq ⟨tk, ua, tn, ts⟩ w'
        unfold Tk at HE cx HYY
        simp only at HE cx HYY
        have hE1 := HE.out
        go_wp2_with (first
          | (refine wpList_load_addr (o := ⟨some 24, .load 41 (.tmp 23), _, _, _, none⟩) rfl _ _ rfl (ad.add (k * 4)) [.int .i64 tk, .int .i64 ta, .int .i64 tn, .string ⟨ts.toArray⟩] _ rfl cx.out Tryd.underlying41 rfl (tk_sz ⟨tk, ta, tn, ts⟩) ?_)
          | (refine wpList_load_addr (o := ⟨some 28, .load 41 (.tmp 27), _, _, _, none⟩) rfl _ _ rfl (bd.add (k * 4)) [.int .i64 tk, .int .i64 ua, .int .i64 tn, .string ⟨ts.toArray⟩] _ rfl (HYY.out _ (hbr.alloc hbr.size _)) Tryd.underlying41 rfl (tk_sz ⟨tk, ua, tn, ts⟩) ?_))
        go_roundw
        case rel => exact ⟨k + 1, by omega, by go_num, (hbr.alloc hbr.size _).alloc (by have := hbr.size; simp; omega) _⟩
        case measure => simp [intOf]; omega
    · obtain rfl : k = n := by omega
      clear HX HY HAD HB HB2
      go_wp2
      go_ret
      exact ⟨rfl, hbr⟩
end Go.Proofs.YtjopadfkdpcjmaaDoor
