/-
  THE WALKS OF all, Apply, Store.
-/
import Derived.Test.YtffgbbfcbobecaaMemF
namespace Go.Proofs.Ytffgbbfcbobecaa
open Go.RowKit Go.ChangeShapes Go.WideShapes Go.ChangeAt

/-- A whole array read at an address. -/
theorem run_loadAt_addr {P : Program} (w : World) (ad : Addr) (ty : TypeId) (cs : List Value) (d : TypeDesc) (hc : ∀ j v, cs[j]? = some v → w.cell? (ad.add j) = some v)
    (hu : P.underlying ty = some d) (hd : d.isRow = true) (hi : (P.info? ty).map (·.size) = some cs.length) :
    (Instr.loadAt ty (.pointer (some ad))).run P w = .ok (.agg cs.toArray) w := by
  have hl : (loadCells ad cs.length).run P w = .ok cs.toArray w := run_loadCells_list (P := P) w ad cs hc
  cases hq : P.info? ty with
  | none => simp [hq] at hi
  | some i =>
    have hs : i.size = cs.length := by simpa [hq] using hi
    have hagg : (isAgg ty).run P w = .ok true w := by
      unfold isAgg
      rw [Sem.run_bind, run_underlying hu w]
      cases d <;> simp_all
    simp [Instr.loadAt, Instr.sureAddr, loadVar, Sem.run_bind, hagg, sizeOf, typeInfo, hq, hs, hl]
/-- At the operation. -/
theorem wpList_load_addr {P : Program} {ops : Array Oper} {rest : List Oper} {o : Oper} {a : Act} {w : World} {Q : Exit → Act → World → Prop} (hgd : o.guard = none) (ty : TypeId) (x : Operand) (ho : o.op = .load ty x)
    (ad : Addr) (cs : List Value) (d : TypeDesc) (hx : a.eval x = .pointer (some ad)) (hc : ∀ j v, cs[j]? = some v → w.cell? (ad.add j) = some v)
    (hu : P.underlying ty = some d) (hd : d.isRow = true) (hi : (P.info? ty).map (·.size) = some cs.length)
    (h : wpList P ops Q rest (a.put o.dst (.agg cs.toArray)) w) : wpList P ops Q (o :: rest) a w := by
  refine wpList_plain hgd fun K hK => ?_
  have hrun := run_loadAt_addr (P := P) w ad ty cs d hc hu hd hi
  unfold Oper.wp execOp
  simp only [ho, hx, Sem.run_bind, hrun, Sem.run_pure, Result.andThen_ok]
  exact hK _ _ h
theorem w_sz (x y z : Value) : (Try.prog.info? 85).map (·.size) = some [x, y, z].length := by
  show _ = some 3
  kernel_rfl
theorem Sl.write {w : World} {m : Nat} {ad : Addr} {L : List (Int × Int × Int)} (h : Sl w 3 (some ad) m (Ws L)) {k : Nat} (hk : k < L.length) (hm : L.length = m) :
    ∀ j u, [Value.int .i64 L[k].1, .int .i64 L[k].2.1, .int .u32 L[k].2.2][j]? = some u → w.cell? ((ad.add (k * 3)).add j) = some u := by
  intro j u hu
  obtain ⟨_, e, _, hc⟩ := h.2 (by omega)
  cases e
  rw [addr_add_add]
  apply hc
  have hj : j < 3 := by
    rcases Nat.lt_or_ge j 3 with h | h
    · exact h
    · rw [List.getElem?_eq_none (by simpa using h)] at hu; cases hu
  rw [Ws_at L k hk j hj]
  exact hu
theorem ap_take_succ {b x : Wm.Bs} {L : List (Int × Int × Int)} {k : Nat} (hk : k < L.length) (h : Mm.ap b (L.take k) = some x) : Mm.ap b (L.take (k + 1)) = if Mm.There x.length L[k].1 L[k].2.1 then some (Mm.put x L[k].1.toNat (Mm.el L[k].2.1.toNat L[k].2.2)) else none := by
  rw [List.take_succ_eq_append_getElem hk, Mm.ap_snoc, h]
  rfl
theorem ap_none {b : Wm.Bs} {L : List (Int × Int × Int)} {k : Nat} (h : Mm.ap b (L.take k) = none) : Mm.ap b L = none := by
  have := Mm.ap_app (L.take k) (L.drop k) b
  rw [List.take_append_drop, h] at this
  exact this

set_option maxRecDepth 100000 in
set_option maxHeartbeats 2000000 in
theorem all_any (g n c m cl : Nat) (A : Option Addr) (L : List (Int × Int × Int)) (b : Wm.Bs) (w : World) (hd : Draft w g n b) (hb : Wm.isBs b) (hn : n ≤ 64) (hs : Sl w 3 A m (Ws L)) (hL : L.length = m) (hW : ∀ x ∈ L, isW x) (hm : m ≤ 1000000) (hne : 0 < m → ∀ ad, A = some ad → ad.block ≠ g) :
    Calls Try.prog 83 #[.slice A m cl, .func (.func 84) #[.agg #[.slice (some ⟨g, 0, none⟩) n c]] #[]] w fun e w' => e = .returned (.bool (Mm.ap b L).isSome) ∧ (∀ x, Mm.ap b L = some x → Draft w' g n x) ∧ Lx g w w' := by
  have HNE := Lib.hid hne
  have HW := Lib.hid hW
  obtain ⟨R, hR⟩ : ∃ R, R = Mm.ap b L := ⟨_, rfl⟩
  rw [← hR]
  have HR := Lib.hid hR
  have HL := Lib.hid hL
  have HBB := Lib.hid (show Wm.isBs b from hb)
  have hgl := hd.lt
  clear hne hW hR hL hb
  go_enter Try.func83, Try.ntmps83
  go_wp2
  go_loopw [9] (fun i wr => ∃ (k : Nat) (x : Wm.Bs), k ≤ m ∧ i = .int .i64 (k : Int) ∧ Hid (Mm.ap b (L.take k) = some x) ∧ Draft wr g n x ∧ Sl wr 3 A m (Ws L) ∧ Lx g w wr) (fun i _ => m - (intOf i).toNat)
  case atStart => exact ⟨0, b, Nat.zero_le _, rfl, Lib.hid (by rw [List.take_zero]; rfl), hd, hs, Lx.of (later0 _)⟩
  case round =>
    clear hd hs
    rename_i wr
    obtain ⟨k, x, hk, rfl, HA, hd, hs, lr⟩ := hrel
    by_cases hlt : k < m
    · have hkl : k < L.length := by rw [HL.out]; exact hlt
      obtain ⟨ad, rfl⟩ := hs.addr (by omega)
      have HC := Lib.hid (hs.write hkl HL.out)
      have hw := HW.out _ (List.getElem_mem hkl)
      have hst := ap_take_succ hkl HA.out
      rw [hd.1] at hst
      have hxb := (Mm.ap_ok _ HBB.out HA.out).2
      have HST := Lib.hid fun (w' : World) (h : Draft w' g n x) => store_any g n c L[k].1 L[k].2.1 L[k].2.2 x w' h hn hw.1 hw.2.2.1 hw.2.2.2
      have hsl := hd.1
      obtain ⟨a, ha⟩ : ∃ a, a = L[k].1 := ⟨_, rfl⟩
      obtain ⟨s, hs'⟩ : ∃ s, s = L[k].2.1 := ⟨_, rfl⟩
      obtain ⟨v, hv⟩ : ∃ v, v = L[k].2.2 := ⟨_, rfl⟩
      rw [← ha, ← hs', ← hv] at HST HC hst
      unfold Mm.st at HST
      rw [hsl] at HST
      have kn : (k : Int) < (m : Int) := by omega
      have hadl : ad.block < wr.heap.size := by
        obtain ⟨_, e, h, _⟩ := hs.2 (by omega)
        cases e; exact h
      have hgr := hd.lt
      by_cases ht : Mm.There (n * 128) a s
      · rw [decide_eq_true ht, if_pos ht] at HST
        rw [if_pos ht] at hst
        have HST' := Lib.hid hst
        have hne := HNE.out (by omega) ad rfl
        clear hst ha hs' hv hw
        go_wp2_with (first
          | ((with_reducible refine wpList_load_addr (o := ⟨some 12, .load 85 (.tmp 11), _, _, _, none⟩) rfl _ _ rfl (ad.add (k * 3)) [.int .i64 a, .int .i64 s, .int .u32 v] _ ?_ HC.out Try.underlying85 rfl (w_sz _ _ _) ?_); rfl)
          | (go_at_call 84; refine (HST.out _ (hd.keep (later1 _ _))).mono ?_; rintro e w2 ⟨rfl, d2, x2⟩))
        go_roundw
        case rel => exact ⟨k + 1, _, by omega, by go_num, HST', d2, hs.lx ((Lx.of (later1 wr _)).trans_ x2) (fun _ ad' e => by cases e; exact hne), (lr.later (later1 _ _)).trans_ x2⟩
        case measure => simp [intOf]; omega
      · rw [decide_eq_false ht, if_neg ht] at HST
        rw [if_neg ht] at hst
        have HN := Lib.hid (HR.out.trans (ap_none hst))
        clear hst ha hs' hv hw
        go_wp2_with (first
          | ((with_reducible refine wpList_load_addr (o := ⟨some 12, .load 85 (.tmp 11), _, _, _, none⟩) rfl _ _ rfl (ad.add (k * 3)) [.int .i64 a, .int .i64 s, .int .u32 v] _ ?_ HC.out Try.underlying85 rfl (w_sz _ _ _) ?_); rfl)
          | (go_at_call 84; refine (HST.out _ (hd.keep (later1 _ _))).mono ?_; rintro e w2 ⟨rfl, d2, x2⟩))
        go_ret
        refine ⟨by rw [HN.out]; rfl, fun y hy => ?_, (lr.later (later1 _ _)).trans_ x2⟩
        rw [HN.out] at hy
        cases hy
    · obtain rfl : k = m := by omega
      have hA := HA.out
      rw [List.take_of_length_le (by rw [HL.out]; exact Nat.le_refl _)] at hA
      have HRx := Lib.hid (HR.out.trans hA)
      have nlt : ¬ ((k : Int) < (k : Int)) := by omega
      clear hA
      go_wp2
      go_ret
      refine ⟨by rw [HRx.out]; rfl, fun y hy => ?_, lr⟩
      rw [HRx.out] at hy
      obtain rfl : x = y := by injection hy
      exact hd
theorem results_cell_tmp {P : Program} {fn : Func} {p q : Tmp} {ty : TypeId} (h : fn.results = #[.cell p ty, .tmp q]) (tmps : Array Value) (w : World) (g : Nat) (t : TypeId) (cs : List Value) (v : Value) (d : TypeDesc)
    (hp : tmps.getD p undef = .pointer (some ⟨g, 0, none⟩)) (hq : tmps.getD q undef = v) (hg : Blk w g t cs)
    (hu : P.underlying ty = some d) (hd : (match d with | .struct _ | .array _ _ => true | _ => false) = true) (hi : (P.info? ty).map (·.size) = some cs.length) :
    (results fn tmps).run P w = .ok (.tuple #[.agg cs.toArray, v]) w := by
  have hp' : tmps[p]?.getD undef = .pointer (some ⟨g, 0, none⟩) := by simpa using hp
  have hq' : tmps[q]?.getD undef = v := by simpa using hq
  simp [results, h, hp', hq', asAddr, run_loadVar_row w g t ty cs.toArray (0, 0) d hg hu hd (by rw [List.size_toArray]; exact hi)]

/-- What hands back a memory of the call's own, and whether something was done. -/
def GotMB (n : Nat) (b : Wm.Bs) (q : Bool) (w : World) (e : Ending) (w' : World) : Prop := ∃ g c', e = .returned (.tuple #[.agg #[.slice (some ⟨g, 0, none⟩) n c'], .bool q]) ∧ w.heap.size ≤ g ∧ n ≤ c' ∧ c' ≤ maxLen ∧ Draft w' g n b ∧ Later w w'
set_option maxRecDepth 100000 in
set_option maxHeartbeats 2000000 in
theorem apply_some (A : Option Addr) (n c m cl : Nat) (AL : Option Addr) (L : List (Int × Int × Int)) (b x : Wm.Bs) (w : World) (hs : Sl w 128 A n (U b)) (hb : Wm.isBs b) (hn1 : 1 ≤ n) (hn : n ≤ 64) (hsl : Sl w 3 AL m (Ws L)) (hL : L.length = m) (hW : ∀ x ∈ L, isW x) (hm : m ≤ 1000000) (hx : Mm.ap b L = some x) :
    Calls Try.prog 66 #[.agg #[.slice A n c], .slice AL m cl] w (GotMB n x true w) := by
  have HB := Lib.hid fun (w' : World) (hl : Later w w') => begin_any A n c b w' (hs.keep hl) hn1 hn
  have HA := Lib.hid fun (g c' : Nat) (w' : World) (hd : Draft w' g n b) (hl : Later w w') (hg : w.heap.size ≤ g) => all_any g n c' m cl AL L b w' hd hb hn (hsl.keep hl) hL hW hm (fun h0 ad e => by
    obtain ⟨_, e', h, _⟩ := hsl.2 h0
    rw [e'] at e
    cases e
    omega)
  rw [hx] at HA
  simp only [Option.isSome_some] at HA
  have l0 := (later1 w (.cells #[.slice A n c] 24)).alloc (by simp) (.cells #[.slice none 0 0] 24)
  have bR := Blk.new' (w.alloc (.cells #[.slice A n c] 24)) (w.heap.size + 1) 24 #[.slice none 0 0] [.slice none 0 0] (by simp) rfl
  clear hs hsl hL hW hx
  go_enter Try.func66, Try.ntmps66
  go_wp2_with (first
    | (go_at_call 71; refine (HB.out _ l0).mono ?_; rintro e w1 ⟨g, c', rfl, k1, k2, k3, k4, k5⟩; replace bR := bR.keep k5; have l1 := Later.trans_ l0 k5; have b6 := Blk.new w1 127 #[.slice (some ⟨g, 0, none⟩) n c'] [.slice (some ⟨g, 0, none⟩) n c'] rfl; have hgl := k4.lt; have hg1 : w.heap.size + 2 ≤ g := (by simpa using k1))
    | (go_at_call 83; refine (HA.out g c' _ (k4.keep (later1 w1 _)) (Later.trans_ l1 (later1 w1 _)) (by omega)).mono ?_; rintro e w2 ⟨rfl, d2, x2⟩; replace d2 := d2 _ rfl; replace bR := (bR.alloc (.cells #[.slice (some ⟨g, 0, none⟩) n c'] 127)).lx x2 (by omega); replace b6 := b6.lx x2 (by omega); have c6 := b6.cell (j := 0) (v := .slice (some ⟨g, 0, none⟩) n c') rfl; have cR := bR.cell (j := 0) (v := .slice none 0 0) rfl; have fR := bR.frz 0; have l2 := Lx.back (Later.trans_ l1 (later1 w1 _)) x2 (by omega)))
  exact bodyPost_ret (v := .tuple #[.agg #[.slice (some ⟨g, 0, none⟩) n c'], .bool true]) (results_cell_tmp Try.results66 _ _ (w.heap.size + 1) 24 _ _ _ rfl rfl (bR.set 0 (.slice (some ⟨g, 0, none⟩) n c')) Try.underlying24 rfl mem_sz) rfl ⟨g, c', rfl, by omega, k2, k3, d2.only (Only.set _ _ _ _) (by omega), l2.setCell (by simp) _⟩
theorem op_d0 (v : Value) (w : World) : (Instr.field 127 (.agg #[v]) 0).run Try.prog w = .ok (.agg #[v]) w := by kernel_rfl
set_option maxRecDepth 100000 in
set_option maxHeartbeats 2000000 in
theorem apply_none (A : Option Addr) (n c m cl : Nat) (AL : Option Addr) (L : List (Int × Int × Int)) (b : Wm.Bs) (w : World) (hs : Sl w 128 A n (U b)) (hb : Wm.isBs b) (hn1 : 1 ≤ n) (hn : n ≤ 64) (hsl : Sl w 3 AL m (Ws L)) (hL : L.length = m) (hW : ∀ x ∈ L, isW x) (hm : m ≤ 1000000) (hx : Mm.ap b L = none) :
    Calls Try.prog 66 #[.agg #[.slice A n c], .slice AL m cl] w (GotMB n b false w) := by
  have HB := Lib.hid fun (w' : World) (hl : Later w w') => begin_any A n c b w' (hs.keep hl) hn1 hn
  have HA := Lib.hid fun (g c' : Nat) (w' : World) (hd : Draft w' g n b) (hl : Later w w') (hg : w.heap.size ≤ g) => all_any g n c' m cl AL L b w' hd hb hn (hsl.keep hl) hL hW hm (fun h0 ad e => by
    obtain ⟨_, e', h, _⟩ := hsl.2 h0
    rw [e'] at e
    cases e
    omega)
  rw [hx] at HA
  simp only [Option.isSome_none] at HA
  have l0 := (later1 w (.cells #[.slice A n c] 24)).alloc (by simp) (.cells #[.slice none 0 0] 24)
  have bP := (Blk.new w 24 #[.slice A n c] [.slice A n c] rfl).alloc (.cells #[.slice none 0 0] 24)
  have bR := Blk.new' (w.alloc (.cells #[.slice A n c] 24)) (w.heap.size + 1) 24 #[.slice none 0 0] [.slice none 0 0] (by simp) rfl
  clear hs hsl hL hW hx
  have hF0 := op_d0
  go_enter Try.func66, Try.ntmps66
  go_wp2_with (first
    | (go_at_call 71; refine (HB.out _ l2).mono ?_; rintro e w3 ⟨g3, c3, rfl, m1, m2, m3, m4, m5⟩; replace bR := bR.keep m5; have cR := bR.cell (j := 0) (v := .slice none 0 0) rfl; have fR := bR.frz 0; have l3 := Later.trans_ l2 m5)
    | (go_at_call 83; refine (HA.out g c' _ (k4.keep (later1 w1 _)) (Later.trans_ l1 (later1 w1 _)) (by omega)).mono ?_; rintro e w2 ⟨rfl, d2, x2⟩; clear d2; replace bR := (bR.alloc (.cells #[.slice (some ⟨g, 0, none⟩) n c'] 127)).lx x2 (by omega); replace bP := (bP.alloc (.cells #[.slice (some ⟨g, 0, none⟩) n c'] 127)).lx x2 (by omega); have cP := bP.cell (j := 0) (v := .slice A n c) rfl; have hlt := bR.lt; have l2 := Lx.back (Later.trans_ l1 (later1 w1 _)) x2 (by omega))
    | (go_at_call 71; refine (HB.out _ l0).mono ?_; rintro e w1 ⟨g, c', rfl, k1, k2, k3, k4, k5⟩; replace bR := bR.keep k5; replace bP := bP.keep k5; have l1 := Later.trans_ l0 k5; have hgl := k4.lt; have hg1 : w.heap.size + 2 ≤ g := (by simpa using k1)))
  have l2s := l2.size
  exact bodyPost_ret (v := .tuple #[.agg #[.slice (some ⟨g3, 0, none⟩) n c3], .bool false]) (results_cell_tmp Try.results66 _ _ (w.heap.size + 1) 24 _ _ _ rfl rfl (bR.set 0 (.slice (some ⟨g3, 0, none⟩) n c3)) Try.underlying24 rfl mem_sz) rfl ⟨g3, c3, rfl, by omega, m2, m3, m4.only (Only.set _ _ _ _) (by omega), l3.setCell (by simp) _⟩
end Go.Proofs.Ytffgbbfcbobecaa
