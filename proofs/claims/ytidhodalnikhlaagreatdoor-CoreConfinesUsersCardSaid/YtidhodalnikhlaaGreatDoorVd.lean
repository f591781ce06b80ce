/-
  THE WALKS OF all, Apply, Store.
-/
import Derived.Test.YtidhodalnikhlaaGreatDoorVc
namespace Go.Proofs.YtidhodalnikhlaaGreatDoor
open Go.RowKit Go.ChangeShapes Go.WideShapes Go.ChangeAt

set_option maxRecDepth 100000 in
/-- A whole array read at an address. -/
theorem run_loadAt_addr {P : Program} (w : World) (ad : Addr) (ty : TypeId) (cs : List Value) (d : TypeDesc) (hc : ∀ j v, cs[j]? = some v → w.cell? (ad.add j) = some v)
    (hu : P.underlying ty = some d) (hd : d.isRow = true) (hi : (P.info? ty).map (·.size) = some cs.length) :
    (Instr.loadAt ty (.pointer (some ad))).run P w = .ok (.agg cs.toArray) w := by
  have hl : (loadCells ad cs.length).run P w = .ok cs.toArray w := run_loadCells_list (P := P) w ad cs hc
  cases hq : P.info? ty with
  | none => simp [hq] at hi
  | some i =>
    have hs : i.size = cs.length := by simpa [hq] using hi
    have hagg : (isAgg ty).run P w = .ok true w := by
      unfold isAgg
      rw [Sem.run_bind, run_underlying hu w]
      cases d <;> simp_all
    simp [Instr.loadAt, Instr.sureAddr, loadVar, Sem.run_bind, hagg, sizeOf, typeInfo, hq, hs, hl]
set_option maxRecDepth 100000 in
/-- At the operation. -/
theorem wpList_load_addr {P : Program} {ops : Array Oper} {rest : List Oper} {o : Oper} {a : Act} {w : World} {Q : Exit → Act → World → Prop} (hgd : o.guard = none) (ty : TypeId) (x : Operand) (ho : o.op = .load ty x)
    (ad : Addr) (cs : List Value) (d : TypeDesc) (hx : a.eval x = .pointer (some ad)) (hc : ∀ j v, cs[j]? = some v → w.cell? (ad.add j) = some v)
    (hu : P.underlying ty = some d) (hd : d.isRow = true) (hi : (P.info? ty).map (·.size) = some cs.length)
    (h : wpList P ops Q rest (a.put o.dst (.agg cs.toArray)) w) : wpList P ops Q (o :: rest) a w := by
  refine wpList_plain hgd fun K hK => ?_
  have hrun := run_loadAt_addr (P := P) w ad ty cs d hc hu hd hi
  unfold Oper.wp execOp
  simp only [ho, hx, Sem.run_bind, hrun, Sem.run_pure, Result.andThen_ok]
  exact hK _ _ h
set_option maxRecDepth 100000 in
theorem w_sz (x y z : Value) : (Tryz.prog.info? 64).map (·.size) = some [x, y, z].length := by
  show _ = some 3
  kernel_rfl
set_option maxRecDepth 100000 in
theorem Sl.write {w : World} {m : Nat} {ad : Addr} {L : List (Int × Int × Int)} (h : Sl w 3 (some ad) m (Ws L)) {k : Nat} (hk : k < L.length) (hm : L.length = m) :
    ∀ j u, [Value.int .i64 L[k].1, .int .i64 L[k].2.1, .int .u32 L[k].2.2][j]? = some u → w.cell? ((ad.add (k * 3)).add j) = some u := by
  intro j u hu
  obtain ⟨_, e, _, hc⟩ := h.2 (by omega)
  cases e
  rw [addr_add_add]
  apply hc
  have hj : j < 3 := by
    rcases Nat.lt_or_ge j 3 with h | h
    · exact h
    · rw [List.getElem?_eq_none (by simpa using h)] at hu; cases hu
  rw [Ws_at L k hk j hj]
  exact hu
set_option maxRecDepth 100000 in
theorem ap_take_succ {b x : Wm.Bs} {L : List (Int × Int × Int)} {k : Nat} (hk : k < L.length) (h : Mm.ap b (L.take k) = some x) : Mm.ap b (L.take (k + 1)) = if Mm.There x.length L[k].1 L[k].2.1 then some (Mm.put x L[k].1.toNat (Mm.el L[k].2.1.toNat L[k].2.2)) else none := by
  rw [List.take_succ_eq_append_getElem hk, Mm.ap_snoc, h]
  rfl
set_option maxRecDepth 100000 in
theorem ap_none {b : Wm.Bs} {L : List (Int × Int × Int)} {k : Nat} (h : Mm.ap b (L.take k) = none) : Mm.ap b L = none := by
  have := Mm.ap_app (L.take k) (L.drop k) b
  rw [List.take_append_drop, h] at this
  exact this

set_option maxRecDepth 100000 in
set_option maxHeartbeats 2000000 in
theorem all_any (g n c m cl : Nat) (A : Option Addr) (L : List (Int × Int × Int)) (b : Wm.Bs) (w : World) (hd : Draft w g n b) (hb : Wm.isBs b) (hn : n ≤ 64) (hs : Sl w 3 A m (Ws L)) (hL : L.length = m) (hW : ∀ x ∈ L, isW x) (hm : m ≤ 1000000) (hne : 0 < m → ∀ ad, A = some ad → ad.block ≠ g) :
    Calls Tryz.prog 56 #[.slice A m cl, .func (.func 57) #[.agg #[.slice (some ⟨g, 0, none⟩) n c]] #[]] w fun e w' => e = .returned (.bool (Mm.ap b L).isSome) ∧ (∀ x, Mm.ap b L = some x → Draft w' g n x) ∧ Lx g w w' := by
  have HNE := Lib.hid hne
  have HW := Lib.hid hW
  obtain ⟨R, hR⟩ : ∃ R, R = Mm.ap b L := ⟨_, rfl⟩
  rw [← hR]
  have HR := Lib.hid hR
  have HL := Lib.hid hL
  have HBB := Lib.hid (show Wm.isBs b from hb)
  have hgl := hd.lt
  clear hne hW hR hL hb
  go_enter Tryz.func56, Tryz.ntmps56
  go_wp2
  go_loopw [9] (fun i wr => ∃ (k : Nat) (x : Wm.Bs), k ≤ m ∧ i = .int .i64 (k : Int) ∧ Hid (Mm.ap b (L.take k) = some x) ∧ Draft wr g n x ∧ Sl wr 3 A m (Ws L) ∧ Lx g w wr) (fun i _ => m - (intOf i).toNat)
  case atStart => exact ⟨0, b, Nat.zero_le _, rfl, Lib.hid (by rw [List.take_zero]; rfl), hd, hs, Lx.of (later0 _)⟩
  case round =>
    clear hd hs
    rename_i wr
    obtain ⟨k, x, hk, rfl, HA, hd, hs, lr⟩ := hrel
    by_cases hlt : k < m
    · have hkl : k < L.length := by rw [HL.out]; exact hlt
      obtain ⟨ad, rfl⟩ := hs.addr (by omega)
      have HC := Lib.hid (hs.write hkl HL.out)
      have hw := HW.out _ (List.getElem_mem hkl)
      have hst := ap_take_succ hkl HA.out
      rw [hd.1] at hst
      have hxb := (Mm.ap_ok _ HBB.out HA.out).2
      have HST := Lib.hid fun (w' : World) (h : Draft w' g n x) => store_any g n c L[k].1 L[k].2.1 L[k].2.2 x w' h hn hw.1 hw.2.2.1 hw.2.2.2
      have hsl := hd.1
      obtain ⟨a, ha⟩ : ∃ a, a = L[k].1 := ⟨_, rfl⟩
      obtain ⟨s, hs'⟩ : ∃ s, s = L[k].2.1 := ⟨_, rfl⟩
      obtain ⟨v, hv⟩ : ∃ v, v = L[k].2.2 := ⟨_, rfl⟩
      rw [← ha, ← hs', ← hv] at HST HC hst
      unfold Mm.st at HST
      rw [hsl] at HST
      have kn : (k : Int) < (m : Int) := by omega
      have hadl : ad.block < wr.heap.size := by
        obtain ⟨_, e, h, _⟩ := hs.2 (by omega)
        cases e; exact h
      have hgr := hd.lt
      by_cases ht : Mm.There (n * 128) a s
      · rw [decide_eq_true ht, if_pos ht] at HST
        rw [if_pos ht] at hst
        have HST' := Lib.hid hst
        have hne := HNE.out (by omega) ad rfl
        clear hst ha hs' hv hw
        go_wp2_with (first
          | ((with_reducible refine wpList_load_addr (o := ⟨some 12, .load 64 (.tmp 11), _, _, _, none⟩) rfl _ _ rfl (ad.add (k * 3)) [.int .i64 a, .int .i64 s, .int .u32 v] _ ?_ HC.out Tryz.underlying64 rfl (w_sz _ _ _) ?_); rfl)
          | (go_at_call 57; refine (HST.out _ (hd.keep (later1 _ _))).mono ?_; rintro e w2 ⟨rfl, d2, x2⟩))
        go_roundw
        case rel => exact ⟨k + 1, _, by omega, by go_num, HST', d2, hs.lx ((Lx.of (later1 wr _)).trans_ x2) (fun _ ad' e => by cases e; exact hne), (lr.later (later1 _ _)).trans_ x2⟩
        case measure => simp [intOf]; omega
      · rw [decide_eq_false ht, if_neg ht] at HST
        rw [if_neg ht] at hst
        have HN := Lib.hid (HR.out.trans (ap_none hst))
        clear hst ha hs' hv hw
        go_wp2_with (first
          | ((with_reducible refine wpList_load_addr (o := ⟨some 12, .load 64 (.tmp 11), _, _, _, none⟩) rfl _ _ rfl (ad.add (k * 3)) [.int .i64 a, .int .i64 s, .int .u32 v] _ ?_ HC.out Tryz.underlying64 rfl (w_sz _ _ _) ?_); rfl)
          | (go_at_call 57; refine (HST.out _ (hd.keep (later1 _ _))).mono ?_; rintro e w2 ⟨rfl, d2, x2⟩))
        go_ret
        refine ⟨by rw [HN.out]; rfl, fun y hy => ?_, (lr.later (later1 _ _)).trans_ x2⟩
        rw [HN.out] at hy
        cases hy
    · obtain rfl : k = m := by omega
      have hA := HA.out
      rw [List.take_of_length_le (by rw [HL.out]; exact Nat.le_refl _)] at hA
      have HRx := Lib.hid (HR.out.trans hA)
      have nlt : ¬ ((k : Int) < (k : Int)) := by omega
      clear hA
      go_wp2
      go_ret
      refine ⟨by rw [HRx.out]; rfl, fun y hy => ?_, lr⟩
      rw [HRx.out] at hy
      obtain rfl : x = y := by injection hy
      exact hd
set_option maxRecDepth 100000 in
theorem results_cell_tmp {P : Program} {fn : Func} {p q : Tmp} {ty : TypeId} (h : fn.results = #[.cell p ty, .tmp q]) (tmps : Array Value) (w : World) (g : Nat) (t : TypeId) (cs : List Value) (v : Value) (d : TypeDesc)
    (hp : tmps.getD p undef = .pointer (some ⟨g, 0, none⟩)) (hq : tmps.getD q undef = v) (hg : Blk w g t cs)
    (hu : P.underlying ty = some d) (hd : (match d with | .struct _ | .array _ _ => true | _ => false) = true) (hi : (P.info? ty).map (·.size) = some cs.length) :
    (results fn tmps).run P w = .ok (.tuple #[.agg cs.toArray, v]) w := by
  have hp' : tmps[p]?.getD undef = .pointer (some ⟨g, 0, none⟩) := by simpa using hp
  have hq' : tmps[q]?.getD undef = v := by simpa using hq
  simp [results, h, hp', hq', asAddr, run_loadVar_row w g t ty cs.toArray (0, 0) d hg hu hd (by rw [List.size_toArray]; exact hi)]

set_option maxRecDepth 100000 in
/-- What hands back a memory of the call's own, and whether something was done. -/
def GotMB (n : Nat) (b : Wm.Bs) (q : Bool) (w : World) (e : Ending) (w' : World) : Prop := ∃ g c', e = .returned (.tuple #[.agg #[.slice (some ⟨g, 0, none⟩) n c'], .bool q]) ∧ w.heap.size ≤ g ∧ n ≤ c' ∧ c' ≤ maxLen ∧ Draft w' g n b ∧ Later w w'
set_option maxRecDepth 100000 in
set_option maxHeartbeats 2000000 in
theorem apply_some (A : Option Addr) (n c m cl : Nat) (AL : Option Addr) (L : List (Int × Int × Int)) (b x : Wm.Bs) (w : World) (hs : Sl w 128 A n (U b)) (hb : Wm.isBs b) (hn1 : 1 ≤ n) (hn : n ≤ 64) (hsl : Sl w 3 AL m (Ws L)) (hL : L.length = m) (hW : ∀ x ∈ L, isW x) (hm : m ≤ 1000000) (hx : Mm.ap b L = some x) :
    Calls Tryz.prog 22 #[.agg #[.slice A n c], .slice AL m cl] w (GotMB n x true w) := by
  have HB := Lib.hid fun (w' : World) (hl : Later w w') => begin_any A n c b w' (hs.keep hl) hn1 hn
  have HA := Lib.hid fun (g c' : Nat) (w' : World) (hd : Draft w' g n b) (hl : Later w w') (hg : w.heap.size ≤ g) => all_any g n c' m cl AL L b w' hd hb hn (hsl.keep hl) hL hW hm (fun h0 ad e => by
    obtain ⟨_, e', h, _⟩ := hsl.2 h0
    rw [e'] at e
    cases e
    omega)
  rw [hx] at HA
  simp only [Option.isSome_some] at HA
  have l0 := (later1 w (.cells #[.slice A n c] 29)).alloc (by simp) (.cells #[.slice none 0 0] 29)
  have bR := Blk.new' (w.alloc (.cells #[.slice A n c] 29)) (w.heap.size + 1) 29 #[.slice none 0 0] [.slice none 0 0] (by simp) rfl
  clear hs hsl hL hW hx
  go_enter Tryz.func22, Tryz.ntmps22
  go_wp2_with (first
    | (go_at_call 55; refine (HB.out _ l0).mono ?_; rintro e w1 ⟨g, c', rfl, k1, k2, k3, k4, k5⟩; replace bR := bR.keep k5; have l1 := Later.trans_ l0 k5; have b6 := Blk.new w1 123 #[.slice (some ⟨g, 0, none⟩) n c'] [.slice (some ⟨g, 0, none⟩) n c'] rfl; have hgl := k4.lt; have hg1 : w.heap.size + 2 ≤ g := (by simpa using k1))
    | (go_at_call 56; refine (HA.out g c' _ (k4.keep (later1 w1 _)) (Later.trans_ l1 (later1 w1 _)) (by omega)).mono ?_; rintro e w2 ⟨rfl, d2, x2⟩; replace d2 := d2 _ rfl; replace bR := (bR.alloc (.cells #[.slice (some ⟨g, 0, none⟩) n c'] 123)).lx x2 (by omega); replace b6 := b6.lx x2 (by omega); have c6 := b6.cell (j := 0) (v := .slice (some ⟨g, 0, none⟩) n c') rfl; have cR := bR.cell (j := 0) (v := .slice none 0 0) rfl; have fR := bR.frz 0; have l2 := Lx.back (Later.trans_ l1 (later1 w1 _)) x2 (by omega)))
  exact bodyPost_ret (v := .tuple #[.agg #[.slice (some ⟨g, 0, none⟩) n c'], .bool true]) (results_cell_tmp Tryz.results22 _ _ (w.heap.size + 1) 29 _ _ _ rfl rfl (bR.set 0 (.slice (some ⟨g, 0, none⟩) n c')) Tryz.underlying29 rfl mem_sz) rfl ⟨g, c', rfl, by omega, k2, k3, d2.only (Only.set _ _ _ _) (by omega), l2.setCell (by simp) _⟩
set_option maxRecDepth 100000 in
theorem op_d0 (v : Value) (w : World) : (Instr.field 123 (.agg #[v]) 0).run Tryz.prog w = .ok (.agg #[v]) w := by kernel_rfl
set_option maxRecDepth 100000 in
set_option maxHeartbeats 2000000 in
theorem apply_none (A : Option Addr) (n c m cl : Nat) (AL : Option Addr) (L : List (Int × Int × Int)) (b : Wm.Bs) (w : World) (hs : Sl w 128 A n (U b)) (hb : Wm.isBs b) (hn1 : 1 ≤ n) (hn : n ≤ 64) (hsl : Sl w 3 AL m (Ws L)) (hL : L.length = m) (hW : ∀ x ∈ L, isW x) (hm : m ≤ 1000000) (hx : Mm.ap b L = none) :
    Calls Tryz.prog 22 #[.agg #[.slice A n c], .slice AL m cl] w (GotMB n b false w) := by
  have HB := Lib.hid fun (w' : World) (hl : Later w w') => begin_any A n c b w' (hs.keep hl) hn1 hn
  have HA := Lib.hid fun (g c' : Nat) (w' : World) (hd : Draft w' g n b) (hl : Later w w') (hg : w.heap.size ≤ g) => all_any g n c' m cl AL L b w' hd hb hn (hsl.keep hl) hL hW hm (fun h0 ad e => by
    obtain ⟨_, e', h, _⟩ := hsl.2 h0
    rw [e'] at e
    cases e
    omega)
  rw [hx] at HA
  simp only [Option.isSome_none] at HA
  have l0 := (later1 w (.cells #[.slice A n c] 29)).alloc (by simp) (.cells #[.slice none 0 0] 29)
  have bP := (Blk.new w 29 #[.slice A n c] [.slice A n c] rfl).alloc (.cells #[.slice none 0 0] 29)
  have bR := Blk.new' (w.alloc (.cells #[.slice A n c] 29)) (w.heap.size + 1) 29 #[.slice none 0 0] [.slice none 0 0] (by simp) rfl
  clear hs hsl hL hW hx
  have hF0 := op_d0
  go_enter Tryz.func22, Tryz.ntmps22
  go_wp2_with (first
    | (go_at_call 55; refine (HB.out _ l2).mono ?_; rintro e w3 ⟨g3, c3, rfl, m1, m2, m3, m4, m5⟩; replace bR := bR.keep m5; have cR := bR.cell (j := 0) (v := .slice none 0 0) rfl; have fR := bR.frz 0; have l3 := Later.trans_ l2 m5)
    | (go_at_call 56; refine (HA.out g c' _ (k4.keep (later1 w1 _)) (Later.trans_ l1 (later1 w1 _)) (by omega)).mono ?_; rintro e w2 ⟨rfl, d2, x2⟩; clear d2; replace bR := (bR.alloc (.cells #[.slice (some ⟨g, 0, none⟩) n c'] 123)).lx x2 (by omega); replace bP := (bP.alloc (.cells #[.slice (some ⟨g, 0, none⟩) n c'] 123)).lx x2 (by omega); have cP := bP.cell (j := 0) (v := .slice A n c) rfl; have hlt := bR.lt; have l2 := Lx.back (Later.trans_ l1 (later1 w1 _)) x2 (by omega))
    | (go_at_call 55; refine (HB.out _ l0).mono ?_; rintro e w1 ⟨g, c', rfl, k1, k2, k3, k4, k5⟩; replace bR := bR.keep k5; replace bP := bP.keep k5; have l1 := Later.trans_ l0 k5; have hgl := k4.lt; have hg1 : w.heap.size + 2 ≤ g := (by simpa using k1)))
  have l2s := l2.size
  exact bodyPost_ret (v := .tuple #[.agg #[.slice (some ⟨g3, 0, none⟩) n c3], .bool false]) (results_cell_tmp Tryz.results22 _ _ (w.heap.size + 1) 29 _ _ _ rfl rfl (bR.set 0 (.slice (some ⟨g3, 0, none⟩) n c3)) Tryz.underlying29 rfl mem_sz) rfl ⟨g3, c3, rfl, by omega, m2, m3, m4.only (Only.set _ _ _ _) (by omega), l3.setCell (by simp) _⟩
end Go.Proofs.YtidhodalnikhlaaGreatDoor

/-
  THE WALKS OF Store; New; the reference's New.
-/
namespace Go.Proofs.YtidhodalnikhlaaGreatDoor
open Go.RowKit Go.ChangeShapes Go.WideShapes Go.ChangeAt

set_option maxRecDepth 100000 in
theorem apply_any (A : Option Addr) (n c m cl : Nat) (AL : Option Addr) (L : List (Int × Int × Int)) (b : Wm.Bs) (w : World) (hs : Sl w 128 A n (U b)) (hb : Wm.isBs b) (hn1 : 1 ≤ n) (hn : n ≤ 64) (hsl : Sl w 3 AL m (Ws L)) (hL : L.length = m) (hW : ∀ x ∈ L, isW x) (hm : m ≤ 1000000) :
    Calls Tryz.prog 22 #[.agg #[.slice A n c], .slice AL m cl] w (GotMB n ((Mm.ap b L).getD b) (Mm.ap b L).isSome w) := by
  cases hx : Mm.ap b L with
  | none => exact apply_none A n c m cl AL L b w hs hb hn1 hn hsl hL hW hm hx
  | some x => exact apply_some A n c m cl AL L b x w hs hb hn1 hn hsl hL hW hm hx
set_option maxRecDepth 100000 in
theorem sl_w1 {w : World} {B : Nat} {t : TypeId} {a s v : Int} (h : Blk w B t [.int .i64 a, .int .i64 s, .int .u32 v]) : Sl w 3 (some ⟨B, 0, none⟩) 1 (Ws [(a, s, v)]) := by
  refine ⟨rfl, fun _ => ⟨_, rfl, h.lt, fun j u hu => ?_⟩⟩
  rw [Addr.add_mid, Nat.zero_add]
  exact h.cell hu

set_option maxRecDepth 100000 in
/-- A memory of zeros. -/
def Zs (n : Nat) : Wm.Bs := List.replicate (n * 128) 0
set_option maxRecDepth 100000 in
theorem Zs_bs (n : Nat) : Wm.isBs (Zs n) := fun x hx => by rw [List.eq_of_mem_replicate hx]; decide
set_option maxRecDepth 100000 in
theorem made_zeros (n : Nat) : madeCells (Value.agg (Array.replicate 128 (.int .u8 0))).cells (n * 128) = (U (Zs n)).toArray := by
  apply Array.ext'
  apply List.ext_getElem?
  intro i
  unfold Zs U
  rw [List.map_replicate]
  show (madeCells (Array.replicate 128 (Value.int .u8 0)) (n * 128)).toList[i]? = _
  unfold madeCells
  simp
  rcases Nat.lt_or_ge i (n * 128) with h | h
  · rw [List.getElem?_range h, List.getElem?_replicate, if_pos h]
    simp only [Option.map_some]
    rw [getElem!_pos _ _ (by simp; omega)]
    simp
  · rw [List.getElem?_eq_none (by simpa using h), List.getElem?_eq_none (by simpa using h)]
    rfl
set_option maxRecDepth 100000 in
theorem draft_new {w : World} {n B : Nat} {t : TypeId} (hB : w.heap.size = B) : Draft (w.alloc (.cells (madeCells (Array.replicate 128 (.int .u8 0)) (n * 128)) t)) B n (Zs n) :=
  ⟨by unfold Zs; simp, t, [], by rw [show madeCells (Array.replicate 128 (Value.int .u8 0)) (n * 128) = (U (Zs n)).toArray from made_zeros n, List.append_nil, ← hB]; exact Blk.new _ _ _ _ rfl⟩

end Go.Proofs.YtidhodalnikhlaaGreatDoor

/-
  THE WALKS OF Read, draft.write.
-/
namespace Go.Proofs.YtidhodalnikhlaaGreatDoor
open Go.RowKit Go.ChangeShapes Go.WideShapes Go.ChangeAt

end Go.Proofs.YtidhodalnikhlaaGreatDoor

/-
  THE WALKS OF Write; of the reference's Store.
-/
namespace Go.Proofs.YtidhodalnikhlaaGreatDoor
open Go.RowKit Go.ChangeShapes Go.WideShapes Go.ChangeAt

set_option maxRecDepth 100000 in
/-- What hands back a memory, wherever it lies, and whether something was done. -/
def GotS (n : Nat) (x : Wm.Bs) (q : Bool) (w : World) (e : Ending) (w' : World) : Prop := ∃ A c, e = .returned (.agg #[.slice A n c, .bool q]) ∧ n ≤ c ∧ c ≤ maxLen ∧ Sl w' 128 A n (U x) ∧ Later w w'
set_option maxRecDepth 100000 in
theorem sto_sz (u v : Value) : (Tryz.prog.info? 77).map (·.size) = some [u, v].length := by
  show _ = some 2
  kernel_rfl
set_option maxRecDepth 100000 in
theorem Sl.only_ne {w w' : World} {size n g : Nat} {A : Option Addr} {xs : List Value} (h : Sl w size A n xs) (o : Only g w w') (hne : ∀ ad, A = some ad → ad.block ≠ g) : Sl w' size A n xs := h.lx (Lx.only o) fun _ => hne
set_option maxRecDepth 100000 in
set_option maxHeartbeats 4000000 in
theorem rstore_there (A : Option Addr) (n c a s : Nat) (v : Int) (b : Wm.Bs) (w : World) (hs : Sl w 128 A n (U b)) (hn1 : 1 ≤ n) (hn : n ≤ 64) (h : Mm.There (n * 128) (a : Int) (s : Int)) (hv0 : 0 ≤ v) (hv1 : v < 4294967296) :
    Calls Tryz.prog 27 #[.agg #[.slice A n c], .agg #[.int .i64 (a : Int), .int .i64 (s : Int), .int .u32 v]] w fun e w' => ∃ g c', e = .returned (.agg #[.slice (some ⟨g, 0, none⟩) n c', .bool true]) ∧ w.heap.size ≤ g ∧ n ≤ c' ∧ c' ≤ maxLen ∧ Draft w' g n (Mm.put b a (Mm.el s v)) ∧ Later w w' := by
  have HT := Lib.hid fun w' => rthere_any A n c (a : Int) (s : Int) w' hn ⟨by omega, by have := h.2.2; omega⟩
  rw [decide_eq_true h] at HT
  obtain ⟨h1, h2, h3⟩ := h
  have hs4 : s = 1 ∨ s = 4 := by omega
  have has : a + s ≤ n * 128 := by omega
  have hbl : b.length = n * 128 := by have := hs.1; rwa [U_length] at this
  have HC := Lib.hid fun w' (hl : Later w w') => rcopy_any A n c b w' (hs.keep hl) hn1 hn
  obtain ⟨X, hX⟩ : ∃ X, X = Mm.el s v := ⟨_, rfl⟩
  have hXl : X.length = s := by rw [hX, Mm.el_len]
  have HXg := Lib.hid fun i (hi : i < s) => by
    have := Mm.el_get s v i hi
    rw [← hX] at this
    exact this
  rw [← hX]
  have HX := Lib.hid hXl
  have HB := Lib.hid (show b.length = n * 128 ∧ a + s ≤ n * 128 from ⟨hbl, has⟩)
  have hr8 : a + s ≤ 8192 := by omega
  clear hX hXl h1 h2 h3 hbl has hs
  go_enter Tryz.func27, Tryz.ntmps27
  go_wp2_with (first
    | (go_at_call 70; refine (HT.out _).mono ?_; rintro e w1 ⟨rfl, l1⟩; have bP := (((Blk.new w 29 #[.slice A n c] _ rfl).alloc (.cells #[.int .i64 (a : Int), .int .i64 (s : Int), .int .u32 v] 64)).alloc (.cells #[.slice none 0 0, .bool false] 77)).keep l1; have bW := ((Blk.new' (w.alloc (.cells #[.slice A n c] 29)) (w.heap.size + 1) 64 #[.int .i64 (a : Int), .int .i64 (s : Int), .int .u32 v] [.int .i64 (a : Int), .int .i64 (s : Int), .int .u32 v] (by simp) rfl).alloc (.cells #[.slice none 0 0, .bool false] 77)).keep l1; have bR := (Blk.new' ((w.alloc (.cells #[.slice A n c] 29)).alloc (.cells #[.int .i64 (a : Int), .int .i64 (s : Int), .int .u32 v] 64)) (w.heap.size + 1 + 1) 77 #[.slice none 0 0, .bool false] [.slice none 0 0, .bool false] (by simp) rfl).keep l1; have p0 := bP.cell (j := 0) (v := .slice A n c) rfl; have l2 := Later.trans_ (((later1 w _).alloc (by simp) _).alloc (by simp; omega) _) l1)
    | (go_at_call 71; refine (HC.out _ l2).mono ?_; rintro e w3 ⟨g, c', rfl, k1, k2, k3, k4, k5⟩; have hw1 := bR.lt; replace bW := (bW.keep k5).alloc (.cells #[.slice (some ⟨g, 0, none⟩) n c'] 29); replace bR := (bR.keep k5).alloc (.cells #[.slice (some ⟨g, 0, none⟩) n c'] 29); have b6 := Blk.new w3 29 #[.slice (some ⟨g, 0, none⟩) n c'] [.slice (some ⟨g, 0, none⟩) n c'] rfl; have hgl := k4.lt; replace k4 := k4.keep (later1 w3 (.cells #[.slice (some ⟨g, 0, none⟩) n c'] 29)); have l4 := Later.trans_ (Later.trans_ l2 k5) (later1 w3 (.cells #[.slice (some ⟨g, 0, none⟩) n c'] 29))))
  obtain ⟨_, t, junk, hbk⟩ := k4
  have hg1 : w.heap.size + 2 < g := by omega
  have h6 : w.heap.size ≤ w3.heap.size := by have := l4.size; simp at this; omega
  obtain ⟨B6, hB6⟩ : ∃ B6, B6 = w3.heap.size := ⟨_, rfl⟩
  rw [← hB6] at b6 hgl h6 ⊢
  clear hB6 l1 l2 p0 k1 k5
  go_loopw [7] (fun i wr => ∃ k : Nat, k ≤ s ∧ i = .int .i64 (k : Int) ∧ Blk wr g t (U (Mm.put b a (X.take k)) ++ junk) ∧ Blk wr B6 29 [.slice (some ⟨g, 0, none⟩) n c'] ∧ Blk wr (w.heap.size + 1) 64 [.int .i64 (a : Int), .int .i64 (s : Int), .int .u32 v] ∧ Blk wr (w.heap.size + 1 + 1) 77 [.slice none 0 0, .bool false] ∧ Later w wr) (fun i _ => s - (intOf i).toNat)
  case atStart => exact ⟨0, Nat.zero_le _, rfl, by rw [List.take_zero, Mm.put_nil]; exact hbk, b6, bW, bR, l4⟩
  case round =>
    clear hbk b6 bW bR l4
    rename_i wr
    obtain ⟨k, hk, rfl, hbk, b6, bW, bR, lr⟩ := hrel
    have hgw : w.heap.size ≤ g := by omega
    have c6 := b6.cell (j := 0) (v := .slice (some ⟨g, 0, none⟩) n c') rfl
    have cW0 := bW.cell (j := 0) (v := .int .i64 (a : Int)) rfl
    have cW1 := bW.cell (j := 1) (v := .int .i64 (s : Int)) rfl
    have cW2 := bW.cell (j := 2) (v := .int .u32 v) rfl
    by_cases hkr : k < s
    · rcases (show k = 0 ∨ k = 1 ∨ k = 2 ∨ k = 3 by omega) with rfl | rfl | rfl | rfl
      · simp only [show ((0 : Nat) : Int) = 0 from rfl]
        have hx := HXg.out 0 hkr
        have hnK : a < n * 128 := by have := HB.out.2; omega
        have hlen : (Mm.put b a (X.take 0)).length = n * 128 := by rw [Mm.put_len (by rw [List.length_take, HX.out, HB.out.1]; have := HB.out.2; omega), HB.out.1]
        have hce : wr.drew.cell? ⟨g, a, none⟩ = some (.int .u8 ((Mm.put b a (X.take 0)).getD a 0)) := hbk.cell (by rw [List.getElem?_append_left (by rw [U_length, hlen]; exact hnK), U_get _ _ (by rw [hlen]; exact hnK)])
        obtain ⟨y, hy⟩ : ∃ y, y = (Mm.put b a (X.take 0)).getD a 0 := ⟨_, rfl⟩
        rw [← hy] at hce
        have hfe := hbk.drew.frz a
        have t0 : IntKind.i64.wrap (a : Int) = (a : Int) := by rw [IntKind.wrap_i64]; omega
        have u1 : IntKind.i64.wrap ((a : Int) / 128) = (a : Int) / 128 := by rw [IntKind.wrap_i64]; omega
        have u2 : IntKind.i64.wrap 0 = 0 := rfl
        have u3 : IntKind.u8.wrap (v) = v % 256 := by rw [IntKind.wrap_u8]
        have t1 : (a : Int).tdiv 128 = (a : Int) / 128 := Int.tdiv_eq_ediv_of_nonneg (by omega)
        have t2 : (a : Int).tmod 128 = (a : Int) % 128 := Int.tmod_eq_emod_of_nonneg (by omega)
        have t3 : ((a : Int) / 128).toNat = a / 128 := by omega
        have t4 : ((a : Int) % 128).toNat = a % 128 := by omega
        have t5 : a / 128 * 128 + a % 128 = a := by omega
        have q1 : (a : Int) / 128 < (n : Int) := by omega
        have q2 : (a : Int) % 128 < 128 := by omega
        have q3 : (0 : Int) ≤ (a : Int) / 128 := by omega
        have q4 : (0 : Int) ≤ (a : Int) % 128 := by omega
        have HRL := Lib.hid (show Mm.put b a (X.take (0 + 1)) = (Mm.put b a (X.take 0)).set a (v % 256) by
          rw [List.take_add_one, hx, ← Mm.put_set _ _ _ (by rw [hlen]; exact hnK)]
          have := Mm.put_app b a (X.take 0) [v % 256] (by rw [List.length_take, HX.out, HB.out.1]; have := HB.out.2; simp; omega)
          rw [show (X.take 0).length = 0 by rw [List.length_take, HX.out]; omega] at this
          rw [show (some (v / 256 ^ 0 % 256)).toList = [v % 256] by simp]
          exact this.symm)
        clear hx hy
        go_wp2
        replace b6 := b6.drew; replace bW := bW.drew; replace bR := bR.drew; replace hbk := hbk.drew; replace lr := lr.drew
        refine wp_region_held_drew (S := fun w' => w'.cell? ⟨B6, 0, none⟩ = some (.slice (some ⟨g, 0, none⟩) n c') ∧ w'.cell? ⟨w.heap.size + 1, 0, none⟩ = some (.int .i64 (a : Int)) ∧ w'.cell? ⟨w.heap.size + 1, 2, none⟩ = some (.int .u32 v)) (by kernel_rfl) ⟨b6.cell rfl, bW.cell rfl, bW.cell rfl⟩ (fun hHeld => ?_)
        refine wpAnyH_take (i := 0) (oi := ⟨some 26, .fieldAddr 29 (.tmp 6) 0, _, _, _, none⟩) (v := .pointer (some ⟨B6, 0, none⟩)) rfl (by kernel_rfl) (by kernel_rfl) (by kernel_rfl) (fun _ _ _ h => h) (Or.inl ⟨by rfl, fun w _ => by go_simp⟩) hHeld ?_
        simp only [Act.put, List.setIfInBounds_toArray, List.set_cons_zero, List.set_cons_succ]
        refine wpAnyH_take (i := 1) (oi := ⟨some 27, .load 27 (.tmp 26), _, _, _, none⟩) (v := .slice (some ⟨g, 0, none⟩) n c') rfl (by kernel_rfl) (by kernel_rfl) (by kernel_rfl) (fun _ _ _ h => h) (Or.inl ⟨by rfl, fun w hSw => by have e1 := hSw.1; clear hSw; go_simp⟩) hHeld ?_
        simp only [Act.put, List.setIfInBounds_toArray, List.set_cons_zero, List.set_cons_succ]
        refine wpAnyH_take (i := 2) (oi := ⟨some 28, .fieldAddr 64 (.tmp 3) 0, _, _, _, none⟩) (v := .pointer (some ⟨w.heap.size + 1, 0, none⟩)) rfl (by kernel_rfl) (by kernel_rfl) (by kernel_rfl) (fun _ _ _ h => h) (Or.inl ⟨by rfl, fun w _ => by go_simp⟩) hHeld ?_
        simp only [Act.put, List.setIfInBounds_toArray, List.set_cons_zero, List.set_cons_succ]
        refine wpAnyH_take (i := 3) (oi := ⟨some 29, .load 3 (.tmp 28), _, _, _, none⟩) (v := .int .i64 (a : Int)) rfl (by kernel_rfl) (by kernel_rfl) (by kernel_rfl) (fun _ _ _ h => h) (Or.inl ⟨by rfl, fun w hSw => by have e1 := hSw.2.1; clear hSw; go_simp⟩) hHeld ?_
        simp only [Act.put, List.setIfInBounds_toArray, List.set_cons_zero, List.set_cons_succ]
        refine wpAnyH_take (i := 4) (oi := ⟨some 30, .move (.tmp 7), _, _, _, none⟩) (v := .int .i64 0) rfl (by kernel_rfl) (by kernel_rfl) (by kernel_rfl) (fun _ _ _ h => h) (Or.inl ⟨by rfl, fun _ _ => rfl⟩) hHeld ?_
        simp only [Act.put, List.setIfInBounds_toArray, List.set_cons_zero, List.set_cons_succ]
        refine wpAnyH_take (i := 5) (oi := ⟨some 31, .binOp .add 3 (.tmp 29) (.tmp 30) 3, _, _, _, none⟩) (v := .int .i64 (a : Int)) rfl (by kernel_rfl) (by kernel_rfl) (by kernel_rfl) (fun _ _ _ h => h) (Or.inl ⟨by rfl, fun w _ => by go_simp⟩) hHeld ?_
        simp only [Act.put, List.setIfInBounds_toArray, List.set_cons_zero, List.set_cons_succ]
        refine wpAnyH_take (i := 6) (oi := ⟨some 32, .binOp .quo 3 (.tmp 31) (.const (.int .i64 128)) 3, _, _, _, none⟩) (v := .int .i64 ((a : Int) / 128)) rfl (by kernel_rfl) (by kernel_rfl) (by kernel_rfl) (fun _ _ _ h => h) (Or.inl ⟨by rfl, fun w _ => by go_simp⟩) hHeld ?_
        simp only [Act.put, List.setIfInBounds_toArray, List.set_cons_zero, List.set_cons_succ]
        refine wpAnyH_take (i := 7) (oi := ⟨some 33, .fieldAddr 64 (.tmp 3) 0, _, _, _, none⟩) (v := .pointer (some ⟨w.heap.size + 1, 0, none⟩)) rfl (by kernel_rfl) (by kernel_rfl) (by kernel_rfl) (fun _ _ _ h => h) (Or.inl ⟨by rfl, fun w _ => by go_simp⟩) hHeld ?_
        simp only [Act.put, List.setIfInBounds_toArray, List.set_cons_zero, List.set_cons_succ]
        refine wpAnyH_take (i := 8) (oi := ⟨some 34, .load 3 (.tmp 33), _, _, _, none⟩) (v := .int .i64 (a : Int)) rfl (by kernel_rfl) (by kernel_rfl) (by kernel_rfl) (fun _ _ _ h => h) (Or.inl ⟨by rfl, fun w hSw => by have e1 := hSw.2.1; clear hSw; go_simp⟩) hHeld ?_
        simp only [Act.put, List.setIfInBounds_toArray, List.set_cons_zero, List.set_cons_succ]
        refine wpAnyH_take (i := 9) (oi := ⟨some 35, .move (.tmp 7), _, _, _, none⟩) (v := .int .i64 0) rfl (by kernel_rfl) (by kernel_rfl) (by kernel_rfl) (fun _ _ _ h => h) (Or.inl ⟨by rfl, fun _ _ => rfl⟩) hHeld ?_
        simp only [Act.put, List.setIfInBounds_toArray, List.set_cons_zero, List.set_cons_succ]
        refine wpAnyH_take (i := 10) (oi := ⟨some 36, .binOp .add 3 (.tmp 34) (.tmp 35) 3, _, _, _, none⟩) (v := .int .i64 (a : Int)) rfl (by kernel_rfl) (by kernel_rfl) (by kernel_rfl) (fun _ _ _ h => h) (Or.inl ⟨by rfl, fun w _ => by go_simp⟩) hHeld ?_
        simp only [Act.put, List.setIfInBounds_toArray, List.set_cons_zero, List.set_cons_succ]
        refine wpAnyH_take (i := 11) (oi := ⟨some 37, .binOp .rem 3 (.tmp 36) (.const (.int .i64 128)) 3, _, _, _, none⟩) (v := .int .i64 ((a : Int) % 128)) rfl (by kernel_rfl) (by kernel_rfl) (by kernel_rfl) (fun _ _ _ h => h) (Or.inl ⟨by rfl, fun w _ => by go_simp⟩) hHeld ?_
        simp only [Act.put, List.setIfInBounds_toArray, List.set_cons_zero, List.set_cons_succ]
        refine wpAnyH_take (i := 12) (oi := ⟨some 38, .fieldAddr 64 (.tmp 3) 2, _, _, _, none⟩) (v := .pointer (some ⟨w.heap.size + 1, 2, none⟩)) rfl (by kernel_rfl) (by kernel_rfl) (by kernel_rfl) (fun _ _ _ h => h) (Or.inl ⟨by rfl, fun w _ => by go_simp⟩) hHeld ?_
        simp only [Act.put, List.setIfInBounds_toArray, List.set_cons_zero, List.set_cons_succ]
        refine wpAnyH_take (i := 13) (oi := ⟨some 39, .load 22 (.tmp 38), _, _, _, none⟩) (v := .int .u32 v) rfl (by kernel_rfl) (by kernel_rfl) (by kernel_rfl) (fun _ _ _ h => h) (Or.inl ⟨by rfl, fun w hSw => by have e1 := hSw.2.2; clear hSw; go_simp⟩) hHeld ?_
        simp only [Act.put, List.setIfInBounds_toArray, List.set_cons_zero, List.set_cons_succ]
        refine wpAnyH_take (i := 14) (oi := ⟨some 40, .move (.tmp 7), _, _, _, none⟩) (v := .int .i64 0) rfl (by kernel_rfl) (by kernel_rfl) (by kernel_rfl) (fun _ _ _ h => h) (Or.inl ⟨by rfl, fun _ _ => rfl⟩) hHeld ?_
        simp only [Act.put, List.setIfInBounds_toArray, List.set_cons_zero, List.set_cons_succ]
        refine wpAnyH_take (i := 15) (oi := ⟨some 41, .binOp .mul 3 (.const (.int .i64 8)) (.tmp 40) 3, _, _, _, none⟩) (v := .int .i64 0) rfl (by kernel_rfl) (by kernel_rfl) (by kernel_rfl) (fun _ _ _ h => h) (Or.inl ⟨by rfl, fun w _ => by go_simp⟩) hHeld ?_
        simp only [Act.put, List.setIfInBounds_toArray, List.set_cons_zero, List.set_cons_succ]
        refine wpAnyH_take (i := 16) (oi := ⟨some 42, .binOp .shr 22 (.tmp 39) (.tmp 41) 3, _, _, _, none⟩) (v := .int .u32 (v)) rfl (by kernel_rfl) (by kernel_rfl) (by kernel_rfl) (fun _ _ _ h => h) (Or.inl ⟨by rfl, fun w _ => by go_simp⟩) hHeld ?_
        simp only [Act.put, List.setIfInBounds_toArray, List.set_cons_zero, List.set_cons_succ]
        refine wpAnyH_take (i := 17) (oi := ⟨some 43, .convert 22 5 (.tmp 42), _, _, _, none⟩) (v := .int .u8 (v % 256)) rfl (by kernel_rfl) (by kernel_rfl) (by kernel_rfl) (fun _ _ _ h => h) (Or.inl ⟨by rfl, fun w _ => by go_simp⟩) hHeld ?_
        simp only [Act.put, List.setIfInBounds_toArray, List.set_cons_zero, List.set_cons_succ]
        refine wpAnyH_take (i := 18) (oi := ⟨some 44, .indexAddr 27 (.tmp 27) (.tmp 32), _, _, _, none⟩) (v := .pointer (some ⟨g, a / 128 * 128, none⟩)) rfl (by kernel_rfl) (by kernel_rfl) (by kernel_rfl) (fun _ _ _ h => h) (Or.inl ⟨by rfl, fun w _ => by go_simp⟩) hHeld ?_
        simp only [Act.put, List.setIfInBounds_toArray, List.set_cons_zero, List.set_cons_succ]
        refine wpAnyH_take (i := 19) (oi := ⟨some 45, .indexAddr 55 (.tmp 44) (.tmp 37), _, _, _, none⟩) (v := .pointer (some ⟨g, a, none⟩)) rfl (by kernel_rfl) (by kernel_rfl) (by kernel_rfl) (fun _ _ _ h => h) (Or.inl ⟨by rfl, fun w _ => by go_simp⟩) hHeld ?_
        simp only [Act.put, List.setIfInBounds_toArray, List.set_cons_zero, List.set_cons_succ]
        refine wpAnyH_ready (rs := [20]) (by kernel_rfl) (by simp) (AllReadyH.cons (o := ⟨none, .store 5 (.tmp 45) (.tmp 43), _, _, _, none⟩) rfl (fun K' hK => ?_) (AllReadyH.nil))
        go_simp
        have hbs := hbk.set a (.int .u8 (v % 256))
        replace b6 := b6.set_other ⟨g, a, none⟩ (.int .u8 (v % 256)) (by simp; omega)
        replace bW := bW.set_other ⟨g, a, none⟩ (.int .u8 (v % 256)) (by simp; omega)
        replace bR := bR.set_other ⟨g, a, none⟩ (.int .u8 (v % 256)) (by simp; omega)
        replace lr : Later w (World.setCell _ ⟨g, a, none⟩ (.int .u8 (v % 256))) := lr.setCell hgw _
        refine hK.out _ _ ⟨b6.cell rfl, bW.cell rfl, bW.cell rfl⟩ (fun hHeld => ?_)
        clear hK K'
        try simp only [Act.put, List.setIfInBounds_toArray, List.set_cons_zero, List.set_cons_succ]
        refine wpAnyH_done (by kernel_rfl) ?_ _
        clear hHeld
        rw [show (U (Mm.put b a (X.take 0)) ++ junk).set a (.int .u8 (v % 256)) = U (Mm.put b a (X.take (0 + 1))) ++ junk by rw [HRL.out, List.set_append_left _ _ (by rw [U_length, hlen]; exact hnK)]; unfold U; rw [List.map_set]] at hbs
        clear t0 u1 u2 u3 t1 t2 t3 t4 t5 q1 q2 q3 q4 hce hfe
        go_wp2
        go_roundw
        case rel => exact ⟨1, by omega, by go_num, hbs, b6, bW, bR, lr⟩
        case measure => simp [intOf]; omega
      · simp only [show ((1 : Nat) : Int) = 1 from rfl]
        have hx := HXg.out 1 hkr
        have hnK : (a + 1) < n * 128 := by have := HB.out.2; omega
        have hlen : (Mm.put b a (X.take 1)).length = n * 128 := by rw [Mm.put_len (by rw [List.length_take, HX.out, HB.out.1]; have := HB.out.2; omega), HB.out.1]
        have hce : wr.drew.cell? ⟨g, (a + 1), none⟩ = some (.int .u8 ((Mm.put b a (X.take 1)).getD (a + 1) 0)) := hbk.cell (by rw [List.getElem?_append_left (by rw [U_length, hlen]; exact hnK), U_get _ _ (by rw [hlen]; exact hnK)])
        obtain ⟨y, hy⟩ : ∃ y, y = (Mm.put b a (X.take 1)).getD (a + 1) 0 := ⟨_, rfl⟩
        rw [← hy] at hce
        have hfe := hbk.drew.frz (a + 1)
        have t0 : IntKind.i64.wrap ((a : Int) + 1) = ((a : Int) + 1) := by rw [IntKind.wrap_i64]; omega
        have u1 : IntKind.i64.wrap (((a : Int) + 1) / 128) = ((a : Int) + 1) / 128 := by rw [IntKind.wrap_i64]; omega
        have u2 : IntKind.i64.wrap 8 = 8 := rfl
        have u3 : IntKind.u8.wrap (v / 256) = v / 256 % 256 := by rw [IntKind.wrap_u8]
        have t1 : ((a : Int) + 1).tdiv 128 = ((a : Int) + 1) / 128 := Int.tdiv_eq_ediv_of_nonneg (by omega)
        have t2 : ((a : Int) + 1).tmod 128 = ((a : Int) + 1) % 128 := Int.tmod_eq_emod_of_nonneg (by omega)
        have t3 : (((a : Int) + 1) / 128).toNat = (a + 1) / 128 := by omega
        have t4 : (((a : Int) + 1) % 128).toNat = (a + 1) % 128 := by omega
        have t5 : (a + 1) / 128 * 128 + (a + 1) % 128 = (a + 1) := by omega
        have q1 : ((a : Int) + 1) / 128 < (n : Int) := by omega
        have q2 : ((a : Int) + 1) % 128 < 128 := by omega
        have q3 : (0 : Int) ≤ ((a : Int) + 1) / 128 := by omega
        have q4 : (0 : Int) ≤ ((a : Int) + 1) % 128 := by omega
        have HRL := Lib.hid (show Mm.put b a (X.take (1 + 1)) = (Mm.put b a (X.take 1)).set (a + 1) (v / 256 % 256) by
          rw [List.take_add_one, hx, ← Mm.put_set _ _ _ (by rw [hlen]; exact hnK)]
          have := Mm.put_app b a (X.take 1) [v / 256 % 256] (by rw [List.length_take, HX.out, HB.out.1]; have := HB.out.2; simp; omega)
          rw [show (X.take 1).length = 1 by rw [List.length_take, HX.out]; omega] at this
          rw [show (some (v / 256 ^ 1 % 256)).toList = [v / 256 % 256] by rfl]
          exact this.symm)
        clear hx hy
        go_wp2
        replace b6 := b6.drew; replace bW := bW.drew; replace bR := bR.drew; replace hbk := hbk.drew; replace lr := lr.drew
        refine wp_region_held_drew (S := fun w' => w'.cell? ⟨B6, 0, none⟩ = some (.slice (some ⟨g, 0, none⟩) n c') ∧ w'.cell? ⟨w.heap.size + 1, 0, none⟩ = some (.int .i64 (a : Int)) ∧ w'.cell? ⟨w.heap.size + 1, 2, none⟩ = some (.int .u32 v)) (by kernel_rfl) ⟨b6.cell rfl, bW.cell rfl, bW.cell rfl⟩ (fun hHeld => ?_)
        refine wpAnyH_take (i := 0) (oi := ⟨some 26, .fieldAddr 29 (.tmp 6) 0, _, _, _, none⟩) (v := .pointer (some ⟨B6, 0, none⟩)) rfl (by kernel_rfl) (by kernel_rfl) (by kernel_rfl) (fun _ _ _ h => h) (Or.inl ⟨by rfl, fun w _ => by go_simp⟩) hHeld ?_
        simp only [Act.put, List.setIfInBounds_toArray, List.set_cons_zero, List.set_cons_succ]
        refine wpAnyH_take (i := 1) (oi := ⟨some 27, .load 27 (.tmp 26), _, _, _, none⟩) (v := .slice (some ⟨g, 0, none⟩) n c') rfl (by kernel_rfl) (by kernel_rfl) (by kernel_rfl) (fun _ _ _ h => h) (Or.inl ⟨by rfl, fun w hSw => by have e1 := hSw.1; clear hSw; go_simp⟩) hHeld ?_
        simp only [Act.put, List.setIfInBounds_toArray, List.set_cons_zero, List.set_cons_succ]
        refine wpAnyH_take (i := 2) (oi := ⟨some 28, .fieldAddr 64 (.tmp 3) 0, _, _, _, none⟩) (v := .pointer (some ⟨w.heap.size + 1, 0, none⟩)) rfl (by kernel_rfl) (by kernel_rfl) (by kernel_rfl) (fun _ _ _ h => h) (Or.inl ⟨by rfl, fun w _ => by go_simp⟩) hHeld ?_
        simp only [Act.put, List.setIfInBounds_toArray, List.set_cons_zero, List.set_cons_succ]
        refine wpAnyH_take (i := 3) (oi := ⟨some 29, .load 3 (.tmp 28), _, _, _, none⟩) (v := .int .i64 (a : Int)) rfl (by kernel_rfl) (by kernel_rfl) (by kernel_rfl) (fun _ _ _ h => h) (Or.inl ⟨by rfl, fun w hSw => by have e1 := hSw.2.1; clear hSw; go_simp⟩) hHeld ?_
        simp only [Act.put, List.setIfInBounds_toArray, List.set_cons_zero, List.set_cons_succ]
        refine wpAnyH_take (i := 4) (oi := ⟨some 30, .move (.tmp 7), _, _, _, none⟩) (v := .int .i64 1) rfl (by kernel_rfl) (by kernel_rfl) (by kernel_rfl) (fun _ _ _ h => h) (Or.inl ⟨by rfl, fun _ _ => rfl⟩) hHeld ?_
        simp only [Act.put, List.setIfInBounds_toArray, List.set_cons_zero, List.set_cons_succ]
        refine wpAnyH_take (i := 5) (oi := ⟨some 31, .binOp .add 3 (.tmp 29) (.tmp 30) 3, _, _, _, none⟩) (v := .int .i64 ((a : Int) + 1)) rfl (by kernel_rfl) (by kernel_rfl) (by kernel_rfl) (fun _ _ _ h => h) (Or.inl ⟨by rfl, fun w _ => by go_simp⟩) hHeld ?_
        simp only [Act.put, List.setIfInBounds_toArray, List.set_cons_zero, List.set_cons_succ]
        refine wpAnyH_take (i := 6) (oi := ⟨some 32, .binOp .quo 3 (.tmp 31) (.const (.int .i64 128)) 3, _, _, _, none⟩) (v := .int .i64 (((a : Int) + 1) / 128)) rfl (by kernel_rfl) (by kernel_rfl) (by kernel_rfl) (fun _ _ _ h => h) (Or.inl ⟨by rfl, fun w _ => by go_simp⟩) hHeld ?_
        simp only [Act.put, List.setIfInBounds_toArray, List.set_cons_zero, List.set_cons_succ]
        refine wpAnyH_take (i := 7) (oi := ⟨some 33, .fieldAddr 64 (.tmp 3) 0, _, _, _, none⟩) (v := .pointer (some ⟨w.heap.size + 1, 0, none⟩)) rfl (by kernel_rfl) (by kernel_rfl) (by kernel_rfl) (fun _ _ _ h => h) (Or.inl ⟨by rfl, fun w _ => by go_simp⟩) hHeld ?_
        simp only [Act.put, List.setIfInBounds_toArray, List.set_cons_zero, List.set_cons_succ]
        refine wpAnyH_take (i := 8) (oi := ⟨some 34, .load 3 (.tmp 33), _, _, _, none⟩) (v := .int .i64 (a : Int)) rfl (by kernel_rfl) (by kernel_rfl) (by kernel_rfl) (fun _ _ _ h => h) (Or.inl ⟨by rfl, fun w hSw => by have e1 := hSw.2.1; clear hSw; go_simp⟩) hHeld ?_
        simp only [Act.put, List.setIfInBounds_toArray, List.set_cons_zero, List.set_cons_succ]
        refine wpAnyH_take (i := 9) (oi := ⟨some 35, .move (.tmp 7), _, _, _, none⟩) (v := .int .i64 1) rfl (by kernel_rfl) (by kernel_rfl) (by kernel_rfl) (fun _ _ _ h => h) (Or.inl ⟨by rfl, fun _ _ => rfl⟩) hHeld ?_
        simp only [Act.put, List.setIfInBounds_toArray, List.set_cons_zero, List.set_cons_succ]
        refine wpAnyH_take (i := 10) (oi := ⟨some 36, .binOp .add 3 (.tmp 34) (.tmp 35) 3, _, _, _, none⟩) (v := .int .i64 ((a : Int) + 1)) rfl (by kernel_rfl) (by kernel_rfl) (by kernel_rfl) (fun _ _ _ h => h) (Or.inl ⟨by rfl, fun w _ => by go_simp⟩) hHeld ?_
        simp only [Act.put, List.setIfInBounds_toArray, List.set_cons_zero, List.set_cons_succ]
        refine wpAnyH_take (i := 11) (oi := ⟨some 37, .binOp .rem 3 (.tmp 36) (.const (.int .i64 128)) 3, _, _, _, none⟩) (v := .int .i64 (((a : Int) + 1) % 128)) rfl (by kernel_rfl) (by kernel_rfl) (by kernel_rfl) (fun _ _ _ h => h) (Or.inl ⟨by rfl, fun w _ => by go_simp⟩) hHeld ?_
        simp only [Act.put, List.setIfInBounds_toArray, List.set_cons_zero, List.set_cons_succ]
        refine wpAnyH_take (i := 12) (oi := ⟨some 38, .fieldAddr 64 (.tmp 3) 2, _, _, _, none⟩) (v := .pointer (some ⟨w.heap.size + 1, 2, none⟩)) rfl (by kernel_rfl) (by kernel_rfl) (by kernel_rfl) (fun _ _ _ h => h) (Or.inl ⟨by rfl, fun w _ => by go_simp⟩) hHeld ?_
        simp only [Act.put, List.setIfInBounds_toArray, List.set_cons_zero, List.set_cons_succ]
        refine wpAnyH_take (i := 13) (oi := ⟨some 39, .load 22 (.tmp 38), _, _, _, none⟩) (v := .int .u32 v) rfl (by kernel_rfl) (by kernel_rfl) (by kernel_rfl) (fun _ _ _ h => h) (Or.inl ⟨by rfl, fun w hSw => by have e1 := hSw.2.2; clear hSw; go_simp⟩) hHeld ?_
        simp only [Act.put, List.setIfInBounds_toArray, List.set_cons_zero, List.set_cons_succ]
        refine wpAnyH_take (i := 14) (oi := ⟨some 40, .move (.tmp 7), _, _, _, none⟩) (v := .int .i64 1) rfl (by kernel_rfl) (by kernel_rfl) (by kernel_rfl) (fun _ _ _ h => h) (Or.inl ⟨by rfl, fun _ _ => rfl⟩) hHeld ?_
        simp only [Act.put, List.setIfInBounds_toArray, List.set_cons_zero, List.set_cons_succ]
        refine wpAnyH_take (i := 15) (oi := ⟨some 41, .binOp .mul 3 (.const (.int .i64 8)) (.tmp 40) 3, _, _, _, none⟩) (v := .int .i64 8) rfl (by kernel_rfl) (by kernel_rfl) (by kernel_rfl) (fun _ _ _ h => h) (Or.inl ⟨by rfl, fun w _ => by go_simp⟩) hHeld ?_
        simp only [Act.put, List.setIfInBounds_toArray, List.set_cons_zero, List.set_cons_succ]
        refine wpAnyH_take (i := 16) (oi := ⟨some 42, .binOp .shr 22 (.tmp 39) (.tmp 41) 3, _, _, _, none⟩) (v := .int .u32 (v / 256)) rfl (by kernel_rfl) (by kernel_rfl) (by kernel_rfl) (fun _ _ _ h => h) (Or.inl ⟨by rfl, fun w _ => by go_simp⟩) hHeld ?_
        simp only [Act.put, List.setIfInBounds_toArray, List.set_cons_zero, List.set_cons_succ]
        refine wpAnyH_take (i := 17) (oi := ⟨some 43, .convert 22 5 (.tmp 42), _, _, _, none⟩) (v := .int .u8 (v / 256 % 256)) rfl (by kernel_rfl) (by kernel_rfl) (by kernel_rfl) (fun _ _ _ h => h) (Or.inl ⟨by rfl, fun w _ => by go_simp⟩) hHeld ?_
        simp only [Act.put, List.setIfInBounds_toArray, List.set_cons_zero, List.set_cons_succ]
        refine wpAnyH_take (i := 18) (oi := ⟨some 44, .indexAddr 27 (.tmp 27) (.tmp 32), _, _, _, none⟩) (v := .pointer (some ⟨g, (a + 1) / 128 * 128, none⟩)) rfl (by kernel_rfl) (by kernel_rfl) (by kernel_rfl) (fun _ _ _ h => h) (Or.inl ⟨by rfl, fun w _ => by go_simp⟩) hHeld ?_
        simp only [Act.put, List.setIfInBounds_toArray, List.set_cons_zero, List.set_cons_succ]
        refine wpAnyH_take (i := 19) (oi := ⟨some 45, .indexAddr 55 (.tmp 44) (.tmp 37), _, _, _, none⟩) (v := .pointer (some ⟨g, (a + 1), none⟩)) rfl (by kernel_rfl) (by kernel_rfl) (by kernel_rfl) (fun _ _ _ h => h) (Or.inl ⟨by rfl, fun w _ => by go_simp⟩) hHeld ?_
        simp only [Act.put, List.setIfInBounds_toArray, List.set_cons_zero, List.set_cons_succ]
        refine wpAnyH_ready (rs := [20]) (by kernel_rfl) (by simp) (AllReadyH.cons (o := ⟨none, .store 5 (.tmp 45) (.tmp 43), _, _, _, none⟩) rfl (fun K' hK => ?_) (AllReadyH.nil))
        go_simp
        have hbs := hbk.set (a + 1) (.int .u8 (v / 256 % 256))
        replace b6 := b6.set_other ⟨g, (a + 1), none⟩ (.int .u8 (v / 256 % 256)) (by simp; omega)
        replace bW := bW.set_other ⟨g, (a + 1), none⟩ (.int .u8 (v / 256 % 256)) (by simp; omega)
        replace bR := bR.set_other ⟨g, (a + 1), none⟩ (.int .u8 (v / 256 % 256)) (by simp; omega)
        replace lr : Later w (World.setCell _ ⟨g, (a + 1), none⟩ (.int .u8 (v / 256 % 256))) := lr.setCell hgw _
        refine hK.out _ _ ⟨b6.cell rfl, bW.cell rfl, bW.cell rfl⟩ (fun hHeld => ?_)
        clear hK K'
        try simp only [Act.put, List.setIfInBounds_toArray, List.set_cons_zero, List.set_cons_succ]
        refine wpAnyH_done (by kernel_rfl) ?_ _
        clear hHeld
        rw [show (U (Mm.put b a (X.take 1)) ++ junk).set (a + 1) (.int .u8 (v / 256 % 256)) = U (Mm.put b a (X.take (1 + 1))) ++ junk by rw [HRL.out, List.set_append_left _ _ (by rw [U_length, hlen]; exact hnK)]; unfold U; rw [List.map_set]] at hbs
        clear t0 u1 u2 u3 t1 t2 t3 t4 t5 q1 q2 q3 q4 hce hfe
        go_wp2
        go_roundw
        case rel => exact ⟨2, by omega, by go_num, hbs, b6, bW, bR, lr⟩
        case measure => simp [intOf]; omega
      · simp only [show ((2 : Nat) : Int) = 2 from rfl]
        have hx := HXg.out 2 hkr
        have hnK : (a + 2) < n * 128 := by have := HB.out.2; omega
        have hlen : (Mm.put b a (X.take 2)).length = n * 128 := by rw [Mm.put_len (by rw [List.length_take, HX.out, HB.out.1]; have := HB.out.2; omega), HB.out.1]
        have hce : wr.drew.cell? ⟨g, (a + 2), none⟩ = some (.int .u8 ((Mm.put b a (X.take 2)).getD (a + 2) 0)) := hbk.cell (by rw [List.getElem?_append_left (by rw [U_length, hlen]; exact hnK), U_get _ _ (by rw [hlen]; exact hnK)])
        obtain ⟨y, hy⟩ : ∃ y, y = (Mm.put b a (X.take 2)).getD (a + 2) 0 := ⟨_, rfl⟩
        rw [← hy] at hce
        have hfe := hbk.drew.frz (a + 2)
        have t0 : IntKind.i64.wrap ((a : Int) + 2) = ((a : Int) + 2) := by rw [IntKind.wrap_i64]; omega
        have u1 : IntKind.i64.wrap (((a : Int) + 2) / 128) = ((a : Int) + 2) / 128 := by rw [IntKind.wrap_i64]; omega
        have u2 : IntKind.i64.wrap 16 = 16 := rfl
        have u3 : IntKind.u8.wrap (v / 65536) = v / 65536 % 256 := by rw [IntKind.wrap_u8]
        have t1 : ((a : Int) + 2).tdiv 128 = ((a : Int) + 2) / 128 := Int.tdiv_eq_ediv_of_nonneg (by omega)
        have t2 : ((a : Int) + 2).tmod 128 = ((a : Int) + 2) % 128 := Int.tmod_eq_emod_of_nonneg (by omega)
        have t3 : (((a : Int) + 2) / 128).toNat = (a + 2) / 128 := by omega
        have t4 : (((a : Int) + 2) % 128).toNat = (a + 2) % 128 := by omega
        have t5 : (a + 2) / 128 * 128 + (a + 2) % 128 = (a + 2) := by omega
        have q1 : ((a : Int) + 2) / 128 < (n : Int) := by omega
        have q2 : ((a : Int) + 2) % 128 < 128 := by omega
        have q3 : (0 : Int) ≤ ((a : Int) + 2) / 128 := by omega
        have q4 : (0 : Int) ≤ ((a : Int) + 2) % 128 := by omega
        have HRL := Lib.hid (show Mm.put b a (X.take (2 + 1)) = (Mm.put b a (X.take 2)).set (a + 2) (v / 65536 % 256) by
          rw [List.take_add_one, hx, ← Mm.put_set _ _ _ (by rw [hlen]; exact hnK)]
          have := Mm.put_app b a (X.take 2) [v / 65536 % 256] (by rw [List.length_take, HX.out, HB.out.1]; have := HB.out.2; simp; omega)
          rw [show (X.take 2).length = 2 by rw [List.length_take, HX.out]; omega] at this
          rw [show (some (v / 256 ^ 2 % 256)).toList = [v / 65536 % 256] by rfl]
          exact this.symm)
        clear hx hy
        go_wp2
        replace b6 := b6.drew; replace bW := bW.drew; replace bR := bR.drew; replace hbk := hbk.drew; replace lr := lr.drew
        refine wp_region_held_drew (S := fun w' => w'.cell? ⟨B6, 0, none⟩ = some (.slice (some ⟨g, 0, none⟩) n c') ∧ w'.cell? ⟨w.heap.size + 1, 0, none⟩ = some (.int .i64 (a : Int)) ∧ w'.cell? ⟨w.heap.size + 1, 2, none⟩ = some (.int .u32 v)) (by kernel_rfl) ⟨b6.cell rfl, bW.cell rfl, bW.cell rfl⟩ (fun hHeld => ?_)
        refine wpAnyH_take (i := 0) (oi := ⟨some 26, .fieldAddr 29 (.tmp 6) 0, _, _, _, none⟩) (v := .pointer (some ⟨B6, 0, none⟩)) rfl (by kernel_rfl) (by kernel_rfl) (by kernel_rfl) (fun _ _ _ h => h) (Or.inl ⟨by rfl, fun w _ => by go_simp⟩) hHeld ?_
        simp only [Act.put, List.setIfInBounds_toArray, List.set_cons_zero, List.set_cons_succ]
        refine wpAnyH_take (i := 1) (oi := ⟨some 27, .load 27 (.tmp 26), _, _, _, none⟩) (v := .slice (some ⟨g, 0, none⟩) n c') rfl (by kernel_rfl) (by kernel_rfl) (by kernel_rfl) (fun _ _ _ h => h) (Or.inl ⟨by rfl, fun w hSw => by have e1 := hSw.1; clear hSw; go_simp⟩) hHeld ?_
        simp only [Act.put, List.setIfInBounds_toArray, List.set_cons_zero, List.set_cons_succ]
        refine wpAnyH_take (i := 2) (oi := ⟨some 28, .fieldAddr 64 (.tmp 3) 0, _, _, _, none⟩) (v := .pointer (some ⟨w.heap.size + 1, 0, none⟩)) rfl (by kernel_rfl) (by kernel_rfl) (by kernel_rfl) (fun _ _ _ h => h) (Or.inl ⟨by rfl, fun w _ => by go_simp⟩) hHeld ?_
        simp only [Act.put, List.setIfInBounds_toArray, List.set_cons_zero, List.set_cons_succ]
        refine wpAnyH_take (i := 3) (oi := ⟨some 29, .load 3 (.tmp 28), _, _, _, none⟩) (v := .int .i64 (a : Int)) rfl (by kernel_rfl) (by kernel_rfl) (by kernel_rfl) (fun _ _ _ h => h) (Or.inl ⟨by rfl, fun w hSw => by have e1 := hSw.2.1; clear hSw; go_simp⟩) hHeld ?_
        simp only [Act.put, List.setIfInBounds_toArray, List.set_cons_zero, List.set_cons_succ]
        refine wpAnyH_take (i := 4) (oi := ⟨some 30, .move (.tmp 7), _, _, _, none⟩) (v := .int .i64 2) rfl (by kernel_rfl) (by kernel_rfl) (by kernel_rfl) (fun _ _ _ h => h) (Or.inl ⟨by rfl, fun _ _ => rfl⟩) hHeld ?_
        simp only [Act.put, List.setIfInBounds_toArray, List.set_cons_zero, List.set_cons_succ]
        refine wpAnyH_take (i := 5) (oi := ⟨some 31, .binOp .add 3 (.tmp 29) (.tmp 30) 3, _, _, _, none⟩) (v := .int .i64 ((a : Int) + 2)) rfl (by kernel_rfl) (by kernel_rfl) (by kernel_rfl) (fun _ _ _ h => h) (Or.inl ⟨by rfl, fun w _ => by go_simp⟩) hHeld ?_
        simp only [Act.put, List.setIfInBounds_toArray, List.set_cons_zero, List.set_cons_succ]
        refine wpAnyH_take (i := 6) (oi := ⟨some 32, .binOp .quo 3 (.tmp 31) (.const (.int .i64 128)) 3, _, _, _, none⟩) (v := .int .i64 (((a : Int) + 2) / 128)) rfl (by kernel_rfl) (by kernel_rfl) (by kernel_rfl) (fun _ _ _ h => h) (Or.inl ⟨by rfl, fun w _ => by go_simp⟩) hHeld ?_
        simp only [Act.put, List.setIfInBounds_toArray, List.set_cons_zero, List.set_cons_succ]
        refine wpAnyH_take (i := 7) (oi := ⟨some 33, .fieldAddr 64 (.tmp 3) 0, _, _, _, none⟩) (v := .pointer (some ⟨w.heap.size + 1, 0, none⟩)) rfl (by kernel_rfl) (by kernel_rfl) (by kernel_rfl) (fun _ _ _ h => h) (Or.inl ⟨by rfl, fun w _ => by go_simp⟩) hHeld ?_
        simp only [Act.put, List.setIfInBounds_toArray, List.set_cons_zero, List.set_cons_succ]
        refine wpAnyH_take (i := 8) (oi := ⟨some 34, .load 3 (.tmp 33), _, _, _, none⟩) (v := .int .i64 (a : Int)) rfl (by kernel_rfl) (by kernel_rfl) (by kernel_rfl) (fun _ _ _ h => h) (Or.inl ⟨by rfl, fun w hSw => by have e1 := hSw.2.1; clear hSw; go_simp⟩) hHeld ?_
        simp only [Act.put, List.setIfInBounds_toArray, List.set_cons_zero, List.set_cons_succ]
        refine wpAnyH_take (i := 9) (oi := ⟨some 35, .move (.tmp 7), _, _, _, none⟩) (v := .int .i64 2) rfl (by kernel_rfl) (by kernel_rfl) (by kernel_rfl) (fun _ _ _ h => h) (Or.inl ⟨by rfl, fun _ _ => rfl⟩) hHeld ?_
        simp only [Act.put, List.setIfInBounds_toArray, List.set_cons_zero, List.set_cons_succ]
        refine wpAnyH_take (i := 10) (oi := ⟨some 36, .binOp .add 3 (.tmp 34) (.tmp 35) 3, _, _, _, none⟩) (v := .int .i64 ((a : Int) + 2)) rfl (by kernel_rfl) (by kernel_rfl) (by kernel_rfl) (fun _ _ _ h => h) (Or.inl ⟨by rfl, fun w _ => by go_simp⟩) hHeld ?_
        simp only [Act.put, List.setIfInBounds_toArray, List.set_cons_zero, List.set_cons_succ]
        refine wpAnyH_take (i := 11) (oi := ⟨some 37, .binOp .rem 3 (.tmp 36) (.const (.int .i64 128)) 3, _, _, _, none⟩) (v := .int .i64 (((a : Int) + 2) % 128)) rfl (by kernel_rfl) (by kernel_rfl) (by kernel_rfl) (fun _ _ _ h => h) (Or.inl ⟨by rfl, fun w _ => by go_simp⟩) hHeld ?_
        simp only [Act.put, List.setIfInBounds_toArray, List.set_cons_zero, List.set_cons_succ]
        refine wpAnyH_take (i := 12) (oi := ⟨some 38, .fieldAddr 64 (.tmp 3) 2, _, _, _, none⟩) (v := .pointer (some ⟨w.heap.size + 1, 2, none⟩)) rfl (by kernel_rfl) (by kernel_rfl) (by kernel_rfl) (fun _ _ _ h => h) (Or.inl ⟨by rfl, fun w _ => by go_simp⟩) hHeld ?_
        simp only [Act.put, List.setIfInBounds_toArray, List.set_cons_zero, List.set_cons_succ]
        refine wpAnyH_take (i := 13) (oi := ⟨some 39, .load 22 (.tmp 38), _, _, _, none⟩) (v := .int .u32 v) rfl (by kernel_rfl) (by kernel_rfl) (by kernel_rfl) (fun _ _ _ h => h) (Or.inl ⟨by rfl, fun w hSw => by have e1 := hSw.2.2; clear hSw; go_simp⟩) hHeld ?_
        simp only [Act.put, List.setIfInBounds_toArray, List.set_cons_zero, List.set_cons_succ]
        refine wpAnyH_take (i := 14) (oi := ⟨some 40, .move (.tmp 7), _, _, _, none⟩) (v := .int .i64 2) rfl (by kernel_rfl) (by kernel_rfl) (by kernel_rfl) (fun _ _ _ h => h) (Or.inl ⟨by rfl, fun _ _ => rfl⟩) hHeld ?_
        simp only [Act.put, List.setIfInBounds_toArray, List.set_cons_zero, List.set_cons_succ]
        refine wpAnyH_take (i := 15) (oi := ⟨some 41, .binOp .mul 3 (.const (.int .i64 8)) (.tmp 40) 3, _, _, _, none⟩) (v := .int .i64 16) rfl (by kernel_rfl) (by kernel_rfl) (by kernel_rfl) (fun _ _ _ h => h) (Or.inl ⟨by rfl, fun w _ => by go_simp⟩) hHeld ?_
        simp only [Act.put, List.setIfInBounds_toArray, List.set_cons_zero, List.set_cons_succ]
        refine wpAnyH_take (i := 16) (oi := ⟨some 42, .binOp .shr 22 (.tmp 39) (.tmp 41) 3, _, _, _, none⟩) (v := .int .u32 (v / 65536)) rfl (by kernel_rfl) (by kernel_rfl) (by kernel_rfl) (fun _ _ _ h => h) (Or.inl ⟨by rfl, fun w _ => by go_simp⟩) hHeld ?_
        simp only [Act.put, List.setIfInBounds_toArray, List.set_cons_zero, List.set_cons_succ]
        refine wpAnyH_take (i := 17) (oi := ⟨some 43, .convert 22 5 (.tmp 42), _, _, _, none⟩) (v := .int .u8 (v / 65536 % 256)) rfl (by kernel_rfl) (by kernel_rfl) (by kernel_rfl) (fun _ _ _ h => h) (Or.inl ⟨by rfl, fun w _ => by go_simp⟩) hHeld ?_
        simp only [Act.put, List.setIfInBounds_toArray, List.set_cons_zero, List.set_cons_succ]
        refine wpAnyH_take (i := 18) (oi := ⟨some 44, .indexAddr 27 (.tmp 27) (.tmp 32), _, _, _, none⟩) (v := .pointer (some ⟨g, (a + 2) / 128 * 128, none⟩)) rfl (by kernel_rfl) (by kernel_rfl) (by kernel_rfl) (fun _ _ _ h => h) (Or.inl ⟨by rfl, fun w _ => by go_simp⟩) hHeld ?_
        simp only [Act.put, List.setIfInBounds_toArray, List.set_cons_zero, List.set_cons_succ]
        refine wpAnyH_take (i := 19) (oi := ⟨some 45, .indexAddr 55 (.tmp 44) (.tmp 37), _, _, _, none⟩) (v := .pointer (some ⟨g, (a + 2), none⟩)) rfl (by kernel_rfl) (by kernel_rfl) (by kernel_rfl) (fun _ _ _ h => h) (Or.inl ⟨by rfl, fun w _ => by go_simp⟩) hHeld ?_
        simp only [Act.put, List.setIfInBounds_toArray, List.set_cons_zero, List.set_cons_succ]
        refine wpAnyH_ready (rs := [20]) (by kernel_rfl) (by simp) (AllReadyH.cons (o := ⟨none, .store 5 (.tmp 45) (.tmp 43), _, _, _, none⟩) rfl (fun K' hK => ?_) (AllReadyH.nil))
        go_simp
        have hbs := hbk.set (a + 2) (.int .u8 (v / 65536 % 256))
        replace b6 := b6.set_other ⟨g, (a + 2), none⟩ (.int .u8 (v / 65536 % 256)) (by simp; omega)
        replace bW := bW.set_other ⟨g, (a + 2), none⟩ (.int .u8 (v / 65536 % 256)) (by simp; omega)
        replace bR := bR.set_other ⟨g, (a + 2), none⟩ (.int .u8 (v / 65536 % 256)) (by simp; omega)
        replace lr : Later w (World.setCell _ ⟨g, (a + 2), none⟩ (.int .u8 (v / 65536 % 256))) := lr.setCell hgw _
        refine hK.out _ _ ⟨b6.cell rfl, bW.cell rfl, bW.cell rfl⟩ (fun hHeld => ?_)
        clear hK K'
        try simp only [Act.put, List.setIfInBounds_toArray, List.set_cons_zero, List.set_cons_succ]
        refine wpAnyH_done (by kernel_rfl) ?_ _
        clear hHeld
        rw [show (U (Mm.put b a (X.take 2)) ++ junk).set (a + 2) (.int .u8 (v / 65536 % 256)) = U (Mm.put b a (X.take (2 + 1))) ++ junk by rw [HRL.out, List.set_append_left _ _ (by rw [U_length, hlen]; exact hnK)]; unfold U; rw [List.map_set]] at hbs
        clear t0 u1 u2 u3 t1 t2 t3 t4 t5 q1 q2 q3 q4 hce hfe
        go_wp2
        go_roundw
        case rel => exact ⟨3, by omega, by go_num, hbs, b6, bW, bR, lr⟩
        case measure => simp [intOf]; omega
      · simp only [show ((3 : Nat) : Int) = 3 from rfl]
        have hx := HXg.out 3 hkr
        have hnK : (a + 3) < n * 128 := by have := HB.out.2; omega
        have hlen : (Mm.put b a (X.take 3)).length = n * 128 := by rw [Mm.put_len (by rw [List.length_take, HX.out, HB.out.1]; have := HB.out.2; omega), HB.out.1]
        have hce : wr.drew.cell? ⟨g, (a + 3), none⟩ = some (.int .u8 ((Mm.put b a (X.take 3)).getD (a + 3) 0)) := hbk.cell (by rw [List.getElem?_append_left (by rw [U_length, hlen]; exact hnK), U_get _ _ (by rw [hlen]; exact hnK)])
        obtain ⟨y, hy⟩ : ∃ y, y = (Mm.put b a (X.take 3)).getD (a + 3) 0 := ⟨_, rfl⟩
        rw [← hy] at hce
        have hfe := hbk.drew.frz (a + 3)
        have t0 : IntKind.i64.wrap ((a : Int) + 3) = ((a : Int) + 3) := by rw [IntKind.wrap_i64]; omega
        have u1 : IntKind.i64.wrap (((a : Int) + 3) / 128) = ((a : Int) + 3) / 128 := by rw [IntKind.wrap_i64]; omega
        have u2 : IntKind.i64.wrap 24 = 24 := rfl
        have u3 : IntKind.u8.wrap (v / 16777216) = v / 16777216 := by rw [IntKind.wrap_u8]; omega
        have t1 : ((a : Int) + 3).tdiv 128 = ((a : Int) + 3) / 128 := Int.tdiv_eq_ediv_of_nonneg (by omega)
        have t2 : ((a : Int) + 3).tmod 128 = ((a : Int) + 3) % 128 := Int.tmod_eq_emod_of_nonneg (by omega)
        have t3 : (((a : Int) + 3) / 128).toNat = (a + 3) / 128 := by omega
        have t4 : (((a : Int) + 3) % 128).toNat = (a + 3) % 128 := by omega
        have t5 : (a + 3) / 128 * 128 + (a + 3) % 128 = (a + 3) := by omega
        have q1 : ((a : Int) + 3) / 128 < (n : Int) := by omega
        have q2 : ((a : Int) + 3) % 128 < 128 := by omega
        have q3 : (0 : Int) ≤ ((a : Int) + 3) / 128 := by omega
        have q4 : (0 : Int) ≤ ((a : Int) + 3) % 128 := by omega
        have HRL := Lib.hid (show Mm.put b a (X.take (3 + 1)) = (Mm.put b a (X.take 3)).set (a + 3) (v / 16777216) by
          rw [List.take_add_one, hx, ← Mm.put_set _ _ _ (by rw [hlen]; exact hnK)]
          have := Mm.put_app b a (X.take 3) [v / 16777216] (by rw [List.length_take, HX.out, HB.out.1]; have := HB.out.2; simp; omega)
          rw [show (X.take 3).length = 3 by rw [List.length_take, HX.out]; omega] at this
          rw [show (some (v / 256 ^ 3 % 256)).toList = [v / 16777216] by rw [show v / 256 ^ 3 % 256 = v / 16777216 by omega]; rfl]
          exact this.symm)
        clear hx hy
        go_wp2
        replace b6 := b6.drew; replace bW := bW.drew; replace bR := bR.drew; replace hbk := hbk.drew; replace lr := lr.drew
        refine wp_region_held_drew (S := fun w' => w'.cell? ⟨B6, 0, none⟩ = some (.slice (some ⟨g, 0, none⟩) n c') ∧ w'.cell? ⟨w.heap.size + 1, 0, none⟩ = some (.int .i64 (a : Int)) ∧ w'.cell? ⟨w.heap.size + 1, 2, none⟩ = some (.int .u32 v)) (by kernel_rfl) ⟨b6.cell rfl, bW.cell rfl, bW.cell rfl⟩ (fun hHeld => ?_)
        refine wpAnyH_take (i := 0) (oi := ⟨some 26, .fieldAddr 29 (.tmp 6) 0, _, _, _, none⟩) (v := .pointer (some ⟨B6, 0, none⟩)) rfl (by kernel_rfl) (by kernel_rfl) (by kernel_rfl) (fun _ _ _ h => h) (Or.inl ⟨by rfl, fun w _ => by go_simp⟩) hHeld ?_
        simp only [Act.put, List.setIfInBounds_toArray, List.set_cons_zero, List.set_cons_succ]
        refine wpAnyH_take (i := 1) (oi := ⟨some 27, .load 27 (.tmp 26), _, _, _, none⟩) (v := .slice (some ⟨g, 0, none⟩) n c') rfl (by kernel_rfl) (by kernel_rfl) (by kernel_rfl) (fun _ _ _ h => h) (Or.inl ⟨by rfl, fun w hSw => by have e1 := hSw.1; clear hSw; go_simp⟩) hHeld ?_
        simp only [Act.put, List.setIfInBounds_toArray, List.set_cons_zero, List.set_cons_succ]
        refine wpAnyH_take (i := 2) (oi := ⟨some 28, .fieldAddr 64 (.tmp 3) 0, _, _, _, none⟩) (v := .pointer (some ⟨w.heap.size + 1, 0, none⟩)) rfl (by kernel_rfl) (by kernel_rfl) (by kernel_rfl) (fun _ _ _ h => h) (Or.inl ⟨by rfl, fun w _ => by go_simp⟩) hHeld ?_
        simp only [Act.put, List.setIfInBounds_toArray, List.set_cons_zero, List.set_cons_succ]
        refine wpAnyH_take (i := 3) (oi := ⟨some 29, .load 3 (.tmp 28), _, _, _, none⟩) (v := .int .i64 (a : Int)) rfl (by kernel_rfl) (by kernel_rfl) (by kernel_rfl) (fun _ _ _ h => h) (Or.inl ⟨by rfl, fun w hSw => by have e1 := hSw.2.1; clear hSw; go_simp⟩) hHeld ?_
        simp only [Act.put, List.setIfInBounds_toArray, List.set_cons_zero, List.set_cons_succ]
        refine wpAnyH_take (i := 4) (oi := ⟨some 30, .move (.tmp 7), _, _, _, none⟩) (v := .int .i64 3) rfl (by kernel_rfl) (by kernel_rfl) (by kernel_rfl) (fun _ _ _ h => h) (Or.inl ⟨by rfl, fun _ _ => rfl⟩) hHeld ?_
        simp only [Act.put, List.setIfInBounds_toArray, List.set_cons_zero, List.set_cons_succ]
        refine wpAnyH_take (i := 5) (oi := ⟨some 31, .binOp .add 3 (.tmp 29) (.tmp 30) 3, _, _, _, none⟩) (v := .int .i64 ((a : Int) + 3)) rfl (by kernel_rfl) (by kernel_rfl) (by kernel_rfl) (fun _ _ _ h => h) (Or.inl ⟨by rfl, fun w _ => by go_simp⟩) hHeld ?_
        simp only [Act.put, List.setIfInBounds_toArray, List.set_cons_zero, List.set_cons_succ]
        refine wpAnyH_take (i := 6) (oi := ⟨some 32, .binOp .quo 3 (.tmp 31) (.const (.int .i64 128)) 3, _, _, _, none⟩) (v := .int .i64 (((a : Int) + 3) / 128)) rfl (by kernel_rfl) (by kernel_rfl) (by kernel_rfl) (fun _ _ _ h => h) (Or.inl ⟨by rfl, fun w _ => by go_simp⟩) hHeld ?_
        simp only [Act.put, List.setIfInBounds_toArray, List.set_cons_zero, List.set_cons_succ]
        refine wpAnyH_take (i := 7) (oi := ⟨some 33, .fieldAddr 64 (.tmp 3) 0, _, _, _, none⟩) (v := .pointer (some ⟨w.heap.size + 1, 0, none⟩)) rfl (by kernel_rfl) (by kernel_rfl) (by kernel_rfl) (fun _ _ _ h => h) (Or.inl ⟨by rfl, fun w _ => by go_simp⟩) hHeld ?_
        simp only [Act.put, List.setIfInBounds_toArray, List.set_cons_zero, List.set_cons_succ]
        refine wpAnyH_take (i := 8) (oi := ⟨some 34, .load 3 (.tmp 33), _, _, _, none⟩) (v := .int .i64 (a : Int)) rfl (by kernel_rfl) (by kernel_rfl) (by kernel_rfl) (fun _ _ _ h => h) (Or.inl ⟨by rfl, fun w hSw => by have e1 := hSw.2.1; clear hSw; go_simp⟩) hHeld ?_
        simp only [Act.put, List.setIfInBounds_toArray, List.set_cons_zero, List.set_cons_succ]
        refine wpAnyH_take (i := 9) (oi := ⟨some 35, .move (.tmp 7), _, _, _, none⟩) (v := .int .i64 3) rfl (by kernel_rfl) (by kernel_rfl) (by kernel_rfl) (fun _ _ _ h => h) (Or.inl ⟨by rfl, fun _ _ => rfl⟩) hHeld ?_
        simp only [Act.put, List.setIfInBounds_toArray, List.set_cons_zero, List.set_cons_succ]
        refine wpAnyH_take (i := 10) (oi := ⟨some 36, .binOp .add 3 (.tmp 34) (.tmp 35) 3, _, _, _, none⟩) (v := .int .i64 ((a : Int) + 3)) rfl (by kernel_rfl) (by kernel_rfl) (by kernel_rfl) (fun _ _ _ h => h) (Or.inl ⟨by rfl, fun w _ => by go_simp⟩) hHeld ?_
        simp only [Act.put, List.setIfInBounds_toArray, List.set_cons_zero, List.set_cons_succ]
        refine wpAnyH_take (i := 11) (oi := ⟨some 37, .binOp .rem 3 (.tmp 36) (.const (.int .i64 128)) 3, _, _, _, none⟩) (v := .int .i64 (((a : Int) + 3) % 128)) rfl (by kernel_rfl) (by kernel_rfl) (by kernel_rfl) (fun _ _ _ h => h) (Or.inl ⟨by rfl, fun w _ => by go_simp⟩) hHeld ?_
        simp only [Act.put, List.setIfInBounds_toArray, List.set_cons_zero, List.set_cons_succ]
        refine wpAnyH_take (i := 12) (oi := ⟨some 38, .fieldAddr 64 (.tmp 3) 2, _, _, _, none⟩) (v := .pointer (some ⟨w.heap.size + 1, 2, none⟩)) rfl (by kernel_rfl) (by kernel_rfl) (by kernel_rfl) (fun _ _ _ h => h) (Or.inl ⟨by rfl, fun w _ => by go_simp⟩) hHeld ?_
        simp only [Act.put, List.setIfInBounds_toArray, List.set_cons_zero, List.set_cons_succ]
        refine wpAnyH_take (i := 13) (oi := ⟨some 39, .load 22 (.tmp 38), _, _, _, none⟩) (v := .int .u32 v) rfl (by kernel_rfl) (by kernel_rfl) (by kernel_rfl) (fun _ _ _ h => h) (Or.inl ⟨by rfl, fun w hSw => by have e1 := hSw.2.2; clear hSw; go_simp⟩) hHeld ?_
        simp only [Act.put, List.setIfInBounds_toArray, List.set_cons_zero, List.set_cons_succ]
        refine wpAnyH_take (i := 14) (oi := ⟨some 40, .move (.tmp 7), _, _, _, none⟩) (v := .int .i64 3) rfl (by kernel_rfl) (by kernel_rfl) (by kernel_rfl) (fun _ _ _ h => h) (Or.inl ⟨by rfl, fun _ _ => rfl⟩) hHeld ?_
        simp only [Act.put, List.setIfInBounds_toArray, List.set_cons_zero, List.set_cons_succ]
        refine wpAnyH_take (i := 15) (oi := ⟨some 41, .binOp .mul 3 (.const (.int .i64 8)) (.tmp 40) 3, _, _, _, none⟩) (v := .int .i64 24) rfl (by kernel_rfl) (by kernel_rfl) (by kernel_rfl) (fun _ _ _ h => h) (Or.inl ⟨by rfl, fun w _ => by go_simp⟩) hHeld ?_
        simp only [Act.put, List.setIfInBounds_toArray, List.set_cons_zero, List.set_cons_succ]
        refine wpAnyH_take (i := 16) (oi := ⟨some 42, .binOp .shr 22 (.tmp 39) (.tmp 41) 3, _, _, _, none⟩) (v := .int .u32 (v / 16777216)) rfl (by kernel_rfl) (by kernel_rfl) (by kernel_rfl) (fun _ _ _ h => h) (Or.inl ⟨by rfl, fun w _ => by go_simp⟩) hHeld ?_
        simp only [Act.put, List.setIfInBounds_toArray, List.set_cons_zero, List.set_cons_succ]
        refine wpAnyH_take (i := 17) (oi := ⟨some 43, .convert 22 5 (.tmp 42), _, _, _, none⟩) (v := .int .u8 (v / 16777216)) rfl (by kernel_rfl) (by kernel_rfl) (by kernel_rfl) (fun _ _ _ h => h) (Or.inl ⟨by rfl, fun w _ => by go_simp⟩) hHeld ?_
        simp only [Act.put, List.setIfInBounds_toArray, List.set_cons_zero, List.set_cons_succ]
        refine wpAnyH_take (i := 18) (oi := ⟨some 44, .indexAddr 27 (.tmp 27) (.tmp 32), _, _, _, none⟩) (v := .pointer (some ⟨g, (a + 3) / 128 * 128, none⟩)) rfl (by kernel_rfl) (by kernel_rfl) (by kernel_rfl) (fun _ _ _ h => h) (Or.inl ⟨by rfl, fun w _ => by go_simp⟩) hHeld ?_
        simp only [Act.put, List.setIfInBounds_toArray, List.set_cons_zero, List.set_cons_succ]
        refine wpAnyH_take (i := 19) (oi := ⟨some 45, .indexAddr 55 (.tmp 44) (.tmp 37), _, _, _, none⟩) (v := .pointer (some ⟨g, (a + 3), none⟩)) rfl (by kernel_rfl) (by kernel_rfl) (by kernel_rfl) (fun _ _ _ h => h) (Or.inl ⟨by rfl, fun w _ => by go_simp⟩) hHeld ?_
        simp only [Act.put, List.setIfInBounds_toArray, List.set_cons_zero, List.set_cons_succ]
        refine wpAnyH_ready (rs := [20]) (by kernel_rfl) (by simp) (AllReadyH.cons (o := ⟨none, .store 5 (.tmp 45) (.tmp 43), _, _, _, none⟩) rfl (fun K' hK => ?_) (AllReadyH.nil))
        go_simp
        have hbs := hbk.set (a + 3) (.int .u8 (v / 16777216))
        replace b6 := b6.set_other ⟨g, (a + 3), none⟩ (.int .u8 (v / 16777216)) (by simp; omega)
        replace bW := bW.set_other ⟨g, (a + 3), none⟩ (.int .u8 (v / 16777216)) (by simp; omega)
        replace bR := bR.set_other ⟨g, (a + 3), none⟩ (.int .u8 (v / 16777216)) (by simp; omega)
        replace lr : Later w (World.setCell _ ⟨g, (a + 3), none⟩ (.int .u8 (v / 16777216))) := lr.setCell hgw _
        refine hK.out _ _ ⟨b6.cell rfl, bW.cell rfl, bW.cell rfl⟩ (fun hHeld => ?_)
        clear hK K'
        try simp only [Act.put, List.setIfInBounds_toArray, List.set_cons_zero, List.set_cons_succ]
        refine wpAnyH_done (by kernel_rfl) ?_ _
        clear hHeld
        rw [show (U (Mm.put b a (X.take 3)) ++ junk).set (a + 3) (.int .u8 (v / 16777216)) = U (Mm.put b a (X.take (3 + 1))) ++ junk by rw [HRL.out, List.set_append_left _ _ (by rw [U_length, hlen]; exact hnK)]; unfold U; rw [List.map_set]] at hbs
        clear t0 u1 u2 u3 t1 t2 t3 t4 t5 q1 q2 q3 q4 hce hfe
        go_wp2
        go_roundw
        case rel => exact ⟨4, by omega, by go_num, hbs, b6, bW, bR, lr⟩
        case measure => simp [intOf]; omega
    · obtain rfl : k = s := by omega
      rw [List.take_of_length_le (by rw [HX.out]; exact Nat.le_refl _)] at hbk
      have c0 := bR.cell (j := 0) (v := .slice none 0 0) rfl
      have c1 := bR.cell (j := 1) (v := .bool false) rfl
      have f0 := bR.frz 0
      have f1 := bR.frz 1
      have nkk : ¬ (k : Int) < (k : Int) := by omega
      have hDr : Draft wr g n (Mm.put b a X) := ⟨by rw [Mm.put_len (by rw [HX.out, HB.out.1]; exact HB.out.2), HB.out.1], t, junk, hbk⟩
      have HDr := Lib.hid hDr
      clear hDr hbk
      go_wp2
      exact bodyPost_ret (results_blk Tryz.results27 _ _ (w.heap.size + 1 + 1) 77 [.slice (some ⟨g, 0, none⟩) n c', .bool true] _ rfl ((bR.set 0 _).set 1 _) Tryz.underlying77 rfl (sto_sz _ _)) rfl ⟨_, _, rfl, hgw, k2, k3, (HDr.out.only (Only.set _ (w.heap.size + 1 + 1) 0 _) (by omega)).only (Only.set _ (w.heap.size + 1 + 1) 1 _) (by omega), (lr.setCell (by simp; omega) _).setCell (by simp; omega) _⟩
end Go.Proofs.YtidhodalnikhlaaGreatDoor
