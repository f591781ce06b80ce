/-
  THE WALKS OF THE DECODERS of digests, wire's and the reference's.
-/
import Derived.Test.YtoigpokmlohhkaaWireG
import Derived.Laws.CopyOwn
import Derived.Laws.ResultCell
import Derived.Great.BuildSlice
namespace Go.Proofs.Ytoigpokmlohhkaa
open Go.RowKit

theorem results_cell2 {fn : Func} {p u v : Tmp} {ty : TypeId} (h : fn.results = #[.cell p ty, .tmp u, .tmp v]) (tmps : Array Value) (P : Program) (w : World) (ad : Addr) (cs : List Value) (d : TypeDesc)
    (hp : tmps.getD p undef = .pointer (some ad)) (hc : ∀ j x, cs[j]? = some x → w.cell? (ad.add j) = some x)
    (hu : P.underlying ty = some d) (hd : d.isRow = true) (hi : (P.info? ty).map (·.size) = some cs.length) :
    (results fn tmps).run P w = .ok (.tuple #[.agg cs.toArray, tmps.getD u undef, tmps.getD v undef]) w := by
  have hl := run_loadAt_addr (P := P) w ad ty cs d hc hu hd hi
  have hl2 : (loadVar ty ad).run P w = .ok (.agg cs.toArray) w := by
    simpa [Instr.loadAt, Instr.sureAddr, Sem.run_bind, Sem.run_pure, Result.andThen_ok] using hl
  have hp' : tmps[p]?.getD undef = .pointer (some ad) := by simpa using hp
  have ha : (asAddr (tmps[p]?.getD undef)).run P w = .ok ad w := by rw [hp']; simp [asAddr]
  simp only [results, h]
  simp [Sem.run_bind, Result.andThen, ha, hl2]

def zeros16 : List Value := List.replicate 16 (.int .u8 0)
/-- What wire.getDigest answers. -/
def GotD (d : Wm.Bs) (w : World) (e : Ending) (w' : World) : Prop := e = .returned (.tuple #[.agg (U d).toArray, .int .i64 16, .int .i64 0]) ∧ Later w w'

set_option maxRecDepth 100000 in
set_option maxHeartbeats 400000 in
theorem getDigest_any (A : Option Addr) (n c : Nat) (b : Wm.Bs) (w : World) (hs : Sl w 1 A n (U b)) (hn : 16 ≤ n) (hnm : n ≤ maxLen) :
    Calls Try.prog 31 #[.slice A n c] w (GotD (b.take 16) w) := by
  unfold maxLen at hnm
  have hln := hs.blen
  obtain ⟨ad, hA, hbl, hcells⟩ := hs.2 (by omega)
  subst hA
  obtain ⟨Y, hY⟩ : ∃ Y, Y = U (b.take 16) := ⟨_, rfl⟩
  have hYl : Y.length = 16 := by rw [hY, U_length, List.length_take]; omega
  have hYc : ∀ j v, Y[j]? = some v → w.cell? (ad.add j) = some v := by
    intro j v hv
    apply hcells j v
    rw [hY] at hv
    unfold U at *
    rw [List.getElem?_map, List.getElem?_take] at hv
    rw [List.getElem?_map]
    split at hv
    · exact hv
    · cases hv
  have hY1 : ∀ v ∈ Y, v.oneCell' = true := by rw [hY]; exact U_one _
  show Calls _ _ _ _ fun e w' => e = .returned (.tuple #[.agg (U (b.take 16)).toArray, .int .i64 16, .int .i64 0]) ∧ Later w w'
  rw [← hY]
  have HY := Lib.hid hY; have HYl := Lib.hid hYl; have HYc := Lib.hid hYc; have HY1 := Lib.hid hY1
  clear hY hYl hYc hY1 hln hcells
  have hsz1 : (Try.prog.info? 5).map (·.size) = some 1 := by kernel_rfl
  have hszY : (Try.prog.info? 47).map (·.size) = some Y.length := by rw [HYl.out]; exact dig_size
  have hszY2 : (Try.prog.info? 47).map (·.size) = some Y.toArray.size := by rw [List.size_toArray, HYl.out]; exact dig_size
  have hspl : splice zeros16 0 Y = Y := by
    unfold splice zeros16
    rw [List.take_zero, List.nil_append, HYl.out, List.drop_eq_nil_of_le (by simp), List.append_nil]
  have HSP := Lib.hid hspl; clear hspl
  have k1 : Hid (((w.alloc (.cells zeros16.toArray 47)).alloc (.cells zeros16.toArray 47)).heap[w.heap.size + 1]? = some (.cells zeros16.toArray 47 (0, 0))) := heap_alloc2_new w _ _
  have k2 : Hid (Y.length = Nat.min n 16) := by
    show Y.length = min n 16
    rw [HYl.out]; omega
  have k3 : Hid (∀ j v, Y[j]? = some v → ((w.alloc (.cells zeros16.toArray 47)).alloc (.cells zeros16.toArray 47)).cell? (ad.add j) = some v) := by
    intro j v hv
    rw [World.cell?_alloc_lt _ _ _ (by rw [addr_add_block]; simp; omega), World.cell?_alloc_lt _ _ _ (by rw [addr_add_block]; omega)]
    exact HYc.out j v hv
  have k4 : Hid (0 + Y.length ≤ zeros16.length) := by
    show 0 + Y.length ≤ zeros16.length
    rw [HYl.out]; simp [zeros16]
  have k5 : Hid (Below (w.heap.size + 1) (w.alloc (.cells zeros16.toArray 47)) ((w.alloc (.cells zeros16.toArray 47)).alloc (.cells zeros16.toArray 47))) := (Below.refl _ _).alloc (by simp) _
  have k6 : Hid (∀ w2 : World, Hid (w2.heap[w.heap.size + 1]? = some (.cells (splice zeros16 0 Y).toArray 47 (0, 0))) → Below (w.heap.size + 1) (w.alloc (.cells zeros16.toArray 47)) w2 →
      (∀ j v, Y[j]? = some v → w2.cell? ((⟨w.heap.size + 1, 0, none⟩ : Addr).add j) = some v) ∧ w2.heap[w.heap.size]? = some (.cells zeros16.toArray 47 (0, 0)) ∧ Later w w2) := by
    intro w2 HG hB2
    have hg := HG.out
    rw [HSP.out] at hg
    exact ⟨fun j v h => World.news_of_block hg j v (by simpa using h), (hB2.block w.heap.size (by omega)).trans (heap_alloc_new w _), ((Below.refl _ _).alloc (Nat.le_refl _) _).trans (hB2.mono (by omega))⟩
  go_enter Try.func31, Try.ntmps31
  go_wp2_with (first
    | ((with_reducible refine wpList_copy_splice (o := ⟨some 9, .call { callee := .builtin .copy, args := #[.tmp 7, .tmp 8], argTypes := #[27, 27] }, _, _, _, none⟩) rfl _ _ _ _ rfl 5 Try.underlying27 hsz1 (some ⟨w.heap.size + 1, 0, none⟩) (some ad) 16 16 n c ?_ ?_ (w.heap.size + 1) 0 zeros16 47 ?_ Y ?_ ?_ ?_ HY1.out (w.heap.size + 1) (w.alloc (.cells zeros16.toArray 47)) ?_ ?_ ?_)
       · rfl
       · rfl
       · exact k1.out
       · exact k2.out
       · exact fun _ => ⟨rfl, ad, rfl, k3.out⟩
       · exact k4.out
       · exact k5.out
       · exact Nat.le_refl _
       intro w2 HG hB2
       obtain ⟨hc5, hg2, hl2⟩ := k6.out w2 HG hB2)
    | ((with_reducible refine wpList_load_addr (o := ⟨some 10, .load 47 (.tmp 5), _, _, _, none⟩) rfl _ _ rfl ⟨w.heap.size + 1, 0, none⟩ Y _ ?_ hc5 dig_under rfl hszY ?_); rfl)
    | ((with_reducible refine wpList_store_row (o := ⟨none, .store 47 (.tmp 2) (.tmp 10), _, _, _, none⟩) rfl _ _ _ rfl w.heap.size Y.toArray ?_ ?_ _ _ hg2 hszY2 ?_ (all_oneCell_toArray HY1.out) ?_); rfl; rfl; (simp [zeros16, HYl.out])))
  have hcF : ∀ j v, Y[j]? = some v → (w2.setRow w.heap.size Y.toArray).cell? ((⟨w.heap.size, 0, none⟩ : Addr).add j) = some v := fun j v h => World.news_of_block (setRow_heap w2 w.heap.size _ _ _ _ hg2) j v (by simpa using h)
  refine bodyPost_ret (v := .tuple #[.agg Y.toArray, .int .i64 16, .int .i64 0]) ?_ rfl ⟨rfl, below_setRow hl2 (Nat.le_refl _) _⟩
  rw [results_cell2 Try.results31 _ _ _ ⟨w.heap.size, 0, none⟩ Y _ rfl hcF dig_under rfl hszY]
  show Result.ok (Value.tuple #[.agg Y.toArray, .int .i64 (Y.length : Int), .int .i64 0]) _ = _
  rw [HYl.out]
  rfl

/-- A whole array read out of the block that was made last. -/
theorem wpList_load_new {P : Program} {ops : Array Oper} {rest : List Oper} {o : Oper} {a : Act} {w0 : World} {Q : Exit → Act → World → Prop} (hgd : o.guard = none) (ty : TypeId) (x : Operand) (ho : o.op = .load ty x)
    (c : Array Value) (hx : a.eval x = .pointer (some ⟨w0.heap.size, 0, none⟩)) (n : Nat) (e : TypeId) (hu : P.underlying ty = some (.array n e)) (hi : (P.info? ty).map (·.size) = some c.size)
    (h : wpList P ops Q rest (a.put o.dst (.agg c)) (w0.alloc (.cells c ty))) : wpList P ops Q (o :: rest) a (w0.alloc (.cells c ty)) := by
  refine wpList_plain hgd fun K hK => ?_
  have hrun := run_loadAt_new (P := P) w0 ty c n e hu hi
  unfold Oper.wp execOp
  simp only [ho, hx, Sem.run_bind, hrun, Sem.run_pure, Result.andThen_ok]
  exact hK _ _ h

theorem foldl_set (xs : List Value) : ∀ (k : Nat) (Z : Array Value), k + xs.length ≤ Z.size →
    ((xs.zipIdx k).foldl (fun cs x => cs.setIfInBounds (0 + x.2) x.1) Z).toList = Z.toList.take k ++ xs ++ Z.toList.drop (k + xs.length) := by
  induction xs with
  | nil => intro k Z _; simp
  | cons x r ih =>
    intro k Z h
    rw [List.length_cons] at h
    rw [List.zipIdx_cons, List.foldl_cons, ih (k + 1) _ (by rw [Array.size_setIfInBounds]; omega)]
    have hk : k < Z.toList.length := by rw [Array.length_toList]; omega
    rw [Array.toList_setIfInBounds, Nat.zero_add, List.take_succ_eq_append_getElem (by rw [List.length_set]; exact hk), List.take_set_of_le (Nat.le_refl k), List.getElem_set_self, List.drop_set_of_lt (by omega)]
    rw [show k + 1 + r.length = k + (x :: r).length by rw [List.length_cons]; omega]
    simp only [List.append_assoc, List.cons_append, List.nil_append]

/-- A slice literal of one element that has many cells. -/
theorem wpList_build1 {P : Program} {ops : Array Oper} {rest : List Oper} {o : Oper} {a : Act} {w : World} {Q : Exit → Act → World → Prop} (hg : o.guard = none) (t e : TypeId) (x : Operand) (ho : o.op = .buildSlice t 1 #[(0, x)])
    (X : Array Value) (ie : TypeInfo) (z : Value) (hu : P.underlying t = some (.slice e)) (hie : P.info? e = some ie) (hz : ie.zero = some z) (hs : ie.size = X.size) (hpos : 0 < X.size) (hsm : X.size ≤ 16777216)
    (hx : a.eval x = .agg X) (N : Nat) (hN : w.heap.size = N)
    (h : wpList P ops Q rest (a.put o.dst (.slice (some ⟨N, 0, none⟩) 1 1)) (w.alloc (.cells X e))) : wpList P ops Q (o :: rest) a w := by
  subst hN
  refine wpList_buildSlice hg t e 1 _ ho X ie z hu hie hz (by rw [hs]; omega) (by rw [hs]; omega) ?_ h
  have e1 : (#[(0, x)].map fun (i, x) => (i, a.eval x)).toList = [(0, Value.agg X)] := by simp [hx]
  rw [e1, hs, Nat.one_mul]
  simp only [Instr.fill, Value.cells, Nat.zero_mul]
  rw [if_neg (by simp)]
  congr 1
  apply Array.ext'
  rw [← Array.foldl_toList, Array.toList_zipIdx]
  rw [foldl_set X.toList 0 _ (by simp)]
  simp

theorem sl_new2 (w2 : World) (X : Array Value) (t : TypeId) (D : Wm.Bs) (hX : X = (U D).toArray) (hD : D.length = 16) : Sl ((w2.alloc (.cells X t)).alloc (.cells X t)) 16 (some ⟨w2.heap.size + 1, 0, none⟩) 1 (U D) :=
  ⟨by rw [U_length, hD], fun _ => ⟨_, rfl, by simp, fun j u hu => World.news_of_block (heap_alloc2_new w2 _ _) j u (by rw [hX]; simpa using hu)⟩⟩
theorem own_snocD {w : World} {B : Nat} {e : TypeId} {v : Value} {a : List Wm.Bs} {x : Wm.Bs} (h : w.ownsRow B e 16 v (a.length + 1) (Ds a ++ U x)) : w.ownsRow B e 16 v (a ++ [x]).length (Ds (a ++ [x])) := by
  have e1 : (a ++ [x]).length = a.length + 1 := by simp
  have e2 : Ds (a ++ [x]) = Ds a ++ U x := by simp [Ds, U_append]
  rw [e1, e2]
  exact h
theorem isD_snoc {a : List Wm.Bs} {x : Wm.Bs} (h : isD a) (h1 : x.length = 16) (h2 : Wm.isBs x) : isD (a ++ [x]) := fun d hd => by
  rcases List.mem_append.1 hd with hd | hd
  · exact h d hd
  · rw [List.mem_singleton.1 hd]; exact ⟨h1, h2⟩

theorem digs_info : (Try.prog.info? 47).map (fun i => (i.size, i.bytes)) = some (16, 16) := by kernel_rfl

/-- What a decoder of a list of digests answers. -/
def GotDigs (r : List Wm.Bs × Nat × Int) (w : World) (e : Ending) (w' : World) : Prop :=
  ∃ A n c, e = .returned (.tuple #[.slice A n c, .int .i64 r.2.1, .int .i64 r.2.2]) ∧ n ≤ c ∧ c ≤ maxLen ∧ Sl w' 16 A n (Ds r.1) ∧ Later w w'

/-- One digest off a list of bytes. -/
def decD (b : Wm.Bs) : Wm.Bs × Nat × Int := (b.take 16, 16, 0)

set_option maxRecDepth 100000 in
set_option maxHeartbeats 400000 in
theorem decodeDigs_any (A : Option Addr) (n c : Nat) (b : Wm.Bs) (w : World) (hs : Sl w 1 A n (U b)) (hb : Wm.isBs b) (hnc : n ≤ c) (hn : c ≤ maxLen) (hsm : n ≤ 1000000) :
    Calls Try.prog 30 #[.slice A n c, .int .i64 16, .func (.func 31) #[] #[]] w (GotDigs (Wm.decL decD 16 b) w) := by
  obtain ⟨i0, hi, hz0, hz1, hz2⟩ := info_parts dig_info
  have hc := getLength_any A n c b 16 w hs hb (by omega) (by omega) (by omega)
  unfold maxLen at hn
  obtain ⟨z, u, e, hr⟩ : ∃ z u e, Wm.decLen b 16 = (z, u, e) := ⟨_, _, _, rfl⟩
  have H := Lib.hid (Calls.out3 hc hr)
  have hok := Wm.decLen_ok hb (by decide) hr
  rw [hs.blen] at hok
  rcases hok with ⟨he, h1, h2, h3, h4, h5, _⟩ | ⟨hz, hu, he⟩
  · subst he
    obtain ⟨m, rfl⟩ := Int.eq_ofNat_of_zero_le h1
    have hst := Wm.Going.start (get := decD) hr
    rw [Int.toNat_natCast] at h5
    obtain ⟨fin, hfin⟩ : ∃ fin, Wm.decL decD 16 b = fin := ⟨_, rfl⟩
    rw [hfin] at hst ⊢
    have hm8 : i0.bytes * m ≤ 281474976710656 := by rw [hz2]; omega
    clear hr hc hfin h1 h2
    have t1 : ((0 : Int) != 0) = false := rfl
    go_enter Try.func30, Try.ntmps30
    go_wp2_with (first
      | (go_at_call 27; refine (H.out).mono ?_; rintro e w' ⟨rfl, rfl⟩)
      | (at_make; refine wpList_make_own _ rfl _ _ 24 rfl w.heap.size 47 i0 _ 16 Try.underlying24 hi hz0 hz1 _ _ _ m rfl rfl rfl hm8 (by unfold maxLen; omega) (Nat.le_refl _) ?_; intro w1 hown1 hg1))
    have hb1 : Later w w1 := (Below.refl _ _).grown hg1 (Nat.le_refl _) (fun k hk => by cases hk)
    go_loopw [10, 12, 29] (fun at_ lv i wr => ∃ (k p : Nat) (acc : List Wm.Bs), k ≤ m ∧ p + (m - k) * 16 ≤ n ∧ i = .int .i64 k ∧ at_ = .int .i64 p ∧ acc.length ≤ k ∧ isD acc ∧ Wm.Going decD b m k acc p fin ∧ wr.ownsRow w.heap.size 47 16 lv acc.length (Ds acc) ∧ Later w wr) (fun _ _ i _ => m - (intOf i).toNat)
    case atStart => exact ⟨0, u, [], Nat.zero_le _, by omega, rfl, rfl, Nat.le_refl _, (fun _ h => by cases h), hst, hown1, hb1⟩
    case round =>
      obtain ⟨k, p, acc, hk, hp, rfl, rfl, hal, hid, hgo, hor, hbr⟩ := hrel
      by_cases hlt : k < m
      · have hpn : p + 16 ≤ n := by have : 1 ≤ m - k := by omega
                                    have := Nat.mul_le_mul_right 16 this
                                    omega
        obtain ⟨A', hcut, hsl⟩ := cut_run (A := A) (n := n) (c := c) (u := p) (b := b) (by omega) hnc
        have hs2 := hsl wr (hs.keep hbr)
        have hbd := isBs_drop hb p
        have H2 := Lib.hid (getDigest_any A' (n - p) (c - p) (b.drop p) wr hs2 (by omega) (by unfold maxLen; omega))
        have hgn := hgo.next hlt (x := (b.drop p).take 16) (k := 16) rfl
        have hdl : ((b.drop p).take 16).length = 16 := by have := hs2.blen; rw [List.length_take]; omega
        have hdb : Wm.isBs ((b.drop p).take 16) := fun x hx => hbd x (List.mem_of_mem_take hx)
        obtain ⟨D, hD⟩ : ∃ D, D = (b.drop p).take 16 := ⟨_, rfl⟩
        rw [← hD] at hgn hdl hdb H2
        clear hD hgo hsl hs2 hbd
        have hX : ∃ X, X = (U D).toArray := ⟨_, rfl⟩
        obtain ⟨X, hX⟩ := hX
        have hXs : (Try.prog.info? 47).map (·.size) = some X.size := by rw [hX, List.size_toArray, U_length, hdl]; exact dig_size
        have hX1 : X.all (·.oneCell') = true := by rw [hX]; exact all_oneCell_toArray (U_one _)
        have HX := Lib.hid hX
        have HXl : Hid (16 = X.size) := by show 16 = X.size; rw [hX, List.size_toArray, U_length, hdl]
        clear hX
        have HDl := Lib.hid hdl; clear hdl
        go_wp2_with (first
          | (go_at_call 31; refine (H2.out).mono ?_; rintro e w2 ⟨rfl, hb2⟩; rw [← HX.out]; have hor2 := own_below hor hb2; have hb3 : Later w w2 := hbr.trans_ hb2)
          | (at_builtin; refine wpList_app _ rfl _ _ 24 rfl w.heap.size 47 i0 _ 16 16 Try.underlying24 hi hz0 hz1 hz2 rfl (by decide) _ _ _ rfl ((hor2.alloc _).alloc _) (some ⟨w2.heap.size + 1, 0, none⟩) 1 1 (U D) rfl (sl_new2 w2 X _ D HX.out HDl.out) (U_one _) (by unfold maxLen; omega) (by omega) (by have := hb3.size; simp; omega) ?_; intro v3 w3 ho3 hg3)
          | ((with_reducible refine wpList_store_new (o := ⟨none, .store 47 (.tmp 13) (.tmp 37), _, _, _, none⟩) rfl _ _ _ rfl _ X ?_ ?_ hXs ?_ hX1 ?_); rfl; rfl; exact HXl.out)
          | ((with_reducible refine wpList_build1 (o := ⟨some 45, .buildSlice 24 1 #[(0, .tmp 44)], _, _, _, none⟩) rfl _ _ _ rfl X i0 _ Try.underlying24 hi hz0 ?_ ?_ ?_ ?_ (w2.heap.size + 1) ?_ ?_); exact hz1.trans HXl.out; (rw [← HXl.out]; decide); (rw [← HXl.out]; decide); rfl; simp)
          | ((with_reducible refine wpList_load_new (o := ⟨some 44, .load 47 (.tmp 13), _, _, _, none⟩) rfl _ _ rfl X ?_ 16 5 dig_under hXs ?_); rfl))
        have hsz3 := hb3.size
        have hb4 : Later w w3 := ((hb3.alloc hb3.size _).alloc (by simp; omega) _).grown hg3 (by simp; omega) (fun j hj => (hor2.lt j hj).1)
        have ho4 := own_snocD ho3
        have hid2 := isD_snoc hid HDl.out hdb
        clear ho3 hg3 hor hor2 hb2
        go_wp2
        go_roundw
        case rel => exact ⟨k + 1, p + 16, _, by omega, by omega, by go_num, by go_num, by simp; omega, hid2, hgn, ho4, hb4⟩
        case measure => simp [intOf]; omega
      · obtain rfl : k = m := by omega
        have hgn := Lib.hid hgo.end_
        obtain ⟨A2, c2, hv2, hc2, hc3, hs2, _⟩ := own_form hor
        rw [hv2]
        clear hgo hv2
        go_wp2
        go_ret3
        rw [hgn.out]
        exact ⟨A2, _, c2, rfl, hc2, hc3, hs2, hbr⟩
  · subst hz hu
    have hq : Wm.decL decD 16 b = ([], 0, e) := by unfold Wm.decL; rw [hr]; rw [if_pos (by simp only; omega)]
    have HQ := Lib.hid hq; clear hq hr hc
    have t1 : (e != 0) = true := neq_true (by omega)
    go_enter Try.func30, Try.ntmps30
    go_wp2_with (go_at_call 27; refine (H.out).mono ?_; rintro e w' ⟨rfl, rfl⟩)
    go_ret3
    rw [HQ.out]
    exact ⟨none, 0, 0, rfl, Nat.le_refl _, Nat.zero_le _, Sl.nil _ _ _, Below.refl _ _⟩

end Go.Proofs.Ytoigpokmlohhkaa
