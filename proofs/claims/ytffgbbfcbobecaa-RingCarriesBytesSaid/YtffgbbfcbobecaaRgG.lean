/-
  A RING: status, statuses, write, Fail, Finish.
-/
import Derived.Test.YtffgbbfcbobecaaRgE
import Derived.Laws.MakeOwn
import Derived.Great.BuildSlice
namespace Go.Proofs.Ytffgbbfcbobecaa
open Go.RowKit Go.ChangeShapes Go.WideShapes Go.ChangeAt

theorem foldl_set (xs : List Value) : ∀ (k : Nat) (Z : Array Value), k + xs.length ≤ Z.size →
    ((xs.zipIdx k).foldl (fun cs x => cs.setIfInBounds (0 + x.2) x.1) Z).toList = Z.toList.take k ++ xs ++ Z.toList.drop (k + xs.length) := by
  induction xs with
  | nil => intro k Z _; simp
  | cons x r ih =>
    intro k Z h
    rw [List.length_cons] at h
    rw [List.zipIdx_cons, List.foldl_cons, ih (k + 1) _ (by rw [Array.size_setIfInBounds]; omega)]
    have hk : k < Z.toList.length := by rw [Array.length_toList]; omega
    rw [Array.toList_setIfInBounds, Nat.zero_add, List.take_succ_eq_append_getElem (by rw [List.length_set]; exact hk), List.take_set_of_le (Nat.le_refl k), List.getElem_set_self, List.drop_set_of_lt (by omega)]
    rw [show k + 1 + r.length = k + (x :: r).length by rw [List.length_cons]; omega]
    simp only [List.append_assoc, List.cons_append, List.nil_append]

theorem wp_build1 {P : Program} {o : Oper} {a : Act} {w : World} {K : Act → World → Prop} {Q : Exit → Act → World → Prop} (t e : TypeId) (x : Operand) (ho : o.op = .buildSlice t 1 #[(0, x)])
    (X : Array Value) (ie : TypeInfo) (z : Value) (hu : P.underlying t = some (.slice e)) (hie : P.info? e = some ie) (hz : ie.zero = some z) (hs : ie.size = X.size) (hpos : 0 < X.size) (hsm : X.size ≤ 16777216)
    (hx : a.eval x = .agg X) (h : K (a.put o.dst (.slice (some ⟨w.heap.size, 0, none⟩) 1 1)) (w.alloc (.cells X e))) : o.wp P a w K Q := by
  refine wp_buildSlice t e 1 _ ho X ie z hu hie hz (by rw [hs]; omega) (by rw [hs]; omega) ?_ h
  have e1 : (#[(0, x)].map fun (i, x) => (i, a.eval x)).toList = [(0, Value.agg X)] := by simp [hx]
  rw [e1, hs, Nat.one_mul]
  simp only [Instr.fill, Value.cells, Nat.zero_mul]
  rw [if_neg (by simp)]
  congr 1
  apply Array.ext'
  rw [← Array.foldl_toList, Array.toList_zipIdx]
  rw [foldl_set X.toList 0 _ (by simp)]
  simp

theorem write_info : (Try.prog.info? 85).map (fun i => (i.zero, i.size, i.bytes)) = some (some (.agg #[.int .i64 0, .int .i64 0, .int .u32 0]), 3, 24) := by kernel_rfl
theorem Ws_set : ∀ (l : List (Int × Int × Int)) (k : Nat) (x : Int × Int × Int), k < l.length → Ws (l.set k x) = (Ws l).take (k * 3) ++ Wc x ++ (Ws l).drop (k * 3 + 3) := by
  intro l
  induction l with
  | nil => intro k x h; simp at h
  | cons w r ih =>
    intro k x h
    cases k with
    | zero => rfl
    | succ k =>
      have h2 := ih k x (by simpa using h)
      show Wc w ++ Ws (r.set k x) = (Wc w ++ Ws r).take ((k + 1) * 3) ++ Wc x ++ (Wc w ++ Ws r).drop ((k + 1) * 3 + 3)
      have hw : (Wc w).length = 3 := rfl
      rw [h2, List.take_append, List.drop_append, hw, show (k + 1) * 3 - 3 = k * 3 by omega, show (k + 1) * 3 + 3 - 3 = k * 3 + 3 by omega, List.take_of_length_le (l := Wc w) (by rw [hw]; omega), show (Wc w).drop ((k + 1) * 3 + 3) = [] from List.drop_eq_nil_of_le (by rw [hw]; omega)]
      simp [List.append_assoc]
/-- The words that are the statuses of some descriptors. -/
def sw (B : Int) (l : List Rg.Pt) (v : Int) : List (Int × Int × Int) := l.map fun p => (B + 16 * p.1 + 12, 4, v)
theorem sw_len (B : Int) (l : List Rg.Pt) (v : Int) : (sw B l v).length = l.length := by simp [sw]
def upk (x : List (Int × Int × Int)) (k : Nat) : List (Int × Int × Int) := x.take k ++ List.replicate (x.length - k) (0, 0, 0)
theorem upk_len (x : List (Int × Int × Int)) (k : Nat) (h : k ≤ x.length) : (upk x k).length = x.length := by
  unfold upk; rw [List.length_append, List.length_take, List.length_replicate]; omega
theorem upk_succ (x : List (Int × Int × Int)) (k : Nat) (h : k < x.length) : upk x (k + 1) = (upk x k).set k x[k] := by
  apply List.ext_getElem?
  intro i
  rw [List.getElem?_set]
  unfold upk
  by_cases hi : i < k
  · rw [if_neg (by omega), List.getElem?_append_left (by rw [List.length_take]; omega), List.getElem?_append_left (by rw [List.length_take]; omega), List.getElem?_take_of_lt (by omega), List.getElem?_take_of_lt hi]
  · by_cases he : k = i
    · subst he
      rw [if_pos rfl, if_pos (by rw [List.length_append, List.length_take, List.length_replicate]; omega), List.getElem?_append_left (by rw [List.length_take]; omega), List.getElem?_take_of_lt (by omega), List.getElem?_eq_getElem h]
    · rw [if_neg he, List.getElem?_append_right (by rw [List.length_take]; omega), List.getElem?_append_right (by rw [List.length_take]; omega), List.getElem?_replicate, List.getElem?_replicate, List.length_take, List.length_take]
      by_cases h2 : i < x.length
      · rw [if_pos (by omega), if_pos (by omega)]
      · rw [if_neg (by omega), if_neg (by omega)]
theorem upk_all (x : List (Int × Int × Int)) : upk x x.length = x := by
  unfold upk
  rw [List.take_of_length_le (Nat.le_refl _), Nat.sub_self]
  exact List.append_nil _
theorem Ws_rep_get (m i : Nat) (h : i < m * 3) : (Ws (List.replicate m (0, 0, 0)))[i]? = (Wc (0, 0, 0))[i % 3]? := by
  have h1 := Ws_at (List.replicate m (0, 0, 0)) (i / 3) (by rw [List.length_replicate]; omega) (i % 3) (by omega)
  rw [show i / 3 * 3 + i % 3 = i by omega] at h1
  rw [h1]
  simp
theorem made_writes (m : Nat) : madeCells #[.int .i64 0, .int .i64 0, .int .u32 0] (m * 3) = (Ws (List.replicate m (0, 0, 0))).toArray := by
  apply Array.ext'
  apply List.ext_getElem?
  intro i
  unfold madeCells
  simp only [Array.toList_map, Array.toList_range, List.getElem?_map]
  rcases Nat.lt_or_ge i (m * 3) with h | h
  · rw [List.getElem?_range h, Ws_rep_get m i h]
    rcases (show i % 3 = 0 ∨ i % 3 = 1 ∨ i % 3 = 2 by omega) with e | e | e
    · simp [e, Wc]
    · simp [e, Wc]
    · simp [e, Wc]
  · rw [List.getElem?_eq_none (by simpa using h), List.getElem?_eq_none (by rw [Ws_len, List.length_replicate]; exact h)]
    rfl
theorem wrt_one (x : Int × Int × Int) : ∀ v ∈ Wc x, v.oneCell' = true := by
  intro v hv
  simp only [Wc, List.mem_cons, List.not_mem_nil, or_false] at hv
  rcases hv with rfl | rfl | rfl <;> rfl
theorem wrtS (x : Int × Int × Int) : (Try.prog.info? 85).map (·.size) = some (Wc x).length := by
  show _ = some 3
  kernel_rfl
theorem run_wt (a v : Int) (w : World) : (Instr.build 85 #[(0, .int .i64 a), (1, .int .i64 4), (2, .int .u32 v)]).run Try.prog w = .ok (.agg (Wc (a, 4, v)).toArray) w := run_build' w _ _ _ (by kernel_rfl)
set_option maxRecDepth 100000 in
theorem status_any (B S i v : Int) (w : World) (h0 : 0 ≤ B) (h1 : B < 4294967296) (i0 : 0 ≤ i) (i1 : i ≤ 1000000) : Calls Try.prog 50 #[.agg #[.int .u32 B, .int .u32 S], .int .i64 i, .int .u32 v] w fun e w' => e = .returned (.agg (Wc (B + 16 * i + 12, 4, v)).toArray) ∧ Later w w' := by
  have KP := Lib.hid fun w' => place_any B S i w' h0 h1 i0 i1
  have b3 : Blk _ w.heap.size 27 ([.int .u32 B, .int .u32 S]) := ((Blk.new' w w.heap.size 27 ([.int .u32 B, .int .u32 S]).toArray ([.int .u32 B, .int .u32 S]) (by simp) rfl).alloc (.cells ([.int .i64 0, .int .i64 0, .int .u32 0]).toArray 85))
  have b6 : Blk _ (w.heap.size + 1) 85 ([.int .i64 0, .int .i64 0, .int .u32 0]) := (Blk.new' (w.alloc (.cells ([.int .u32 B, .int .u32 S]).toArray 27)) (w.heap.size + 1) 85 ([.int .i64 0, .int .i64 0, .int .u32 0]).toArray ([.int .i64 0, .int .i64 0, .int .u32 0]) (by simp) rfl)
  have lw := ((later1 w (.cells ([.int .u32 B, .int .u32 S]).toArray 27)).alloc (by simp; try omega) (.cells ([.int .i64 0, .int .i64 0, .int .u32 0]).toArray 85))
  obtain ⟨u0, hu⟩ : ∃ u, ((w.alloc (.cells ([.int .u32 B, .int .u32 S]).toArray 27)).alloc (.cells ([.int .i64 0, .int .i64 0, .int .u32 0]).toArray 85)) = u := ⟨_, rfl⟩
  rw [hu] at b3 b6 lw
  go_enter Try.func50, Try.ntmps50
  go_upto_region 1 with fail
  have hu2 : ((w.alloc (.cells #[.int .u32 B, .int .u32 S] 27)).alloc (.cells #[.int .i64 0, .int .i64 0, .int .u32 0] 85)) = u0 := hu
  try rw [hu2]
  clear hu hu2
  go_wp2_with (first
    | ((with_reducible refine wpList_load_blk (o := ⟨some 7, .load 27 (.tmp 3), _, _, _, none⟩) rfl _ _ rfl w.heap.size 27 ([.int .u32 B, .int .u32 S]) _ ?_ ?_ Try.underlying27 rfl ring_sz ?_); rfl; exact b3)
    | ((with_reducible refine wpList_bld (o := ⟨some 12, .build 85 #[(0, .tmp 10), (1, .const (.int .i64 4)), (2, .tmp 11)], _, _, _, none⟩) rfl _ #[(0, .tmp 10), (1, .const (.int .i64 4)), (2, .tmp 11)] #[(0, .int .i64 (B + 16 * i + 12)), (1, .int .i64 4), (2, .int .u32 v)] (Wc (B + 16 * i + 12, 4, v)).toArray rfl ?_ (run_wt _ _ _) ?_); rfl)
    | ((with_reducible refine wpList_store_abs (o := ⟨none, .store 85 (.tmp 6) (.tmp 12), _, _, _, none⟩) rfl _ _ _ rfl (w.heap.size + 1) 85 ([.int .i64 0, .int .i64 0, .int .u32 0]) (Wc (B + 16 * i + 12, 4, v)) ?_ ?_ ?_ ?_ ?_ ?_ ?_); rfl; rfl; exact b6; exact (wrtS _); rfl; exact (wrt_one _); intro w9 b9 o9)
    | (go_at_call 63; (with_reducible refine (KP.out _).mono ?_); rintro e w1 ⟨rfl, l1⟩; replace b3 := b3.keep l1; replace b6 := b6.keep l1; replace lw := Later.trans_ lw l1))
  exact bodyPost_ret (results_blk Try.results50 _ _ (w.heap.size + 1) 85 _ _ rfl b9 Try.underlying85 rfl (wrtS _)) rfl ⟨rfl, Below.only lw o9 (by omega)⟩
set_option maxRecDepth 100000 in
set_option maxHeartbeats 4000000 in
theorem statuses_any (B S v : Int) (A' : Option Addr) (m c' : Nat) (l : List Rg.Pt) (w : World) (h0 : 0 ≤ B) (h1 : B < 4294967296) (hs : Sl w 4 A' m (Ps l)) (hl : l.length = m) (hm : m ≤ 4) (hi : ∀ p ∈ l, 0 ≤ p.1 ∧ p.1 ≤ 1000000) :
    Calls Try.prog 44 #[.agg #[.int .u32 B, .int .u32 S], .slice A' m c', .int .u32 v] w fun e w' => ∃ g, e = .returned (.slice (some ⟨g, 0, none⟩) m m) ∧ Sl w' 3 (some ⟨g, 0, none⟩) m (Ws (sw B l v)) ∧ Later w w' := by
  obtain ⟨i0, hi0, hz0, hz1, hz2⟩ := info_parts write_info
  have hmk := fun w' => run_makeSlice (P := Try.prog) w' 78 85 i0 _ Try.underlying78 hi0 hz0 .i64 .i64 (m : Int) (m : Int) (by omega) (by omega) (by rw [hz1]; omega) (by rw [hz2]; omega) (by omega)
  have KS := Lib.hid fun (q : Rg.Pt) (hq : q ∈ l) w' => status_any B S q.1 v w' h0 h1 (hi q hq).1 (hi q hq).2
  have HL := Lib.hid hl
  have HXL := Lib.hid ((sw_len B l v).trans hl)
  have HXG := Lib.hid fun (k : Nat) (hk : k < l.length) => (show (sw B l v)[k]'(by rw [sw_len]; exact hk) = (B + 16 * l[k].1 + 12, 4, v) from by unfold sw; rw [List.getElem_map])
  obtain ⟨X, hX⟩ : ∃ X, X = sw B l v := ⟨_, rfl⟩
  have HXX := Lib.hid fun (k : Nat) (hk : k < l.length) (hk2 : k < X.length) => (show X[k] = (B + 16 * l[k].1 + 12, 4, v) from by subst hX; exact HXG.out k hk)
  rw [← hX] at HXL ⊢
  clear hX HXG hl hi h0 h1
  have HNE := Lib.hid (show 0 < m → ∀ ad, A' = some ad → ad.block < w.heap.size from fun h ad e => by obtain ⟨_, e2, h2, _⟩ := hs.2 h; rw [e] at e2; cases e2; exact h2)
  have b3 : Blk _ w.heap.size 27 ([.int .u32 B, .int .u32 S]) := (Blk.new' w w.heap.size 27 ([.int .u32 B, .int .u32 S]).toArray ([.int .u32 B, .int .u32 S]) (by simp) rfl)
  have lw := (later1 w (.cells ([.int .u32 B, .int .u32 S]).toArray 27))
  obtain ⟨u0, hu⟩ : ∃ u, (w.alloc (.cells ([.int .u32 B, .int .u32 S]).toArray 27)) = u := ⟨_, rfl⟩
  rw [hu] at b3 lw
  have HZ := Lib.hid (show u0.heap.size = w.heap.size + 1 from by rw [← hu]; simp)
  go_enter Try.func44, Try.ntmps44
  go_upto_region 1 with fail
  have hu2 : (w.alloc (.cells #[.int .u32 B, .int .u32 S] 27)) = u0 := hu
  try rw [hu2]
  clear hu hu2
  go_wp2
  have hz := HZ.out
  rw [hz]
  have b7 : Blk (u0.alloc (.cells (madeCells #[.int .i64 0, .int .i64 0, .int .u32 0] (m * 3)) 85)) (w.heap.size + 1) 85 (Ws (upk X 0)) := Blk.new' _ _ _ _ _ hz (by rw [made_writes]; unfold upk; rw [HXL.out, List.take_zero]; rfl)
  replace b3 := b3.alloc (.cells (madeCells #[.int .i64 0, .int .i64 0, .int .u32 0] (m * 3)) 85)
  replace lw := lw.alloc lw.size (.cells (madeCells #[.int .i64 0, .int .i64 0, .int .u32 0] (m * 3)) 85)
  replace hs := hs.keep lw
  clear hmk hz
  go_loopw [15] (fun i wr => ∃ k : Nat, k ≤ m ∧ i = .int .i64 (k : Int) ∧ Blk wr (w.heap.size + 1) 85 (Ws (upk X k)) ∧ Blk wr w.heap.size 27 [.int .u32 B, .int .u32 S] ∧ Sl wr 4 A' m (Ps l) ∧ Later w wr) (fun i _ => m - (intOf i).toNat)
  case atStart => exact ⟨0, Nat.zero_le _, rfl, b7, b3, hs, lw⟩
  case round =>
    clear hs b7 b3 lw
    rename_i wr
    obtain ⟨k, hk, rfl, b7, b3, hs, lr⟩ := hrel
    by_cases hlt : k < m
    · have hkl : k < l.length := by rw [HL.out]; exact hlt
      have hkx : k < X.length := by rw [HXL.out]; exact hlt
      have hsk := hs
      obtain ⟨ad, hA⟩ := hs.addr (by omega)
      subst hA
      have HNX := HNE.out (by omega) ad rfl
      have HC := Lib.hid (hs.ptAt hkl HL.out)
      have HX := Lib.hid (HXX.out k hkl hkx)
      have HSET := Lib.hid (show (Ws (upk X k)).take (k * 3) ++ Wc X[k] ++ (Ws (upk X k)).drop (k * 3 + 3) = Ws (upk X (k + 1)) from by rw [upk_succ X k hkx, Ws_set _ _ _ (by rw [upk_len X k (by omega)]; exact hkx)])
      have HLEN := Lib.hid (show k * 3 + 3 ≤ (Ws (upk X k)).length from by rw [Ws_len, upk_len X k (by omega)]; omega)
      have HQ := Lib.hid fun w' => KS.out l[k] (List.getElem_mem hkl) w'
      have kn : (k : Int) < (m : Int) := by omega
      obtain ⟨q, hq⟩ : ∃ q, q = l[k] := ⟨_, rfl⟩
      rw [HX.out] at HSET
      rw [← hq] at HC HQ HSET
      clear hq HX
      have hbl := b7.lt
      go_wp2_with (first
    | ((with_reducible refine wpList_load_addr (o := ⟨some 19, .load 59 (.tmp 18), _, _, _, none⟩) rfl _ _ rfl (ad.add (k * 4)) (Pc q) _ ?_ HC.out Try.underlying59 rfl (pt_sz _) ?_); rfl)
    | ((with_reducible refine wpList_store_abs (o := ⟨none, .store 59 (.tmp 9) (.tmp 19), _, _, _, none⟩) rfl _ _ _ rfl wr.heap.size 59 ([.int .i64 0, .int .i64 0, .int .i64 0, .bool false]) (Pc q) ?_ ?_ ?_ ?_ ?_ ?_ ?_); rfl; rfl; exact (Blk.new _ _ _ _ rfl); exact (pt_sz _); rfl; exact (pt_one _); intro w2 b9 o9; replace b7 := (b7.alloc (.cells #[.int .i64 0, .int .i64 0, .int .i64 0, .bool false] 59)).only o9 (Nat.ne_of_lt b7.lt); replace b3 := (b3.alloc (.cells #[.int .i64 0, .int .i64 0, .int .i64 0, .bool false] 59)).only o9 (Nat.ne_of_lt b3.lt); have l2 := Below.only (later1 wr (.cells #[.int .i64 0, .int .i64 0, .int .i64 0, .bool false] 59)) o9 (Nat.le_refl _); have e9 := b9.cell (j := 0) (v := .int .i64 q.1) rfl)
    | ((with_reducible refine wpList_load_blk (o := ⟨some 22, .load 27 (.tmp 3), _, _, _, none⟩) rfl _ _ rfl w.heap.size 27 ([.int .u32 B, .int .u32 S]) _ ?_ ?_ Try.underlying27 rfl ring_sz ?_); rfl; exact b3)
    | (go_at_call 50; (with_reducible refine (HQ.out _).mono ?_); rintro e w3 ⟨rfl, l3⟩; replace b7 := b7.keep l3; replace b3 := b3.keep l3; replace l2 := Later.trans_ l2 l3; clear e9)
    | ((refine wpList_store_at (o := ⟨none, .store 85 (.tmp 27) (.tmp 26), _, _, _, none⟩) rfl _ _ _ rfl rfl (w.heap.size + 1) (k * 3) 85 (Ws (upk X k)) (Wc (B + 16 * q.1 + 12, 4, v)) ?_ rfl b7 (wrtS _) HLEN.out (wrt_one _) ?_); (try rfl); intro w4 b4 o4))
      go_roundw
      case rel => exact ⟨k + 1, by omega, by go_num, (by rw [← HSET.out]; exact b4), b3.only o4 (by omega), (hs.keep l2).only_ne o4 (fun ad' e => by cases e; exact Nat.ne_of_lt (Nat.lt_succ_of_lt HNX)), Below.only (Later.trans_ lr l2) o4 (by omega)⟩
      case measure => simp [intOf]; omega
    · obtain rfl : k = m := by omega
      have nlt : ¬ ((k : Int) < (k : Int)) := by omega
      have HE := Lib.hid (show upk X k = X from by rw [← HXL.out]; exact upk_all X)
      rw [HE.out] at b7
      go_wp2
      go_ret
      exact ⟨w.heap.size + 1, rfl, ⟨by rw [Ws_len, HXL.out], fun _ => ⟨_, rfl, b7.lt, fun j u hu => by rw [Addr.add_mid, Nat.zero_add]; exact b7.cell hu⟩⟩, lr⟩
end Go.Proofs.Ytffgbbfcbobecaa
