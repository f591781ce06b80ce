/-
  THE WALKS OF all, Apply, Store.
-/
import Derived.Test.YtjfphjgmphlbhaaDoorJi
import Derived.ChangeKeysEq
namespace Go.Proofs.YtjfphjgmphlbhaaDoor
open Go.RowKit Go.ChangeShapes Go.WideShapes Go.ChangeAt

set_option maxRecDepth 100000 in
theorem Sl.write {w : World} {m : Nat} {ad : Addr} {L : List (Int × Int × Int)} (h : Sl w 3 (some ad) m (Ws L)) {k : Nat} (hk : k < L.length) (hm : L.length = m) :
    ∀ j u, [Value.int .i64 L[k].1, .int .i64 L[k].2.1, .int .u32 L[k].2.2][j]? = some u → w.cell? ((ad.add (k * 3)).add j) = some u := by
  intro j u hu
  obtain ⟨_, e, _, hc⟩ := h.2 (by omega)
  cases e
  rw [addr_add_add]
  apply hc
  have hj : j < 3 := by
    rcases Nat.lt_or_ge j 3 with h | h
    · exact h
    · rw [List.getElem?_eq_none (by simpa using h)] at hu; cases hu
  rw [Ws_at L k hk j hj]
  exact hu
set_option maxRecDepth 100000 in
theorem ap_take_succ {b x : Wm.Bs} {L : List (Int × Int × Int)} {k : Nat} (hk : k < L.length) (h : Mm.ap b (L.take k) = some x) : Mm.ap b (L.take (k + 1)) = if Mm.There x.length L[k].1 L[k].2.1 then some (Mm.put x L[k].1.toNat (Mm.el L[k].2.1.toNat L[k].2.2)) else none := by
  rw [List.take_succ_eq_append_getElem hk, Mm.ap_snoc, h]
  rfl
set_option maxRecDepth 100000 in
theorem ap_none {b : Wm.Bs} {L : List (Int × Int × Int)} {k : Nat} (h : Mm.ap b (L.take k) = none) : Mm.ap b L = none := by
  have := Mm.ap_app (L.take k) (L.drop k) b
  rw [List.take_append_drop, h] at this
  exact this

set_option maxRecDepth 100000 in
theorem results_cell_tmp {P : Program} {fn : Func} {p q : Tmp} {ty : TypeId} (h : fn.results = #[.cell p ty, .tmp q]) (tmps : Array Value) (w : World) (g : Nat) (t : TypeId) (cs : List Value) (v : Value) (d : TypeDesc)
    (hp : tmps.getD p undef = .pointer (some ⟨g, 0, none⟩)) (hq : tmps.getD q undef = v) (hg : Blk w g t cs)
    (hu : P.underlying ty = some d) (hd : (match d with | .struct _ | .array _ _ => true | _ => false) = true) (hi : (P.info? ty).map (·.size) = some cs.length) :
    (results fn tmps).run P w = .ok (.tuple #[.agg cs.toArray, v]) w := by
  have hp' : tmps[p]?.getD undef = .pointer (some ⟨g, 0, none⟩) := by simpa using hp
  have hq' : tmps[q]?.getD undef = v := by simpa using hq
  simp [results, h, hp', hq', asAddr, run_loadVar_row w g t ty cs.toArray (0, 0) d hg hu hd (by rw [List.size_toArray]; exact hi)]

set_option maxRecDepth 100000 in
/-- What hands back a memory of the call's own, and whether something was done. -/
def GotMB (n : Nat) (b : Wm.Bs) (q : Bool) (w : World) (e : Ending) (w' : World) : Prop := ∃ g c', e = .returned (.tuple #[.agg #[.slice (some ⟨g, 0, none⟩) n c'], .bool q]) ∧ w.heap.size ≤ g ∧ n ≤ c' ∧ c' ≤ maxLen ∧ Draft w' g n b ∧ Later w w'
set_option maxRecDepth 100000 in
theorem op_d0 (v : Value) (w : World) : (Instr.field 104 (.agg #[v]) 0).run Tryd.prog w = .ok (.agg #[v]) w := by kernel_rfl
end Go.Proofs.YtjfphjgmphlbhaaDoor

/-
  THE WALKS OF Store; New; the reference's New.
-/
namespace Go.Proofs.YtjfphjgmphlbhaaDoor
open Go.RowKit Go.ChangeShapes Go.WideShapes Go.ChangeAt

set_option maxRecDepth 100000 in
theorem ap_one (b : Wm.Bs) (a s v : Int) : (Mm.ap b [(a, s, v)]).getD b = Mm.st b a s v ∧ (Mm.ap b [(a, s, v)]).isSome = decide (Mm.There b.length a s) := by
  rw [Mm.ap_cons]
  unfold Mm.st
  by_cases h : Mm.There b.length a s
  · simp only [h, if_true, Mm.ap_nil]; exact ⟨rfl, rfl⟩
  · simp only [h, if_false]; exact ⟨rfl, rfl⟩
set_option maxRecDepth 100000 in
theorem sl_w1 {w : World} {B : Nat} {t : TypeId} {a s v : Int} (h : Blk w B t [.int .i64 a, .int .i64 s, .int .u32 v]) : Sl w 3 (some ⟨B, 0, none⟩) 1 (Ws [(a, s, v)]) := by
  refine ⟨rfl, fun _ => ⟨_, rfl, h.lt, fun j u hu => ?_⟩⟩
  rw [Addr.add_mid, Nat.zero_add]
  exact h.cell hu

set_option maxRecDepth 100000 in
/-- A memory of zeros. -/
def Zs (n : Nat) : Wm.Bs := List.replicate (n * 128) 0
set_option maxRecDepth 100000 in
theorem Zs_bs (n : Nat) : Wm.isBs (Zs n) := fun x hx => by rw [List.eq_of_mem_replicate hx]; decide
set_option maxRecDepth 100000 in
theorem made_zeros (n : Nat) : madeCells (Value.agg (Array.replicate 128 (.int .u8 0))).cells (n * 128) = (U (Zs n)).toArray := by
  apply Array.ext'
  apply List.ext_getElem?
  intro i
  unfold Zs U
  rw [List.map_replicate]
  show (madeCells (Array.replicate 128 (Value.int .u8 0)) (n * 128)).toList[i]? = _
  unfold madeCells
  simp
  rcases Nat.lt_or_ge i (n * 128) with h | h
  · rw [List.getElem?_range h, List.getElem?_replicate, if_pos h]
    simp only [Option.map_some]
    rw [getElem!_pos _ _ (by simp; omega)]
    simp
  · rw [List.getElem?_eq_none (by simpa using h), List.getElem?_eq_none (by simpa using h)]
    rfl
set_option maxRecDepth 100000 in
theorem draft_new {w : World} {n B : Nat} {t : TypeId} (hB : w.heap.size = B) : Draft (w.alloc (.cells (madeCells (Array.replicate 128 (.int .u8 0)) (n * 128)) t)) B n (Zs n) :=
  ⟨by unfold Zs; simp, t, [], by rw [show madeCells (Array.replicate 128 (Value.int .u8 0)) (n * 128) = (U (Zs n)).toArray from made_zeros n, List.append_nil, ← hB]; exact Blk.new _ _ _ _ rfl⟩

set_option maxRecDepth 100000 in
set_option maxHeartbeats 1000000 in
theorem new_bad (p : Int) (w : World) (h : ¬ (1 ≤ p ∧ p ≤ 64)) :
    Calls Tryd.prog 24 #[.int .i64 p] w fun e w' => e = .returned (.tuple #[.agg #[.slice none 0 0], .int .i64 1]) ∧ Later w w' := by
  have HA := Lib.hid fun w' => allowed_any p w'
  rw [decide_eq_false h] at HA
  clear h
  go_enter Tryd.func24, Tryd.ntmps24
  go_wp2_with (first
    | (go_at_call 49; refine (HA.out _).mono ?_; rintro e w1 ⟨rfl, rfl⟩))
  exact bodyPost_ret (v := .tuple #[.agg #[.slice none 0 0], .int .i64 1]) (results_cell_tmp Tryd.results24 _ _ w.heap.size 24 [.slice none 0 0] _ _ rfl rfl ((Blk.new w _ _ _ rfl).alloc _) Tryd.underlying24 rfl mem_sz) rfl ⟨rfl, (later1_M _ _).alloc (by simp) _⟩
set_option maxRecDepth 100000 in
set_option maxHeartbeats 1000000 in
theorem new_ok (p : Nat) (w : World) (h : 1 ≤ p ∧ p ≤ 64) :
    Calls Tryd.prog 24 #[.int .i64 (p : Int)] w fun e w' => ∃ g, e = .returned (.tuple #[.agg #[.slice (some ⟨g, 0, none⟩) p p], .int .i64 0]) ∧ w.heap.size ≤ g ∧ Draft w' g p (Zs p) ∧ Later w w' := by
  obtain ⟨i0, hi, hz0, hz1, hz2⟩ := info_parts page_info
  have HA := Lib.hid fun w' => allowed_any (p : Int) w'
  rw [decide_eq_true (show 1 ≤ (p : Int) ∧ (p : Int) ≤ 64 by omega)] at HA
  have hmk := fun w' => run_makeSlice (P := Tryd.prog) w' 22 76 i0 _ Tryd.underlying22 hi hz0 .i64 .i64 (p : Int) (p : Int) (by omega) (by omega) (by rw [hz1]; omega) (by rw [hz2]; omega) (by omega)
  go_enter Tryd.func24, Tryd.ntmps24
  go_wp2_with (first
    | (go_at_call 49; refine (HA.out _).mono ?_; rintro e w1 ⟨rfl, rfl⟩))
  exact bodyPost_ret (v := .tuple #[.agg #[.slice (some ⟨w.heap.size + 1 + 1, 0, none⟩) p p], .int .i64 0]) (results_cell_tmp Tryd.results24 _ _ w.heap.size 24 [.slice (some ⟨w.heap.size + 1 + 1, 0, none⟩) p p] _ _ rfl rfl (((Blk.new w _ _ _ rfl).alloc _).alloc _) Tryd.underlying24 rfl mem_sz) rfl ⟨_, rfl, by omega, draft_new (by simp), ((later1_M _ _).alloc (by simp) _).alloc (by simp; omega) _⟩
end Go.Proofs.YtjfphjgmphlbhaaDoor

/-
  THE WALKS OF Read, draft.write.
-/
namespace Go.Proofs.YtjfphjgmphlbhaaDoor
open Go.RowKit Go.ChangeShapes Go.WideShapes Go.ChangeAt

set_option maxRecDepth 100000 in
/-- copy into a block that is known whole, its number named. -/
theorem wp_copy_rowq {P : Program} {o : Oper} {a : Act} {w : World} {K : Act → World → Prop} {Q : Exit → Act → World → Prop} (d s : Operand) {dT sT elem : TypeId}
    (ho : o.op = .call { callee := .builtin .copy, args := #[d, s], argTypes := #[dT, sT] }) (hu : P.underlying dT = some (.slice elem)) (hsz : (P.info? elem).map (·.size) = some 1)
    (B off dLen dCap : Nat) (hd : a.eval d = .slice (some ⟨B, off, none⟩) dLen dCap) (ad : Addr) (sLen sCap : Nat) (hs : a.eval s = .slice (some ad) sLen sCap)
    (cs : List Value) (q : Nat) (hq : cs.length = q) (hn : q = Nat.min sLen dLen) (hsrc : ∀ j v, cs[j]? = some v → w.cell? (ad.add j) = some v) (t : TypeId) (old : List Value) (hB : Blk w B t old) (hfit : off + q ≤ old.length) (h1 : ∀ v ∈ cs, v.oneCell' = true)
    (h : ∀ w', Blk w' B t (old.take off ++ cs ++ old.drop (off + cs.length)) → Only B w w' → K (a.put o.dst (.int .i64 (q : Int))) w') : o.wp P a w K Q := by
  subst hq
  exact wp_copy_row d s ho hu hsz B off dLen dCap hd ad sLen sCap hs cs hn hsrc t old hB hfit h1 h
set_option maxRecDepth 100000 in
theorem ofS_extract (s : ByteArray) (k : Nat) : Wm.ofS (s.extract k s.size) = (Wm.ofS s).drop k := by
  unfold Wm.ofS
  rw [ByteArray.data_extract, Array.toList_extract]
  simp
  rw [List.take_of_length_le (by simp)]
set_option maxRecDepth 100000 in
theorem run_copy_str {P : Program} (w : World) (dT sT ty elem : TypeId) (b o dLen dCap : Nat) (t : ByteArray) (cs : Wm.Bs)
    (hu : P.underlying dT = some (.slice elem)) (hs : (P.info? elem).map (·.size) = some 1) (hcs : cs = (Wm.ofS t).take (Nat.min t.size dLen))
    (hc : ∀ j, j < cs.length → (w.cell? ⟨b, o + j, none⟩).isSome = true) (hf : ∀ j, j < cs.length → w.frozen? ⟨b, o + j, none⟩ = false) :
    (Builtin.copy_ #[dT, sT] ty #[.slice (some ⟨b, o, none⟩) dLen dCap, .string t]).run P w = .ok (goInt (Nat.min t.size dLen)) (w.setCells b o (U cs)) := by
  have hst := run_storeCells_cells (P := P) b o (U cs) 0 w (by simpa [U_length] using hc) (by simpa [U_length] using hf) (U_one cs)
  have hfc : (Builtin.firstCells 1 (Nat.min t.size dLen) (.string t)).run P w = .ok (U cs).toArray w := by
    show Sem.run P (pure ((t.extract 0 (Nat.min t.size dLen)).data.map fun b => Value.int .u8 (b.toNat : Int))) w = _
    rw [Sem.run_pure]
    congr 1
    apply Array.ext'
    rw [hcs]
    unfold U Wm.ofS
    rw [ByteArray.data_extract, Array.toList_map, Array.toList_extract, ← List.map_take, List.map_map]
    simp
    rfl
  cases hq : P.info? elem with
  | none => simp [hq] at hs
  | some i =>
    have hi : i.size = 1 := by simpa [hq] using hs
    simp [Builtin.copy_, run_underlying hu, Builtin.lenOf, sizeOf, typeInfo, hq, hi, hfc, hst]
set_option maxRecDepth 100000 in
theorem wp_copy_str {P : Program} {o : Oper} {a : Act} {w : World} {K : Act → World → Prop} {Q : Exit → Act → World → Prop} (d s : Operand) {dT sT elem : TypeId}
    (ho : o.op = .call { callee := .builtin .copy, args := #[d, s], argTypes := #[dT, sT] }) (hu : P.underlying dT = some (.slice elem)) (hsz : (P.info? elem).map (·.size) = some 1)
    (B off dLen dCap : Nat) (hd : a.eval d = .slice (some ⟨B, off, none⟩) dLen dCap) (str : ByteArray) (hs : a.eval s = .string str)
    (cs : Wm.Bs) (q : Nat) (hq : cs = (Wm.ofS str).take q ∧ cs.length = q) (hn : q = Nat.min str.size dLen) (t : TypeId) (old : List Value) (hB : Blk w B t old) (hfit : off + q ≤ old.length)
    (h : ∀ w', Blk w' B t (old.take off ++ U cs ++ old.drop (off + (U cs).length)) → Only B w w' → K (a.put o.dst (.int .i64 (q : Int))) w') : o.wp P a w K Q := by
  have hrun := run_copy_str (P := P) w dT sT o.type elem B off dLen dCap str cs hu hsz (by rw [← hn]; exact hq.1) (fun j hj => hB.there1 (by omega)) (fun j _ => hB.frz _)
  rw [← hn] at hrun
  unfold Oper.wp execOp
  simp only [ho, resolve, invoke, builtin, Sem.run_bind, Sem.run_pure, Result.andThen_ok, List.map_toArray, List.map_cons, List.map_nil, hd, hs, hrun]
  exact h _ (hB.sets off (U cs) (by rw [U_length]; omega)) (Only.sets _ _ _ _)
set_option maxRecDepth 100000 in
theorem U_put (m : Wm.Bs) (o : Nat) (d : Wm.Bs) : (U m).take o ++ U d ++ (U m).drop (o + (U d).length) = U (Mm.put m o d) := by
  unfold Mm.put
  rw [U_append, U_append, U_length]
  unfold U
  rw [List.map_take, List.map_drop]
set_option maxRecDepth 100000 in
theorem take_more (X : Wm.Bs) (k q : Nat) : X.take k ++ (X.drop k).take q = X.take (k + q) := by rw [List.take_add]
set_option maxRecDepth 100000 in
theorem put_more {m X : Wm.Bs} {o k q : Nat} (hq : ((X.drop k).take q).length = q) (hk : k ≤ X.length) (h : o + (k + q) ≤ m.length) : Mm.put (Mm.put m o (X.take k)) (o + k) ((X.drop k).take q) = Mm.put m o (X.take (k + q)) := by
  have hl : (X.take k).length = k := by rw [List.length_take]; omega
  have := Mm.put_app m o (X.take k) ((X.drop k).take q) (by rw [hl, hq]; exact h)
  rw [hl, take_more] at this
  exact this
set_option maxRecDepth 100000 in
theorem put_whole {m X : Wm.Bs} (h : X.length = m.length) : Mm.put m 0 X = X := by
  unfold Mm.put
  rw [List.take_zero, List.nil_append, Nat.zero_add, h, List.drop_length, List.append_nil]
set_option maxRecDepth 100000 in
theorem make_bytes (r : Nat) : madeCells (Value.int .u8 0).cells (r * 1) = (U (List.replicate r 0)).toArray := by
  apply Array.ext'
  apply List.ext_getElem?
  intro i
  unfold U
  rw [List.map_replicate]
  show (madeCells #[Value.int .u8 0] (r * 1)).toList[i]? = _
  unfold madeCells
  rw [Nat.mul_one]
  rcases Nat.lt_or_ge i r with h | h
  · simp [h, Nat.mod_one]
  · rw [List.getElem?_eq_none (by simpa using h), List.getElem?_eq_none (by simpa using h)]
set_option maxRecDepth 100000 in
theorem U_put_junk {m : Wm.Bs} {o : Nat} {d : Wm.Bs} {junk : List Value} (h : o + d.length ≤ m.length) : (U m ++ junk).take o ++ U d ++ (U m ++ junk).drop (o + (U d).length) = U (Mm.put m o d) ++ junk := by
  rw [List.take_append_of_le_length (by rw [U_length]; omega), List.drop_append_of_le_length (by rw [U_length, U_length]; omega), ← U_put, List.append_assoc, List.append_assoc, List.append_assoc]
set_option maxRecDepth 100000 in
theorem dwrite_none (g n c : Nat) (a : Int) (s : ByteArray) (w : World) (hn : n ≤ 64) (ha : -9223372036854775808 ≤ a ∧ a ≤ 9223372036854775807) (h : ¬ Mm.Inside (n * 128) a s.size) :
    Calls Tryd.prog 51 #[.agg #[.slice (some ⟨g, 0, none⟩) n c], .int .i64 a, .string s] w fun e w' => e = .returned (.bool false) ∧ Later w w' := by
  have HT := Lib.hid fun w' => inside_any (some ⟨g, 0, none⟩) n c a s.size w' hn ha
  rw [decide_eq_false h] at HT
  clear h
  go_enter Tryd.func51, Tryd.ntmps51
  go_wp2_with (first
    | (go_at_call 67; refine (HT.out _).mono ?_; rintro e w1 ⟨rfl, l1⟩))
  go_ret
  exact ⟨rfl, Later.trans_ (later1_M _ _) l1⟩
set_option maxRecDepth 100000 in
set_option maxHeartbeats 2000000 in
theorem dwrite_in (g n c a : Nat) (s : ByteArray) (b : Wm.Bs) (w : World) (hd : Draft w g n b) (hn : n ≤ 64) (h : Mm.Inside (n * 128) (a : Int) s.size) :
    Calls Tryd.prog 51 #[.agg #[.slice (some ⟨g, 0, none⟩) n c], .int .i64 (a : Int), .string s] w fun e w' => e = .returned (.bool true) ∧ Draft w' g n (Mm.put b a (Wm.ofS s)) ∧ Lx g w w' := by
  have HT := Lib.hid fun w' => inside_any (some ⟨g, 0, none⟩) n c (a : Int) s.size w' hn ⟨by omega, by have := h.2.2; omega⟩
  rw [decide_eq_true h] at HT
  obtain ⟨h1, h2, h3⟩ := h
  have har : a + s.size ≤ n * 128 := by omega
  have hgl := hd.lt
  obtain ⟨hbl, t, junk, hbk⟩ := hd
  obtain ⟨X, hX⟩ : ∃ X, X = Wm.ofS s := ⟨_, rfl⟩
  have hXl : X.length = s.size := by rw [hX, Wm.ofS_length]
  have HF := Lib.hid fun (k : Nat) (hk : k < s.size) w' => from_any ⟨g, 0, none⟩ n c (a + k) w' hn (by omega)
  have HXD := Lib.hid (show ∀ k, Wm.ofS (s.extract k s.size) = X.drop k from fun k => by rw [ofS_extract, hX])
  rw [← hX]
  have HX := Lib.hid hXl
  have HB := Lib.hid (show b.length = n * 128 ∧ a + s.size ≤ n * 128 from ⟨hbl, har⟩)
  have hr8 : a + s.size ≤ 8192 := by omega
  clear hX hXl h1 h2 h3 hbl har
  go_enter Tryd.func51, Tryd.ntmps51
  go_wp2_with (first
    | (go_at_call 67; refine (HT.out _).mono ?_; rintro e w1 ⟨rfl, l1⟩; have b3 := (Blk.new w 104 #[.slice (some ⟨g, 0, none⟩) n c] _ rfl).keep l1; have l2 := Later.trans_ (later1_M _ _) l1))
  replace hbk := hbk.keep l2
  have HNE := Lib.hid (show w.heap.size ≠ g by omega)
  obtain ⟨B3, hB3⟩ : ∃ B3, B3 = w.heap.size := ⟨_, rfl⟩
  rw [← hB3] at b3 HNE ⊢
  clear l1
  go_loopw [7] (fun i wr => ∃ k : Nat, k ≤ s.size ∧ i = .int .i64 (k : Int) ∧ Blk wr g t (U (Mm.put b a (X.take k)) ++ junk) ∧ Blk wr B3 104 [.slice (some ⟨g, 0, none⟩) n c] ∧ Lx g w wr) (fun i _ => s.size - (intOf i).toNat)
  case atStart => exact ⟨0, Nat.zero_le _, rfl, by rw [List.take_zero, Mm.put_nil]; exact hbk, b3, Lx.of l2⟩
  case round =>
    clear hbk b3 l2 hB3
    rename_i wr
    obtain ⟨k, hk, rfl, hbk, b3, lr⟩ := hrel
    by_cases hkr : k < s.size
    · obtain ⟨q, hq⟩ : ∃ q, q = Nat.min (s.size - k) (128 - (a + k) % 128) := ⟨_, rfl⟩
      have hqb : q ≤ s.size - k := by rw [hq]; exact Nat.min_le_left _ _
      have hqk : k + q ≤ s.size := by omega
      have HQ0 : 0 < q := by rw [hq]; exact Nat.lt_min.2 ⟨by omega, by omega⟩
      have HFk := Lib.hid (HF.out k hkr)
      rw [Int.natCast_add, Addr.add_mid, Nat.zero_add] at HFk
      obtain ⟨ch, hch⟩ : ∃ ch, ch = (X.drop k).take q := ⟨_, rfl⟩
      have hchl : ch.length = q := by rw [hch, List.length_take, List.length_drop, HX.out]; omega
      have hpl : (Mm.put b a (X.take k)).length = n * 128 := by rw [Mm.put_len (by rw [List.length_take, HX.out, HB.out.1]; have := HB.out.2; omega), HB.out.1]
      have HK := Lib.hid (show (ch = (Wm.ofS (s.extract k s.size)).take q ∧ ch.length = q) ∧ q = Nat.min (s.extract k s.size).size (128 - (a + k) % 128) ∧ a + k + q ≤ (U (Mm.put b a (X.take k)) ++ junk).length ∧ Mm.put (Mm.put b a (X.take k)) (a + k) ch = Mm.put b a (X.take (k + q)) ∧ a + k + ch.length ≤ (Mm.put b a (X.take k)).length from
        ⟨⟨by rw [HXD.out, hch], hchl⟩, by rw [ByteArray.size_extract, Nat.min_self]; exact hq, by rw [List.length_append, U_length, hpl]; have := HB.out.2; omega, by
          have := put_more (m := b) (X := X) (o := a) (k := k) (q := q) (by rw [← hch]; exact hchl) (by rw [HX.out]; omega) (by rw [HB.out.1]; have := HB.out.2; omega)
          rw [← hch] at this
          exact this, by rw [hpl, hchl]; have := HB.out.2; omega⟩)
      have kr : (k : Int) < (s.size : Int) := by omega
      have wak : IntKind.i64.wrap ((a : Int) + (k : Int)) = (a : Int) + (k : Int) := by rw [IntKind.wrap_i64]; omega
      have wkq : IntKind.i64.wrap ((k : Int) + (q : Int)) = (k : Int) + (q : Int) := by rw [IntKind.wrap_i64]; omega
      clear hch hchl hq hqb hpl
      go_wp2
      replace b3 := b3.drew; replace hbk := hbk.drew; replace lr : Lx g w wr.drew := lr
      refine wp_region_held_drew (S := fun w' => w'.rangeAt B3 0 [.slice (some ⟨g, 0, none⟩) n c]) (by kernel_rfl) (blk_at b3) (fun hHeld => ?_)
      refine wpAnyH_take (i := 0) (oi := ⟨some 19, .move (.tmp 7), _, _, _, none⟩) (v := .int .i64 (k : Int)) rfl (by kernel_rfl) (by kernel_rfl) (by kernel_rfl) (fun _ _ _ h => h) (Or.inl ⟨by rfl, fun _ _ => rfl⟩) hHeld ?_
      simp only [Act.put, List.setIfInBounds_toArray, List.set_cons_zero, List.set_cons_succ]
      refine wpAnyH_take (i := 1) (oi := ⟨some 20, .fieldAddr 104 (.tmp 3) 0, _, _, _, none⟩) (v := .pointer (some ⟨B3, 0, none⟩)) rfl (by kernel_rfl) (by kernel_rfl) (by kernel_rfl) (fun _ _ _ h => h) (Or.inl ⟨by rfl, fun w _ => by go_simp⟩) hHeld ?_
      simp only [Act.put, List.setIfInBounds_toArray, List.set_cons_zero, List.set_cons_succ]
      refine wpAnyH_take (i := 2) (oi := ⟨some 21, .load 24 (.tmp 20), _, _, _, none⟩) (v := .agg #[.slice (some ⟨g, 0, none⟩) n c]) rfl (by kernel_rfl) (by kernel_rfl) (by kernel_rfl) (fun _ _ _ h => h) (yieldsIf_load_mid (by rfl) _ _ rfl _ _ rfl _ _ (fun w h => h) Tryd.underlying24 rfl mem_sz) hHeld ?_
      simp only [Act.put, List.setIfInBounds_toArray, List.set_cons_zero, List.set_cons_succ]
      refine wpAnyH_take (i := 3) (oi := ⟨some 22, .move (.tmp 1), _, _, _, none⟩) (v := .int .i64 (a : Int)) rfl (by kernel_rfl) (by kernel_rfl) (by kernel_rfl) (fun _ _ _ h => h) (Or.inl ⟨by rfl, fun _ _ => rfl⟩) hHeld ?_
      simp only [Act.put, List.setIfInBounds_toArray, List.set_cons_zero, List.set_cons_succ]
      refine wpAnyH_take (i := 4) (oi := ⟨some 23, .move (.tmp 7), _, _, _, none⟩) (v := .int .i64 (k : Int)) rfl (by kernel_rfl) (by kernel_rfl) (by kernel_rfl) (fun _ _ _ h => h) (Or.inl ⟨by rfl, fun _ _ => rfl⟩) hHeld ?_
      simp only [Act.put, List.setIfInBounds_toArray, List.set_cons_zero, List.set_cons_succ]
      refine wpAnyH_take (i := 5) (oi := ⟨some 24, .binOp .add 3 (.tmp 22) (.tmp 23) 3, _, _, _, none⟩) (v := .int .i64 ((a : Int) + (k : Int))) rfl (by kernel_rfl) (by kernel_rfl) (by kernel_rfl) (fun _ _ _ h => h) (Or.inl ⟨by rfl, fun w _ => by go_simp⟩) hHeld ?_
      simp only [Act.put, List.setIfInBounds_toArray, List.set_cons_zero, List.set_cons_succ]
      refine wpAnyH_take (i := 7) (oi := ⟨some 26, .move (.tmp 2), _, _, _, none⟩) (v := .string s) rfl (by kernel_rfl) (by kernel_rfl) (by kernel_rfl) (fun _ _ _ h => h) (Or.inl ⟨by rfl, fun _ _ => rfl⟩) hHeld ?_
      simp only [Act.put, List.setIfInBounds_toArray, List.set_cons_zero, List.set_cons_succ]
      refine wpAnyH_take (i := 8) (oi := ⟨some 27, .move (.tmp 7), _, _, _, none⟩) (v := .int .i64 (k : Int)) rfl (by kernel_rfl) (by kernel_rfl) (by kernel_rfl) (fun _ _ _ h => h) (Or.inl ⟨by rfl, fun _ _ => rfl⟩) hHeld ?_
      simp only [Act.put, List.setIfInBounds_toArray, List.set_cons_zero, List.set_cons_succ]
      refine wpAnyH_take (i := 9) (oi := ⟨some 28, .slice 9 (.tmp 26) (some (.tmp 27)) none none, _, _, _, none⟩) (v := .string (s.extract k s.size)) rfl (by kernel_rfl) (by kernel_rfl) (by kernel_rfl) (fun _ _ _ h => h) (Or.inl ⟨by rfl, fun w _ => by go_simp⟩) hHeld ?_
      simp only [Act.put, List.setIfInBounds_toArray, List.set_cons_zero, List.set_cons_succ]
      refine wpAnyH_ready (rs := [6]) (by kernel_rfl) (by simp) (AllReadyH.cons (o := ⟨some 25, .call { callee := .value (.func 45), args := #[.tmp 21, .tmp 24], argTypes := #[24, 3] }, _, _, _, none⟩) rfl (fun K' hK => ?_) (AllReadyH.nil))
      go_simp
      refine (HFk.out _).mono ?_
      rintro e w4 ⟨rfl, l4⟩
      replace b3 := b3.keep l4
      replace lr := lr.later l4
      replace hbk := hbk.keep l4
      refine hK.out _ _ (blk_at b3) (fun hHeld => ?_)
      clear hK K'
      try simp only [Act.put, List.setIfInBounds_toArray, List.set_cons_zero, List.set_cons_succ]
      refine wpAnyH_ready (rs := [10]) (by kernel_rfl) (by simp) (AllReadyH.cons (o := ⟨some 29, .call { callee := .builtin .copy, args := #[.tmp 25, .tmp 28], argTypes := #[25, 9] }, _, _, _, none⟩) rfl (fun K' hK => ?_) (AllReadyH.nil))
      refine wp_copy_str _ _ rfl Tryd.underlying25 u8_sz g (a + k) _ _ rfl (s.extract k s.size) rfl ch q HK.out.1 HK.out.2.1 t (U (Mm.put b a (X.take k)) ++ junk) hbk HK.out.2.2.1 ?_
      intro w6 b6 o6
      replace b3 := b3.only o6 HNE.out
      refine hK.out _ _ (blk_at b3) (fun hHeld => ?_)
      clear hK K'
      try simp only [Act.put, List.setIfInBounds_toArray, List.set_cons_zero, List.set_cons_succ]
      refine wpAnyH_take (i := 11) (oi := ⟨some 30, .binOp .add 3 (.tmp 19) (.tmp 29) 3, _, _, _, none⟩) (v := .int .i64 ((k : Int) + (q : Int))) rfl (by kernel_rfl) (by kernel_rfl) (by kernel_rfl) (fun _ _ _ h => h) (Or.inl ⟨by rfl, fun w _ => by go_simp⟩) hHeld ?_
      simp only [Act.put, List.setIfInBounds_toArray, List.set_cons_zero, List.set_cons_succ]
      refine wpAnyH_take (i := 12) (oi := ⟨some 7, .assign (.tmp 30), _, _, _, none⟩) (v := .int .i64 ((k : Int) + (q : Int))) rfl (by kernel_rfl) (by kernel_rfl) (by kernel_rfl) (fun _ _ _ h => h) (Or.inl ⟨by rfl, fun _ _ => rfl⟩) hHeld ?_
      simp only [Act.put, List.setIfInBounds_toArray, List.set_cons_zero, List.set_cons_succ]
      refine wpAnyH_done (by kernel_rfl) ?_ _
      clear hHeld
      rw [U_put_junk HK.out.2.2.2.2, HK.out.2.2.2.1] at b6
      have l6 := lr.trans_ (Lx.only o6)
      clear wak wkq
      go_wp2
      go_roundw
      case rel => exact ⟨k + q, hqk, by go_num, b6, b3, l6⟩
      case measure => simp [intOf]; omega
    · obtain rfl : k = s.size := by omega
      rw [List.take_of_length_le (by rw [HX.out]; exact Nat.le_refl _)] at hbk
      have nkk : ¬ (s.size : Int) < (s.size : Int) := by omega
      go_wp2
      go_ret
      exact ⟨rfl, ⟨by rw [Mm.put_len (by rw [HX.out, HB.out.1]; exact HB.out.2), HB.out.1], t, junk, hbk⟩, lr⟩
set_option maxRecDepth 100000 in
theorem dwrite_any (g n c : Nat) (a : Int) (s : ByteArray) (b : Wm.Bs) (w : World) (hd : Draft w g n b) (hn : n ≤ 64) (ha : -9223372036854775808 ≤ a ∧ a ≤ 9223372036854775807) :
    Calls Tryd.prog 51 #[.agg #[.slice (some ⟨g, 0, none⟩) n c], .int .i64 a, .string s] w fun e w' => e = .returned (.bool (decide (Mm.Inside (n * 128) a s.size))) ∧ Draft w' g n (Mm.wr b a (Wm.ofS s)) ∧ Lx g w w' := by
  unfold Mm.wr
  rw [hd.1, Wm.ofS_length]
  by_cases h : Mm.Inside (n * 128) a s.size
  · rw [if_pos h, decide_eq_true h]
    obtain ⟨a', rfl⟩ := Int.eq_ofNat_of_zero_le h.1
    exact dwrite_in g n c a' s b w hd hn h
  · rw [if_neg h, decide_eq_false h]
    exact (dwrite_none g n c a s w hn ha h).mono fun e w' ⟨h1, h2⟩ => ⟨h1, hd.keep h2, Lx.of h2⟩
end Go.Proofs.YtjfphjgmphlbhaaDoor

/-
  THE WALKS OF Write; of the reference's Store.
-/
namespace Go.Proofs.YtjfphjgmphlbhaaDoor
open Go.RowKit Go.ChangeShapes Go.WideShapes Go.ChangeAt

set_option maxRecDepth 100000 in
set_option maxHeartbeats 2000000 in
theorem write_any (A : Option Addr) (n c : Nat) (a : Int) (s : ByteArray) (b : Wm.Bs) (w : World) (hs : Sl w 128 A n (U b)) (hn1 : 1 ≤ n) (hn : n ≤ 64) (ha : -9223372036854775808 ≤ a ∧ a ≤ 9223372036854775807) :
    Calls Tryd.prog 25 #[.agg #[.slice A n c], .int .i64 a, .string s] w (GotMB n (Mm.wr b a (Wm.ofS s)) (decide (Mm.Inside (n * 128) a s.size)) w) := by
  have HB := Lib.hid fun (w' : World) (hl : Later w w') => begin_any A n c b w' (hs.keep hl) hn1 hn
  have HW := Lib.hid fun (g c' : Nat) (w' : World) (hd : Draft w' g n b) => dwrite_any g n c' a s b w' hd hn ha
  obtain ⟨X, hX⟩ : ∃ X, X = Mm.wr b a (Wm.ofS s) := ⟨_, rfl⟩
  obtain ⟨q, hq⟩ : ∃ q, q = decide (Mm.Inside (n * 128) a s.size) := ⟨_, rfl⟩
  rw [← hX, ← hq] at HW ⊢
  clear hX hq hs ha
  have l0 := (later1_M w (.cells #[.slice A n c] 24)).alloc (by simp) (.cells #[.slice none 0 0] 24)
  have bR := Blk.new' (w.alloc (.cells #[.slice A n c] 24)) (w.heap.size + 1) 24 #[.slice none 0 0] [.slice none 0 0] (by simp) rfl
  go_enter Tryd.func25, Tryd.ntmps25
  go_wp2_with (first
    | (go_at_call 50; refine (HB.out _ l0).mono ?_; rintro e w1 ⟨g, c', rfl, k1, k2, k3, k4, k5⟩; replace bR := bR.keep k5; have l1 := Later.trans_ l0 k5; have b6 := Blk.new w1 104 #[.slice (some ⟨g, 0, none⟩) n c'] [.slice (some ⟨g, 0, none⟩) n c'] rfl; have hgl := k4.lt; have hg1 : w.heap.size + 2 ≤ g := (by simpa using k1))
    | (go_at_call 51; refine (HW.out g c' _ (k4.keep (later1_M w1 _))).mono ?_; rintro e w2 ⟨rfl, d2, x2⟩; replace bR := (bR.alloc (.cells #[.slice (some ⟨g, 0, none⟩) n c'] 104)).lx x2 (by omega); replace b6 := b6.lx x2 (by omega); have c6 := b6.cell (j := 0) (v := .slice (some ⟨g, 0, none⟩) n c') rfl; have cR := bR.cell (j := 0) (v := .slice none 0 0) rfl; have fR := bR.frz 0; have l2 := Lx.back (Later.trans_ l1 (later1_M w1 _)) x2 (by omega)))
  exact bodyPost_ret (v := .tuple #[.agg #[.slice (some ⟨g, 0, none⟩) n c'], .bool q]) (results_cell_tmp Tryd.results25 _ _ (w.heap.size + 1) 24 _ _ _ rfl rfl (bR.set 0 (.slice (some ⟨g, 0, none⟩) n c')) Tryd.underlying24 rfl mem_sz) rfl ⟨g, c', rfl, by omega, k2, k3, d2.only (Only.set _ _ _ _) (by omega), l2.setCell (by simp) _⟩

set_option maxRecDepth 100000 in
/-- What hands back a memory, wherever it lies, and whether something was done. -/
def GotS (n : Nat) (x : Wm.Bs) (q : Bool) (w : World) (e : Ending) (w' : World) : Prop := ∃ A c, e = .returned (.agg #[.slice A n c, .bool q]) ∧ n ≤ c ∧ c ≤ maxLen ∧ Sl w' 128 A n (U x) ∧ Later w w'
set_option maxRecDepth 100000 in
theorem Sl.only_ne {w w' : World} {size n g : Nat} {A : Option Addr} {xs : List Value} (h : Sl w size A n xs) (o : Only g w w') (hne : ∀ ad, A = some ad → ad.block ≠ g) : Sl w' size A n xs := h.lx (Lx.only o) fun _ => hne
end Go.Proofs.YtjfphjgmphlbhaaDoor

/-
  THE WALK OF the reference's Read.
-/
namespace Go.Proofs.YtjfphjgmphlbhaaDoor
open Go.RowKit Go.ChangeShapes Go.WideShapes Go.ChangeAt

set_option maxRecDepth 100000 in
theorem bytes2_sz (u v : Value) : (Tryd.prog.info? 90).map (·.size) = some [u, v].length := by
  show _ = some 2
  kernel_rfl
set_option maxRecDepth 100000 in
set_option maxHeartbeats 1000000 in
theorem rread_none (A : Option Addr) (n c : Nat) (a r : Int) (w : World) (hn : n ≤ 64) (ha : -9223372036854775808 ≤ a ∧ a ≤ 9223372036854775807) (h : ¬ Mm.Inside (n * 128) a r) :
    Calls Tryd.prog 39 #[.agg #[.slice A n c], .int .i64 a, .int .i64 r] w fun e w' => e = .returned (.agg #[.string ⟨#[]⟩, .bool false]) ∧ Later w w' := by
  have HS := Lib.hid fun w' => rsize_any A n c w' hn
  obtain ⟨L, hL⟩ : ∃ L, L = n * 128 := ⟨_, rfl⟩
  rw [← hL] at HS h
  have hL2 : L ≤ 8192 := by omega
  have hh : a < 0 ∨ (0 ≤ a ∧ r < 0) ∨ (0 ≤ a ∧ 0 ≤ r ∧ (L : Int) < a) ∨ (0 ≤ a ∧ 0 ≤ r ∧ a ≤ L ∧ (L : Int) - a < r) := by unfold Mm.Inside at h; omega
  clear h hL
  have bP := (Blk.new w 24 #[.slice A n c] [.slice A n c] rfl).alloc (.cells #[.string ⟨#[]⟩, .bool false] 90)
  have bR := Blk.new' (w.alloc (.cells #[.slice A n c] 24)) (w.heap.size + 1) 90 #[.string ⟨#[]⟩, .bool false] [.string ⟨#[]⟩, .bool false] (by simp) rfl
  have l0 : Later w ((w.alloc (.cells #[.slice A n c] 24)).alloc (.cells #[.string ⟨#[]⟩, .bool false] 90)) := (later1_M w _).alloc (by simp) _
  rcases hh with h1 | ⟨h1, h2⟩ | ⟨h1, h2, h3⟩ | ⟨h1, h2, h3, h4⟩
  · have d1 : decide (a < 0) = true := decide_eq_true h1
    go_enter Tryd.func39, Tryd.ntmps39
    go_wp2
    exact bodyPost_ret (results_blk Tryd.results39 _ _ (w.heap.size + 1) 90 [.string ⟨#[]⟩, .bool false] _ rfl bR Tryd.underlying90 rfl (bytes2_sz _ _)) rfl ⟨rfl, l0⟩
  · have d1 : decide (a < 0) = false := decide_eq_false (by omega)
    have d2 : decide (r < 0) = true := decide_eq_true h2
    go_enter Tryd.func39, Tryd.ntmps39
    go_wp2
    exact bodyPost_ret (results_blk Tryd.results39 _ _ (w.heap.size + 1) 90 [.string ⟨#[]⟩, .bool false] _ rfl bR Tryd.underlying90 rfl (bytes2_sz _ _)) rfl ⟨rfl, l0⟩
  · have d1 : decide (a < 0) = false := decide_eq_false (by omega)
    have d2 : decide (r < 0) = false := decide_eq_false (by omega)
    have d3 : decide ((L : Int) < a) = true := decide_eq_true h3
    go_enter Tryd.func39, Tryd.ntmps39
    go_wp2_with (first
      | (go_at_call 60; refine (HS.out _).mono ?_; rintro e w1 ⟨rfl, l1⟩; replace bP := bP.keep l1; have p0 := bP.cell (j := 0) (v := .slice A n c) rfl; replace bR := bR.keep l1; have c0 := bR.cell (j := 0) (v := .string ⟨#[]⟩) rfl; have c1 := bR.cell (j := 1) (v := .bool false) rfl; have f0 := bR.frz 0; have f1 := bR.frz 1))
    exact bodyPost_ret (results_blk Tryd.results39 _ _ (w.heap.size + 1) 90 [.string ⟨#[]⟩, .bool false] _ rfl ((bR.set 0 _).set 1 _) Tryd.underlying90 rfl (bytes2_sz _ _)) rfl ⟨rfl, ((Later.trans_ l0 l1).setCell (by simp) _).setCell (by simp) _⟩
  · have d1 : decide (a < 0) = false := decide_eq_false (by omega)
    have d2 : decide (r < 0) = false := decide_eq_false (by omega)
    have d3 : decide ((L : Int) < a) = false := decide_eq_false (by omega)
    go_enter Tryd.func39, Tryd.ntmps39
    go_wp2_with (first
      | (go_at_call 60; refine (HS.out w1).mono ?_; rintro e w2 ⟨rfl, l2⟩; clear c0 c1 f0 f1; replace bR := bR.keep l2; have c0 := bR.cell (j := 0) (v := .string ⟨#[]⟩) rfl; have c1 := bR.cell (j := 1) (v := .bool false) rfl; have f0 := bR.frz 0; have f1 := bR.frz 1)
      | (go_at_call 60; refine (HS.out _).mono ?_; rintro e w1 ⟨rfl, l1⟩; replace bP := bP.keep l1; have p0 := bP.cell (j := 0) (v := .slice A n c) rfl; replace bR := bR.keep l1; have c0 := bR.cell (j := 0) (v := .string ⟨#[]⟩) rfl; have c1 := bR.cell (j := 1) (v := .bool false) rfl; have f0 := bR.frz 0; have f1 := bR.frz 1))
    exact bodyPost_ret (results_blk Tryd.results39 _ _ (w.heap.size + 1) 90 [.string ⟨#[]⟩, .bool false] _ rfl ((bR.set 0 _).set 1 _) Tryd.underlying90 rfl (bytes2_sz _ _)) rfl ⟨rfl, ((Later.trans_ (Later.trans_ l0 l1) l2).setCell (by simp) _).setCell (by simp) _⟩

set_option maxRecDepth 100000 in
theorem take_snoc (X : Wm.Bs) (k : Nat) (h : k < X.length) : X.take (k + 1) = X.take k ++ [X.getD k 0] := by
  rw [List.take_succ_eq_append_getElem h, List.getD_eq_getElem?_getD, List.getElem?_eq_getElem h]
  rfl
set_option maxRecDepth 100000 in
set_option maxHeartbeats 2000000 in
theorem rread_in (A : Option Addr) (n c a r : Nat) (b : Wm.Bs) (w : World) (hs : Sl w 128 A n (U b)) (hn : n ≤ 64) (h : Mm.Inside (n * 128) (a : Int) (r : Int)) :
    Calls Tryd.prog 39 #[.agg #[.slice A n c], .int .i64 (a : Int), .int .i64 (r : Int)] w fun e w' => e = .returned (.agg #[.string (strOfNums ((b.drop a).take r)), .bool true]) ∧ Later w w' := by
  obtain ⟨i0, hi, hz0, hz1, hz2⟩ := info_parts u8_info
  have HS := Lib.hid fun w' => rsize_any A n c w' hn
  obtain ⟨h1, h2, h3⟩ := h
  have har : a + r ≤ n * 128 := by omega
  have hbl : b.length = n * 128 := by have := hs.1; rwa [U_length] at this
  obtain ⟨X, hX⟩ : ∃ X, X = (b.drop a).take r := ⟨_, rfl⟩
  have hXl : X.length = r := by rw [hX, List.length_take, List.length_drop]; omega
  have HB := Lib.hid fun (k : Nat) (hk : k < r) (w' : World) (hl : Later w w') => by
    have h1 := byte_any A n c (a + k) b w' (hs.keep hl) hn (by omega)
    rw [← part_getD b a r k hk, ← hX, Int.natCast_add] at h1
    exact h1
  rw [← hX]
  have HX := Lib.hid hXl
  have hr8 : a + r ≤ 8192 := by omega
  obtain ⟨L, hL⟩ : ∃ L, L = n * 128 := ⟨_, rfl⟩
  rw [← hL] at HS
  have hL2 : L ≤ 8192 := by omega
  have d1 : decide ((a : Int) < 0) = false := decide_eq_false (by omega)
  have d2 : decide ((r : Int) < 0) = false := decide_eq_false (by omega)
  have d3 : decide (L < a) = false := decide_eq_false (by omega)
  have d4 : (r : Int) ≤ (L : Int) - a := by omega
  have d5 : decide ((L : Int) - a < r) = false := decide_eq_false (by omega)
  have bP := (Blk.new w 24 #[.slice A n c] [.slice A n c] rfl).alloc (.cells #[.string ⟨#[]⟩, .bool false] 90)
  have bR := Blk.new' (w.alloc (.cells #[.slice A n c] 24)) (w.heap.size + 1) 90 #[.string ⟨#[]⟩, .bool false] [.string ⟨#[]⟩, .bool false] (by simp) rfl
  have l0 : Later w ((w.alloc (.cells #[.slice A n c] 24)).alloc (.cells #[.string ⟨#[]⟩, .bool false] 90)) := (later1_M w _).alloc (by simp) _
  clear hX hXl h1 h2 h3 hbl hs har hL
  go_enter Tryd.func39, Tryd.ntmps39
  go_wp2_with (first
    | (go_at_call 60; refine (HS.out w1).mono ?_; rintro e w2 ⟨rfl, l2⟩; replace bP := bP.keep l2; replace bR := bR.keep l2; clear p0)
    | (go_at_call 60; refine (HS.out _).mono ?_; rintro e w1 ⟨rfl, l1⟩; replace bP := bP.keep l1; have p0 := bP.cell (j := 0) (v := .slice A n c) rfl; replace bR := bR.keep l1))
  have l3 : Later w w2 := Later.trans_ (Later.trans_ l0 l1) l2
  clear d1 d2 d3 d4 d5 l0 l1 l2
  go_loopw [7, 8] (fun v i wr => ∃ k : Nat, k ≤ r ∧ i = .int .i64 (k : Int) ∧ wr.ownsRow (w.heap.size + 2) 5 1 v (X.take k).length (U (X.take k)) ∧ w.heap.size + 2 ≤ wr.heap.size ∧ Blk wr w.heap.size 24 [.slice A n c] ∧ Blk wr (w.heap.size + 1) 90 [.string ⟨#[]⟩, .bool false] ∧ Later w wr) (fun _ i _ => r - (intOf i).toNat)
  case atStart => exact ⟨0, Nat.zero_le _, rfl, World.ownsRow_nil _ _ _ _, by have := bR.lt; omega, bP, bR, l3⟩
  case round =>
    clear bP bR l3
    rename_i wr
    obtain ⟨k, hk, rfl, hor, hz, bP, bR, lr⟩ := hrel
    by_cases hkr : k < r
    · have p0 := bP.cell (j := 0) (v := .slice A n c) rfl
      have hsn := take_snoc X k (by rw [HX.out]; exact hkr)
      have HBk := Lib.hid fun w' (hl : Later w w') => HB.out k hkr w' hl
      obtain ⟨x, hx⟩ : ∃ x, x = X.getD k 0 := ⟨_, rfl⟩
      rw [← hx] at hsn HBk
      have HN := Lib.hid hsn
      have hlk : (X.take k).length ≤ 8192 := by rw [List.length_take]; omega
      have kr : (k : Int) < (r : Int) := by omega
      clear hsn hx
      go_wp2_with (first
        | (go_at_call 61; refine (HBk.out _ lr).mono ?_; rintro e w3 ⟨rfl, l3⟩; replace bP := bP.keep l3; replace bR := bR.keep l3; replace hor := own_below hor l3; replace lr := Later.trans_ lr l3; replace hz := Nat.le_trans hz l3.size; clear p0 l3)
        | (at_builtin; refine wpList_append_own _ rfl _ _ 25 rfl (w.heap.size + 2) 5 i0 (.int .u8 0) 1 1 Tryd.underlying25 hi hz0 hz1 hz2 rfl (by decide) _ _ _ rfl (hor.alloc _) ⟨w3.heap.size, 0, none⟩ 1 1 [.int .u8 _] rfl rfl (cell_one_new _ _ _) (one_int _ _) (by unfold maxLen; omega) (by omega) (by simp; omega) ?_; intro v' w4 hown' hgrow _))
      all_goals
        have hb2 : Below (w.heap.size + 2) (w3.alloc (.cells #[.int .u8 x] 5)) w4 := (Below.refl _ _).grown hgrow (by simp; omega) (fun j hj => (hor.lt j hj).1)
        have hb1 : Later w w4 := (lr.alloc (by omega) _).grown hgrow (by simp; omega) (fun j hj => by have := (hor.lt j hj).1; omega)
        have ho2 := own_app (b := [x]) (n := 1) hown' rfl
        rw [← HN.out] at ho2
        replace bP := (bP.alloc (.cells #[.int .u8 x] 5)).later hb2 (by omega)
        replace bR := (bR.alloc (.cells #[.int .u8 x] 5)).later hb2 (by omega)
        have hz4 : w.heap.size + 2 ≤ w4.heap.size := Nat.le_trans (by simp; omega) hb2.size
        clear hown' hgrow hor hb2
        go_wp2
        go_roundw
        case rel => exact ⟨k + 1, by omega, by go_num, ho2, hz4, bP, bR, hb1⟩
        case measure => simp [intOf]; omega
    · obtain rfl : k = r := by omega
      rw [List.take_of_length_le (by rw [HX.out]; exact Nat.le_refl _)] at hor
      obtain ⟨A', c', rfl, o1, o2, o3, _⟩ := own_form hor
      have hcv := run_str (P := Tryd.prog) 25 9 5 Tryd.underlying25 Tryd.underlying5 Tryd.underlying9 o3 c'
      have c0 := bR.cell (j := 0) (v := .string ⟨#[]⟩) rfl
      have c1 := bR.cell (j := 1) (v := .bool false) rfl
      have f0 := bR.frz 0
      have f1 := bR.frz 1
      have nkk : ¬ (k : Int) < (k : Int) := by omega
      clear hor o3
      go_wp2
      exact bodyPost_ret (results_blk Tryd.results39 _ _ (w.heap.size + 1) 90 [.string (strOfNums X), .bool true] _ rfl ((bR.set 0 _).set 1 _) Tryd.underlying90 rfl (bytes2_sz _ _)) rfl ⟨rfl, (lr.setCell (by simp) _).setCell (by simp) _⟩
set_option maxRecDepth 100000 in
theorem rread_any (A : Option Addr) (n c : Nat) (a r : Int) (b : Wm.Bs) (w : World) (hs : Sl w 128 A n (U b)) (hn : n ≤ 64) (ha : -9223372036854775808 ≤ a ∧ a ≤ 9223372036854775807) :
    Calls Tryd.prog 39 #[.agg #[.slice A n c], .int .i64 a, .int .i64 r] w fun e w' => e = .returned (.agg #[.string (strOfNums (Mm.rd b a r)), .bool (decide (Mm.Inside (n * 128) a r))]) ∧ Later w w' := by
  have hbl : b.length = n * 128 := by have := hs.1; rwa [U_length] at this
  unfold Mm.rd
  rw [hbl]
  by_cases h : Mm.Inside (n * 128) a r
  · rw [if_pos h, decide_eq_true h]
    obtain ⟨a', rfl⟩ := Int.eq_ofNat_of_zero_le h.1
    obtain ⟨r', rfl⟩ := Int.eq_ofNat_of_zero_le h.2.1
    exact rread_in A n c a' r' b w hs hn h
  · rw [if_neg h, decide_eq_false h]
    exact rread_none _ n c a r w hn ha h
end Go.Proofs.YtjfphjgmphlbhaaDoor

/-
  THE WALK OF the reference's Write.
-/
namespace Go.Proofs.YtjfphjgmphlbhaaDoor
open Go.RowKit Go.ChangeShapes Go.WideShapes Go.ChangeAt

end Go.Proofs.YtjfphjgmphlbhaaDoor

/-
  THE WALK OF the reference's Apply.
-/
namespace Go.Proofs.YtjfphjgmphlbhaaDoor
open Go.RowKit Go.ChangeShapes Go.WideShapes Go.ChangeAt

set_option maxRecDepth 100000 in
theorem yieldsIf_load_addr {P : Program} {ops : Array Oper} {S : World → Prop} {op : Oper} {a : Act} (hw : Region.wanted op (yielded ops a.tmps) = true) (ty : TypeId) (x : Operand) (ho : op.op = .load ty x)
    (ad : Addr) (hx : a.eval x = .pointer (some ad)) (cs : List Value) (d : TypeDesc) (hS : ∀ w, S w → ∀ j v, cs[j]? = some v → w.cell? (ad.add j) = some v)
    (hu : P.underlying ty = some d) (hd : d.isRow = true) (hi : (P.info? ty).map (·.size) = some cs.length) : YieldsIf P ops S op (.agg cs.toArray) a :=
  .inl ⟨hw, fun w hw' => by
    unfold execOp
    simp only [ho, hx, Sem.run_bind, Sem.run_pure, run_loadAt_addr (P := P) w ad ty cs d (hS w hw') hu hd hi, Result.andThen_ok]⟩
set_option maxRecDepth 100000 in
theorem sl_set2 {w : World} {size n B : Nat} {A : Option Addr} {xs : List Value} (h : Sl w size A n xs) (hne : ∀ ad, A = some ad → ad.block ≠ B) (u v : Value) : Sl ((w.setCell ⟨B, 0, none⟩ u).setCell ⟨B, 1, none⟩ v) size A n xs :=
  (h.only_ne (Only.set w B 0 u) hne).only_ne (Only.set _ B 1 v) hne
end Go.Proofs.YtjfphjgmphlbhaaDoor

/-
  THE WALK OF Diff.
-/
namespace Go.Proofs.YtjfphjgmphlbhaaDoor
open Go.RowKit Go.ChangeShapes Go.WideShapes Go.ChangeAt

set_option maxRecDepth 100000 in
/-- Numbers as cells. -/
def Ni (l : List Nat) : List Value := l.map fun i : Nat => Value.int .i64 (i : Int)
set_option maxRecDepth 100000 in
theorem ni_app {w : World} {B : Nat} {e : TypeId} {v : Value} {l : List Nat} {x : Nat} (h : w.ownsRow B e 1 v (l.length + 1) (Ni l ++ [.int .i64 (x : Int)])) : w.ownsRow B e 1 v (l ++ [x]).length (Ni (l ++ [x])) := by
  rw [List.length_append, show Ni (l ++ [x]) = Ni l ++ [.int .i64 (x : Int)] by unfold Ni; simp]
  exact h
set_option maxRecDepth 100000 in
/-- What hands back a list of numbers. -/
def GotI (l : List Nat) (w : World) (e : Ending) (w' : World) : Prop := ∃ A c, e = .returned (.slice A l.length c) ∧ l.length ≤ c ∧ c ≤ maxLen ∧ Sl w' 1 A l.length (Ni l) ∧ Later w w'
set_option maxRecDepth 100000 in
theorem page_sz {x : Wm.Bs} (h : x.length = 128) : (Tryd.prog.info? 76).map (·.size) = some (U x).length := by rw [U_length, h]; kernel_rfl
set_option maxRecDepth 100000 in
theorem items_eq (d : Nat) (x y : Wm.Bs) (w : World) : ∀ is : List Nat, (∀ i ∈ is, i < x.length ∧ i < y.length) →
    (Op.eqItems (d + 1) 5 1 (U x).toArray (U y).toArray is).run Tryd.prog w = .ok (is.all fun i => x.getD i 0 == y.getD i 0) w := by
  have hag : (isAgg 5).run Tryd.prog w = .ok false w := by kernel_rfl
  intro is
  induction is with
  | nil => intro _; simp [Op.eqItems]
  | cons i r ih =>
    intro h
    have hi := h i (List.mem_cons_self)
    have px : (part 5 (U x).toArray (i * 1)).run Tryd.prog w = .ok (.int .u8 (x.getD i 0)) w := by
      unfold part
      rw [Sem.run_bind, hag]
      have := U_get x i hi.1
      simp [Result.andThen, this]
    have py : (part 5 (U y).toArray (i * 1)).run Tryd.prog w = .ok (.int .u8 (y.getD i 0)) w := by
      unfold part
      rw [Sem.run_bind, hag]
      have := U_get y i hi.2
      simp [Result.andThen, this]
    have he := run_equalIn_int (P := Tryd.prog) w d 5 .u8 .u8 (x.getD i 0) (y.getD i 0) Tryd.underlying5
    have hr := ih (fun j hj => h j (List.mem_cons_of_mem _ hj))
    simp only [Op.eqItems, Sem.run_bind, px, py, he, Result.andThen_ok, List.all_cons]
    cases hb : (x.getD i 0 == y.getD i 0)
    · simp
    · simpa using hr
set_option maxRecDepth 100000 in
theorem range_eq {n : Nat} {x y : Wm.Bs} (hx : x.length = n) (hy : y.length = n) : ((List.range n).all fun i => x.getD i 0 == y.getD i 0) = decide (x = y) := by
  by_cases h : x = y
  · subst h; simp
  · rw [decide_eq_false h, Bool.eq_false_iff]
    intro hall
    apply h
    apply List.ext_getElem?
    intro j
    rcases Nat.lt_or_ge j n with hj | hj
    · have := List.all_eq_true.1 hall j (List.mem_range.2 hj)
      rw [List.getD_eq_getElem?_getD, List.getD_eq_getElem?_getD, List.getElem?_eq_getElem (by omega), List.getElem?_eq_getElem (by omega)] at this
      rw [List.getElem?_eq_getElem (by omega), List.getElem?_eq_getElem (by omega)]
      simpa using this
    · rw [List.getElem?_eq_none (by omega), List.getElem?_eq_none (by omega)]
set_option maxRecDepth 100000 in
theorem page_eq {x y : Wm.Bs} (hx : x.length = 128) (hy : y.length = 128) (w : World) : (Op.equalIn 10000 76 (.agg (U x).toArray) (.agg (U y).toArray)).run Tryd.prog w = .ok (decide (x = y)) w := by
  obtain ⟨i0, hi, _, _, _⟩ := info_parts u8_info
  have hc : Tryd.prog.cellsOf 5 = 1 := by kernel_rfl
  rw [run_equalIn_array w 9999 _ _ Tryd.underlying76 hi, hc, items_eq 9998 x y w _ (fun i hi => by rw [hx, hy]; have := List.mem_range.1 hi; omega), range_eq hx hy]
set_option maxRecDepth 100000 in
theorem page_neq {x y : Wm.Bs} (hx : x.length = 128) (hy : y.length = 128) (w : World) : (binOp .neq 76 (.agg (U x).toArray) (.agg (U y).toArray)).run Tryd.prog w = .ok (.bool (!decide (x = y))) w := by
  have h := page_eq hx hy w
  have h2 : (Op.equal 76 (.agg (U x).toArray) (.agg (U y).toArray)).run Tryd.prog w = .ok (decide (x = y)) w := h
  simp [binOp, h2]
set_option maxRecDepth 100000 in
theorem min_int (x y m : Nat) (h : m = min x y) : min (x : Int) (y : Int) = (m : Int) := by omega
set_option maxRecDepth 100000 in
theorem max_int (x y m : Nat) (h : m = max x y) : max (x : Int) (y : Int) = (m : Int) := by omega

set_option maxRecDepth 100000 in
set_option maxHeartbeats 4000000 in
theorem diff_any (A : Option Addr) (na ca : Nat) (B : Option Addr) (nb cb : Nat) (a b : Wm.Bs) (w : World) (hsa : Sl w 128 A na (U a)) (hsb : Sl w 128 B nb (U b)) (hna : na ≤ 64) (hnb : nb ≤ 64) :
    Calls Tryd.prog 18 #[.agg #[.slice A na ca], .agg #[.slice B nb cb]] w (GotI (Mm.diff a b na nb) w) := by
  obtain ⟨i0, hi, hz0, hz1, hz2⟩ := info_parts int_info
  have HSA := Lib.hid fun w' (hl : Later w w') => hsa.keep hl
  have HSB := Lib.hid fun w' (hl : Later w w') => hsb.keep hl
  have HLL := Lib.hid (show a.length = na * 128 ∧ b.length = nb * 128 from ⟨by have := hsa.1; rwa [U_length] at this, by have := hsb.1; rwa [U_length] at this⟩)
  have bA := (Blk.new w 24 #[.slice A na ca] [.slice A na ca] rfl).alloc (.cells #[.slice B nb cb] 24)
  have bB := Blk.new' (w.alloc (.cells #[.slice A na ca] 24)) (w.heap.size + 1) 24 #[.slice B nb cb] [.slice B nb cb] (by simp) rfl
  have l0 : Later w ((w.alloc (.cells #[.slice A na ca] 24)).alloc (.cells #[.slice B nb cb] 24)) := (later1_M w _).alloc (by simp) _
  obtain ⟨M, hM⟩ : ∃ M, M = max na nb := ⟨_, rfl⟩
  obtain ⟨bo, hbo0⟩ : ∃ M, M = min na nb := ⟨_, rfl⟩
  clear hsa hsb
  go_enter Tryd.func18, Tryd.ntmps18
  go_wp2
  rw [min_int na nb bo hbo0, max_int na nb M hM]
  have HBO := Lib.hid hbo0
  have hbo1 : bo ≤ na ∧ bo ≤ nb := ⟨by omega, by omega⟩
  clear hbo0
  have HM := Lib.hid hM
  have hM1 : na ≤ M ∧ nb ≤ M ∧ M ≤ 64 := ⟨by omega, by omega, by omega⟩
  clear hM
  go_loopw [6, 22] (fun v i wr => ∃ k : Nat, k ≤ M ∧ i = .int .i64 (k : Int) ∧ wr.ownsRow (w.heap.size + 2) 3 1 v (Mm.diffTo a b na nb k).length (Ni (Mm.diffTo a b na nb k)) ∧ w.heap.size + 2 ≤ wr.heap.size ∧ Blk wr w.heap.size 24 [.slice A na ca] ∧ Blk wr (w.heap.size + 1) 24 [.slice B nb cb] ∧ Later w wr) (fun _ i _ => M - (intOf i).toNat)
  case atStart => exact ⟨0, Nat.zero_le _, rfl, World.ownsRow_nil _ _ _ _, by simp, bA, bB, l0⟩
  case round =>
    clear bA bB l0
    rename_i wr
    obtain ⟨k, hk, rfl, hor, hz, bA, bB, lr⟩ := hrel
    have hdl := Mm.diffTo_len a b na nb k
    by_cases hkm : k < M
    · have km : (k : Int) < (M : Int) := by omega
      by_cases hbo : bo ≤ k
      · have kb : decide ((bo : Int) ≤ k) = true := decide_eq_true (by omega)
        have hdif : Mm.dif a b na nb k = true := by unfold Mm.dif; rcases (show na ≤ k ∨ nb ≤ k by have := HBO.out; omega) with h | h <;> simp [h]
        have HDT := Lib.hid (Mm.diffTo_succ a b na nb k)
        rw [hdif] at HDT
        simp only [if_true] at HDT
        clear hdif
        go_wp2
        replace bA := bA.drew; replace bB := bB.drew; replace lr := lr.drew; replace hor : wr.drew.ownsRow (w.heap.size + 2) 3 1 _ _ _ := hor; replace hz : w.heap.size + 2 ≤ wr.drew.heap.size := hz
        refine wp_region_held_drew (S := fun w' => w'.cell? ⟨w.heap.size, 0, none⟩ = some (.slice A na ca) ∧ w'.cell? ⟨w.heap.size + 1, 0, none⟩ = some (.slice B nb cb)) (by kernel_rfl) ⟨bA.cell rfl, bB.cell rfl⟩ (fun hHeld => ?_)
        refine wpAnyH_take (i := 0) (oi := ⟨some 25, .move (.tmp 7), _, _, _, none⟩) (v := .int .i64 (k : Int)) rfl (by kernel_rfl) (by kernel_rfl) (by kernel_rfl) (fun _ _ _ h => h) (Or.inl ⟨by rfl, fun _ _ => rfl⟩) hHeld ?_
        simp only [Act.put, List.setIfInBounds_toArray, List.set_cons_zero, List.set_cons_succ]
        refine wpAnyH_take (i := 1) (oi := ⟨some 26, .move (.tmp 5), _, _, _, none⟩) (v := .int .i64 (bo : Int)) rfl (by kernel_rfl) (by kernel_rfl) (by kernel_rfl) (fun _ _ _ h => h) (Or.inl ⟨by rfl, fun _ _ => rfl⟩) hHeld ?_
        simp only [Act.put, List.setIfInBounds_toArray, List.set_cons_zero, List.set_cons_succ]
        refine wpAnyH_take (i := 2) (oi := ⟨some 27, .binOp .geq 3 (.tmp 25) (.tmp 26) 3, _, _, _, none⟩) (v := .bool true) rfl (by kernel_rfl) (by kernel_rfl) (by kernel_rfl) (fun _ _ _ h => h) (Or.inl ⟨by rfl, fun w _ => by go_simp⟩) hHeld ?_
        simp only [Act.put, List.setIfInBounds_toArray, List.set_cons_zero, List.set_cons_succ]
        refine wpAnyH_take (i := 3) (oi := ⟨some 28, .move (.tmp 27), _, _, _, none⟩) (v := .bool true) rfl (by kernel_rfl) (by kernel_rfl) (by kernel_rfl) (fun _ _ _ h => h) (Or.inl ⟨by rfl, fun _ _ => rfl⟩) hHeld ?_
        simp only [Act.put, List.setIfInBounds_toArray, List.set_cons_zero, List.set_cons_succ]
        refine wpAnyH_take (i := 4) (oi := ⟨some 29, .fieldAddr 24 (.tmp 2) 0, _, _, _, _⟩) (v := undef) rfl (by kernel_rfl) (by kernel_rfl) (by kernel_rfl) (fun _ _ _ h => h) (Or.inr ⟨by rfl, rfl⟩) hHeld ?_
        simp only [Act.put, List.setIfInBounds_toArray, List.set_cons_zero, List.set_cons_succ]
        refine wpAnyH_take (i := 5) (oi := ⟨some 30, .load 22 (.tmp 29), _, _, _, _⟩) (v := undef) rfl (by kernel_rfl) (by kernel_rfl) (by kernel_rfl) (fun _ _ _ h => h) (Or.inr ⟨by rfl, rfl⟩) hHeld ?_
        simp only [Act.put, List.setIfInBounds_toArray, List.set_cons_zero, List.set_cons_succ]
        refine wpAnyH_take (i := 6) (oi := ⟨some 31, .move (.tmp 7), _, _, _, _⟩) (v := undef) rfl (by kernel_rfl) (by kernel_rfl) (by kernel_rfl) (fun _ _ _ h => h) (Or.inr ⟨by rfl, rfl⟩) hHeld ?_
        simp only [Act.put, List.setIfInBounds_toArray, List.set_cons_zero, List.set_cons_succ]
        refine wpAnyH_take (i := 7) (oi := ⟨some 32, .indexAddr 22 (.tmp 30) (.tmp 31), _, _, _, _⟩) (v := undef) rfl (by kernel_rfl) (by kernel_rfl) (by kernel_rfl) (fun _ _ _ h => h) (Or.inr ⟨by rfl, rfl⟩) hHeld ?_
        simp only [Act.put, List.setIfInBounds_toArray, List.set_cons_zero, List.set_cons_succ]
        refine wpAnyH_take (i := 8) (oi := ⟨some 33, .load 76 (.tmp 32), _, _, _, _⟩) (v := undef) rfl (by kernel_rfl) (by kernel_rfl) (by kernel_rfl) (fun _ _ _ h => h) (Or.inr ⟨by rfl, rfl⟩) hHeld ?_
        simp only [Act.put, List.setIfInBounds_toArray, List.set_cons_zero, List.set_cons_succ]
        refine wpAnyH_take (i := 9) (oi := ⟨some 34, .fieldAddr 24 (.tmp 3) 0, _, _, _, _⟩) (v := undef) rfl (by kernel_rfl) (by kernel_rfl) (by kernel_rfl) (fun _ _ _ h => h) (Or.inr ⟨by rfl, rfl⟩) hHeld ?_
        simp only [Act.put, List.setIfInBounds_toArray, List.set_cons_zero, List.set_cons_succ]
        refine wpAnyH_take (i := 10) (oi := ⟨some 35, .load 22 (.tmp 34), _, _, _, _⟩) (v := undef) rfl (by kernel_rfl) (by kernel_rfl) (by kernel_rfl) (fun _ _ _ h => h) (Or.inr ⟨by rfl, rfl⟩) hHeld ?_
        simp only [Act.put, List.setIfInBounds_toArray, List.set_cons_zero, List.set_cons_succ]
        refine wpAnyH_take (i := 11) (oi := ⟨some 36, .move (.tmp 7), _, _, _, _⟩) (v := undef) rfl (by kernel_rfl) (by kernel_rfl) (by kernel_rfl) (fun _ _ _ h => h) (Or.inr ⟨by rfl, rfl⟩) hHeld ?_
        simp only [Act.put, List.setIfInBounds_toArray, List.set_cons_zero, List.set_cons_succ]
        refine wpAnyH_take (i := 12) (oi := ⟨some 37, .indexAddr 22 (.tmp 35) (.tmp 36), _, _, _, _⟩) (v := undef) rfl (by kernel_rfl) (by kernel_rfl) (by kernel_rfl) (fun _ _ _ h => h) (Or.inr ⟨by rfl, rfl⟩) hHeld ?_
        simp only [Act.put, List.setIfInBounds_toArray, List.set_cons_zero, List.set_cons_succ]
        refine wpAnyH_take (i := 13) (oi := ⟨some 38, .load 76 (.tmp 37), _, _, _, _⟩) (v := undef) rfl (by kernel_rfl) (by kernel_rfl) (by kernel_rfl) (fun _ _ _ h => h) (Or.inr ⟨by rfl, rfl⟩) hHeld ?_
        simp only [Act.put, List.setIfInBounds_toArray, List.set_cons_zero, List.set_cons_succ]
        refine wpAnyH_take (i := 14) (oi := ⟨some 39, .binOp .neq 76 (.tmp 33) (.tmp 38) 76, _, _, _, _⟩) (v := undef) rfl (by kernel_rfl) (by kernel_rfl) (by kernel_rfl) (fun _ _ _ h => h) (Or.inr ⟨by rfl, rfl⟩) hHeld ?_
        simp only [Act.put, List.setIfInBounds_toArray, List.set_cons_zero, List.set_cons_succ]
        refine wpAnyH_take (i := 15) (oi := ⟨some 40, .pick (.tmp 28) (.const (.bool true)) (.tmp 39), _, _, _, none⟩) (v := .bool true) rfl (by kernel_rfl) (by kernel_rfl) (by kernel_rfl) (fun _ _ _ h => h) (Or.inl ⟨by rfl, fun w _ => by go_simp⟩) hHeld ?_
        simp only [Act.put, List.setIfInBounds_toArray, List.set_cons_zero, List.set_cons_succ]
        refine wpAnyH_done (by kernel_rfl) ?_ _
        clear hHeld
        obtain ⟨wd, hwd⟩ : ∃ wd, wd = wr.drew := ⟨_, rfl⟩
        rw [← hwd] at bA bB lr hor hz ⊢
        clear hwd
        go_wp2_with (at_builtin; refine wpList_append_own _ rfl _ _ 44 rfl (w.heap.size + 2) 3 i0 (.int .i64 0) 1 8 Tryd.underlying44 hi hz0 hz1 hz2 rfl (by decide) _ _ _ rfl (hor.alloc _) ⟨wd.heap.size, 0, none⟩ 1 1 [.int .i64 _] rfl rfl (cell_one_new _ _ _) (one_int _ _) (by unfold maxLen; omega) (by omega) (by simp; omega) ?_; intro v' w4 hown' hgrow _)
        all_goals
          have hb2 : Below (w.heap.size + 2) (wd.alloc (.cells #[.int .i64 (k : Int)] 3)) w4 := (Below.refl _ _).grown hgrow (by simp; omega) (fun j hj => (hor.lt j hj).1)
          have hb1 : Later w w4 := (lr.alloc (by omega) _).grown hgrow (by simp; omega) (fun j hj => by have := (hor.lt j hj).1; omega)
          have ho2 := ni_app (x := k) hown'
          rw [← HDT.out] at ho2
          replace bA := (bA.alloc (.cells #[.int .i64 (k : Int)] 3)).later hb2 (by omega)
          replace bB := (bB.alloc (.cells #[.int .i64 (k : Int)] 3)).later hb2 (by omega)
          have hz4 : w.heap.size + 2 ≤ w4.heap.size := Nat.le_trans (by simp; omega) hb2.size
          clear hown' hgrow hor hb2
          go_wp2
          go_roundw
          case rel => exact ⟨k + 1, by omega, by go_num, ho2, hz4, bA, bB, hb1⟩
          case measure => simp [intOf]; omega
      · have kb : decide ((bo : Int) ≤ k) = false := decide_eq_false (by omega)
        have ka : (k : Int) < (na : Int) := by omega
        have kb2 : (k : Int) < (nb : Int) := by omega
        obtain ⟨ada, rfl⟩ := (HSA.out _ lr).addr (by omega)
        obtain ⟨adb, rfl⟩ := (HSB.out _ lr).addr (by omega)
        obtain ⟨pa, hpa⟩ : ∃ p, p = Mm.pg a k := ⟨_, rfl⟩
        obtain ⟨pb, hpb⟩ : ∃ p, p = Mm.pg b k := ⟨_, rfl⟩
        have HPA := Lib.hid fun w' (hl : Later w w') => (show ∀ j u, (U pa)[j]? = some u → w'.cell? ((ada.add (k * 128)).add j) = some u by rw [hpa]; exact (HSA.out w' hl).part (o := k * 128) (k := 128) (by omega) (by omega))
        have HPB := Lib.hid fun w' (hl : Later w w') => (show ∀ j u, (U pb)[j]? = some u → w'.cell? ((adb.add (k * 128)).add j) = some u by rw [hpb]; exact (HSB.out w' hl).part (o := k * 128) (k := 128) (by omega) (by omega))
        have HPL := Lib.hid (show pa.length = 128 ∧ pb.length = 128 from ⟨by rw [hpa]; exact Mm.pg_len HLL.out.1 (by omega), by rw [hpb]; exact Mm.pg_len HLL.out.2 (by omega)⟩)
        have hdif0 : Mm.dif a b na nb k = !decide (pa = pb) := by unfold Mm.dif; rw [decide_eq_false (by omega), decide_eq_false (by omega), ← hpa, ← hpb]; rfl
        clear hpa hpb
        by_cases hpe : pa = pb
        · have HDEC := Lib.hid (decide_eq_true hpe)
          have hdif : Mm.dif a b na nb k = false := by rw [hdif0, decide_eq_true hpe]; rfl
          clear hdif0 hpe
          have HDT := Lib.hid (Mm.diffTo_succ a b na nb k)
          rw [hdif] at HDT
          simp only [Bool.false_eq_true, if_false] at HDT
          clear hdif
          go_wp2
          replace bA := bA.drew; replace bB := bB.drew; replace lr := lr.drew; replace hor : wr.drew.ownsRow (w.heap.size + 2) 3 1 _ _ _ := hor; replace hz : w.heap.size + 2 ≤ wr.drew.heap.size := hz
          refine wp_region_held_drew (S := fun w' => w'.cell? ⟨w.heap.size, 0, none⟩ = some (.slice (some ada) na ca) ∧ w'.cell? ⟨w.heap.size + 1, 0, none⟩ = some (.slice (some adb) nb cb) ∧ (∀ j u, (U pa)[j]? = some u → w'.cell? ((ada.add (k * 128)).add j) = some u) ∧ (∀ j u, (U pb)[j]? = some u → w'.cell? ((adb.add (k * 128)).add j) = some u)) (by kernel_rfl) ⟨bA.cell rfl, bB.cell rfl, HPA.out _ lr, HPB.out _ lr⟩ (fun hHeld => ?_)
          refine wpAnyH_take (i := 0) (oi := ⟨some 25, .move (.tmp 7), _, _, _, none⟩) (v := .int .i64 (k : Int)) rfl (by kernel_rfl) (by kernel_rfl) (by kernel_rfl) (fun _ _ _ h => h) (Or.inl ⟨by rfl, fun _ _ => rfl⟩) hHeld ?_
          simp only [Act.put, List.setIfInBounds_toArray, List.set_cons_zero, List.set_cons_succ]
          refine wpAnyH_take (i := 1) (oi := ⟨some 26, .move (.tmp 5), _, _, _, none⟩) (v := .int .i64 (bo : Int)) rfl (by kernel_rfl) (by kernel_rfl) (by kernel_rfl) (fun _ _ _ h => h) (Or.inl ⟨by rfl, fun _ _ => rfl⟩) hHeld ?_
          simp only [Act.put, List.setIfInBounds_toArray, List.set_cons_zero, List.set_cons_succ]
          refine wpAnyH_take (i := 2) (oi := ⟨some 27, .binOp .geq 3 (.tmp 25) (.tmp 26) 3, _, _, _, none⟩) (v := .bool false) rfl (by kernel_rfl) (by kernel_rfl) (by kernel_rfl) (fun _ _ _ h => h) (Or.inl ⟨by rfl, fun w _ => by go_simp⟩) hHeld ?_
          simp only [Act.put, List.setIfInBounds_toArray, List.set_cons_zero, List.set_cons_succ]
          refine wpAnyH_take (i := 3) (oi := ⟨some 28, .move (.tmp 27), _, _, _, none⟩) (v := .bool false) rfl (by kernel_rfl) (by kernel_rfl) (by kernel_rfl) (fun _ _ _ h => h) (Or.inl ⟨by rfl, fun _ _ => rfl⟩) hHeld ?_
          simp only [Act.put, List.setIfInBounds_toArray, List.set_cons_zero, List.set_cons_succ]
          refine wpAnyH_take (i := 4) (oi := ⟨some 29, .fieldAddr 24 (.tmp 2) 0, _, _, _, _⟩) (v := .pointer (some ⟨w.heap.size, 0, none⟩)) rfl (by kernel_rfl) (by kernel_rfl) (by kernel_rfl) (fun _ _ _ h => h) (Or.inl ⟨by rfl, fun w _ => by go_simp⟩) hHeld ?_
          simp only [Act.put, List.setIfInBounds_toArray, List.set_cons_zero, List.set_cons_succ]
          refine wpAnyH_take (i := 5) (oi := ⟨some 30, .load 22 (.tmp 29), _, _, _, _⟩) (v := (.slice (some ada) na ca)) rfl (by kernel_rfl) (by kernel_rfl) (by kernel_rfl) (fun _ _ _ h => h) (Or.inl ⟨by rfl, fun w hSw => by have e1 := hSw.1; clear hSw; go_simp⟩) hHeld ?_
          simp only [Act.put, List.setIfInBounds_toArray, List.set_cons_zero, List.set_cons_succ]
          refine wpAnyH_take (i := 6) (oi := ⟨some 31, .move (.tmp 7), _, _, _, _⟩) (v := .int .i64 (k : Int)) rfl (by kernel_rfl) (by kernel_rfl) (by kernel_rfl) (fun _ _ _ h => h) (Or.inl ⟨by rfl, fun _ _ => rfl⟩) hHeld ?_
          simp only [Act.put, List.setIfInBounds_toArray, List.set_cons_zero, List.set_cons_succ]
          refine wpAnyH_take (i := 7) (oi := ⟨some 32, .indexAddr 22 (.tmp 30) (.tmp 31), _, _, _, _⟩) (v := .pointer (some (ada.add (k * 128)))) rfl (by kernel_rfl) (by kernel_rfl) (by kernel_rfl) (fun _ _ _ h => h) (Or.inl ⟨by rfl, fun w _ => by go_simp⟩) hHeld ?_
          simp only [Act.put, List.setIfInBounds_toArray, List.set_cons_zero, List.set_cons_succ]
          refine wpAnyH_take (i := 8) (oi := ⟨some 33, .load 76 (.tmp 32), _, _, _, _⟩) (v := .agg (U pa).toArray) rfl (by kernel_rfl) (by kernel_rfl) (by kernel_rfl) (fun _ _ _ h => h) (yieldsIf_load_addr (by rfl) _ _ rfl (ada.add (k * 128)) (by rfl) (U pa) _ (fun w h => h.2.2.1) Tryd.underlying76 rfl (page_sz HPL.out.1)) hHeld ?_
          simp only [Act.put, List.setIfInBounds_toArray, List.set_cons_zero, List.set_cons_succ]
          refine wpAnyH_take (i := 9) (oi := ⟨some 34, .fieldAddr 24 (.tmp 3) 0, _, _, _, _⟩) (v := .pointer (some ⟨w.heap.size + 1, 0, none⟩)) rfl (by kernel_rfl) (by kernel_rfl) (by kernel_rfl) (fun _ _ _ h => h) (Or.inl ⟨by rfl, fun w _ => by go_simp⟩) hHeld ?_
          simp only [Act.put, List.setIfInBounds_toArray, List.set_cons_zero, List.set_cons_succ]
          refine wpAnyH_take (i := 10) (oi := ⟨some 35, .load 22 (.tmp 34), _, _, _, _⟩) (v := (.slice (some adb) nb cb)) rfl (by kernel_rfl) (by kernel_rfl) (by kernel_rfl) (fun _ _ _ h => h) (Or.inl ⟨by rfl, fun w hSw => by have e1 := hSw.2.1; clear hSw; go_simp⟩) hHeld ?_
          simp only [Act.put, List.setIfInBounds_toArray, List.set_cons_zero, List.set_cons_succ]
          refine wpAnyH_take (i := 11) (oi := ⟨some 36, .move (.tmp 7), _, _, _, _⟩) (v := .int .i64 (k : Int)) rfl (by kernel_rfl) (by kernel_rfl) (by kernel_rfl) (fun _ _ _ h => h) (Or.inl ⟨by rfl, fun _ _ => rfl⟩) hHeld ?_
          simp only [Act.put, List.setIfInBounds_toArray, List.set_cons_zero, List.set_cons_succ]
          refine wpAnyH_take (i := 12) (oi := ⟨some 37, .indexAddr 22 (.tmp 35) (.tmp 36), _, _, _, _⟩) (v := .pointer (some (adb.add (k * 128)))) rfl (by kernel_rfl) (by kernel_rfl) (by kernel_rfl) (fun _ _ _ h => h) (Or.inl ⟨by rfl, fun w _ => by go_simp⟩) hHeld ?_
          simp only [Act.put, List.setIfInBounds_toArray, List.set_cons_zero, List.set_cons_succ]
          refine wpAnyH_take (i := 13) (oi := ⟨some 38, .load 76 (.tmp 37), _, _, _, _⟩) (v := .agg (U pb).toArray) rfl (by kernel_rfl) (by kernel_rfl) (by kernel_rfl) (fun _ _ _ h => h) (yieldsIf_load_addr (by rfl) _ _ rfl (adb.add (k * 128)) (by rfl) (U pb) _ (fun w h => h.2.2.2) Tryd.underlying76 rfl (page_sz HPL.out.2)) hHeld ?_
          simp only [Act.put, List.setIfInBounds_toArray, List.set_cons_zero, List.set_cons_succ]
          refine wpAnyH_take (i := 14) (oi := ⟨some 39, .binOp .neq 76 (.tmp 33) (.tmp 38) 76, _, _, _, _⟩) (v := .bool false) rfl (by kernel_rfl) (by kernel_rfl) (by kernel_rfl) (fun _ _ _ h => h) (Or.inl ⟨by rfl, fun w _ => by have e1 := page_eq HPL.out.1 HPL.out.2 w; rw [HDEC.out] at e1; go_simp⟩) hHeld ?_
          simp only [Act.put, List.setIfInBounds_toArray, List.set_cons_zero, List.set_cons_succ]
          refine wpAnyH_take (i := 15) (oi := ⟨some 40, .pick (.tmp 28) (.const (.bool true)) (.tmp 39), _, _, _, none⟩) (v := .bool false) rfl (by kernel_rfl) (by kernel_rfl) (by kernel_rfl) (fun _ _ _ h => h) (Or.inl ⟨by rfl, fun w _ => by go_simp⟩) hHeld ?_
          simp only [Act.put, List.setIfInBounds_toArray, List.set_cons_zero, List.set_cons_succ]
          refine wpAnyH_done (by kernel_rfl) ?_ _
          clear hHeld
          go_wp2
          go_roundw
          case rel => exact ⟨k + 1, by omega, by go_num, by rw [HDT.out]; exact hor, hz, bA, bB, lr⟩
          case measure => simp [intOf]; omega
        · have HDEC := Lib.hid (decide_eq_false hpe)
          have hdif : Mm.dif a b na nb k = true := by rw [hdif0, decide_eq_false hpe]; rfl
          clear hdif0 hpe
          have HDT := Lib.hid (Mm.diffTo_succ a b na nb k)
          rw [hdif] at HDT
          simp only [if_true] at HDT
          clear hdif
          go_wp2
          replace bA := bA.drew; replace bB := bB.drew; replace lr := lr.drew; replace hor : wr.drew.ownsRow (w.heap.size + 2) 3 1 _ _ _ := hor; replace hz : w.heap.size + 2 ≤ wr.drew.heap.size := hz
          refine wp_region_held_drew (S := fun w' => w'.cell? ⟨w.heap.size, 0, none⟩ = some (.slice (some ada) na ca) ∧ w'.cell? ⟨w.heap.size + 1, 0, none⟩ = some (.slice (some adb) nb cb) ∧ (∀ j u, (U pa)[j]? = some u → w'.cell? ((ada.add (k * 128)).add j) = some u) ∧ (∀ j u, (U pb)[j]? = some u → w'.cell? ((adb.add (k * 128)).add j) = some u)) (by kernel_rfl) ⟨bA.cell rfl, bB.cell rfl, HPA.out _ lr, HPB.out _ lr⟩ (fun hHeld => ?_)
          refine wpAnyH_take (i := 0) (oi := ⟨some 25, .move (.tmp 7), _, _, _, none⟩) (v := .int .i64 (k : Int)) rfl (by kernel_rfl) (by kernel_rfl) (by kernel_rfl) (fun _ _ _ h => h) (Or.inl ⟨by rfl, fun _ _ => rfl⟩) hHeld ?_
          simp only [Act.put, List.setIfInBounds_toArray, List.set_cons_zero, List.set_cons_succ]
          refine wpAnyH_take (i := 1) (oi := ⟨some 26, .move (.tmp 5), _, _, _, none⟩) (v := .int .i64 (bo : Int)) rfl (by kernel_rfl) (by kernel_rfl) (by kernel_rfl) (fun _ _ _ h => h) (Or.inl ⟨by rfl, fun _ _ => rfl⟩) hHeld ?_
          simp only [Act.put, List.setIfInBounds_toArray, List.set_cons_zero, List.set_cons_succ]
          refine wpAnyH_take (i := 2) (oi := ⟨some 27, .binOp .geq 3 (.tmp 25) (.tmp 26) 3, _, _, _, none⟩) (v := .bool false) rfl (by kernel_rfl) (by kernel_rfl) (by kernel_rfl) (fun _ _ _ h => h) (Or.inl ⟨by rfl, fun w _ => by go_simp⟩) hHeld ?_
          simp only [Act.put, List.setIfInBounds_toArray, List.set_cons_zero, List.set_cons_succ]
          refine wpAnyH_take (i := 3) (oi := ⟨some 28, .move (.tmp 27), _, _, _, none⟩) (v := .bool false) rfl (by kernel_rfl) (by kernel_rfl) (by kernel_rfl) (fun _ _ _ h => h) (Or.inl ⟨by rfl, fun _ _ => rfl⟩) hHeld ?_
          simp only [Act.put, List.setIfInBounds_toArray, List.set_cons_zero, List.set_cons_succ]
          refine wpAnyH_take (i := 4) (oi := ⟨some 29, .fieldAddr 24 (.tmp 2) 0, _, _, _, _⟩) (v := .pointer (some ⟨w.heap.size, 0, none⟩)) rfl (by kernel_rfl) (by kernel_rfl) (by kernel_rfl) (fun _ _ _ h => h) (Or.inl ⟨by rfl, fun w _ => by go_simp⟩) hHeld ?_
          simp only [Act.put, List.setIfInBounds_toArray, List.set_cons_zero, List.set_cons_succ]
          refine wpAnyH_take (i := 5) (oi := ⟨some 30, .load 22 (.tmp 29), _, _, _, _⟩) (v := (.slice (some ada) na ca)) rfl (by kernel_rfl) (by kernel_rfl) (by kernel_rfl) (fun _ _ _ h => h) (Or.inl ⟨by rfl, fun w hSw => by have e1 := hSw.1; clear hSw; go_simp⟩) hHeld ?_
          simp only [Act.put, List.setIfInBounds_toArray, List.set_cons_zero, List.set_cons_succ]
          refine wpAnyH_take (i := 6) (oi := ⟨some 31, .move (.tmp 7), _, _, _, _⟩) (v := .int .i64 (k : Int)) rfl (by kernel_rfl) (by kernel_rfl) (by kernel_rfl) (fun _ _ _ h => h) (Or.inl ⟨by rfl, fun _ _ => rfl⟩) hHeld ?_
          simp only [Act.put, List.setIfInBounds_toArray, List.set_cons_zero, List.set_cons_succ]
          refine wpAnyH_take (i := 7) (oi := ⟨some 32, .indexAddr 22 (.tmp 30) (.tmp 31), _, _, _, _⟩) (v := .pointer (some (ada.add (k * 128)))) rfl (by kernel_rfl) (by kernel_rfl) (by kernel_rfl) (fun _ _ _ h => h) (Or.inl ⟨by rfl, fun w _ => by go_simp⟩) hHeld ?_
          simp only [Act.put, List.setIfInBounds_toArray, List.set_cons_zero, List.set_cons_succ]
          refine wpAnyH_take (i := 8) (oi := ⟨some 33, .load 76 (.tmp 32), _, _, _, _⟩) (v := .agg (U pa).toArray) rfl (by kernel_rfl) (by kernel_rfl) (by kernel_rfl) (fun _ _ _ h => h) (yieldsIf_load_addr (by rfl) _ _ rfl (ada.add (k * 128)) (by rfl) (U pa) _ (fun w h => h.2.2.1) Tryd.underlying76 rfl (page_sz HPL.out.1)) hHeld ?_
          simp only [Act.put, List.setIfInBounds_toArray, List.set_cons_zero, List.set_cons_succ]
          refine wpAnyH_take (i := 9) (oi := ⟨some 34, .fieldAddr 24 (.tmp 3) 0, _, _, _, _⟩) (v := .pointer (some ⟨w.heap.size + 1, 0, none⟩)) rfl (by kernel_rfl) (by kernel_rfl) (by kernel_rfl) (fun _ _ _ h => h) (Or.inl ⟨by rfl, fun w _ => by go_simp⟩) hHeld ?_
          simp only [Act.put, List.setIfInBounds_toArray, List.set_cons_zero, List.set_cons_succ]
          refine wpAnyH_take (i := 10) (oi := ⟨some 35, .load 22 (.tmp 34), _, _, _, _⟩) (v := (.slice (some adb) nb cb)) rfl (by kernel_rfl) (by kernel_rfl) (by kernel_rfl) (fun _ _ _ h => h) (Or.inl ⟨by rfl, fun w hSw => by have e1 := hSw.2.1; clear hSw; go_simp⟩) hHeld ?_
          simp only [Act.put, List.setIfInBounds_toArray, List.set_cons_zero, List.set_cons_succ]
          refine wpAnyH_take (i := 11) (oi := ⟨some 36, .move (.tmp 7), _, _, _, _⟩) (v := .int .i64 (k : Int)) rfl (by kernel_rfl) (by kernel_rfl) (by kernel_rfl) (fun _ _ _ h => h) (Or.inl ⟨by rfl, fun _ _ => rfl⟩) hHeld ?_
          simp only [Act.put, List.setIfInBounds_toArray, List.set_cons_zero, List.set_cons_succ]
          refine wpAnyH_take (i := 12) (oi := ⟨some 37, .indexAddr 22 (.tmp 35) (.tmp 36), _, _, _, _⟩) (v := .pointer (some (adb.add (k * 128)))) rfl (by kernel_rfl) (by kernel_rfl) (by kernel_rfl) (fun _ _ _ h => h) (Or.inl ⟨by rfl, fun w _ => by go_simp⟩) hHeld ?_
          simp only [Act.put, List.setIfInBounds_toArray, List.set_cons_zero, List.set_cons_succ]
          refine wpAnyH_take (i := 13) (oi := ⟨some 38, .load 76 (.tmp 37), _, _, _, _⟩) (v := .agg (U pb).toArray) rfl (by kernel_rfl) (by kernel_rfl) (by kernel_rfl) (fun _ _ _ h => h) (yieldsIf_load_addr (by rfl) _ _ rfl (adb.add (k * 128)) (by rfl) (U pb) _ (fun w h => h.2.2.2) Tryd.underlying76 rfl (page_sz HPL.out.2)) hHeld ?_
          simp only [Act.put, List.setIfInBounds_toArray, List.set_cons_zero, List.set_cons_succ]
          refine wpAnyH_take (i := 14) (oi := ⟨some 39, .binOp .neq 76 (.tmp 33) (.tmp 38) 76, _, _, _, _⟩) (v := .bool true) rfl (by kernel_rfl) (by kernel_rfl) (by kernel_rfl) (fun _ _ _ h => h) (Or.inl ⟨by rfl, fun w _ => by have e1 := page_eq HPL.out.1 HPL.out.2 w; rw [HDEC.out] at e1; go_simp⟩) hHeld ?_
          simp only [Act.put, List.setIfInBounds_toArray, List.set_cons_zero, List.set_cons_succ]
          refine wpAnyH_take (i := 15) (oi := ⟨some 40, .pick (.tmp 28) (.const (.bool true)) (.tmp 39), _, _, _, none⟩) (v := .bool true) rfl (by kernel_rfl) (by kernel_rfl) (by kernel_rfl) (fun _ _ _ h => h) (Or.inl ⟨by rfl, fun w _ => by go_simp⟩) hHeld ?_
          simp only [Act.put, List.setIfInBounds_toArray, List.set_cons_zero, List.set_cons_succ]
          refine wpAnyH_done (by kernel_rfl) ?_ _
          clear hHeld
          obtain ⟨wd, hwd⟩ : ∃ wd, wd = wr.drew := ⟨_, rfl⟩
          rw [← hwd] at bA bB lr hor hz ⊢
          clear hwd
          go_wp2_with (at_builtin; refine wpList_append_own _ rfl _ _ 44 rfl (w.heap.size + 2) 3 i0 (.int .i64 0) 1 8 Tryd.underlying44 hi hz0 hz1 hz2 rfl (by decide) _ _ _ rfl (hor.alloc _) ⟨wd.heap.size, 0, none⟩ 1 1 [.int .i64 _] rfl rfl (cell_one_new _ _ _) (one_int _ _) (by unfold maxLen; omega) (by omega) (by simp; omega) ?_; intro v' w4 hown' hgrow _)
          all_goals
            have hb2 : Below (w.heap.size + 2) (wd.alloc (.cells #[.int .i64 (k : Int)] 3)) w4 := (Below.refl _ _).grown hgrow (by simp; omega) (fun j hj => (hor.lt j hj).1)
            have hb1 : Later w w4 := (lr.alloc (by omega) _).grown hgrow (by simp; omega) (fun j hj => by have := (hor.lt j hj).1; omega)
            have ho2 := ni_app (x := k) hown'
            rw [← HDT.out] at ho2
            replace bA := (bA.alloc (.cells #[.int .i64 (k : Int)] 3)).later hb2 (by omega)
            replace bB := (bB.alloc (.cells #[.int .i64 (k : Int)] 3)).later hb2 (by omega)
            have hz4 : w.heap.size + 2 ≤ w4.heap.size := Nat.le_trans (by simp; omega) hb2.size
            clear hown' hgrow hor hb2
            go_wp2
            go_roundw
            case rel => exact ⟨k + 1, by omega, by go_num, ho2, hz4, bA, bB, hb1⟩
            case measure => simp [intOf]; omega
    · obtain rfl : k = M := by omega
      have nkk : ¬ (k : Int) < (k : Int) := by omega
      rw [show Mm.diffTo a b na nb k = Mm.diff a b na nb by rw [HM.out]; rfl] at hor
      obtain ⟨A', c', rfl, o1, o2, o3, _⟩ := own_form hor
      clear hor
      go_wp2
      go_ret
      exact ⟨A', c', rfl, o1, o2, o3, lr⟩
end Go.Proofs.YtjfphjgmphlbhaaDoor
