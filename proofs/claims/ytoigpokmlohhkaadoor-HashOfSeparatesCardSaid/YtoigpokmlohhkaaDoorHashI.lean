/-
  STREAMS: what a stream's cells say of its message; laws for copy into a block.
-/
import Derived.Test.YtoigpokmlohhkaaDoorHashH
namespace Go.Proofs.YtoigpokmlohhkaaDoor
open Go.RowKit

/-- A copy out of a slice, into a block that is known whole. -/
theorem wpList_copy_blk {P : Program} {w : World} {ops : Array Oper} {rest : List Oper} {o : Oper} {a : Act} {Q : Exit → Act → World → Prop} (hgd : o.guard = none) (d s : Operand) (dT sT : TypeId)
    (ho : o.op = .call { callee := .builtin .copy, args := #[d, s], argTypes := #[dT, sT] }) (elem : TypeId) (hu : P.underlying dT = some (.slice elem)) (hsz : (P.info? elem).map (·.size) = some 1)
    (g off dLen dCap : Nat) (A : Option Addr) (sLen sCap : Nat) (t : TypeId) (old : List Value) (b cs : Wm.Bs) (k : Nat) (hd : a.eval d = .slice (some ⟨g, off, none⟩) dLen dCap) (hs : a.eval s = .slice A sLen sCap)
    (hg : Blk w g t old) (hsl : Sl w 1 A sLen (U b)) (hcs : cs = b.take dLen) (hpos : 0 < sLen) (hk : k = cs.length) (hfit : off + k ≤ old.length)
    (h : ∀ w', Blk w' g t (old.take off ++ U cs ++ old.drop (off + k)) → Only g w w' → wpList P ops Q rest (a.put o.dst (.int .i64 k)) w') : wpList P ops Q (o :: rest) a w := by
  subst hk
  obtain ⟨ad, rfl, _, hc⟩ := hsl.2 hpos
  have hbl := hsl.blen
  have hlen : (U cs).length = Nat.min sLen dLen := by rw [U_length, hcs, List.length_take, hbl]; exact Nat.min_comm _ _
  refine wpList_plain hgd fun K hK => ?_
  have hrun := run_copy_row (P := P) w dT sT o.type elem g off dLen dCap ad sLen sCap old.toArray t (U cs) hu hsz hg hlen (fun j v hv => hc j v (by
      rw [hcs] at hv
      unfold U at *
      rw [List.getElem?_map, List.getElem?_take] at hv
      rw [List.getElem?_map]
      split at hv
      · exact hv
      · cases hv)) (by rw [U_length]; simpa using hfit) (U_one cs)
  unfold Oper.wp
  simp [execOp, ho, resolve, invoke, builtin, hd, hs, hrun, Result.andThen]
  have hb := hg.row (old.take off ++ U cs ++ old.drop (off + cs.length))
  have h2 := h _ hb (Only.row _ _ _)
  rw [U_length]
  simp only [List.append_assoc] at h2
  exact hK _ _ h2

/-- A copy out of a string. -/
theorem wpList_copy_str {P : Program} {w : World} {ops : Array Oper} {rest : List Oper} {o : Oper} {a : Act} {Q : Exit → Act → World → Prop} (hgd : o.guard = none) (d s : Operand) (dT sT : TypeId)
    (ho : o.op = .call { callee := .builtin .copy, args := #[d, s], argTypes := #[dT, sT] }) (elem : TypeId) (hu : P.underlying dT = some (.slice elem)) (hsz : (P.info? elem).map (·.size) = some 1)
    (g off dLen dCap : Nat) (st : ByteArray) (t : TypeId) (old : List Value) (cs : Wm.Bs) (k : Nat) (hd : a.eval d = .slice (some ⟨g, off, none⟩) dLen dCap) (hs : a.eval s = .string st)
    (hg : Blk w g t old) (hcs : cs = (sb st).take dLen) (hk : k = cs.length) (hfit : off + k ≤ old.length)
    (h : ∀ w', Blk w' g t (old.take off ++ U cs ++ old.drop (off + k)) → Only g w w' → wpList P ops Q rest (a.put o.dst (.int .i64 k)) w') : wpList P ops Q (o :: rest) a w := by
  subst hk
  refine wpList_plain hgd fun K hK => ?_
  have hst := run_storeCells_at P g off t (U cs) 0 old.toArray w hg (by rw [U_length]; simpa using hfit) (U_one cs)
  have hmin : Nat.min st.size dLen = cs.length := by rw [hcs, List.length_take, sb_len]; exact Nat.min_comm _ _
  have hex : List.take cs.length (List.map (fun b => Value.int IntKind.u8 (b.toNat : Int)) st.data.toList) = U cs := by
    unfold U
    rw [← List.map_take]
    have e : cs = (sb st).take cs.length := by
      rw [← hmin]
      conv => lhs; rw [hcs]
      show _ = List.take (min st.size dLen) (sb st)
      rw [← sb_len st, List.take_eq_take_iff]
      omega
    conv => rhs; rw [e]
    unfold sb
    rw [← List.map_take, List.map_map]
    rfl
  have hrun : (Builtin.copy_ #[dT, sT] o.type #[.slice (some ⟨g, off, none⟩) dLen dCap, .string st]).run P w = .ok (goInt cs.length) (w.setRow g (old.take off ++ U cs ++ old.drop (off + cs.length)).toArray) := by
    cases hq : P.info? elem with
    | none => simp [hq] at hsz
    | some i =>
      rw [U_length] at hst
      simp only [Nat.add_zero, List.append_assoc] at hst
      simp [Builtin.copy_, run_underlying hu, Builtin.lenOf, Builtin.firstCells, sizeOf, typeInfo, hq, hmin, hex, hst]
  unfold Oper.wp
  simp [execOp, ho, resolve, invoke, builtin, hd, hs, hrun, Result.andThen]
  have h2 := h _ (hg.row _) (Only.row _ _ _)
  simp only [List.append_assoc] at h2
  exact hK _ _ h2

/-- The cells of a stream. -/
def strC (n : Nat) (v : Hs.St) (blk : Wm.Bs) : List Value := .int .i64 n :: (StV v ++ U blk)
theorem strC_len (n : Nat) (v : Hs.St) (blk : Wm.Bs) (h : blk.length = 64) : (strC n v blk).length = 73 := by
  unfold strC; rw [List.length_cons, List.length_append, StV_len, U_length, h]
theorem strC_one (n : Nat) (v : Hs.St) (blk : Wm.Bs) : ∀ u ∈ strC n v blk, u.oneCell' = true := by
  intro u hu
  rcases List.mem_cons.1 hu with rfl | hu
  · rfl
  · rcases List.mem_append.1 hu with hu | hu
    · exact StV_one v u hu
    · exact U_one blk u hu
theorem strC_set (n k : Nat) (v : Hs.St) (blk : Wm.Bs) : (strC n v blk).set 0 (.int .i64 ((n : Int) + (k : Int))) = strC (n + k) v blk := by
  rw [← Int.natCast_add]; rfl
theorem strC_val (n : Nat) (v : Hs.St) (blk : Wm.Bs) : ((strC n v blk).drop 1).take 8 = StV v := by
  unfold strC; rw [List.drop_succ_cons, List.drop_zero, List.take_left' (StV_len v)]
theorem strC_blk (n : Nat) (v : Hs.St) (blk : Wm.Bs) (h : blk.length = 64) : ((strC n v blk).drop 9).take 64 = U blk := by
  unfold strC
  rw [List.drop_succ_cons, List.drop_left' (StV_len v), List.take_of_length_le (by rw [U_length, h]; exact Nat.le_refl _)]
theorem strC_put (n : Nat) (v v' : Hs.St) (blk : Wm.Bs) : (strC n v blk).take 1 ++ StV v' ++ (strC n v blk).drop (1 + (StV v').length) = strC n v' blk := by
  rw [StV_len]; unfold strC
  rw [show 1 + 8 = 8 + 1 from rfl, List.drop_succ_cons, List.drop_left' (StV_len v)]
  rfl
theorem strC_copy (n : Nat) (v : Hs.St) (blk x : Wm.Bs) (at_ : Nat) :
    (strC n v blk).take (9 + at_) ++ U x ++ (strC n v blk).drop (9 + at_ + x.length) = strC n v (blk.take at_ ++ x ++ blk.drop (at_ + x.length)) := by
  unfold strC
  have e1 : 9 + at_ = (8 + at_) + 1 := by omega
  have e2 : 9 + at_ + x.length = (8 + (at_ + x.length)) + 1 := by omega
  rw [e2, e1, List.take_succ_cons, List.drop_succ_cons]
  have e3 : (StV v ++ U blk).take (8 + at_) = StV v ++ U (blk.take at_) := by
    rw [List.take_append, StV_len, List.take_of_length_le (by rw [StV_len]; omega)]
    simp [U, List.map_take]
  have e4 : (StV v ++ U blk).drop (8 + (at_ + x.length)) = U (blk.drop (at_ + x.length)) := by
    rw [List.drop_append, StV_len, List.drop_eq_nil_of_le (by rw [StV_len]; omega)]
    simp [U, List.map_drop]
  rw [e3, e4, U_append, U_append]
  simp
/-- A stream's cells, for the message m. -/
def StrOf (m : List Hs.By) (cs : List Value) : Prop := ∃ blk : Wm.Bs, Wm.isBs blk ∧ blk.length = 64 ∧ blk.take (m.length % 64) = iv8 (Hs.rest m) ∧ cs = strC m.length (Hs.whole m) blk
theorem StrOf.len {m : List Hs.By} {cs : List Value} (h : StrOf m cs) : cs.length = 73 := by
  obtain ⟨blk, _, hl, _, rfl⟩ := h
  exact strC_len _ _ _ hl
theorem StrOf.one {m : List Hs.By} {cs : List Value} (h : StrOf m cs) : ∀ u ∈ cs, u.oneCell' = true := by
  obtain ⟨blk, _, _, _, rfl⟩ := h
  exact strC_one _ _ _
theorem bs_take {b : Wm.Bs} (h : Wm.isBs b) (k : Nat) : Wm.isBs (b.take k) := fun x hx => h x (List.mem_of_mem_take hx)
theorem bs_drop {b : Wm.Bs} (h : Wm.isBs b) (k : Nat) : Wm.isBs (b.drop k) := fun x hx => h x (List.mem_of_mem_drop hx)
theorem bs_app {a b : Wm.Bs} (ha : Wm.isBs a) (hb : Wm.isBs b) : Wm.isBs (a ++ b) := fun x hx => by
  rcases List.mem_append.1 hx with h | h
  · exact ha x h
  · exact hb x h
theorem iv8_bv {b : Wm.Bs} (h : Wm.isBs b) : iv8 (bv b) = b := by
  unfold iv8 bv
  rw [List.map_map]
  conv => rhs; rw [← List.map_id b]
  refine List.map_congr_left fun x hx => ?_
  exact q8_ob (h x hx)
theorem iv8_append (a b : List Hs.By) : iv8 (a ++ b) = iv8 a ++ iv8 b := List.map_append
/-- The block behind a copy. -/
def laidOn (blk x : Wm.Bs) (k : Nat) : Wm.Bs := blk.take k ++ x ++ blk.drop (k + x.length)
theorem laidOn_len {blk x : Wm.Bs} {k : Nat} (h : k + x.length ≤ blk.length) : (laidOn blk x k).length = blk.length := by
  unfold laidOn; simp; omega
theorem laidOn_bs {blk x : Wm.Bs} {k : Nat} (h : Wm.isBs blk) (hx : Wm.isBs x) : Wm.isBs (laidOn blk x k) := bs_app (bs_app (bs_take h _) hx) (bs_drop h _)
/-- Bytes that stay within the block. -/
theorem str_within {m : List Hs.By} {blk x : Wm.Bs} (h1 : Wm.isBs blk) (h2 : blk.length = 64) (h3 : blk.take (m.length % 64) = iv8 (Hs.rest m)) (hx : Wm.isBs x) (h : m.length % 64 + x.length < 64) :
    StrOf (m ++ bv x) (strC (m.length + x.length) (Hs.whole m) (laidOn blk x (m.length % 64))) := by
  obtain ⟨e1, e2⟩ := Hs.rest_within m (bv x) (by rw [bv_len]; exact h)
  refine ⟨laidOn blk x (m.length % 64), laidOn_bs h1 hx, (laidOn_len (by omega)).trans h2, ?_, ?_⟩
  · rw [e2, iv8_append, iv8_bv hx, ← h3, List.length_append, bv_len]
    have : (m.length + x.length) % 64 = m.length % 64 + x.length := by omega
    rw [this]
    unfold laidOn
    rw [List.take_append_of_le_length (by simp; omega), List.take_of_length_le (by simp; omega)]
  · rw [e1, List.length_append, bv_len]
/-- Bytes that make it full. -/
theorem str_full {m : List Hs.By} {blk x : Wm.Bs} (h1 : Wm.isBs blk) (h2 : blk.length = 64) (h3 : blk.take (m.length % 64) = iv8 (Hs.rest m)) (hx : Wm.isBs x) (h : m.length % 64 + x.length = 64) :
    StrOf (m ++ bv x) (strC (m.length + x.length) (Hs.compress (Hs.whole m) (bv (laidOn blk x (m.length % 64)))) (laidOn blk x (m.length % 64))) := by
  obtain ⟨e1, e2⟩ := Hs.rest_full m (bv x) (by rw [bv_len]; exact h)
  have hb : bv (laidOn blk x (m.length % 64)) = Hs.rest m ++ bv x := by
    unfold laidOn
    rw [h3, List.drop_eq_nil_of_le (by omega), List.append_nil, bv_append, bv_iv8]
  refine ⟨laidOn blk x (m.length % 64), laidOn_bs h1 hx, (laidOn_len (by omega)).trans h2, ?_, ?_⟩
  · rw [e2, List.length_append, bv_len, show (m.length + x.length) % 64 = 0 by omega]
    rfl
  · rw [e1, hb, List.length_append, bv_len]
end Go.Proofs.YtoigpokmlohhkaaDoor
