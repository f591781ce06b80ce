/-
  THE WALKS OF Read, draft.write.
-/
import Derived.Test.YtempcbdlaoblhabMemH
namespace Go.Proofs.Ytempcbdlaoblhab
open Go.RowKit Go.ChangeShapes Go.WideShapes Go.ChangeAt

/-- copy into a block that is known whole, its number named. -/
theorem wp_copy_rowq {P : Program} {o : Oper} {a : Act} {w : World} {K : Act → World → Prop} {Q : Exit → Act → World → Prop} (d s : Operand) {dT sT elem : TypeId}
    (ho : o.op = .call { callee := .builtin .copy, args := #[d, s], argTypes := #[dT, sT] }) (hu : P.underlying dT = some (.slice elem)) (hsz : (P.info? elem).map (·.size) = some 1)
    (B off dLen dCap : Nat) (hd : a.eval d = .slice (some ⟨B, off, none⟩) dLen dCap) (ad : Addr) (sLen sCap : Nat) (hs : a.eval s = .slice (some ad) sLen sCap)
    (cs : List Value) (q : Nat) (hq : cs.length = q) (hn : q = Nat.min sLen dLen) (hsrc : ∀ j v, cs[j]? = some v → w.cell? (ad.add j) = some v) (t : TypeId) (old : List Value) (hB : Blk w B t old) (hfit : off + q ≤ old.length) (h1 : ∀ v ∈ cs, v.oneCell' = true)
    (h : ∀ w', Blk w' B t (old.take off ++ cs ++ old.drop (off + cs.length)) → Only B w w' → K (a.put o.dst (.int .i64 (q : Int))) w') : o.wp P a w K Q := by
  subst hq
  exact wp_copy_row d s ho hu hsz B off dLen dCap hd ad sLen sCap hs cs hn hsrc t old hB hfit h1 h
theorem ofS_extract (s : ByteArray) (k : Nat) : Wm.ofS (s.extract k s.size) = (Wm.ofS s).drop k := by
  unfold Wm.ofS
  rw [ByteArray.data_extract, Array.toList_extract]
  simp
  rw [List.take_of_length_le (by simp)]
theorem run_copy_str {P : Program} (w : World) (dT sT ty elem : TypeId) (b o dLen dCap : Nat) (t : ByteArray) (cs : Wm.Bs)
    (hu : P.underlying dT = some (.slice elem)) (hs : (P.info? elem).map (·.size) = some 1) (hcs : cs = (Wm.ofS t).take (Nat.min t.size dLen))
    (hc : ∀ j, j < cs.length → (w.cell? ⟨b, o + j, none⟩).isSome = true) (hf : ∀ j, j < cs.length → w.frozen? ⟨b, o + j, none⟩ = false) :
    (Builtin.copy_ #[dT, sT] ty #[.slice (some ⟨b, o, none⟩) dLen dCap, .string t]).run P w = .ok (goInt (Nat.min t.size dLen)) (w.setCells b o (U cs)) := by
  have hst := run_storeCells_cells (P := P) b o (U cs) 0 w (by simpa [U_length] using hc) (by simpa [U_length] using hf) (U_one cs)
  have hfc : (Builtin.firstCells 1 (Nat.min t.size dLen) (.string t)).run P w = .ok (U cs).toArray w := by
    show Sem.run P (pure ((t.extract 0 (Nat.min t.size dLen)).data.map fun b => Value.int .u8 (b.toNat : Int))) w = _
    rw [Sem.run_pure]
    congr 1
    apply Array.ext'
    rw [hcs]
    unfold U Wm.ofS
    rw [ByteArray.data_extract, Array.toList_map, Array.toList_extract, ← List.map_take, List.map_map]
    simp
    rfl
  cases hq : P.info? elem with
  | none => simp [hq] at hs
  | some i =>
    have hi : i.size = 1 := by simpa [hq] using hs
    simp [Builtin.copy_, run_underlying hu, Builtin.lenOf, sizeOf, typeInfo, hq, hi, hfc, hst]
theorem wp_copy_str {P : Program} {o : Oper} {a : Act} {w : World} {K : Act → World → Prop} {Q : Exit → Act → World → Prop} (d s : Operand) {dT sT elem : TypeId}
    (ho : o.op = .call { callee := .builtin .copy, args := #[d, s], argTypes := #[dT, sT] }) (hu : P.underlying dT = some (.slice elem)) (hsz : (P.info? elem).map (·.size) = some 1)
    (B off dLen dCap : Nat) (hd : a.eval d = .slice (some ⟨B, off, none⟩) dLen dCap) (str : ByteArray) (hs : a.eval s = .string str)
    (cs : Wm.Bs) (q : Nat) (hq : cs = (Wm.ofS str).take q ∧ cs.length = q) (hn : q = Nat.min str.size dLen) (t : TypeId) (old : List Value) (hB : Blk w B t old) (hfit : off + q ≤ old.length)
    (h : ∀ w', Blk w' B t (old.take off ++ U cs ++ old.drop (off + (U cs).length)) → Only B w w' → K (a.put o.dst (.int .i64 (q : Int))) w') : o.wp P a w K Q := by
  have hrun := run_copy_str (P := P) w dT sT o.type elem B off dLen dCap str cs hu hsz (by rw [← hn]; exact hq.1) (fun j hj => hB.there1 (by omega)) (fun j _ => hB.frz _)
  rw [← hn] at hrun
  unfold Oper.wp execOp
  simp only [ho, resolve, invoke, builtin, Sem.run_bind, Sem.run_pure, Result.andThen_ok, List.map_toArray, List.map_cons, List.map_nil, hd, hs, hrun]
  exact h _ (hB.sets off (U cs) (by rw [U_length]; omega)) (Only.sets _ _ _ _)
theorem U_put (m : Wm.Bs) (o : Nat) (d : Wm.Bs) : (U m).take o ++ U d ++ (U m).drop (o + (U d).length) = U (Mm.put m o d) := by
  unfold Mm.put
  rw [U_append, U_append, U_length]
  unfold U
  rw [List.map_take, List.map_drop]
theorem take_more (X : Wm.Bs) (k q : Nat) : X.take k ++ (X.drop k).take q = X.take (k + q) := by rw [List.take_add]
theorem put_more {m X : Wm.Bs} {o k q : Nat} (hq : ((X.drop k).take q).length = q) (hk : k ≤ X.length) (h : o + (k + q) ≤ m.length) : Mm.put (Mm.put m o (X.take k)) (o + k) ((X.drop k).take q) = Mm.put m o (X.take (k + q)) := by
  have hl : (X.take k).length = k := by rw [List.length_take]; omega
  have := Mm.put_app m o (X.take k) ((X.drop k).take q) (by rw [hl, hq]; exact h)
  rw [hl, take_more] at this
  exact this
theorem put_whole {m X : Wm.Bs} (h : X.length = m.length) : Mm.put m 0 X = X := by
  unfold Mm.put
  rw [List.take_zero, List.nil_append, Nat.zero_add, h, List.drop_length, List.append_nil]
theorem make_bytes (r : Nat) : madeCells (Value.int .u8 0).cells (r * 1) = (U (List.replicate r 0)).toArray := by
  apply Array.ext'
  apply List.ext_getElem?
  intro i
  unfold U
  rw [List.map_replicate]
  show (madeCells #[Value.int .u8 0] (r * 1)).toList[i]? = _
  unfold madeCells
  rw [Nat.mul_one]
  rcases Nat.lt_or_ge i r with h | h
  · simp [h, Nat.mod_one]
  · rw [List.getElem?_eq_none (by simpa using h), List.getElem?_eq_none (by simpa using h)]
theorem u8_info : (Try.prog.info? 5).map (fun i => (i.zero, i.size, i.bytes)) = some (some (.int .u8 0), 1, 1) := by kernel_rfl

theorem U_put_junk {m : Wm.Bs} {o : Nat} {d : Wm.Bs} {junk : List Value} (h : o + d.length ≤ m.length) : (U m ++ junk).take o ++ U d ++ (U m ++ junk).drop (o + (U d).length) = U (Mm.put m o d) ++ junk := by
  rw [List.take_append_of_le_length (by rw [U_length]; omega), List.drop_append_of_le_length (by rw [U_length, U_length]; omega), ← U_put, List.append_assoc, List.append_assoc, List.append_assoc]
end Go.Proofs.Ytempcbdlaoblhab
