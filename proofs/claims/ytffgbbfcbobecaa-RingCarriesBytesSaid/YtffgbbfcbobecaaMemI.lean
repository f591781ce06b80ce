/-
  THE WALKS OF Read, draft.write.
-/
import Derived.Test.YtffgbbfcbobecaaMemH
namespace Go.Proofs.Ytffgbbfcbobecaa
open Go.RowKit Go.ChangeShapes Go.WideShapes Go.ChangeAt

/-- copy into a block that is known whole, its number named. -/
theorem wp_copy_rowq {P : Program} {o : Oper} {a : Act} {w : World} {K : Act → World → Prop} {Q : Exit → Act → World → Prop} (d s : Operand) {dT sT elem : TypeId}
    (ho : o.op = .call { callee := .builtin .copy, args := #[d, s], argTypes := #[dT, sT] }) (hu : P.underlying dT = some (.slice elem)) (hsz : (P.info? elem).map (·.size) = some 1)
    (B off dLen dCap : Nat) (hd : a.eval d = .slice (some ⟨B, off, none⟩) dLen dCap) (ad : Addr) (sLen sCap : Nat) (hs : a.eval s = .slice (some ad) sLen sCap)
    (cs : List Value) (q : Nat) (hq : cs.length = q) (hn : q = Nat.min sLen dLen) (hsrc : ∀ j v, cs[j]? = some v → w.cell? (ad.add j) = some v) (t : TypeId) (old : List Value) (hB : Blk w B t old) (hfit : off + q ≤ old.length) (h1 : ∀ v ∈ cs, v.oneCell' = true)
    (h : ∀ w', Blk w' B t (old.take off ++ cs ++ old.drop (off + cs.length)) → Only B w w' → K (a.put o.dst (.int .i64 (q : Int))) w') : o.wp P a w K Q := by
  subst hq
  exact wp_copy_row d s ho hu hsz B off dLen dCap hd ad sLen sCap hs cs hn hsrc t old hB hfit h1 h
theorem ofS_extract (s : ByteArray) (k : Nat) : Wm.ofS (s.extract k s.size) = (Wm.ofS s).drop k := by
  unfold Wm.ofS
  rw [ByteArray.data_extract, Array.toList_extract]
  simp
  rw [List.take_of_length_le (by simp)]
theorem run_copy_str {P : Program} (w : World) (dT sT ty elem : TypeId) (b o dLen dCap : Nat) (t : ByteArray) (cs : Wm.Bs)
    (hu : P.underlying dT = some (.slice elem)) (hs : (P.info? elem).map (·.size) = some 1) (hcs : cs = (Wm.ofS t).take (Nat.min t.size dLen))
    (hc : ∀ j, j < cs.length → (w.cell? ⟨b, o + j, none⟩).isSome = true) (hf : ∀ j, j < cs.length → w.frozen? ⟨b, o + j, none⟩ = false) :
    (Builtin.copy_ #[dT, sT] ty #[.slice (some ⟨b, o, none⟩) dLen dCap, .string t]).run P w = .ok (goInt (Nat.min t.size dLen)) (w.setCells b o (U cs)) := by
  have hst := run_storeCells_cells (P := P) b o (U cs) 0 w (by simpa [U_length] using hc) (by simpa [U_length] using hf) (U_one cs)
  have hfc : (Builtin.firstCells 1 (Nat.min t.size dLen) (.string t)).run P w = .ok (U cs).toArray w := by
    show Sem.run P (pure ((t.extract 0 (Nat.min t.size dLen)).data.map fun b => Value.int .u8 (b.toNat : Int))) w = _
    rw [Sem.run_pure]
    congr 1
    apply Array.ext'
    rw [hcs]
    unfold U Wm.ofS
    rw [ByteArray.data_extract, Array.toList_map, Array.toList_extract, ← List.map_take, List.map_map]
    simp
    rfl
  cases hq : P.info? elem with
  | none => simp [hq] at hs
  | some i =>
    have hi : i.size = 1 := by simpa [hq] using hs
    simp [Builtin.copy_, run_underlying hu, Builtin.lenOf, sizeOf, typeInfo, hq, hi, hfc, hst]
theorem wp_copy_str {P : Program} {o : Oper} {a : Act} {w : World} {K : Act → World → Prop} {Q : Exit → Act → World → Prop} (d s : Operand) {dT sT elem : TypeId}
    (ho : o.op = .call { callee := .builtin .copy, args := #[d, s], argTypes := #[dT, sT] }) (hu : P.underlying dT = some (.slice elem)) (hsz : (P.info? elem).map (·.size) = some 1)
    (B off dLen dCap : Nat) (hd : a.eval d = .slice (some ⟨B, off, none⟩) dLen dCap) (str : ByteArray) (hs : a.eval s = .string str)
    (cs : Wm.Bs) (q : Nat) (hq : cs = (Wm.ofS str).take q ∧ cs.length = q) (hn : q = Nat.min str.size dLen) (t : TypeId) (old : List Value) (hB : Blk w B t old) (hfit : off + q ≤ old.length)
    (h : ∀ w', Blk w' B t (old.take off ++ U cs ++ old.drop (off + (U cs).length)) → Only B w w' → K (a.put o.dst (.int .i64 (q : Int))) w') : o.wp P a w K Q := by
  have hrun := run_copy_str (P := P) w dT sT o.type elem B off dLen dCap str cs hu hsz (by rw [← hn]; exact hq.1) (fun j hj => hB.there1 (by omega)) (fun j _ => hB.frz _)
  rw [← hn] at hrun
  unfold Oper.wp execOp
  simp only [ho, resolve, invoke, builtin, Sem.run_bind, Sem.run_pure, Result.andThen_ok, List.map_toArray, List.map_cons, List.map_nil, hd, hs, hrun]
  exact h _ (hB.sets off (U cs) (by rw [U_length]; omega)) (Only.sets _ _ _ _)
theorem U_put (m : Wm.Bs) (o : Nat) (d : Wm.Bs) : (U m).take o ++ U d ++ (U m).drop (o + (U d).length) = U (Mm.put m o d) := by
  unfold Mm.put
  rw [U_append, U_append, U_length]
  unfold U
  rw [List.map_take, List.map_drop]
theorem take_more (X : Wm.Bs) (k q : Nat) : X.take k ++ (X.drop k).take q = X.take (k + q) := by rw [List.take_add]
theorem put_more {m X : Wm.Bs} {o k q : Nat} (hq : ((X.drop k).take q).length = q) (hk : k ≤ X.length) (h : o + (k + q) ≤ m.length) : Mm.put (Mm.put m o (X.take k)) (o + k) ((X.drop k).take q) = Mm.put m o (X.take (k + q)) := by
  have hl : (X.take k).length = k := by rw [List.length_take]; omega
  have := Mm.put_app m o (X.take k) ((X.drop k).take q) (by rw [hl, hq]; exact h)
  rw [hl, take_more] at this
  exact this
theorem put_whole {m X : Wm.Bs} (h : X.length = m.length) : Mm.put m 0 X = X := by
  unfold Mm.put
  rw [List.take_zero, List.nil_append, Nat.zero_add, h, List.drop_length, List.append_nil]
theorem make_bytes (r : Nat) : madeCells (Value.int .u8 0).cells (r * 1) = (U (List.replicate r 0)).toArray := by
  apply Array.ext'
  apply List.ext_getElem?
  intro i
  unfold U
  rw [List.map_replicate]
  show (madeCells #[Value.int .u8 0] (r * 1)).toList[i]? = _
  unfold madeCells
  rw [Nat.mul_one]
  rcases Nat.lt_or_ge i r with h | h
  · simp [h, Nat.mod_one]
  · rw [List.getElem?_eq_none (by simpa using h), List.getElem?_eq_none (by simpa using h)]
theorem u8_info : (Try.prog.info? 5).map (fun i => (i.zero, i.size, i.bytes)) = some (some (.int .u8 0), 1, 1) := by kernel_rfl

theorem read_none (A : Option Addr) (n c : Nat) (a r : Int) (w : World) (hn : n ≤ 64) (ha : -9223372036854775808 ≤ a ∧ a ≤ 9223372036854775807) (h : ¬ Mm.Inside (n * 128) a r) :
    Calls Try.prog 37 #[.agg #[.slice A n c], .int .i64 a, .int .i64 r] w fun e w' => e = .returned (.tuple #[.string ⟨#[]⟩, .bool false]) ∧ Later w w' := by
  have HT := Lib.hid fun w' => inside_any A n c a r w' hn ha
  rw [decide_eq_false h] at HT
  clear h
  go_enter Try.func37, Try.ntmps37
  go_wp2_with (first
    | (go_at_call 60; refine (HT.out _).mono ?_; rintro e w1 ⟨rfl, l1⟩))
  go_ret2
  exact ⟨rfl, Later.trans_ (later1 _ _) l1⟩
set_option maxRecDepth 100000 in
set_option maxHeartbeats 2000000 in
theorem read_in (ad : Addr) (n c a r : Nat) (b : Wm.Bs) (w : World) (hs : Sl w 128 (some ad) n (U b)) (hn : n ≤ 64) (h : Mm.Inside (n * 128) (a : Int) (r : Int)) :
    Calls Try.prog 37 #[.agg #[.slice (some ad) n c], .int .i64 (a : Int), .int .i64 (r : Int)] w fun e w' => e = .returned (.tuple #[.string (strOfNums ((b.drop a).take r)), .bool true]) ∧ Later w w' := by
  obtain ⟨i0, hi, hz0, hz1, hz2⟩ := info_parts u8_info
  have HT := Lib.hid fun w' => inside_any (some ad) n c (a : Int) (r : Int) w' hn ⟨by omega, by have := h.2.2; omega⟩
  rw [decide_eq_true h] at HT
  obtain ⟨h1, h2, h3⟩ := h
  have har : a + r ≤ n * 128 := by omega
  have hbl : b.length = n * 128 := by have := hs.1; rwa [U_length] at this
  obtain ⟨X, hX⟩ : ∃ X, X = (b.drop a).take r := ⟨_, rfl⟩
  have hXl : X.length = r := by rw [hX, List.length_take, List.length_drop]; omega
  have HF := Lib.hid fun (k : Nat) (hk : k < r) w' => from_any ad n c (a + k) w' hn (by omega)
  have HC := Lib.hid fun (k q : Nat) (hq : 0 < q) (hkq : k + q ≤ r) w' (hl : Later w w') => (hs.keep hl).part (o := a + k) (k := q) hq (by omega)
  have hXd : ∀ k q, k + q ≤ r → (b.drop (a + k)).take q = (X.drop k).take q := fun k q hkq => by
    rw [hX, List.drop_take, List.drop_drop, List.take_take, Nat.min_eq_left (by omega)]
  have HXD := Lib.hid hXd
  rw [← hX]
  have HX := Lib.hid hXl
  have hmk := fun w' => run_makeSlice (P := Try.prog) w' 94 5 i0 _ Try.underlying94 hi hz0 .i64 .i64 (r : Int) (r : Int) (by omega) (by omega) (by rw [hz1]; omega) (by rw [hz2]; omega) (by omega)
  rw [hz1, Int.toNat_natCast, make_bytes r] at hmk
  obtain ⟨Z, hZ⟩ : ∃ Z, Z = (U (List.replicate r 0)).toArray := ⟨_, rfl⟩
  rw [← hZ] at hmk
  have HZ := Lib.hid hZ
  have hr8 : a + r ≤ 8192 := by omega
  clear hX hXl hXd hZ h1 h2 h3 hbl hs har
  go_enter Try.func37, Try.ntmps37
  go_wp2_with (first
    | (go_at_call 60; refine (HT.out _).mono ?_; rintro e w1 ⟨rfl, l1⟩; have bP := (Blk.new w 24 #[.slice (some ad) n c] _ rfl).keep l1; have l2 := Later.trans_ (later1 _ _) l1; have b8 := Blk.new w1 5 Z (U (List.replicate r 0)) HZ.out))
  have hlt : w.heap.size < w1.heap.size := bP.lt
  have H8 := Lib.hid l2.size
  have l3 : Later w (w1.alloc (.cells Z 5)) := l2.alloc l2.size _
  replace bP := bP.alloc (.cells Z 5)
  obtain ⟨B8, hB8⟩ : ∃ B8, B8 = w1.heap.size := ⟨_, rfl⟩
  rw [← hB8] at b8 H8 hlt ⊢
  clear hB8 l1 l2
  go_loopw [9] (fun i wr => ∃ k : Nat, k ≤ r ∧ i = .int .i64 (k : Int) ∧ Blk wr B8 5 (U (Mm.put (List.replicate r 0) 0 (X.take k))) ∧ Blk wr w.heap.size 24 [.slice (some ad) n c] ∧ Later w wr) (fun i _ => r - (intOf i).toNat)
  case atStart => exact ⟨0, Nat.zero_le _, rfl, by rw [List.take_zero, Mm.put_nil]; exact b8, bP, l3⟩
  case round =>
    clear b8 bP l3
    rename_i wr
    obtain ⟨k, hk, rfl, b8, bP, lr⟩ := hrel
    by_cases hkr : k < r
    · obtain ⟨q, hq⟩ : ∃ q, q = Nat.min (128 - (a + k) % 128) (r - k) := ⟨_, rfl⟩
      have hqa : q ≤ 128 - (a + k) % 128 := by rw [hq]; exact Nat.min_le_left _ _
      have hqb : q ≤ r - k := by rw [hq]; exact Nat.min_le_right _ _
      have hq0 : 0 < q := by rw [hq]; exact Nat.lt_min.2 ⟨by omega, by omega⟩
      have hqk : k + q ≤ r := by omega
      have HCk := Lib.hid fun w' (hl : Later w w') => HC.out k q hq0 hqk w' hl
      have HFk := Lib.hid (HF.out k hkr)
      rw [Int.natCast_add] at HFk
      obtain ⟨ch, hch⟩ : ∃ ch, ch = (X.drop k).take q := ⟨_, rfl⟩
      have hchl : ch.length = q := by rw [hch, List.length_take, List.length_drop, HX.out]; omega
      rw [HXD.out k q hqk, ← hch] at HCk
      have HK := Lib.hid (show (U ch).length = q ∧ q = Nat.min (128 - (a + k) % 128) (r - k) ∧ k + q ≤ (U (Mm.put (List.replicate r 0) 0 (X.take k))).length ∧ Mm.put (Mm.put (List.replicate r 0) 0 (X.take k)) k ch = Mm.put (List.replicate r 0) 0 (X.take (k + q)) from
        ⟨by rw [U_length, hchl], hq, by rw [U_length, Mm.put_len (by rw [List.length_take, List.length_replicate, HX.out]; omega), List.length_replicate]; exact hqk, by
          have := put_more (m := List.replicate r 0) (X := X) (o := 0) (k := k) (q := q) (by rw [← hch]; exact hchl) (by rw [HX.out]; omega) (by rw [List.length_replicate]; omega)
          rw [Nat.zero_add, ← hch] at this
          exact this⟩)
      have kr : (k : Int) < (r : Int) := by omega
      have nrk : ¬ r = k := by omega
      have wak : IntKind.i64.wrap ((a : Int) + (k : Int)) = (a : Int) + (k : Int) := by rw [IntKind.wrap_i64]; omega
      have wkq : IntKind.i64.wrap ((k : Int) + (q : Int)) = (k : Int) + (q : Int) := by rw [IntKind.wrap_i64]; omega
      clear hch hchl hq hqa hqb
      go_wp2
      replace bP := bP.drew; replace b8 := b8.drew; replace lr := lr.drew
      refine wp_region_held_drew (S := fun w' => w'.rangeAt w.heap.size 0 [.slice (some ad) n c]) (by kernel_rfl) (blk_at bP) (fun hHeld => ?_)
      refine wpAnyH_take (i := 0) (oi := ⟨some 20, .move (.tmp 9), _, _, _, none⟩) (v := .int .i64 (k : Int)) rfl (by kernel_rfl) (by kernel_rfl) (by kernel_rfl) (fun _ _ _ h => h) (Or.inl ⟨by rfl, fun _ _ => rfl⟩) hHeld ?_
      simp only [Act.put, List.setIfInBounds_toArray, List.set_cons_zero, List.set_cons_succ]
      refine wpAnyH_take (i := 1) (oi := ⟨some 21, .move (.tmp 8), _, _, _, none⟩) (v := .slice (some ⟨B8, 0, none⟩) r r) rfl (by kernel_rfl) (by kernel_rfl) (by kernel_rfl) (fun _ _ _ h => h) (Or.inl ⟨by rfl, fun _ _ => rfl⟩) hHeld ?_
      simp only [Act.put, List.setIfInBounds_toArray, List.set_cons_zero, List.set_cons_succ]
      refine wpAnyH_take (i := 2) (oi := ⟨some 22, .move (.tmp 9), _, _, _, none⟩) (v := .int .i64 (k : Int)) rfl (by kernel_rfl) (by kernel_rfl) (by kernel_rfl) (fun _ _ _ h => h) (Or.inl ⟨by rfl, fun _ _ => rfl⟩) hHeld ?_
      simp only [Act.put, List.setIfInBounds_toArray, List.set_cons_zero, List.set_cons_succ]
      refine wpAnyH_take (i := 3) (oi := ⟨some 23, .slice 94 (.tmp 21) (some (.tmp 22)) none none, _, _, _, none⟩) (v := .slice (some ⟨B8, k, none⟩) (r - k) (r - k)) rfl (by kernel_rfl) (by kernel_rfl) (by kernel_rfl) (fun _ _ _ h => h) (Or.inl ⟨by rfl, fun w _ => by go_simp⟩) hHeld ?_
      simp only [Act.put, List.setIfInBounds_toArray, List.set_cons_zero, List.set_cons_succ]
      refine wpAnyH_take (i := 4) (oi := ⟨some 24, .load 24 (.tmp 3), _, _, _, none⟩) (v := .agg #[.slice (some ad) n c]) rfl (by kernel_rfl) (by kernel_rfl) (by kernel_rfl) (fun _ _ _ h => h) (yieldsIf_load_mid (by rfl) _ _ rfl _ _ rfl _ _ (fun w h => h) Try.underlying24 rfl mem_sz) hHeld ?_
      simp only [Act.put, List.setIfInBounds_toArray, List.set_cons_zero, List.set_cons_succ]
      refine wpAnyH_take (i := 5) (oi := ⟨some 25, .move (.tmp 1), _, _, _, none⟩) (v := .int .i64 (a : Int)) rfl (by kernel_rfl) (by kernel_rfl) (by kernel_rfl) (fun _ _ _ h => h) (Or.inl ⟨by rfl, fun _ _ => rfl⟩) hHeld ?_
      simp only [Act.put, List.setIfInBounds_toArray, List.set_cons_zero, List.set_cons_succ]
      refine wpAnyH_take (i := 6) (oi := ⟨some 26, .move (.tmp 9), _, _, _, none⟩) (v := .int .i64 (k : Int)) rfl (by kernel_rfl) (by kernel_rfl) (by kernel_rfl) (fun _ _ _ h => h) (Or.inl ⟨by rfl, fun _ _ => rfl⟩) hHeld ?_
      simp only [Act.put, List.setIfInBounds_toArray, List.set_cons_zero, List.set_cons_succ]
      refine wpAnyH_take (i := 7) (oi := ⟨some 27, .binOp .add 3 (.tmp 25) (.tmp 26) 3, _, _, _, none⟩) (v := .int .i64 ((a : Int) + (k : Int))) rfl (by kernel_rfl) (by kernel_rfl) (by kernel_rfl) (fun _ _ _ h => h) (Or.inl ⟨by rfl, fun w _ => by go_simp⟩) hHeld ?_
      simp only [Act.put, List.setIfInBounds_toArray, List.set_cons_zero, List.set_cons_succ]
      refine wpAnyH_ready (rs := [8]) (by kernel_rfl) (by simp) (AllReadyH.cons (o := ⟨some 28, .call { callee := .value (.func 61), args := #[.tmp 24, .tmp 27], argTypes := #[24, 3] }, _, _, _, none⟩) rfl (fun K' hK => ?_) (AllReadyH.nil))
      go_simp
      refine (HFk.out _).mono ?_
      rintro e w4 ⟨rfl, l4⟩
      replace bP := bP.keep l4
      replace b8 := b8.keep l4
      replace lr := Later.trans_ lr l4
      have hc4 := HCk.out _ lr
      refine hK.out _ _ (blk_at bP) (fun hHeld => ?_)
      clear hK K'
      try simp only [Act.put, List.setIfInBounds_toArray, List.set_cons_zero, List.set_cons_succ]
      refine wpAnyH_ready (rs := [9]) (by kernel_rfl) (by simp) (AllReadyH.cons (o := ⟨some 29, .call { callee := .builtin .copy, args := #[.tmp 23, .tmp 28], argTypes := #[94, 94] }, _, _, _, none⟩) rfl (fun K' hK => ?_) (AllReadyH.nil))
      refine wp_copy_rowq _ _ rfl Try.underlying94 u8_sz B8 k _ _ rfl (ad.add (a + k)) _ _ rfl (U ch) q HK.out.1 HK.out.2.1 hc4 5 (U (Mm.put (List.replicate r 0) 0 (X.take k))) b8 HK.out.2.2.1 (U_one _) ?_
      intro w5 b5 o5
      have l5 := Below.only lr o5 H8.out
      replace bP := bP.only o5 (by omega)
      refine hK.out _ _ (blk_at bP) (fun hHeld => ?_)
      clear hK K'
      try simp only [Act.put, List.setIfInBounds_toArray, List.set_cons_zero, List.set_cons_succ]
      refine wpAnyH_take (i := 10) (oi := ⟨some 30, .binOp .add 3 (.tmp 20) (.tmp 29) 3, _, _, _, none⟩) (v := .int .i64 ((k : Int) + (q : Int))) rfl (by kernel_rfl) (by kernel_rfl) (by kernel_rfl) (fun _ _ _ h => h) (Or.inl ⟨by rfl, fun w _ => by go_simp⟩) hHeld ?_
      simp only [Act.put, List.setIfInBounds_toArray, List.set_cons_zero, List.set_cons_succ]
      refine wpAnyH_take (i := 11) (oi := ⟨some 9, .assign (.tmp 30), _, _, _, none⟩) (v := .int .i64 ((k : Int) + (q : Int))) rfl (by kernel_rfl) (by kernel_rfl) (by kernel_rfl) (fun _ _ _ h => h) (Or.inl ⟨by rfl, fun _ _ => rfl⟩) hHeld ?_
      simp only [Act.put, List.setIfInBounds_toArray, List.set_cons_zero, List.set_cons_succ]
      refine wpAnyH_done (by kernel_rfl) ?_ _
      clear hHeld
      rw [U_put, HK.out.2.2.2] at b5
      clear wak wkq
      go_wp2
      go_roundw
      case rel => exact ⟨k + q, hqk, by go_num, b5, bP, l5⟩
      case measure => simp [intOf]; omega
    · obtain rfl : k = r := by omega
      rw [List.take_of_length_le (by rw [HX.out]; exact Nat.le_refl _), put_whole (by rw [HX.out, List.length_replicate])] at b8
      have hsl := b8.sl 0 k (by rw [U_length, HX.out]; omega)
      rw [List.drop_zero, List.take_of_length_le (by rw [U_length, HX.out]; exact Nat.le_refl _)] at hsl
      have hstr := run_str (P := Try.prog) 94 9 5 Try.underlying94 Try.underlying5 Try.underlying9 hsl k
      have nkk : ¬ (k : Int) < (k : Int) := by omega
      clear hsl
      go_wp2
      go_ret2
      exact ⟨rfl, lr⟩
theorem read_any (A : Option Addr) (n c : Nat) (a r : Int) (b : Wm.Bs) (w : World) (hs : Sl w 128 A n (U b)) (hn1 : 1 ≤ n) (hn : n ≤ 64) (ha : -9223372036854775808 ≤ a ∧ a ≤ 9223372036854775807) :
    Calls Try.prog 37 #[.agg #[.slice A n c], .int .i64 a, .int .i64 r] w fun e w' => e = .returned (.tuple #[.string (strOfNums (Mm.rd b a r)), .bool (decide (Mm.Inside (n * 128) a r))]) ∧ Later w w' := by
  obtain ⟨ad, rfl⟩ := hs.addr (by omega)
  have hbl : b.length = n * 128 := by have := hs.1; rwa [U_length] at this
  unfold Mm.rd
  rw [hbl]
  by_cases h : Mm.Inside (n * 128) a r
  · rw [if_pos h, decide_eq_true h]
    obtain ⟨a', rfl⟩ := Int.eq_ofNat_of_zero_le h.1
    obtain ⟨r', rfl⟩ := Int.eq_ofNat_of_zero_le h.2.1
    exact read_in ad n c a' r' b w hs hn h
  · rw [if_neg h, decide_eq_false h]
    exact read_none _ n c a r w hn ha h
theorem U_put_junk {m : Wm.Bs} {o : Nat} {d : Wm.Bs} {junk : List Value} (h : o + d.length ≤ m.length) : (U m ++ junk).take o ++ U d ++ (U m ++ junk).drop (o + (U d).length) = U (Mm.put m o d) ++ junk := by
  rw [List.take_append_of_le_length (by rw [U_length]; omega), List.drop_append_of_le_length (by rw [U_length, U_length]; omega), ← U_put, List.append_assoc, List.append_assoc, List.append_assoc]
theorem dwrite_none (g n c : Nat) (a : Int) (s : ByteArray) (w : World) (hn : n ≤ 64) (ha : -9223372036854775808 ≤ a ∧ a ≤ 9223372036854775807) (h : ¬ Mm.Inside (n * 128) a s.size) :
    Calls Try.prog 72 #[.agg #[.slice (some ⟨g, 0, none⟩) n c], .int .i64 a, .string s] w fun e w' => e = .returned (.bool false) ∧ Later w w' := by
  have HT := Lib.hid fun w' => inside_any (some ⟨g, 0, none⟩) n c a s.size w' hn ha
  rw [decide_eq_false h] at HT
  clear h
  go_enter Try.func72, Try.ntmps72
  go_wp2_with (first
    | (go_at_call 60; refine (HT.out _).mono ?_; rintro e w1 ⟨rfl, l1⟩))
  go_ret
  exact ⟨rfl, Later.trans_ (later1 _ _) l1⟩
set_option maxRecDepth 100000 in
set_option maxHeartbeats 2000000 in
theorem dwrite_in (g n c a : Nat) (s : ByteArray) (b : Wm.Bs) (w : World) (hd : Draft w g n b) (hn : n ≤ 64) (h : Mm.Inside (n * 128) (a : Int) s.size) :
    Calls Try.prog 72 #[.agg #[.slice (some ⟨g, 0, none⟩) n c], .int .i64 (a : Int), .string s] w fun e w' => e = .returned (.bool true) ∧ Draft w' g n (Mm.put b a (Wm.ofS s)) ∧ Lx g w w' := by
  have HT := Lib.hid fun w' => inside_any (some ⟨g, 0, none⟩) n c (a : Int) s.size w' hn ⟨by omega, by have := h.2.2; omega⟩
  rw [decide_eq_true h] at HT
  obtain ⟨h1, h2, h3⟩ := h
  have har : a + s.size ≤ n * 128 := by omega
  have hgl := hd.lt
  obtain ⟨hbl, t, junk, hbk⟩ := hd
  obtain ⟨X, hX⟩ : ∃ X, X = Wm.ofS s := ⟨_, rfl⟩
  have hXl : X.length = s.size := by rw [hX, Wm.ofS_length]
  have HF := Lib.hid fun (k : Nat) (hk : k < s.size) w' => from_any ⟨g, 0, none⟩ n c (a + k) w' hn (by omega)
  have HXD := Lib.hid (show ∀ k, Wm.ofS (s.extract k s.size) = X.drop k from fun k => by rw [ofS_extract, hX])
  rw [← hX]
  have HX := Lib.hid hXl
  have HB := Lib.hid (show b.length = n * 128 ∧ a + s.size ≤ n * 128 from ⟨hbl, har⟩)
  have hr8 : a + s.size ≤ 8192 := by omega
  clear hX hXl h1 h2 h3 hbl har
  go_enter Try.func72, Try.ntmps72
  go_wp2_with (first
    | (go_at_call 60; refine (HT.out _).mono ?_; rintro e w1 ⟨rfl, l1⟩; have b3 := (Blk.new w 127 #[.slice (some ⟨g, 0, none⟩) n c] _ rfl).keep l1; have l2 := Later.trans_ (later1 _ _) l1))
  replace hbk := hbk.keep l2
  have HNE := Lib.hid (show w.heap.size ≠ g by omega)
  obtain ⟨B3, hB3⟩ : ∃ B3, B3 = w.heap.size := ⟨_, rfl⟩
  rw [← hB3] at b3 HNE ⊢
  clear l1
  go_loopw [7] (fun i wr => ∃ k : Nat, k ≤ s.size ∧ i = .int .i64 (k : Int) ∧ Blk wr g t (U (Mm.put b a (X.take k)) ++ junk) ∧ Blk wr B3 127 [.slice (some ⟨g, 0, none⟩) n c] ∧ Lx g w wr) (fun i _ => s.size - (intOf i).toNat)
  case atStart => exact ⟨0, Nat.zero_le _, rfl, by rw [List.take_zero, Mm.put_nil]; exact hbk, b3, Lx.of l2⟩
  case round =>
    clear hbk b3 l2 hB3
    rename_i wr
    obtain ⟨k, hk, rfl, hbk, b3, lr⟩ := hrel
    by_cases hkr : k < s.size
    · obtain ⟨q, hq⟩ : ∃ q, q = Nat.min (s.size - k) (128 - (a + k) % 128) := ⟨_, rfl⟩
      have hqb : q ≤ s.size - k := by rw [hq]; exact Nat.min_le_left _ _
      have hqk : k + q ≤ s.size := by omega
      have HQ0 : 0 < q := by rw [hq]; exact Nat.lt_min.2 ⟨by omega, by omega⟩
      have HFk := Lib.hid (HF.out k hkr)
      rw [Int.natCast_add, Addr.add_mid, Nat.zero_add] at HFk
      obtain ⟨ch, hch⟩ : ∃ ch, ch = (X.drop k).take q := ⟨_, rfl⟩
      have hchl : ch.length = q := by rw [hch, List.length_take, List.length_drop, HX.out]; omega
      have hpl : (Mm.put b a (X.take k)).length = n * 128 := by rw [Mm.put_len (by rw [List.length_take, HX.out, HB.out.1]; have := HB.out.2; omega), HB.out.1]
      have HK := Lib.hid (show (ch = (Wm.ofS (s.extract k s.size)).take q ∧ ch.length = q) ∧ q = Nat.min (s.extract k s.size).size (128 - (a + k) % 128) ∧ a + k + q ≤ (U (Mm.put b a (X.take k)) ++ junk).length ∧ Mm.put (Mm.put b a (X.take k)) (a + k) ch = Mm.put b a (X.take (k + q)) ∧ a + k + ch.length ≤ (Mm.put b a (X.take k)).length from
        ⟨⟨by rw [HXD.out, hch], hchl⟩, by rw [ByteArray.size_extract, Nat.min_self]; exact hq, by rw [List.length_append, U_length, hpl]; have := HB.out.2; omega, by
          have := put_more (m := b) (X := X) (o := a) (k := k) (q := q) (by rw [← hch]; exact hchl) (by rw [HX.out]; omega) (by rw [HB.out.1]; have := HB.out.2; omega)
          rw [← hch] at this
          exact this, by rw [hpl, hchl]; have := HB.out.2; omega⟩)
      have kr : (k : Int) < (s.size : Int) := by omega
      have wak : IntKind.i64.wrap ((a : Int) + (k : Int)) = (a : Int) + (k : Int) := by rw [IntKind.wrap_i64]; omega
      have wkq : IntKind.i64.wrap ((k : Int) + (q : Int)) = (k : Int) + (q : Int) := by rw [IntKind.wrap_i64]; omega
      clear hch hchl hq hqb hpl
      go_wp2
      replace b3 := b3.drew; replace hbk := hbk.drew; replace lr : Lx g w wr.drew := lr
      refine wp_region_held_drew (S := fun w' => w'.rangeAt B3 0 [.slice (some ⟨g, 0, none⟩) n c]) (by kernel_rfl) (blk_at b3) (fun hHeld => ?_)
      refine wpAnyH_take (i := 0) (oi := ⟨some 19, .move (.tmp 7), _, _, _, none⟩) (v := .int .i64 (k : Int)) rfl (by kernel_rfl) (by kernel_rfl) (by kernel_rfl) (fun _ _ _ h => h) (Or.inl ⟨by rfl, fun _ _ => rfl⟩) hHeld ?_
      simp only [Act.put, List.setIfInBounds_toArray, List.set_cons_zero, List.set_cons_succ]
      refine wpAnyH_take (i := 1) (oi := ⟨some 20, .fieldAddr 127 (.tmp 3) 0, _, _, _, none⟩) (v := .pointer (some ⟨B3, 0, none⟩)) rfl (by kernel_rfl) (by kernel_rfl) (by kernel_rfl) (fun _ _ _ h => h) (Or.inl ⟨by rfl, fun w _ => by go_simp⟩) hHeld ?_
      simp only [Act.put, List.setIfInBounds_toArray, List.set_cons_zero, List.set_cons_succ]
      refine wpAnyH_take (i := 2) (oi := ⟨some 21, .load 24 (.tmp 20), _, _, _, none⟩) (v := .agg #[.slice (some ⟨g, 0, none⟩) n c]) rfl (by kernel_rfl) (by kernel_rfl) (by kernel_rfl) (fun _ _ _ h => h) (yieldsIf_load_mid (by rfl) _ _ rfl _ _ rfl _ _ (fun w h => h) Try.underlying24 rfl mem_sz) hHeld ?_
      simp only [Act.put, List.setIfInBounds_toArray, List.set_cons_zero, List.set_cons_succ]
      refine wpAnyH_take (i := 3) (oi := ⟨some 22, .move (.tmp 1), _, _, _, none⟩) (v := .int .i64 (a : Int)) rfl (by kernel_rfl) (by kernel_rfl) (by kernel_rfl) (fun _ _ _ h => h) (Or.inl ⟨by rfl, fun _ _ => rfl⟩) hHeld ?_
      simp only [Act.put, List.setIfInBounds_toArray, List.set_cons_zero, List.set_cons_succ]
      refine wpAnyH_take (i := 4) (oi := ⟨some 23, .move (.tmp 7), _, _, _, none⟩) (v := .int .i64 (k : Int)) rfl (by kernel_rfl) (by kernel_rfl) (by kernel_rfl) (fun _ _ _ h => h) (Or.inl ⟨by rfl, fun _ _ => rfl⟩) hHeld ?_
      simp only [Act.put, List.setIfInBounds_toArray, List.set_cons_zero, List.set_cons_succ]
      refine wpAnyH_take (i := 5) (oi := ⟨some 24, .binOp .add 3 (.tmp 22) (.tmp 23) 3, _, _, _, none⟩) (v := .int .i64 ((a : Int) + (k : Int))) rfl (by kernel_rfl) (by kernel_rfl) (by kernel_rfl) (fun _ _ _ h => h) (Or.inl ⟨by rfl, fun w _ => by go_simp⟩) hHeld ?_
      simp only [Act.put, List.setIfInBounds_toArray, List.set_cons_zero, List.set_cons_succ]
      refine wpAnyH_take (i := 7) (oi := ⟨some 26, .move (.tmp 2), _, _, _, none⟩) (v := .string s) rfl (by kernel_rfl) (by kernel_rfl) (by kernel_rfl) (fun _ _ _ h => h) (Or.inl ⟨by rfl, fun _ _ => rfl⟩) hHeld ?_
      simp only [Act.put, List.setIfInBounds_toArray, List.set_cons_zero, List.set_cons_succ]
      refine wpAnyH_take (i := 8) (oi := ⟨some 27, .move (.tmp 7), _, _, _, none⟩) (v := .int .i64 (k : Int)) rfl (by kernel_rfl) (by kernel_rfl) (by kernel_rfl) (fun _ _ _ h => h) (Or.inl ⟨by rfl, fun _ _ => rfl⟩) hHeld ?_
      simp only [Act.put, List.setIfInBounds_toArray, List.set_cons_zero, List.set_cons_succ]
      refine wpAnyH_take (i := 9) (oi := ⟨some 28, .slice 9 (.tmp 26) (some (.tmp 27)) none none, _, _, _, none⟩) (v := .string (s.extract k s.size)) rfl (by kernel_rfl) (by kernel_rfl) (by kernel_rfl) (fun _ _ _ h => h) (Or.inl ⟨by rfl, fun w _ => by go_simp⟩) hHeld ?_
      simp only [Act.put, List.setIfInBounds_toArray, List.set_cons_zero, List.set_cons_succ]
      refine wpAnyH_ready (rs := [6]) (by kernel_rfl) (by simp) (AllReadyH.cons (o := ⟨some 25, .call { callee := .value (.func 61), args := #[.tmp 21, .tmp 24], argTypes := #[24, 3] }, _, _, _, none⟩) rfl (fun K' hK => ?_) (AllReadyH.nil))
      go_simp
      refine (HFk.out _).mono ?_
      rintro e w4 ⟨rfl, l4⟩
      replace b3 := b3.keep l4
      replace lr := lr.later l4
      replace hbk := hbk.keep l4
      refine hK.out _ _ (blk_at b3) (fun hHeld => ?_)
      clear hK K'
      try simp only [Act.put, List.setIfInBounds_toArray, List.set_cons_zero, List.set_cons_succ]
      refine wpAnyH_ready (rs := [10]) (by kernel_rfl) (by simp) (AllReadyH.cons (o := ⟨some 29, .call { callee := .builtin .copy, args := #[.tmp 25, .tmp 28], argTypes := #[94, 9] }, _, _, _, none⟩) rfl (fun K' hK => ?_) (AllReadyH.nil))
      refine wp_copy_str _ _ rfl Try.underlying94 u8_sz g (a + k) _ _ rfl (s.extract k s.size) rfl ch q HK.out.1 HK.out.2.1 t (U (Mm.put b a (X.take k)) ++ junk) hbk HK.out.2.2.1 ?_
      intro w6 b6 o6
      replace b3 := b3.only o6 HNE.out
      refine hK.out _ _ (blk_at b3) (fun hHeld => ?_)
      clear hK K'
      try simp only [Act.put, List.setIfInBounds_toArray, List.set_cons_zero, List.set_cons_succ]
      refine wpAnyH_take (i := 11) (oi := ⟨some 30, .binOp .add 3 (.tmp 19) (.tmp 29) 3, _, _, _, none⟩) (v := .int .i64 ((k : Int) + (q : Int))) rfl (by kernel_rfl) (by kernel_rfl) (by kernel_rfl) (fun _ _ _ h => h) (Or.inl ⟨by rfl, fun w _ => by go_simp⟩) hHeld ?_
      simp only [Act.put, List.setIfInBounds_toArray, List.set_cons_zero, List.set_cons_succ]
      refine wpAnyH_take (i := 12) (oi := ⟨some 7, .assign (.tmp 30), _, _, _, none⟩) (v := .int .i64 ((k : Int) + (q : Int))) rfl (by kernel_rfl) (by kernel_rfl) (by kernel_rfl) (fun _ _ _ h => h) (Or.inl ⟨by rfl, fun _ _ => rfl⟩) hHeld ?_
      simp only [Act.put, List.setIfInBounds_toArray, List.set_cons_zero, List.set_cons_succ]
      refine wpAnyH_done (by kernel_rfl) ?_ _
      clear hHeld
      rw [U_put_junk HK.out.2.2.2.2, HK.out.2.2.2.1] at b6
      have l6 := lr.trans_ (Lx.only o6)
      clear wak wkq
      go_wp2
      go_roundw
      case rel => exact ⟨k + q, hqk, by go_num, b6, b3, l6⟩
      case measure => simp [intOf]; omega
    · obtain rfl : k = s.size := by omega
      rw [List.take_of_length_le (by rw [HX.out]; exact Nat.le_refl _)] at hbk
      have nkk : ¬ (s.size : Int) < (s.size : Int) := by omega
      go_wp2
      go_ret
      exact ⟨rfl, ⟨by rw [Mm.put_len (by rw [HX.out, HB.out.1]; exact HB.out.2), HB.out.1], t, junk, hbk⟩, lr⟩
theorem dwrite_any (g n c : Nat) (a : Int) (s : ByteArray) (b : Wm.Bs) (w : World) (hd : Draft w g n b) (hn : n ≤ 64) (ha : -9223372036854775808 ≤ a ∧ a ≤ 9223372036854775807) :
    Calls Try.prog 72 #[.agg #[.slice (some ⟨g, 0, none⟩) n c], .int .i64 a, .string s] w fun e w' => e = .returned (.bool (decide (Mm.Inside (n * 128) a s.size))) ∧ Draft w' g n (Mm.wr b a (Wm.ofS s)) ∧ Lx g w w' := by
  unfold Mm.wr
  rw [hd.1, Wm.ofS_length]
  by_cases h : Mm.Inside (n * 128) a s.size
  · rw [if_pos h, decide_eq_true h]
    obtain ⟨a', rfl⟩ := Int.eq_ofNat_of_zero_le h.1
    exact dwrite_in g n c a' s b w hd hn h
  · rw [if_neg h, decide_eq_false h]
    exact (dwrite_none g n c a s w hn ha h).mono fun e w' ⟨h1, h2⟩ => ⟨h1, hd.keep h2, Lx.of h2⟩
end Go.Proofs.Ytffgbbfcbobecaa
