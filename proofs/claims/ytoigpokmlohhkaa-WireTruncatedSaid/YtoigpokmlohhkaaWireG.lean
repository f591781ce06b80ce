/-
  THE WALKS OF THE ENCODERS of digests: arrays of 16 bytes, wire's and the reference's.
-/
import Derived.Test.YtoigpokmlohhkaaWireF
import Derived.Deep.MidRow
import Derived.Deep.WholeRow
namespace Go.Proofs.Ytoigpokmlohhkaa
open Go.RowKit

/-- A whole array read at an address. -/
theorem run_loadAt_addr {P : Program} (w : World) (ad : Addr) (ty : TypeId) (cs : List Value) (d : TypeDesc) (hc : ∀ j v, cs[j]? = some v → w.cell? (ad.add j) = some v)
    (hu : P.underlying ty = some d) (hd : d.isRow = true) (hi : (P.info? ty).map (·.size) = some cs.length) :
    (Instr.loadAt ty (.pointer (some ad))).run P w = .ok (.agg cs.toArray) w := by
  have hl : (loadCells ad cs.length).run P w = .ok cs.toArray w := run_loadCells_list (P := P) w ad cs hc
  cases hq : P.info? ty with
  | none => simp [hq] at hi
  | some i =>
    have hs : i.size = cs.length := by simpa [hq] using hi
    have hagg : (isAgg ty).run P w = .ok true w := by
      unfold isAgg
      rw [Sem.run_bind, run_underlying hu w]
      cases d <;> simp_all
    simp [Instr.loadAt, Instr.sureAddr, loadVar, Sem.run_bind, hagg, sizeOf, typeInfo, hq, hs, hl]

/-- At the operation. -/
theorem wpList_load_addr {P : Program} {ops : Array Oper} {rest : List Oper} {o : Oper} {a : Act} {w : World} {Q : Exit → Act → World → Prop} (hgd : o.guard = none) (ty : TypeId) (x : Operand) (ho : o.op = .load ty x)
    (ad : Addr) (cs : List Value) (d : TypeDesc) (hx : a.eval x = .pointer (some ad)) (hc : ∀ j v, cs[j]? = some v → w.cell? (ad.add j) = some v)
    (hu : P.underlying ty = some d) (hd : d.isRow = true) (hi : (P.info? ty).map (·.size) = some cs.length)
    (h : wpList P ops Q rest (a.put o.dst (.agg cs.toArray)) w) : wpList P ops Q (o :: rest) a w := by
  refine wpList_plain hgd fun K hK => ?_
  have hrun := run_loadAt_addr (P := P) w ad ty cs d hc hu hd hi
  unfold Oper.wp execOp
  simp only [ho, hx, Sem.run_bind, hrun, Sem.run_pure, Result.andThen_ok]
  exact hK _ _ h

/-- A whole array stored into the block that was made last. -/
theorem wpList_store_new {P : Program} {ops : Array Oper} {rest : List Oper} {o : Oper} {a : Act} {w0 : World} {Q : Exit → Act → World → Prop} (hgd : o.guard = none) (ty : TypeId) (x y : Operand) (ho : o.op = .store ty x y)
    (c c' : Array Value) (hx : a.eval x = .pointer (some ⟨w0.heap.size, 0, none⟩)) (hy : a.eval y = .agg c') (hi : (P.info? ty).map (·.size) = some c'.size) (hc : c.size = c'.size) (h1 : c'.all (·.oneCell') = true)
    (h : wpList P ops Q rest (a.put o.dst undef) (w0.alloc (.cells c' ty))) : wpList P ops Q (o :: rest) a (w0.alloc (.cells c ty)) := by
  refine wpList_plain hgd fun K hK => ?_
  have hrun := run_storeAt_new (P := P) w0 ty c c' hi hc h1
  unfold Oper.wp execOp
  simp only [ho, hx, hy, Sem.run_bind, hrun, Sem.run_pure, Result.andThen_ok]
  exact hK _ _ h

/-- Digests: lists of 16 bytes; their cells. -/
def isD (l : List Wm.Bs) : Prop := ∀ d ∈ l, d.length = 16 ∧ Wm.isBs d
def Ds (l : List Wm.Bs) : List Value := U l.flatten
theorem flat_len {l : List Wm.Bs} (h : isD l) : l.flatten.length = l.length * 16 := by
  induction l with
  | nil => rfl
  | cons d r ih =>
    rw [List.flatten_cons, List.length_append, ih (fun x hx => h x (List.mem_cons_of_mem _ hx)), (h d (List.mem_cons_self)).1, List.length_cons]
    omega
theorem flat_at {l : List Wm.Bs} (h : isD l) : ∀ (k : Nat) (hk : k < l.length) (j : Nat), j < 16 → l.flatten[k * 16 + j]? = l[k][j]? := by
  induction l with
  | nil => intro k hk; simp at hk
  | cons d r ih =>
    intro k hk j hj
    have hd := (h d (List.mem_cons_self)).1
    cases k with
    | zero => rw [List.flatten_cons, List.getElem?_append_left (by omega)]; simp
    | succ k =>
      rw [List.flatten_cons, List.getElem?_append_right (by omega), hd, show (k + 1) * 16 + j - 16 = k * 16 + j by omega]
      exact ih (fun x hx => h x (List.mem_cons_of_mem _ hx)) k (by simpa using hk) j hj
theorem Sl.digest {w : World} {A : Option Addr} {n : Nat} {l : List Wm.Bs} (h : Sl w 16 A n (Ds l)) (hl : isD l) {k : Nat} (hk : k < n) :
    ∃ ad, A = some ad ∧ ad.block < w.heap.size ∧ ∃ hkl : k < l.length, ∀ j v, (U l[k])[j]? = some v → w.cell? ((ad.add (k * 16)).add j) = some v := by
  obtain ⟨ad, e, hb, hc⟩ := h.2 (by omega)
  have hn : l.length = n := by have := h.1; unfold Ds at this; rw [U_length, flat_len hl] at this; omega
  have hkl : k < l.length := by omega
  refine ⟨ad, e, hb, hkl, fun j v hv => ?_⟩
  rw [addr_add_add]
  apply hc
  have hj : j < 16 := by
    have h16 := (hl _ (List.getElem_mem hkl)).1
    rcases Nat.lt_or_ge j 16 with h | h
    · exact h
    · rw [List.getElem?_eq_none (by rw [U_length]; omega)] at hv; cases hv
  have hf := flat_at hl k hkl j hj
  unfold Ds U at *
  rw [List.getElem?_map] at hv ⊢
  rw [hf]; exact hv
theorem Sl.dlen {w : World} {A : Option Addr} {n : Nat} {l : List Wm.Bs} (h : Sl w 16 A n (Ds l)) (hl : isD l) : l.length = n := by
  have := h.1; unfold Ds at this; rw [U_length, flat_len hl] at this; omega

theorem dig_info : (Try.prog.info? 47).map (fun i => (i.zero, i.size, i.bytes)) = some (some (.agg (Array.replicate 16 (.int .u8 0))), 16, 16) := by kernel_rfl
theorem dig_size : (Try.prog.info? 47).map (·.size) = some 16 := by kernel_rfl
theorem dig_under : Try.prog.underlying 47 = some (.array 16 5) := by kernel_rfl

set_option maxHeartbeats 400000 in
theorem appendDigest_any (B : Nat) (v : Value) (xs d : Wm.Bs) (w : World) (hown : w.ownsRow B 5 1 v xs.length (U xs)) (hB : B ≤ w.heap.size)
    (hd : d.length = 16) (hm : xs.length + d.length ≤ 140737488355328) :
    Calls Try.prog 25 #[v, .agg (U d).toArray] w fun e w' => ∃ v', e = .returned v' ∧ w'.ownsRow B 5 1 v' (xs ++ d).length (U (xs ++ d)) ∧ Below B w w' := by
  obtain ⟨i0, hi, hz0, hz1, hz2⟩ := info_parts u8_info
  obtain ⟨X, hX⟩ : ∃ X, X = (U d).toArray := ⟨_, rfl⟩
  rw [← hX]
  have hsl : Sl (w.alloc (.cells X 47)) 1 (some ⟨w.heap.size, 0, none⟩) 16 (U d) := by
    refine ⟨by rw [U_length]; omega, fun _ => ⟨_, rfl, by simp, fun j u hu => ?_⟩⟩
    exact World.news_of_block (heap_alloc_new w _) j u (by rw [hX]; simpa using hu)
  have HS := Lib.hid hsl; clear hsl
  have hown2 := hown.alloc (.cells X 47)
  have HX := Lib.hid hX; clear hX
  have HD := Lib.hid hd
  have hm2 : xs.length + 16 ≤ 140737488355328 := by omega
  clear hd
  go_enter Try.func25, Try.ntmps25
  go_wp2_with (at_builtin; refine wpList_app _ rfl _ _ 27 rfl B 5 i0 (.int .u8 0) 1 1 Try.underlying27 hi hz0 hz1 hz2 rfl (by decide) _ _ _ rfl hown2 _ _ _ _ rfl HS.out (U_one _) (by unfold maxLen; omega) (by omega) (by simp; omega) ?_; intro v3 w3 ho3 hg3)
  go_ret
  exact ⟨_, rfl, own_app ho3 HD.out.symm, ((Below.refl _ _).alloc hB _).grown hg3 (by simp; omega) (fun k hk => (hown.lt k hk).1)⟩

/-- A list of digests, encoded. -/
def encD (l : List Wm.Bs) : Wm.Bs := Wm.encL id l

set_option maxRecDepth 100000 in
set_option maxHeartbeats 400000 in
theorem encodeDigs_any (A : Option Addr) (n c : Nat) (l : List Wm.Bs) (w : World) (hs : Sl w 16 A n (Ds l)) (hl : isD l) (hn : n ≤ maxLen) (hm : (encD l).length ≤ 140737488355328) :
    Calls Try.prog 24 #[.slice A n c, .func (.func 25) #[] #[]] w (Made (encD l) w) := by
  unfold maxLen at hn
  have hln := hs.dlen hl
  have hc := wireInt_any n w (by omega) (by omega)
  have H := Lib.hid hc; clear hc
  have HP := Lib.hid (Part.zero id l)
  have HL := Lib.hid hln; clear hln
  go_enter Try.func24, Try.ntmps24
  go_wp2_with (go_at_call 6; refine (H.out).mono ?_; rintro e w1 ⟨v1, rfl, ho, hb⟩)
  have ho0 : w1.ownsRow w.heap.size 5 1 v1 (Part id l 0).length (U (Part id l 0)) := by rw [HP.out, HL.out]; exact ho
  go_loopw [5, 13] (fun b i wr => ∃ k : Nat, k ≤ n ∧ i = .int .i64 k ∧ wr.ownsRow w.heap.size 5 1 b (Part id l k).length (U (Part id l k)) ∧ Later w wr) (fun _ i _ => n - (intOf i).toNat)
  case atStart => exact ⟨0, Nat.zero_le _, rfl, ho0, hb⟩
  case round =>
    obtain ⟨k, hk, rfl, hor, hbr⟩ := hrel
    by_cases hlt : k < n
    · obtain ⟨ad, rfl, hbl, hlk, hcell⟩ := (hs.keep hbr).digest hl hlt
      have hx := hl l[k] (List.getElem_mem hlk)
      have hsz : (Try.prog.info? 47).map (·.size) = some (U l[k]).length := by rw [U_length, hx.1]; exact dig_size
      have hpl := Part.le id l (k + 1)
      have hnx := Part.next id l k hlk
      have hpl2 : (Part id l k).length + l[k].length ≤ 140737488355328 := by rw [hnx, List.length_append] at hpl; unfold encD at hm; simp only [id] at hpl; omega
      obtain ⟨Y, hY⟩ : ∃ Y, Y = U l[k] := ⟨_, rfl⟩
      rw [← hY] at hcell hsz
      have HY := Lib.hid hY; clear hY
      have HN := Lib.hid hnx; clear hnx
      have hYs : (16 : Nat) = Y.toArray.size := by rw [HY.out]; simp [U]; omega
      have hY1 : Y.toArray.all (·.oneCell') = true := by rw [HY.out]; exact all_oneCell_toArray (U_one _)
      have hsz2 : (Try.prog.info? 47).map (·.size) = some Y.toArray.size := by rw [← hYs]; exact dig_size
      have HYs := Lib.hid hYs; clear hYs
      have hcell2 : ∀ j v, Y[j]? = some v → (wr.alloc (.cells Y.toArray 47)).cell? ((⟨wr.heap.size, 0, none⟩ : Addr).add j) = some v := fun j v h => World.news_of_block (heap_alloc_new wr _) j v (by simpa using h)
      have H2 := Lib.hid (appendDigest_any w.heap.size _ _ l[k] (wr.alloc (.cells Y.toArray 47)) (hor.alloc _) (by have := hbr.size; simp; omega) hx.1 hpl2)
      rw [← HY.out] at H2
      have hnx2 : Part id l k ++ l[k] = Part id l (k + 1) := HN.out.symm
      rw [hnx2] at H2
      clear hnx2
      go_wp2_with (first
        | ((with_reducible refine wpList_store_new (o := ⟨none, .store 47 (.tmp 7) (.tmp 16), _, _, _, none⟩) rfl _ _ _ rfl _ Y.toArray ?_ ?_ hsz2 ?_ hY1 ?_); rfl; rfl; exact HYs.out)
        | ((with_reducible refine wpList_load_addr (o := ⟨some 16, .load 47 (.tmp 15), _, _, _, none⟩) rfl _ _ rfl (ad.add (k * 16)) Y _ ?_ hcell dig_under rfl hsz ?_); rfl)
        | ((with_reducible refine wpList_load_addr (o := ⟨some 19, .load 47 (.tmp 7), _, _, _, none⟩) rfl _ _ rfl ⟨wr.heap.size, 0, none⟩ Y _ ?_ hcell2 dig_under rfl hsz ?_); rfl)
        | (go_at_call 25; refine (H2.out).mono ?_; rintro e w2 ⟨v2, rfl, ho2, hb2⟩))
      have hb3 : Later w w2 := (hbr.alloc hbr.size _).trans hb2
      go_wp2
      go_roundw
      case rel => exact ⟨k + 1, by omega, by go_num, ho2, hb3⟩
      case measure => simp [intOf]; omega
    · obtain rfl : k = n := by omega
      have hfin : Part id l k = encD l := by rw [← HL.out]; exact Part.all _ _
      rw [hfin] at hor
      clear hfin
      go_wp2
      go_ret
      exact ⟨_, rfl, hor, hbr⟩

set_option maxHeartbeats 400000 in
theorem wireDigs_any (A : Option Addr) (n c : Nat) (l : List Wm.Bs) (w : World) (hs : Sl w 16 A n (Ds l)) (hl : isD l) (hn : n ≤ maxLen) (hm : (encD l).length ≤ 140737488355328) :
    Calls Try.prog 10 #[.slice A n c] w (Made (encD l) w) := by
  have H := Lib.hid (encodeDigs_any A n c l w hs hl hn hm)
  go_enter Try.func10, Try.ntmps10
  go_wp2_with (go_at_call 24; refine (H.out).mono ?_; rintro e w' ⟨v, rfl, ho, hb⟩)
  go_ret
  exact ⟨_, rfl, ho, hb⟩

end Go.Proofs.Ytoigpokmlohhkaa
