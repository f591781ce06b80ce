/-
  THE WALKS OF read, at integers and at strings.
-/
import Derived.Test.YtjfphjgmphlbhaaDoorJl
import Derived.Test.YtjfphjgmphlbhaaDoorJa
import Derived.Laws.IdiomStrings
import Derived.Laws.Cover3
import Derived.Great.BuildSlice
namespace Go.Proofs.YtjfphjgmphlbhaaDoor
open Go.RowKit Go.ChangeShapes Go.WideShapes Go.ChangeAt

set_option maxRecDepth 100000 in
def RdInts (r : List Int × Nat × Int) (b : Wm.Bs) (w : World) (e : Ending) (w' : World) : Prop :=
  ∃ A n c A2 n2 c2, e = .returned (.tuple #[.slice A n c, .slice A2 n2 c2, .int .i64 r.2.2]) ∧ n ≤ c ∧ c ≤ maxLen ∧ Sl w' 1 A n (N64 r.1) ∧ n2 ≤ c2 ∧ c2 ≤ maxLen ∧ Sl w' 1 A2 n2 (U (b.drop r.2.1)) ∧ Later w w'
set_option maxRecDepth 100000 in
def RdStrs (r : List Wm.Bs × Nat × Int) (b : Wm.Bs) (w : World) (e : Ending) (w' : World) : Prop :=
  ∃ A n c A2 n2 c2, e = .returned (.tuple #[.slice A n c, .slice A2 n2 c2, .int .i64 r.2.2]) ∧ n ≤ c ∧ c ≤ maxLen ∧ Sl w' 1 A n (T64 r.1) ∧ n2 ≤ c2 ∧ c2 ≤ maxLen ∧ Sl w' 1 A2 n2 (U (b.drop r.2.1)) ∧ Later w w'

set_option maxRecDepth 100000 in
set_option maxHeartbeats 1000000 in
theorem readI_any (A : Option Addr) (n c : Nat) (b : Wm.Bs) (w : World) (hs : Sl w 1 A n (U b)) (hb : Wm.isBs b) (hnc : n ≤ c) (hc : c ≤ maxLen) (hsm : n ≤ 1000000) :
    Calls Tryd.prog 32 #[.slice A n c, .func (.func 33) #[] #[]] w (RdInts (Wm.decL Wm.decI 1 b) b w) := by
  have hbl := hs.blen
  obtain ⟨l, u, e, hr⟩ : ∃ l u e, Wm.decL Wm.decI 1 b = (l, u, e) := ⟨_, _, _, rfl⟩
  have HG := Lib.hid (wireGetInts_any A n c b w hs hb hnc hc hsm)
  rw [hr] at HG ⊢
  have hu : u ≤ n := by have := (Wm.ints_dec hb hr).1; omega
  obtain ⟨A3, hcu, hsl⟩ := cut_run (A := A) (n := n) (c := c) (u := u) (b := b) hu hnc
  have HCU := Lib.hid hcu
  have HSL := Lib.hid fun w' (hl : Later w w') => hsl w' (hs.keep hl)
  have HB := Lib.hid (show n - u ≤ c - u ∧ c - u ≤ maxLen by unfold maxLen at *; omega)
  clear hr hcu hsl hs hb hnc hc hsm hbl
  go_enter Tryd.func32, Tryd.ntmps32
  go_wp2_with (first
    | (go_at_call 33; refine HG.out.mono ?_; rintro e w1 ⟨A2, n2, c2, rfl, p1, p2, p3, l1⟩))
  replace p3 := p3.drew
  have l2 := l1.drew
  refine wp_region_held_drew (S := fun w' => True) (by kernel_rfl) trivial (fun hHeld => ?_)
  refine wpAnyH_take (i := 0) (oi := ⟨some 17, .move (.tmp 7), _, _, _, none⟩) (v := .slice A2 n2 c2) rfl (by kernel_rfl) (by kernel_rfl) (by kernel_rfl) (fun _ _ _ h => h) (Or.inl ⟨by rfl, fun _ _ => rfl⟩) hHeld ?_
  simp only [Act.put, List.setIfInBounds_toArray, List.set_cons_zero, List.set_cons_succ]
  refine wpAnyH_take (i := 1) (oi := ⟨some 18, .move (.tmp 0), _, _, _, none⟩) (v := .slice A n c) rfl (by kernel_rfl) (by kernel_rfl) (by kernel_rfl) (fun _ _ _ h => h) (Or.inl ⟨by rfl, fun _ _ => rfl⟩) hHeld ?_
  simp only [Act.put, List.setIfInBounds_toArray, List.set_cons_zero, List.set_cons_succ]
  refine wpAnyH_take (i := 2) (oi := ⟨some 19, .move (.tmp 8), _, _, _, none⟩) (v := .int .i64 (u : Int)) rfl (by kernel_rfl) (by kernel_rfl) (by kernel_rfl) (fun _ _ _ h => h) (Or.inl ⟨by rfl, fun _ _ => rfl⟩) hHeld ?_
  simp only [Act.put, List.setIfInBounds_toArray, List.set_cons_zero, List.set_cons_succ]
  refine wpAnyH_take (i := 3) (oi := ⟨some 20, .slice 25 (.tmp 18) (some (.tmp 19)) none none, _, _, _, none⟩) (v := .slice A3 (n - u) (c - u)) rfl (by kernel_rfl) (by kernel_rfl) (by kernel_rfl) (fun _ _ _ h => h) (Or.inl ⟨by rfl, fun w _ => by have h := HCU.out w; go_simp⟩) hHeld ?_
  simp only [Act.put, List.setIfInBounds_toArray, List.set_cons_zero, List.set_cons_succ]
  refine wpAnyH_take (i := 4) (oi := ⟨some 21, .move (.tmp 9), _, _, _, none⟩) (v := .int .i64 e) rfl (by kernel_rfl) (by kernel_rfl) (by kernel_rfl) (fun _ _ _ h => h) (Or.inl ⟨by rfl, fun _ _ => rfl⟩) hHeld ?_
  simp only [Act.put, List.setIfInBounds_toArray, List.set_cons_zero, List.set_cons_succ]
  refine wpAnyH_take (i := 5) (oi := ⟨some 4, .assign (.tmp 17), _, _, _, none⟩) (v := .slice A2 n2 c2) rfl (by kernel_rfl) (by kernel_rfl) (by kernel_rfl) (fun _ _ _ h => h) (Or.inl ⟨by rfl, fun _ _ => rfl⟩) hHeld ?_
  simp only [Act.put, List.setIfInBounds_toArray, List.set_cons_zero, List.set_cons_succ]
  refine wpAnyH_take (i := 6) (oi := ⟨some 5, .assign (.tmp 20), _, _, _, none⟩) (v := .slice A3 (n - u) (c - u)) rfl (by kernel_rfl) (by kernel_rfl) (by kernel_rfl) (fun _ _ _ h => h) (Or.inl ⟨by rfl, fun _ _ => rfl⟩) hHeld ?_
  simp only [Act.put, List.setIfInBounds_toArray, List.set_cons_zero, List.set_cons_succ]
  refine wpAnyH_take (i := 7) (oi := ⟨some 6, .assign (.tmp 21), _, _, _, none⟩) (v := .int .i64 e) rfl (by kernel_rfl) (by kernel_rfl) (by kernel_rfl) (fun _ _ _ h => h) (Or.inl ⟨by rfl, fun _ _ => rfl⟩) hHeld ?_
  simp only [Act.put, List.setIfInBounds_toArray, List.set_cons_zero, List.set_cons_succ]
  refine wpAnyH_done (by kernel_rfl) ?_ _
  clear hHeld
  go_wp2
  go_ret3
  exact ⟨A2, n2, c2, A3, _, _, rfl, p1, p2, p3, HB.out.1, HB.out.2, HSL.out _ l2, l2⟩

set_option maxRecDepth 100000 in
set_option maxHeartbeats 1000000 in
theorem readS_any (A : Option Addr) (n c : Nat) (b : Wm.Bs) (w : World) (hs : Sl w 1 A n (U b)) (hb : Wm.isBs b) (hnc : n ≤ c) (hc : c ≤ maxLen) (hsm : n ≤ 1000000) :
    Calls Tryd.prog 34 #[.slice A n c, .func (.func 35) #[] #[]] w (RdStrs (Wm.decL Wm.decB 1 b) b w) := by
  have hbl := hs.blen
  obtain ⟨l, u, e, hr⟩ : ∃ l u e, Wm.decL Wm.decB 1 b = (l, u, e) := ⟨_, _, _, rfl⟩
  have HG := Lib.hid (wireGetStrs_any A n c b w hs hb hnc hc hsm)
  rw [hr] at HG ⊢
  have hu : u ≤ n := by have := (Wm.strs_dec hb hr).1; omega
  obtain ⟨A3, hcu, hsl⟩ := cut_run (A := A) (n := n) (c := c) (u := u) (b := b) hu hnc
  have HCU := Lib.hid hcu
  have HSL := Lib.hid fun w' (hl : Later w w') => hsl w' (hs.keep hl)
  have HB := Lib.hid (show n - u ≤ c - u ∧ c - u ≤ maxLen by unfold maxLen at *; omega)
  clear hr hcu hsl hs hb hnc hc hsm hbl
  go_enter Tryd.func34, Tryd.ntmps34
  go_wp2_with (first
    | (go_at_call 35; refine HG.out.mono ?_; rintro e w1 ⟨A2, n2, c2, rfl, p1, p2, p3, l1⟩))
  replace p3 := p3.drew
  have l2 := l1.drew
  refine wp_region_held_drew (S := fun w' => True) (by kernel_rfl) trivial (fun hHeld => ?_)
  refine wpAnyH_take (i := 0) (oi := ⟨some 17, .move (.tmp 7), _, _, _, none⟩) (v := .slice A2 n2 c2) rfl (by kernel_rfl) (by kernel_rfl) (by kernel_rfl) (fun _ _ _ h => h) (Or.inl ⟨by rfl, fun _ _ => rfl⟩) hHeld ?_
  simp only [Act.put, List.setIfInBounds_toArray, List.set_cons_zero, List.set_cons_succ]
  refine wpAnyH_take (i := 1) (oi := ⟨some 18, .move (.tmp 0), _, _, _, none⟩) (v := .slice A n c) rfl (by kernel_rfl) (by kernel_rfl) (by kernel_rfl) (fun _ _ _ h => h) (Or.inl ⟨by rfl, fun _ _ => rfl⟩) hHeld ?_
  simp only [Act.put, List.setIfInBounds_toArray, List.set_cons_zero, List.set_cons_succ]
  refine wpAnyH_take (i := 2) (oi := ⟨some 19, .move (.tmp 8), _, _, _, none⟩) (v := .int .i64 (u : Int)) rfl (by kernel_rfl) (by kernel_rfl) (by kernel_rfl) (fun _ _ _ h => h) (Or.inl ⟨by rfl, fun _ _ => rfl⟩) hHeld ?_
  simp only [Act.put, List.setIfInBounds_toArray, List.set_cons_zero, List.set_cons_succ]
  refine wpAnyH_take (i := 3) (oi := ⟨some 20, .slice 25 (.tmp 18) (some (.tmp 19)) none none, _, _, _, none⟩) (v := .slice A3 (n - u) (c - u)) rfl (by kernel_rfl) (by kernel_rfl) (by kernel_rfl) (fun _ _ _ h => h) (Or.inl ⟨by rfl, fun w _ => by have h := HCU.out w; go_simp⟩) hHeld ?_
  simp only [Act.put, List.setIfInBounds_toArray, List.set_cons_zero, List.set_cons_succ]
  refine wpAnyH_take (i := 4) (oi := ⟨some 21, .move (.tmp 9), _, _, _, none⟩) (v := .int .i64 e) rfl (by kernel_rfl) (by kernel_rfl) (by kernel_rfl) (fun _ _ _ h => h) (Or.inl ⟨by rfl, fun _ _ => rfl⟩) hHeld ?_
  simp only [Act.put, List.setIfInBounds_toArray, List.set_cons_zero, List.set_cons_succ]
  refine wpAnyH_take (i := 5) (oi := ⟨some 4, .assign (.tmp 17), _, _, _, none⟩) (v := .slice A2 n2 c2) rfl (by kernel_rfl) (by kernel_rfl) (by kernel_rfl) (fun _ _ _ h => h) (Or.inl ⟨by rfl, fun _ _ => rfl⟩) hHeld ?_
  simp only [Act.put, List.setIfInBounds_toArray, List.set_cons_zero, List.set_cons_succ]
  refine wpAnyH_take (i := 6) (oi := ⟨some 5, .assign (.tmp 20), _, _, _, none⟩) (v := .slice A3 (n - u) (c - u)) rfl (by kernel_rfl) (by kernel_rfl) (by kernel_rfl) (fun _ _ _ h => h) (Or.inl ⟨by rfl, fun _ _ => rfl⟩) hHeld ?_
  simp only [Act.put, List.setIfInBounds_toArray, List.set_cons_zero, List.set_cons_succ]
  refine wpAnyH_take (i := 7) (oi := ⟨some 6, .assign (.tmp 21), _, _, _, none⟩) (v := .int .i64 e) rfl (by kernel_rfl) (by kernel_rfl) (by kernel_rfl) (fun _ _ _ h => h) (Or.inl ⟨by rfl, fun _ _ => rfl⟩) hHeld ?_
  simp only [Act.put, List.setIfInBounds_toArray, List.set_cons_zero, List.set_cons_succ]
  refine wpAnyH_done (by kernel_rfl) ?_ _
  clear hHeld
  go_wp2
  go_ret3
  exact ⟨A2, n2, c2, A3, _, _, rfl, p1, p2, p3, HB.out.1, HB.out.2, HSL.out _ l2, l2⟩
end Go.Proofs.YtjfphjgmphlbhaaDoor

/-
  THE WALK OF composed.
-/
namespace Go.Proofs.YtjfphjgmphlbhaaDoor
open Go.RowKit Go.ChangeShapes Go.WideShapes Go.ChangeAt

set_option maxRecDepth 100000 in
/-- s[u:], of whatever one-cell elements, whatever the capacity. -/
theorem cut_gen (ty : TypeId) {A : Option Addr} {n c u : Nat} {xs : List Value} (hty : Tryd.prog.underlying ty = some (.slice (Tryd.prog.elem ty))) (hsz : ∀ w : World, (sizeOf (Tryd.prog.elem ty)).run Tryd.prog w = .ok 1 w) (hu : u ≤ n) (hnc : n ≤ c) :
    ∃ A', (∀ w : World, (Instr.slice ty (.slice A n c) (some (.int .i64 u)) none none).run Tryd.prog w = .ok (.slice A' (n - u) (c - u)) w) ∧ ∀ w : World, Sl w 1 A n xs → Sl w 1 A' (n - u) (xs.drop u) := by
  refine ⟨if c = u then A else A.map (·.add u), fun w => ?_, fun w h => ?_⟩
  · have h1 := run_slice_l (P := Tryd.prog) (w := w) ty A n c hty .i64 u (by omega) (by omega)
    rw [h1, hsz w]
    simp [Result.andThen, sliced]
  · have h1 := h.cut (cap := c) hu hnc
    rw [Nat.mul_one] at h1
    by_cases hc : c = u
    · rw [if_pos hc] at h1 ⊢; exact h1
    · rw [if_neg hc] at h1 ⊢; exact h1
set_option maxRecDepth 100000 in
theorem Sl.cs {w : World} {size n : Nat} {ad : Addr} {xs : List Value} (h : Sl w size (some ad) n xs) (hn : 0 < n) : ∀ j u, xs[j]? = some u → w.cell? (ad.add j) = some u := by
  obtain ⟨_, e, _, hc⟩ := h.2 hn
  cases e; exact hc
set_option maxRecDepth 100000 in
theorem Sl.grown {w w' : World} {size n B : Nat} {xs : List Value} {row : Option Nat} (h : Sl w size (some ⟨B, 0, none⟩) n xs) (g : w.grownBy w' row) (hne : some B ≠ row) : Sl w' size (some ⟨B, 0, none⟩) n xs := by
  refine ⟨h.1, fun hn => ?_⟩
  obtain ⟨_, e, hb, hc⟩ := h.2 hn
  cases e
  have hblk := g.block B hb hne
  have hB' : B < w'.heap.size := by
    have h0 : w.heap[B]? = some w.heap[B] := Array.getElem?_eq_getElem hb
    rw [h0] at hblk
    exact (Array.getElem?_eq_some_iff.1 hblk).1
  refine ⟨_, rfl, hB', fun j u hu => ?_⟩
  have := hc j u hu
  unfold World.cell? at this ⊢
  rw [show ((⟨B, 0, none⟩ : Addr).add j).block = B from addr_add_block _ _] at this ⊢
  rw [hblk]; exact this
set_option maxRecDepth 100000 in
theorem own_only2 {w w' : World} {base B : Nat} {e : TypeId} {size n : Nat} {v : Value} {xs : List Value} (h : w.ownsRow base e size v n xs) (k : Only B w w') (hne : ∀ g, v.ownBlock = some g → g ≠ B) : w'.ownsRow base e size v n xs := by
  refine ⟨h.1, ?_⟩
  rcases h.2 with h2 | ⟨g, cap, cur, rfl, h2, h3, h4⟩
  · exact .inl h2
  · exact .inr ⟨g, cap, cur, rfl, h2, by rw [k.2.2.2.2 g (hne g rfl)]; exact h3, h4⟩
set_option maxRecDepth 100000 in
theorem wp_build1 {P : Program} {o : Oper} {a : Act} {w : World} {K : Act → World → Prop} {Q : Exit → Act → World → Prop} (t e : TypeId) (x : Operand) (ho : o.op = .buildSlice t 1 #[(0, x)])
    (X : Array Value) (ie : TypeInfo) (z : Value) (hu : P.underlying t = some (.slice e)) (hie : P.info? e = some ie) (hz : ie.zero = some z) (hs : ie.size = X.size) (hpos : 0 < X.size) (hsm : X.size ≤ 16777216)
    (hx : a.eval x = .agg X) (h : K (a.put o.dst (.slice (some ⟨w.heap.size, 0, none⟩) 1 1)) (w.alloc (.cells X e))) : o.wp P a w K Q := by
  refine wp_buildSlice t e 1 _ ho X ie z hu hie hz (by rw [hs]; omega) (by rw [hs]; omega) ?_ h
  have e1 : (#[(0, x)].map fun (i, x) => (i, a.eval x)).toList = [(0, Value.agg X)] := by simp [hx]
  rw [e1, hs, Nat.one_mul]
  simp only [Instr.fill, Value.cells, Nat.zero_mul]
  rw [if_neg (by simp)]
  congr 1
  apply Array.ext'
  rw [← Array.foldl_toList, Array.toList_zipIdx]
  rw [foldl_set X.toList 0 _ (by simp)]
  simp

set_option maxRecDepth 100000 in
theorem sl_rowS (w : World) (s : ByteArray) (cap : Nat) (e : TypeId) (fr : Nat × Nat) : Sl (w.drew.alloc (.cells (bytesRow s cap) e fr)) 1 (some ⟨w.heap.size, 0, none⟩) s.size (U (Wm.ofS s)) := by
  have h := heap_alloc_new w.drew (.cells (bytesRow s cap) e fr)
  refine ⟨by rw [U_length, Wm.ofS_length, Nat.mul_one], fun _ => ⟨_, rfl, Nat.lt_of_lt_of_eq (Nat.lt_succ_self _) (Eq.symm (by simp)), fun j u hu => ?_⟩⟩
  rw [Addr.add_mid]
  unfold World.cell?
  show (match (w.drew.alloc _).heap[w.drew.heap.size]? with | some (.cells c _ _) => c[0 + j]? | _ => none) = some u
  rw [h, Nat.zero_add]
  show (bytesRow s cap)[j]? = some u
  have e1 : U (Wm.ofS s) = (s.data.map fun b => Value.int .u8 b.toNat).toList := by simp [U, Wm.ofS]
  rw [e1, Array.getElem?_toList] at hu
  obtain ⟨hj, _⟩ := Array.getElem?_eq_some_iff.1 hu
  unfold bytesRow
  rw [Array.getElem?_append_left hj, hu]
set_option maxRecDepth 100000 in
/-- []byte of a string, at the operation. -/
theorem wp_strb {o : Oper} {a : Act} {w : World} {K : Act → World → Prop} {Q : Exit → Act → World → Prop} (x : Operand) (ho : o.op = .convert 9 25 x) (s : ByteArray) (hx : a.eval x = .string s)
    (h : ∀ cap w', Sl w' 1 (some ⟨w.heap.size, 0, none⟩) s.size (U (Wm.ofS s)) → Later w w' → K (a.put o.dst (.slice (some ⟨w.heap.size, 0, none⟩) s.size cap)) w') : o.wp Tryd.prog a w K Q := by
  have hr := run_bytes_of_string (P := Tryd.prog) w 9 25 5 s Tryd.underlying9 Tryd.underlying25 Tryd.underlying5
  unfold Oper.wp execOp
  simp only [ho, hx, Sem.run_bind, Sem.run_pure, hr, Result.andThen_ok]
  exact h _ _ (sl_rowS w s _ _ _) ((Below.refl _ _).drew.alloc (Nat.le_refl _) _)
set_option maxRecDepth 100000 in
theorem img_one (a b : Int) (A : Option Addr) (n c : Nat) (B : Option Addr) (m d : Nat) : ∀ v ∈ [Value.int .i64 a, .int .i64 b, .slice A n c, .slice B m d], v.oneCell' = true := by
  intro v hv
  simp only [List.mem_cons, List.not_mem_nil, or_false] at hv
  rcases hv with rfl | rfl | rfl | rfl <;> rfl
set_option maxRecDepth 100000 in
theorem seg_one (a : Int) (s : ByteArray) : ∀ u ∈ [Value.int .i64 a, .string s], u.oneCell' = true := by
  intro u hu
  simp only [List.mem_cons, List.not_mem_nil, or_false] at hu
  rcases hu with rfl | rfl <;> rfl
set_option maxRecDepth 100000 in
theorem seg_info : (Tryd.prog.info? 47).map (fun i => (i.zero, i.size, i.bytes)) = some (some (.agg #[.int .i64 0, .string ⟨#[]⟩]), 2, 24) := by kernel_rfl
set_option maxRecDepth 100000 in
theorem own_only1 {w w' : World} {base B : Nat} {e : TypeId} {size n g c m : Nat} {xs : List Value} (h : w.ownsRow base e size (.slice (some ⟨g, 0, none⟩) n c) m xs) (k : Only B w w') (hne : g ≠ B) : w'.ownsRow base e size (.slice (some ⟨g, 0, none⟩) n c) m xs := by
  refine ⟨h.1, ?_⟩
  rcases h.2 with h2 | ⟨g2, cap, cur, h1, h2, h3, h4⟩
  · exact .inl h2
  · refine .inr ⟨g2, cap, cur, h1, h2, ?_, h4⟩
    have : g = g2 := by injection h1 with h1; injection h1 with h1; injection h1
    rw [k.2.2.2.2 g2 (by rw [← this]; exact hne)]
    exact h3
set_option maxRecDepth 100000 in
theorem Gs_snoc (L : List Im.Seg) (x : Im.Seg) : Gs (L ++ [x]) = Gs L ++ [.int .i64 x.1, .string x.2] := by unfold Gs; rw [List.flatMap_append]; simp [Gc]
set_option maxRecDepth 100000 in
/-- An image made, and whether. -/
def zImg : Value := .agg #[.int .i64 0, .int .i64 0, .slice none 0 0, .slice none 0 0]
set_option maxRecDepth 100000 in
set_option maxHeartbeats 2000000 in
theorem comp_any (adN : Addr) (B : Option Addr) (nA cA nB cB : Nat) (en p s : Int) (pl : List Int) (ts : List Wm.Bs) (w : World) (hN : Sl w 1 (some adN) nA (N64 (en :: p :: s :: pl))) (hT : Sl w 1 B nB (T64 ts))
    (hnc : nA ≤ cA) (_hcA : cA ≤ maxLen) (hnB : nB ≤ cB) (_hcB : cB ≤ maxLen) (hA6 : nA ≤ 1000000) (hB6 : nB ≤ 1000000) (hs0 : 0 ≤ s) (hs1 : (nB : Int) - pl.length = s) (b : Bool) (hb : b = decide (∀ t ∈ ts.drop pl.length, t.length = 128)) (hbs : ∀ t ∈ ts, Wm.isBs t) (hle : ∀ t ∈ ts, t.length ≤ 9223372036854775807)
    (hpl : ∀ x ∈ pl, -9223372036854775808 ≤ x ∧ x ≤ 9223372036854775807) (hen : -9223372036854775808 ≤ en ∧ en ≤ 9223372036854775807) (hp : -9223372036854775808 ≤ p ∧ p ≤ 9223372036854775807) :
    Calls Tryd.prog 36 #[.slice (some adN) nA cA, .slice B nB cB] w fun e w' => ((b = true ∧ ∃ v, e = .returned (.tuple #[v, .bool true]) ∧ Img w' v ⟨en, p, Im.zS pl ts pl.length, Im.dK ts pl.length s.toNat, s.toNat⟩) ∨ (b = false ∧ e = .returned (.tuple #[zImg, .bool false]))) ∧ Later w w' := by
  obtain ⟨sN, rfl⟩ := Int.eq_ofNat_of_zero_le hs0
  rw [Int.toNat_natCast]
  have hlN : nA = pl.length + 3 := by have := hN.1; simp [N64] at this; omega
  have hlT : nB = ts.length := by have := hT.1; simp [T64] at this; omega
  obtain ⟨sI, hgi, hgz, hgs, hgb⟩ := info_parts seg_info
  obtain ⟨gI, gPi, gPz, gPs, gPb⟩ := info_parts page_info
  have HP := Lib.hid (show _ ∧ _ ∧ _ ∧ _ from ⟨gPi, gPz, gPs, gPb⟩)
  clear gPi gPz gPs gPb
  have HG := Lib.hid (show _ ∧ _ ∧ _ ∧ _ from ⟨hgi, hgz, hgs, hgb⟩)
  obtain ⟨A9, hA9⟩ : ∃ A9, A9 = (if cA = 3 then some adN else some ⟨adN.block, adN.off + 3, none⟩) := ⟨_, rfl⟩
  have HA9 := Lib.hid hA9.symm
  have HP9 := Lib.hid fun w' (hl : Later w w') => (show Sl w' 1 A9 (nA - 3) (N64 pl) by
    have h := (hN.keep hl).cut (k := 3) (cap := cA) (by omega) hnc
    rw [hA9]
    exact h)
  clear hA9
  have CN := Lib.hid fun w' (hl : Later w w') => (show w'.cell? adN = some (.int .i64 en) ∧ w'.cell? ⟨adN.block, adN.off + 1, none⟩ = some (.int .i64 p) ∧ w'.cell? ⟨adN.block, adN.off + 2, none⟩ = some (.int .i64 (sN : Int)) from by
    obtain ⟨_, e, _, hc⟩ := (hN.keep hl).2 (by omega)
    cases e
    exact ⟨hc 0 _ rfl, hc 1 _ rfl, hc 2 _ rfl⟩)
  have HT0 := Lib.hid fun w' (hl : Later w w') => hT.keep hl
  have hpl3 : nA - 3 = pl.length := by omega
  have hs1' : (nB : Int) - ((nA - 3 : Nat) : Int) = (sN : Int) := by omega
  obtain ⟨n3, hn3⟩ : ∃ n3, n3 = nA - 3 := ⟨_, rfl⟩
  have HN3 := Lib.hid hn3.symm
  have HLT := Lib.hid hlT
  have HPL := Lib.hid hpl
  have HBS := Lib.hid hbs
  have HLE := Lib.hid hle
  have HB := Lib.hid hb
  rw [← hn3] at HP9 hs1' hpl3
  have hnA3 : ¬ ((nA : Int) < 3) := by omega
  have hs00 : ¬ ((sN : Int) < 0) := by omega
  have hn36 : n3 ≤ 1000000 := by omega
  have e1 : decide ((sN : Int) < 0) = false := decide_eq_false (by omega)
  have HP3 := Lib.hid hpl3
  have e0 : (((nB : Int) - (n3 : Int)) != (sN : Int)) = false := by rw [hs1']; simp
  have bR := Blk.new w 29 #[.int .i64 0, .int .i64 0, .slice none 0 0, .slice none 0 0] [.int .i64 0, .int .i64 0, .slice none 0 0, .slice none 0 0] rfl
  have l0 := later1 w (.cells #[.int .i64 0, .int .i64 0, .slice none 0 0, .slice none 0 0] 29)
  have hnz : nA ≠ 0 := by omega
  have hnz1 : (1 : Int) < (nA : Int) := by omega
  have hnz2 : (2 : Int) < (nA : Int) := by omega
  have hnz : nA ≠ 0 := by omega
  have hnz1 : (1 : Int) < (nA : Int) := by omega
  have hnz2 : (2 : Int) < (nA : Int) := by omega
  clear hN hT hgi hgz hgs hgb hpl hb hbs hle hlT hn3 hlN hs1 hpl3
  go_enter Tryd.func36, Tryd.ntmps36
  go_wp2
  refine wp_region_held_drew (S := fun w' => w'.cell? adN = some (.int .i64 en) ∧ w'.cell? ⟨adN.block, adN.off + 1, none⟩ = some (.int .i64 p) ∧ w'.cell? ⟨adN.block, adN.off + 2, none⟩ = some (.int .i64 (sN : Int))) (by kernel_rfl) (CN.out _ l0.drew) (fun hHeld => ?_)
  refine wpAnyH_take (i := 0) (oi := ⟨some 19, .move (.tmp 0), _, _, _, none⟩) (v := .slice (some adN) nA cA) rfl (by kernel_rfl) (by kernel_rfl) (by kernel_rfl) (fun _ _ _ h => h) (Or.inl ⟨by rfl, fun _ _ => rfl⟩) hHeld ?_
  simp only [Act.put, List.setIfInBounds_toArray, List.set_cons_zero, List.set_cons_succ]
  refine wpAnyH_take (i := 1) (oi := ⟨some 20, .indexAddr 44 (.tmp 19) (.const (.int .i64 0)), _, _, _, none⟩) (v := .pointer (some adN)) rfl (by kernel_rfl) (by kernel_rfl) (by kernel_rfl) (fun _ _ _ h => h) (Or.inl ⟨by rfl, fun w _ => by go_simp⟩) hHeld ?_
  simp only [Act.put, List.setIfInBounds_toArray, List.set_cons_zero, List.set_cons_succ]
  refine wpAnyH_take (i := 2) (oi := ⟨some 21, .load 3 (.tmp 20), _, _, _, none⟩) (v := .int .i64 en) rfl (by kernel_rfl) (by kernel_rfl) (by kernel_rfl) (fun _ _ _ h => h) (Or.inl ⟨by rfl, fun w hS => by have h0 := hS.1; go_simp⟩) hHeld ?_
  simp only [Act.put, List.setIfInBounds_toArray, List.set_cons_zero, List.set_cons_succ]
  refine wpAnyH_take (i := 3) (oi := ⟨some 22, .move (.tmp 0), _, _, _, none⟩) (v := .slice (some adN) nA cA) rfl (by kernel_rfl) (by kernel_rfl) (by kernel_rfl) (fun _ _ _ h => h) (Or.inl ⟨by rfl, fun _ _ => rfl⟩) hHeld ?_
  simp only [Act.put, List.setIfInBounds_toArray, List.set_cons_zero, List.set_cons_succ]
  refine wpAnyH_take (i := 4) (oi := ⟨some 23, .indexAddr 44 (.tmp 22) (.const (.int .i64 1)), _, _, _, none⟩) (v := .pointer (some ⟨adN.block, adN.off + 1, none⟩)) rfl (by kernel_rfl) (by kernel_rfl) (by kernel_rfl) (fun _ _ _ h => h) (Or.inl ⟨by rfl, fun w _ => by go_simp⟩) hHeld ?_
  simp only [Act.put, List.setIfInBounds_toArray, List.set_cons_zero, List.set_cons_succ]
  refine wpAnyH_take (i := 5) (oi := ⟨some 24, .load 3 (.tmp 23), _, _, _, none⟩) (v := .int .i64 p) rfl (by kernel_rfl) (by kernel_rfl) (by kernel_rfl) (fun _ _ _ h => h) (Or.inl ⟨by rfl, fun w hS => by have h0 := hS.2.1; go_simp⟩) hHeld ?_
  simp only [Act.put, List.setIfInBounds_toArray, List.set_cons_zero, List.set_cons_succ]
  refine wpAnyH_take (i := 6) (oi := ⟨some 25, .move (.tmp 0), _, _, _, none⟩) (v := .slice (some adN) nA cA) rfl (by kernel_rfl) (by kernel_rfl) (by kernel_rfl) (fun _ _ _ h => h) (Or.inl ⟨by rfl, fun _ _ => rfl⟩) hHeld ?_
  simp only [Act.put, List.setIfInBounds_toArray, List.set_cons_zero, List.set_cons_succ]
  refine wpAnyH_take (i := 7) (oi := ⟨some 26, .indexAddr 44 (.tmp 25) (.const (.int .i64 2)), _, _, _, none⟩) (v := .pointer (some ⟨adN.block, adN.off + 2, none⟩)) rfl (by kernel_rfl) (by kernel_rfl) (by kernel_rfl) (fun _ _ _ h => h) (Or.inl ⟨by rfl, fun w _ => by go_simp⟩) hHeld ?_
  simp only [Act.put, List.setIfInBounds_toArray, List.set_cons_zero, List.set_cons_succ]
  refine wpAnyH_take (i := 8) (oi := ⟨some 27, .load 3 (.tmp 26), _, _, _, none⟩) (v := .int .i64 (sN : Int)) rfl (by kernel_rfl) (by kernel_rfl) (by kernel_rfl) (fun _ _ _ h => h) (Or.inl ⟨by rfl, fun w hS => by have h0 := hS.2.2; go_simp⟩) hHeld ?_
  simp only [Act.put, List.setIfInBounds_toArray, List.set_cons_zero, List.set_cons_succ]
  refine wpAnyH_take (i := 9) (oi := ⟨some 28, .move (.tmp 0), _, _, _, none⟩) (v := .slice (some adN) nA cA) rfl (by kernel_rfl) (by kernel_rfl) (by kernel_rfl) (fun _ _ _ h => h) (Or.inl ⟨by rfl, fun _ _ => rfl⟩) hHeld ?_
  simp only [Act.put, List.setIfInBounds_toArray, List.set_cons_zero, List.set_cons_succ]
  refine wpAnyH_take (i := 10) (oi := ⟨some 29, .slice 44 (.tmp 28) (some (.const (.int .i64 3))) none none, _, _, _, none⟩) (v := .slice A9 n3 (cA - 3)) rfl (by kernel_rfl) (by kernel_rfl) (by kernel_rfl) (fun _ _ _ h => h) (Or.inl ⟨by rfl, fun w _ => by have h := HA9.out; have h2 := HN3.out; go_simp⟩) hHeld ?_
  simp only [Act.put, List.setIfInBounds_toArray, List.set_cons_zero, List.set_cons_succ]
  refine wpAnyH_take (i := 11) (oi := ⟨some 6, .assign (.tmp 21), _, _, _, none⟩) (v := .int .i64 en) rfl (by kernel_rfl) (by kernel_rfl) (by kernel_rfl) (fun _ _ _ h => h) (Or.inl ⟨by rfl, fun _ _ => rfl⟩) hHeld ?_
  simp only [Act.put, List.setIfInBounds_toArray, List.set_cons_zero, List.set_cons_succ]
  refine wpAnyH_take (i := 12) (oi := ⟨some 7, .assign (.tmp 24), _, _, _, none⟩) (v := .int .i64 p) rfl (by kernel_rfl) (by kernel_rfl) (by kernel_rfl) (fun _ _ _ h => h) (Or.inl ⟨by rfl, fun _ _ => rfl⟩) hHeld ?_
  simp only [Act.put, List.setIfInBounds_toArray, List.set_cons_zero, List.set_cons_succ]
  refine wpAnyH_take (i := 13) (oi := ⟨some 8, .assign (.tmp 27), _, _, _, none⟩) (v := .int .i64 (sN : Int)) rfl (by kernel_rfl) (by kernel_rfl) (by kernel_rfl) (fun _ _ _ h => h) (Or.inl ⟨by rfl, fun _ _ => rfl⟩) hHeld ?_
  simp only [Act.put, List.setIfInBounds_toArray, List.set_cons_zero, List.set_cons_succ]
  refine wpAnyH_take (i := 14) (oi := ⟨some 9, .assign (.tmp 29), _, _, _, none⟩) (v := .slice A9 n3 (cA - 3)) rfl (by kernel_rfl) (by kernel_rfl) (by kernel_rfl) (fun _ _ _ h => h) (Or.inl ⟨by rfl, fun _ _ => rfl⟩) hHeld ?_
  simp only [Act.put, List.setIfInBounds_toArray, List.set_cons_zero, List.set_cons_succ]
  refine wpAnyH_done (by kernel_rfl) ?_ _
  clear hHeld
  go_wp2
  replace bR := bR.drew
  replace l0 : Later w (w.alloc (.cells #[.int .i64 0, .int .i64 0, .slice none 0 0, .slice none 0 0] 29)).drew := l0.drew
  have bI := Blk.new' (w.alloc (.cells #[.int .i64 0, .int .i64 0, .slice none 0 0, .slice none 0 0] 29)).drew (w.heap.size + 1) 29 #[.int .i64 en, .int .i64 p, .slice none 0 0, .slice none 0 0] [.int .i64 en, .int .i64 p, .slice none 0 0, .slice none 0 0] (by simp) rfl
  replace bR := bR.alloc (.cells #[.int .i64 en, .int .i64 p, .slice none 0 0, .slice none 0 0] 29)
  replace l0 := l0.alloc l0.size (.cells #[.int .i64 en, .int .i64 p, .slice none 0 0, .slice none 0 0] 29)
  obtain ⟨B10, hB10⟩ : ∃ B, B = w.heap.size + 1 := ⟨_, rfl⟩
  rw [← hB10] at bI ⊢
  have hB11 : w.heap.size < B10 := by omega
  clear hB10 CN HA9
  go_loopw [47] (fun i wr => ∃ (k : Nat) (vS : Value), k ≤ n3 ∧ i = .int .i64 (k : Int) ∧ wr.ownsRow w.heap.size 47 2 vS k (Gs (Im.zS pl ts k)) ∧ Hid (∀ g, vS.ownBlock = some g → B10 < g) ∧ Blk wr B10 29 [.int .i64 en, .int .i64 p, vS, .slice none 0 0] ∧ Blk wr w.heap.size 29 [.int .i64 0, .int .i64 0, .slice none 0 0, .slice none 0 0] ∧ Later w wr) (fun i _ => n3 - (intOf i).toNat)
  case atStart => exact ⟨0, .slice none 0 0, Nat.zero_le _, rfl, World.ownsRow_nil _ _ _ _, Lib.hid (fun g h => by cases h), bI, bR, l0⟩
  case round =>
    clear bI bR l0
    obtain ⟨k, vS, hk, rfl, oS, FAR, bI, bR, lr⟩ := hrel
    by_cases hlt : k < n3
    · have hkl : k < pl.length := by rw [← HP3.out]; exact hlt
      have hkt : k < nB := by omega
      obtain ⟨ad9, rfl⟩ := (HP9.out _ lr).addr (by omega)
      obtain ⟨adT, rfl⟩ := (HT0.out _ lr).addr (by omega)
      have hc9 : wr.cell? (ad9.add k) = some (.int .i64 pl[k]) := by
        obtain ⟨_, e, _, hc⟩ := (HP9.out _ lr).2 (by omega)
        cases e
        exact hc k _ (by simp [N64, hkl])
      have hktl : k < ts.length := by rw [← HLT.out]; exact hkt
      have HTK := Lib.hid fun w' (hl : Later w w') => (show w'.cell? (adT.add k) = some (.string (strOfNums ts[k])) from by
        obtain ⟨_, e, _, hc⟩ := (HT0.out _ hl).2 (by omega)
        cases e
        exact hc k _ (by simp [T64, hktl]))
      have HZ := Lib.hid (show Gs (Im.zS pl ts (k + 1)) = Gs (Im.zS pl ts k) ++ [.int .i64 pl[k], .string (strOfNums ts[k])] by
        rw [Im.zS_succ, Gs_snoc]
        simp only [List.getD_eq_getElem?_getD, List.getElem?_eq_getElem hkl, List.getElem?_eq_getElem hktl, Option.getD_some])
      obtain ⟨a, ha⟩ : ∃ a, a = pl[k] := ⟨_, rfl⟩
      obtain ⟨t, ht⟩ : ∃ t, t = ts[k] := ⟨_, rfl⟩
      rw [← ha] at hc9 HZ
      rw [← ht] at HTK HZ
      clear ha ht
      have kn : (k : Int) < (n3 : Int) := by omega
      have kt : (k : Int) < (nB : Int) := by omega
      have hx1 : ∀ g (H : Nat) (_ : B10 < H), (vS.ownBlock = some g ∨ g = H) → B10 < g := fun g H hH h => by
        rcases h with h | h
        · exact FAR.out g h
        · omega
      have hBq := bI.lt
      have hcq := bI.cell (j := 2) (v := vS) rfl
      go_wp2
      replace bI := bI.drew; replace bR := bR.drew
      replace oS : wr.drew.ownsRow w.heap.size 47 2 vS k (Gs (Im.zS pl ts k)) := oS
      replace lr : Later w wr.drew := lr.drew
      refine wp_region_held_drew (S := fun w' => w'.cell? (adT.add k) = some (.string (strOfNums t))) (by kernel_rfl) (HTK.out _ lr) (fun hHeld => ?_)
      refine wpAnyH_take (i := 0) (oi := ⟨some 52, .fieldAddr 29 (.tmp 10) 2, _, _, _, none⟩) (v := .pointer (some ⟨B10, 2, none⟩)) rfl (by kernel_rfl) (by kernel_rfl) (by kernel_rfl) (fun _ _ _ h => h) (Or.inl ⟨by rfl, fun w _ => by go_simp⟩) hHeld ?_
      simp only [Act.put, List.setIfInBounds_toArray, List.set_cons_zero, List.set_cons_succ]
      refine wpAnyH_take (i := 2) (oi := ⟨some 54, .move (.tmp 12), _, _, _, none⟩) (v := .int .i64 a) rfl (by kernel_rfl) (by kernel_rfl) (by kernel_rfl) (fun _ _ _ h => h) (Or.inl ⟨by rfl, fun _ _ => rfl⟩) hHeld ?_
      simp only [Act.put, List.setIfInBounds_toArray, List.set_cons_zero, List.set_cons_succ]
      refine wpAnyH_take (i := 3) (oi := ⟨some 55, .move (.tmp 1), _, _, _, none⟩) (v := .slice (some adT) nB cB) rfl (by kernel_rfl) (by kernel_rfl) (by kernel_rfl) (fun _ _ _ h => h) (Or.inl ⟨by rfl, fun _ _ => rfl⟩) hHeld ?_
      simp only [Act.put, List.setIfInBounds_toArray, List.set_cons_zero, List.set_cons_succ]
      refine wpAnyH_take (i := 4) (oi := ⟨some 56, .move (.tmp 11), _, _, _, none⟩) (v := .int .i64 (k : Int)) rfl (by kernel_rfl) (by kernel_rfl) (by kernel_rfl) (fun _ _ _ h => h) (Or.inl ⟨by rfl, fun _ _ => rfl⟩) hHeld ?_
      simp only [Act.put, List.setIfInBounds_toArray, List.set_cons_zero, List.set_cons_succ]
      refine wpAnyH_take (i := 5) (oi := ⟨some 57, .indexAddr 83 (.tmp 55) (.tmp 56), _, _, _, none⟩) (v := .pointer (some (adT.add k))) rfl (by kernel_rfl) (by kernel_rfl) (by kernel_rfl) (fun _ _ _ h => h) (Or.inl ⟨by rfl, fun w _ => by go_simp⟩) hHeld ?_
      simp only [Act.put, List.setIfInBounds_toArray, List.set_cons_zero, List.set_cons_succ]
      refine wpAnyH_take (i := 6) (oi := ⟨some 58, .load 9 (.tmp 57), _, _, _, none⟩) (v := .string (strOfNums t)) rfl (by kernel_rfl) (by kernel_rfl) (by kernel_rfl) (fun _ _ _ h => h) (Or.inl ⟨by rfl, fun w hS => by have h0 := hS; go_simp⟩) hHeld ?_
      simp only [Act.put, List.setIfInBounds_toArray, List.set_cons_zero, List.set_cons_succ]
      refine wpAnyH_take (i := 7) (oi := ⟨some 59, .build 47 #[(0, .tmp 54), (1, .tmp 58)], _, _, _, none⟩) (v := .agg #[.int .i64 a, .string (strOfNums t)]) rfl (by kernel_rfl) (by kernel_rfl) (by kernel_rfl) (fun _ _ _ h => h) (Or.inl ⟨by rfl, fun w _ => by go_simp⟩) hHeld ?_
      simp only [Act.put, List.setIfInBounds_toArray, List.set_cons_zero, List.set_cons_succ]
      refine wpAnyH_ready (rs := [1, 8]) (by kernel_rfl) (by simp) (AllReadyH.cons (o := ⟨some 53, .load 27 (.tmp 52), _, _, _, none⟩) rfl (fun K' hK => ?_) (AllReadyH.cons (o := ⟨some 60, .buildSlice 27 1 #[(0, .tmp 59)], _, _, _, none⟩) rfl (fun K' hK => ?_) AllReadyH.nil))
      · go_simp
        refine hK.out _ _ (HTK.out _ lr) (fun hHeld => ?_)
        clear hK K'
        try simp only [Act.put, List.setIfInBounds_toArray, List.set_cons_zero, List.set_cons_succ]
        refine wpAnyH_ready (rs := [8]) (by kernel_rfl) (by simp) (AllReadyH.cons (o := ⟨some 60, .buildSlice 27 1 #[(0, .tmp 59)], _, _, _, none⟩) rfl (fun K' hK => ?_) AllReadyH.nil)
        go_simp
        replace bI := bI.alloc (.cells #[.int .i64 a, .string (strOfNums t)] 47)
        replace bR := bR.alloc (.cells #[.int .i64 a, .string (strOfNums t)] 47)
        replace oS := oS.alloc (.cells #[.int .i64 a, .string (strOfNums t)] 47)
        replace lr := lr.alloc lr.size (.cells #[.int .i64 a, .string (strOfNums t)] 47)
        have bN := Blk.new wr 47 #[.int .i64 a, .string (strOfNums t)] [.int .i64 a, .string (strOfNums t)] rfl
        refine hK.out _ _ (HTK.out _ lr) (fun hHeld => ?_)
        clear hK K'
        try simp only [Act.put, List.setIfInBounds_toArray, List.set_cons_zero, List.set_cons_succ]
        refine wpAnyH_ready (rs := [9]) (by kernel_rfl) (by simp) (AllReadyH.cons (o := ⟨some 61, .call { callee := .builtin .append, args := #[.tmp 53, .tmp 60], argTypes := #[27, 27] }, _, _, _, none⟩) rfl (fun K' hK => ?_) AllReadyH.nil)
        refine wp_append_lies _ (.tmp 53) (.tmp 60) 27 rfl w.heap.size 47 sI _ 2 24 Tryd.underlying27 HG.out.1 HG.out.2.1 HG.out.2.2.1 HG.out.2.2.2 rfl (by decide) vS k (Gs (Im.zS pl ts k)) rfl oS ⟨wr.heap.size, 0, none⟩ 1 1 [.int .i64 a, .string (strOfNums t)] rfl rfl (news_blk bN) (seg_one _ _) (by decide) (by unfold maxLen; omega) (by omega) lr.size _ rfl ?_
        intro g1 cap1 wa own1 grow1 hat1 hlt1
        have lr1 := lr.grown grow1 lr.size (fun b hb => (oS.lt b hb).1)
        have bI1 := bI.grown grow1 (fun e => by have := FAR.out _ e.symm; omega)
        have bR1 := bR.grown grow1 (fun e => by have := FAR.out _ e.symm; omega)
        have cI := bI1.cell (j := 2) (v := vS) rfl
        have fI := bI1.frz 2
        replace lr := lr1
        clear lr1
        refine hK.out _ _ (HTK.out _ lr) (fun hHeld => ?_)
        clear hK K'
        try simp only [Act.put, List.setIfInBounds_toArray, List.set_cons_zero, List.set_cons_succ]
        refine wpAnyH_take (i := 10) (oi := ⟨some 62, .fieldAddr 29 (.tmp 10) 2, _, _, _, none⟩) (v := .pointer (some ⟨B10, 2, none⟩)) rfl (by kernel_rfl) (by kernel_rfl) (by kernel_rfl) (fun _ _ _ h => h) (Or.inl ⟨by rfl, fun w _ => by go_simp⟩) hHeld ?_
        simp only [Act.put, List.setIfInBounds_toArray, List.set_cons_zero, List.set_cons_succ]
        refine wpAnyH_ready (rs := [11]) (by kernel_rfl) (by simp) (AllReadyH.cons (o := ⟨none, .store 27 (.tmp 62) (.tmp 61), _, _, _, none⟩) rfl (fun K' hK => ?_) AllReadyH.nil)
        go_simp
        replace lr := lr.setCell (p := ⟨B10, 2, none⟩) (by show w.heap.size ≤ B10; omega) (.slice (some ⟨g1, 0, none⟩) (k + 1) cap1)
        replace bI1 := bI1.set 2 (.slice (some ⟨g1, 0, none⟩) (k + 1) cap1)
        replace bR1 := bR1.set_other ⟨B10, 2, none⟩ (.slice (some ⟨g1, 0, none⟩) (k + 1) cap1) (by show w.heap.size ≠ B10; omega)
        replace own1 := own_only1 own1 (Only.set wa B10 2 (.slice (some ⟨g1, 0, none⟩) (k + 1) cap1)) (by have := hx1 _ _ (by simp; omega) hat1; omega)
        refine hK.out _ _ (HTK.out _ lr) (fun hHeld => ?_)
        clear hK K'
        try simp only [Act.put, List.setIfInBounds_toArray, List.set_cons_zero, List.set_cons_succ]
        refine wpAnyH_done (by kernel_rfl) ?_ _
        clear hHeld
        go_wp2
        go_roundw
        case rel => exact ⟨k + 1, .slice (some ⟨g1, 0, none⟩) (k + 1) cap1, by omega, by go_num, by rw [HZ.out]; exact own1, Lib.hid (fun g e => by have := hx1 g1 _ (by simp; omega) hat1; simp [Value.ownBlock] at e; omega), bI1, bR1, lr⟩
        case measure => simp [intOf]; omega
      · go_simp
        replace bI := bI.alloc (.cells #[.int .i64 a, .string (strOfNums t)] 47)
        replace bR := bR.alloc (.cells #[.int .i64 a, .string (strOfNums t)] 47)
        replace oS := oS.alloc (.cells #[.int .i64 a, .string (strOfNums t)] 47)
        replace lr := lr.alloc lr.size (.cells #[.int .i64 a, .string (strOfNums t)] 47)
        have bN := Blk.new wr 47 #[.int .i64 a, .string (strOfNums t)] [.int .i64 a, .string (strOfNums t)] rfl
        refine hK.out _ _ (HTK.out _ lr) (fun hHeld => ?_)
        clear hK K'
        try simp only [Act.put, List.setIfInBounds_toArray, List.set_cons_zero, List.set_cons_succ]
        refine wpAnyH_ready (rs := [1]) (by kernel_rfl) (by simp) (AllReadyH.cons (o := ⟨some 53, .load 27 (.tmp 52), _, _, _, none⟩) rfl (fun K' hK => ?_) AllReadyH.nil)
        go_simp
        refine hK.out _ _ (HTK.out _ lr) (fun hHeld => ?_)
        clear hK K'
        try simp only [Act.put, List.setIfInBounds_toArray, List.set_cons_zero, List.set_cons_succ]
        refine wpAnyH_ready (rs := [9]) (by kernel_rfl) (by simp) (AllReadyH.cons (o := ⟨some 61, .call { callee := .builtin .append, args := #[.tmp 53, .tmp 60], argTypes := #[27, 27] }, _, _, _, none⟩) rfl (fun K' hK => ?_) AllReadyH.nil)
        refine wp_append_lies _ (.tmp 53) (.tmp 60) 27 rfl w.heap.size 47 sI _ 2 24 Tryd.underlying27 HG.out.1 HG.out.2.1 HG.out.2.2.1 HG.out.2.2.2 rfl (by decide) vS k (Gs (Im.zS pl ts k)) rfl oS ⟨wr.heap.size, 0, none⟩ 1 1 [.int .i64 a, .string (strOfNums t)] rfl rfl (news_blk bN) (seg_one _ _) (by decide) (by unfold maxLen; omega) (by omega) lr.size _ rfl ?_
        intro g1 cap1 wa own1 grow1 hat1 hlt1
        have lr1 := lr.grown grow1 lr.size (fun b hb => (oS.lt b hb).1)
        have bI1 := bI.grown grow1 (fun e => by have := FAR.out _ e.symm; omega)
        have bR1 := bR.grown grow1 (fun e => by have := FAR.out _ e.symm; omega)
        have cI := bI1.cell (j := 2) (v := vS) rfl
        have fI := bI1.frz 2
        replace lr := lr1
        clear lr1
        refine hK.out _ _ (HTK.out _ lr) (fun hHeld => ?_)
        clear hK K'
        try simp only [Act.put, List.setIfInBounds_toArray, List.set_cons_zero, List.set_cons_succ]
        refine wpAnyH_take (i := 10) (oi := ⟨some 62, .fieldAddr 29 (.tmp 10) 2, _, _, _, none⟩) (v := .pointer (some ⟨B10, 2, none⟩)) rfl (by kernel_rfl) (by kernel_rfl) (by kernel_rfl) (fun _ _ _ h => h) (Or.inl ⟨by rfl, fun w _ => by go_simp⟩) hHeld ?_
        simp only [Act.put, List.setIfInBounds_toArray, List.set_cons_zero, List.set_cons_succ]
        refine wpAnyH_ready (rs := [11]) (by kernel_rfl) (by simp) (AllReadyH.cons (o := ⟨none, .store 27 (.tmp 62) (.tmp 61), _, _, _, none⟩) rfl (fun K' hK => ?_) AllReadyH.nil)
        go_simp
        replace lr := lr.setCell (p := ⟨B10, 2, none⟩) (by show w.heap.size ≤ B10; omega) (.slice (some ⟨g1, 0, none⟩) (k + 1) cap1)
        replace bI1 := bI1.set 2 (.slice (some ⟨g1, 0, none⟩) (k + 1) cap1)
        replace bR1 := bR1.set_other ⟨B10, 2, none⟩ (.slice (some ⟨g1, 0, none⟩) (k + 1) cap1) (by show w.heap.size ≠ B10; omega)
        replace own1 := own_only1 own1 (Only.set wa B10 2 (.slice (some ⟨g1, 0, none⟩) (k + 1) cap1)) (by have := hx1 _ _ (by simp; omega) hat1; omega)
        refine hK.out _ _ (HTK.out _ lr) (fun hHeld => ?_)
        clear hK K'
        try simp only [Act.put, List.setIfInBounds_toArray, List.set_cons_zero, List.set_cons_succ]
        refine wpAnyH_done (by kernel_rfl) ?_ _
        clear hHeld
        go_wp2
        go_roundw
        case rel => exact ⟨k + 1, .slice (some ⟨g1, 0, none⟩) (k + 1) cap1, by omega, by go_num, by rw [HZ.out]; exact own1, Lib.hid (fun g e => by have := hx1 g1 _ (by simp; omega) hat1; simp [Value.ownBlock] at e; omega), bI1, bR1, lr⟩
        case measure => simp [intOf]; omega

    · obtain rfl : k = n3 := by omega
      have nlt : ¬ ((k : Int) < (k : Int)) := by omega
      have hkB : k ≤ nB := by omega
      obtain ⟨B9, hcu, hsl⟩ := cut_gen 83 (A := B) (n := nB) (c := cB) (u := k) (xs := T64 ts) Tryd.underlying83 (by intro w; kernel_rfl) hkB hnB
      have hsN : nB - k = sN := by omega
      rw [hsN] at hcu hsl
      have HT9 := Lib.hid fun w' (hl : Later w w') => hsl w' (HT0.out _ hl)
      clear hsl
      go_wp2
      have oD := World.ownsRow_nil wr w.heap.size 76 128
      clear hcu
      go_loopw [69] (fun i wq => ∃ (q : Nat) (vD : Value), q ≤ sN ∧ i = .int .i64 (q : Int) ∧ wq.ownsRow w.heap.size 76 128 vD q (U (Im.dK ts k q)) ∧ wq.ownsRow w.heap.size 47 2 vS k (Gs (Im.zS pl ts k)) ∧ Hid (∀ g, vD.ownBlock = some g → vS.ownBlock ≠ some g) ∧ Hid (∀ g, vD.ownBlock = some g → B10 < g) ∧ Hid (∀ j, j < q → (ts.getD (k + j) []).length = 128) ∧ Blk wq B10 29 [.int .i64 en, .int .i64 p, vS, vD] ∧ Blk wq w.heap.size 29 [.int .i64 0, .int .i64 0, .slice none 0 0, .slice none 0 0] ∧ Later w wq) (fun i _ => sN - (intOf i).toNat)
      case atStart => exact ⟨0, .slice none 0 0, Nat.zero_le _, rfl, oD, oS, Lib.hid (fun g h => by cases h), Lib.hid (fun g h => by cases h), Lib.hid (fun j h => by omega), bI, bR, lr⟩
      case round =>
        clear oD oS bI bR lr
        obtain ⟨q, vD, hq, rfl, oD, oS, SEP, FARD, HAL, bI, bR, lr⟩ := hrel
        by_cases hql : q < sN
        · obtain ⟨ad9, rfl⟩ := (HT9.out _ lr).addr (by omega)
          have hktl : k + q < ts.length := by rw [← HLT.out]; omega
          have hc9 : wr.cell? (ad9.add q) = some (.string (strOfNums ts[k + q])) := by
            obtain ⟨_, e, _, hc⟩ := (HT9.out _ lr).2 (by omega)
            cases e
            exact hc q _ (by rw [List.getElem?_drop]; simp [T64, hktl])
          have HZ := Lib.hid (show U (Im.dK ts k (q + 1)) = U (Im.dK ts k q) ++ U ts[k + q] by
            rw [Im.dK_succ, U_append]
            simp only [List.getD_eq_getElem?_getD, List.getElem?_eq_getElem hktl, Option.getD_some])
          have hXb := HBS.out ts[k + q] (List.getElem_mem hktl)
          have hXm : ts[k + q] ∈ ts.drop pl.length := by
            refine List.mem_of_getElem? (i := q) ?_
            rw [List.getElem?_drop, ← HP3.out]
            exact List.getElem?_eq_getElem hktl
          have hXg : ts.getD (k + q) [] = ts[k + q] := by simp only [List.getD_eq_getElem?_getD, List.getElem?_eq_getElem hktl, Option.getD_some]
          obtain ⟨X, hX⟩ : ∃ X, X = ts[k + q] := ⟨_, rfl⟩
          rw [← hX] at hc9 HZ hXb hXm hXg
          by_cases hXl : X.length = 128
          rotate_left
          · have hbf : b = false := by
              rw [HB.out]
              exact decide_eq_false (fun h => hXl (h X hXm))
            have hst : (((strOfNums X).size : Int) != 128) = true := by
              rw [Im.strN_size]
              simp
              omega
            obtain ⟨st, hst'⟩ : ∃ st, st = strOfNums X := ⟨_, rfl⟩
            rw [← hst'] at hc9 hst
            have HBF := Lib.hid hbf
            clear hst' hXl hXb hX hXm hXg hbf
            have kn : (q : Int) < (sN : Int) := by omega
            go_wp2_with (first
              | ((with_reducible refine wpList_store_abs (o := ⟨none, .store 29 (.tmp 4) (.tmp 76), _, _, _, none⟩) rfl _ _ _ rfl w.heap.size 29 [.int .i64 0, .int .i64 0, .slice none 0 0, .slice none 0 0] [.int .i64 0, .int .i64 0, .slice none 0 0, .slice none 0 0] ?_ ?_ bR (img_sz _ _ _ _) rfl (img_one _ _ _ _ _ _ _ _) ?_); rfl; rfl; intro wz bz oz))
            have lz : Later w wz := Below.only lr oz (Nat.le_refl _)
            exact bodyPost_ret (v := .tuple #[zImg, .bool false]) (results_cell_tmp Tryd.results36 _ _ w.heap.size 29 [.int .i64 0, .int .i64 0, .slice none 0 0, .slice none 0 0] _ _ rfl rfl bz Tryd.underlying29 rfl (img_sz _ _ _ _)) rfl ⟨.inr ⟨HBF.out, rfl⟩, lz⟩
          have HAX := Lib.hid (show ∀ j, j < q + 1 → (ts.getD (k + j) []).length = 128 from fun j hj => by
            by_cases hjq : j = q
            · rw [hjq, hXg]; exact hXl
            · exact HAL.out j (by omega))
          clear hXm hXg
          have HX := Lib.hid (show X.length = 128 ∧ Wm.isBs X from ⟨hXl, hXb⟩)
          clear hX
          have hst : (strOfNums X).size = 128 := by rw [Im.strN_size, hXl]
          obtain ⟨st, hst'⟩ : ∃ st, st = strOfNums X := ⟨_, rfl⟩
          rw [← hst'] at hc9 hst
          have HST := Lib.hid hst'
          clear hst' hXl hXb
          have kn : (q : Int) < (sN : Int) := by omega
          have hx1 : ∀ g (H : Nat) (_ : B10 < H), (vD.ownBlock = some g ∨ g = H) → B10 < g := fun g H hH h => by
            rcases h with h | h
            · exact FARD.out g h
            · omega
          have hBq := bI.lt
          have hcq := bI.cell (j := 3) (v := vD) rfl
          have hnD : ∀ g, vD.ownBlock = some g → g ≠ wr.heap.size := fun g e => Nat.ne_of_lt (oD.lt g e).2
          go_wp2
          replace bI := bI.drew; replace bR := bR.drew
          replace oD : wr.drew.ownsRow w.heap.size 76 128 vD q (U (Im.dK ts k q)) := oD
          replace oS : wr.drew.ownsRow w.heap.size 47 2 vS k (Gs (Im.zS pl ts k)) := oS
          replace lr : Later w wr.drew := lr.drew
          refine wp_region_held_drew (S := fun w' => True) (by kernel_rfl) trivial (fun hHeld => ?_)
          refine wpAnyH_take (i := 0) (oi := ⟨some 77, .fieldAddr 29 (.tmp 10) 3, _, _, _, none⟩) (v := .pointer (some ⟨B10, 3, none⟩)) rfl (by kernel_rfl) (by kernel_rfl) (by kernel_rfl) (fun _ _ _ h => h) (Or.inl ⟨by rfl, fun w _ => by go_simp⟩) hHeld ?_
          simp only [Act.put, List.setIfInBounds_toArray, List.set_cons_zero, List.set_cons_succ]
          refine wpAnyH_take (i := 2) (oi := ⟨some 79, .move (.tmp 14), _, _, _, none⟩) (v := .string st) rfl (by kernel_rfl) (by kernel_rfl) (by kernel_rfl) (fun _ _ _ h => h) (Or.inl ⟨by rfl, fun _ _ => rfl⟩) hHeld ?_
          simp only [Act.put, List.setIfInBounds_toArray, List.set_cons_zero, List.set_cons_succ]
          refine wpAnyH_ready (rs := [1, 3]) (by kernel_rfl) (by simp) (AllReadyH.cons (o := ⟨some 78, .load 22 (.tmp 77), _, _, _, none⟩) rfl (fun K' hK => ?_) (AllReadyH.cons (o := ⟨some 80, .convert 9 25 (.tmp 79), _, _, _, none⟩) rfl (fun K' hK => ?_) AllReadyH.nil))
          · go_simp
            refine hK.out _ _ trivial (fun hHeld => ?_)
            clear hK K'
            try simp only [Act.put, List.setIfInBounds_toArray, List.set_cons_zero, List.set_cons_succ]
            refine wpAnyH_ready (rs := [3]) (by kernel_rfl) (by simp) (AllReadyH.cons (o := ⟨some 80, .convert 9 25 (.tmp 79), _, _, _, none⟩) rfl (fun K' hK => ?_) AllReadyH.nil)
            refine wp_strb (.tmp 79) rfl st rfl ?_
            intro cap3 w3 s3 l3a
            replace s3 : Sl w3 1 (some ⟨wr.heap.size, 0, none⟩) 128 (U X) := by
              have h := s3
              rw [hst, HST.out, Wm.ofS_str HX.out.2] at h
              exact h
            replace bI := bI.keep l3a
            replace bR := bR.keep l3a
            replace oD := own_below oD l3a
            replace oS := own_below oS l3a
            replace lr := Later.trans_ lr l3a
            have hcq3 := bI.cell (j := 3) (v := vD) rfl
            have hw3 : wr.heap.size ≤ w3.heap.size := l3a.size
            refine hK.out _ _ trivial (fun hHeld => ?_)
            clear hK K'
            try simp only [Act.put, List.setIfInBounds_toArray, List.set_cons_zero, List.set_cons_succ]
            refine wpAnyH_more (S' := fun w' => ∀ j v, (U X)[j]? = some v → w'.cell? ((⟨wr.heap.size, 0, none⟩ : Addr).add j) = some v) (fun _ h => trivial) ?_
            replace hHeld := s3.cs (by decide)
            refine wpAnyH_take (i := 4) (oi := ⟨some 81, .sliceToArrayPointer 76 (.tmp 80), _, _, _, none⟩) (v := .pointer (some ⟨wr.heap.size, 0, none⟩)) rfl (by kernel_rfl) (by kernel_rfl) (by kernel_rfl) (fun _ _ _ h => h) (Or.inl ⟨by rfl, fun w _ => by have h := run_arrayAt (P := Tryd.prog) w 76 5 128 (some ⟨wr.heap.size, 0, none⟩) 128 cap3 Tryd.underlying76 (Nat.le_refl _); go_simp⟩) hHeld ?_
            simp only [Act.put, List.setIfInBounds_toArray, List.set_cons_zero, List.set_cons_succ]
            refine wpAnyH_take (i := 5) (oi := ⟨some 82, .load 76 (.tmp 81), _, _, _, none⟩) (v := .agg (U X).toArray) rfl (by kernel_rfl) (by kernel_rfl) (by kernel_rfl) (fun _ _ _ h => h) (yieldsIf_load_addr (by rfl) _ _ rfl ⟨wr.heap.size, 0, none⟩ (by rfl) (U X) _ (fun w h => h) Tryd.underlying76 rfl (page_sz HX.out.1)) hHeld ?_
            simp only [Act.put, List.setIfInBounds_toArray, List.set_cons_zero, List.set_cons_succ]
            refine wpAnyH_ready (rs := [6]) (by kernel_rfl) (by simp) (AllReadyH.cons (o := ⟨some 83, .buildSlice 22 1 #[(0, .tmp 82)], _, _, _, none⟩) rfl (fun K' hK => ?_) AllReadyH.nil)
            refine wp_build1 _ 76 _ rfl (U X).toArray gI _ Tryd.underlying22 HP.out.1 HP.out.2.1 (by rw [HP.out.2.2.1, List.size_toArray, U_length, HX.out.1]) (by rw [List.size_toArray, U_length, HX.out.1]; decide) (by rw [List.size_toArray, U_length, HX.out.1]; decide) rfl ?_
            replace bI := bI.alloc (.cells (U X).toArray 76)
            replace bR := bR.alloc (.cells (U X).toArray 76)
            replace oD := oD.alloc (.cells (U X).toArray 76)
            replace oS := oS.alloc (.cells (U X).toArray 76)
            replace lr := lr.alloc lr.size (.cells (U X).toArray 76)
            replace s3 := s3.alloc (.cells (U X).toArray 76)
            have bN := Blk.new w3 76 (U X).toArray (U X) rfl
            have hcq6 := bI.cell (j := 3) (v := vD) rfl
            refine hK.out _ _ (s3.cs (by decide)) (fun hHeld => ?_)
            clear hK K'
            try simp only [Act.put, List.setIfInBounds_toArray, List.set_cons_zero, List.set_cons_succ]
            refine wpAnyH_ready (rs := [7]) (by kernel_rfl) (by simp) (AllReadyH.cons (o := ⟨some 84, .call { callee := .builtin .append, args := #[.tmp 78, .tmp 83], argTypes := #[22, 22] }, _, _, _, none⟩) rfl (fun K' hK => ?_) AllReadyH.nil)
            refine wp_append_lies _ (.tmp 78) (.tmp 83) 22 rfl w.heap.size 76 gI _ 128 128 Tryd.underlying22 HP.out.1 HP.out.2.1 HP.out.2.2.1 HP.out.2.2.2 rfl (by decide) vD q (U (Im.dK ts k q)) rfl oD ⟨w3.heap.size, 0, none⟩ 1 1 (U X) rfl (by rw [U_length, HX.out.1]) (news_blk bN) (U_one _) (by decide) (by unfold maxLen; omega) (by omega) lr.size _ rfl ?_
            intro g1 cap1 wa own1 grow1 hat1 hlt1
            have oS1 := oS.kept grow1 (sep_ne SEP.out)
            have sep1 : ∀ g, g1 = g → vS.ownBlock ≠ some g := fun g hg e => by
              subst hg
              rcases hat1 with h | h
              · exact SEP.out g1 h e
              · have := (oS.lt g1 e).2
                omega
            have lr1 := lr.grown grow1 lr.size (fun b hb => (oD.lt b hb).1)
            replace s3 := s3.grown grow1 (fun e => hnD _ e.symm rfl)
            have bI1 := bI.grown grow1 (fun e => by have := FARD.out _ e.symm; omega)
            have bR1 := bR.grown grow1 (fun e => by have := FARD.out _ e.symm; omega)
            have cI := bI1.cell (j := 3) (v := vD) rfl
            have fI := bI1.frz 3
            replace lr := lr1
            clear lr1
            refine hK.out _ _ (s3.cs (by decide)) (fun hHeld => ?_)
            clear hK K'
            try simp only [Act.put, List.setIfInBounds_toArray, List.set_cons_zero, List.set_cons_succ]
            refine wpAnyH_take (i := 8) (oi := ⟨some 85, .fieldAddr 29 (.tmp 10) 3, _, _, _, none⟩) (v := .pointer (some ⟨B10, 3, none⟩)) rfl (by kernel_rfl) (by kernel_rfl) (by kernel_rfl) (fun _ _ _ h => h) (Or.inl ⟨by rfl, fun w _ => by go_simp⟩) hHeld ?_
            simp only [Act.put, List.setIfInBounds_toArray, List.set_cons_zero, List.set_cons_succ]
            refine wpAnyH_ready (rs := [9]) (by kernel_rfl) (by simp) (AllReadyH.cons (o := ⟨none, .store 22 (.tmp 85) (.tmp 84), _, _, _, none⟩) rfl (fun K' hK => ?_) AllReadyH.nil)
            go_simp
            replace lr := lr.setCell (p := ⟨B10, 3, none⟩) (by show w.heap.size ≤ B10; omega) (.slice (some ⟨g1, 0, none⟩) (q + 1) cap1)
            replace bI1 := bI1.set 3 (.slice (some ⟨g1, 0, none⟩) (q + 1) cap1)
            replace bR1 := bR1.set_other ⟨B10, 3, none⟩ (.slice (some ⟨g1, 0, none⟩) (q + 1) cap1) (by show w.heap.size ≠ B10; omega)
            replace own1 := own_only1 own1 (Only.set wa B10 3 (.slice (some ⟨g1, 0, none⟩) (q + 1) cap1)) (by have := hx1 _ _ (by simp; omega) hat1; omega)
            replace oS1 := own_only2 oS1 (Only.set wa B10 3 (.slice (some ⟨g1, 0, none⟩) (q + 1) cap1)) (fun g e => by have := FAR.out g e; omega)
            replace s3 := s3.only_ne (Only.set wa B10 3 (.slice (some ⟨g1, 0, none⟩) (q + 1) cap1)) (fun ad e => by cases e; show wr.heap.size ≠ B10; omega)
            refine hK.out _ _ (s3.cs (by decide)) (fun hHeld => ?_)
            clear hK K'
            try simp only [Act.put, List.setIfInBounds_toArray, List.set_cons_zero, List.set_cons_succ]
            refine wpAnyH_done (by kernel_rfl) ?_ _
            clear hHeld
            go_wp2
            go_roundw
            case rel => exact ⟨q + 1, .slice (some ⟨g1, 0, none⟩) (q + 1) cap1, by omega, by go_num, by rw [HZ.out]; exact own1, oS1, Lib.hid (fun g e => by simp [Value.ownBlock] at e; exact sep1 g e), Lib.hid (fun g e => by have := hx1 g1 _ (by simp; omega) hat1; simp [Value.ownBlock] at e; omega), HAX, bI1, bR1, lr⟩
            case measure => simp [intOf]; omega
          · refine wp_strb (.tmp 79) rfl st rfl ?_
            intro cap3 w3 s3 l3a
            replace s3 : Sl w3 1 (some ⟨wr.heap.size, 0, none⟩) 128 (U X) := by
              have h := s3
              rw [hst, HST.out, Wm.ofS_str HX.out.2] at h
              exact h
            replace bI := bI.keep l3a
            replace bR := bR.keep l3a
            replace oD := own_below oD l3a
            replace oS := own_below oS l3a
            replace lr := Later.trans_ lr l3a
            have hcq3 := bI.cell (j := 3) (v := vD) rfl
            have hw3 : wr.heap.size ≤ w3.heap.size := l3a.size
            refine hK.out _ _ trivial (fun hHeld => ?_)
            clear hK K'
            try simp only [Act.put, List.setIfInBounds_toArray, List.set_cons_zero, List.set_cons_succ]
            refine wpAnyH_more (S' := fun w' => ∀ j v, (U X)[j]? = some v → w'.cell? ((⟨wr.heap.size, 0, none⟩ : Addr).add j) = some v) (fun _ h => trivial) ?_
            replace hHeld := s3.cs (by decide)
            refine wpAnyH_take (i := 4) (oi := ⟨some 81, .sliceToArrayPointer 76 (.tmp 80), _, _, _, none⟩) (v := .pointer (some ⟨wr.heap.size, 0, none⟩)) rfl (by kernel_rfl) (by kernel_rfl) (by kernel_rfl) (fun _ _ _ h => h) (Or.inl ⟨by rfl, fun w _ => by have h := run_arrayAt (P := Tryd.prog) w 76 5 128 (some ⟨wr.heap.size, 0, none⟩) 128 cap3 Tryd.underlying76 (Nat.le_refl _); go_simp⟩) hHeld ?_
            simp only [Act.put, List.setIfInBounds_toArray, List.set_cons_zero, List.set_cons_succ]
            refine wpAnyH_take (i := 5) (oi := ⟨some 82, .load 76 (.tmp 81), _, _, _, none⟩) (v := .agg (U X).toArray) rfl (by kernel_rfl) (by kernel_rfl) (by kernel_rfl) (fun _ _ _ h => h) (yieldsIf_load_addr (by rfl) _ _ rfl ⟨wr.heap.size, 0, none⟩ (by rfl) (U X) _ (fun w h => h) Tryd.underlying76 rfl (page_sz HX.out.1)) hHeld ?_
            simp only [Act.put, List.setIfInBounds_toArray, List.set_cons_zero, List.set_cons_succ]
            refine wpAnyH_ready (rs := [1, 6]) (by kernel_rfl) (by simp) (AllReadyH.cons (o := ⟨some 78, .load 22 (.tmp 77), _, _, _, none⟩) rfl (fun K' hK => ?_) (AllReadyH.cons (o := ⟨some 83, .buildSlice 22 1 #[(0, .tmp 82)], _, _, _, none⟩) rfl (fun K' hK => ?_) AllReadyH.nil))
            · go_simp
              refine hK.out _ _ (s3.cs (by decide)) (fun hHeld => ?_)
              clear hK K'
              try simp only [Act.put, List.setIfInBounds_toArray, List.set_cons_zero, List.set_cons_succ]
              refine wpAnyH_ready (rs := [6]) (by kernel_rfl) (by simp) (AllReadyH.cons (o := ⟨some 83, .buildSlice 22 1 #[(0, .tmp 82)], _, _, _, none⟩) rfl (fun K' hK => ?_) AllReadyH.nil)
              refine wp_build1 _ 76 _ rfl (U X).toArray gI _ Tryd.underlying22 HP.out.1 HP.out.2.1 (by rw [HP.out.2.2.1, List.size_toArray, U_length, HX.out.1]) (by rw [List.size_toArray, U_length, HX.out.1]; decide) (by rw [List.size_toArray, U_length, HX.out.1]; decide) rfl ?_
              replace bI := bI.alloc (.cells (U X).toArray 76)
              replace bR := bR.alloc (.cells (U X).toArray 76)
              replace oD := oD.alloc (.cells (U X).toArray 76)
              replace oS := oS.alloc (.cells (U X).toArray 76)
              replace lr := lr.alloc lr.size (.cells (U X).toArray 76)
              replace s3 := s3.alloc (.cells (U X).toArray 76)
              have bN := Blk.new w3 76 (U X).toArray (U X) rfl
              have hcq6 := bI.cell (j := 3) (v := vD) rfl
              refine hK.out _ _ (s3.cs (by decide)) (fun hHeld => ?_)
              clear hK K'
              try simp only [Act.put, List.setIfInBounds_toArray, List.set_cons_zero, List.set_cons_succ]
              refine wpAnyH_ready (rs := [7]) (by kernel_rfl) (by simp) (AllReadyH.cons (o := ⟨some 84, .call { callee := .builtin .append, args := #[.tmp 78, .tmp 83], argTypes := #[22, 22] }, _, _, _, none⟩) rfl (fun K' hK => ?_) AllReadyH.nil)
              refine wp_append_lies _ (.tmp 78) (.tmp 83) 22 rfl w.heap.size 76 gI _ 128 128 Tryd.underlying22 HP.out.1 HP.out.2.1 HP.out.2.2.1 HP.out.2.2.2 rfl (by decide) vD q (U (Im.dK ts k q)) rfl oD ⟨w3.heap.size, 0, none⟩ 1 1 (U X) rfl (by rw [U_length, HX.out.1]) (news_blk bN) (U_one _) (by decide) (by unfold maxLen; omega) (by omega) lr.size _ rfl ?_
              intro g1 cap1 wa own1 grow1 hat1 hlt1
              have oS1 := oS.kept grow1 (sep_ne SEP.out)
              have sep1 : ∀ g, g1 = g → vS.ownBlock ≠ some g := fun g hg e => by
                subst hg
                rcases hat1 with h | h
                · exact SEP.out g1 h e
                · have := (oS.lt g1 e).2
                  omega
              have lr1 := lr.grown grow1 lr.size (fun b hb => (oD.lt b hb).1)
              replace s3 := s3.grown grow1 (fun e => hnD _ e.symm rfl)
              have bI1 := bI.grown grow1 (fun e => by have := FARD.out _ e.symm; omega)
              have bR1 := bR.grown grow1 (fun e => by have := FARD.out _ e.symm; omega)
              have cI := bI1.cell (j := 3) (v := vD) rfl
              have fI := bI1.frz 3
              replace lr := lr1
              clear lr1
              refine hK.out _ _ (s3.cs (by decide)) (fun hHeld => ?_)
              clear hK K'
              try simp only [Act.put, List.setIfInBounds_toArray, List.set_cons_zero, List.set_cons_succ]
              refine wpAnyH_take (i := 8) (oi := ⟨some 85, .fieldAddr 29 (.tmp 10) 3, _, _, _, none⟩) (v := .pointer (some ⟨B10, 3, none⟩)) rfl (by kernel_rfl) (by kernel_rfl) (by kernel_rfl) (fun _ _ _ h => h) (Or.inl ⟨by rfl, fun w _ => by go_simp⟩) hHeld ?_
              simp only [Act.put, List.setIfInBounds_toArray, List.set_cons_zero, List.set_cons_succ]
              refine wpAnyH_ready (rs := [9]) (by kernel_rfl) (by simp) (AllReadyH.cons (o := ⟨none, .store 22 (.tmp 85) (.tmp 84), _, _, _, none⟩) rfl (fun K' hK => ?_) AllReadyH.nil)
              go_simp
              replace lr := lr.setCell (p := ⟨B10, 3, none⟩) (by show w.heap.size ≤ B10; omega) (.slice (some ⟨g1, 0, none⟩) (q + 1) cap1)
              replace bI1 := bI1.set 3 (.slice (some ⟨g1, 0, none⟩) (q + 1) cap1)
              replace bR1 := bR1.set_other ⟨B10, 3, none⟩ (.slice (some ⟨g1, 0, none⟩) (q + 1) cap1) (by show w.heap.size ≠ B10; omega)
              replace own1 := own_only1 own1 (Only.set wa B10 3 (.slice (some ⟨g1, 0, none⟩) (q + 1) cap1)) (by have := hx1 _ _ (by simp; omega) hat1; omega)
              replace oS1 := own_only2 oS1 (Only.set wa B10 3 (.slice (some ⟨g1, 0, none⟩) (q + 1) cap1)) (fun g e => by have := FAR.out g e; omega)
              replace s3 := s3.only_ne (Only.set wa B10 3 (.slice (some ⟨g1, 0, none⟩) (q + 1) cap1)) (fun ad e => by cases e; show wr.heap.size ≠ B10; omega)
              refine hK.out _ _ (s3.cs (by decide)) (fun hHeld => ?_)
              clear hK K'
              try simp only [Act.put, List.setIfInBounds_toArray, List.set_cons_zero, List.set_cons_succ]
              refine wpAnyH_done (by kernel_rfl) ?_ _
              clear hHeld
              go_wp2
              go_roundw
              case rel => exact ⟨q + 1, .slice (some ⟨g1, 0, none⟩) (q + 1) cap1, by omega, by go_num, by rw [HZ.out]; exact own1, oS1, Lib.hid (fun g e => by simp [Value.ownBlock] at e; exact sep1 g e), Lib.hid (fun g e => by have := hx1 g1 _ (by simp; omega) hat1; simp [Value.ownBlock] at e; omega), HAX, bI1, bR1, lr⟩
              case measure => simp [intOf]; omega
            · refine wp_build1 _ 76 _ rfl (U X).toArray gI _ Tryd.underlying22 HP.out.1 HP.out.2.1 (by rw [HP.out.2.2.1, List.size_toArray, U_length, HX.out.1]) (by rw [List.size_toArray, U_length, HX.out.1]; decide) (by rw [List.size_toArray, U_length, HX.out.1]; decide) rfl ?_
              replace bI := bI.alloc (.cells (U X).toArray 76)
              replace bR := bR.alloc (.cells (U X).toArray 76)
              replace oD := oD.alloc (.cells (U X).toArray 76)
              replace oS := oS.alloc (.cells (U X).toArray 76)
              replace lr := lr.alloc lr.size (.cells (U X).toArray 76)
              replace s3 := s3.alloc (.cells (U X).toArray 76)
              have bN := Blk.new w3 76 (U X).toArray (U X) rfl
              have hcq6 := bI.cell (j := 3) (v := vD) rfl
              refine hK.out _ _ (s3.cs (by decide)) (fun hHeld => ?_)
              clear hK K'
              try simp only [Act.put, List.setIfInBounds_toArray, List.set_cons_zero, List.set_cons_succ]
              refine wpAnyH_ready (rs := [1]) (by kernel_rfl) (by simp) (AllReadyH.cons (o := ⟨some 78, .load 22 (.tmp 77), _, _, _, none⟩) rfl (fun K' hK => ?_) AllReadyH.nil)
              go_simp
              refine hK.out _ _ (s3.cs (by decide)) (fun hHeld => ?_)
              clear hK K'
              try simp only [Act.put, List.setIfInBounds_toArray, List.set_cons_zero, List.set_cons_succ]
              refine wpAnyH_ready (rs := [7]) (by kernel_rfl) (by simp) (AllReadyH.cons (o := ⟨some 84, .call { callee := .builtin .append, args := #[.tmp 78, .tmp 83], argTypes := #[22, 22] }, _, _, _, none⟩) rfl (fun K' hK => ?_) AllReadyH.nil)
              refine wp_append_lies _ (.tmp 78) (.tmp 83) 22 rfl w.heap.size 76 gI _ 128 128 Tryd.underlying22 HP.out.1 HP.out.2.1 HP.out.2.2.1 HP.out.2.2.2 rfl (by decide) vD q (U (Im.dK ts k q)) rfl oD ⟨w3.heap.size, 0, none⟩ 1 1 (U X) rfl (by rw [U_length, HX.out.1]) (news_blk bN) (U_one _) (by decide) (by unfold maxLen; omega) (by omega) lr.size _ rfl ?_
              intro g1 cap1 wa own1 grow1 hat1 hlt1
              have oS1 := oS.kept grow1 (sep_ne SEP.out)
              have sep1 : ∀ g, g1 = g → vS.ownBlock ≠ some g := fun g hg e => by
                subst hg
                rcases hat1 with h | h
                · exact SEP.out g1 h e
                · have := (oS.lt g1 e).2
                  omega
              have lr1 := lr.grown grow1 lr.size (fun b hb => (oD.lt b hb).1)
              replace s3 := s3.grown grow1 (fun e => hnD _ e.symm rfl)
              have bI1 := bI.grown grow1 (fun e => by have := FARD.out _ e.symm; omega)
              have bR1 := bR.grown grow1 (fun e => by have := FARD.out _ e.symm; omega)
              have cI := bI1.cell (j := 3) (v := vD) rfl
              have fI := bI1.frz 3
              replace lr := lr1
              clear lr1
              refine hK.out _ _ (s3.cs (by decide)) (fun hHeld => ?_)
              clear hK K'
              try simp only [Act.put, List.setIfInBounds_toArray, List.set_cons_zero, List.set_cons_succ]
              refine wpAnyH_take (i := 8) (oi := ⟨some 85, .fieldAddr 29 (.tmp 10) 3, _, _, _, none⟩) (v := .pointer (some ⟨B10, 3, none⟩)) rfl (by kernel_rfl) (by kernel_rfl) (by kernel_rfl) (fun _ _ _ h => h) (Or.inl ⟨by rfl, fun w _ => by go_simp⟩) hHeld ?_
              simp only [Act.put, List.setIfInBounds_toArray, List.set_cons_zero, List.set_cons_succ]
              refine wpAnyH_ready (rs := [9]) (by kernel_rfl) (by simp) (AllReadyH.cons (o := ⟨none, .store 22 (.tmp 85) (.tmp 84), _, _, _, none⟩) rfl (fun K' hK => ?_) AllReadyH.nil)
              go_simp
              replace lr := lr.setCell (p := ⟨B10, 3, none⟩) (by show w.heap.size ≤ B10; omega) (.slice (some ⟨g1, 0, none⟩) (q + 1) cap1)
              replace bI1 := bI1.set 3 (.slice (some ⟨g1, 0, none⟩) (q + 1) cap1)
              replace bR1 := bR1.set_other ⟨B10, 3, none⟩ (.slice (some ⟨g1, 0, none⟩) (q + 1) cap1) (by show w.heap.size ≠ B10; omega)
              replace own1 := own_only1 own1 (Only.set wa B10 3 (.slice (some ⟨g1, 0, none⟩) (q + 1) cap1)) (by have := hx1 _ _ (by simp; omega) hat1; omega)
              replace oS1 := own_only2 oS1 (Only.set wa B10 3 (.slice (some ⟨g1, 0, none⟩) (q + 1) cap1)) (fun g e => by have := FAR.out g e; omega)
              replace s3 := s3.only_ne (Only.set wa B10 3 (.slice (some ⟨g1, 0, none⟩) (q + 1) cap1)) (fun ad e => by cases e; show wr.heap.size ≠ B10; omega)
              refine hK.out _ _ (s3.cs (by decide)) (fun hHeld => ?_)
              clear hK K'
              try simp only [Act.put, List.setIfInBounds_toArray, List.set_cons_zero, List.set_cons_succ]
              refine wpAnyH_done (by kernel_rfl) ?_ _
              clear hHeld
              go_wp2
              go_roundw
              case rel => exact ⟨q + 1, .slice (some ⟨g1, 0, none⟩) (q + 1) cap1, by omega, by go_num, by rw [HZ.out]; exact own1, oS1, Lib.hid (fun g e => by simp [Value.ownBlock] at e; exact sep1 g e), Lib.hid (fun g e => by have := hx1 g1 _ (by simp; omega) hat1; simp [Value.ownBlock] at e; omega), HAX, bI1, bR1, lr⟩
              case measure => simp [intOf]; omega
          done
        · obtain rfl : q = sN := by omega
          have nlt2 : ¬ ((q : Int) < (q : Int)) := by omega
          have cc0 := bI.cell (j := 0) (v := .int .i64 en) rfl
          have cc1 := bI.cell (j := 1) (v := .int .i64 p) rfl
          have cc2 := bI.cell (j := 2) (v := vS) rfl
          have cc3 := bI.cell (j := 3) (v := vD) rfl
          have rr0 := bR.cell (j := 0) (v := .int .i64 0) rfl
          obtain ⟨A7, c7, rfl, k1, k2, k3, _⟩ := own_form oS
          obtain ⟨A8, c8, rfl, m1, m2, m3, _⟩ := own_form oD
          go_wp2_with (first
            | ((with_reducible refine wpList_load_blk (o := ⟨some 87, .load 29 (.tmp 10), _, _, _, none⟩) rfl _ _ rfl B10 29 [.int .i64 en, .int .i64 p, .slice A7 k c7, .slice A8 q c8] _ ?_ bI Tryd.underlying29 rfl (img_sz _ _ _ _) ?_); rfl)
            | ((with_reducible refine wpList_store_abs (o := ⟨none, .store 29 (.tmp 4) (.tmp 87), _, _, _, none⟩) rfl _ _ _ rfl w.heap.size 29 [.int .i64 0, .int .i64 0, .slice none 0 0, .slice none 0 0] [.int .i64 en, .int .i64 p, .slice A7 k c7, .slice A8 q c8] ?_ ?_ bR (img_sz _ _ _ _) rfl (img_one _ _ _ _ _ _ _ _) ?_); rfl; rfl; intro wz bz oz))
          have lz : Later w wz := Below.only lr oz (Nat.le_refl _)
          refine bodyPost_ret (v := .tuple #[.agg #[.int .i64 en, .int .i64 p, .slice A7 k c7, .slice A8 q c8], .bool true]) (results_cell_tmp Tryd.results36 _ _ w.heap.size 29 [.int .i64 en, .int .i64 p, .slice A7 k c7, .slice A8 q c8] _ _ rfl rfl bz Tryd.underlying29 rfl (img_sz _ _ _ _)) rfl ?_
          have hbt : b = true := by
            rw [HB.out]
            refine decide_eq_true (fun t ht => ?_)
            obtain ⟨j, hj, rfl⟩ := List.getElem_of_mem ht
            rw [List.length_drop] at hj
            have hj2 : j < q := by have := HLT.out; have := HP3.out; omega
            have h1 := HAL.out j hj2
            rw [List.getD_eq_getElem?_getD, List.getElem?_eq_getElem (by have := HP3.out; omega), Option.getD_some] at h1
            rw [List.getElem_drop]
            simpa only [← HP3.out] using h1
          refine ⟨.inl ⟨hbt, _, rfl, ?_⟩, lz⟩
          rw [← HP3.out]
          refine ⟨A7, k, c7, A8, c8, rfl, Sl.own (own_only2 oS oz (fun g e => ?_)), Sl.own (own_only2 oD oz (fun g e => ?_)), ?_, by omega, by show q ≤ 1000000; omega, hen, hp, m1, m2⟩
          · have := FAR.out g e; omega
          · have := FARD.out g e; omega
          · intro x hx
            unfold Im.zS at hx
            obtain ⟨j, hj, rfl⟩ := List.mem_map.1 hx
            have hj := List.mem_range.1 hj
            have h1 : j < pl.length := by rw [← HP3.out]; exact hj
            have h2 : j < ts.length := by rw [← HLT.out]; omega
            simp only [List.getD_eq_getElem?_getD, List.getElem?_eq_getElem h1, List.getElem?_eq_getElem h2, Option.getD_some, Im.strN_size]
            have := HPL.out _ (List.getElem_mem h1)
            have := HLE.out _ (List.getElem_mem h2)
            omega

set_option maxRecDepth 100000 in
theorem comp_short (A B : Option Addr) (nA cA nB cB : Nat) (w : World) (h : nA < 3) :
    Calls Tryd.prog 36 #[.slice A nA cA, .slice B nB cB] w fun e w' => e = .returned (.tuple #[zImg, .bool false]) ∧ Later w w' := by
  have h3 : (nA : Int) < 3 := by omega
  have bR := Blk.new w 29 #[.int .i64 0, .int .i64 0, .slice none 0 0, .slice none 0 0] [.int .i64 0, .int .i64 0, .slice none 0 0, .slice none 0 0] rfl
  have l0 := later1 w (.cells #[.int .i64 0, .int .i64 0, .slice none 0 0, .slice none 0 0] 29)
  go_enter Tryd.func36, Tryd.ntmps36
  go_wp2_with (first
    | ((with_reducible refine wpList_store_abs (o := ⟨none, .store 29 (.tmp 4) (.tmp 18), _, _, _, none⟩) rfl _ _ _ rfl w.heap.size 29 [.int .i64 0, .int .i64 0, .slice none 0 0, .slice none 0 0] [.int .i64 0, .int .i64 0, .slice none 0 0, .slice none 0 0] ?_ ?_ bR (img_sz _ _ _ _) rfl (img_one _ _ _ _ _ _ _ _) ?_); rfl; rfl; intro wz bz oz))
  exact bodyPost_ret (v := .tuple #[zImg, .bool false]) (results_cell_tmp Tryd.results36 _ _ w.heap.size 29 [.int .i64 0, .int .i64 0, .slice none 0 0, .slice none 0 0] _ _ rfl rfl bz Tryd.underlying29 rfl (img_sz _ _ _ _)) rfl ⟨rfl, Below.only l0 oz (Nat.le_refl _)⟩
set_option maxRecDepth 100000 in
set_option maxHeartbeats 1000000 in
theorem comp_no (adN : Addr) (B : Option Addr) (nA cA nB cB : Nat) (en p s : Int) (pl : List Int) (w : World) (hN : Sl w 1 (some adN) nA (N64 (en :: p :: s :: pl))) (hnc : nA ≤ cA) (hA6 : nA ≤ 1000000) (hB6 : nB ≤ 1000000) (hno : s < 0 ∨ (nB : Int) - pl.length ≠ s) :
    Calls Tryd.prog 36 #[.slice (some adN) nA cA, .slice B nB cB] w fun e w' => e = .returned (.tuple #[zImg, .bool false]) ∧ Later w w' := by
  have hlN : nA = pl.length + 3 := by have := hN.1; simp [N64] at this; omega
  obtain ⟨A9, hA9⟩ : ∃ A9, A9 = (if cA = 3 then some adN else some ⟨adN.block, adN.off + 3, none⟩) := ⟨_, rfl⟩
  have HA9 := Lib.hid hA9.symm
  have HP9 := Lib.hid fun w' (hl : Later w w') => (show Sl w' 1 A9 (nA - 3) (N64 pl) by
    have h := (hN.keep hl).cut (k := 3) (cap := cA) (by omega) hnc
    rw [hA9]
    exact h)
  clear hA9
  have CN := Lib.hid fun w' (hl : Later w w') => (show w'.cell? adN = some (.int .i64 en) ∧ w'.cell? ⟨adN.block, adN.off + 1, none⟩ = some (.int .i64 p) ∧ w'.cell? ⟨adN.block, adN.off + 2, none⟩ = some (.int .i64 s) from by
    obtain ⟨_, e, _, hc⟩ := (hN.keep hl).2 (by omega)
    cases e
    exact ⟨hc 0 _ rfl, hc 1 _ rfl, hc 2 _ rfl⟩)
  have hpl3 : nA - 3 = pl.length := by omega
  have hno' : s < 0 ∨ (nB : Int) - ((nA - 3 : Nat) : Int) ≠ s := by rw [hpl3]; exact hno
  obtain ⟨n3, hn3⟩ : ∃ n3, n3 = nA - 3 := ⟨_, rfl⟩
  have HN3 := Lib.hid hn3.symm
  rw [← hn3] at hno'
  have hnA3 : ¬ ((nA : Int) < 3) := by omega
  have hnz : nA ≠ 0 := by omega
  have hnz1 : (1 : Int) < (nA : Int) := by omega
  have hnz2 : (2 : Int) < (nA : Int) := by omega
  have hn36 : n3 ≤ 1000000 := by omega
  have bR := Blk.new w 29 #[.int .i64 0, .int .i64 0, .slice none 0 0, .slice none 0 0] [.int .i64 0, .int .i64 0, .slice none 0 0, .slice none 0 0] rfl
  have l0 := later1 w (.cells #[.int .i64 0, .int .i64 0, .slice none 0 0, .slice none 0 0] 29)
  replace bR := bR.drew
  replace l0 : Later w (w.alloc (.cells #[.int .i64 0, .int .i64 0, .slice none 0 0, .slice none 0 0] 29)).drew := l0.drew
  clear hN hlN hno hn3 HP9 hpl3
  by_cases hs0 : s < 0
  · have e1 : decide (s < 0) = true := decide_eq_true hs0
    clear hno'
    go_enter Tryd.func36, Tryd.ntmps36
    go_wp2
    refine wp_region_held_drew (S := fun w' => w'.cell? adN = some (.int .i64 en) ∧ w'.cell? ⟨adN.block, adN.off + 1, none⟩ = some (.int .i64 p) ∧ w'.cell? ⟨adN.block, adN.off + 2, none⟩ = some (.int .i64 s)) (by kernel_rfl) (CN.out _ l0) (fun hHeld => ?_)
    refine wpAnyH_take (i := 0) (oi := ⟨some 19, .move (.tmp 0), _, _, _, none⟩) (v := .slice (some adN) nA cA) rfl (by kernel_rfl) (by kernel_rfl) (by kernel_rfl) (fun _ _ _ h => h) (Or.inl ⟨by rfl, fun _ _ => rfl⟩) hHeld ?_
    simp only [Act.put, List.setIfInBounds_toArray, List.set_cons_zero, List.set_cons_succ]
    refine wpAnyH_take (i := 1) (oi := ⟨some 20, .indexAddr 44 (.tmp 19) (.const (.int .i64 0)), _, _, _, none⟩) (v := .pointer (some adN)) rfl (by kernel_rfl) (by kernel_rfl) (by kernel_rfl) (fun _ _ _ h => h) (Or.inl ⟨by rfl, fun w _ => by go_simp⟩) hHeld ?_
    simp only [Act.put, List.setIfInBounds_toArray, List.set_cons_zero, List.set_cons_succ]
    refine wpAnyH_take (i := 2) (oi := ⟨some 21, .load 3 (.tmp 20), _, _, _, none⟩) (v := .int .i64 en) rfl (by kernel_rfl) (by kernel_rfl) (by kernel_rfl) (fun _ _ _ h => h) (Or.inl ⟨by rfl, fun w hS => by have h0 := hS.1; go_simp⟩) hHeld ?_
    simp only [Act.put, List.setIfInBounds_toArray, List.set_cons_zero, List.set_cons_succ]
    refine wpAnyH_take (i := 3) (oi := ⟨some 22, .move (.tmp 0), _, _, _, none⟩) (v := .slice (some adN) nA cA) rfl (by kernel_rfl) (by kernel_rfl) (by kernel_rfl) (fun _ _ _ h => h) (Or.inl ⟨by rfl, fun _ _ => rfl⟩) hHeld ?_
    simp only [Act.put, List.setIfInBounds_toArray, List.set_cons_zero, List.set_cons_succ]
    refine wpAnyH_take (i := 4) (oi := ⟨some 23, .indexAddr 44 (.tmp 22) (.const (.int .i64 1)), _, _, _, none⟩) (v := .pointer (some ⟨adN.block, adN.off + 1, none⟩)) rfl (by kernel_rfl) (by kernel_rfl) (by kernel_rfl) (fun _ _ _ h => h) (Or.inl ⟨by rfl, fun w _ => by go_simp⟩) hHeld ?_
    simp only [Act.put, List.setIfInBounds_toArray, List.set_cons_zero, List.set_cons_succ]
    refine wpAnyH_take (i := 5) (oi := ⟨some 24, .load 3 (.tmp 23), _, _, _, none⟩) (v := .int .i64 p) rfl (by kernel_rfl) (by kernel_rfl) (by kernel_rfl) (fun _ _ _ h => h) (Or.inl ⟨by rfl, fun w hS => by have h0 := hS.2.1; go_simp⟩) hHeld ?_
    simp only [Act.put, List.setIfInBounds_toArray, List.set_cons_zero, List.set_cons_succ]
    refine wpAnyH_take (i := 6) (oi := ⟨some 25, .move (.tmp 0), _, _, _, none⟩) (v := .slice (some adN) nA cA) rfl (by kernel_rfl) (by kernel_rfl) (by kernel_rfl) (fun _ _ _ h => h) (Or.inl ⟨by rfl, fun _ _ => rfl⟩) hHeld ?_
    simp only [Act.put, List.setIfInBounds_toArray, List.set_cons_zero, List.set_cons_succ]
    refine wpAnyH_take (i := 7) (oi := ⟨some 26, .indexAddr 44 (.tmp 25) (.const (.int .i64 2)), _, _, _, none⟩) (v := .pointer (some ⟨adN.block, adN.off + 2, none⟩)) rfl (by kernel_rfl) (by kernel_rfl) (by kernel_rfl) (fun _ _ _ h => h) (Or.inl ⟨by rfl, fun w _ => by go_simp⟩) hHeld ?_
    simp only [Act.put, List.setIfInBounds_toArray, List.set_cons_zero, List.set_cons_succ]
    refine wpAnyH_take (i := 8) (oi := ⟨some 27, .load 3 (.tmp 26), _, _, _, none⟩) (v := .int .i64 s) rfl (by kernel_rfl) (by kernel_rfl) (by kernel_rfl) (fun _ _ _ h => h) (Or.inl ⟨by rfl, fun w hS => by have h0 := hS.2.2; go_simp⟩) hHeld ?_
    simp only [Act.put, List.setIfInBounds_toArray, List.set_cons_zero, List.set_cons_succ]
    refine wpAnyH_take (i := 9) (oi := ⟨some 28, .move (.tmp 0), _, _, _, none⟩) (v := .slice (some adN) nA cA) rfl (by kernel_rfl) (by kernel_rfl) (by kernel_rfl) (fun _ _ _ h => h) (Or.inl ⟨by rfl, fun _ _ => rfl⟩) hHeld ?_
    simp only [Act.put, List.setIfInBounds_toArray, List.set_cons_zero, List.set_cons_succ]
    refine wpAnyH_take (i := 10) (oi := ⟨some 29, .slice 44 (.tmp 28) (some (.const (.int .i64 3))) none none, _, _, _, none⟩) (v := .slice A9 n3 (cA - 3)) rfl (by kernel_rfl) (by kernel_rfl) (by kernel_rfl) (fun _ _ _ h => h) (Or.inl ⟨by rfl, fun w _ => by have h := HA9.out; have h2 := HN3.out; go_simp⟩) hHeld ?_
    simp only [Act.put, List.setIfInBounds_toArray, List.set_cons_zero, List.set_cons_succ]
    refine wpAnyH_take (i := 11) (oi := ⟨some 6, .assign (.tmp 21), _, _, _, none⟩) (v := .int .i64 en) rfl (by kernel_rfl) (by kernel_rfl) (by kernel_rfl) (fun _ _ _ h => h) (Or.inl ⟨by rfl, fun _ _ => rfl⟩) hHeld ?_
    simp only [Act.put, List.setIfInBounds_toArray, List.set_cons_zero, List.set_cons_succ]
    refine wpAnyH_take (i := 12) (oi := ⟨some 7, .assign (.tmp 24), _, _, _, none⟩) (v := .int .i64 p) rfl (by kernel_rfl) (by kernel_rfl) (by kernel_rfl) (fun _ _ _ h => h) (Or.inl ⟨by rfl, fun _ _ => rfl⟩) hHeld ?_
    simp only [Act.put, List.setIfInBounds_toArray, List.set_cons_zero, List.set_cons_succ]
    refine wpAnyH_take (i := 13) (oi := ⟨some 8, .assign (.tmp 27), _, _, _, none⟩) (v := .int .i64 s) rfl (by kernel_rfl) (by kernel_rfl) (by kernel_rfl) (fun _ _ _ h => h) (Or.inl ⟨by rfl, fun _ _ => rfl⟩) hHeld ?_
    simp only [Act.put, List.setIfInBounds_toArray, List.set_cons_zero, List.set_cons_succ]
    refine wpAnyH_take (i := 14) (oi := ⟨some 9, .assign (.tmp 29), _, _, _, none⟩) (v := .slice A9 n3 (cA - 3)) rfl (by kernel_rfl) (by kernel_rfl) (by kernel_rfl) (fun _ _ _ h => h) (Or.inl ⟨by rfl, fun _ _ => rfl⟩) hHeld ?_
    simp only [Act.put, List.setIfInBounds_toArray, List.set_cons_zero, List.set_cons_succ]
    refine wpAnyH_done (by kernel_rfl) ?_ _
    clear hHeld
    go_wp2_with (first
      | ((with_reducible refine wpList_store_abs (o := ⟨none, .store 29 (.tmp 4) (.tmp 41), _, _, _, none⟩) rfl _ _ _ rfl w.heap.size 29 [.int .i64 0, .int .i64 0, .slice none 0 0, .slice none 0 0] [.int .i64 0, .int .i64 0, .slice none 0 0, .slice none 0 0] ?_ ?_ bR (img_sz _ _ _ _) rfl (img_one _ _ _ _ _ _ _ _) ?_); rfl; rfl; intro wz bz oz))
    exact bodyPost_ret (v := .tuple #[zImg, .bool false]) (results_cell_tmp Tryd.results36 _ _ w.heap.size 29 [.int .i64 0, .int .i64 0, .slice none 0 0, .slice none 0 0] _ _ rfl rfl bz Tryd.underlying29 rfl (img_sz _ _ _ _)) rfl ⟨rfl, Below.only l0 oz (Nat.le_refl _)⟩
  · have e1 : decide (s < 0) = false := decide_eq_false hs0
    have e0 : (((nB : Int) - (n3 : Int)) != s) = true := by simp; omega
    have hs00 : 0 ≤ s := by omega
    clear hno' hs0
    go_enter Tryd.func36, Tryd.ntmps36
    go_wp2
    refine wp_region_held_drew (S := fun w' => w'.cell? adN = some (.int .i64 en) ∧ w'.cell? ⟨adN.block, adN.off + 1, none⟩ = some (.int .i64 p) ∧ w'.cell? ⟨adN.block, adN.off + 2, none⟩ = some (.int .i64 s)) (by kernel_rfl) (CN.out _ l0) (fun hHeld => ?_)
    refine wpAnyH_take (i := 0) (oi := ⟨some 19, .move (.tmp 0), _, _, _, none⟩) (v := .slice (some adN) nA cA) rfl (by kernel_rfl) (by kernel_rfl) (by kernel_rfl) (fun _ _ _ h => h) (Or.inl ⟨by rfl, fun _ _ => rfl⟩) hHeld ?_
    simp only [Act.put, List.setIfInBounds_toArray, List.set_cons_zero, List.set_cons_succ]
    refine wpAnyH_take (i := 1) (oi := ⟨some 20, .indexAddr 44 (.tmp 19) (.const (.int .i64 0)), _, _, _, none⟩) (v := .pointer (some adN)) rfl (by kernel_rfl) (by kernel_rfl) (by kernel_rfl) (fun _ _ _ h => h) (Or.inl ⟨by rfl, fun w _ => by go_simp⟩) hHeld ?_
    simp only [Act.put, List.setIfInBounds_toArray, List.set_cons_zero, List.set_cons_succ]
    refine wpAnyH_take (i := 2) (oi := ⟨some 21, .load 3 (.tmp 20), _, _, _, none⟩) (v := .int .i64 en) rfl (by kernel_rfl) (by kernel_rfl) (by kernel_rfl) (fun _ _ _ h => h) (Or.inl ⟨by rfl, fun w hS => by have h0 := hS.1; go_simp⟩) hHeld ?_
    simp only [Act.put, List.setIfInBounds_toArray, List.set_cons_zero, List.set_cons_succ]
    refine wpAnyH_take (i := 3) (oi := ⟨some 22, .move (.tmp 0), _, _, _, none⟩) (v := .slice (some adN) nA cA) rfl (by kernel_rfl) (by kernel_rfl) (by kernel_rfl) (fun _ _ _ h => h) (Or.inl ⟨by rfl, fun _ _ => rfl⟩) hHeld ?_
    simp only [Act.put, List.setIfInBounds_toArray, List.set_cons_zero, List.set_cons_succ]
    refine wpAnyH_take (i := 4) (oi := ⟨some 23, .indexAddr 44 (.tmp 22) (.const (.int .i64 1)), _, _, _, none⟩) (v := .pointer (some ⟨adN.block, adN.off + 1, none⟩)) rfl (by kernel_rfl) (by kernel_rfl) (by kernel_rfl) (fun _ _ _ h => h) (Or.inl ⟨by rfl, fun w _ => by go_simp⟩) hHeld ?_
    simp only [Act.put, List.setIfInBounds_toArray, List.set_cons_zero, List.set_cons_succ]
    refine wpAnyH_take (i := 5) (oi := ⟨some 24, .load 3 (.tmp 23), _, _, _, none⟩) (v := .int .i64 p) rfl (by kernel_rfl) (by kernel_rfl) (by kernel_rfl) (fun _ _ _ h => h) (Or.inl ⟨by rfl, fun w hS => by have h0 := hS.2.1; go_simp⟩) hHeld ?_
    simp only [Act.put, List.setIfInBounds_toArray, List.set_cons_zero, List.set_cons_succ]
    refine wpAnyH_take (i := 6) (oi := ⟨some 25, .move (.tmp 0), _, _, _, none⟩) (v := .slice (some adN) nA cA) rfl (by kernel_rfl) (by kernel_rfl) (by kernel_rfl) (fun _ _ _ h => h) (Or.inl ⟨by rfl, fun _ _ => rfl⟩) hHeld ?_
    simp only [Act.put, List.setIfInBounds_toArray, List.set_cons_zero, List.set_cons_succ]
    refine wpAnyH_take (i := 7) (oi := ⟨some 26, .indexAddr 44 (.tmp 25) (.const (.int .i64 2)), _, _, _, none⟩) (v := .pointer (some ⟨adN.block, adN.off + 2, none⟩)) rfl (by kernel_rfl) (by kernel_rfl) (by kernel_rfl) (fun _ _ _ h => h) (Or.inl ⟨by rfl, fun w _ => by go_simp⟩) hHeld ?_
    simp only [Act.put, List.setIfInBounds_toArray, List.set_cons_zero, List.set_cons_succ]
    refine wpAnyH_take (i := 8) (oi := ⟨some 27, .load 3 (.tmp 26), _, _, _, none⟩) (v := .int .i64 s) rfl (by kernel_rfl) (by kernel_rfl) (by kernel_rfl) (fun _ _ _ h => h) (Or.inl ⟨by rfl, fun w hS => by have h0 := hS.2.2; go_simp⟩) hHeld ?_
    simp only [Act.put, List.setIfInBounds_toArray, List.set_cons_zero, List.set_cons_succ]
    refine wpAnyH_take (i := 9) (oi := ⟨some 28, .move (.tmp 0), _, _, _, none⟩) (v := .slice (some adN) nA cA) rfl (by kernel_rfl) (by kernel_rfl) (by kernel_rfl) (fun _ _ _ h => h) (Or.inl ⟨by rfl, fun _ _ => rfl⟩) hHeld ?_
    simp only [Act.put, List.setIfInBounds_toArray, List.set_cons_zero, List.set_cons_succ]
    refine wpAnyH_take (i := 10) (oi := ⟨some 29, .slice 44 (.tmp 28) (some (.const (.int .i64 3))) none none, _, _, _, none⟩) (v := .slice A9 n3 (cA - 3)) rfl (by kernel_rfl) (by kernel_rfl) (by kernel_rfl) (fun _ _ _ h => h) (Or.inl ⟨by rfl, fun w _ => by have h := HA9.out; have h2 := HN3.out; go_simp⟩) hHeld ?_
    simp only [Act.put, List.setIfInBounds_toArray, List.set_cons_zero, List.set_cons_succ]
    refine wpAnyH_take (i := 11) (oi := ⟨some 6, .assign (.tmp 21), _, _, _, none⟩) (v := .int .i64 en) rfl (by kernel_rfl) (by kernel_rfl) (by kernel_rfl) (fun _ _ _ h => h) (Or.inl ⟨by rfl, fun _ _ => rfl⟩) hHeld ?_
    simp only [Act.put, List.setIfInBounds_toArray, List.set_cons_zero, List.set_cons_succ]
    refine wpAnyH_take (i := 12) (oi := ⟨some 7, .assign (.tmp 24), _, _, _, none⟩) (v := .int .i64 p) rfl (by kernel_rfl) (by kernel_rfl) (by kernel_rfl) (fun _ _ _ h => h) (Or.inl ⟨by rfl, fun _ _ => rfl⟩) hHeld ?_
    simp only [Act.put, List.setIfInBounds_toArray, List.set_cons_zero, List.set_cons_succ]
    refine wpAnyH_take (i := 13) (oi := ⟨some 8, .assign (.tmp 27), _, _, _, none⟩) (v := .int .i64 s) rfl (by kernel_rfl) (by kernel_rfl) (by kernel_rfl) (fun _ _ _ h => h) (Or.inl ⟨by rfl, fun _ _ => rfl⟩) hHeld ?_
    simp only [Act.put, List.setIfInBounds_toArray, List.set_cons_zero, List.set_cons_succ]
    refine wpAnyH_take (i := 14) (oi := ⟨some 9, .assign (.tmp 29), _, _, _, none⟩) (v := .slice A9 n3 (cA - 3)) rfl (by kernel_rfl) (by kernel_rfl) (by kernel_rfl) (fun _ _ _ h => h) (Or.inl ⟨by rfl, fun _ _ => rfl⟩) hHeld ?_
    simp only [Act.put, List.setIfInBounds_toArray, List.set_cons_zero, List.set_cons_succ]
    refine wpAnyH_done (by kernel_rfl) ?_ _
    clear hHeld
    go_wp2_with (first
      | ((with_reducible refine wpList_store_abs (o := ⟨none, .store 29 (.tmp 4) (.tmp 41), _, _, _, none⟩) rfl _ _ _ rfl w.heap.size 29 [.int .i64 0, .int .i64 0, .slice none 0 0, .slice none 0 0] [.int .i64 0, .int .i64 0, .slice none 0 0, .slice none 0 0] ?_ ?_ bR (img_sz _ _ _ _) rfl (img_one _ _ _ _ _ _ _ _) ?_); rfl; rfl; intro wz bz oz))
    exact bodyPost_ret (v := .tuple #[zImg, .bool false]) (results_cell_tmp Tryd.results36 _ _ w.heap.size 29 [.int .i64 0, .int .i64 0, .slice none 0 0, .slice none 0 0] _ _ rfl rfl bz Tryd.underlying29 rfl (img_sz _ _ _ _)) rfl ⟨rfl, Below.only l0 oz (Nat.le_refl _)⟩
end Go.Proofs.YtjfphjgmphlbhaaDoor
