/-
  THE WALK OF Load.
-/
import Derived.Test.YtffgbbfcbobecaaMemB
import Derived.Deep.MidRow
import Derived.Deep.WholeRow
import Derived.StillTailTactics
import Derived.Lib.QuietBelow
import Derived.Deep.RegionHeld3
namespace Go.Proofs.Ytffgbbfcbobecaa
open Go.RowKit Go.ChangeShapes Go.WideShapes Go.ChangeAt

theorem blk_at {w : World} {B : Nat} {t : TypeId} {cs : List Value} (h : Blk w B t cs) : w.rangeAt B 0 cs := fun j v hv => by
  have := h.cell hv
  simpa using this
/-- copy into a block that is known whole. -/
theorem wp_copy_row {P : Program} {o : Oper} {a : Act} {w : World} {K : Act → World → Prop} {Q : Exit → Act → World → Prop} (d s : Operand) {dT sT elem : TypeId}
    (ho : o.op = .call { callee := .builtin .copy, args := #[d, s], argTypes := #[dT, sT] }) (hu : P.underlying dT = some (.slice elem)) (hsz : (P.info? elem).map (·.size) = some 1)
    (B off dLen dCap : Nat) (hd : a.eval d = .slice (some ⟨B, off, none⟩) dLen dCap) (ad : Addr) (sLen sCap : Nat) (hs : a.eval s = .slice (some ad) sLen sCap)
    (cs : List Value) (hn : cs.length = Nat.min sLen dLen) (hsrc : ∀ j v, cs[j]? = some v → w.cell? (ad.add j) = some v) (t : TypeId) (old : List Value) (hB : Blk w B t old) (hfit : off + cs.length ≤ old.length) (h1 : ∀ v ∈ cs, v.oneCell' = true)
    (h : ∀ w', Blk w' B t (old.take off ++ cs ++ old.drop (off + cs.length)) → Only B w w' → K (a.put o.dst (goInt cs.length)) w') : o.wp P a w K Q := by
  have hrun := run_copy_cells (P := P) w dT sT o.type elem B off dLen dCap ad sLen sCap cs hu hsz hn hsrc (fun j hj => hB.there1 (by omega)) (fun j _ => hB.frz _) h1
  unfold Oper.wp execOp
  simp only [ho, resolve, invoke, builtin, Sem.run_bind, Sem.run_pure, Result.andThen_ok, List.map_toArray, List.map_cons, List.map_nil, hd, hs, hrun]
  exact h _ (hB.sets off cs hfit) (Only.sets _ _ _ _)
theorem mem_sz {v : Value} : (Try.prog.info? 24).map (·.size) = some [v].length := by
  show _ = some 1
  kernel_rfl
theorem u8_sz : (Try.prog.info? 5).map (·.size) = some 1 := by kernel_rfl

theorem number_list {x : Wm.Bs} (w : World) (hl : x.length = 4) (hx : Wm.isBs x) : Calls Try.prog 77 #[.agg (U x).toArray] w fun e w' => e = .returned (.int .u32 (Mm.le x)) ∧ Later w w' := by
  match x, hl with
  | [x0, x1, x2, x3], _ =>
    have h := number_any x0 x1 x2 x3 w (hx _ (by simp)) (hx _ (by simp)) (hx _ (by simp)) (hx _ (by simp))
    refine h.mono fun e w' ⟨h1, h2⟩ => ⟨h1.trans ?_, h2⟩
    show _ = Ending.returned (.int .u32 (x0 + 256 * (x1 + 256 * (x2 + 256 * (x3 + 256 * 0)))))
    exact ret_int (by omega)
/-- Bytes as a word. -/
def W4 (x : Wm.Bs) : Wm.Bs := x ++ List.replicate (4 - x.length) 0
theorem W4_len {x : Wm.Bs} (h : x.length ≤ 4) : (W4 x).length = 4 := by unfold W4; simp; omega
theorem W4_bs {x : Wm.Bs} (h : Wm.isBs x) : Wm.isBs (W4 x) := fun y hy => by
  rcases List.mem_append.1 hy with h1 | h1
  · exact h y h1
  · rw [List.eq_of_mem_replicate h1]; decide
theorem le_zeros (k : Nat) : Mm.le (List.replicate k 0) = 0 := by
  induction k with
  | zero => rfl
  | succ k ih => rw [List.replicate_succ]; show 0 + 256 * Mm.le (List.replicate k 0) = 0; rw [ih]; rfl
theorem le_pad (x : Wm.Bs) (k : Nat) : Mm.le (x ++ List.replicate k 0) = Mm.le x := by
  induction x with
  | nil => exact le_zeros k
  | cons a r ih => show a + 256 * Mm.le (r ++ List.replicate k 0) = a + 256 * Mm.le r; rw [ih]
theorem W4_le (x : Wm.Bs) : Mm.le (W4 x) = Mm.le x := le_pad x _
theorem W4_cells {x : Wm.Bs} (h : x.length ≤ 4) : (U [0, 0, 0, 0]).take 0 ++ U x ++ (U [0, 0, 0, 0]).drop (0 + (U x).length) = U (W4 x) := by
  unfold W4
  rw [U_append, List.take_zero, List.nil_append, U_length, Nat.zero_add]
  congr 1
  unfold U
  rw [List.map_replicate]
  rcases (show x.length = 0 ∨ x.length = 1 ∨ x.length = 2 ∨ x.length = 3 ∨ x.length = 4 by omega) with h | h | h | h | h <;> rw [h] <;> rfl
theorem Sl.part {w : World} {n k : Nat} {ad : Addr} {b : Wm.Bs} (h : Sl w 128 (some ad) n (U b)) {o : Nat} (hk : 0 < k) (ho : o + k ≤ n * 128) : ∀ j v, (U ((b.drop o).take k))[j]? = some v → w.cell? ((ad.add o).add j) = some v := by
  intro j v hv
  obtain ⟨_, e, _, hc⟩ := h.2 (by omega)
  cases e
  rw [addr_add_add]
  apply hc
  unfold U at hv ⊢
  rw [List.getElem?_map, List.getElem?_take] at hv
  split at hv
  · rw [List.getElem?_drop] at hv
    rw [List.getElem?_map]; exact hv
  · cases hv

set_option maxRecDepth 100000 in
set_option maxHeartbeats 2000000 in
theorem load_there (ad : Addr) (n c a s : Nat) (b : Wm.Bs) (w : World) (hs : Sl w 128 (some ad) n (U b)) (hb : Wm.isBs b) (hn : n ≤ 64) (h : Mm.There (n * 128) (a : Int) (s : Int)) :
    Calls Try.prog 57 #[.agg #[.slice (some ad) n c], .int .i64 (a : Int), .int .i64 (s : Int)] w fun e w' => e = .returned (.tuple #[.int .u32 (Mm.le ((b.drop a).take s)), .bool true]) ∧ Later w w' := by
  have HT := Lib.hid fun w' => there_any (some ad) n c (a : Int) (s : Int) w' hn ⟨by omega, by have := h.2.2; omega⟩
  rw [decide_eq_true h] at HT
  obtain ⟨h1, h2, h3⟩ := h
  have hs4 : s = 1 ∨ s = 4 := by omega
  have hfit : a % 128 + s ≤ 128 := by omega
  have has : a + s ≤ n * 128 := by omega
  have hbl : b.length = n * 128 := by have := hs.1; rwa [U_length] at this
  have HF := Lib.hid fun w' => from_any ad n c a w' hn (by omega)
  have HC := Lib.hid fun w' (hl : Later w w') => (hs.keep hl).part (o := a) (k := s) (by omega) has
  obtain ⟨x, hx⟩ : ∃ x, x = (b.drop a).take s := ⟨_, rfl⟩
  have hxl : x.length = s := by rw [hx, List.length_take, List.length_drop]; omega
  have hxb : Wm.isBs x := by rw [hx]; exact fun y hy => hb y (List.mem_of_mem_drop (List.mem_of_mem_take hy))
  rw [← hx] at HC ⊢
  have HX := Lib.hid (show (U x).length = Nat.min (128 - a % 128) s ∧ 0 + (U x).length ≤ (U [0, 0, 0, 0]).length ∧ x.length ≤ 4 from ⟨by rw [U_length, hxl]; exact (Nat.min_eq_right (by omega)).symm, by rw [U_length, hxl]; show 0 + s ≤ 4; omega, by omega⟩)
  have HN := Lib.hid fun w' => number_list (x := W4 x) w' (W4_len HX.out.2.2) (W4_bs hxb)
  rw [W4_le] at HN
  have s4 : (s : Int) ≤ 4 := by omega
  obtain ⟨Z, hZ⟩ : ∃ Z, Z = Mm.le x := ⟨_, rfl⟩
  rw [← hZ] at HN ⊢
  clear hZ hx hxl hxb hs4 hfit has hbl h1 h2 h3 hs hb
  go_enter Try.func57, Try.ntmps57
  go_wp2_with (first
    | (go_at_call 76; refine (HT.out _).mono ?_; rintro e w1 ⟨rfl, l1⟩; have bP := (Blk.new w 24 #[.slice (some ad) n c] _ rfl).keep l1; have l2 := Later.trans_ (later1 _ _) l1))
  have b8 := Blk.new w1 134 #[.int .u8 0, .int .u8 0, .int .u8 0, .int .u8 0] (U [0, 0, 0, 0]) rfl
  have H8 := Lib.hid l2.size
  have l3 : Later w (w1.alloc (.cells #[.int .u8 0, .int .u8 0, .int .u8 0, .int .u8 0] 134)) := l2.alloc l2.size _
  replace bP := bP.alloc (.cells #[.int .u8 0, .int .u8 0, .int .u8 0, .int .u8 0] 134)
  have hlt : w.heap.size < w1.heap.size := Nat.lt_of_lt_of_le (by simp) l1.size
  obtain ⟨B8, hB8⟩ : ∃ B8, B8 = w1.heap.size := ⟨_, rfl⟩
  rw [← hB8] at b8 H8 hlt ⊢
  clear hB8 l1 l2
  replace bP := bP.drew; replace b8 := b8.drew; replace l3 := l3.drew
  refine wp_region_held_drew (S := fun w' => w'.rangeAt w.heap.size 0 [.slice (some ad) n c]) (by kernel_rfl) (blk_at bP) (fun hHeld => ?_)
  refine wpAnyH_take (i := 0) (oi := ⟨some 14, .move (.tmp 2), _, _, _, none⟩) (v := .int .i64 (s : Int)) rfl (by kernel_rfl) (by kernel_rfl) (by kernel_rfl) (fun _ _ _ h => h) (Or.inl ⟨by rfl, fun _ _ => rfl⟩) hHeld ?_
  simp only [Act.put, List.setIfInBounds_toArray, List.set_cons_zero, List.set_cons_succ]
  refine wpAnyH_take (i := 1) (oi := ⟨some 15, .slice 134 (.tmp 8) none (some (.tmp 14)) none, _, _, _, none⟩) (v := .slice (some ⟨B8, 0, none⟩) s 4) rfl (by kernel_rfl) (by kernel_rfl) (by kernel_rfl) (fun _ _ _ h => h) (Or.inl ⟨by rfl, fun w _ => by go_simp⟩) hHeld ?_
  simp only [Act.put, List.setIfInBounds_toArray, List.set_cons_zero, List.set_cons_succ]
  refine wpAnyH_take (i := 2) (oi := ⟨some 16, .load 24 (.tmp 3), _, _, _, none⟩) (v := .agg #[.slice (some ad) n c]) rfl (by kernel_rfl) (by kernel_rfl) (by kernel_rfl) (fun _ _ _ h => h) (yieldsIf_load_mid (by rfl) _ _ rfl _ _ rfl _ _ (fun w h => h) Try.underlying24 rfl mem_sz) hHeld ?_
  simp only [Act.put, List.setIfInBounds_toArray, List.set_cons_zero, List.set_cons_succ]
  refine wpAnyH_take (i := 3) (oi := ⟨some 17, .move (.tmp 1), _, _, _, none⟩) (v := .int .i64 (a : Int)) rfl (by kernel_rfl) (by kernel_rfl) (by kernel_rfl) (fun _ _ _ h => h) (Or.inl ⟨by rfl, fun _ _ => rfl⟩) hHeld ?_
  simp only [Act.put, List.setIfInBounds_toArray, List.set_cons_zero, List.set_cons_succ]
  refine wpAnyH_ready (rs := [4]) (by kernel_rfl) (by simp) (AllReadyH.cons (o := ⟨some 18, .call { callee := .value (.func 61), args := #[.tmp 16, .tmp 17], argTypes := #[24, 3] }, _, _, _, none⟩) rfl (fun K' hK => ?_) (AllReadyH.nil))
  go_simp
  refine (HF.out _).mono ?_
  rintro e w4 ⟨rfl, l4⟩
  replace bP := bP.keep l4
  replace b8 := b8.keep l4
  replace l3 := Later.trans_ l3 l4
  have hc4 := HC.out _ l3
  refine hK.out _ _ (blk_at bP) (fun hHeld => ?_)
  clear hK K'
  try simp only [Act.put, List.setIfInBounds_toArray, List.set_cons_zero, List.set_cons_succ]
  refine wpAnyH_ready (rs := [5]) (by kernel_rfl) (by simp) (AllReadyH.cons (o := ⟨some 19, .call { callee := .builtin .copy, args := #[.tmp 15, .tmp 18], argTypes := #[94, 94] }, _, _, _, none⟩) rfl (fun K' hK => ?_) (AllReadyH.nil))
  refine wp_copy_row _ _ rfl Try.underlying94 u8_sz B8 0 _ _ rfl (ad.add a) _ _ rfl (U x) HX.out.1 hc4 134 (U [0, 0, 0, 0]) b8 HX.out.2.1 (U_one _) ?_
  intro w5 b5 o5
  have l5 := Below.only l3 o5 H8.out
  replace bP := bP.only o5 (by omega)
  refine hK.out _ _ (blk_at bP) (fun hHeld => ?_)
  clear hK K'
  try simp only [Act.put, List.setIfInBounds_toArray, List.set_cons_zero, List.set_cons_succ]
  refine wpAnyH_done (by kernel_rfl) ?_ _
  clear hHeld
  rw [W4_cells HX.out.2.2] at b5
  go_wp2_with (first
    | ((with_reducible refine wpList_load_blk (o := ⟨some 20, .load 134 (.tmp 8), _, _, _, none⟩) rfl _ _ rfl B8 134 (U (W4 x)) _ ?_ b5 Try.underlying134 rfl (word_sz (W4 x) (W4_len HX.out.2.2)) ?_); rfl)
    | (go_at_call 77; refine (HN.out _).mono ?_; rintro e w6 ⟨rfl, l6⟩))
  go_ret2
  exact ⟨rfl, Later.trans_ l5 l6⟩

theorem ret_load {x y : Int} {p q : Bool} (h : x = y) (k : p = q) : Ending.returned (.tuple #[.int .u32 x, .bool p]) = .returned (.tuple #[.int .u32 y, .bool q]) := by rw [h, k]
theorem Sl.addr {w : World} {size n : Nat} {A : Option Addr} {xs : List Value} (h : Sl w size A n xs) (hn : 0 < n) : ∃ ad, A = some ad := by
  obtain ⟨ad, e, _⟩ := h.2 hn
  exact ⟨ad, e⟩
theorem load_none (A : Option Addr) (n c : Nat) (a s : Int) (w : World) (hn : n ≤ 64) (ha : -9223372036854775808 ≤ a ∧ a ≤ 9223372036854775807) (h : ¬ Mm.There (n * 128) a s) :
    Calls Try.prog 57 #[.agg #[.slice A n c], .int .i64 a, .int .i64 s] w fun e w' => e = .returned (.tuple #[.int .u32 0, .bool false]) ∧ Later w w' := by
  have HT := Lib.hid fun w' => there_any A n c a s w' hn ha
  rw [decide_eq_false h] at HT
  clear h
  go_enter Try.func57, Try.ntmps57
  go_wp2_with (first
    | (go_at_call 76; refine (HT.out _).mono ?_; rintro e w1 ⟨rfl, l1⟩))
  go_ret2
  exact ⟨rfl, Later.trans_ (later1 _ _) l1⟩
theorem load_any (A : Option Addr) (n c : Nat) (a s : Int) (b : Wm.Bs) (w : World) (hs : Sl w 128 A n (U b)) (hb : Wm.isBs b) (hn1 : 1 ≤ n) (hn : n ≤ 64) (ha : -9223372036854775808 ≤ a ∧ a ≤ 9223372036854775807) :
    Calls Try.prog 57 #[.agg #[.slice A n c], .int .i64 a, .int .i64 s] w fun e w' => e = .returned (.tuple #[.int .u32 (Mm.ld b a s), .bool (decide (Mm.There (n * 128) a s))]) ∧ Later w w' := by
  obtain ⟨ad, rfl⟩ := hs.addr (by omega)
  have hbl : b.length = n * 128 := by have := hs.1; rwa [U_length] at this
  unfold Mm.ld
  rw [hbl]
  by_cases h : Mm.There (n * 128) a s
  · rw [if_pos h, decide_eq_true h]
    obtain ⟨a', rfl⟩ := Int.eq_ofNat_of_zero_le h.2.1
    obtain ⟨s', rfl⟩ := Int.eq_ofNat_of_zero_le (show 0 ≤ s by have := h.1; omega)
    exact load_there ad n c a' s' b w hs hb hn h
  · rw [if_neg h, decide_eq_false h]
    exact load_none _ n c a s w hn ha h

set_option maxRecDepth 100000 in
theorem byte_any (A : Option Addr) (n c a : Nat) (b : Wm.Bs) (w : World) (hs : Sl w 128 A n (U b)) (hn : n ≤ 64) (ha : a < n * 128) :
    Calls Try.prog 75 #[.agg #[.slice A n c], .int .i64 (a : Int)] w fun e w' => e = .returned (.int .u8 (b.getD a 0)) ∧ Later w w' := by
  obtain ⟨ad, rfl⟩ := hs.addr (by omega)
  have hbl : b.length = n * 128 := by have := hs.1; rwa [U_length] at this
  have hc : (w.alloc (.cells #[.slice (some ad) n c] 24)).cell? ((ad.add (a / 128 * 128)).add (a % 128)) = some (.int .u8 (b.getD a 0)) := by
    obtain ⟨_, e, _, hcell⟩ := (hs.alloc (.cells #[.slice (some ad) n c] 24)).2 (by omega)
    cases e
    rw [addr_add_add, show a / 128 * 128 + a % 128 = a by omega]
    exact hcell a _ (U_get b a (by omega))
  obtain ⟨X, hX⟩ : ∃ X, X = b.getD a 0 := ⟨_, rfl⟩
  rw [← hX] at hc ⊢
  have t1 : ((a : Int).tdiv 128) = ((a / 128 : Nat) : Int) := by rw [Int.tdiv_eq_ediv_of_nonneg (by omega)]; rfl
  have t2 : ((a : Int).tmod 128) = ((a % 128 : Nat) : Int) := by rw [Int.tmod_eq_emod_of_nonneg (by omega)]; rfl
  have b1 : (a : Int) / 128 < (n : Int) := by omega
  have b2 : (a : Int) % 128 < 128 := by omega
  have b5 : (a : Int) % 128 ≤ 128 := by omega
  have b3 : (0 : Int) ≤ (a : Int) / 128 := by omega
  have b4 : (0 : Int) ≤ (a : Int) % 128 := by omega
  clear hs hX hbl
  go_enter Try.func75, Try.ntmps75
  go_wp2
  go_ret
  exact ⟨rfl, later1 _ _⟩
end Go.Proofs.Ytffgbbfcbobecaa
