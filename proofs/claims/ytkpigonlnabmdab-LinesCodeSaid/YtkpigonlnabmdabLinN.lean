/-
  PLAIN MATHEMATICS: the numbers of a control; what decoding them gives, and that the two ways to decode agree.
-/
import Derived.Test.YtkpigonlnabmdabLinM
import Derived.Test.YtkpigonlnabmdabTwF
import Derived.Test.YtkpigonlnabmdabWireLaws
namespace Go.Proofs.Ytkpigonlnabmdab
open Go.RowKit Go.ChangeShapes Go.WideShapes Go.ChangeAt

def wr32 (n : Int) : Int := IntKind.u32.wrap n
theorem wr_eq {n : Int} (h : 0 ≤ n ∧ n ≤ 4294967295) : wr32 n = n := by unfold wr32; rw [IntKind.wrap_u32]; omega
theorem wr_in (n : Int) : 0 ≤ wr32 n ∧ wr32 n ≤ 4294967295 := by unfold wr32; rw [IntKind.wrap_u32]; omega
/-- A control's numbers. -/
def Ctl.nums (x : Ctl) : List Int := [x.n, x.r 0, x.r 1, x.r 2, x.r 3, x.m 0, x.m 1, x.m 2, x.m 3, x.t 0, x.t 1, x.t 2, x.t 3, x.t 4]
def lt_ (k : Nat) (f : Nat → Int) : Nat → Int := fun i => if i < k then f i else 0
theorem upd_lt (k : Nat) (f : Nat → Int) : upd (lt_ k f) k (f k) = lt_ (k + 1) f := by
  funext i
  unfold upd lt_
  by_cases h : i = k
  · subst h; rw [if_pos rfl, if_pos (Nat.lt_succ_self _)]
  · rw [if_neg h]
    by_cases h2 : i < k
    · rw [if_pos h2, if_pos (by omega)]
    · rw [if_neg h2, if_neg (by omega)]
/-- A control with k of its processors' numbers, and j of the lines', from a list. -/
def half (l : List Int) (k j : Nat) : Ctl := ⟨l.getD 0 0, lt_ k fun i => wr32 (l.getD (1 + i) 0), lt_ k fun i => wr32 (l.getD (5 + i) 0), lt_ j fun i => l.getD (9 + i) 0⟩
def ofL (l : List Int) : Ctl := half l 4 5
theorem half_n (l : List Int) : half l 0 0 = kN (l.getD 0 0) := by
  unfold half kN zK lt_
  simp
theorem ofL_wf {l : List Int} (h : inR l) : (ofL l).wf := by
  have hg : ∀ k, i64 (l.getD k 0) := by
    intro k
    rw [List.getD_eq_getElem?_getD]
    rcases Nat.lt_or_ge k l.length with h1 | h1
    · rw [List.getElem?_eq_getElem h1]; exact h _ (List.getElem_mem _)
    · rw [List.getElem?_eq_none h1]; exact ⟨(show (-9223372036854775808 : Int) ≤ 0 by decide), (show (0 : Int) ≤ 9223372036854775807 by decide)⟩
  refine ⟨hg 0, fun k hk => ?_, fun k hk => ?_, fun k hk => ?_⟩
  · show Tm.isE (if k < 4 then wr32 (l.getD (1 + k) 0) else 0)
    rw [if_pos hk]
    have := wr_in (l.getD (1 + k) 0)
    exact ⟨this.1, by omega⟩
  · show Tm.isE (if k < 4 then wr32 (l.getD (5 + k) 0) else 0)
    rw [if_pos hk]
    have := wr_in (l.getD (5 + k) 0)
    exact ⟨this.1, by omega⟩
  · show i64 (if k < 5 then l.getD (9 + k) 0 else 0)
    rw [if_pos hk]
    exact hg _
theorem nums_in {x : Ctl} (h : x.wf) : inR x.nums := by
  intro a ha
  unfold Ctl.nums at ha
  simp only [List.mem_cons, List.not_mem_nil, or_false] at ha
  have hn := h.n
  have hr := h.r
  have hm := h.m
  have ht := h.t
  unfold i64 at hn ht
  unfold Tm.isE at hr hm
  rcases ha with rfl | rfl | rfl | rfl | rfl | rfl | rfl | rfl | rfl | rfl | rfl | rfl | rfl | rfl
  · exact hn
  · have := hr 0 (by omega); omega
  · have := hr 1 (by omega); omega
  · have := hr 2 (by omega); omega
  · have := hr 3 (by omega); omega
  · have := hm 0 (by omega); omega
  · have := hm 1 (by omega); omega
  · have := hm 2 (by omega); omega
  · have := hm 3 (by omega); omega
  · exact ht 0 (by omega)
  · exact ht 1 (by omega)
  · exact ht 2 (by omega)
  · exact ht 3 (by omega)
  · exact ht 4 (by omega)
theorem nums_back {l : List Int} (hl : l.length = 14) (hr : ∀ k, k < 8 → 0 ≤ l.getD (1 + k) 0 ∧ l.getD (1 + k) 0 < 32) : (ofL l).nums = l := by
  match l, hl with
  | [a0, a1, a2, a3, a4, a5, a6, a7, a8, a9, a10, a11, a12, a13], _ =>
    have h0 : wr32 a1 = a1 := wr_eq (by have := hr 0 (by omega); simp at this; omega)
    have h1 : wr32 a2 = a2 := wr_eq (by have := hr 1 (by omega); simp at this; omega)
    have h2 : wr32 a3 = a3 := wr_eq (by have := hr 2 (by omega); simp at this; omega)
    have h3 : wr32 a4 = a4 := wr_eq (by have := hr 3 (by omega); simp at this; omega)
    have h4 : wr32 a5 = a5 := wr_eq (by have := hr 4 (by omega); simp at this; omega)
    have h5 : wr32 a6 = a6 := wr_eq (by have := hr 5 (by omega); simp at this; omega)
    have h6 : wr32 a7 = a7 := wr_eq (by have := hr 6 (by omega); simp at this; omega)
    have h7 : wr32 a8 = a8 := wr_eq (by have := hr 7 (by omega); simp at this; omega)
    show [a0, wr32 a1, wr32 a2, wr32 a3, wr32 a4, wr32 a5, wr32 a6, wr32 a7, wr32 a8, a9, a10, a11, a12, a13] = _
    rw [h0, h1, h2, h3, h4, h5, h6, h7]
theorem ofL_cells {x : Ctl} (hx : x.wf) : (ofL x.nums).cells = x.cells := by
  have hr := fun k hk => wr_eq (n := x.r k) (by have := hx.r k hk; exact ⟨this.1, by have := this.2; omega⟩)
  have hm := fun k hk => wr_eq (n := x.m k) (by have := hx.m k hk; exact ⟨this.1, by have := this.2; omega⟩)
  show [Value.int .i64 x.n, .int .u32 (wr32 (x.r 0)), .int .u32 (wr32 (x.r 1)), .int .u32 (wr32 (x.r 2)), .int .u32 (wr32 (x.r 3)), .int .u32 (wr32 (x.m 0)), .int .u32 (wr32 (x.m 1)), .int .u32 (wr32 (x.m 2)), .int .u32 (wr32 (x.m 3)), .int .i64 (x.t 0), .int .i64 (x.t 1), .int .i64 (x.t 2), .int .i64 (x.t 3), .int .i64 (x.t 4)] = _
  rw [hr 0 (by omega), hr 1 (by omega), hr 2 (by omega), hr 3 (by omega), hm 0 (by omega), hm 1 (by omega), hm 2 (by omega), hm 3 (by omega)]
  rfl
theorem ofL_Ok {x : Ctl} (hw : x.wf) (hx : x.Ok) : (ofL x.nums).Ok := by
  have hr := fun k hk => wr_eq (n := x.r k) (by have := hw.r k hk; exact ⟨this.1, by have := this.2; omega⟩)
  have hm := fun k hk => wr_eq (n := x.m k) (by have := hw.m k hk; exact ⟨this.1, by have := this.2; omega⟩)
  refine ⟨hx.n1, hx.n4, fun k hk => ?_, fun k hk => ?_⟩
  · have h := hx.p k hk
    have e1 : (ofL x.nums).r k = x.r k := by
      rcases (show k = 0 ∨ k = 1 ∨ k = 2 ∨ k = 3 by omega) with rfl | rfl | rfl | rfl <;> exact hr _ (by omega)
    have e2 : (ofL x.nums).m k = x.m k := by
      rcases (show k = 0 ∨ k = 1 ∨ k = 2 ∨ k = 3 by omega) with rfl | rfl | rfl | rfl <;> exact hm _ (by omega)
    unfold okP at h ⊢
    rw [e1, e2]
    exact h
  · have h := hx.t k hk
    have e1 : (ofL x.nums).t k = x.t k := by
      rcases (show k = 0 ∨ k = 1 ∨ k = 2 ∨ k = 3 ∨ k = 4 by omega) with rfl | rfl | rfl | rfl | rfl <;> rfl
    unfold okT at h ⊢
    rw [e1]
    exact h
theorem ofL_nums {x : Ctl} (hw : x.wf) : (ofL x.nums).nums = x.nums := by
  have hr := fun k hk => wr_eq (n := x.r k) (by have := hw.r k hk; exact ⟨this.1, by have := this.2; omega⟩)
  have hm := fun k hk => wr_eq (n := x.m k) (by have := hw.m k hk; exact ⟨this.1, by have := this.2; omega⟩)
  show [x.n, wr32 (x.r 0), wr32 (x.r 1), wr32 (x.r 2), wr32 (x.r 3), wr32 (x.m 0), wr32 (x.m 1), wr32 (x.m 2), wr32 (x.m 3), x.t 0, x.t 1, x.t 2, x.t 3, x.t 4] = _
  rw [hr 0 (by omega), hr 1 (by omega), hr 2 (by omega), hr 3 (by omega), hm 0 (by omega), hm 1 (by omega), hm 2 (by omega), hm 3 (by omega)]
  rfl
theorem flat_le (f : Int → Wm.Bs) (l : List Int) (h : ∀ a ∈ l, (f a).length ≤ 10) : (l.flatMap f).length ≤ 10 * l.length := by
  induction l with
  | nil => simp
  | cons a l ih =>
    have h1 := h a (by simp)
    have h2 := ih (fun b hb => h b (by simp [hb]))
    simp only [List.flatMap_cons, List.length_append, List.length_cons]
    omega
theorem encL_le (l : List Int) (h : inR l) (hl : l.length = 14) : (Wm.encL Wm.encI l).length ≤ 150 := by
  have h1 := flat_le Wm.encI l (fun a ha => Wm.encI_len (h a ha).1 (h a ha).2)
  have h2 := Wm.encI_len (n := (l.length : Int)) (by omega) (by omega)
  unfold Wm.encL
  rw [List.length_append]
  omega
theorem decE_in : ∀ (n : Nat) (b : Wm.Bs), Wm.isBs b → inR (Wm.decE Wm.decI n b).1
  | 0, _, _ => fun a ha => by simp [Wm.decE] at ha
  | n + 1, b, hb => by
    intro a ha
    unfold Wm.decE at ha
    obtain ⟨x, k, e, hr⟩ : ∃ x k e, Wm.decI b = (x, k, e) := ⟨_, _, _, rfl⟩
    rw [hr] at ha
    simp only at ha
    split at ha
    · simp at ha
    · split at ha
      · simp at ha
      · rcases List.mem_cons.1 ha with rfl | ha
        · rcases Wm.decI_ok hb hr with ⟨_, _, _, _, h1, h2, _⟩ | ⟨h, _⟩
          · exact ⟨h1, h2⟩
          · omega
        · exact decE_in n _ (fun y hy => hb y (List.mem_of_mem_drop hy)) a ha
theorem decL_in {b : Wm.Bs} (hb : Wm.isBs b) : inR (Wm.decL Wm.decI 1 b).1 := by
  intro a ha
  unfold Wm.decL at ha
  split at ha
  · simp at ha
  · split at ha
    · simp at ha
    · exact decE_in _ _ (fun y hy => hb y (List.mem_of_mem_drop hy)) a ha
/-- What the program takes for a control. -/
def okD (b : Wm.Bs) (l : List Int) (e : Int) : Prop := e = 0 ∧ l.length = 14 ∧ (ofL l).Ok ∧ Wm.encL Wm.encI (ofL l).nums = b
/-- What the reference takes for a control. -/
def okR (b : Wm.Bs) (l : List Int) (u : Nat) (e : Int) : Prop := e = 0 ∧ u = b.length ∧ l.length = 14 ∧ (∀ k, k < 8 → 0 ≤ l.getD (1 + k) 0 ∧ l.getD (1 + k) 0 < 32) ∧ (ofL l).Ok
theorem ok_same {b : Wm.Bs} {l : List Int} {u : Nat} {e : Int} (hb : Wm.isBs b) (h : Wm.decL Wm.decI 1 b = (l, u, e)) : okR b l u e ↔ okD b l e := by
  have hin : inR l := by have := decL_in hb; rw [h] at this; exact this
  constructor
  · rintro ⟨rfl, hu, hl, hr, hv⟩
    refine ⟨rfl, hl, hv, ?_⟩
    rw [nums_back hl hr]
    have := (Wm.decL_can Wm.decI_can (by omega) hb h).2
    rw [← this, hu, List.take_length]
  · rintro ⟨rfl, hl, hv, hn⟩
    have hw := ofL_wf hin
    have h2 := Wm.ints_back (ofL l).nums [] (nums_in hw) (by show (14 : Nat) ≤ _; omega)
    rw [List.append_nil, hn, h] at h2
    simp only [Prod.mk.injEq] at h2
    obtain ⟨e1, e2, _⟩ := h2
    refine ⟨rfl, e2, hl, ?_, hv⟩
    intro k hk
    rw [e1]
    by_cases h4 : k < 4
    · have h5 := hv.r5 hw h4
      have e3 : (ofL l).nums.getD (1 + k) 0 = (ofL l).r k := by
        rcases (show k = 0 ∨ k = 1 ∨ k = 2 ∨ k = 3 by omega) with rfl | rfl | rfl | rfl <;> rfl
      rw [e3]; exact h5
    · obtain ⟨j, rfl⟩ : ∃ j, k = 4 + j := ⟨k - 4, by omega⟩
      have h5 := hv.m5 hw (k := j) (by omega)
      have e3 : (ofL l).nums.getD (1 + (4 + j)) 0 = (ofL l).m j := by
        rcases (show j = 0 ∨ j = 1 ∨ j = 2 ∨ j = 3 by omega) with rfl | rfl | rfl | rfl <;> rfl
      rw [e3]; exact h5
theorem okD_back {x : Ctl} (hw : x.wf) (hx : x.Ok) : okD (Wm.encL Wm.encI x.nums) x.nums 0 := ⟨rfl, rfl, ofL_Ok hw hx, by rw [ofL_nums hw]⟩
theorem str_inj {a b : Wm.Bs} (ha : Wm.isBs a) (hb : Wm.isBs b) (h : strOfNums a = strOfNums b) : a = b := by
  have h1 := congrArg (fun s => s.data.toList) h
  rw [strOfNums_data, strOfNums_data] at h1
  have key : ∀ c : Wm.Bs, Wm.isBs c → (c.map fun n => UInt8.ofNat n.toNat).map (fun u => (u.toNat : Int)) = c := by
    intro c hc
    rw [List.map_map]
    conv => rhs; rw [← List.map_id c]
    apply List.map_congr_left
    intro n hn
    have := hc n hn
    show ((UInt8.ofNat n.toNat).toNat : Int) = n
    rw [UInt8.toNat_ofNat']
    omega
  rw [← key a ha, ← key b hb, h1]
theorem toList_eqb (x y : ByteArray) : (x.toList == y.toList) = decide (x = y) := by
  by_cases h : x = y
  · subst h; simp
  · rw [decide_eq_false h, beq_eq_false_iff_ne]
    intro e
    apply h
    rw [ByteArray.toList_eq, ByteArray.toList_eq] at e
    exact ByteArray.ext (Array.toList_inj.1 e)
theorem str_eq {a b : Wm.Bs} (ha : Wm.isBs a) (hb : Wm.isBs b) : ((strOfNums a).toList == (strOfNums b).toList) = decide (a = b) := by
  rw [toList_eqb, decide_eq_decide]
  exact ⟨str_inj ha hb, fun h => by rw [h]⟩
theorem to_str {w : World} {A : Option Addr} {n : Nat} {b : Wm.Bs} (h : Sl w 1 A n (U b)) (c : Nat) : (convert 42 9 (.slice A n c)).run Try.prog w = .ok (.string (strOfNums b)) w :=
  run_str (P := Try.prog) 42 9 5 Try.underlying42 Try.underlying5 Try.underlying9 h c
theorem equal_any (A1 A2 : Option Addr) (n1 c1 n2 c2 : Nat) (a b : Wm.Bs) (w : World) (h1 : Sl w 1 A1 n1 (U a)) (h2 : Sl w 1 A2 n2 (U b)) (ha : Wm.isBs a) (hb : Wm.isBs b) :
    Calls Try.prog 36 #[.slice A1 n1 c1, .slice A2 n2 c2] w fun e w' => e = .returned (.bool (decide (a = b))) ∧ w = w' := by
  have k1 := to_str h1 c1
  have k2 := to_str h2 c2
  have he := str_eq ha hb
  go_enter Try.func36, Try.ntmps36
  go_wp2
  go_ret
  exact ⟨rfl, rfl⟩
theorem Sl.only {w w' : World} {A : Option Addr} {n g : Nat} {xs : List Value} (h : Sl w 1 A n xs) (hA : ∀ ad, A = some ad → ad.block ≠ g) (ho : Only g w w') : Sl w' 1 A n xs := by
  refine ⟨h.1, fun h0 => ?_⟩
  obtain ⟨ad, e, hb, hc⟩ := h.2 h0
  refine ⟨ad, e, by rw [ho.size]; exact hb, fun j u hu => ?_⟩
  rw [← hc j u hu]
  exact World.cell?_of_block (ho.2.2.2.2 _ (by rw [addr_add_block]; exact hA ad e))
def GotBs (bs : Wm.Bs) (w : World) (e : Ending) (w' : World) : Prop := ∃ A n c, e = .returned (.slice A n c) ∧ n ≤ c ∧ c ≤ maxLen ∧ n = bs.length ∧ Sl w' 1 A n (U bs) ∧ Later w w'
theorem N64_len (l : List Int) : (N64 l).length = l.length := by unfold N64; rw [List.length_map]
theorem N64_app (a b : List Int) : N64 (a ++ b) = N64 a ++ N64 b := by unfold N64; rw [List.map_append]
theorem N64_one (l : List Int) : ∀ u ∈ N64 l, u.oneCell' = true := by
  intro u hu
  unfold N64 at hu
  obtain ⟨a, _, rfl⟩ := List.mem_map.1 hu
  rfl
theorem own_app64 {w : World} {B : Nat} {e : TypeId} {v : Value} {a b : List Int} {n : Nat} (h : w.ownsRow B e 1 v (a.length + n) (N64 a ++ N64 b)) (hn : n = b.length) : w.ownsRow B e 1 v (a ++ b).length (N64 (a ++ b)) := by
  rw [List.length_append, N64_app, ← hn]; exact h
theorem take_snoc64 (X : List Int) (k : Nat) (h : k < X.length) : X.take (k + 1) = X.take k ++ [X.getD k 0] := by
  rw [List.take_succ_eq_append_getElem h, List.getD_eq_getElem?_getD, List.getElem?_eq_getElem h]
  rfl
theorem sl_new64 {w : World} {B : Nat} {t : TypeId} {l : List Int} (h : Blk w B t (N64 l)) : Sl w 1 (some ⟨B, 0, none⟩) l.length (N64 l) := by
  refine ⟨by rw [N64_len]; omega, fun _ => ⟨_, rfl, h.lt, fun j u hu => ?_⟩⟩
  rw [Addr.add_mid, Nat.zero_add]
  exact h.cell hu
theorem wrap_in (n : Int) (h : 0 ≤ n ∧ n ≤ 4294967295) : IntKind.i64.wrap n = n := by rw [IntKind.wrap_i64]; omega
theorem own_blk {w : World} {B base n : Nat} {e : TypeId} {xs : List Value} (h : Blk w B e xs) (hb : base ≤ B) (hn : xs.length = n) (hm : n ≤ maxLen) : w.ownsRow base e 1 (.slice (some ⟨B, 0, none⟩) n n) n xs := by
  refine ⟨by omega, .inr ⟨B, n, xs.toArray, rfl, hb, h, Nat.le_refl _, hm, by simp; omega, ?_⟩⟩
  rw [Nat.mul_one, ← hn]
  simp
theorem encLI_bytes (l : List Int) : Wm.isBs (Wm.encL Wm.encI l) := by
  intro x hx
  unfold Wm.encL at hx
  rcases List.mem_append.1 hx with h | h
  · exact Wm.encI_bytes _ x h
  · obtain ⟨a, _, h⟩ := List.mem_flatMap.1 h
    exact Wm.encI_bytes _ x h
theorem wp_copy_row {P : Program} {o : Oper} {a : Act} {w : World} {K : Act → World → Prop} {Q : Exit → Act → World → Prop} (d s : Operand) {dT sT elem : TypeId}
    (ho : o.op = .call { callee := .builtin .copy, args := #[d, s], argTypes := #[dT, sT] }) (hu : P.underlying dT = some (.slice elem)) (hsz : (P.info? elem).map (·.size) = some 1)
    (B off dLen dCap : Nat) (hd : a.eval d = .slice (some ⟨B, off, none⟩) dLen dCap) (ad : Addr) (sLen sCap : Nat) (hs : a.eval s = .slice (some ad) sLen sCap)
    (cs : List Value) (hn : cs.length = Nat.min sLen dLen) (hsrc : ∀ j v, cs[j]? = some v → w.cell? (ad.add j) = some v) (t : TypeId) (old : List Value) (hB : Blk w B t old) (hfit : off + cs.length ≤ old.length) (h1 : ∀ v ∈ cs, v.oneCell' = true)
    (h : ∀ w', Blk w' B t (old.take off ++ cs ++ old.drop (off + cs.length)) → Only B w w' → K (a.put o.dst (goInt cs.length)) w') : o.wp P a w K Q := by
  have hrun := run_copy_cells (P := P) w dT sT o.type elem B off dLen dCap ad sLen sCap cs hu hsz hn hsrc (fun j hj => hB.there1 (by omega)) (fun j _ => hB.frz _) h1
  unfold Oper.wp execOp
  simp only [ho, resolve, invoke, builtin, Sem.run_bind, Sem.run_pure, Result.andThen_ok, List.map_toArray, List.map_cons, List.map_nil, hd, hs, hrun]
  exact h _ (hB.sets off cs hfit) (Only.sets _ _ _ _)
end Go.Proofs.Ytkpigonlnabmdab
