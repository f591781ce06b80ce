/-
  PLAIN MATHEMATICS: the numbers of a clock; what decoding them gives, and that the two ways to decode agree.
-/
import Derived.Test.YtdohocbpjpnmeaaCloI
import Derived.Test.YtdohocbpjpnmeaaTwF
import Derived.Test.YtdohocbpjpnmeaaWireLaws
namespace Go.Proofs.Ytdohocbpjpnmeaa
open Go.RowKit Go.ChangeShapes Go.WideShapes Go.ChangeAt

def ob (b : Bool) : Int := if b then 1 else 0
theorem ob_eq (b : Bool) : decide (ob b = 1) = b := by cases b <;> decide
/-- A clock's numbers. -/
def Clk.nums (x : Clk) : List Int := [x.l, ob (x.o 0), x.r 0, x.a 0, ob (x.o 1), x.r 1, x.a 1, ob (x.o 2), x.r 2, x.a 2, ob (x.o 3), x.r 3, x.a 3]
def lt_ {α : Type} (d : α) (k : Nat) (f : Nat → α) : Nat → α := fun i => if i < k then f i else d
theorem upd_lt {α : Type} (d : α) (k : Nat) (f : Nat → α) : upd (lt_ d k f) k (f k) = lt_ d (k + 1) f := by
  funext i
  unfold upd lt_
  by_cases h : i = k
  · subst h; rw [if_pos rfl, if_pos (Nat.lt_succ_self _)]
  · rw [if_neg h]
    by_cases h2 : i < k
    · rw [if_pos h2, if_pos (by omega)]
    · rw [if_neg h2, if_neg (by omega)]
def kN (n : Int) : Clk := { zK with l := n }
/-- A clock with k of its processors' parts from a list. -/
def half (l : List Int) (k : Nat) : Clk := ⟨l.getD 0 0, lt_ false k fun i => decide (l.getD (1 + i * 3) 0 = 1), lt_ 0 k fun i => l.getD (1 + i * 3 + 1) 0, lt_ 0 k fun i => l.getD (1 + i * 3 + 2) 0⟩
def ofL (l : List Int) : Clk := half l 4
theorem half_0 (l : List Int) : half l 0 = kN (l.getD 0 0) := by
  unfold half kN zK lt_
  simp
theorem half_s (l : List Int) (k : Nat) : ({ ({ ({ half l k with o := upd (half l k).o k (decide (l.getD (1 + k * 3) 0 = 1)) } : Clk) with r := upd (half l k).r k (l.getD (1 + k * 3 + 1) 0) } : Clk) with a := upd (half l k).a k (l.getD (1 + k * 3 + 2) 0) } : Clk) = half l (k + 1) := by
  unfold half
  show (⟨_, upd (lt_ false k fun i => decide (l.getD (1 + i * 3) 0 = 1)) k ((fun i => decide (l.getD (1 + i * 3) 0 = 1)) k), upd (lt_ 0 k fun i => l.getD (1 + i * 3 + 1) 0) k ((fun i => l.getD (1 + i * 3 + 1) 0) k), upd (lt_ 0 k fun i => l.getD (1 + i * 3 + 2) 0) k ((fun i => l.getD (1 + i * 3 + 2) 0) k)⟩ : Clk) = _
  rw [upd_lt, upd_lt, upd_lt]
theorem ofL_wf {l : List Int} (h : inR l) : (ofL l).wf := by
  have hg : ∀ k, i64 (l.getD k 0) := by
    intro k
    rw [List.getD_eq_getElem?_getD]
    rcases Nat.lt_or_ge k l.length with h1 | h1
    · rw [List.getElem?_eq_getElem h1]; exact h _ (List.getElem_mem _)
    · rw [List.getElem?_eq_none h1]; exact ⟨(show (-9223372036854775808 : Int) ≤ 0 by decide), (show (0 : Int) ≤ 9223372036854775807 by decide)⟩
  refine ⟨hg 0, fun k hk => ?_, fun k hk => ?_⟩
  · show i64 (if k < 4 then l.getD (1 + k * 3 + 1) 0 else 0)
    rw [if_pos hk]; exact hg _
  · show i64 (if k < 4 then l.getD (1 + k * 3 + 2) 0 else 0)
    rw [if_pos hk]; exact hg _
theorem ob_in (b : Bool) : -9223372036854775808 ≤ ob b ∧ ob b ≤ 9223372036854775807 := by cases b <;> decide
theorem nums_in {x : Clk} (h : x.wf) : inR x.nums := by
  intro a ha
  unfold Clk.nums at ha
  simp only [List.mem_cons, List.not_mem_nil, or_false] at ha
  rcases ha with rfl | rfl | rfl | rfl | rfl | rfl | rfl | rfl | rfl | rfl | rfl | rfl | rfl
  · exact h.l
  · exact ob_in _
  · exact h.r 0 (by omega)
  · exact h.a 0 (by omega)
  · exact ob_in _
  · exact h.r 1 (by omega)
  · exact h.a 1 (by omega)
  · exact ob_in _
  · exact h.r 2 (by omega)
  · exact h.a 2 (by omega)
  · exact ob_in _
  · exact h.r 3 (by omega)
  · exact h.a 3 (by omega)
theorem nums_back {l : List Int} (hl : l.length = 13) (hr : ∀ k, k < 4 → l.getD (1 + k * 3) 0 = 0 ∨ l.getD (1 + k * 3) 0 = 1) : (ofL l).nums = l := by
  match l, hl with
  | [a0, a1, a2, a3, a4, a5, a6, a7, a8, a9, a10, a11, a12], _ =>
    have hb : ∀ y : Int, y = 0 ∨ y = 1 → ob (decide (y = 1)) = y := by rintro y (rfl | rfl) <;> decide
    have h0 := hb a1 (by have := hr 0 (by omega); simpa using this)
    have h1 := hb a4 (by have := hr 1 (by omega); simpa using this)
    have h2 := hb a7 (by have := hr 2 (by omega); simpa using this)
    have h3 := hb a10 (by have := hr 3 (by omega); simpa using this)
    show [a0, ob (decide (a1 = 1)), a2, a3, ob (decide (a4 = 1)), a5, a6, ob (decide (a7 = 1)), a8, a9, ob (decide (a10 = 1)), a11, a12] = _
    rw [h0, h1, h2, h3]
theorem ofL_o (x : Clk) {k : Nat} (hk : k < 4) : (ofL x.nums).o k = x.o k := by
  rcases (show k = 0 ∨ k = 1 ∨ k = 2 ∨ k = 3 by omega) with rfl | rfl | rfl | rfl <;> exact ob_eq _
theorem ofL_r (x : Clk) {k : Nat} (hk : k < 4) : (ofL x.nums).r k = x.r k := by
  rcases (show k = 0 ∨ k = 1 ∨ k = 2 ∨ k = 3 by omega) with rfl | rfl | rfl | rfl <;> rfl
theorem ofL_a (x : Clk) {k : Nat} (hk : k < 4) : (ofL x.nums).a k = x.a k := by
  rcases (show k = 0 ∨ k = 1 ∨ k = 2 ∨ k = 3 by omega) with rfl | rfl | rfl | rfl <;> rfl
theorem ofL_cells (x : Clk) : (ofL x.nums).cells = x.cells := by
  unfold Clk.cells
  rw [ofL_o x (k := 0) (by omega), ofL_o x (k := 1) (by omega), ofL_o x (k := 2) (by omega), ofL_o x (k := 3) (by omega)]
  rfl
theorem ofL_Ok {x : Clk} (hx : x.Ok) : (ofL x.nums).Ok := by
  refine ⟨hx.l0, hx.l1, fun k hk => ?_⟩
  have h := hx.p k hk
  unfold okP at h ⊢
  rw [ofL_o x hk, ofL_r x hk, ofL_a x hk]
  exact h
theorem ofL_nums (x : Clk) : (ofL x.nums).nums = x.nums := by
  unfold Clk.nums
  show [x.l, ob ((ofL x.nums).o 0), x.r 0, x.a 0, ob ((ofL x.nums).o 1), x.r 1, x.a 1, ob ((ofL x.nums).o 2), x.r 2, x.a 2, ob ((ofL x.nums).o 3), x.r 3, x.a 3] = _
  rw [ofL_o x (k := 0) (by omega), ofL_o x (k := 1) (by omega), ofL_o x (k := 2) (by omega), ofL_o x (k := 3) (by omega)]
theorem flat_le (f : Int → Wm.Bs) (l : List Int) (h : ∀ a ∈ l, (f a).length ≤ 10) : (l.flatMap f).length ≤ 10 * l.length := by
  induction l with
  | nil => simp
  | cons a l ih =>
    have h1 := h a (by simp)
    have h2 := ih (fun b hb => h b (by simp [hb]))
    simp only [List.flatMap_cons, List.length_append, List.length_cons]
    omega
theorem encL_le (l : List Int) (h : inR l) (hl : l.length = 13) : (Wm.encL Wm.encI l).length ≤ 150 := by
  have h1 := flat_le Wm.encI l (fun a ha => Wm.encI_len (h a ha).1 (h a ha).2)
  have h2 := Wm.encI_len (n := (l.length : Int)) (by omega) (by omega)
  unfold Wm.encL
  rw [List.length_append]
  omega
theorem decE_in : ∀ (n : Nat) (b : Wm.Bs), Wm.isBs b → inR (Wm.decE Wm.decI n b).1
  | 0, _, _ => fun a ha => by simp [Wm.decE] at ha
  | n + 1, b, hb => by
    intro a ha
    unfold Wm.decE at ha
    obtain ⟨x, k, e, hr⟩ : ∃ x k e, Wm.decI b = (x, k, e) := ⟨_, _, _, rfl⟩
    rw [hr] at ha
    simp only at ha
    split at ha
    · simp at ha
    · split at ha
      · simp at ha
      · rcases List.mem_cons.1 ha with rfl | ha
        · rcases Wm.decI_ok hb hr with ⟨_, _, _, _, h1, h2, _⟩ | ⟨h, _⟩
          · exact ⟨h1, h2⟩
          · omega
        · exact decE_in n _ (fun y hy => hb y (List.mem_of_mem_drop hy)) a ha
theorem decL_in {b : Wm.Bs} (hb : Wm.isBs b) : inR (Wm.decL Wm.decI 1 b).1 := by
  intro a ha
  unfold Wm.decL at ha
  split at ha
  · simp at ha
  · split at ha
    · simp at ha
    · exact decE_in _ _ (fun y hy => hb y (List.mem_of_mem_drop hy)) a ha
/-- What the program takes for a clock. -/
def okD (b : Wm.Bs) (l : List Int) (e : Int) : Prop := e = 0 ∧ l.length = 13 ∧ (ofL l).Ok ∧ Wm.encL Wm.encI (ofL l).nums = b
/-- What the reference takes for a clock. -/
def okX (b : Wm.Bs) (l : List Int) (u : Nat) (e : Int) : Prop := e = 0 ∧ u = b.length ∧ l.length = 13 ∧ (∀ k, k < 4 → l.getD (1 + k * 3) 0 = 0 ∨ l.getD (1 + k * 3) 0 = 1) ∧ (ofL l).Ok
theorem ok_same {b : Wm.Bs} {l : List Int} {u : Nat} {e : Int} (hb : Wm.isBs b) (h : Wm.decL Wm.decI 1 b = (l, u, e)) : okX b l u e ↔ okD b l e := by
  have hin : inR l := by have := decL_in hb; rw [h] at this; exact this
  constructor
  · rintro ⟨rfl, hu, hl, hr, hv⟩
    refine ⟨rfl, hl, hv, ?_⟩
    rw [nums_back hl hr]
    have := (Wm.decL_can Wm.decI_can (by omega) hb h).2
    rw [← this, hu, List.take_length]
  · rintro ⟨rfl, hl, hv, hn⟩
    have hw := ofL_wf hin
    have h2 := Wm.ints_back (ofL l).nums [] (nums_in hw) (by show (13 : Nat) ≤ _; omega)
    rw [List.append_nil, hn, h] at h2
    simp only [Prod.mk.injEq] at h2
    obtain ⟨e1, e2, _⟩ := h2
    refine ⟨rfl, e2, hl, ?_, hv⟩
    intro k hk
    rw [e1]
    have e3 : (ofL l).nums.getD (1 + k * 3) 0 = ob ((ofL l).o k) := by
      rcases (show k = 0 ∨ k = 1 ∨ k = 2 ∨ k = 3 by omega) with rfl | rfl | rfl | rfl <;> rfl
    rw [e3]
    cases (ofL l).o k
    · exact Or.inl rfl
    · exact Or.inr rfl
theorem okD_back {x : Clk} (hx : x.Ok) : okD (Wm.encL Wm.encI x.nums) x.nums 0 := ⟨rfl, rfl, ofL_Ok hx, by rw [ofL_nums]⟩
theorem str_inj {a b : Wm.Bs} (ha : Wm.isBs a) (hb : Wm.isBs b) (h : strOfNums a = strOfNums b) : a = b := by
  have h1 := congrArg (fun s => s.data.toList) h
  rw [strOfNums_data, strOfNums_data] at h1
  have key : ∀ c : Wm.Bs, Wm.isBs c → (c.map fun n => UInt8.ofNat n.toNat).map (fun u => (u.toNat : Int)) = c := by
    intro c hc
    rw [List.map_map]
    conv => rhs; rw [← List.map_id c]
    apply List.map_congr_left
    intro n hn
    have := hc n hn
    show ((UInt8.ofNat n.toNat).toNat : Int) = n
    rw [UInt8.toNat_ofNat']
    omega
  rw [← key a ha, ← key b hb, h1]
theorem toList_eqb (x y : ByteArray) : (x.toList == y.toList) = decide (x = y) := by
  by_cases h : x = y
  · subst h; simp
  · rw [decide_eq_false h, beq_eq_false_iff_ne]
    intro e
    apply h
    rw [ByteArray.toList_eq, ByteArray.toList_eq] at e
    exact ByteArray.ext (Array.toList_inj.1 e)
theorem str_eq {a b : Wm.Bs} (ha : Wm.isBs a) (hb : Wm.isBs b) : ((strOfNums a).toList == (strOfNums b).toList) = decide (a = b) := by
  rw [toList_eqb, decide_eq_decide]
  exact ⟨str_inj ha hb, fun h => by rw [h]⟩
theorem to_str {w : World} {A : Option Addr} {n : Nat} {b : Wm.Bs} (h : Sl w 1 A n (U b)) (c : Nat) : (convert 50 9 (.slice A n c)).run Try.prog w = .ok (.string (strOfNums b)) w :=
  run_str (P := Try.prog) 50 9 5 Try.underlying50 Try.underlying5 Try.underlying9 h c
theorem equal_any (A1 A2 : Option Addr) (n1 c1 n2 c2 : Nat) (a b : Wm.Bs) (w : World) (h1 : Sl w 1 A1 n1 (U a)) (h2 : Sl w 1 A2 n2 (U b)) (ha : Wm.isBs a) (hb : Wm.isBs b) :
    Calls Try.prog 37 #[.slice A1 n1 c1, .slice A2 n2 c2] w fun e w' => e = .returned (.bool (decide (a = b))) ∧ w = w' := by
  have k1 := to_str h1 c1
  have k2 := to_str h2 c2
  have he := str_eq ha hb
  go_enter Try.func37, Try.ntmps37
  go_wp2
  go_ret
  exact ⟨rfl, rfl⟩
def GotBs (bs : Wm.Bs) (w : World) (e : Ending) (w' : World) : Prop := ∃ A n c, e = .returned (.slice A n c) ∧ n ≤ c ∧ c ≤ maxLen ∧ n = bs.length ∧ Sl w' 1 A n (U bs) ∧ Later w w'
theorem N64_len (l : List Int) : (N64 l).length = l.length := by unfold N64; rw [List.length_map]
theorem N64_app (a b : List Int) : N64 (a ++ b) = N64 a ++ N64 b := by unfold N64; rw [List.map_append]
theorem N64_one (l : List Int) : ∀ u ∈ N64 l, u.oneCell' = true := by
  intro u hu
  unfold N64 at hu
  obtain ⟨a, _, rfl⟩ := List.mem_map.1 hu
  rfl
theorem own_app64 {w : World} {B : Nat} {e : TypeId} {v : Value} {a b : List Int} {n : Nat} (h : w.ownsRow B e 1 v (a.length + n) (N64 a ++ N64 b)) (hn : n = b.length) : w.ownsRow B e 1 v (a ++ b).length (N64 (a ++ b)) := by
  rw [List.length_append, N64_app, ← hn]; exact h
theorem take_snoc64 (X : List Int) (k : Nat) (h : k < X.length) : X.take (k + 1) = X.take k ++ [X.getD k 0] := by
  rw [List.take_succ_eq_append_getElem h, List.getD_eq_getElem?_getD, List.getElem?_eq_getElem h]
  rfl
theorem sl_new64 {w : World} {B : Nat} {t : TypeId} {l : List Int} (h : Blk w B t (N64 l)) : Sl w 1 (some ⟨B, 0, none⟩) l.length (N64 l) := by
  refine ⟨by rw [N64_len]; omega, fun _ => ⟨_, rfl, h.lt, fun j u hu => ?_⟩⟩
  rw [Addr.add_mid, Nat.zero_add]
  exact h.cell hu
theorem wrap_in (n : Int) (h : 0 ≤ n ∧ n ≤ 4294967295) : IntKind.i64.wrap n = n := by rw [IntKind.wrap_i64]; omega
theorem own_blk {w : World} {B base n : Nat} {e : TypeId} {xs : List Value} (h : Blk w B e xs) (hb : base ≤ B) (hn : xs.length = n) (hm : n ≤ maxLen) : w.ownsRow base e 1 (.slice (some ⟨B, 0, none⟩) n n) n xs := by
  refine ⟨by omega, .inr ⟨B, n, xs.toArray, rfl, hb, h, Nat.le_refl _, hm, by simp; omega, ?_⟩⟩
  rw [Nat.mul_one, ← hn]
  simp
theorem encLI_bytes (l : List Int) : Wm.isBs (Wm.encL Wm.encI l) := by
  intro x hx
  unfold Wm.encL at hx
  rcases List.mem_append.1 hx with h | h
  · exact Wm.encI_bytes _ x h
  · obtain ⟨a, _, h⟩ := List.mem_flatMap.1 h
    exact Wm.encI_bytes _ x h
end Go.Proofs.Ytdohocbpjpnmeaa
