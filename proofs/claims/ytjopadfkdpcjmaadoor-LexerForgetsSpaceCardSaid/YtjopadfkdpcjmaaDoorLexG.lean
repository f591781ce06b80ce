/-
  WHAT lexer.Tokens' WALK NEEDS: tokens as cells, the kinds.
-/
import Derived.Test.YtjopadfkdpcjmaaDoorLexF
import Derived.WalkMore
import Derived.Deep.LoopGhost
import Derived.Deep.MidRow
import Derived.Deep.WholeRow
import Derived.StillTailTactics
import Derived.Lib.QuietBelow
import Derived.Deep.RegionHeld3
namespace Go.Proofs.YtjopadfkdpcjmaaDoor
open Go.RowKit Go.ChangeShapes Go.WideShapes Go.ChangeAt

theorem wp_store_whole {P : Program} {op : Oper} {a : Act} {w : World} {K : Act → World → Prop} {Q : Exit → Act → World → Prop} (ty : TypeId) (x y : Operand) (ho : op.op = .store ty x y)
    (g : Nat) (t : TypeId) (old cs : List Value) (hx : a.eval x = .pointer (some ⟨g, 0, none⟩)) (hy : a.eval y = .agg cs.toArray) (hg : Blk w g t old)
    (hi : (P.info? ty).map (·.size) = some cs.length) (hold : old.length = cs.length) (h1 : ∀ v ∈ cs, v.oneCell' = true)
    (h : ∀ w', Blk w' g t cs → Only g w w' → K (a.put op.dst undef) w') : op.wp P a w K Q := by
  refine wp_store_mid ty x y ho g 0 cs.toArray hx hy (hg.there 0 _ (by simp [hold])) (by rw [List.size_toArray]; exact hi) (all_oneCell_toArray h1) ?_
  have h2 := hg.sets 0 cs (by omega)
  rw [List.take_zero, List.nil_append, List.drop_eq_nil_of_le (by omega), List.append_nil] at h2
  exact h _ h2 (Only.sets _ _ _ _)
theorem own_only {w w' : World} {base B : Nat} {e : TypeId} {size n : Nat} {v : Value} {xs : List Value} (h : w.ownsRow base e size v n xs) (k : Only B w w') (hne : ∀ g, v.ownBlock = some g → g ≠ B) : w'.ownsRow base e size v n xs :=
  h.kept (row := some B) ⟨k.1, k.2.1, k.2.2.1, Nat.le_of_eq k.size.symm, fun j _ hj => k.2.2.2.2 j (fun e => hj (by rw [e]))⟩ (by
    cases e : v.ownBlock with
    | none => exact .inl rfl
    | some g => exact .inr (fun h => hne g e (Option.some.inj h)))
/-- Tokens as cells. -/
def Tks (l : List Lx.Tok) : List Value := l.flatMap Tk
theorem Tks_len (l : List Lx.Tok) : (Tks l).length = l.length * 4 := by
  induction l with
  | nil => rfl
  | cons t r ih =>
    show (Tk t ++ Tks r).length = _
    rw [List.length_append, ih]
    simp [Tk]
    omega
theorem Tks_app (a b : List Lx.Tok) : Tks (a ++ b) = Tks a ++ Tks b := List.flatMap_append
theorem Tks_at : ∀ (l : List Lx.Tok) (i : Nat) (hi : i < l.length) (j : Nat), j < 4 → (Tks l)[i * 4 + j]? = (Tk l[i])[j]? := by
  intro l
  induction l with
  | nil => intro i hi; simp at hi
  | cons t r ih =>
    intro i hi j hj
    show (Tk t ++ Tks r)[i * 4 + j]? = _
    cases i with
    | zero => rw [Nat.zero_mul, Nat.zero_add, List.getElem?_append_left (by simpa [Tk] using hj)]; rfl
    | succ i =>
      rw [List.getElem?_append_right (by simp [Tk]; omega), show (i + 1) * 4 + j - (Tk t).length = i * 4 + j by simp [Tk]; omega]
      exact ih i (by simpa using hi) j hj
theorem own_snocT {w : World} {B : Nat} {e : TypeId} {v : Value} {a : List Lx.Tok} {t : Lx.Tok} (h : w.ownsRow B e 4 v (a.length + 1) (Tks a ++ Tk t)) : w.ownsRow B e 4 v (a ++ [t]).length (Tks (a ++ [t])) := by
  rw [Tks_app, List.length_append]
  have : Tks [t] = Tk t := by simp [Tks]
  rw [this]; exact h
/-- What Tokens answers. -/
def GotToks (r : List Lx.Tok × Nat × Int) (w : World) (e : Ending) (w' : World) : Prop :=
  ∃ A n c, e = .returned (.tuple #[.slice A n c, .agg #[.int .i64 r.2.1, .int .i64 r.2.2]]) ∧ r.1.length = n ∧ n ≤ c ∧ c ≤ maxLen ∧ Sl w' 4 A n (Tks r.1) ∧ Later w w'
theorem results_tc {P : Program} {fn : Func} {p q : Tmp} {ty : TypeId} (h : fn.results = #[.tmp q, .cell p ty]) (tmps : Array Value) (w : World) (g : Nat) (t : TypeId) (cs : List Value) (v : Value) (d : TypeDesc)
    (hq : tmps.getD q undef = v) (hp : tmps.getD p undef = .pointer (some ⟨g, 0, none⟩)) (hg : Blk w g t cs)
    (hu : P.underlying ty = some d) (hd : (match d with | .struct _ | .array _ _ => true | _ => false) = true) (hi : (P.info? ty).map (·.size) = some cs.length) :
    (results fn tmps).run P w = .ok (.tuple #[v, .agg cs.toArray]) w := by
  have hp' : tmps[p]?.getD undef = .pointer (some ⟨g, 0, none⟩) := by simpa using hp
  have hq' : tmps[q]?.getD undef = v := by simpa using hq
  simp [results, h, hp', hq', asAddr, run_loadVar_row w g t ty cs.toArray (0, 0) d hg hu hd (by rw [List.size_toArray]; exact hi)]

def Pb (a e : Int) : List Value := [.int .i64 a, .int .i64 e]
theorem pb_sz (a e : Int) : (Tryd.prog.info? 26).map (·.size) = some (Pb a e).length := by kernel_rfl
theorem pb_one (a e : Int) : ∀ v ∈ Pb a e, v.oneCell' = true := by
  intro v hv
  simp only [Pb, List.mem_cons, List.not_mem_nil, or_false] at hv
  rcases hv with rfl | rfl <;> rfl

set_option maxRecDepth 100000 in
theorem tokens_long (s : ByteArray) (w : World) (hs : 16384 < s.size) : Calls Tryd.prog 10 #[.string s] w (GotToks ([], 16384, 2) w) := by
  go_enter Tryd.func10, Tryd.ntmps10
  go_wp2
  go_step3
  go_wp2
  rw [Exit.noGoto_ret]
  exact bodyPost_ret (v := .tuple #[.slice none 0 0, .agg (Pb 16384 2).toArray]) (results_tc (cs := Pb 16384 2) Tryd.results10 _ _ w.heap.size 26 (.slice none 0 0) _ rfl rfl (Blk.new w _ _ _ rfl) Tryd.underlying26 rfl (pb_sz _ _)) rfl ⟨none, 0, 0, rfl, rfl, Nat.le_refl _, Nat.zero_le _, Sl.nil _ _ _, later1 _ _⟩

def kindF : Nat → List Value
  | 0 => [.string lettersS, .func (.func 43) #[] #[]]
  | 1 => [.string ⟨#[48, 49, 50, 51, 52, 53, 54, 55, 56, 57]⟩, .func (.func 44) #[] #[]]
  | 2 => [.string ⟨#[34]⟩, .func (.func 45) #[] #[]]
  | 3 => [.string ⟨#[44, 58, 40, 41, 91, 93, 123, 125, 61, 43, 45, 42, 47, 60, 62, 64, 124, 38, 33]⟩, .func (.func 46) #[] #[]]
  | _ => [.string ⟨#[10]⟩, .func (.func 47) #[] #[]]
theorem kind_ix0 (w : World) : (Instr.index 72 (.agg kindsC.toArray) (.int .i64 0)).run Tryd.prog w = .ok (.agg (kindF 0).toArray) w := by kernel_rfl
theorem kind_ix1 (w : World) : (Instr.index 72 (.agg kindsC.toArray) (.int .i64 1)).run Tryd.prog w = .ok (.agg (kindF 1).toArray) w := by kernel_rfl
theorem kind_ix2 (w : World) : (Instr.index 72 (.agg kindsC.toArray) (.int .i64 2)).run Tryd.prog w = .ok (.agg (kindF 2).toArray) w := by kernel_rfl
theorem kind_ix3 (w : World) : (Instr.index 72 (.agg kindsC.toArray) (.int .i64 3)).run Tryd.prog w = .ok (.agg (kindF 3).toArray) w := by kernel_rfl
theorem kind_ix4 (w : World) : (Instr.index 72 (.agg kindsC.toArray) (.int .i64 4)).run Tryd.prog w = .ok (.agg (kindF 4).toArray) w := by kernel_rfl
theorem kindF_sz0 : (Tryd.prog.info? 71).map (·.size) = some 2 := by kernel_rfl
theorem kindF_len (k : Nat) : (kindF k).length = 2 := by unfold kindF; split <;> rfl
theorem kindF_sz (k : Nat) : (Tryd.prog.info? 71).map (·.size) = some (kindF k).length := by rw [kindF_len]; exact kindF_sz0
theorem kindF_one (k : Nat) : ∀ v ∈ kindF k, v.oneCell' = true := by
  intro v hv
  unfold kindF at hv
  split at hv <;> (simp only [List.mem_cons, List.not_mem_nil, or_false] at hv; rcases hv with rfl | rfl <;> rfl)
def kindB (k : Nat) (c : UInt8) : Bool := match k with | 0 => Lx.letterB c | 1 => Lx.digitB c | 2 => decide (c = 34) | 3 => Lx.signB c | 4 => decide (c = 10) | _ => false

theorem kind_none (c : UInt8) (r : Lx.Str) (h : ∀ j, j < 5 → kindB j c = false) : Lx.tok1 (c :: r) = (Lx.Tok.zero, 0, 70) := by
  have h0 : Lx.letterB c = false := h 0 (by omega)
  have h1 : Lx.digitB c = false := h 1 (by omega)
  have h2 : c ≠ 34 := of_decide_eq_false (h 2 (by omega))
  have h3 : Lx.signB c = false := h 3 (by omega)
  have h4 : c ≠ 10 := of_decide_eq_false (h 4 (by omega))
  rw [Lx.tok1_cons, h0, h1, h3, if_neg (by decide), if_neg (by decide), if_neg h2, if_neg (by decide), if_neg h4]
theorem letters_B (c : UInt8) : (L lettersS).contains c = Lx.letterB c := by
  have := Lx.all256 (p := fun c => decide ((L lettersS).contains c = Lx.letterB c)) (by decide +kernel) c
  exact of_decide_eq_true this
theorem digits_B (c : UInt8) : (L ⟨#[48, 49, 50, 51, 52, 53, 54, 55, 56, 57]⟩).contains c = Lx.digitB c := by
  have := Lx.all256 (p := fun c => decide ((L ⟨#[48, 49, 50, 51, 52, 53, 54, 55, 56, 57]⟩).contains c = Lx.digitB c)) (by decide +kernel) c
  exact of_decide_eq_true this
set_option maxRecDepth 100000 in
/-- Each kind: the bytes it begins with, and what it reads. -/
theorem kind_facts (k : Nat) (hk : k < 5) : ∃ (ks : ByteArray) (kf : FuncId), kindF k = [.string ks, .func (.func kf) #[] #[]] ∧ (∀ c, (L ks).contains c = kindB k c) ∧ (∀ args w, (callFunc kf args).run Tryd.prog w = .ok (.enter kf args) w) ∧
    (∀ w : World, (Instr.index 72 (.agg kindsC.toArray) (.int .i64 k)).run Tryd.prog w = .ok (.agg (kindF k).toArray) w) ∧
    (∀ (s : ByteArray) (w : World), 0 < s.size → s.size ≤ 1000000 → ∀ (c : UInt8) (r : Lx.Str), L s = c :: r → (∀ j, j < k → kindB j c = false) → kindB k c = true → Calls Tryd.prog kf #[.string s] w fun e w' => e = .returned (ans (Lx.tok1 (L s))) ∧ Later w w') := by
  rcases (show k = 0 ∨ k = 1 ∨ k = 2 ∨ k = 3 ∨ k = 4 by omega) with rfl | rfl | rfl | rfl | rfl
  · refine ⟨_, _, rfl, letters_B, enters_of Tryd.func43 (by kernel_rfl) rfl, kind_ix0, fun s w h0 h1 c r hs hn hb => ?_⟩
    have h := readName_any s w h1
    rw [hs] at h ⊢
    rw [Lx.tok1_cons, if_pos (show Lx.letterB c = true from hb)]
    exact h
  · refine ⟨_, _, rfl, digits_B, enters_of Tryd.func44 (by kernel_rfl) rfl, kind_ix1, fun s w h0 h1 c r hs hn hb => ?_⟩
    have hl : Lx.letterB c = false := hn 0 (by omega)
    have hwp := Lx.word_pos (r := r) (Lx.digit_word hb)
    have h := readNumber_any s w h1 (by rw [hs]; intro e; rw [e] at hwp; simp at hwp)
    rw [hs] at h ⊢
    rw [Lx.tok1_cons, hl, if_neg (by decide), if_pos (show Lx.digitB c = true from hb)]
    exact h
  · refine ⟨_, _, rfl, fun c => by simp [kindB, L], enters_of Tryd.func45 (by kernel_rfl) rfl, kind_ix2, fun s w h0 h1 c r hs hn hb => ?_⟩
    have hl : Lx.letterB c = false := hn 0 (by omega)
    have hd : Lx.digitB c = false := hn 1 (by omega)
    have h := readText_any s w h0 h1
    rw [hs] at h ⊢
    rw [Lx.tok1_cons, hl, hd, if_neg (by decide), if_neg (by decide), if_pos (of_decide_eq_true hb)]
    exact h
  · refine ⟨_, _, rfl, fun c => rfl, enters_of Tryd.func46 (by kernel_rfl) rfl, kind_ix3, fun s w h0 h1 c r hs hn hb => ?_⟩
    have hl : Lx.letterB c = false := hn 0 (by omega)
    have hd : Lx.digitB c = false := hn 1 (by omega)
    have hq : c ≠ 34 := of_decide_eq_false (hn 2 (by omega))
    have h := readSign_any s w h0 h1
    have hc : s[0] = c := by
      have h2 := L_cons s h0
      rw [hs] at h2
      exact (List.cons.inj h2).1.symm
    rw [hc] at h
    rw [hs, Lx.tok1_cons, hl, hd, if_neg (by decide), if_neg (by decide), if_neg hq, if_pos (show Lx.signB c = true from hb)]
    exact h
  · refine ⟨_, _, rfl, fun c => by simp [kindB, L], enters_of Tryd.func47 (by kernel_rfl) rfl, kind_ix4, fun s w h0 h1 c r hs hn hb => ?_⟩
    have hl : Lx.letterB c = false := hn 0 (by omega)
    have hd : Lx.digitB c = false := hn 1 (by omega)
    have hq : c ≠ 34 := of_decide_eq_false (hn 2 (by omega))
    have hs4 : Lx.signB c = false := hn 3 (by omega)
    have h := readEnd_any s w
    rw [hs, Lx.tok1_cons, hl, hd, hs4, if_neg (by decide), if_neg (by decide), if_neg hq, if_neg (by decide), if_pos (of_decide_eq_true hb)]
    exact h

end Go.Proofs.YtjopadfkdpcjmaaDoor
