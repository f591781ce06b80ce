/-
  A LOOP OVER AN ITERATOR THAT HOLDS LOOPS OF ITS OWN: a round's word tells besides that whatever is no cells, and lies at or beyond a bound, lies as it lay.
-/
import Derived.RangeFuncNested
import Derived.RangeFuncBound
import Derived.RangeFuncCalls
import Derived.RangeFuncLeaves
import Derived.RangeFuncBox
import Derived.Test.YtempcbdlaoblhabWireMem
import Derived.Test.YtempcbdlaoblhabProg
namespace Go.Proofs.Ytempcbdlaoblhab
open Go.RowKit

theorem keeps_up {B B' : Nat} {W W' : World} (h : KeepsFrom B W W') (hB : B ≤ B') : KeepsFrom B' W W' := ⟨h.size, fun k o hk => h.same k o (Nat.le_trans hB hk)⟩
/-- What is no row of mappings. -/
def Nr (o : Obj) : Prop := ∀ cur fr, o ≠ .cells cur 65 fr
theorem Nr.other {o : Obj} (h : o.isCells = false) : Nr o := fun cur fr e => by subst e; cases h
/-- What lies below n₀, and what lies at or beyond B and is neither one of ex nor a row of mappings, lies as it lay. -/
def Kq (n₀ B : Nat) (ex : List Nat) (W W' : World) : Prop := Below n₀ W W' ∧ ∀ k o, B ≤ k → k ∉ ex → W.heap[k]? = some o → Nr o → W'.heap[k]? = some o
theorem Kq.trans {n₀ B : Nat} {ex : List Nat} {X Y Z : World} (h : Kq n₀ B ex X Y) (k : Kq n₀ B ex Y Z) : Kq n₀ B ex X Z := ⟨h.1.trans k.1, fun i o hi hx ho hr => k.2 i o hi hx (h.2 i o hi hx ho hr) hr⟩
theorem Kq.more {n₀ B l : Nat} {ex : List Nat} {X Y : World} (h : Kq n₀ B ex X Y) : Kq n₀ B (l :: ex) X Y := ⟨h.1, fun i o hi hx => h.2 i o hi (fun h' => hx (List.mem_cons_of_mem _ h'))⟩
theorem Kq.later {n₀ B : Nat} {ex : List Nat} {X Y : World} (h : Later X Y) (hn : n₀ ≤ X.heap.size) : Kq n₀ B ex X Y := ⟨h.mono hn, fun k _ _ _ ho _ => (h.block k (Array.getElem?_eq_some_iff.1 ho).1).trans ho⟩
theorem Kq.refl (n₀ B : Nat) (ex : List Nat) (X : World) : Kq n₀ B ex X X := ⟨Below.refl _ _, fun _ _ _ _ h _ => h⟩
theorem Kq.keeps {n₀ B b : Nat} {ex : List Nat} {X Y : World} (h : Kq n₀ B ex X Y) (hB : B ≤ b) (hx : ∀ e ∈ ex, e < b) : KeepsFrom b X Y :=
  ⟨h.1.size, fun k _ hk ho hc => h.2 k _ (Nat.le_trans hB hk) (fun h' => by have := hx k h'; omega) ho (Nr.other hc)⟩
theorem Kq.boxed {n₀ B k : Nat} {ex : List Nat} {X Y : World} {t : TypeId} {v : Value} (h : Kq n₀ B ex X Y) (hb : Boxed X k t v) (hB : B ≤ k) (hx : k ∉ ex) (ht : t ≠ 65) : Boxed Y k t v :=
  h.2 k _ hB hx hb (fun cur fr e => by injection e with e1 e2 e3; exact ht e2)
theorem Kq.own {n₀ B b : Nat} {ex : List Nat} {β : Type} {w₀ : World} (hn : n₀ ≤ w₀.heap.size) (hB : n₀ ≤ b) (hb : w₀.heap.size ≤ b) : OwnFrom b (fun (_ : β) W => Kq n₀ B ex w₀ W) := fun _ X Y row hs hg hr =>
  ⟨(hs.1.grown hg (Nat.le_trans hn hs.1.size) (fun k e => Nat.le_trans hB (hr k e).1)), fun k o hk hx h0 hno => by
    have hX := hs.2 k o hk hx h0 hno
    refine (hg.block k (Array.getElem?_eq_some_iff.1 hX).1 (fun e => ?_)).trans hX
    have h1 := (hr k e.symm).1
    have h2 := (Array.getElem?_eq_some_iff.1 h0).1
    omega⟩
theorem below_put {n₀ l : Nat} {W : World} {o : Obj} (o' : Obj) (h : W.heap[l]? = some o) (h0 : n₀ ≤ l) : Below n₀ W (W.putObj l o') :=
  (Below.refl n₀ W).grown (grownBy_putObj' W l o') (by have := (Array.getElem?_eq_some_iff.1 h).1; omega) (fun k e => by cases e; omega)
theorem Kq.put {n₀ B l : Nat} {ex : List Nat} {W : World} {o : Obj} (o' : Obj) (h : W.heap[l]? = some o) (h0 : n₀ ≤ l) : Kq n₀ B (l :: ex) W (W.putObj l o') :=
  ⟨below_put o' h h0, fun k o2 _ hx ho _ => (World.putObj_heap_other (fun e => hx (by rw [e]; exact List.mem_cons_self))).trans ho⟩

/-- The contract of an iterator that may hold loops: as the one of a plain iterator, but the caller's invariant abides whatever becomes of new blocks that are no cells. -/
def SeqO {α : Type} (F : Fence) (n : Nat) (P : Program) (g : Nat) (lb : Array Value) (encs : α → Array Value) (Kp : World → World → Prop) (S Sp : List α → Prop) (N : Nat) (w : World) : Prop :=
  ∀ (l : Nat) (J Jx : List α → World → Prop) (W : World), Below w.heap.size w W → OwnFrom W.heap.size J → OwnFrom W.heap.size Jx →
    (∀ pre x W1, J pre W1 → pre.length < N → YieldAt F (n - 1) P l (encs x) W1 fun e W' =>
      (e = .returned (.bool true) ∧ J (pre ++ [x]) W' ∧ Kp W1 W') ∨ (e = .returned (.bool false) ∧ Jx (pre ++ [x]) W' ∧ KeepsFrom (l + 1) W1 W')) →
    l < W.heap.size → J [] W →
    CallsIn F n P g (#[.func (.yield l) #[] #[]] ++ lb) W fun e W' => (∃ v, e = .returned v) ∧ ((∃ xs, S xs ∧ J xs W') ∨ (∃ pre, Sp pre ∧ Jx pre W'))
theorem kept_block {X Y : World} {row : Option Nat} {k B : Nat} {o : Obj} (hg : X.grownBy Y row) (hr : ∀ r, row = some r → B ≤ r) (h : X.heap[k]? = some o) (hk : k < B) : Y.heap[k]? = some o :=
  (hg.block k (Array.getElem?_eq_some_iff.1 h).1 (fun e => by have := hr k e.symm; omega)).trans h
/-- One round of such a loop, from the iterator's side. -/
theorem round_q {F : Fence} {n : Nat} {P : Program} {fn : FuncId} (hfn : F.fn fn) {l n₀ B b D : Nat} {ex : List Nat} {tmps : Array Value} {ps : Array Tmp} {assign body : Code} {α : Type} {encs : α → Array Value} {N : Nat}
    (hb : b ≤ l) (hn : n₀ ≤ b) {rec : LoopState → Option Code → Loop} (hrec : rec = fun st pe => { state := st, pending := pe, fn := fn, tmps := tmps, params := ps, assign := assign, body := body, defers := D })
    (hps : ∀ x, (encs x).size = ps.size) (E : World → Prop) (hE : ∀ W W', E W → KeepsFrom b W W' → E W') (hEp : ∀ W o, E W → E (W.putObj l o))
    (I : List α → World → Prop) (Ix : Code → List α → World → Prop) (hI : OwnFrom b I) (hIx : ∀ c, OwnFrom b (Ix c)) (Ax : α → Act → World → Prop) (hAx : ∀ x a', OwnFrom b (fun (_ : Unit) W => Ax x a' W))
    (hassign : ∀ (pre : List α) (x : α) (W : World) (K : Act → World → Prop), I pre W → (∀ a' W', KeepsFrom b W W' → Kq n₀ B ex W W' → I pre W' → Ax x a' W' → K a' W') →
      assign.wpIn (F.inRound l) n P (Exit.then K (fun _ _ _ => False)) { tmps := (ps.zip (encs x)).foldl (fun t (p, v) => t.setIfInBounds p v) tmps, defers := [] } W)
    (hbody : ∀ (pre : List α) (x : α) (a' : Act) (W : World), (∃ r, W.heap[l]? = some (.loop r)) → I pre W → Ax x a' W → pre.length < N → body.wpIn (F.inRound l) n P (ownPostG b (Kq n₀ B ex) I Ix (pre ++ [x]) W) a' W)
    (pre : List α) (x : α) (W : World) (hi : I pre W) (hl : W.heap[l]? = some (.loop (rec .ready none))) (he : E W) (hlen : pre.length < N) :
    YieldAt F n P l (encs x) W fun e W' =>
      (e = .returned (.bool true) ∧ (I (pre ++ [x]) W' ∧ W'.heap[l]? = some (.loop (rec .ready none)) ∧ E W') ∧ Kq n₀ B (l :: ex) W W') ∨
      (e = .returned (.bool false) ∧ (∃ c, Ix c (pre ++ [x]) W' ∧ W'.heap[l]? = some (.loop (rec .done (some c))) ∧ E W') ∧ KeepsFrom (l + 1) W W') := by
  have hy := run_yield (P := P) (args := encs x) hl (by rw [hrec]; exact hps x)
  rw [hrec] at hy
  refine ⟨fn, _, assign, body, hy, roundIn_of_wpIn hfn (hassign pre x W _ hi ?_)⟩
  intro a' V kv bv iv av
  have hlV := kv.same _ _ hb hl rfl
  have heV := hE _ _ he kv
  obtain ⟨bz, hbz⟩ : ∃ bz : Loop, bz = { rec .ready none with state := .busy } := ⟨_, rfl⟩
  refine ⟨V.putObj l (.loop bz), by rw [hbz]; exact run_beginRound hlV (by rw [hrec]), ?_⟩
  have hl2 : (V.putObj l (.loop bz)).heap[l]? = some (.loop bz) := World.putObj_heap_same (Array.getElem?_eq_some_iff.1 hlV).1
  have k2 : Kq n₀ B (l :: ex) W (V.putObj l (.loop bz)) := Kq.trans bv.more (Kq.put _ hlV (by omega))
  refine wpIn_mono (hbody pre x a' _ ⟨_, hl2⟩ (hI.putObj _ iv hb hlV rfl) ((hAx x a').putObj (s := ()) _ av hb hlV rfl) hlen) ?_
  have fin : ∀ (jump : Option Code) (V3 : World), KeepsFrom b (V.putObj l (.loop bz)) V3 →
      V3.heap[l]? = some (.loop bz) ∧ (Instr.endRound l jump).run P V3 = .ok (.bool jump.isNone) (V3.putObj l (.loop (rec (if jump.isNone then .ready else .done) jump))) ∧
      (V3.putObj l (.loop (rec (if jump.isNone then .ready else .done) jump))).heap[l]? = some (.loop (rec (if jump.isNone then .ready else .done) jump)) ∧ E (V3.putObj l (.loop (rec (if jump.isNone then .ready else .done) jump))) := fun jump V3 h3 => by
    have hl3 := h3.same _ _ hb hl2 rfl
    have h := run_endRound (P := P) jump hl3
    rw [hbz, hrec] at h
    rw [hrec]
    exact ⟨hl3, h, World.putObj_heap_same (Array.getElem?_eq_some_iff.1 hl3).1, hEp _ _ (hE _ _ (hEp _ _ heV) h3)⟩
  have out : ∀ (c : Code) (V3 : World), KeepsFrom b (V.putObj l (.loop bz)) V3 → Ix c (pre ++ [x]) V3 → ∃ v w', (Instr.endRound l (some c)).run P V3 = .ok v w' ∧
      ((Ending.returned v = .returned (.bool true) ∧ (I (pre ++ [x]) w' ∧ w'.heap[l]? = some (.loop (rec .ready none)) ∧ E w') ∧ Kq n₀ B (l :: ex) W w') ∨
      (Ending.returned v = .returned (.bool false) ∧ (∃ c, Ix c (pre ++ [x]) w' ∧ w'.heap[l]? = some (.loop (rec .done (some c))) ∧ E w') ∧ KeepsFrom (l + 1) W w')) := fun c V3 h3 hx => by
    obtain ⟨hl3, hr, hl4, he4⟩ := fin (some c) V3 h3
    exact ⟨_, _, hr, .inr ⟨rfl, ⟨c, (hIx c).putObj _ hx hb hl3 rfl, hl4, he4⟩, (((keeps_up kv (by omega)).trans (KeepsFrom.of_grownBy (grownBy_putObj' V l _) (fun j e => by cases e; omega))).trans (keeps_up h3 (by omega))).trans (KeepsFrom.of_grownBy (grownBy_putObj' V3 l _) (fun j e => by cases e; omega))⟩⟩
  rintro e a3 V3 hp
  cases e with
  | normal =>
    obtain ⟨h3, b3, i3⟩ := hp
    obtain ⟨hl3, hr, hl4, he4⟩ := fin none V3 h3
    exact ⟨_, _, hr, .inl ⟨rfl, ⟨hI.putObj _ i3 hb hl3 rfl, hl4, he4⟩, k2.trans (Kq.trans b3.more (Kq.put _ hl3 (by omega)))⟩⟩
  | ret => exact out _ V3 hp.1 hp.2
  | exit id => exact out _ V3 hp.1 hp.2
  | goto t => exact out _ V3 hp.1 hp.2
  | panic ch => exact hp.elim
  | outgrown => exact hp.elim

/-- An outermost loop. -/
theorem loop_q {F : Fence} {n : Nat} {P : Program} {α : Type} {g : Operand} {ps : Array Tmp} {assign body : Code} {Q : Exit → Act → World → Prop} {a : Act} {w : World}
    (hro : F.round = none) (h1 : 1 ≤ n) {gf : Nat} {lb : Array Value} (hg : a.eval g = .func (.func gf) #[] lb) (hFg : F.fn gf) (eg : ∀ args w, (callFunc gf args).run P w = .ok (.enter gf args) w)
    {encs : α → Array Value} {n₀ B : Nat} {ex : List Nat} {S Sp : List α → Prop} {N : Nat} (hn : n₀ ≤ w.heap.size) (hseq : ∀ W1, Later w W1 → W1.heap.size = w.heap.size + 2 → SeqO F (n - 1) P gf lb encs (Kq n₀ B ((w.heap.size + 1) :: ex)) S Sp N W1)
    (hps : ∀ x, (encs x).size = ps.size)
    (I : List α → World → Prop) (Ix : Code → List α → World → Prop) (hI : OwnFrom w.heap.size I) (hIx : ∀ c, OwnFrom w.heap.size (Ix c)) (h0 : I [] w) (Ax : α → Act → World → Prop) (hAx : ∀ x a', OwnFrom w.heap.size (fun (_ : Unit) W => Ax x a' W))
    (hassign : ∀ (l : Nat) (pre : List α) (x : α) (W : World) (K : Act → World → Prop), I pre W → (∀ a' W', KeepsFrom w.heap.size W W' → Kq n₀ B ex W W' → I pre W' → Ax x a' W' → K a' W') →
      assign.wpIn (F.inRound l) (n - 1 - 1) P (Exit.then K (fun _ _ _ => False)) { tmps := (ps.zip (encs x)).foldl (fun t (p, v) => t.setIfInBounds p v) a.tmps, defers := [] } W)
    (hbody : ∀ (l : Nat) (pre : List α) (x : α) (a' : Act) (W : World), w.heap.size ≤ l → (∃ r, W.heap[l]? = some (.loop r)) → I pre W → Ax x a' W → pre.length < N → body.wpIn (F.inRound l) (n - 1 - 1) P (ownPostG w.heap.size (Kq n₀ B ex) I Ix (pre ++ [x]) W) a' W)
    (hdone : ∀ (D : Nat) (xs : List α) (W : World), w.heap.size ≤ D → S xs → I xs W → W.heap[D]? = some (.deferred (some [])) → Q .normal { a with defers := { target := .collected D, args := #[] } :: a.defers } W)
    (hstop : ∀ (D : Nat) (c : Code) (pre : List α) (W : World), w.heap.size ≤ D → Sp pre → Ix c pre W → W.heap[D]? = some (.deferred (some [])) → c.wpIn F n P Q { a with defers := { target := .collected D, args := #[] } :: a.defers } W) :
    (Code.rangeFunc g ps assign body).wpIn F n P Q a w := by
  refine wpIn_rangeFunc fun fn hfn => ?_
  rw [hro]
  obtain ⟨rec, hrec⟩ : ∃ rec : LoopState → Option Code → Loop, rec = fun st pe => { state := st, pending := pe, fn := fn, tmps := a.tmps, params := ps, assign := assign, body := body, defers := w.heap.size } := ⟨_, rfl⟩
  obtain ⟨W1, hW1⟩ : ∃ W1, (w.alloc (.deferred (some []))).alloc (.loop (rec .ready none)) = W1 := ⟨_, rfl⟩
  have hz : W1.heap.size = w.heap.size + 2 := by rw [← hW1]; simp
  have hL : W1.heap[w.heap.size + 1]? = some (.loop (rec .ready none)) := by
    have := World.alloc_heap_new (w.alloc (.deferred (some []))) (.loop (rec .ready none))
    rwa [World.size_alloc, hW1] at this
  have hD : W1.heap[w.heap.size]? = some (.deferred (some [])) := by rw [← hW1]; exact (Below.heap_alloc _ _ _ (by simp)).trans (World.alloc_heap_new w _)
  have hW : Later w W1 := by rw [← hW1]; exact ((Below.refl _ w).alloc (Nat.le_refl _) _).alloc (by simp) _
  have hi1 : I [] W1 := by rw [← hW1]; exact hI.alloc _ (hI.alloc _ h0)
  refine ⟨w.heap.size + 1, [{ target := .collected w.heap.size, args := #[] }], W1, { target := .fn (.func gf) lb, args := #[.func (.yield (w.heap.size + 1)) #[] #[]] }, W1, gf,
    #[.func (.yield (w.heap.size + 1)) #[] #[]] ++ lb, W1, ?_, ?_, ?_, ?_, fun _ => h1, ?_⟩
  · rw [← hW1, hrec]; exact run_enterLoop_outer _ _ _ _ _
  · simp only [resolve, hg]
    simp [go_sem]
  · intro f' hf'; simp [Target.leads] at hf'; subst hf'; exact hFg
  · simp [invoke, go_sem, eg]
  have hw : ∀ {X : World} {row : Option Nat}, (∀ r, row = some r → W1.heap.size ≤ r ∧ ∃ o : Obj, X.heap[r]? = some o ∧ o.isCells = false) → (∀ r, row = some r → w.heap.size ≤ r ∧ ∃ o : Obj, X.heap[r]? = some o ∧ o.isCells = false) :=
    fun hr r e => ⟨by have := (hr r e).1; omega, (hr r e).2⟩
  refine (hseq W1 hW hz (w.heap.size + 1) (fun pre W => I pre W ∧ W.heap[w.heap.size + 1]? = some (.loop (rec .ready none)) ∧ W.heap[w.heap.size]? = some (.deferred (some [])))
    (fun pre W => ∃ c, Ix c pre W ∧ W.heap[w.heap.size + 1]? = some (.loop (rec .done (some c))) ∧ W.heap[w.heap.size]? = some (.deferred (some []))) W1 (Below.refl _ _)
    (fun s A C row hs hg' hr => ⟨hI s A C row hs.1 hg' (hw hr), kept_block hg' (fun r e => (hr r e).1) hs.2.1 (by omega), kept_block hg' (fun r e => (hr r e).1) hs.2.2 (by omega)⟩)
    (fun s A C row hs hg' hr => by
      obtain ⟨c, hc, hl, hk⟩ := hs
      exact ⟨c, hIx c s A C row hc hg' (hw hr), kept_block hg' (fun r e => (hr r e).1) hl (by omega), kept_block hg' (fun r e => (hr r e).1) hk (by omega)⟩)
    (fun pre x W hj hlen => round_q hfn (D := w.heap.size) (tmps := a.tmps) (b := w.heap.size) (by omega) hn hrec hps (fun W => W.heap[w.heap.size]? = some (.deferred (some [])))
      (fun X Y hx hk => hk.same _ _ (Nat.le_refl _) hx rfl) (fun X o hx => (World.putObj_heap_other (by omega)).trans hx) I Ix hI hIx Ax hAx (hassign _) (fun pre x a' W => hbody _ pre x a' W (by omega)) pre x W hj.1 hj.2.1 hj.2.2 hlen)
    (by omega) ⟨hi1, hL, hD⟩).mono ?_
  rintro e W2 ⟨⟨v, rfl⟩, (⟨xs, hS, hi, hl, hk⟩ | ⟨pre, hSp, c, hi, hl, hk⟩)⟩
  · exact ⟨none, _, by have := run_endLoop (P := P) hl (by rw [hrec]; simp); rw [hrec] at this; exact this, hdone _ xs _ (Nat.le_refl _) hS (hI.putObj _ hi (by omega) hl rfl) ((World.putObj_heap_other (by omega)).trans hk)⟩
  · exact ⟨some c, _, by have := run_endLoop (P := P) hl (by rw [hrec]; simp); rw [hrec] at this; exact this, hstop _ c pre _ (Nat.le_refl _) hSp ((hIx c).putObj _ hi (by omega) hl rfl) ((World.putObj_heap_other (by omega)).trans hk)⟩

/-- A loop within a round of loop l₀. -/
theorem loop_qN {F : Fence} {n : Nat} {P : Program} {α : Type} {g : Operand} {ps : Array Tmp} {assign body : Code} {Q : Exit → Act → World → Prop} {a : Act} {w : World}
    {l₀ : Nat} {r₀ : Loop} (hro : F.round = some l₀) (hl₀ : w.heap[l₀]? = some (.loop r₀)) (h1 : 1 ≤ n) {gf : Nat} {lb : Array Value} (hg : a.eval g = .func (.func gf) #[] lb) (hFg : F.fn gf) (eg : ∀ args w, (callFunc gf args).run P w = .ok (.enter gf args) w)
    {encs : α → Array Value} {n₀ B : Nat} {ex : List Nat} {S Sp : List α → Prop} {N : Nat} (hn : n₀ ≤ w.heap.size) (hseq : ∀ W1, Later w W1 → W1.heap.size = w.heap.size + 1 → SeqO F (n - 1) P gf lb encs (Kq n₀ B (w.heap.size :: ex)) S Sp N W1)
    (hps : ∀ x, (encs x).size = ps.size)
    (I : List α → World → Prop) (Ix : Code → List α → World → Prop) (hI : OwnFrom w.heap.size I) (hIx : ∀ c, OwnFrom w.heap.size (Ix c)) (h0 : I [] w) (Ax : α → Act → World → Prop) (hAx : ∀ x a', OwnFrom w.heap.size (fun (_ : Unit) W => Ax x a' W))
    (hassign : ∀ (l : Nat) (pre : List α) (x : α) (W : World) (K : Act → World → Prop), I pre W → (∀ a' W', KeepsFrom w.heap.size W W' → Kq n₀ B ex W W' → I pre W' → Ax x a' W' → K a' W') →
      assign.wpIn (F.inRound l) (n - 1 - 1) P (Exit.then K (fun _ _ _ => False)) { tmps := (ps.zip (encs x)).foldl (fun t (p, v) => t.setIfInBounds p v) a.tmps, defers := [] } W)
    (hbody : ∀ (l : Nat) (pre : List α) (x : α) (a' : Act) (W : World), w.heap.size ≤ l → (∃ r, W.heap[l]? = some (.loop r)) → I pre W → Ax x a' W → pre.length < N → body.wpIn (F.inRound l) (n - 1 - 1) P (ownPostG w.heap.size (Kq n₀ B ex) I Ix (pre ++ [x]) W) a' W)
    (hdone : ∀ (xs : List α) (W : World), S xs → I xs W → Q .normal a W)
    (hstop : ∀ (c : Code) (pre : List α) (W : World), Sp pre → Ix c pre W → c.wpIn F n P Q a W) :
    (Code.rangeFunc g ps assign body).wpIn F n P Q a w := by
  refine wpIn_rangeFunc fun fn hfn => ?_
  rw [hro]
  obtain ⟨rec, hrec⟩ : ∃ rec : LoopState → Option Code → Loop, rec = fun st pe => { state := st, pending := pe, fn := fn, tmps := a.tmps, params := ps, assign := assign, body := body, defers := r₀.defers } := ⟨_, rfl⟩
  obtain ⟨W1, hW1⟩ : ∃ W1, w.alloc (.loop (rec .ready none)) = W1 := ⟨_, rfl⟩
  have hz : W1.heap.size = w.heap.size + 1 := by rw [← hW1]; simp
  have hL : W1.heap[w.heap.size]? = some (.loop (rec .ready none)) := by rw [← hW1]; exact World.alloc_heap_new w _
  have hW : Later w W1 := by rw [← hW1]; exact (Below.refl _ w).alloc (Nat.le_refl _) _
  have hi1 : I [] W1 := by rw [← hW1]; exact hI.alloc _ h0
  refine ⟨w.heap.size, [], W1, { target := .fn (.func gf) lb, args := #[.func (.yield w.heap.size) #[] #[]] }, W1, gf, #[.func (.yield w.heap.size) #[] #[]] ++ lb, W1, ?_, ?_, ?_, ?_, fun _ => h1, ?_⟩
  · rw [← hW1, hrec]; exact run_enterLoop_inner hl₀ _ _ _ _ _
  · simp only [resolve, hg]
    simp [go_sem]
  · intro f' hf'; simp [Target.leads] at hf'; subst hf'; exact hFg
  · simp [invoke, go_sem, eg]
  have hw : ∀ {X : World} {row : Option Nat}, (∀ r, row = some r → W1.heap.size ≤ r ∧ ∃ o : Obj, X.heap[r]? = some o ∧ o.isCells = false) → (∀ r, row = some r → w.heap.size ≤ r ∧ ∃ o : Obj, X.heap[r]? = some o ∧ o.isCells = false) :=
    fun hr r e => ⟨by have := (hr r e).1; omega, (hr r e).2⟩
  refine (hseq W1 hW hz w.heap.size (fun pre W => I pre W ∧ W.heap[w.heap.size]? = some (.loop (rec .ready none)) ∧ True)
    (fun pre W => ∃ c, Ix c pre W ∧ W.heap[w.heap.size]? = some (.loop (rec .done (some c))) ∧ True) W1 (Below.refl _ _)
    (fun s A C row hs hg' hr => ⟨hI s A C row hs.1 hg' (hw hr), kept_block hg' (fun r e => (hr r e).1) hs.2.1 (by omega), trivial⟩)
    (fun s A C row hs hg' hr => by
      obtain ⟨c, hc, hl, _⟩ := hs
      exact ⟨c, hIx c s A C row hc hg' (hw hr), kept_block hg' (fun r e => (hr r e).1) hl (by omega), trivial⟩)
    (fun pre x W hj hlen => round_q hfn (D := r₀.defers) (tmps := a.tmps) (b := w.heap.size) (Nat.le_refl _) hn hrec hps (fun _ => True) (fun _ _ _ _ => trivial) (fun _ _ _ => trivial) I Ix hI hIx Ax hAx (hassign _)
      (fun pre x a' W => hbody _ pre x a' W (Nat.le_refl _)) pre x W hj.1 hj.2.1 trivial hlen)
    (by omega) ⟨hi1, hL, trivial⟩).mono ?_
  rintro e W2 ⟨⟨v, rfl⟩, (⟨xs, hS, hi, hl, _⟩ | ⟨pre, hSp, c, hi, hl, _⟩)⟩
  · exact ⟨none, _, by have := run_endLoop (P := P) hl (by rw [hrec]; simp); rw [hrec] at this; exact this, hdone xs _ hS (hI.putObj _ hi (Nat.le_refl _) hl rfl)⟩
  · exact ⟨some c, _, by have := run_endLoop (P := P) hl (by rw [hrec]; simp); rw [hrec] at this; exact this, hstop c pre _ hSp ((hIx c).putObj _ hi (Nat.le_refl _) hl rfl)⟩
end Go.Proofs.Ytempcbdlaoblhab
