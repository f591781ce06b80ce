/-
  PLAIN MATHEMATICS OF A RING: its words, its requests, what is wrong with them; of no program.
-/
import Derived.Test.YtffgbbfcbobecaaMemMath
namespace Go.Proofs.Ytffgbbfcbobecaa
namespace Rg
open Wm (Bs isBs)

theorem ld_st {m : Bs} {a s v : Int} (h : Mm.There m.length a s) : Mm.ld (Mm.st m a s v) a s = v % 256 ^ s.toNat := by
  unfold Mm.ld
  rw [Mm.st_len, if_pos h]
  unfold Mm.st
  rw [if_pos h]
  obtain ⟨h1, h2, h3⟩ := h
  have := Mm.put_same (m := m) (o := a.toNat) (d := Mm.el s.toNat v) (by rw [Mm.el_len]; omega)
  rw [Mm.el_len] at this
  rw [this, Mm.le_el]
theorem ld_other {m : Bs} {a s v b t : Int} (h : Mm.There m.length a s) (k : Mm.There m.length b t) (hs : b + t ≤ a ∨ a + s ≤ b) : Mm.ld (Mm.st m a s v) b t = Mm.ld m b t := by
  unfold Mm.ld
  rw [Mm.st_len, if_pos k, if_pos k]
  unfold Mm.st
  rw [if_pos h]
  obtain ⟨h1, h2, h3⟩ := h
  obtain ⟨k1, k2, k3⟩ := k
  rw [Mm.put_other (by rw [Mm.el_len]; omega) (by rw [Mm.el_len]; omega)]
theorem ld_rng {b : Bs} (hb : isBs b) (a s : Int) (h4 : s = 1 ∨ s = 4) : 0 ≤ Mm.ld b a s ∧ Mm.ld b a s < 4294967296 := by
  unfold Mm.ld
  split
  · rename_i h
    have hx : isBs ((b.drop a.toNat).take s.toNat) := fun x hx => hb x (List.mem_of_mem_drop (List.mem_of_mem_take hx))
    have h1 := Mm.le_nn hx
    have h2 := Mm.le_lt hx
    have h3 : ((b.drop a.toNat).take s.toNat).length ≤ 4 := by rw [List.length_take]; omega
    have h5 : (256 : Int) ^ ((b.drop a.toNat).take s.toNat).length ≤ 256 ^ 4 := by
      have := Nat.pow_le_pow_right (n := 256) (by omega) h3
      have e : ∀ k : Nat, (256 : Int) ^ k = ((256 ^ k : Nat) : Int) := fun k => by rw [Int.natCast_pow]; rfl
      rw [e, e]
      omega
    have h6 : (256 : Int) ^ 4 = 4294967296 := by decide
    omega
  · omega

/-- A part: its index, address, length; is it written? -/
abbrev Pt := Int × Int × Int × Bool
/-- A word of a descriptor. -/
def wd (b : Bs) (B i k : Int) : Int := Mm.ld b (B + 16 * i + 4 * k) 4
def off (b : Bs) (B i : Int) : Bool := decide (wd b B i 3 = 1)
def wr (b : Bs) (B i : Int) : Bool := decide (wd b B i 2 % 2 = 1)
def more (b : Bs) (B i : Int) : Bool := decide (wd b B i 2 / 2 % 2 = 1)
def nxt (b : Bs) (B i : Int) : Int := wd b B i 2 / 256 % 256
def pt (b : Bs) (B i : Int) : Pt := (i, wd b B i 0, wd b B i 1, wr b B i)
def has (l : List Pt) (i : Int) : Bool := l.any fun p => decide (p.1 = i)
def wri (l : List Pt) : Bool := l.any fun p => p.2.2.2
/-- What is wrong with a descriptor, but for what follows. -/
def err1 (L : Nat) (b : Bs) (B : Int) (l : List Pt) (i : Int) : Int :=
  if 4 ≤ l.length ∨ has l i = true then 163
  else if off b B i = false then 165
  else if wd b B i 1 < 1 ∨ 512 < wd b B i 1 ∨ (L : Int) < wd b B i 0 + wd b B i 1 then 161
  else if wd b B i 2 / 4 % 64 ≠ 0 ∨ wd b B i 2 / 65536 ≠ 0 ∨ more b B i = false ∧ nxt b B i ≠ 0 ∨ wr b B i = false ∧ wri l = true then 164
  else 0
def err (L : Nat) (b : Bs) (B S : Int) (l : List Pt) (i : Int) : Int :=
  if err1 L b B l i ≠ 0 then err1 L b B l i else if more b B i = true ∧ S ≤ nxt b B i then 162 else 0
/-- A request followed. -/
def fol (L : Nat) (b : Bs) (B S : Int) : Nat → List Pt → Int → List Pt × Int
  | 0, _, _ => ([], 163)
  | f + 1, l, i => if err L b B S l i ≠ 0 then ([], err L b B S l i) else if more b B i = true then fol L b B S f (l ++ [pt b B i]) (nxt b B i) else (l ++ [pt b B i], 0)
def stat (b : Bs) (B i v : Int) : Bs := Mm.st b (B + 16 * i + 12) 4 v
def mark (b : Bs) (B : Int) (l : List Pt) (v : Int) : Bs := l.foldl (fun x p => stat x B p.1 v) b
def takL (L : Nat) (b : Bs) (B S i : Int) : List Pt := (fol L b B S 5 [] i).1
def takE (L : Nat) (b : Bs) (B S i : Int) : Int := (fol L b B S 5 [] i).2
def takM (L : Nat) (b : Bs) (B S i : Int) : Bs :=
  if takE L b B S i = 0 then mark b B (takL L b B S i) 2
  else if off b B i = true then stat b B i (4 + (takE L b B S i - 160)) else b
def failM (b : Bs) (B i e : Int) : Bs := if e < 160 ∨ 165 < e then b else stat b B i (4 + (e - 160))
/-- A ring is there. -/
def Ok (L : Nat) (B S : Int) : Prop := (S = 1 ∨ S = 2 ∨ S = 4 ∨ S = 8) ∧ B % 16 = 0 ∧ 0 ≤ B ∧ B + 16 * S ≤ L
instance (L : Nat) (B S : Int) : Decidable (Ok L B S) := by unfold Ok; exact inferInstance
/-- The first that is offered. -/
def fst (b : Bs) (B S pos : Int) : Nat → Option Int
  | 0 => none
  | k + 1 => if off b B ((pos + (S - (k + 1))) % S) then some ((pos + (S - (k + 1))) % S) else fst b B S pos k
/-- The bytes that are read; the room of those that are written. -/
def gat (b : Bs) (l : List Pt) : Bs := l.flatMap fun p => if p.2.2.2 then [] else Mm.rd b p.2.1 p.2.2.1
def room (l : List Pt) : Int := (l.map fun p => if p.2.2.2 then p.2.2.1 else 0).sum
/-- Bytes scattered: the memory and how many. -/
def scat : Bs → List Pt → Bs → Bs
  | b, [], _ => b
  | b, p :: r, d => if p.2.2.2 then scat (Mm.wr b p.2.1 (d.take p.2.2.1.toNat)) r (d.drop p.2.2.1.toNat) else scat b r d
def scatN : List Pt → Nat → Nat
  | [], _ => 0
  | p :: r, d => if p.2.2.2 then min p.2.2.1.toNat d + scatN r (d - min p.2.2.1.toNat d) else scatN r d

theorem wd_rng {b : Bs} (hb : isBs b) (B i k : Int) : 0 ≤ wd b B i k ∧ wd b B i k < 4294967296 := ld_rng hb _ _ (.inr rfl)
theorem Ok.s {L : Nat} {B S : Int} (h : Ok L B S) : 1 ≤ S ∧ S ≤ 8 := by have := h.1; omega
theorem Ok.there {L : Nat} {B S : Int} (h : Ok L B S) {i k : Int} (h0 : 0 ≤ i) (h1 : i < S) (k0 : 0 ≤ k) (k1 : k < 4) : Mm.There L (B + 16 * i + 4 * k) 4 := by
  obtain ⟨h2, h3, h4, h5⟩ := h
  exact ⟨.inr ⟨rfl, by omega⟩, by omega, by omega⟩
theorem Ok.there3 {L : Nat} {B S : Int} (h : Ok L B S) {i : Int} (h0 : 0 ≤ i) (h1 : i < S) : Mm.There L (B + 16 * i + 12) 4 := h.there h0 h1 (k := 3) (by omega) (by omega)
theorem stat_len (b : Bs) (B i v : Int) : (stat b B i v).length = b.length := Mm.st_len _ _ _ _
theorem stat_bs {b : Bs} (h : isBs b) (B i v : Int) : isBs (stat b B i v) := Mm.st_bs h _ _ _
theorem mark_len (B v : Int) : ∀ (l : List Pt) (b : Bs), (mark b B l v).length = b.length := by
  intro l
  induction l with
  | nil => intro b; rfl
  | cons p r ih => intro b; exact (ih _).trans (stat_len _ _ _ _)
theorem mark_bs (B v : Int) : ∀ (l : List Pt) {b : Bs}, isBs b → isBs (mark b B l v) := by
  intro l
  induction l with
  | nil => intro b h; exact h
  | cons p r ih => intro b h; exact ih (stat_bs h _ _ _)
theorem mark_snoc (b : Bs) (B v : Int) (l : List Pt) (p : Pt) : mark b B (l ++ [p]) v = stat (mark b B l v) B p.1 v := by
  unfold mark; rw [List.foldl_append]; rfl
theorem takM_len (L : Nat) (b : Bs) (B S i : Int) : (takM L b B S i).length = b.length := by
  unfold takM
  split
  · exact mark_len _ _ _ _
  · split
    · exact stat_len _ _ _ _
    · rfl
theorem takM_bs (L : Nat) {b : Bs} (B S i : Int) (h : isBs b) : isBs (takM L b B S i) := by
  unfold takM
  split
  · exact mark_bs _ _ _ h
  · split
    · exact stat_bs h _ _ _
    · exact h

/-- A word of a descriptor behind a change of a status. -/
theorem wd_stat {L : Nat} {b : Bs} {B S : Int} (hL : b.length = L) (h : Ok L B S) {i j k v : Int} (i0 : 0 ≤ i) (i1 : i < S) (j0 : 0 ≤ j) (j1 : j < S) (k0 : 0 ≤ k) (k1 : k < 4) (v0 : 0 ≤ v) (v1 : v < 4294967296) :
    wd (stat b B i v) B j k = if j = i ∧ k = 3 then v else wd b B j k := by
  subst hL
  unfold wd stat
  split
  · rename_i e
    obtain ⟨rfl, rfl⟩ := e
    rw [show B + 16 * j + 4 * 3 = B + 16 * j + 12 by omega, ld_st (h.there3 i0 i1)]
    show v % 4294967296 = v
    omega
  · rename_i e
    exact ld_other (h.there3 i0 i1) (h.there j0 j1 k0 k1) (by omega)
/-- Indices of the ring. -/
def Inr (S : Int) (l : List Pt) : Prop := ∀ p ∈ l, 0 ≤ p.1 ∧ p.1 < S
theorem wd_mark {L : Nat} {B S v : Int} (h : Ok L B S) (v0 : 0 ≤ v) (v1 : v < 4294967296) {j k : Int} (j0 : 0 ≤ j) (j1 : j < S) (k0 : 0 ≤ k) (k1 : k < 4) :
    ∀ (l : List Pt) (b : Bs), b.length = L → Inr S l → wd (mark b B l v) B j k = if has l j = true ∧ k = 3 then v else wd b B j k := by
  intro l
  induction l with
  | nil => intro b _ _; rw [if_neg (by simp [has])]; rfl
  | cons p r ih =>
    intro b hL hl
    have hp := hl p List.mem_cons_self
    show wd (mark (stat b B p.1 v) B r v) B j k = _
    rw [ih _ ((stat_len _ _ _ _).trans hL) (fun q hq => hl q (List.mem_cons_of_mem _ hq)), wd_stat hL h hp.1 hp.2 j0 j1 k0 k1 v0 v1]
    have e : has (p :: r) j = (decide (p.1 = j) || has r j) := rfl
    rw [e]
    by_cases c1 : has r j = true
    · rw [c1]
      by_cases c3 : k = 3
      · subst c3; simp
      · rw [if_neg (fun c => c3 c.2), if_neg (fun c => c3 c.2), if_neg (fun c => c3 c.2)]
    · rw [Bool.not_eq_true] at c1
      rw [c1]
      by_cases c2 : p.1 = j
      · subst c2; simp
      · rw [decide_eq_false c2]
        simp
        intro h1
        exact absurd h1.symm c2

/-- What is true of a request that is followed to its end. -/
structure Good (L : Nat) (b : Bs) (B S : Int) (l : List Pt) : Prop where
  inr : Inr S l
  is : ∀ p ∈ l, p = pt b B p.1 ∧ off b B p.1 = true ∧ 1 ≤ p.2.2.1 ∧ p.2.2.1 ≤ 512 ∧ p.2.1 + p.2.2.1 ≤ L
  apart : l.Pairwise fun p q => p.1 ≠ q.1 ∧ (p.2.2.2 = true → q.2.2.2 = true)
  len : l.length ≤ 4
theorem Good.nil (L : Nat) (b : Bs) (B S : Int) : Good L b B S [] := ⟨fun _ h => (by cases h), fun _ h => (by cases h), List.Pairwise.nil, (by simp)⟩
theorem err_zero {L : Nat} {b : Bs} {B S : Int} {l : List Pt} {i : Int} (h : err L b B S l i = 0) : l.length < 4 ∧ has l i = false ∧ off b B i = true ∧ 1 ≤ wd b B i 1 ∧ wd b B i 1 ≤ 512 ∧ wd b B i 0 + wd b B i 1 ≤ L ∧ (wr b B i = true ∨ wri l = false) ∧ (more b B i = true → nxt b B i < S) := by
  have h1 : err1 L b B l i = 0 := by
    unfold err at h
    apply Classical.byContradiction
    intro h2
    rw [if_pos h2] at h
    exact h2 h
  have h3 : more b B i = true → nxt b B i < S := by
    intro hm
    unfold err at h
    rw [if_neg (fun c => c h1)] at h
    apply Classical.byContradiction
    intro h2
    rw [if_pos ⟨hm, by omega⟩] at h
    cases h
  unfold err1 at h1
  split at h1
  · cases h1
  rename_i a1
  split at h1
  · cases h1
  rename_i a2
  split at h1
  · cases h1
  rename_i a3
  split at h1
  · cases h1
  rename_i a4
  simp only [not_or] at a1 a3 a4
  refine ⟨by omega, by simpa using a1.2, by simpa using a2, by omega, by omega, by omega, ?_, h3⟩
  have h5 := a4.2.2.2
  cases hw : wr b B i
  · right
    rw [hw] at h5
    simpa using h5
  · exact .inl rfl
theorem Good.snoc {L : Nat} {b : Bs} {B S : Int} {l : List Pt} {i : Int} (g : Good L b B S l) (i0 : 0 ≤ i) (i1 : i < S) (h : err L b B S l i = 0) : Good L b B S (l ++ [pt b B i]) := by
  obtain ⟨h1, h2, h3, h4, h5, h6, h7, h8⟩ := err_zero h
  refine ⟨fun p hp => ?_, fun p hp => ?_, ?_, by simp; omega⟩
  · rcases List.mem_append.1 hp with hp | hp
    · exact g.inr p hp
    · obtain rfl := List.mem_singleton.1 hp
      exact ⟨i0, i1⟩
  · rcases List.mem_append.1 hp with hp | hp
    · exact g.is p hp
    · obtain rfl := List.mem_singleton.1 hp
      exact ⟨rfl, h3, h4, h5, h6⟩
  · rw [List.pairwise_append]
    refine ⟨g.apart, List.pairwise_singleton _ _, fun p hp q hq => ?_⟩
    obtain rfl := List.mem_singleton.1 hq
    constructor
    · intro e
      have : has l i = true := List.any_eq_true.2 ⟨p, hp, decide_eq_true (show p.1 = i from e)⟩
      rw [h2] at this
      cases this
    · intro e
      rcases h7 with h7 | h7
      · exact h7
      · have : wri l = true := List.any_eq_true.2 ⟨p, hp, e⟩
        rw [h7] at this
        cases this
theorem nxt_rng {b : Bs} (hb : isBs b) (B i : Int) : 0 ≤ nxt b B i ∧ nxt b B i < 256 := by
  have := wd_rng hb B i 2
  unfold nxt
  omega
theorem err_vals (L : Nat) (b : Bs) (B S : Int) (l : List Pt) (i : Int) : err L b B S l i = 0 ∨ 161 ≤ err L b B S l i ∧ err L b B S l i ≤ 165 := by
  unfold err err1
  repeat' split
  all_goals omega
theorem fol_good {L : Nat} {b : Bs} {B S : Int} (hb : isBs b) : ∀ (f : Nat) (l : List Pt) (i : Int), Good L b B S l → 0 ≤ i → i < S → (fol L b B S f l i).2 = 0 → Good L b B S (fol L b B S f l i).1 ∧ l.length < (fol L b B S f l i).1.length ∧ (fol L b B S f l i).1.take (l.length + 1) = l ++ [pt b B i] := by
  intro f
  induction f with
  | zero => intro l i _ _ _ h; cases h
  | succ f ih =>
    intro l i g i0 i1 h
    unfold fol at h ⊢
    by_cases c1 : err L b B S l i ≠ 0
    · rw [if_pos c1] at h
      exact absurd h c1
    rw [if_neg c1] at h ⊢
    have e0 : err L b B S l i = 0 := Classical.byContradiction c1
    have g1 := g.snoc i0 i1 e0
    by_cases c2 : more b B i = true
    · rw [if_pos c2] at h ⊢
      have hn := nxt_rng hb B i
      obtain ⟨k1, k2, k3⟩ := ih _ _ g1 hn.1 ((err_zero e0).2.2.2.2.2.2.2 c2) h
      rw [List.length_append, List.length_singleton] at k2 k3
      refine ⟨k1, by omega, ?_⟩
      have := congrArg (List.take (l.length + 1)) k3
      rw [List.take_take, Nat.min_eq_left (by omega)] at this
      rw [this, List.take_append_of_le_length (by simp)]
      exact List.take_of_length_le (by simp)
    · rw [if_neg c2]
      exact ⟨g1, by simp, List.take_of_length_le (by simp)⟩
theorem fol_errs {L : Nat} {b : Bs} {B S : Int} : ∀ (f : Nat) (l : List Pt) (i : Int), (fol L b B S f l i).2 ≠ 0 → (fol L b B S f l i).1 = [] ∧ 161 ≤ (fol L b B S f l i).2 ∧ (fol L b B S f l i).2 ≤ 165 := by
  intro f
  induction f with
  | zero => intro l i _; exact ⟨rfl, by show 161 ≤ (163 : Int); omega, by show (163 : Int) ≤ 165; omega⟩
  | succ f ih =>
    intro l i h
    unfold fol at h ⊢
    by_cases c1 : err L b B S l i ≠ 0
    · rw [if_pos c1]
      have := err_vals L b B S l i
      exact ⟨rfl, by show 161 ≤ err L b B S l i; omega, by show err L b B S l i ≤ 165; omega⟩
    rw [if_neg c1] at h ⊢
    by_cases c2 : more b B i = true
    · rw [if_pos c2] at h ⊢
      exact ih _ _ h
    · rw [if_neg c2] at h
      exact absurd rfl h
theorem take_good {L : Nat} {b : Bs} {B S i : Int} (hb : isBs b) (i0 : 0 ≤ i) (i1 : i < S) : Good L b B S (takL L b B S i) := by
  by_cases h : takE L b B S i = 0
  · exact (fol_good hb 5 [] i (Good.nil _ _ _ _) i0 i1 h).1
  · have := (fol_errs 5 [] i h).1
    unfold takL
    rw [this]
    exact Good.nil _ _ _ _
theorem take_head {L : Nat} {b : Bs} {B S i : Int} (hb : isBs b) (i0 : 0 ≤ i) (i1 : i < S) (h : takE L b B S i = 0) : (takL L b B S i)[0]? = some (pt b B i) := by
  obtain ⟨_, h1, h2⟩ := fol_good hb 5 [] i (Good.nil L b B S) i0 i1 h
  have h3 := congrArg (fun l : List Pt => l[0]?) h2
  simp only [List.length_nil, Nat.zero_add, List.nil_append] at h3
  rw [List.getElem?_take_of_lt (by omega)] at h3
  exact h3
theorem take_errs {L : Nat} {b : Bs} {B S i : Int} (h : takE L b B S i ≠ 0) : takL L b B S i = [] ∧ 161 ≤ takE L b B S i ∧ takE L b B S i ≤ 165 := fol_errs 5 [] i h
/-- What is not offered is not taken. -/
theorem take_no {L : Nat} {b : Bs} {B S i : Int} (h : off b B i = false) : takE L b B S i = 165 := by
  unfold takE fol
  have e : err L b B S [] i = 165 := by
    unfold err
    have : err1 L b B [] i = 165 := by
      unfold err1
      rw [if_neg (by simp [has]), if_pos h]
    rw [this]
    rfl
  rw [e]
  rfl
theorem take_yes {L : Nat} {b : Bs} {B S i : Int} (h : takE L b B S i = 0) : off b B i = true := by
  cases h1 : off b B i
  · rw [take_no h1] at h; cases h
  · rfl
end Rg
end Go.Proofs.Ytffgbbfcbobecaa
