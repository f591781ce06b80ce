/-
  PLAIN FACTS, OF NO PROGRAM: tokens with gaps between them.
-/
import Derived.Test.YtjopadfkdpcjmaaDoorLexMath
namespace Go.Proofs.YtjopadfkdpcjmaaDoor
namespace Lx

/-- A gap. -/
def gapS (n : Nat) (e : Bool) : Str :=
  if e = true ∧ n % 5 = 4 then [32, 59, 32, 97, 32, 34, 99, 111, 109, 109, 101, 110, 116]
  else if n % 4 = 0 then [32] else if n % 4 = 1 then [32, 32] else if n % 4 = 2 then [32, 9] else [13, 32]
theorem gap_len (n : Nat) (e : Bool) : (gapS n e).length ≤ 13 := by
  unfold gapS
  split
  · decide
  split
  · decide
  split
  · decide
  split <;> decide
theorem gap_head (n : Nat) (e : Bool) (m : Str) : Stop (gapS n e ++ m) := by
  intro c r h
  unfold gapS at h
  split at h
  · cases h; decide
  split at h
  · cases h; decide
  split at h
  · cases h; decide
  split at h
  · cases h; decide
  · cases h; decide
theorem gap_ok {n : Nat} {e : Bool} {t : Tok} (h : e = decide (t.kind = 5)) : GapOk (gapS n e) t := by
  intro p m
  unfold gapS
  split
  · rename_i he
    obtain ⟨he, -⟩ := he
    rw [he] at h
    have h5 := of_decide_eq_true h.symm
    have hs : src t = [10] := by unfold src; rw [if_neg (by omega), if_neg (by omega), if_pos h5]
    rw [hs]
    simp only [List.cons_append, List.nil_append]
    rw [toks_space 32 (by decide), toks_cons, if_neg (by decide), if_pos rfl]
    rfl
  split
  · simp only [List.cons_append, List.nil_append]
    rw [toks_space 32 (by decide)]
    rfl
  split
  · simp only [List.cons_append, List.nil_append]
    rw [toks_space 32 (by decide), toks_space 32 (by decide)]
    rfl
  split
  · simp only [List.cons_append, List.nil_append]
    rw [toks_space 32 (by decide), toks_space 9 (by decide)]
    rfl
  · simp only [List.cons_append, List.nil_append]
    rw [toks_space 13 (by decide), toks_space 32 (by decide)]
    rfl
/-- Tokens, each behind its gap. -/
def gapL (g : Nat → Nat) (l : List Tok) : List (Str × Tok) := l.mapIdx fun i t => (gapS (g i) (decide (t.kind = 5)), t)
theorem gapL_get (g : Nat → Nat) (l : List Tok) (k : Nat) (h : k < (gapL g l).length) : ((gapL g l)[k]).1 = gapS (g k) (decide ((l[k]'(by simpa [gapL] using h)).kind = 5)) := by
  simp [gapL]
theorem gapL_snd (g : Nat → Nat) (l : List Tok) : (gapL g l).map (·.2) = l := by
  apply List.ext_getElem
  · simp [gapL]
  · intro i h3 h4
    simp [gapL]
def gapSrc (g : Nat → Nat) (l : List Tok) : Str := gapped (gapL g l)
theorem gapped_app : ∀ (l m : List (Str × Tok)), gapped (l ++ m) = gapped l ++ gapped m := by
  intro l
  induction l with
  | nil => intro m; rfl
  | cons x l ih =>
    intro m
    obtain ⟨g, t⟩ := x
    rw [List.cons_append, gapped, ih, gapped]
    simp
theorem gapSrc_nil (g : Nat → Nat) : gapSrc g [] = [] := rfl
theorem gapSrc_next (g : Nat → Nat) {l : List Tok} {k : Nat} (h : k < l.length) : gapSrc g (l.take (k + 1)) = gapSrc g (l.take k) ++ (gapS (g k) (decide (l[k].kind = 5)) ++ src l[k]) := by
  have hl : (l.take k).length = k := by rw [List.length_take]; omega
  unfold gapSrc gapL
  rw [List.take_succ_eq_append_getElem h, List.mapIdx_append, gapped_app, hl]
  simp [gapped]
theorem gap_tokens (g : Nat → Nat) {l : List Tok} (hr : ∀ t ∈ l, right t = true) (hl : (gapSrc g l).length ≤ 16384) : ∃ r, Tokens (gapSrc g l) = (r, 0, 0) ∧ r.map bare = l.map bare := by
  obtain ⟨r, h1, h2⟩ := toks_gapped (gapL g l) 0 (fun x hx => by
    unfold gapL at hx
    rw [List.mem_mapIdx] at hx
    obtain ⟨i, hi, rfl⟩ := hx
    exact ⟨hr _ (List.getElem_mem hi), gap_ok rfl⟩) (fun k hk _ m => by
    rw [gapL_get]
    exact gap_head _ _ _)
  refine ⟨r, ?_, ?_⟩
  · unfold Tokens
    rw [if_pos hl]
    exact h1
  · rw [h2]
    have := congrArg (List.map bare) (gapL_snd g l)
    rw [List.map_map] at this
    exact this
end Lx
end Go.Proofs.YtjopadfkdpcjmaaDoor
