/-
  place OF a step, by what it says of it; fetch.
-/
import Derived.Test.YtidhodalnikhlaaGreatDoorWd
namespace Go.Proofs.YtidhodalnikhlaaGreatDoor
open Go.RowKit Go.ChangeShapes Go.WideShapes Go.ChangeAt

theorem zz0 : (0 : Int) ≤ 0 := Int.le_refl _
theorem zz1 : (0 : Int) < 1099511627776 := by decide
theorem zz2 : (0 : Int) < 4294967296 := by decide
theorem zz3 : (0 : Int) ≤ 3 := by decide
theorem zz4 : (3 : Int) < 4294967296 := by decide
theorem one_if {α : Type} {p : Prop} [Decidable p] (x : α) : (if p then [] else [x] : List α).length ≤ 1 := by split <;> simp
theorem mem_if {α : Type} {p : Prop} [Decidable p] {x y : α} (h : y ∈ (if p then [] else [x] : List α)) : y = x := by
  split at h
  · cases h
  · exact List.mem_singleton.1 h
namespace Tm
theorem pg_rg {e va : Int} (h : isE e) (_hv : 0 ≤ va ∧ va ≤ 4294967295) : 0 ≤ pgOf e va + va % 128 ∧ pgOf e va + va % 128 < 1099511627776 := by
  have h5 := adr_e h
  unfold isE at h5
  unfold pgOf
  split <;> omega
theorem after_rg {e : Int} (h : isE e) (acc : Int) : isE (after e acc) := by
  unfold after
  split
  · exact wi_e (wi_e h (Or.inl rfl)) (Or.inr rfl)
  · exact wi_e h (Or.inl rfl)
theorem find_rg (n : Nat) {b : Wm.Bs} (root va : Int) (hb : Wm.isBs b) (hr : 0 ≤ root ∧ root ≤ 4294967295) (hv : 0 ≤ va ∧ va ≤ 4294967295) : isE (find n b root va).e ∧ (0 ≤ (find n b root va).a ∧ (find n b root va).a < 1099511627776) ∧ (find n b root va).r.length ≤ 2 := by
  have h1 := wd_e hb (fA root va)
  have h2 := wd_e hb (sA (adr (wd b (fA root va))) va)
  have h3 := adr_e h1
  unfold isE at h3
  unfold find
  split
  · split
    · refine ⟨h1, ?_, by simp⟩
      show 0 ≤ fA root va ∧ fA root va < _
      unfold fA
      omega
    · refine ⟨h2, ?_, by simp⟩
      show 0 ≤ sA _ va ∧ sA _ va < _
      unfold sA
      omega
  · exact ⟨⟨zz0, zz2⟩, ⟨zz0, zz1⟩, by simp⟩
theorem walk_rg (n : Nat) {b : Wm.Bs} (root va acc : Int) (u : Bool) (hb : Wm.isBs b) (hr : 0 ≤ root ∧ root ≤ 4294967295) (hv : 0 ≤ va ∧ va ≤ 4294967295) :
    (walk n b root va acc u).s.length ≤ 1 ∧ (∀ x ∈ (walk n b root va acc u).s, isW x) ∧ (walk n b root va acc u).r.length ≤ 2 ∧ (0 ≤ (walk n b root va acc u).a ∧ (walk n b root va acc u).a < 1099511627776) ∧ ((walk n b root va acc u).ok = false → (walk n b root va acc u).s = [] ∧ (walk n b root va acc u).a = 0) := by
  obtain ⟨f1, f2, f3⟩ := find_rg n root va hb hr hv
  unfold walk
  split
  · unfold unt
    split
    · exact ⟨by simp, by simp, by simp, by show 0 ≤ va ∧ va < _; omega, by simp⟩
    · exact ⟨by simp, by simp, by simp, ⟨zz0, zz1⟩, by simp⟩
  · unfold trans
    split
    · split
      · unfold wkOf
        refine ⟨?_, ?_, f3, ?_, by simp⟩
        · exact one_if _
        · intro x hx
          have hx := mem_if hx
          subst hx
          have h4 := after_rg f1 acc
          exact ⟨⟨by show _ ≤ (find n b root va).a; omega, by show (find n b root va).a ≤ _; omega⟩, ⟨by show _ ≤ (4 : Int); omega, by show (4 : Int) ≤ _; omega⟩, h4.1, h4.2⟩
        · exact pg_rg f1 hv
      · exact ⟨by simp, by simp, f3, ⟨zz0, zz1⟩, by simp⟩
    · exact ⟨by simp, by simp, by simp, ⟨zz0, zz1⟩, by simp⟩
theorem cause_rg (acc : Int) : 4 ≤ cause acc ∧ cause acc ≤ 6 := by
  unfold cause
  split
  · omega
  · split <;> omega
end Tm
namespace Cm
/-- Where an address leads, what is stored and touched on the way, and the memory behind it; or the cause of a trap. -/
structure Pl where
  (ok : Bool) (ca a : Int) (w : List (Int × Int × Int)) (c : List (Int × Int × Bool)) (b : Wm.Bs)
def plOf (x : Tm.Wk) (acc : Int) (b : Wm.Bs) : Pl := if x.ok then ⟨true, 0, x.a, x.s, raL x.r ++ saL x.s, (Mm.ap b x.s).getD b⟩ else ⟨false, Tm.cause acc, 0, x.s, raL x.r ++ saL x.s, b⟩
def place (n : Nat) (b : Wm.Bs) (root : Int) (u : Bool) (va acc sz : Int) : Pl := if va % sz = 0 then plOf (Tm.walk n b root va acc u) acc b else ⟨false, 3, 0, [], [], b⟩
theorem ap_bs {b : Wm.Bs} (l : List (Int × Int × Int)) (h : Wm.isBs b) : Wm.isBs ((Mm.ap b l).getD b) ∧ ((Mm.ap b l).getD b).length = b.length := by
  cases e : Mm.ap b l with
  | none => exact ⟨h, rfl⟩
  | some x => exact ⟨(Mm.ap_ok l h e).2, (Mm.ap_ok l h e).1⟩
theorem place_rg (n : Nat) {b : Wm.Bs} (root : Int) (u : Bool) (va acc sz : Int) (hb : Wm.isBs b) (hr : 0 ≤ root ∧ root ≤ 4294967295) (hv : 0 ≤ va ∧ va ≤ 4294967295) :
    (place n b root u va acc sz).w.length ≤ 1 ∧ (place n b root u va acc sz).c.length ≤ 3 ∧ Wm.isBs (place n b root u va acc sz).b ∧ (place n b root u va acc sz).b.length = b.length ∧ (0 ≤ (place n b root u va acc sz).a ∧ (place n b root u va acc sz).a < 1099511627776) ∧ (0 ≤ (place n b root u va acc sz).ca ∧ (place n b root u va acc sz).ca < 4294967296) := by
  obtain ⟨w1, _, w3, w4, _⟩ := Tm.walk_rg n root va acc u hb hr hv
  have hc := Tm.cause_rg acc
  unfold place plOf
  split
  · split
    · refine ⟨w1, ?_, (ap_bs _ hb).1, (ap_bs _ hb).2, w4, zz0, zz2⟩
      show (raL _ ++ saL _).length ≤ 3
      rw [List.length_append, raL_len, saL_len]
      omega
    · refine ⟨w1, ?_, hb, rfl, ⟨zz0, zz1⟩, by show 0 ≤ Tm.cause acc; omega, by show Tm.cause acc < _; omega⟩
      show (raL _ ++ saL _).length ≤ 3
      rw [List.length_append, raL_len, saL_len]
      omega
  · exact ⟨by simp, by simp, hb, rfl, ⟨zz0, zz1⟩, zz3, zz4⟩
end Cm
/-- A step with other lists and another memory. -/
def Sp.lay (s : Sp) (v u m : Value) : Sp := { s with av := v, wv := u, m := m }
theorem Sp.lay_m {s : Sp} {x : Value} (h : s.m = x) (v u : Value) : ({ s with av := v, wv := u } : Sp) = s.lay v u x := by subst h; rfl
theorem splace_any {base : Nat} {w : World} {B : Nat} {s : Sp} {A : Option Addr} {n c : Nat} {ws : List (Int × Int × Int)} {ac : List (Int × Int × Bool)} {b : Wm.Bs} (h : At base w B s A n c ws ac b) (hl1 : ac.length ≤ 900) (hl2 : ws.length ≤ 900) (hb : Wm.isBs b) (hn : n ≤ 64) (hr : 0 ≤ s.c.c0 ∧ s.c.c0 ≤ 4294967295) (va acc sz : Int) (hv : 0 ≤ va ∧ va ≤ 4294967295) (hz : sz = 1 ∨ sz = 4) (P : Cm.Pl) (hP : Cm.place n b s.c.c0 s.c.u va acc sz = P) :
    Calls Tryz.prog 116 #[.pointer (some ⟨B, 0, none⟩), .int .u32 va, .int .i64 acc, .int .i64 sz] w fun e w' => e = (if P.ok then .returned (.int .i64 P.a) else .panicked (Lv P.ca va s.old.pc)) ∧ ∃ v u A' c', At base w' B (s.lay v u (.slice A' n c')) A' n c' (ws ++ P.w) (ac ++ P.c) P.b ∧ St base B w s w' (s.lay v u (.slice A' n c')) := by
  unfold Cm.place at hP
  by_cases ho : va % sz = 0
  rotate_left
  · rw [if_neg ho] at hP
    subst hP
    refine (place_odd h va acc sz hv hz ho).mono fun e w' he => ?_
    obtain ⟨rfl, rfl⟩ := he
    refine ⟨rfl, s.av, s.wv, A, c, ?_, ?_⟩
    · rw [← Sp.lay_m h.hm, List.append_nil, List.append_nil]
      exact h
    · rw [← Sp.lay_m h.hm]
      exact St.later _ h.lt (later0 _)
  rw [if_pos ho] at hP
  obtain ⟨w1, w2, w3, w4, w5⟩ := Tm.walk_rg n s.c.c0 va acc s.c.u hb hr hv
  have hc := Tm.cause_rg acc
  have KW := fun w' (hl : Later w w') => twalk_any A n c s.c.c0 va acc s.c.u b w' (h.sl.keep hl) hb h.hn hn hr.1 (by omega) hv.1 (by omega)
  obtain ⟨X, hX⟩ : ∃ X, Tm.walk n b s.c.c0 va acc s.c.u = X := ⟨_, rfl⟩
  rw [hX] at hP w1 w2 w3 w4 w5 KW
  clear hX
  obtain ⟨ok, xa, xl, xs, xr⟩ := X
  dsimp only at w1 w2 w3 w4 w5
  unfold Cm.plOf at hP
  cases ok with
  | false =>
    subst hP
    refine (place_bad h hl1 hl2 va acc sz hv hz ho xa xl xs xr xs.length xr.length (Tm.cause acc) (Lib.hid fun w' hl => (KW w' hl).mono fun e w'' he => he) rfl rfl (by omega) (by omega) (by omega) (by omega)).mono fun e w' he => ?_
    obtain ⟨rfl, v, u, q1, q2⟩ := he
    rw [Sp.lay_m h.hm] at q1 q2
    exact ⟨rfl, v, u, A, c, q1, q2⟩
  | true =>
    subst hP
    rcases Nat.eq_zero_or_pos xs.length with h0 | h0
    · have hx : xs = [] := List.eq_nil_of_length_eq_zero h0
      subst hx
      refine (place_ok0 h hl1 hl2 va acc sz hv hz ho xa xl [] xr xr.length (Lib.hid fun w' hl => (KW w' hl).mono fun e w'' he => he) rfl rfl (by omega) (by omega)).mono fun e w' he => ?_
      obtain ⟨rfl, v, u, A', c', q1, q2⟩ := he
      exact ⟨rfl, v, u, A', c', q1, q2⟩
    · refine (place_ok1 h hl1 hl2 va acc sz hv hz ho xa xl xs xr xs.length xr.length (Lib.hid fun w' hl => (KW w' hl).mono fun e w'' he => he) rfl rfl (by omega) (by omega) hb ⟨h.hn, hn⟩ w2 h0).mono fun e w' he => ?_
      obtain ⟨rfl, v, u, A', c', q1, q2⟩ := he
      exact ⟨rfl, v, u, A', c', q1, q2⟩
end Go.Proofs.YtidhodalnikhlaaGreatDoor
