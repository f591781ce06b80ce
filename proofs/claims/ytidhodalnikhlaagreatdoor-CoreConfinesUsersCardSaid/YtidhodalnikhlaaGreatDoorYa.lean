/-
  PLAIN MATHEMATICS: what a step's run leaves: stores are among the accesses, traps, users.
-/
import Derived.Test.YtidhodalnikhlaaGreatDoorXs
import Derived.Test.YtidhodalnikhlaaGreatDoorWx
import Derived.Test.YtidhodalnikhlaaGreatDoorWs
import Derived.Test.YtidhodalnikhlaaGreatDoorWr
import Derived.Test.YtidhodalnikhlaaGreatDoorWt
import Derived.Test.YtidhodalnikhlaaGreatDoorWza
namespace Go.Proofs.YtidhodalnikhlaaGreatDoor
open Go.RowKit Go.ChangeShapes Go.WideShapes Go.ChangeAt

namespace Cm
def sts (l : List (Int × Int × Bool)) : List (Int × Int) := (l.filter fun a => a.2.2).map fun a => (a.1, a.2.1)
def wts (l : List (Int × Int × Int)) : List (Int × Int) := l.map fun a => (a.1, a.2.1)
/-- Cases of an instruction. -/
theorem inst_any (Q : Out → Prop) (n : Nat) (b : Wm.Bs) (pc p : Int) (i : Im.I) (e : Eff) (h1 : i.op = 20 ∨ i.op = 22 → Q (read n b pc i e)) (h2 : i.op = 21 ∨ i.op = 23 → Q (write n b pc i e)) (h3 : i.op = 24 → Q (swap n b pc i e)) (h4 : ∀ (v : Int) (c : Cpu), Q ({ e with c := Cpu.putR { e.c with pc := c.pc } i v }, none))
    (h5 : ∀ q, Q ({ e with c := { e.c with pc := q } }, none)) (h6 : Q (e, none)) (h7 : Q (e, some (1, 0, e.c.pc))) (h8 : Q (e, some (2, e.wd, pc)))
    (h41 : i.op = 41 → Q ({ e with c := Cpu.back e.c }, none)) (h43 : i.op = 43 → Q ({ e with c := e.c.put i.imm (e.c.rg i.a) }, none)) (h44 : i.op = 44 → ∀ fl fa, Q ({ e with fl := fl, fa := fa }, none))
    (h45 : i.op = 45 → Q ({ e with c := { e.c with wt := true } }, none)) (h46 : i.op = 46 ∨ i.op = 47 → ∀ ii ip iv, Q ({ e with ak := true, ii := ii, ip := ip, iv := iv }, none)) (h48 : i.op = 48 → Q ({ e with c := { e.c with hl := true } }, none)) : Q (inst n b pc p i e) := by
  unfold inst
  by_cases o1 : i.op = 16
  · rw [if_pos o1]; exact h4 _ e.c
  rw [if_neg o1]
  by_cases o2 : i.op = 17
  · rw [if_pos o2]; exact h4 _ e.c
  rw [if_neg o2]
  by_cases o3 : i.op = 20 ∨ i.op = 22
  · rw [if_pos o3]; exact h1 o3
  rw [if_neg o3]
  by_cases o4 : i.op = 21 ∨ i.op = 23
  · rw [if_pos o4]; exact h2 o4
  rw [if_neg o4]
  by_cases o5 : i.op = 24
  · rw [if_pos o5]; exact h3 o5
  rw [if_neg o5]
  by_cases o6 : 28 ≤ i.op ∧ i.op ≤ 31
  · rw [if_pos o6]
    split
    · exact h5 _
    · exact h6
  rw [if_neg o6]
  by_cases o7 : i.op = 32
  · rw [if_pos o7]; exact h4 _ { e.c with pc := targI pc i }
  rw [if_neg o7]
  by_cases o8 : i.op = 33
  · rw [if_pos o8]; exact h4 _ { e.c with pc := va e.c i }
  rw [if_neg o8]
  by_cases o9 : i.op = 40
  · rw [if_pos o9]; exact h7
  rw [if_neg o9]
  by_cases p1 : i.op = 41
  · rw [if_pos p1]; exact h41 p1
  rw [if_neg p1]
  by_cases p2 : i.op = 42
  · rw [if_pos p2]
    split
    · exact h4 _ e.c
    · exact h8
  rw [if_neg p2]
  by_cases p3 : i.op = 43
  · rw [if_pos p3]
    split
    · exact h43 p3
    · exact h8
  rw [if_neg p3]
  by_cases p4 : i.op = 44
  · rw [if_pos p4]
    split
    · exact h44 p4 _ e.fa
    · exact h44 p4 _ _
  rw [if_neg p4]
  by_cases p5 : i.op = 45
  · rw [if_pos p5]; exact h45 p5
  rw [if_neg p5]
  by_cases p6 : i.op = 46
  · rw [if_pos p6]; exact h46 (.inl p6) _ _ _
  rw [if_neg p6]
  by_cases p7 : i.op = 47
  · rw [if_pos p7]; exact h46 (.inr p7) _ _ _
  rw [if_neg p7]
  by_cases p8 : i.op = 48
  · rw [if_pos p8]; exact h48 p8
  rw [if_neg p8]
  exact h4 _ e.c
/-- What a trap's effect keeps of the effect before. -/
def Kept (e e1 : Eff) : Prop := (∀ k, e1.c.reg k = e.c.reg k) ∧ e1.c.c0 = e.c.c0 ∧ e1.c.c1 = e.c.c1 ∧ e1.c.c5 = e.c.c5 ∧ e1.c.c6 = e.c.c6 ∧ e1.c.c7 = e.c.c7 ∧ e1.c.c8 = e.c.c8 ∧ e1.c.u = e.c.u ∧ e1.c.hl = e.c.hl ∧ e1.c.cn = e.c.cn ∧ e1.ak = e.ak ∧ e1.ii = e.ii ∧ e1.ip = e.ip ∧ e1.iv = e.iv ∧ e1.fl = e.fl ∧ e1.fa = e.fa
theorem Kept.refl (e : Eff) : Kept e e := ⟨fun _ => rfl, rfl, rfl, rfl, rfl, rfl, rfl, rfl, rfl, rfl, rfl, rfl, rfl, rfl, rfl, rfl⟩
theorem place_ca (n : Nat) (b : Wm.Bs) (root : Int) (u : Bool) (va acc sz : Int) (h : (place n b root u va acc sz).ok = false) : (place n b root u va acc sz).ca = 3 ∨ (place n b root u va acc sz).ca = Tm.cause acc := by
  unfold place at h ⊢
  split
  · rename_i hz
    rw [if_pos hz] at h
    unfold plOf at h ⊢
    split
    · rename_i ho; rw [if_pos ho] at h; cases h
    · exact .inr rfl
  · exact .inl rfl
/-- An instruction that leaves by a trap changes nothing but pc, and lists. -/
theorem inst_leaves (n : Nat) (b : Wm.Bs) (pc p : Int) (i : Im.I) (e : Eff) (ca v q : Int) (h : (inst n b pc p i e).2 = some (ca, v, q)) : Kept e (inst n b pc p i e).1 ∧ (ca = 1 ∨ ca = 2 ∨ ca = 3 ∨ ca = Tm.cause (accA i.op)) := by
  have hr : ∀ X : Out, X = read n b pc i e ∨ X = write n b pc i e ∨ X = swap n b pc i e → X.2 = some (ca, v, q) → Kept e X.1 ∧ (ca = 1 ∨ ca = 2 ∨ ca = 3 ∨ ca = Tm.cause (accA i.op)) := by
    intro X hX h2
    have hc : ∀ ok : (pl n b i e).ok = false, ((pl n b i e).ca, va e.c i, pc) = (ca, v, q) → (ca = 1 ∨ ca = 2 ∨ ca = 3 ∨ ca = Tm.cause (accA i.op)) := by
      intro ok e1
      have := place_ca _ _ _ _ _ _ _ ok
      cases e1
      rcases this with h | h
      · exact .inr (.inr (.inl h))
      · exact .inr (.inr (.inr h))
    rcases hX with rfl | rfl | rfl
    all_goals
      first | unfold read at h2 ⊢ | unfold write at h2 ⊢ | unfold swap at h2 ⊢
      dsimp only at h2 ⊢
      cases ho : (pl n b i e).ok with
      | true => rw [ho] at h2; simp at h2
      | false =>
        rw [ho] at h2
        simp only [Bool.false_eq_true, if_false] at h2 ⊢
        exact ⟨Kept.refl e, hc ho (Option.some.inj h2)⟩
  exact inst_any (fun X => X.2 = some (ca, v, q) → Kept e X.1 ∧ (ca = 1 ∨ ca = 2 ∨ ca = 3 ∨ ca = Tm.cause (accA i.op))) n b pc p i e (fun _ => hr _ (.inl rfl)) (fun _ => hr _ (.inr (.inl rfl))) (fun _ => hr _ (.inr (.inr rfl))) (fun _ _ h => by cases h) (fun _ h => by cases h) (fun h => by cases h) (fun h => by cases h; exact ⟨Kept.refl e, .inl rfl⟩) (fun h => by cases h; exact ⟨Kept.refl e, .inr (.inl rfl)⟩) (fun _ h => by cases h) (fun _ h => by cases h) (fun _ _ _ h => by cases h) (fun _ h => by cases h) (fun _ _ _ _ h => by cases h) (fun _ h => by cases h) h
/-- What an instruction that users may give keeps, if it leaves by no trap. -/
def KeptU (e e1 : Eff) : Prop := e1.c.c0 = e.c.c0 ∧ e1.c.c1 = e.c.c1 ∧ e1.c.c2 = e.c.c2 ∧ e1.c.c3 = e.c.c3 ∧ e1.c.c4 = e.c.c4 ∧ e1.c.c5 = e.c.c5 ∧ e1.c.c6 = e.c.c6 ∧ e1.c.c7 = e.c.c7 ∧ e1.c.c8 = e.c.c8 ∧ e1.c.u = e.c.u ∧ e1.c.hl = e.c.hl ∧ e1.c.wt = e.c.wt ∧ e1.c.cn = e.c.cn ∧ e1.ak = e.ak ∧ e1.ii = e.ii ∧ e1.ip = e.ip ∧ e1.iv = e.iv ∧ e1.fl = e.fl ∧ e1.fa = e.fa ∧ e1.tr = e.tr
theorem setR_keeps (x : Cpu) (k : Nat) (v : Int) : (x.setR k v).c0 = x.c0 ∧ (x.setR k v).c1 = x.c1 ∧ (x.setR k v).c2 = x.c2 ∧ (x.setR k v).c3 = x.c3 ∧ (x.setR k v).c4 = x.c4 ∧ (x.setR k v).c5 = x.c5 ∧ (x.setR k v).c6 = x.c6 ∧ (x.setR k v).c7 = x.c7 ∧ (x.setR k v).c8 = x.c8 ∧ (x.setR k v).u = x.u ∧ (x.setR k v).hl = x.hl ∧ (x.setR k v).wt = x.wt ∧ (x.setR k v).cn = x.cn := by
  unfold Cpu.setR
  split <;> exact ⟨rfl, rfl, rfl, rfl, rfl, rfl, rfl, rfl, rfl, rfl, rfl, rfl, rfl⟩
theorem putR_keeps (x : Cpu) (i : Im.I) (v : Int) : (x.putR i v).c0 = x.c0 ∧ (x.putR i v).c1 = x.c1 ∧ (x.putR i v).c2 = x.c2 ∧ (x.putR i v).c3 = x.c3 ∧ (x.putR i v).c4 = x.c4 ∧ (x.putR i v).c5 = x.c5 ∧ (x.putR i v).c6 = x.c6 ∧ (x.putR i v).c7 = x.c7 ∧ (x.putR i v).c8 = x.c8 ∧ (x.putR i v).u = x.u ∧ (x.putR i v).hl = x.hl ∧ (x.putR i v).wt = x.wt ∧ (x.putR i v).cn = x.cn := by
  unfold Cpu.putR
  split
  · exact ⟨rfl, rfl, rfl, rfl, rfl, rfl, rfl, rfl, rfl, rfl, rfl, rfl, rfl⟩
  · exact setR_keeps _ _ _
theorem keptU_c (e : Eff) (c : Cpu) (i : Im.I) (v : Int) (ws : List (Int × Int × Int)) (ac : List (Int × Int × Bool)) : KeptU e { e with c := Cpu.putR { e.c with pc := c.pc } i v, ws := ws, ac := ac } := by
  obtain ⟨h0, h1, h2, h3, h4, h5, h6, h7, h8, h9, h10, h11, h12⟩ := putR_keeps { e.c with pc := c.pc } i v
  exact ⟨h0, h1, h2, h3, h4, h5, h6, h7, h8, h9, h10, h11, h12, rfl, rfl, rfl, rfl, rfl, rfl, rfl⟩
theorem keptU_e (e : Eff) (q : Int) (ws : List (Int × Int × Int)) (ac : List (Int × Int × Bool)) : KeptU e { e with c := { e.c with pc := q }, ws := ws, ac := ac } := ⟨rfl, rfl, rfl, rfl, rfl, rfl, rfl, rfl, rfl, rfl, rfl, rfl, rfl, rfl, rfl, rfl, rfl, rfl, rfl, rfl⟩
theorem inst_user (n : Nat) (b : Wm.Bs) (pc p : Int) (i : Im.I) (e : Eff) (hi : ¬ (41 ≤ i.op ∧ i.op ≤ 48)) : KeptU e (inst n b pc p i e).1 := by
  refine inst_any (fun X => KeptU e X.1) n b pc p i e ?_ ?_ ?_ (fun v c => keptU_c e c i v _ _) (fun q => keptU_e e q _ _) (keptU_e e _ _ _) (keptU_e e _ _ _) (keptU_e e _ _ _) (fun h => absurd h (by omega)) (fun h => absurd h (by omega)) (fun h => absurd h (by omega)) (fun h => absurd h (by omega)) (fun h => absurd h (by omega)) (fun h => absurd h (by omega))
  · intro _
    unfold read
    dsimp only
    split
    · exact keptU_c e e.c i _ _ _
    · exact keptU_e e e.c.pc _ _
  · intro _
    unfold write
    dsimp only
    split
    · exact keptU_e e e.c.pc _ _
    · exact keptU_e e e.c.pc _ _
  · intro _
    unfold swap
    dsimp only
    split
    · exact keptU_c e e.c i _ _ _
    · exact keptU_e e e.c.pc _ _
/-- A run ends in a trap. -/
def Trapped (e r : Eff) : Prop := ∃ (e1 : Eff) (ca v q : Int), r = e1.trap ca v q ∧ (0 < ca ∧ ca < 4294967296) ∧ Kept e e1
theorem cause_pos (acc : Int) : 0 < Tm.cause acc ∧ Tm.cause acc < 4294967296 := by
  have := Tm.cause_rg acc
  omega
theorem dueN_nn (on : Bool) (p : Int) : 0 ≤ dueN on p ∧ dueN on p ≤ 5 := by
  have := (least_is p).1
  unfold dueN
  split
  · omega
  · omega
theorem run_shape (n : Nat) (b : Wm.Bs) (pc p : Int) (e : Eff) : Trapped e (run n b pc p e) ∨ ∃ (P : Pl) (W : Int), dueB (Tm.has e.c.c5 1) p = false ∧ P = place n b e.c.c0 e.c.u e.c.pc 4 4 ∧ P.ok = true ∧ W = Mm.ld P.b P.a 4 ∧ may e.c.u W = true ∧ (inst n P.b pc p (decI_S W) (goE P e)).2 = none ∧ run n b pc p e = (inst n P.b pc p (decI_S W) (goE P e)).1 := by
  unfold run
  cases h1 : dueB (Tm.has e.c.c5 1) p with
  | true =>
    rw [if_pos rfl]
    exact .inl ⟨e, _, _, _, rfl, by have := dueN_nn (Tm.has e.c.c5 1) p; omega, Kept.refl e⟩
  | false =>
    rw [if_neg (by decide)]
    obtain ⟨P, hP⟩ : ∃ P, P = place n b e.c.c0 e.c.u e.c.pc 4 4 := ⟨_, rfl⟩
    rw [← hP]
    cases ho : P.ok with
    | false =>
      rw [if_neg (by decide)]
      refine .inl ⟨_, _, _, _, rfl, ?_, Kept.refl e⟩
      have := place_ca n b e.c.c0 e.c.u e.c.pc 4 4 (by rw [← hP]; exact ho)
      rw [← hP] at this
      have h9 := cause_pos 4
      rcases this with h | h
      · omega
      · rw [h]; exact h9
    | true =>
      rw [if_pos rfl]
      obtain ⟨W, hW⟩ : ∃ W, W = Mm.ld P.b P.a 4 := ⟨_, rfl⟩
      rw [← hW]
      cases hm : may e.c.u W with
      | false =>
        rw [if_neg (by decide)]
        exact .inl ⟨_, _, _, _, rfl, ⟨by decide, by decide⟩, Kept.refl e⟩
      | true =>
        rw [if_pos rfl]
        obtain ⟨X, hX⟩ : ∃ X, X = inst n P.b pc p (decI_S W) (goE P e) := ⟨_, rfl⟩
        rw [← hX]
        cases h2 : X.2 with
        | none => exact .inr ⟨P, W, rfl, rfl, ho, hW, hm, by rw [← hX]; exact h2, by rw [← hX]; unfold next; rw [h2]⟩
        | some t =>
          obtain ⟨ca, v, q⟩ := t
          refine .inl ⟨X.1, ca, v, q, by unfold next; rw [h2], ?_, ?_⟩
          · have := (inst_leaves n P.b pc p (decI_S W) (goE P e) ca v q (by rw [← hX]; exact h2)).2
            have h9 := cause_pos (accA (decI_S W).op)
            rcases this with h | h | h | h
            · omega
            · omega
            · omega
            · rw [h]; exact h9
          · have := (inst_leaves n P.b pc p (decI_S W) (goE P e) ca v q (by rw [← hX]; exact h2)).1
            rw [← hX] at this
            exact this
/-- A step of a user's processor asks nothing and flushes nothing; without a trap it keeps what is the system's. -/
theorem run_user (n : Nat) (b : Wm.Bs) (pc p : Int) (e : Eff) (hu : e.c.u = true) :
    ((run n b pc p e).ak = e.ak ∧ (run n b pc p e).ii = e.ii ∧ (run n b pc p e).ip = e.ip ∧ (run n b pc p e).iv = e.iv ∧ (run n b pc p e).fl = e.fl ∧ (run n b pc p e).fa = e.fa) ∧ ((run n b pc p e).tr = 0 → KeptU e (run n b pc p e)) := by
  rcases run_shape n b pc p e with ⟨e1, ca, v, q, hr, hc, k⟩ | ⟨P, W, _, _, _, _, hm, _, hr⟩
  · rw [hr]
    obtain ⟨_, _, _, _, _, _, _, _, _, _, k1, k2, k3, k4, k5, k6⟩ := k
    exact ⟨⟨k1, k2, k3, k4, k5, k6⟩, fun h => absurd h (by show ¬ ca = 0; omega)⟩
  · rw [hr]
    have hi : ¬ (41 ≤ (decI_S W).op ∧ (decI_S W).op ≤ 48) := by
      intro h
      unfold may at hm
      rw [hu, decide_eq_true h] at hm
      simp at hm
    have k : KeptU e (inst n P.b pc p (decI_S W) (goE P e)).1 := inst_user n P.b pc p (decI_S W) (goE P e) hi
    obtain ⟨_, _, _, _, _, _, _, _, _, _, _, _, _, k1, k2, k3, k4, k5, k6, _⟩ := id k
    exact ⟨⟨k1, k2, k3, k4, k5, k6⟩, fun _ => k⟩
end Cm
end Go.Proofs.YtidhodalnikhlaaGreatDoor

/-
  PLAIN MATHEMATICS: all that a step touches lies in the memory; its stores can be done.
-/
namespace Go.Proofs.YtidhodalnikhlaaGreatDoor
open Go.RowKit Go.ChangeShapes Go.WideShapes Go.ChangeAt

namespace Tm
theorem page_there {n : Nat} {a : Int} (h : pageB n a = true) : a % 128 = 0 ∧ a + 128 ≤ (n : Int) * 128 := by
  unfold pageB at h
  simp only [Bool.and_eq_true, decide_eq_true_eq] at h
  omega
theorem fA_there {n L : Nat} {root va : Int} (hL : L = n * 128) (h : pageB n root = true) (h0 : 0 ≤ root) (hv : 0 ≤ va ∧ va < 131072) : Mm.There L (fA root va) 4 := by
  obtain ⟨h1, h2⟩ := page_there h
  unfold fA Mm.There
  omega
theorem sA_there {n L : Nat} {t va : Int} (hL : L = n * 128) (h : pageB n t = true) (h0 : 0 ≤ t) : Mm.There L (sA t va) 4 := by
  obtain ⟨h1, h2⟩ := page_there h
  unfold sA Mm.There
  omega
theorem find_there {n : Nat} {b : Wm.Bs} {root va : Int} (hb : Wm.isBs b) (hl : b.length = n * 128) (h : pageB n root = true) (h0 : 0 ≤ root) (hv : 0 ≤ va ∧ va < 131072) :
    (∀ a ∈ (find n b root va).r, Mm.There b.length a 4) ∧ ((find n b root va).ok = true → Mm.There b.length (find n b root va).a 4) := by
  have h1 := fA_there hl h h0 hv
  have he := wd_e hb (fA root va)
  unfold find
  split
  · rename_i hc
    split
    · exact ⟨fun a ha => by rw [List.mem_singleton.1 ha]; exact h1, fun _ => h1⟩
    · rename_i hn
      have h2 : Mm.There b.length (sA (adr (wd b (fA root va))) va) 4 := by
        refine sA_there hl ?_ (adr_e he).1
        rw [Bool.and_eq_true] at hc
        have hr := hc.2
        unfold rF at hr
        rw [if_neg hn, Bool.and_eq_true] at hr
        exact hr.2
      refine ⟨fun a ha => ?_, fun _ => h2⟩
      rcases List.mem_cons.1 ha with rfl | ha
      · exact h1
      · rw [List.mem_singleton.1 ha]; exact h2
  · exact ⟨fun a ha => by rw [List.mem_singleton.1 ha]; exact h1, fun h => by cases h⟩
theorem walk_there {n : Nat} {b : Wm.Bs} {root va : Int} (acc : Int) (u : Bool) {sz : Int} (hz : sz = 1 ∨ sz = 4) (ho : va % sz = 0) (hb : Wm.isBs b) (hl : b.length = n * 128) (hr : 0 ≤ root ∧ root ≤ 4294967295) (hv : 0 ≤ va ∧ va ≤ 4294967295) :
    (∀ a ∈ (walk n b root va acc u).r, Mm.There b.length a 4) ∧ (∀ x ∈ (walk n b root va acc u).s, Mm.There b.length x.1 x.2.1) ∧ ((walk n b root va acc u).ok = true → Mm.There b.length (walk n b root va acc u).a sz) := by
  unfold walk
  split
  · unfold unt
    split
    · refine ⟨by simp, by simp, fun _ => ?_⟩
      show Mm.There b.length va sz
      unfold Mm.There
      rcases hz with rfl | rfl <;> omega
    · exact ⟨by simp, by simp, by simp⟩
  · unfold trans
    split
    · rename_i h1
      simp only [Bool.and_eq_true, decide_eq_true_eq] at h1
      obtain ⟨f1, f2⟩ := find_there (root := root) (va := va) hb hl h1.2 hr.1 ⟨hv.1, h1.1⟩
      obtain ⟨g1, g2, g3⟩ := find_rg n root va hb hr hv
      split
      · rename_i h2
        simp only [Bool.and_eq_true] at h2
        unfold wkOf
        refine ⟨f1, fun x hx => ?_, fun _ => ?_⟩
        · have hx := mem_if hx
          subst hx
          exact f2 h2.1
        · have hp : 0 ≤ pgOf (find n b root va).e va := by
            have h3 := adr_e g1
            unfold pgOf
            split
            · have := h3.1; omega
            · exact h3.1
          obtain ⟨q1, q2⟩ := page_there h2.2.1
          show Mm.There b.length (pgOf (find n b root va).e va + va % 128) sz
          unfold Mm.There
          rcases hz with rfl | rfl <;> omega
      · exact ⟨f1, by simp, by simp⟩
    · exact ⟨by simp, by simp, by simp⟩
end Tm
namespace Cm
def Ac (L : Nat) (ac : List (Int × Int × Bool)) : Prop := ∀ x ∈ ac, Mm.There L x.1 x.2.1
theorem Ac.app {L : Nat} {a b : List (Int × Int × Bool)} (h : Ac L a) (h' : Ac L b) : Ac L (a ++ b) := fun x hx => (List.mem_append.1 hx).elim (h x) (h' x)
theorem Ac.one {L : Nat} {a s : Int} (st : Bool) (h : Mm.There L a s) : Ac L [(a, s, st)] := fun x hx => by rw [List.mem_singleton.1 hx]; exact h
theorem place_there {n : Nat} {b : Wm.Bs} {root va : Int} (u : Bool) (acc : Int) {sz : Int} (hz : sz = 1 ∨ sz = 4) (hb : Wm.isBs b) (hl : b.length = n * 128) (hr : 0 ≤ root ∧ root ≤ 4294967295) (hv : 0 ≤ va ∧ va ≤ 4294967295) :
    Ac b.length (place n b root u va acc sz).c ∧ ((place n b root u va acc sz).ok = true → Mm.There b.length (place n b root u va acc sz).a sz) := by
  unfold place
  split
  · rename_i ho
    obtain ⟨w1, w2, w3⟩ := Tm.walk_there acc u hz ho hb hl hr hv
    have hA : Ac b.length (raL (Tm.walk n b root va acc u).r ++ saL (Tm.walk n b root va acc u).s) := by
      refine Ac.app (fun x hx => ?_) (fun x hx => ?_)
      · unfold raL at hx
        obtain ⟨a, ha, rfl⟩ := List.mem_map.1 hx
        exact w1 a ha
      · unfold saL at hx
        obtain ⟨a, ha, rfl⟩ := List.mem_map.1 hx
        exact w2 a ha
    unfold plOf
    split
    · rename_i hk
      exact ⟨hA, fun _ => w3 hk⟩
    · exact ⟨hA, fun h => by cases h⟩
  · exact ⟨fun x hx => by simp at hx, fun h => by cases h⟩
theorem va_rg (c : Cpu) (i : Im.I) : 0 ≤ va c i ∧ va c i ≤ 4294967295 := by unfold va; omega
theorem rws_there {n : Nat} {b : Wm.Bs} (pc : Int) {i : Im.I} {e : Eff} (hz : accS i.op = 1 ∨ accS i.op = 4) (hb : Wm.isBs b) (hl : b.length = n * 128) (hr : 0 ≤ e.c.c0 ∧ e.c.c0 ≤ 4294967295) (h : Ac b.length e.ac) :
    Ac b.length (read n b pc i e).1.ac ∧ Ac b.length (write n b pc i e).1.ac ∧ Ac b.length (swap n b pc i e).1.ac := by
  obtain ⟨p1, p2⟩ := place_there (va := va e.c i) e.c.u (accA i.op) hz hb hl hr (va_rg _ _)
  unfold read write swap
  dsimp only
  have hp : pl n b i e = place n b e.c.c0 e.c.u (va e.c i) (accA i.op) (accS i.op) := rfl
  rw [hp]
  cases ho : (place n b e.c.c0 e.c.u (va e.c i) (accA i.op) (accS i.op)).ok with
  | true =>
    have p3 := p2 ho
    rw [if_pos rfl, if_pos rfl, if_pos rfl]
    exact ⟨(h.app p1).app (Ac.one _ p3), (h.app p1).app (Ac.one _ p3), ((h.app p1).app (Ac.one _ p3)).app (Ac.one _ p3)⟩
  | false =>
    rw [if_neg (by decide), if_neg (by decide), if_neg (by decide)]
    exact ⟨h.app p1, h.app p1, h.app p1⟩
theorem inst_there {n : Nat} {b : Wm.Bs} (pc p : Int) {i : Im.I} {e : Eff} (hb : Wm.isBs b) (hl : b.length = n * 128) (hr : 0 ≤ e.c.c0 ∧ e.c.c0 ≤ 4294967295) (h : Ac b.length e.ac) : Ac b.length (inst n b pc p i e).1.ac := by
  by_cases hi : i.op = 20 ∨ i.op = 21 ∨ i.op = 22 ∨ i.op = 23 ∨ i.op = 24
  · have hz : accS i.op = 1 ∨ accS i.op = 4 := by
      rcases hi with h | h | h | h | h <;> rw [h] <;> decide
    obtain ⟨h1, h2, h3⟩ := rws_there pc hz hb hl hr h
    rcases hi with h | h | h | h | h
    · rw [inst_20 _ _ _ _ _ _ (.inl h)]; exact h1
    · rw [inst_21 _ _ _ _ _ _ (.inl h)]; exact h2
    · rw [inst_20 _ _ _ _ _ _ (.inr h)]; exact h1
    · rw [inst_21 _ _ _ _ _ _ (.inr h)]; exact h2
    · rw [inst_24 _ _ _ _ _ _ h]; exact h3
  · have : (inst n b pc p i e).1.ac = e.ac := inst_any (fun X => X.1.ac = e.ac) n b pc p i e (fun h => absurd h (by omega)) (fun h => absurd h (by omega)) (fun h => absurd h (by omega)) (fun _ _ => rfl) (fun _ => rfl) rfl rfl rfl (fun _ => rfl) (fun _ => rfl) (fun _ _ _ => rfl) (fun _ => rfl) (fun _ _ _ _ => rfl) (fun _ => rfl)
    rw [this]
    exact h
/-- All accesses of a step lie in the memory. -/
theorem run_there {n : Nat} {b : Wm.Bs} (pc p : Int) {e : Eff} (hb : Wm.isBs b) (hl : b.length = n * 128) (hr : 0 ≤ e.c.c0 ∧ e.c.c0 ≤ 4294967295) (hv : 0 ≤ e.c.pc ∧ e.c.pc ≤ 4294967295) (h : e.ac = []) : Ac b.length (run n b pc p e).ac := by
  obtain ⟨p1, p2⟩ := place_there e.c.u 4 (.inr rfl : (4 : Int) = 1 ∨ (4 : Int) = 4) hb hl hr hv
  have p3 := place_rg n e.c.c0 e.c.u e.c.pc 4 4 hb hr hv
  have hn : ∀ X : Out, Ac b.length X.1.ac → Ac b.length (next X).ac := fun X hX => by unfold next; split <;> exact hX
  unfold run
  split
  · show Ac _ e.ac
    rw [h]
    exact fun x hx => by simp at hx
  · obtain ⟨P, hP⟩ : ∃ P, P = place n b e.c.c0 e.c.u e.c.pc 4 4 := ⟨_, rfl⟩
    rw [← hP] at p1 p2 p3 ⊢
    split
    · rename_i ho
      have h4 : Ac b.length (P.c ++ [(P.a, 4, false)]) := p1.app (Ac.one _ (p2 ho))
      split
      · refine hn _ ?_
        have hl' : P.b.length = n * 128 := p3.2.2.2.1.trans hl
        have := inst_there (i := decI_S (Mm.ld P.b P.a 4)) pc p (e := goE P e) p3.2.2.1 hl' hr (by rw [p3.2.2.2.1]; exact h4)
        rw [p3.2.2.2.1] at this
        exact this
      · exact h4
    · exact p1
end Cm
end Go.Proofs.YtidhodalnikhlaaGreatDoor

/-
  PLAIN MATHEMATICS: the processor after a step, and after an answer, is valid; what a trap leaves.
-/
namespace Go.Proofs.YtidhodalnikhlaaGreatDoor
open Go.RowKit Go.ChangeShapes Go.WideShapes Go.ChangeAt

namespace Cm
def Cok (c : Cpu) : Prop := c.r0 = 0 ∧ c.c5 ≤ 7 ∧ c.c7 = 0 ∧ c.c8 < 4 ∧ 0 ≤ c.cn ∧ c.cn ≤ 1099511627776 ∧ (c.wt && c.hl) = false
theorem of_okC {c : Cpu} (h : okC c.r0 c.c5 c.c7 c.c8 c.wt c.hl c.cn = true) : Cok c := by
  unfold okC at h
  simp only [Bool.and_eq_true, decide_eq_true_eq, Bool.not_eq_true'] at h
  exact h
/-- What a trap leaves: the vector, kernel mode, interrupts off, the cause, the registers, and the mode before. -/
def Cause (x c : Cpu) (tr : Int) : Prop := c.pc = x.c1 ∧ c.u = false ∧ c.c3 = tr ∧ (∀ k, c.reg k = x.reg k) ∧ ∃ on : Bool, c.c5 = b32 on 2 + b32 x.u 4
def Good (x c : Cpu) (tr : Int) : Prop := Cok c ∧ c.cn = x.cn + 1 ∧ (0 ≤ tr ∧ tr < 4294967296) ∧ (tr ≠ 0 → Cause x c tr)
theorem legal_right {W : Int} (h : Im.Legal W) : Im.Right (decI_S W) := by
  unfold decI_S
  rw [if_pos h]
  exact Im.right_cut h
end Cm
end Go.Proofs.YtidhodalnikhlaaGreatDoor

/-
  A step and its answer: what they leave.
-/
namespace Go.Proofs.YtidhodalnikhlaaGreatDoor
open Go.RowKit Go.ChangeShapes Go.WideShapes Go.ChangeAt

namespace Cm
def Vs (ws : List (Int × Int × Int)) : Prop := ∀ x ∈ ws, 0 ≤ x.2.2 ∧ x.2.2 < 4294967296
theorem Vs.app {a b : List (Int × Int × Int)} (h : Vs a) (h' : Vs b) : Vs (a ++ b) := fun x hx => (List.mem_append.1 hx).elim (h x) (h' x)
theorem Vs.one {a s v : Int} (h : 0 ≤ v ∧ v < 4294967296) : Vs [(a, s, v)] := fun x hx => by rw [List.mem_singleton.1 hx]; exact h
theorem place_vs (n : Nat) {b : Wm.Bs} (root : Int) (u : Bool) (va acc sz : Int) (hb : Wm.isBs b) (hr : 0 ≤ root ∧ root ≤ 4294967295) (hv : 0 ≤ va ∧ va ≤ 4294967295) : Vs (place n b root u va acc sz).w := by
  obtain ⟨_, w2, _, _, _⟩ := Tm.walk_rg n root va acc u hb hr hv
  unfold place plOf
  split
  · split <;> exact fun x hx => (w2 x hx).2.2
  · exact fun x hx => by simp at hx
theorem rws_vs {n : Nat} {b : Wm.Bs} (pc : Int) {i : Im.I} (hi : Im.Right i) {e : Eff} (hb : Wm.isBs b) (hr : 0 ≤ e.c.c0 ∧ e.c.c0 ≤ 4294967295) (hv : e.c.Rv) (h : Vs e.ws) :
    (Vs (read n b pc i e).1.ws ∧ Vs (write n b pc i e).1.ws ∧ Vs (swap n b pc i e).1.ws) ∧
    ((read n b pc i e).1.ws.length ≤ e.ws.length + 2 ∧ (write n b pc i e).1.ws.length ≤ e.ws.length + 2 ∧ (swap n b pc i e).1.ws.length ≤ e.ws.length + 2) ∧
    ((read n b pc i e).1.ac.length ≤ e.ac.length + 5 ∧ (write n b pc i e).1.ac.length ≤ e.ac.length + 5 ∧ (swap n b pc i e).1.ac.length ≤ e.ac.length + 5) := by
  have ha : 0 ≤ i.a ∧ i.a < 16 := hi.2.2.1
  have hg : 0 ≤ e.c.rg i.a ∧ e.c.rg i.a < 4294967296 := hv i.a.toNat (by omega)
  have p1 := place_vs n e.c.c0 e.c.u (va e.c i) (accA i.op) (accS i.op) hb hr (va_rg _ _)
  obtain ⟨p2, p3, _⟩ := place_rg n e.c.c0 e.c.u (va e.c i) (accA i.op) (accS i.op) hb hr (va_rg _ _)
  unfold read write swap
  dsimp only
  have hp : pl n b i e = place n b e.c.c0 e.c.u (va e.c i) (accA i.op) (accS i.op) := rfl
  rw [hp]
  obtain ⟨P, hP⟩ : ∃ P, P = place n b e.c.c0 e.c.u (va e.c i) (accA i.op) (accS i.op) := ⟨_, rfl⟩
  rw [← hP] at p1 p2 p3 ⊢
  cases ho : P.ok with
  | true =>
    rw [if_pos rfl, if_pos rfl, if_pos rfl]
    refine ⟨⟨h.app p1, (h.app p1).app (Vs.one hg), (h.app p1).app (Vs.one hg)⟩, ⟨?_, ?_, ?_⟩, ?_, ?_, ?_⟩ <;> simp only [List.length_append, List.length_cons, List.length_nil] <;> omega
  | false =>
    rw [if_neg (by decide), if_neg (by decide), if_neg (by decide)]
    refine ⟨⟨h.app p1, h.app p1, h.app p1⟩, ⟨?_, ?_, ?_⟩, ?_, ?_, ?_⟩ <;> simp only [List.length_append] <;> omega
theorem inst_vs {n : Nat} {b : Wm.Bs} (pc p : Int) {i : Im.I} (hi : Im.Right i) {e : Eff} (hb : Wm.isBs b) (hr : 0 ≤ e.c.c0 ∧ e.c.c0 ≤ 4294967295) (hv : e.c.Rv) (h : Vs e.ws) :
    Vs (inst n b pc p i e).1.ws ∧ (inst n b pc p i e).1.ws.length ≤ e.ws.length + 2 ∧ (inst n b pc p i e).1.ac.length ≤ e.ac.length + 5 := by
  obtain ⟨⟨a1, a2, a3⟩, ⟨b1, b2, b3⟩, c1, c2, c3⟩ := rws_vs (n := n) pc hi hb hr hv h
  have g : ∀ e2 : Eff, e2.ws = e.ws → e2.ac = e.ac → Vs e2.ws ∧ e2.ws.length ≤ e.ws.length + 2 ∧ e2.ac.length ≤ e.ac.length + 5 := fun e2 h1 h2 => by
    rw [h1, h2]
    exact ⟨h, by omega, by omega⟩
  exact inst_any (fun X => Vs X.1.ws ∧ X.1.ws.length ≤ e.ws.length + 2 ∧ X.1.ac.length ≤ e.ac.length + 5) n b pc p i e (fun _ => ⟨a1, b1, c1⟩) (fun _ => ⟨a2, b2, c2⟩) (fun _ => ⟨a3, b3, c3⟩) (fun _ _ => g _ rfl rfl) (fun _ => g _ rfl rfl) (g _ rfl rfl) (g _ rfl rfl) (g _ rfl rfl) (fun _ => g _ rfl rfl) (fun _ => g _ rfl rfl) (fun _ _ _ => g _ rfl rfl) (fun _ => g _ rfl rfl) (fun _ _ _ _ => g _ rfl rfl) (fun _ => g _ rfl rfl)
theorem run_vs (n : Nat) {b : Wm.Bs} (pc p : Int) {e : Eff} (hb : Wm.isBs b) (hr : 0 ≤ e.c.c0 ∧ e.c.c0 ≤ 4294967295) (hv : 0 ≤ e.c.pc ∧ e.c.pc ≤ 4294967295) (hrv : e.c.Rv) (h1 : e.ac = []) (h2 : e.ws = []) :
    Vs (run n b pc p e).ws ∧ (run n b pc p e).ws.length ≤ 3 ∧ (run n b pc p e).ac.length ≤ 9 := by
  have p1 := place_vs n e.c.c0 e.c.u e.c.pc 4 4 hb hr hv
  obtain ⟨p2, p3, p4, _⟩ := place_rg n e.c.c0 e.c.u e.c.pc 4 4 hb hr hv
  have hn : ∀ X : Out, Vs X.1.ws ∧ X.1.ws.length ≤ 3 ∧ X.1.ac.length ≤ 9 → Vs (next X).ws ∧ (next X).ws.length ≤ 3 ∧ (next X).ac.length ≤ 9 := fun X hX => by unfold next; split <;> exact hX
  unfold run
  split
  · show Vs e.ws ∧ e.ws.length ≤ 3 ∧ e.ac.length ≤ 9
    rw [h1, h2]
    exact ⟨fun x hx => by simp at hx, by simp, by simp⟩
  · obtain ⟨P, hP⟩ : ∃ P, P = place n b e.c.c0 e.c.u e.c.pc 4 4 := ⟨_, rfl⟩
    rw [← hP] at p1 p2 p3 p4 ⊢
    have q3 : (P.c ++ [(P.a, (4 : Int), false)]).length ≤ 4 := by rw [List.length_append]; simp only [List.length_cons, List.length_nil]; omega
    split
    · split
      · rename_i hm
        have hlg : Im.Legal (Mm.ld P.b P.a 4) := by
          unfold may at hm
          rw [Bool.and_eq_true] at hm
          exact of_decide_eq_true hm.1
        refine hn _ ?_
        obtain ⟨i1, i2, i3⟩ := inst_vs (n := n) pc p (legal_right hlg) (e := goE P e) p4 hr hrv p1
        refine ⟨i1, Nat.le_trans i2 ?_, Nat.le_trans i3 ?_⟩
        · show P.w.length + 2 ≤ 3
          omega
        · show (P.c ++ [(P.a, (4 : Int), false)]).length + 5 ≤ 9
          omega
      · exact ⟨p1, by show P.w.length ≤ 3; omega, by show (P.c ++ [(P.a, (4 : Int), false)]).length ≤ 9; omega⟩
    · exact ⟨p1, by show P.w.length ≤ 3; omega, by show P.c.length ≤ 9; omega⟩
end Cm
end Go.Proofs.YtidhodalnikhlaaGreatDoor

/-
  A step and its answer: what they leave.
-/
namespace Go.Proofs.YtidhodalnikhlaaGreatDoor
open Go.RowKit Go.ChangeShapes Go.WideShapes Go.ChangeAt

/-- An effect that has been answered. -/
def Kv (x : Cpu) (b : Wm.Bs) (w : World) (e : Ending) (w' : World) : Prop :=
  ∃ (s : Sp) (AW AA : Option Addr) (cw ca : Nat) (ws : List (Int × Int × Int)) (ac : List (Int × Int × Bool)), e = .returned (.agg s.eff.toArray) ∧ s.wv = .slice AW ws.length cw ∧ s.av = .slice AA ac.length ca ∧ Sl w' 3 AW ws.length (Ws ws) ∧ Sl w' 3 AA ac.length (Acs ac) ∧
    s.dn = true ∧ s.ak = false ∧ s.old = x ∧ Cm.Good x s.ec s.tr ∧ (Cm.sts ac = Cm.wts ws ∧ Cm.Ac b.length ac ∧ (∃ c, Mm.ap b ws = some c) ∧ Cm.Vs ws ∧ ws.length ≤ 3 ∧ ac.length ≤ 9) ∧ Later w w'
/-- A step's effect, not answered yet. -/
def Ks (x : Cpu) (b : Wm.Bs) (w : World) (e : Ending) (w' : World) : Prop :=
  ∃ (s : Sp) (AW AA : Option Addr) (cw ca : Nat) (ws : List (Int × Int × Int)) (ac : List (Int × Int × Bool)), e = .returned (.agg s.eff.toArray) ∧ (s.wv = .slice AW ws.length cw ∧ s.av = .slice AA ac.length ca ∧ Sl w' 3 AW ws.length (Ws ws) ∧ Sl w' 3 AA ac.length (Acs ac)) ∧
    (s.dn = true ∧ s.old = x ∧ Cm.Good x s.ec s.tr ∧ (s.ak = true → s.tr = 0 ∧ s.ec = { ({ x with cn := x.cn + 1, wt := false } : Cpu) with pc := (x.pc + 4) % 4294967296 } ∧ Im.Right (decI_S s.wd) ∧ (0 ≤ s.wd ∧ s.wd < 4294967296))) ∧ (Cm.sts ac = Cm.wts ws ∧ Cm.Ac b.length ac ∧ (∃ c, Mm.ap b ws = some c) ∧ Cm.Vs ws ∧ ws.length ≤ 3 ∧ ac.length ≤ 9) ∧ Later w w'
end Go.Proofs.YtidhodalnikhlaaGreatDoor

/-
  Accesses as they lie in memory; stores among them.
-/
namespace Go.Proofs.YtidhodalnikhlaaGreatDoor
open Go.RowKit Go.ChangeShapes Go.WideShapes Go.ChangeAt

theorem Acs_at (l : List (Int × Int × Bool)) : ∀ (k : Nat) (hk : k < l.length) (j : Nat), j < 3 → (Acs l)[k * 3 + j]? = [Value.int .i64 l[k].1, .int .i64 l[k].2.1, .bool l[k].2.2][j]? := by
  induction l with
  | nil => intro k hk; simp at hk
  | cons a l ih =>
    intro k hk j hj
    have e : Acs (a :: l) = [Value.int .i64 a.1, .int .i64 a.2.1, .bool a.2.2] ++ Acs l := by unfold Acs; rfl
    rw [e]
    match k, hk with
    | 0, hk =>
      rw [List.getElem?_append_left (by simp; omega), Nat.zero_mul, Nat.zero_add]
      rfl
    | k + 1, hk =>
      rw [List.getElem?_append_right (by simp; omega)]
      have h2 : (k + 1) * 3 + j - [Value.int .i64 a.1, .int .i64 a.2.1, .bool a.2.2].length = k * 3 + j := by simp; omega
      rw [h2, ih k (by simpa using hk) j hj]
      rfl
theorem Sl.acc {w : World} {m : Nat} {ad : Addr} {L : List (Int × Int × Bool)} (h : Sl w 3 (some ad) m (Acs L)) {k : Nat} (hk : k < L.length) (hm : L.length = m) :
    ∀ j u, [Value.int .i64 L[k].1, .int .i64 L[k].2.1, .bool L[k].2.2][j]? = some u → w.cell? ((ad.add (k * 3)).add j) = some u := by
  intro j u hu
  obtain ⟨_, e, _, hc⟩ := h.2 (by omega)
  cases e
  rw [addr_add_add]
  apply hc
  have hj : j < 3 := by
    rcases Nat.lt_or_ge j 3 with h | h
    · exact h
    · rw [List.getElem?_eq_none (by simpa using h)] at hu; cases hu
  rw [Acs_at L k hk j hj]
  exact hu
theorem ad_add0 (a : Addr) : a.add 0 = a := by unfold Addr.add; simp
theorem ad_add1 (a : Addr) : a.add 1 = ⟨a.block, a.off + 1, none⟩ := by unfold Addr.add; simp
namespace Cm
end Cm
end Go.Proofs.YtidhodalnikhlaaGreatDoor
