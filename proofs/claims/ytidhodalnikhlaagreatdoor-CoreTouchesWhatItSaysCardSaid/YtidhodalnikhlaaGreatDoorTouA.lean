/-
  A STEP, whether ready or not, by its result alone; booleans in a row; bytes in a row.
-/
import Derived.Test.YtidhodalnikhlaaGreatDoorTouS
namespace Go.Proofs.YtidhodalnikhlaaGreatDoor
open Go.RowKit Go.ChangeShapes Go.WideShapes Go.ChangeAt

def Sp.res (s : Sp) (ws : List (Int × Int × Int)) (ac : List (Int × Int × Bool)) : Bool × Cpu × Cm.Eff := (s.dn, s.old, ⟨s.ec, s.wd, ws, ac, s.ak, s.ii, s.ip, s.iv, s.fl, s.fa, s.tr⟩)
def eff0 (x : Cpu) : Cm.Eff := ⟨{ x with cn := x.cn + 1, wt := false }, 0, [], [], false, false, 0, 0, 0, 0, 0⟩
/-- What a step comes to. -/
def stepR (x : Cpu) (n : Nat) (b : Wm.Bs) (p : Int) : Bool × Cpu × Cm.Eff := if rdy x.hl x.wt p = true then (true, x, Cm.run n b x.pc p (eff0 x)) else (false, zC, ⟨x, 0, [], [], false, false, 0, 0, 0, 0, 0⟩)
def Kt (x : Cpu) (n : Nat) (b : Wm.Bs) (p : Int) (w : World) (e : Ending) (w' : World) : Prop :=
  ∃ (s : Sp) (AW AA : Option Addr) (cw ca : Nat) (ws : List (Int × Int × Int)) (ac : List (Int × Int × Bool)), e = .returned (.agg s.eff.toArray) ∧ (s.wv = .slice AW ws.length cw ∧ s.av = .slice AA ac.length ca ∧ Sl w' 3 AW ws.length (Ws ws) ∧ Sl w' 3 AA ac.length (Acs ac)) ∧
    s.res ws ac = stepR x n b p ∧ (Cm.Ac b.length ac ∧ ws.length ≤ 3 ∧ ac.length ≤ 9) ∧ Later w w'
theorem kt_step (x : Cpu) (A : Option Addr) (n c : Nat) (b : Wm.Bs) (p : Int) (w : World) (hs : Sl w 128 A n (U b)) (hb : Wm.isBs b) (hbl : b.length = n * 128) (hn1 : 1 ≤ n) (hn : n ≤ 64) (rv : x.Rv) (c0 : 0 ≤ x.c0 ∧ x.c0 ≤ 4294967295) (hpc : 0 ≤ x.pc ∧ x.pc ≤ 4294967295) (c5 : Tm.isE x.c5) (hp : Tm.isE p) (hcn : 0 ≤ x.cn ∧ x.cn < 1099511627776) (tab : Tab w) :
    Calls Tryz.prog 13 #[.agg x.cells.toArray, .agg #[.slice A n c], .int .u32 p] w (Kt x n b p w) := by
  cases hr : rdy x.hl x.wt p with
  | true =>
    refine (step_yes x A n c b p w hs hb hn1 hn rv c0 hpc c5 hp ⟨hcn.1, by omega⟩ tab (Nat.lt_of_le_of_lt (Nat.zero_le _) tab.lt) hr).mono ?_
    rintro e w' ⟨s2, ws2, ac2, rfl, ho, hd, hl, k1, k2, l⟩
    have ho2 : s2.out ws2 ac2 = Cm.run n b x.pc p (eff0 x) := ho
    have g4 := Cm.run_there (n := n) (b := b) x.pc p (e := eff0 x) hb hbl c0 hpc rfl
    have g6 := Cm.run_vs n (b := b) x.pc p (e := eff0 x) hb c0 hpc rv rfl rfl
    rw [← ho2] at g4 g6
    obtain ⟨AW, cw, e1, w1, _⟩ := own4Z k1
    obtain ⟨AA, ca, e2, w2, _⟩ := own4Z k2
    refine ⟨{ s2 with ec := s2.c }, AW, AA, cw, ca, ws2, ac2, rfl, ⟨e1, e2, w1, w2⟩, ?_, ⟨g4, g6.2.1, g6.2.2⟩, l⟩
    unfold stepR
    rw [if_pos hr, ← ho2, ← hd]
    show (s2.dn, s2.old, _) = _
    rw [hl]
    rfl
  | false =>
    refine (step_not x A n c p w hp hr).mono ?_
    rintro e w' ⟨rfl, l⟩
    refine ⟨{ zS with ec := x }, none, none, 0, 0, [], [], rfl, ⟨rfl, rfl, Sl.nil _ _ _, Sl.nil _ _ _⟩, ?_, ⟨fun x hx => by simp at hx, by decide, by decide⟩, l⟩
    unfold stepR
    rw [if_neg (by rw [hr]; decide)]
    rfl
theorem stepR_dep {S : Nat → Prop} (x : Cpu) (n : Nat) {b b' : Wm.Bs} (p : Int) (h : AgrS S b b') (hc : Cov S (stepR x n b p).2.2.ac) : stepR x n b' p = stepR x n b p := by
  unfold stepR at hc ⊢
  split
  · rename_i g
    rw [if_pos g] at hc
    rw [Cm.run_dep h hc]
  · rfl
theorem res_same {s s' : Sp} {ws ws' : List (Int × Int × Int)} {ac ac' : List (Int × Int × Bool)} (h : s'.res ws' ac' = s.res ws ac) : ws' = ws ∧ ac' = ac ∧ s'.eff = (s.wv2 s'.wv s'.av).eff := by
  unfold Sp.res at h
  simp only [Prod.mk.injEq, Cm.Eff.mk.injEq] at h
  obtain ⟨h1, h2, h3, h4, h5, h6, h7, h8, h9, h10, h11, h12, h13⟩ := h
  refine ⟨h5, h6, ?_⟩
  unfold Sp.eff Sp.wv2
  simp only [h1, h2, h3, h4, h7, h8, h9, h10, h11, h12, h13]
/-- Booleans as cells. -/
def KV (l : List Bool) : List Value := l.map Value.bool
theorem KV_len (l : List Bool) : (KV l).length = l.length := List.length_map ..
theorem KV_set (l : List Bool) (k : Nat) : (KV l).set k (.bool true) = KV (l.set k true) := by unfold KV; rw [List.map_set]
theorem KV_at {l : List Bool} {k : Nat} (h : k < l.length) : (KV l)[k]? = some (.bool l[k]) := by unfold KV; rw [List.getElem?_map, List.getElem?_eq_getElem h]; rfl
theorem bool_infoT : (Tryz.prog.info? 4).map (fun i => (i.zero, i.size, i.bytes)) = some (some (.bool false), 1, 1) := by kernel_rfl
theorem make_bools (r : Nat) : madeCells (Value.bool false).cells (r * 1) = (KV (List.replicate r false)).toArray := by
  apply Array.ext'
  apply List.ext_getElem?
  intro i
  unfold KV
  rw [List.map_replicate]
  show (madeCells #[Value.bool false] (r * 1)).toList[i]? = _
  unfold madeCells
  rw [Nat.mul_one]
  rcases Nat.lt_or_ge i r with h | h
  · simp [h, Nat.mod_one]
  · simp [h]
theorem boolT_sz : (Tryz.prog.info? 4).map (·.size) = some 1 := by kernel_rfl
theorem u8T_sz : (Tryz.prog.info? 5).map (·.size) = some 1 := by kernel_rfl
theorem set_row (b : Wm.Bs) (rest : List Value) (k : Nat) (v : Int) (h : k < b.length) : (U b ++ rest).set k (.int .u8 v) = U (b.set k v) ++ rest := by
  rw [List.set_append_left _ _ (by rw [U_length]; exact h)]
  unfold U
  rw [List.map_set]
theorem Sl.row {w : World} {g n : Nat} {t : TypeId} {b : Wm.Bs} {rest : List Value} (h : Blk w g t (U b ++ rest)) (hl : b.length = n * 128) : Sl w 128 (some ⟨g, 0, none⟩) n (U b) := by
  refine ⟨by rw [U_length]; exact hl, fun _ => ⟨_, rfl, h.lt, fun j u hu => ?_⟩⟩
  have hj : j < (U b).length := by
    rcases Nat.lt_or_ge j (U b).length with g1 | g1
    · exact g1
    · rw [List.getElem?_eq_none g1] at hu; cases hu
  have h2 := h.cell (j := j) (v := u) (by rw [List.getElem?_append_left hj]; exact hu)
  rw [Addr.add_mid]
  simpa using h2
theorem agr_set {S : Nat → Prop} {b b' : Wm.Bs} (h : AgrS S b b') {k : Nat} (v : Int) (hk : ¬ S k) : AgrS S b (b'.set k v) := by
  refine ⟨by rw [List.length_set]; exact h.1, fun j hj => ?_⟩
  rw [List.getElem?_set, h.2 j hj]
  split
  · rename_i e
    subst e
    exact absurd hj hk
  · rfl
theorem bs_set {b : Wm.Bs} (h : Wm.isBs b) (k : Nat) {v : Int} (hv : 0 ≤ v ∧ v < 256) : Wm.isBs (b.set k v) := fun x hx => by
  rcases List.mem_or_eq_of_mem_set hx with h1 | h1
  · exact h x h1
  · rw [h1]; exact hv
/-- What has been touched is kept. -/
def KS (l : List Bool) (k : Nat) : Prop := l[k]? = some true
theorem KS.set {l : List Bool} {k : Nat} (j : Nat) (h : KS l k) : KS (l.set j true) k := by
  unfold KS at h ⊢
  rw [List.getElem?_set]
  split
  · rename_i e
    subst e
    have hk : j < l.length := by
      rcases Nat.lt_or_ge j l.length with g | g
      · exact g
      · rw [List.getElem?_eq_none g] at h; cases h
    rw [if_pos hk]
  · exact h
theorem KS.at_ {l : List Bool} {k : Nat} (h : k < l.length) : KS (l.set k true) k := by
  unfold KS
  rw [List.getElem?_set_self h]
theorem Cov.set {l : List Bool} {ac : List (Int × Int × Bool)} (j : Nat) (h : Cov (KS l) ac) : Cov (KS (l.set j true)) ac := fun x hx k h1 h2 => (h x hx k h1 h2).set j
theorem CovA.set {l : List Bool} {a s : Int} (j : Nat) (h : CovA (KS l) a s) : CovA (KS (l.set j true)) a s := fun k h1 h2 => (h k h1 h2).set j
theorem CovA.none {S : Nat → Prop} (a : Int) : CovA S a 0 := fun k h1 h2 => by omega
theorem CovA.next {l : List Bool} {a : Int} {s k : Nat} (hk : (k : Int) = a + s) (hl : k < l.length) (h : CovA (KS l) a s) : CovA (KS (l.set k true)) a ((s + 1 : Nat) : Int) := fun j h1 h2 => by
  by_cases e : j = k
  · subst e; exact KS.at_ hl
  · exact (h j h1 (by omega)).set k
theorem Cov.snoc {S : Nat → Prop} {ac : List (Int × Int × Bool)} {k : Nat} (hk : k < ac.length) (h : Cov S (ac.take k)) (h2 : CovA S ac[k].1 ac[k].2.1) : Cov S (ac.take (k + 1)) := fun x hx => by
  rw [List.take_succ_eq_append_getElem hk] at hx
  rcases List.mem_append.1 hx with hx | hx
  · exact h x hx
  · rw [List.mem_singleton.1 hx]; exact h2
end Go.Proofs.YtidhodalnikhlaaGreatDoor
