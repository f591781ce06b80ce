/-
  PLAIN MATHEMATICS: the pairs that are hashed on the way to a root: two ways from different leaves to one root meet in a pair.
-/
import Derived.Test.YtonfdgbohmcpjabDoorGr
import Derived.Test.YtonfdgbohmcpjabDoorGs
namespace Go.Proofs.YtonfdgbohmcpjabDoor.Mk

/-- The turns of a climb, the lowest first. -/
def trn (i n : Nat) : List Bool :=
  if _h : 2 ≤ n then (if i < sp n then trn i (sp n) ++ [false] else trn (i - sp n) (n - sp n) ++ [true]) else []
termination_by n
decreasing_by
  all_goals first | exact sp_lt _h | (have := sp_pos n; omega)
theorem trn_small (i n : Nat) (h : ¬ 2 ≤ n) : trn i n = [] := by rw [trn, dif_neg h]
theorem trn_left (i n : Nat) (h : 2 ≤ n) (hi : i < sp n) : trn i n = trn i (sp n) ++ [false] := by
  conv => lhs; rw [trn]
  rw [dif_pos h, if_pos hi]
theorem trn_right (i n : Nat) (h : 2 ≤ n) (hi : ¬ i < sp n) : trn i n = trn (i - sp n) (n - sp n) ++ [true] := by
  conv => lhs; rw [trn]
  rw [dif_pos h, if_neg hi]
theorem trn_len (N : Nat) : ∀ i n, n ≤ N → (trn i n).length = dep i n := by
  induction N with
  | zero => intro i n h; rw [trn_small _ _ (by omega), dep_small _ _ (by omega)]; rfl
  | succ N ih =>
    intro i n h
    by_cases h2 : 2 ≤ n
    · have a1 := sp_lt h2
      have a0 := sp_pos n
      by_cases hi : i < sp n
      · rw [trn_left _ _ h2 hi, dep_left _ _ h2 hi, List.length_append, List.length_singleton, ih _ _ (by omega)]
      · rw [trn_right _ _ h2 hi, dep_right _ _ h2 hi, List.length_append, List.length_singleton, ih _ _ (by omega)]
    · rw [trn_small _ _ h2, dep_small _ _ h2]; rfl
theorem dep_le (N : Nat) : ∀ i n, n ≤ N → dep i n ≤ n := by
  induction N with
  | zero => intro i n h; rw [dep_small _ _ (by omega)]; omega
  | succ N ih =>
    intro i n h
    by_cases h2 : 2 ≤ n
    · have a1 := sp_lt h2
      have a0 := sp_pos n
      by_cases hi : i < sp n
      · rw [dep_left _ _ h2 hi]; have := ih i (sp n) (by omega); omega
      · rw [dep_right _ _ h2 hi]; have := ih (i - sp n) (n - sp n) (by omega); omega
    · rw [dep_small _ _ h2]; omega

section
variable {D : Type} (node : D → D → D) (z : D)
def pr (t : Bool) (d x : D) : D × D := if t then (x, d) else (d, x)
def stp (d : D) : List Bool → List D → List (D × D)
  | t :: ts, p :: ps => pr t d p :: stp (node (pr t d p).1 (pr t d p).2) ts ps
  | _, _ => []
def fin (d : D) : List Bool → List D → D
  | t :: ts, p :: ps => fin (node (pr t d p).1 (pr t d p).2) ts ps
  | _, _ => d
theorem stp_none (d : D) {ts : List Bool} {ps : List D} (h : ts = [] ∨ ps = []) : stp node d ts ps = [] := by
  rcases h with rfl | rfl
  · cases ps <;> rfl
  · cases ts <;> rfl
theorem stp_at (d : D) {ts : List Bool} {ps : List D} {k : Nat} (h1 : k < ts.length) (h2 : k < ps.length) :
    stp node d (ts.drop k) (ps.drop k) = pr ts[k] d ps[k] :: stp node (node (pr ts[k] d ps[k]).1 (pr ts[k] d ps[k]).2) (ts.drop (k + 1)) (ps.drop (k + 1)) := by
  rw [List.drop_eq_getElem_cons h1, List.drop_eq_getElem_cons h2]; rfl
theorem fin_snoc : ∀ (ts : List Bool) (ps : List D) (d : D) (t : Bool) (x : D), ps.length = ts.length → fin node d (ts ++ [t]) (ps ++ [x]) = node (pr t (fin node d ts ps) x).1 (pr t (fin node d ts ps) x).2
  | [], [], _, _, _, _ => rfl
  | [], _ :: _, _, _, _, h => by simp at h
  | _ :: _, [], _, _, _, h => by simp at h
  | s :: ts, p :: ps, d, t, x, h => by
    simp only [List.cons_append, fin]
    exact fin_snoc ts ps _ t x (by simpa using h)
theorem rcl_fin (leaf : D) (N : Nat) : ∀ (i n : Nat) (p : List D), n ≤ N → p.length = dep i n → (rcl node z leaf i n p).1 = fin node leaf (trn i n) p := by
  induction N with
  | zero =>
    intro i n p h hp
    rw [rcl_small _ _ _ _ _ _ (by omega), trn_small _ _ (by omega)]
    cases p <;> rfl
  | succ N ih =>
    intro i n p h hp
    by_cases h2 : 2 ≤ n
    · have a1 := sp_lt h2
      have a0 := sp_pos n
      by_cases hi : i < sp n
      · rw [dep_left _ _ h2 hi] at hp
        obtain ⟨q, x, rfl, hq⟩ := snoc_of hp
        rw [rcl_left _ _ _ _ _ _ _ h2 hi, trn_left _ _ h2 hi, fin_snoc _ _ _ _ _ _ (by rw [hq, trn_len _ _ _ (Nat.le_refl _)]), ih _ _ _ (by omega) hq]; rfl
      · rw [dep_right _ _ h2 hi] at hp
        obtain ⟨q, x, rfl, hq⟩ := snoc_of hp
        rw [rcl_right _ _ _ _ _ _ _ h2 hi, trn_right _ _ h2 hi, fin_snoc _ _ _ _ _ _ (by rw [hq, trn_len _ _ _ (Nat.le_refl _)]), ih _ _ _ (by omega) hq]; rfl
    · rw [rcl_small _ _ _ _ _ _ h2, trn_small _ _ h2]
      cases p <;> rfl
theorem stp_len : ∀ (ts : List Bool) (ps : List D) (d : D), ps.length = ts.length → (stp node d ts ps).length = ts.length
  | [], [], _, _ => rfl
  | [], _ :: _, _, h => by simp at h
  | _ :: _, [], _, h => by simp at h
  | t :: ts, p :: ps, d, h => by
    simp only [stp, List.length_cons]
    rw [stp_len ts ps _ (by simpa using h)]
theorem stp_all (Q : D → Prop) (hn : ∀ a b, Q (node a b)) : ∀ (ts : List Bool) (ps : List D) (d : D), Q d → (∀ p ∈ ps, Q p) → ∀ x ∈ stp node d ts ps, Q x.1 ∧ Q x.2
  | [], ps, d, _, _, x, hx => by rw [stp_none node d (.inl rfl)] at hx; cases hx
  | _ :: _, [], d, _, _, x, hx => by rw [stp_none node d (.inr rfl)] at hx; cases hx
  | t :: ts, p :: ps, d, hd, hp, x, hx => by
    rcases List.mem_cons.1 hx with rfl | hx
    · unfold pr
      cases t
      · exact ⟨hd, hp p List.mem_cons_self⟩
      · exact ⟨hp p List.mem_cons_self, hd⟩
    · exact stp_all Q hn ts ps _ (hn _ _) (fun q hq => hp q (List.mem_cons_of_mem _ hq)) x hx
/-- Two ways with the same turns, from different digests to the same: somewhere two different pairs have the same node. -/
theorem meet : ∀ (ts : List Bool) (ps qs : List D) (d e : D), ps.length = ts.length → qs.length = ts.length → d ≠ e → fin node d ts ps = fin node e ts qs →
    ∃ (j : Nat) (x y : D × D), (stp node d ts ps)[j]? = some x ∧ (stp node e ts qs)[j]? = some y ∧ x ≠ y ∧ node x.1 x.2 = node y.1 y.2
  | [], [], [], d, e, _, _, hne, h => absurd h hne
  | [], _ :: _, _, _, _, h, _, _, _ => by simp at h
  | [], [], _ :: _, _, _, _, h, _, _ => by simp at h
  | _ :: _, [], _, _, _, h, _, _, _ => by simp at h
  | _ :: _, _ :: _, [], _, _, _, h, _, _ => by simp at h
  | t :: ts, p :: ps, q :: qs, d, e, h1, h2, hne, h => by
    have hp : pr t d p ≠ pr t e q := fun he => hne (by
      unfold pr at he
      cases t
      · exact congrArg Prod.fst he
      · exact congrArg Prod.snd he)
    by_cases hn : node (pr t d p).1 (pr t d p).2 = node (pr t e q).1 (pr t e q).2
    · exact ⟨0, _, _, rfl, rfl, hp, hn⟩
    · obtain ⟨j, x, y, a1, a2, a3, a4⟩ := meet ts ps qs _ _ (by simpa using h1) (by simpa using h2) hn h
      exact ⟨j + 1, x, y, a1, a2, a3, a4⟩
end
end Go.Proofs.YtonfdgbohmcpjabDoor.Mk

/-
  THE WALK OF steps: the pairs that are hashed on the way to a root.
-/
namespace Go.Proofs.YtonfdgbohmcpjabDoor
open Go.RowKit Go.ChangeShapes Go.WideShapes Go.ChangeAt

theorem Blk.two0 {w : World} {B : Nat} {t : TypeId} {a b : Wm.Bs} (h : Blk w B t (U (a ++ b))) (ha : a.length = 16) : w.rangeAt B 0 (U a) := by
  have h1 := h.range 0 16
  rwa [List.drop_zero, U_append, List.take_append_of_le_length (by rw [U_length, ha]; exact Nat.le_refl _), List.take_of_length_le (by rw [U_length, ha]; exact Nat.le_refl _)] at h1
theorem Blk.two1 {w : World} {B : Nat} {t : TypeId} {a b : Wm.Bs} (h : Blk w B t (U (a ++ b))) (ha : a.length = 16) (hb : b.length = 16) : w.rangeAt B 16 (U b) := by
  have h1 := h.range 16 16
  rwa [U_append, List.drop_append_of_le_length (by rw [U_length, ha]; exact Nat.le_refl _), List.drop_eq_nil_of_le (by rw [U_length, ha]; exact Nat.le_refl _), List.nil_append, List.take_of_length_le (by rw [U_length, hb]; exact Nat.le_refl _)] at h1
def P2 (x : Wm.Bs × Wm.Bs) : Wm.Bs := x.1 ++ x.2
def Prs (l : List (Wm.Bs × Wm.Bs)) : List Value := U (l.map P2).flatten
theorem Prs_snoc (l : List (Wm.Bs × Wm.Bs)) (x : Wm.Bs × Wm.Bs) : Prs (l ++ [x]) = Prs l ++ U (P2 x) := by
  unfold Prs; rw [List.map_append, List.flatten_append, U_append]; simp
def isP (x : Wm.Bs × Wm.Bs) : Prop := (x.1.length = 16 ∧ Wm.isBs x.1) ∧ (x.2.length = 16 ∧ Wm.isBs x.2)
theorem P2_len {x : Wm.Bs × Wm.Bs} (h : isP x) : (P2 x).length = 32 := by unfold P2; rw [List.length_append, h.1.1, h.2.1]
theorem p2_sz {b : Wm.Bs} (h : b.length = 32) : (Tryd.prog.info? 62).map (·.size) = some (U b).length := by rw [U_length, h]; kernel_rfl
theorem built_p216 (a0 a1 a2 a3 a4 a5 a6 a7 a8 a9 a10 a11 a12 a13 a14 a15 b0 b1 b2 b3 b4 b5 b6 b7 b8 b9 b10 b11 b12 b13 b14 b15 : Int) : Tryd.prog.built 62 [(0, .agg (U [a0, a1, a2, a3, a4, a5, a6, a7, a8, a9, a10, a11, a12, a13, a14, a15]).toArray), (1, .agg (U [b0, b1, b2, b3, b4, b5, b6, b7, b8, b9, b10, b11, b12, b13, b14, b15]).toArray)] = some (U ([a0, a1, a2, a3, a4, a5, a6, a7, a8, a9, a10, a11, a12, a13, a14, a15] ++ [b0, b1, b2, b3, b4, b5, b6, b7, b8, b9, b10, b11, b12, b13, b14, b15])).toArray := by kernel_rfl
theorem built_p2 {a b : Wm.Bs} (ha : a.length = 16) (hb : b.length = 16) : Tryd.prog.built 62 [(0, .agg (U a).toArray), (1, .agg (U b).toArray)] = some (U (a ++ b)).toArray := by
  match a, ha, b, hb with
  | [a0, a1, a2, a3, a4, a5, a6, a7, a8, a9, a10, a11, a12, a13, a14, a15], _, [b0, b1, b2, b3, b4, b5, b6, b7, b8, b9, b10, b11, b12, b13, b14, b15], _ => exact built_p216 a0 a1 a2 a3 a4 a5 a6 a7 a8 a9 a10 a11 a12 a13 a14 a15 b0 b1 b2 b3 b4 b5 b6 b7 b8 b9 b10 b11 b12 b13 b14 b15
theorem run_p2 {a b : Wm.Bs} (ha : a.length = 16) (hb : b.length = 16) (w : World) : (Instr.build 62 #[(0, .agg (U a).toArray), (1, .agg (U b).toArray)]).run Tryd.prog w = .ok (.agg (U (a ++ b)).toArray) w := run_build w _ _ _ (built_p2 ha hb)
theorem yieldsIf_p2 {ops : Array Oper} {S : World → Prop} {op : Oper} {ac : Act} {a b : Wm.Bs} (ha : a.length = 16) (hb : b.length = 16) (hw : Region.wanted op (yielded ops ac.tmps) = true) (x y : Operand) (ho : op.op = .build 62 #[(0, x), (1, y)]) (hx : ac.eval x = .agg (U a).toArray) (hy : ac.eval y = .agg (U b).toArray) :
    YieldsIf Tryd.prog ops S op (.agg (U (a ++ b)).toArray) ac :=
  .inl ⟨hw, fun w _ => by
    unfold execOp
    simp only [ho, List.map_toArray, List.map_cons, List.map_nil, hx, hy, Sem.run_bind, Sem.run_pure, run_p2 ha hb, Result.andThen_ok]⟩
structure P2I (i : TypeInfo) (z : Value) : Prop where
  hi : Tryd.prog.info? 62 = some i
  hz : i.zero = some z
  hc : z.cells.size = 32
  hs : i.size = 32
  hb : i.bytes = 32
theorem p2I : ∃ i z, P2I i z := by
  have h : (Tryd.prog.info? 62).map (fun i => (i.zero.map (·.cells.size), i.size, i.bytes)) = some (some 32, 32, 32) := by kernel_rfl
  cases e : Tryd.prog.info? 62 with
  | none => rw [e] at h; cases h
  | some i =>
    rw [e] at h
    simp only [Option.map_some, Option.some.injEq, Prod.mk.injEq] at h
    cases e2 : i.zero with
    | none => rw [e2] at h; cases h.1
    | some z =>
      rw [e2] at h
      exact ⟨i, z, e, e2, Option.some.inj h.1, h.2.1, h.2.2⟩
theorem own_only {w w' : World} {base B : Nat} {e : TypeId} {size n : Nat} {v : Value} {xs : List Value} (h : w.ownsRow base e size v n xs) (k : Only B w w') (hne : ∀ g, v.ownBlock = some g → g ≠ B) : w'.ownsRow base e size v n xs :=
  h.kept (row := some B) ⟨k.1, k.2.1, k.2.2.1, Nat.le_of_eq k.size.symm, fun j _ hj => k.2.2.2.2 j (fun e => hj (by rw [e]))⟩ (by
    cases e : v.ownBlock with
    | none => exact .inl rfl
    | some g => exact .inr (fun h => hne g e (Option.some.inj h)))
theorem sl_below {w w' : World} {base size n : Nat} {A : Option Addr} {xs : List Value} (h : Sl w size A n xs) (k : Below base w w') (hlt : 0 < n → ∀ ad, A = some ad → ad.block < base) : Sl w' size A n xs :=
  ⟨h.1, fun hn => by
    obtain ⟨ad, e, hl, hc⟩ := h.2 hn
    refine ⟨ad, e, Nat.lt_of_lt_of_le hl k.size, fun j u hu => ?_⟩
    rw [k.cell (by rw [addr_add_block]; exact hlt hn ad e)]
    exact hc j u hu⟩
structure BoI (i : TypeInfo) : Prop where
  hi : Tryd.prog.info? 4 = some i
  hz : i.zero = some (.bool false)
  hs : i.size = 1
  hb : i.bytes = 1
theorem boI : ∃ i, BoI i := by
  have h : (Tryd.prog.info? 4).map (fun i => (i.zero, i.size, i.bytes)) = some (some (.bool false), 1, 1) := by kernel_rfl
  cases e : Tryd.prog.info? 4 with
  | none => rw [e] at h; cases h
  | some i =>
    rw [e] at h
    simp only [Option.map_some, Option.some.injEq, Prod.mk.injEq] at h
    exact ⟨i, e, h.1, h.2.1, h.2.2⟩
def Bv (l : List Bool) : List Value := l.map Value.bool
theorem Bv_one (l : List Bool) : ∀ u ∈ Bv l, u.oneCell' = true := fun u hu => by
  unfold Bv at hu
  obtain ⟨b, _, rfl⟩ := List.mem_map.1 hu; rfl

set_option maxRecDepth 100000 in
set_option maxHeartbeats 4000000 in
theorem steps_any (leaf : Wm.Bs) (i n : Nat) (A : Option Addr) (k c : Nat) (l : List Wm.Bs) (w : World) (hin : i < n) (hn : n ≤ 1099511627776) (hdl : leaf.length = 16 ∧ Wm.isBs leaf)
    (hs : Sl w 16 A k (Ds l)) (hl : isD l) (hk60 : k ≤ 60) (tab : Tab w) :
    Calls Tryd.prog 31 #[.agg (U leaf).toArray, .int .i64 i, .int .i64 n, .slice A k c] w fun e w' => ∃ A' m c', e = .returned (.slice A' m c') ∧ m = (Mk.stp nodeD leaf (Mk.trn i n) l).length ∧ Sl w' 32 A' m (Prs (Mk.stp nodeD leaf (Mk.trn i n) l)) ∧ m ≤ c' ∧ Later w w' := by
  have hll := hs.dlen hl
  have TB := Lib.hid tab; have HS := Lib.hid hs; have HL := Lib.hid hl; have HLL := Lib.hid hll; have HDL := Lib.hid hdl
  obtain ⟨TT, hTT⟩ : ∃ TT, TT = Mk.trn i n := ⟨_, rfl⟩
  have HTT := Lib.hid hTT
  rw [← hTT]
  clear hTT
  obtain ⟨i1, hI1⟩ := boI
  have HI1 := Lib.hid hI1
  obtain ⟨i2, z2, hI2⟩ := p2I
  have HI2 := Lib.hid hI2
  obtain ⟨X0, hX0⟩ : ∃ X0, X0 = (U leaf).toArray := ⟨_, rfl⟩
  have bL : Blk (w.alloc (.cells X0 31)) w.heap.size 31 (U leaf) := Blk.new w 31 X0 (U leaf) hX0
  have l0 : Later w (w.alloc (.cells X0 31)) := laterZ _ _
  rw [← hX0]
  clear tab hs hl hll hdl hX0 hI1 hI2
  go_enter Tryd.func31, Tryd.ntmps31
  go_wp2
  generalize w.alloc (.cells X0 31) = u0 at bL l0 ⊢
  go_loopw [1, 2, 9] (fun vi vn vt wr => ∃ (j q m ct : Nat) (At : Option Addr) (ts : List Bool), vi = .int .i64 j ∧ vn = .int .i64 q ∧ vt = .slice At m ct ∧ j < q ∧ q ≤ 1099511627776 ∧ m + q ≤ 1099511627777 ∧ Sl wr 1 At m (Bv ts) ∧ Hid (ts.length = m) ∧ Hid (Mk.trn j q ++ ts = TT) ∧ Blk wr w.heap.size 31 (U leaf) ∧ Later w wr) (fun _ vn _ _ => (intOf vn).toNat)
  case atStart => exact ⟨i, n, 0, 0, none, [], rfl, rfl, rfl, hin, hn, by omega, Sl.nil _ _ _, Lib.hid rfl, Lib.hid (by rw [List.append_nil, HTT.out]), bL, l0⟩
  case round =>
    clear bL l0 hin hn HTT
    obtain ⟨j, q, m, ct, At, ts, rfl, rfl, rfl, hjq, hq, hmq, tn, HTL, HTS, bL, lr⟩ := hrel
    by_cases h2 : 2 ≤ q
    · have z1 : (1 : Int) < (q : Int) := by omega
      obtain ⟨K, hK⟩ : ∃ K, K = Mk.sp q := ⟨_, rfl⟩
      have hKl : K < q := by rw [hK]; exact Mk.sp_lt h2
      have hK0 : 1 ≤ K := by rw [hK]; exact Mk.sp_pos q
      have HK : Hid (∀ a, 2 ^ a < q → q ≤ 2 * 2 ^ a → 2 ^ a = K) := Lib.hid fun a x y => by rw [hK, Mk.sp_is x y]
      have HLE : Hid (j < K → Mk.trn j q = Mk.trn j K ++ [false]) := Lib.hid fun h => by rw [hK] at h ⊢; exact Mk.trn_left _ _ h2 h
      have HRI : Hid (¬ j < K → Mk.trn j q = Mk.trn (j - K) (q - K) ++ [true]) := Lib.hid fun h => by rw [hK] at h ⊢; exact Mk.trn_right _ _ h2 h
      clear hK
      go_wp2
      go_loopw [10] (fun vk wx => ∃ (p : Nat), vk = .int .i64 p ∧ 1 ≤ p ∧ p < q ∧ Hid (∃ a, p = 2 ^ a) ∧ wr = wx) (fun vk _ => q - (intOf vk).toNat)
      case atStart => exact ⟨1, by go_num, by omega, by omega, Lib.hid ⟨0, rfl⟩, rfl⟩
      case round =>
        obtain ⟨p, rfl, hp1, hpq, hpa, rfl⟩ := hrel
        have z0 : (0 : Int) ≤ (p : Int) := by omega
        by_cases hlt : 2 * p < q
        · have z2 : 2 * (p : Int) < (q : Int) := by omega
          have hj2 : Hid (∃ a, 2 * p = 2 ^ a) := Lib.hid (by obtain ⟨a, e⟩ := hpa.out; exact ⟨a + 1, by rw [Nat.pow_succ, ← e]; omega⟩)
          go_wp2
          go_roundw
          case rel => exact ⟨2 * p, by go_num, by omega, by omega, hj2, by trivial⟩
          case measure => simp [intOf]; omega
        · have z2 : ¬ 2 * (p : Int) < (q : Int) := by omega
          obtain rfl : p = K := by obtain ⟨a, e⟩ := hpa.out; rw [e]; exact HK.out a (by omega) (by omega)
          clear hpa HK
          by_cases hjp : j < p
          · have z3 : ((p : Int) ≤ (j : Int)) = False := by simp; omega
            have e3 : decide ((p : Int) ≤ (j : Int)) = false := by simp; omega
            go_wp2_with (first
              | ((with_reducible refine wpList_plain (o := ⟨some 30, .call { callee := .builtin .append, args := #[.tmp 28, .tmp 29], argTypes := #[93, 93] }, _, _, _, none⟩) rfl (fun K' hK => ?_)); refine wp_app _ (.tmp 28) (.tmp 29) 93 rfl wr.heap.size 4 i1 _ 1 1 Tryd.underlying93 HI1.out.hi HI1.out.hz HI1.out.hs HI1.out.hb rfl (by decide) (.slice (some ⟨wr.heap.size, 0, none⟩) 1 1) 1 [.bool false] rfl (World.ownsRow_lit wr #[.bool false] 1 (Nat.le_refl _) (by decide) rfl) At m ct (Bv ts) rfl (tn.keep (laterZ _ _)) (Bv_one _) (by unfold maxLen; omega) (by omega) (by simp) ?_; intro v2 w2 own2 grow2; refine hK _ _ ?_; clear hK K'; have k2 : Later wr w2 := (laterZ wr (.cells #[.bool false] 4)).grown grow2 (by simp) (fun b hb => (by have : b = wr.heap.size := (by simpa [Value.ownBlock] using hb.symm); omega)); obtain ⟨A9, c9, e9, _, _, q9, _⟩ := own_form own2))
            go_roundw
            case rel => exact ⟨j, p, 1 + m, _, _, false :: ts, by go_num, by go_num, rfl, hjp, by omega, by omega, q9, Lib.hid (by rw [List.length_cons, HTL.out]; omega), Lib.hid (by rw [← HTS.out, HLE.out hjp]; simp), bL.keep k2, Later.trans_ lr k2⟩
            case measure => simp [intOf]; omega
          · have z3 : (p : Int) ≤ (j : Int) := by omega
            have e3 : decide ((p : Int) ≤ (j : Int)) = true := by simp; omega
            go_wp2_with (first
              | ((with_reducible refine wpList_plain (o := ⟨some 30, .call { callee := .builtin .append, args := #[.tmp 28, .tmp 29], argTypes := #[93, 93] }, _, _, _, none⟩) rfl (fun K' hK => ?_)); refine wp_app _ (.tmp 28) (.tmp 29) 93 rfl wr.heap.size 4 i1 _ 1 1 Tryd.underlying93 HI1.out.hi HI1.out.hz HI1.out.hs HI1.out.hb rfl (by decide) (.slice (some ⟨wr.heap.size, 0, none⟩) 1 1) 1 [.bool true] rfl (World.ownsRow_lit wr #[.bool true] 1 (Nat.le_refl _) (by decide) rfl) At m ct (Bv ts) rfl (tn.keep (laterZ _ _)) (Bv_one _) (by unfold maxLen; omega) (by omega) (by simp) ?_; intro v2 w2 own2 grow2; refine hK _ _ ?_; clear hK K'; have k2 : Later wr w2 := (laterZ wr (.cells #[.bool true] 4)).grown grow2 (by simp) (fun b hb => (by have : b = wr.heap.size := (by simpa [Value.ownBlock] using hb.symm); omega)); obtain ⟨A9, c9, e9, _, _, q9, _⟩ := own_form own2))
            go_roundw
            case rel => exact ⟨j - p, q - p, 1 + m, _, _, true :: ts, by go_num, by go_num, rfl, by omega, by omega, by omega, q9, Lib.hid (by rw [List.length_cons, HTL.out]; omega), Lib.hid (by rw [← HTS.out, HRI.out hjp]; simp), bL.keep k2, Later.trans_ lr k2⟩
            case measure => simp [intOf]; omega
    · have z1 : ¬ (1 : Int) < (q : Int) := by omega
      have hts : ts = TT := by rw [← HTS.out, Mk.trn_small _ _ h2]; rfl
      have tnT : Sl wr 1 At m (Bv TT) := by rw [← hts]; exact tn
      have HTM : Hid (TT.length = m) := Lib.hid (by rw [← hts]; exact HTL.out)
      have sl : Sl wr 16 A k (Ds l) := HS.out.keep lr
      have HAB0 : Hid (0 < k → ∀ ad, A = some ad → ad.block < wr.heap.size) := Lib.hid fun h ad e => by obtain ⟨a, e', hb, _⟩ := sl.2 h; rw [e] at e'; cases e'; exact hb
      have HTB0 : Hid (0 < m → ∀ ad, At = some ad → ad.block < wr.heap.size) := Lib.hid fun h ad e => by obtain ⟨a, e', hb, _⟩ := tn.2 h; rw [e] at e'; cases e'; exact hb
      clear tn HTS hts HTL
      go_wp2_with (first
        | ((with_reducible refine wpList_load_blk (o := ⟨some 39, .load 31 (.tmp 4), _, _, _, none⟩) rfl _ _ rfl w.heap.size 31 (U leaf) _ ?_ bL Tryd.underlying31 rfl (dig_sz HDL.out.1) ?_); rfl)
        | ((with_reducible refine wpList_store_abs (o := ⟨none, .store 31 (.tmp 13) (.tmp 39), _, _, _, none⟩) rfl _ _ _ rfl wr.heap.size 31 (PartB [] 16) (U leaf) ?_ ?_ (Blk.new wr _ _ _ rfl) (dig_sz HDL.out.1) (dig_z HDL.out.1) (U_one _) ?_); rfl; rfl; intro w3 b13 o3; have k3 : Later wr w3 := Below.only (laterZ wr (.cells (PartB [] 16).toArray 31)) o3 (Nat.le_refl _)))
      have hBw : w.heap.size ≤ wr.heap.size := lr.size
      have lr3 : Later w w3 := Later.trans_ lr k3
      have tn3 := tnT.keep k3
      have sl3 := sl.keep k3
      clear bL lr tnT sl o3 k3
      obtain ⟨B13, eB⟩ : ∃ B, B = wr.heap.size := ⟨_, rfl⟩
      rw [← eB] at b13 hBw HAB0 HTB0 ⊢
      clear eB
      have hB3 := b13.lt
      obtain ⟨b0, eb0⟩ : ∃ b, b = w3.heap.size := ⟨_, rfl⟩
      have hb3 : b0 ≤ w3.heap.size := by omega
      rw [← eb0] at hB3
      clear eb0
      go_loopw [12, 14] (fun vo vt wx => ∃ (t : Nat) (out : List (Wm.Bs × Wm.Bs)) (dd : Wm.Bs), vt = .int .i64 t ∧ t ≤ m ∧ t ≤ k ∧ wx.ownsRow b0 62 32 vo t (Prs out) ∧ Hid (out.length = t) ∧ Hid (out ++ Mk.stp nodeD dd (TT.drop t) (l.drop t) = Mk.stp nodeD leaf TT l) ∧ Hid (dd.length = 16 ∧ Wm.isBs dd) ∧ Blk wx B13 31 (U dd) ∧ Sl wx 1 At m (Bv TT) ∧ Sl wx 16 A k (Ds l) ∧ Later w wx ∧ b0 ≤ wx.heap.size) (fun _ vt _ => m + 1 - (intOf vt).toNat)
      case atStart => exact ⟨0, [], leaf, by go_num, Nat.zero_le _, Nat.zero_le _, ⟨rfl, .inl ⟨rfl, rfl⟩⟩, Lib.hid rfl, Lib.hid rfl, HDL, b13, tn3, sl3, lr3, hb3⟩
      case round =>
        clear b13 tn3 sl3 lr3 hb3
        obtain ⟨t, out, dd, rfl, ht1, ht2, own, HOL, HST, HQQ, b13, tn, sl, lr, hb0⟩ := hrel
        by_cases hboth : t < m ∧ t < k
        · obtain ⟨htm, htk⟩ := hboth
          have zm : (t : Int) < (m : Int) := by omega
          have zk : (t : Int) < (k : Int) := by omega
          obtain ⟨ad, eA, hadb, hkl, hck⟩ := sl.digest HL.out htk
          obtain ⟨X, hX⟩ : ∃ X, X = l[t] := ⟨_, rfl⟩
          have HXD : Hid (X.length = 16 ∧ Wm.isBs X) := Lib.hid (by rw [hX]; exact HL.out _ (List.getElem_mem hkl))
          subst eA
          have HCK := Lib.hid fun (w' : World) (s : Sl w' 16 (some ad) k (Ds l)) (j : Nat) (v : Value) (hv : (U X)[j]? = some v) => (by
            obtain ⟨a2, e, _, _, hc2⟩ := s.digest HL.out htk
            cases e
            rw [hX] at hv
            exact hc2 j v hv : w'.cell? ((ad.add (t * 16)).add j) = some v)
          obtain ⟨ad2, eA2, _, _⟩ := tn.2 (by omega)
          subst eA2
          have htT : t < TT.length := by rw [HTM.out]; exact htm
          obtain ⟨tb, htb⟩ : ∃ b, b = TT[t] := ⟨_, rfl⟩
          have HTC := Lib.hid fun (w' : World) (s : Sl w' 1 (some ad2) m (Bv TT)) => (by
            obtain ⟨a, e, _, hc⟩ := s.2 (by omega)
            cases e
            exact hc t (.bool tb) (by unfold Bv; rw [List.getElem?_map, List.getElem?_eq_getElem htT, htb]; rfl) : w'.cell? (ad2.add t) = some (.bool tb))
          have HS2 : Hid (out ++ [Mk.pr tb dd X] ++ Mk.stp nodeD (nodeD (Mk.pr tb dd X).1 (Mk.pr tb dd X).2) (TT.drop (t + 1)) (l.drop (t + 1)) = Mk.stp nodeD leaf TT l) := Lib.hid (by
            rw [← HST.out, Mk.stp_at nodeD dd htT hkl, ← hX, ← htb]; simp)
          clear hck hX htb HST htT hkl
          have HNO := Lib.hid fun (a b : Wm.Bs) (ha : a.length = 16) (hb : b.length = 16) (w' : World) (h : Later w w') => node_any a b w' ha hb (TB.out.keep h)
          go_wp2_with fail
          refine wp_region_held_drew (S := fun w' => w'.rangeAt B13 0 (U dd) ∧ ∀ j v, (U X)[j]? = some v → w'.cell? ((ad.add (t * 16)).add j) = some v) (by kernel_rfl) ⟨blk_at b13.drew, HCK.out _ sl.drew⟩ (fun hHeld => ?_)
          refine wpAnyH_take (i := 0) (oi := ⟨some 52, .load 31 (.tmp 13), _, _, _, none⟩) (v := .agg (U dd).toArray) rfl (by kernel_rfl) (by kernel_rfl) (by kernel_rfl) (fun _ _ _ h => h) (yieldsIf_load_mid (by rfl) _ _ rfl _ _ rfl _ _ (fun w h => h.1) Tryd.underlying31 rfl (dig_sz HQQ.out.1)) hHeld ?_
          simp only [Act.put, List.setIfInBounds_toArray, List.set_cons_zero, List.set_cons_succ]
          refine wpAnyH_take (i := 1) (oi := ⟨some 53, .move (.tmp 3), _, _, _, none⟩) (v := .slice (some ad) k c) rfl (by kernel_rfl) (by kernel_rfl) (by kernel_rfl) (fun _ _ _ h => h) (Or.inl ⟨by rfl, fun _ _ => rfl⟩) hHeld ?_
          simp only [Act.put, List.setIfInBounds_toArray, List.set_cons_zero, List.set_cons_succ]
          refine wpAnyH_take (i := 2) (oi := ⟨some 54, .move (.tmp 14), _, _, _, none⟩) (v := .int .i64 t) rfl (by kernel_rfl) (by kernel_rfl) (by kernel_rfl) (fun _ _ _ h => h) (Or.inl ⟨by rfl, fun _ _ => rfl⟩) hHeld ?_
          simp only [Act.put, List.setIfInBounds_toArray, List.set_cons_zero, List.set_cons_succ]
          refine wpAnyH_take (i := 3) (oi := ⟨some 55, .indexAddr 22 (.tmp 53) (.tmp 54), _, _, _, none⟩) (v := .pointer (some (ad.add (t * 16)))) rfl (by kernel_rfl) (by kernel_rfl) (by kernel_rfl) (fun _ _ _ h => h) (Or.inl ⟨by rfl, fun w _ => by go_simp⟩) hHeld ?_
          simp only [Act.put, List.setIfInBounds_toArray, List.set_cons_zero, List.set_cons_succ]
          refine wpAnyH_take (i := 4) (oi := ⟨some 56, .load 31 (.tmp 55), _, _, _, none⟩) (v := .agg (U X).toArray) rfl (by kernel_rfl) (by kernel_rfl) (by kernel_rfl) (fun _ _ _ h => h) (yieldsIf_load_addr (by rfl) _ _ rfl _ (by rfl) (U X) _ (fun w h => h.2) Tryd.underlying31 rfl (dig_sz HXD.out.1)) hHeld ?_
          simp only [Act.put, List.setIfInBounds_toArray, List.set_cons_zero, List.set_cons_succ]
          refine wpAnyH_take (i := 5) (oi := ⟨some 57, .build 62 #[(0, .tmp 52), (1, .tmp 56)], _, _, _, none⟩) (v := .agg (U (dd ++ X)).toArray) rfl (by kernel_rfl) (by kernel_rfl) (by kernel_rfl) (fun _ _ _ h => h) (yieldsIf_p2 HQQ.out.1 HXD.out.1 (by rfl) _ _ rfl (by rfl) (by rfl)) hHeld ?_
          simp only [Act.put, List.setIfInBounds_toArray, List.set_cons_zero, List.set_cons_succ]
          refine wpAnyH_ready (rs := [6]) (by kernel_rfl) (by simp) (AllReadyH.cons (o := ⟨some 15, .alloc 62, _, _, _, none⟩) rfl (fun K' hK => ?_) (AllReadyH.nil))
          go_simp
          have la : Later wr (wr.alloc (.cells (U (zD ++ zD)).toArray 62)).drew := (laterZ wr _).drew
          have bG : Blk (wr.alloc (.cells (U (zD ++ zD)).toArray 62)).drew wr.heap.size 62 (U (zD ++ zD)) := (Blk.new wr _ _ _ rfl).drew
          have hqG := b13.lt
          refine hK.out _ _ ⟨blk_at (b13.keep la), HCK.out _ (sl.keep la)⟩ (fun hHeld => ?_)
          clear hK K'
          try simp only [Act.put, List.setIfInBounds_toArray, List.set_cons_zero, List.set_cons_succ]
          obtain ⟨G, eG⟩ : ∃ G, G = wr.heap.size := ⟨_, rfl⟩
          have hGQ : B13 ≠ G := by rw [eG]; exact Nat.ne_of_lt hqG
          have hGs : wr.heap.size ≤ G := by rw [eG]; exact Nat.le_refl _
          rw [← eG] at bG ⊢
          clear eG
          refine wpAnyH_ready (rs := [7]) (by kernel_rfl) (by simp) (AllReadyH.cons (o := ⟨none, .store 62 (.tmp 15) (.tmp 57), _, _, _, none⟩) rfl (fun K' hK => ?_) (AllReadyH.nil))
          refine wp_store_whole _ _ _ rfl G 62 (U (zD ++ zD)) (U (dd ++ X)) rfl rfl bG (p2_sz (by rw [List.length_append, HQQ.out.1, HXD.out.1])) (by rw [U_length, U_length, List.length_append, List.length_append, HQQ.out.1, HXD.out.1]; rfl) (U_one _) ?_
          intro w7 y7 z7
          have k7 : Later wr w7 := Below.only la z7 hGs
          refine hK.out _ _ ⟨blk_at (b13.keep k7), HCK.out _ (sl.keep k7)⟩ (fun hHeld => ?_)
          clear hK K'
          refine wpAnyH_done (by kernel_rfl) ?_ _
          clear hHeld la bG
          have b13r := b13; have slr := sl; have tnr := tn; have lrr := lr
          replace b13 := b13.keep k7; replace sl := sl.keep k7; replace tn := tn.keep k7; replace lr := Later.trans_ lr k7
          have ot := own_below own k7
          have g1 := HTC.out _ tn
          cases tb
          · go_wp2_with (first
              | ((with_reducible refine wpList_load_blk (o := ⟨some 69, .load 62 (.tmp 15), _, _, _, none⟩) rfl _ _ rfl G 62 (U (dd ++ X)) _ ?_ y7 Tryd.underlying62 rfl (p2_sz (show (dd ++ X).length = 32 by rw [List.length_append, HQQ.out.1, HXD.out.1])) ?_); rfl)
              | ((with_reducible refine wpList_plain (o := ⟨some 70, .buildSlice 60 1 #[(0, .tmp 69)], _, _, _, none⟩) rfl (fun K' hK => ?_)); refine wp_build1 _ 62 _ rfl (U (dd ++ X)).toArray i2 _ Tryd.underlying60 HI2.out.hi HI2.out.hz (by rw [HI2.out.hs, List.size_toArray, U_length, (show (dd ++ X).length = 32 by rw [List.length_append, HQQ.out.1, HXD.out.1])]) (by rw [List.size_toArray, U_length, (show (dd ++ X).length = 32 by rw [List.length_append, HQQ.out.1, HXD.out.1])]; decide) (by rw [List.size_toArray, U_length, (show (dd ++ X).length = 32 by rw [List.length_append, HQQ.out.1, HXD.out.1])]; decide) rfl ?_; refine hK _ _ ?_; clear hK K'; have la := laterZ w7 (.cells (U (dd ++ X)).toArray 62); have hbl : b0 ≤ (w7.alloc (.cells (U (dd ++ X)).toArray 62)).heap.size := Nat.le_trans (Nat.le_trans hb0 k7.size) la.size)
              | ((with_reducible refine wpList_plain (o := ⟨some 71, .call { callee := .builtin .append, args := #[.tmp 68, .tmp 70], argTypes := #[60, 60] }, _, _, _, none⟩) rfl (fun K' hK => ?_)); refine wp_append_lies _ (.tmp 68) (.tmp 70) 60 rfl b0 62 i2 _ 32 32 Tryd.underlying60 HI2.out.hi HI2.out.hz HI2.out.hs HI2.out.hb HI2.out.hc (by decide) u12 t (Prs out) rfl ((ot).alloc _) ⟨w7.heap.size, 0, none⟩ 1 1 (U (dd ++ X)) rfl (by rw [U_length, (show (dd ++ X).length = 32 by rw [List.length_append, HQQ.out.1, HXD.out.1])]) (fun j u hu => World.news_of_block (heap_alloc_new w7 _) j u (by simpa using hu)) (U_one _) (by decide) (by unfold maxLen; omega) (by omega) hbl _ rfl ?_; intro g cap w9 own9 grow9 hat9 hlt9; refine hK _ _ ?_; clear hK K'; have k9 : Below b0 (w7.alloc (.cells (U (dd ++ X)).toArray 62)) w9 := (Below.refl _ _).grown grow9 hbl (fun g hg => ((ot).lt g hg).1); have kb : Below b0 w7 w9 := Below.trans ((Below.refl b0 w7).alloc (Nat.le_trans hb0 k7.size) (.cells (U (dd ++ X)).toArray 62)) k9; have x9 : Blk w9 B13 31 (U dd) := (b13).later kb hB3; have y9 : Blk w9 G 62 (U (dd ++ X)) := ((y7).keep la).grown grow9 (fun e => by have := (own.lt G e.symm).2; omega); have tn9 := sl_below tn kb (fun h ad e => Nat.lt_trans (HTB0.out h ad e) hB3); have sl9 := sl_below sl kb (fun h ad e => Nat.lt_trans (HAB0.out h ad e) hB3); have lr9 : Later w w9 := Below.trans lr (kb.mono (by omega)); have hgb := (own9.lt g rfl).1)
              | ((with_reducible refine wpList_plain (o := ⟨some 73, .load 31 (.tmp 72), _, _, _, none⟩) rfl (fun K' hK => ?_)); refine wp_load_mid _ _ rfl G 0 rfl (U dd) _ (y9.two0 HQQ.out.1) Tryd.underlying31 rfl (dig_sz HQQ.out.1) ?_; refine hK _ _ ?_; clear hK K')
              | ((with_reducible refine wpList_plain (o := ⟨some 75, .load 31 (.tmp 74), _, _, _, none⟩) rfl (fun K' hK => ?_)); refine wp_load_mid _ _ rfl G 16 rfl (U X) _ (y9.two1 HQQ.out.1 HXD.out.1) Tryd.underlying31 rfl (dig_sz HXD.out.1) ?_; refine hK _ _ ?_; clear hK K')
              | (go_at_call 19; refine (HNO.out dd X HQQ.out.1 HXD.out.1 _ lr9).mono ?_; rintro e w10 ⟨rfl, k10⟩)
              | ((with_reducible refine wpList_store_abs (o := ⟨none, .store 31 (.tmp 13) (.tmp 76), _, _, _, none⟩) rfl _ _ _ rfl B13 31 (U dd) (U (nodeD dd X)) ?_ ?_ (x9.keep k10) (dig_sz (nodeD_len _ _)) (by rw [U_length, U_length, HQQ.out.1, nodeD_len]) (U_one _) ?_); rfl; rfl; intro w11 y11 z11; have own11 := own_only (own_below own9 k10) z11 (fun g' hg' => by have := (own9.lt g' hg').1; omega); have tn11 := (tn9.keep k10).only z11 (Nat.ne_of_lt (HTB0.out (by omega) ad2 rfl)); have sl11 := (sl9.keep k10).only z11 (Nat.ne_of_lt (HAB0.out (by omega) ad rfl)); have lr11 : Later w w11 := Below.only (Later.trans_ lr9 k10) z11 (by omega)))
            go_roundw
            case rel => exact ⟨t + 1, out ++ [(dd, X)], nodeD dd X, by go_num, by omega, by omega, by rw [Prs_snoc]; exact own11, Lib.hid (by rw [List.length_append, HOL.out]; rfl), HS2, Lib.hid ⟨nodeD_len _ _, nodeD_bs _ _⟩, y11, tn11, sl11, lr11, by have := k10.size; have := z11.size; have := kb.size; omega⟩
            case measure => simp [intOf]; omega
          · go_wp2_with fail
            refine wp_region_held_drew (S := fun w' => w'.rangeAt B13 0 (U dd) ∧ ∀ j v, (U X)[j]? = some v → w'.cell? ((ad.add (t * 16)).add j) = some v) (by kernel_rfl) ⟨blk_at b13.drew, HCK.out _ sl.drew⟩ (fun hHeld => ?_)
            refine wpAnyH_take (i := 0) (oi := ⟨some 62, .move (.tmp 3), _, _, _, none⟩) (v := .slice (some ad) k c) rfl (by kernel_rfl) (by kernel_rfl) (by kernel_rfl) (fun _ _ _ h => h) (Or.inl ⟨by rfl, fun _ _ => rfl⟩) hHeld ?_
            simp only [Act.put, List.setIfInBounds_toArray, List.set_cons_zero, List.set_cons_succ]
            refine wpAnyH_take (i := 1) (oi := ⟨some 63, .move (.tmp 14), _, _, _, none⟩) (v := .int .i64 t) rfl (by kernel_rfl) (by kernel_rfl) (by kernel_rfl) (fun _ _ _ h => h) (Or.inl ⟨by rfl, fun _ _ => rfl⟩) hHeld ?_
            simp only [Act.put, List.setIfInBounds_toArray, List.set_cons_zero, List.set_cons_succ]
            refine wpAnyH_take (i := 2) (oi := ⟨some 64, .indexAddr 22 (.tmp 62) (.tmp 63), _, _, _, none⟩) (v := .pointer (some (ad.add (t * 16)))) rfl (by kernel_rfl) (by kernel_rfl) (by kernel_rfl) (fun _ _ _ h => h) (Or.inl ⟨by rfl, fun w _ => by go_simp⟩) hHeld ?_
            simp only [Act.put, List.setIfInBounds_toArray, List.set_cons_zero, List.set_cons_succ]
            refine wpAnyH_take (i := 3) (oi := ⟨some 65, .load 31 (.tmp 64), _, _, _, none⟩) (v := .agg (U X).toArray) rfl (by kernel_rfl) (by kernel_rfl) (by kernel_rfl) (fun _ _ _ h => h) (yieldsIf_load_addr (by rfl) _ _ rfl _ (by rfl) (U X) _ (fun w h => h.2) Tryd.underlying31 rfl (dig_sz HXD.out.1)) hHeld ?_
            simp only [Act.put, List.setIfInBounds_toArray, List.set_cons_zero, List.set_cons_succ]
            refine wpAnyH_take (i := 4) (oi := ⟨some 66, .load 31 (.tmp 13), _, _, _, none⟩) (v := .agg (U dd).toArray) rfl (by kernel_rfl) (by kernel_rfl) (by kernel_rfl) (fun _ _ _ h => h) (yieldsIf_load_mid (by rfl) _ _ rfl _ _ rfl _ _ (fun w h => h.1) Tryd.underlying31 rfl (dig_sz HQQ.out.1)) hHeld ?_
            simp only [Act.put, List.setIfInBounds_toArray, List.set_cons_zero, List.set_cons_succ]
            refine wpAnyH_take (i := 5) (oi := ⟨some 67, .build 62 #[(0, .tmp 65), (1, .tmp 66)], _, _, _, none⟩) (v := .agg (U (X ++ dd)).toArray) rfl (by kernel_rfl) (by kernel_rfl) (by kernel_rfl) (fun _ _ _ h => h) (yieldsIf_p2 HXD.out.1 HQQ.out.1 (by rfl) _ _ rfl (by rfl) (by rfl)) hHeld ?_
            simp only [Act.put, List.setIfInBounds_toArray, List.set_cons_zero, List.set_cons_succ]
            refine wpAnyH_ready (rs := [6]) (by kernel_rfl) (by simp) (AllReadyH.cons (o := ⟨none, .store 62 (.tmp 15) (.tmp 67), _, _, _, none⟩) rfl (fun K' hK => ?_) (AllReadyH.nil))
            refine wp_store_whole _ _ _ rfl G 62 (U (dd ++ X)) (U (X ++ dd)) rfl rfl y7.drew (p2_sz (by rw [List.length_append, HQQ.out.1, HXD.out.1])) (by rw [U_length, U_length, List.length_append, List.length_append, HQQ.out.1, HXD.out.1]) (U_one _) ?_
            intro w8 y8 z8
            have k8 : Later wr w8 := Below.only (k7.drew) z8 hGs
            refine hK.out _ _ ⟨blk_at (b13r.keep k8), HCK.out _ (slr.keep k8)⟩ (fun hHeld => ?_)
            clear hK K'
            refine wpAnyH_done (by kernel_rfl) ?_ _
            clear hHeld
            have ot8 := own_below own k8
            have tn8 := tnr.keep k8; have sl8 := slr.keep k8; have lr8 := Later.trans_ lrr k8; have b138 := b13r.keep k8
            go_wp2_with (first
              | ((with_reducible refine wpList_load_blk (o := ⟨some 69, .load 62 (.tmp 15), _, _, _, none⟩) rfl _ _ rfl G 62 (U (X ++ dd)) _ ?_ y8 Tryd.underlying62 rfl (p2_sz (show (X ++ dd).length = 32 by rw [List.length_append, HQQ.out.1, HXD.out.1])) ?_); rfl)
              | ((with_reducible refine wpList_plain (o := ⟨some 70, .buildSlice 60 1 #[(0, .tmp 69)], _, _, _, none⟩) rfl (fun K' hK => ?_)); refine wp_build1 _ 62 _ rfl (U (X ++ dd)).toArray i2 _ Tryd.underlying60 HI2.out.hi HI2.out.hz (by rw [HI2.out.hs, List.size_toArray, U_length, (show (X ++ dd).length = 32 by rw [List.length_append, HQQ.out.1, HXD.out.1])]) (by rw [List.size_toArray, U_length, (show (X ++ dd).length = 32 by rw [List.length_append, HQQ.out.1, HXD.out.1])]; decide) (by rw [List.size_toArray, U_length, (show (X ++ dd).length = 32 by rw [List.length_append, HQQ.out.1, HXD.out.1])]; decide) rfl ?_; refine hK _ _ ?_; clear hK K'; have la := laterZ w8 (.cells (U (X ++ dd)).toArray 62); have hbl : b0 ≤ (w8.alloc (.cells (U (X ++ dd)).toArray 62)).heap.size := Nat.le_trans (Nat.le_trans hb0 k8.size) la.size)
              | ((with_reducible refine wpList_plain (o := ⟨some 71, .call { callee := .builtin .append, args := #[.tmp 68, .tmp 70], argTypes := #[60, 60] }, _, _, _, none⟩) rfl (fun K' hK => ?_)); refine wp_append_lies _ (.tmp 68) (.tmp 70) 60 rfl b0 62 i2 _ 32 32 Tryd.underlying60 HI2.out.hi HI2.out.hz HI2.out.hs HI2.out.hb HI2.out.hc (by decide) u12 t (Prs out) rfl ((ot8).alloc _) ⟨w8.heap.size, 0, none⟩ 1 1 (U (X ++ dd)) rfl (by rw [U_length, (show (X ++ dd).length = 32 by rw [List.length_append, HQQ.out.1, HXD.out.1])]) (fun j u hu => World.news_of_block (heap_alloc_new w8 _) j u (by simpa using hu)) (U_one _) (by decide) (by unfold maxLen; omega) (by omega) hbl _ rfl ?_; intro g cap w9 own9 grow9 hat9 hlt9; refine hK _ _ ?_; clear hK K'; have k9 : Below b0 (w8.alloc (.cells (U (X ++ dd)).toArray 62)) w9 := (Below.refl _ _).grown grow9 hbl (fun g hg => ((ot8).lt g hg).1); have kb : Below b0 w8 w9 := Below.trans ((Below.refl b0 w8).alloc (Nat.le_trans hb0 k8.size) (.cells (U (X ++ dd)).toArray 62)) k9; have x9 : Blk w9 B13 31 (U dd) := (b138).later kb hB3; have y9 : Blk w9 G 62 (U (X ++ dd)) := ((y8).keep la).grown grow9 (fun e => by have := (own.lt G e.symm).2; omega); have tn9 := sl_below tn8 kb (fun h ad e => Nat.lt_trans (HTB0.out h ad e) hB3); have sl9 := sl_below sl8 kb (fun h ad e => Nat.lt_trans (HAB0.out h ad e) hB3); have lr9 : Later w w9 := Below.trans lr8 (kb.mono (by omega)); have hgb := (own9.lt g rfl).1)
              | ((with_reducible refine wpList_plain (o := ⟨some 73, .load 31 (.tmp 72), _, _, _, none⟩) rfl (fun K' hK => ?_)); refine wp_load_mid _ _ rfl G 0 rfl (U X) _ (y9.two0 HXD.out.1) Tryd.underlying31 rfl (dig_sz HXD.out.1) ?_; refine hK _ _ ?_; clear hK K')
              | ((with_reducible refine wpList_plain (o := ⟨some 75, .load 31 (.tmp 74), _, _, _, none⟩) rfl (fun K' hK => ?_)); refine wp_load_mid _ _ rfl G 16 rfl (U dd) _ (y9.two1 HXD.out.1 HQQ.out.1) Tryd.underlying31 rfl (dig_sz HQQ.out.1) ?_; refine hK _ _ ?_; clear hK K')
              | (go_at_call 19; refine (HNO.out X dd HXD.out.1 HQQ.out.1 _ lr9).mono ?_; rintro e w10 ⟨rfl, k10⟩)
              | ((with_reducible refine wpList_store_abs (o := ⟨none, .store 31 (.tmp 13) (.tmp 76), _, _, _, none⟩) rfl _ _ _ rfl B13 31 (U dd) (U (nodeD X dd)) ?_ ?_ (x9.keep k10) (dig_sz (nodeD_len _ _)) (by rw [U_length, U_length, HQQ.out.1, nodeD_len]) (U_one _) ?_); rfl; rfl; intro w11 y11 z11; have own11 := own_only (own_below own9 k10) z11 (fun g' hg' => by have := (own9.lt g' hg').1; omega); have tn11 := (tn9.keep k10).only z11 (Nat.ne_of_lt (HTB0.out (by omega) ad2 rfl)); have sl11 := (sl9.keep k10).only z11 (Nat.ne_of_lt (HAB0.out (by omega) ad rfl)); have lr11 : Later w w11 := Below.only (Later.trans_ lr9 k10) z11 (by omega)))
            go_roundw
            case rel => exact ⟨t + 1, out ++ [(X, dd)], nodeD X dd, by go_num, by omega, by omega, by rw [Prs_snoc]; exact own11, Lib.hid (by rw [List.length_append, HOL.out]; rfl), HS2, Lib.hid ⟨nodeD_len _ _, nodeD_bs _ _⟩, y11, tn11, sl11, lr11, by have := k10.size; have := z11.size; have := kb.size; omega⟩
            case measure => simp [intOf]; omega
        · have hend : Hid (out = Mk.stp nodeD leaf TT l) := Lib.hid (by
            rw [← HST.out, Mk.stp_none, List.append_nil]
            rcases Nat.lt_or_ge t m with h | h
            · exact .inr (List.drop_eq_nil_of_le (by rw [HLL.out]; omega))
            · exact .inl (List.drop_eq_nil_of_le (by rw [HTM.out]; exact h)))
          obtain ⟨A9, c9, rfl, r1, _, r3, _⟩ := own_form own
          clear HST b13 tn sl
          by_cases htm : t < m
          · have zm : (t : Int) < (m : Int) := by omega
            have zk : ¬ (t : Int) < (k : Int) := by omega
            go_wp2
            go_ret
            exact ⟨A9, t, c9, rfl, by rw [← hend.out, HOL.out], by rw [← hend.out]; exact r3, r1, lr⟩
          · have zm : ¬ (t : Int) < (m : Int) := by omega
            go_wp2
            go_ret
            exact ⟨A9, t, c9, rfl, by rw [← hend.out, HOL.out], by rw [← hend.out]; exact r3, r1, lr⟩
end Go.Proofs.YtonfdgbohmcpjabDoor

/-
  THE WALK OF MerkleProofsBind.
-/
namespace Go.Proofs.YtonfdgbohmcpjabDoor
open Go.RowKit Go.ChangeShapes Go.WideShapes Go.ChangeAt

theorem dig_eq_at (d : Nat) {x y : Wm.Bs} (hx : x.length = 16) (hy : y.length = 16) (w : World) : (Op.equalIn (d + 2) 31 (.agg (U x).toArray) (.agg (U y).toArray)).run Tryd.prog w = .ok (decide (x = y)) w := by
  obtain ⟨i0, hi, _, _, _⟩ := info_parts u8_info
  have hc : Tryd.prog.cellsOf 5 = 1 := by kernel_rfl
  rw [run_equalIn_array w (d + 1) _ _ Tryd.underlying31 hi, hc, items_eq d x y w _ (fun i hi => by rw [hx, hy]; have := List.mem_range.1 hi; omega), range_eq hx hy]
theorem part_dig {l : List Value} {c : List Value} (off : Nat) (w : World) (h : (l.drop off).take 16 = c) : (part 31 l.toArray off).run Tryd.prog w = .ok (.agg c.toArray) w := by
  obtain ⟨i0, hI⟩ := dgI
  have hag : (isAgg 31).run Tryd.prog w = .ok true w := by rw [isAgg, Sem.run_bind, run_underlying (P := Tryd.prog) Tryd.underlying31]; rfl
  unfold part
  rw [Sem.run_bind, hag, Result.andThen_ok, if_pos rfl, Sem.run_bind, run_sizeOf w hI.hi, Result.andThen_ok, show Tryd.prog.cellsOf 31 = 16 by kernel_rfl]
  have e1 : l.toArray.extract off (off + 16) = c.toArray := by
    apply Array.ext'
    rw [← h, Array.toList_extract, List.extract_eq_take_drop, show off + 16 - off = 16 by omega]
  rw [e1]; rfl
theorem p2_eq_at (d : Nat) {a b c e : Wm.Bs} (ha : a.length = 16) (hb : b.length = 16) (hc : c.length = 16) (he : e.length = 16) (w : World) : (Op.equalIn (d + 3) 62 (.agg (U (a ++ b)).toArray) (.agg (U (c ++ e)).toArray)).run Tryd.prog w = .ok (decide ((a, b) = (c, e))) w := by
  obtain ⟨i0, hI⟩ := dgI
  have p0 : ∀ (x y : Wm.Bs), x.length = 16 → (part 31 (U (x ++ y)).toArray (0 * 16)).run Tryd.prog w = .ok (.agg (U x).toArray) w := fun x y hx => part_dig _ w (by
    rw [Nat.zero_mul, List.drop_zero, U_append, List.take_append_of_le_length (by rw [U_length, hx]; exact Nat.le_refl _), List.take_of_length_le (by rw [U_length, hx]; exact Nat.le_refl _)])
  have p1 : ∀ (x y : Wm.Bs), x.length = 16 → y.length = 16 → (part 31 (U (x ++ y)).toArray (1 * 16)).run Tryd.prog w = .ok (.agg (U y).toArray) w := fun x y hx hy => part_dig _ w (by
    rw [Nat.one_mul, U_append, List.drop_append_of_le_length (by rw [U_length, hx]; exact Nat.le_refl _), List.drop_eq_nil_of_le (by rw [U_length, hx]; exact Nat.le_refl _), List.nil_append, List.take_of_length_le (by rw [U_length, hy]; exact Nat.le_refl _)])
  rw [run_equalIn_array w (d + 2) _ _ Tryd.underlying62 hI.hi, show Tryd.prog.cellsOf 31 = 16 by kernel_rfl, show List.range 2 = [0, 1] from rfl]
  have q0 := dig_eq_at d ha hc w
  have q1 := dig_eq_at d hb he w
  rw [Op.eqItems, Sem.run_bind, p0 a b ha, Result.andThen_ok, Sem.run_bind, p0 c e hc, Result.andThen_ok, Sem.run_bind, q0, Result.andThen_ok]
  by_cases h1 : a = c
  · rw [decide_eq_true h1]
    simp only [Bool.not_true, if_false, Bool.false_eq_true]
    rw [Op.eqItems, Sem.run_bind, p1 a b ha hb, Result.andThen_ok, Sem.run_bind, p1 c e hc he, Result.andThen_ok, Sem.run_bind, q1, Result.andThen_ok]
    by_cases h2 : b = e <;> simp [h1, h2, Op.eqItems]
  · simp [h1]
theorem p2_eq {a b c e : Wm.Bs} (ha : a.length = 16) (hb : b.length = 16) (hc : c.length = 16) (he : e.length = 16) (w : World) : (Op.equalIn 10000 62 (.agg (U (a ++ b)).toArray) (.agg (U (c ++ e)).toArray)).run Tryd.prog w = .ok (decide ((a, b) = (c, e))) w := p2_eq_at 9997 ha hb hc he w
theorem halves0 {w : World} {ad : Addr} {a b : Wm.Bs} (_ha : a.length = 16) (h : ∀ j v, (U (a ++ b))[j]? = some v → w.cell? (ad.add j) = some v) (j : Nat) (u : Value) (hu : (U a)[j]? = some u) : w.cell? ((ad.add 0).add j) = some u := by
  rw [addr_add_add, Nat.zero_add]
  refine h j u ?_
  rw [U_append, List.getElem?_append_left]
  · exact hu
  · rcases Nat.lt_or_ge j (U a).length with h1 | h1
    · exact h1
    · rw [List.getElem?_eq_none h1] at hu; cases hu
theorem halves1 {w : World} {ad : Addr} {a b : Wm.Bs} (ha : a.length = 16) (h : ∀ j v, (U (a ++ b))[j]? = some v → w.cell? (ad.add j) = some v) (j : Nat) (u : Value) (hu : (U b)[j]? = some u) : w.cell? ((ad.add 16).add j) = some u := by
  rw [addr_add_add]
  refine h (16 + j) u ?_
  rw [U_append, List.getElem?_append_right (by rw [U_length, ha]; omega), U_length, ha, show 16 + j - 16 = j by omega]
  exact hu

theorem prs_app (l m : List (Wm.Bs × Wm.Bs)) : Prs (l ++ m) = Prs l ++ Prs m := by unfold Prs; rw [List.map_append, List.flatten_append, U_append]
theorem prs_cons (x : Wm.Bs × Wm.Bs) (l : List (Wm.Bs × Wm.Bs)) : Prs (x :: l) = U (P2 x) ++ Prs l := by unfold Prs; rw [List.map_cons, List.flatten_cons, U_append]
theorem prs_len : ∀ (l : List (Wm.Bs × Wm.Bs)), (∀ x ∈ l, isP x) → (Prs l).length = l.length * 32
  | [], _ => rfl
  | x :: l, h => by
    rw [prs_cons, List.length_append, U_length, P2_len (h x List.mem_cons_self), prs_len l (fun y hy => h y (List.mem_cons_of_mem _ hy)), List.length_cons]; omega
theorem Sl.pair {w : World} {A : Option Addr} {n : Nat} {l : List (Wm.Bs × Wm.Bs)} (h : Sl w 32 A n (Prs l)) (hl : ∀ x ∈ l, isP x) {k : Nat} {x : Wm.Bs × Wm.Bs} (hk : l[k]? = some x) :
    ∃ ad, A = some ad ∧ ∀ j v, (U (x.1 ++ x.2))[j]? = some v → w.cell? ((ad.add (k * 32)).add j) = some v := by
  have hlen := h.1
  rw [prs_len l hl] at hlen
  have hkl : k < l.length := by
    rcases Nat.lt_or_ge k l.length with h1 | h1
    · exact h1
    · rw [List.getElem?_eq_none h1] at hk; cases hk
  obtain ⟨ad, e, _, hc⟩ := h.2 (by omega)
  refine ⟨ad, e, fun j v hv => ?_⟩
  have hx : l[k] = x := by rw [List.getElem?_eq_getElem hkl] at hk; exact Option.some.inj hk
  have hsp : l = l.take k ++ (x :: l.drop (k + 1)) := by rw [← hx, ← List.drop_eq_getElem_cons hkl, List.take_append_drop]
  have ht : (Prs (l.take k)).length = k * 32 := by rw [prs_len _ (fun y hy => hl y (List.mem_of_mem_take hy)), List.length_take]; congr 1; omega
  rw [addr_add_add]
  refine hc _ v ?_
  rw [hsp, prs_app, prs_cons, List.getElem?_append_right (by rw [ht]; omega), ht, show k * 32 + j - k * 32 = j by omega, List.getElem?_append_left]
  · exact hv
  · rcases Nat.lt_or_ge j (U (P2 x)).length with h1 | h1
    · exact h1
    · exfalso
      have h2 : (U (x.1 ++ x.2))[j]? = none := List.getElem?_eq_none h1
      rw [h2] at hv; cases hv

/-- What CheckInclusion answers, whatever the numbers. -/
theorem ck_any (leaf rt : Wm.Bs) (i n : Int) (A : Option Addr) (k c : Nat) (l : List Wm.Bs) (w : World) (hdl : leaf.length = 16 ∧ Wm.isBs leaf) (hdr : rt.length = 16 ∧ Wm.isBs rt)
    (hs : Sl w 16 A k (Ds l)) (hl : isD l) (hkc : k ≤ c) (hc : c ≤ maxLen) (tab : Tab w) :
    ∃ ok : Bool, (∀ w', Later w w' → Calls Tryd.prog 29 #[.agg (U leaf).toArray, .int .i64 i, .int .i64 n, .slice A k c, .agg (U rt).toArray] w' fun e w'' => e = .returned (.bool ok) ∧ Later w' w'') ∧
      (ok = true → ∃ i' n' : Nat, i = i' ∧ n = n' ∧ i' < n' ∧ n' ≤ 1099511627776 ∧ l.length = Mk.dep i' n' ∧ Mk.fin nodeD leaf (Mk.trn i' n') l = rt) := by
  by_cases h : i < 0 ∨ n ≤ i ∨ 1099511627776 < n
  · exact ⟨false, fun w' _ => checkIncl_bad leaf rt i n _ w' h, fun e => by cases e⟩
  · obtain ⟨i', rfl⟩ := Int.eq_ofNat_of_zero_le (show 0 ≤ i by omega)
    obtain ⟨n', rfl⟩ := Int.eq_ofNat_of_zero_le (show 0 ≤ n by omega)
    refine ⟨_, fun w' hw => checkIncl_any leaf rt i' n' A k c l w' (by omega) (by omega) hdl hdr (hs.keep hw) hl hkc hc (tab.keep hw), fun e => ?_⟩
    have hr := Mk.climb_rcl nodeD zD leaf rt i' n' l
    rw [show (Mk.climb nodeD zD leaf i' n' ⟨l, false⟩).2.rest.isEmpty = decide ((Mk.climb nodeD zD leaf i' n' ⟨l, false⟩).2.rest = []) by cases (Mk.climb nodeD zD leaf i' n' ⟨l, false⟩).2.rest <;> rfl, e] at hr
    have hr2 := hr.symm
    rw [Bool.and_eq_true, decide_eq_true_eq] at hr2
    by_cases he : l.length = Mk.dep i' n'
    · exact ⟨i', n', rfl, rfl, by omega, by omega, he, by rw [← Mk.rcl_fin nodeD zD leaf n' i' n' l (Nat.le_refl _) he]; exact hr2.2⟩
    · rw [Mk.rcl_not nodeD zD leaf n' i' n' l (Nat.le_refl _) he] at hr2
      cases hr2.1
set_option maxRecDepth 100000 in
set_option maxHeartbeats 2000000 in
theorem bind_big (a b rt : Wm.Bs) (i n : Int) (A : Option Addr) (kp cp : Nat) (B : Option Addr) (kq cq : Nat) (w : World) (tab : Tab w) (tab0 : Tab0 w) (ha : a.length = 16 ∧ Wm.isBs a) (hb : b.length = 16 ∧ Wm.isBs b) (h : 60 < kp ∨ 60 < kq ∨ a = b) :
    Calls Tryd.prog 8 #[.agg (U a).toArray, .agg (U b).toArray, .int .i64 i, .int .i64 n, .slice A kp cp, .slice B kq cq, .agg (U rt).toArray] w fun e w' => e = .returned (.bool true) ∧ Later w w' := by
  have HS := Lib.hid fun w' (h : Later w w') => sanity_any w' (tab.keep h) (tab0.keep h)
  obtain ⟨Xa, hXa⟩ : ∃ X, X = (U a).toArray := ⟨_, rfl⟩
  obtain ⟨Xb, hXb⟩ : ∃ X, X = (U b).toArray := ⟨_, rfl⟩
  obtain ⟨Xr, hXr⟩ : ∃ X, X = (U rt).toArray := ⟨_, rfl⟩
  have ba : Blk (((w.alloc (.cells Xa 31)).alloc (.cells Xb 31)).alloc (.cells Xr 31)) w.heap.size 31 (U a) := ((Blk.new w 31 Xa (U a) hXa).alloc _).alloc _
  have bb : Blk (((w.alloc (.cells Xa 31)).alloc (.cells Xb 31)).alloc (.cells Xr 31)) (w.heap.size + 1) 31 (U b) := (Blk.new' (w.alloc (.cells Xa 31)) (w.heap.size + 1) 31 Xb (U b) (by simp) hXb).alloc _
  have l0 : Later w (((w.alloc (.cells Xa 31)).alloc (.cells Xb 31)).alloc (.cells Xr 31)) := (((Below.refl w.heap.size w).alloc (Nat.le_refl _) _).alloc (by simp) _).alloc (by simp; omega) _
  have hgd : Tryd.prog.eqGuardType Tryd.prog.depth 31 = false := by kernel_rfl
  have HA := Lib.hid ha; have HB := Lib.hid hb
  rw [← hXa, ← hXb, ← hXr]
  have qe : Hid (∀ w' : World, (Op.equalIn 10000 31 (.agg (U a).toArray) (.agg (U b).toArray)).run Tryd.prog w' = .ok (decide (a = b)) w') := Lib.hid fun w' => dig_eq HA.out.1 HB.out.1 w'
  clear tab tab0 hXa hXb hXr ha hb
  by_cases h1 : 60 < kp
  · go_enter Tryd.func8, Tryd.ntmps8
    go_wp2_with (go_at_call 9; refine (HS.out _ l0).mono ?_; rintro e w1 ⟨rfl, l1⟩)
    go_ret
    exact ⟨rfl, Later.trans_ l0 l1⟩
  · by_cases h2 : 60 < kq
    · go_enter Tryd.func8, Tryd.ntmps8
      go_wp2_with (go_at_call 9; refine (HS.out _ l0).mono ?_; rintro e w1 ⟨rfl, l1⟩)
      go_ret
      exact ⟨rfl, Later.trans_ l0 l1⟩
    · have h3 : a = b := by rcases h with h | h | h <;> first | exact absurd h h1 | exact absurd h h2 | exact h
      have qt : ∀ w' : World, (Op.equalIn 10000 31 (.agg (U a).toArray) (.agg (U b).toArray)).run Tryd.prog w' = .ok true w' := fun w' => by rw [qe.out w', decide_eq_true h3]
      have f1 : decide ((60 : Int) < (kp : Int)) = false := decide_eq_false (by omega)
      have f2 : decide ((60 : Int) < (kq : Int)) = false := decide_eq_false (by omega)
      clear h3 h qe
      go_enter Tryd.func8, Tryd.ntmps8
      go_wp2_with (first
        | (go_at_call 9; refine (HS.out _ l0).mono ?_; rintro e w1 ⟨rfl, l1⟩)
        | ((with_reducible refine wpList_load_g (o := ⟨some 27, .load 31 (.tmp 7), _, _, _, _⟩) _ _ rfl w.heap.size 31 (U a) _ ?_ ?_ ba Tryd.underlying31 ?_ (dig_sz HA.out.1) ?_); rfl; rfl; rfl)
        | ((with_reducible refine wpList_load_g (o := ⟨some 28, .load 31 (.tmp 8), _, _, _, _⟩) _ _ rfl (w.heap.size + 1) 31 (U b) _ ?_ ?_ bb Tryd.underlying31 ?_ (dig_sz HB.out.1) ?_); rfl; rfl; rfl))
      go_ret
      exact ⟨rfl, Later.trans_ l0 l1⟩

set_option maxRecDepth 100000 in
set_option maxHeartbeats 4000000 in
theorem bind_any (a b rt : Wm.Bs) (i n : Int) (A : Option Addr) (kp cp : Nat) (B : Option Addr) (kq cq : Nat) (lp lq : List Wm.Bs) (w : World) (tab : Tab w) (tab0 : Tab0 w) (ha : a.length = 16 ∧ Wm.isBs a) (hb : b.length = 16 ∧ Wm.isBs b) (hr : rt.length = 16 ∧ Wm.isBs rt)
    (h1 : ¬ 60 < kp) (h2 : ¬ 60 < kq) (hab : a ≠ b) (hsp : Sl w 16 A kp (Ds lp)) (hlp : isD lp) (hcp : kp ≤ cp) (hmp : cp ≤ maxLen) (hsq : Sl w 16 B kq (Ds lq)) (hlq : isD lq) (hcq : kq ≤ cq) (hmq : cq ≤ maxLen) :
    Calls Tryd.prog 8 #[.agg (U a).toArray, .agg (U b).toArray, .int .i64 i, .int .i64 n, .slice A kp cp, .slice B kq cq, .agg (U rt).toArray] w fun e w' => e = .returned (.bool true) ∧ Later w w' := by
  have HS := Lib.hid fun w' (h : Later w w') => sanity_any w' (tab.keep h) (tab0.keep h)
  obtain ⟨o1, c1, d1⟩ := ck_any a rt i n A kp cp lp w ha hr hsp hlp hcp hmp tab
  obtain ⟨o2, c2, d2⟩ := ck_any b rt i n B kq cq lq w hb hr hsq hlq hcq hmq tab
  have HC1 := Lib.hid c1; have HC2 := Lib.hid c2; have HD1 := Lib.hid d1; have HD2 := Lib.hid d2
  obtain ⟨Xa, hXa⟩ : ∃ X, X = (U a).toArray := ⟨_, rfl⟩
  obtain ⟨Xb, hXb⟩ : ∃ X, X = (U b).toArray := ⟨_, rfl⟩
  obtain ⟨Xr, hXr⟩ : ∃ X, X = (U rt).toArray := ⟨_, rfl⟩
  have ba : Blk (((w.alloc (.cells Xa 31)).alloc (.cells Xb 31)).alloc (.cells Xr 31)) w.heap.size 31 (U a) := ((Blk.new w 31 Xa (U a) hXa).alloc _).alloc _
  have bb : Blk (((w.alloc (.cells Xa 31)).alloc (.cells Xb 31)).alloc (.cells Xr 31)) (w.heap.size + 1) 31 (U b) := (Blk.new' (w.alloc (.cells Xa 31)) (w.heap.size + 1) 31 Xb (U b) (by simp) hXb).alloc _
  have br : Blk (((w.alloc (.cells Xa 31)).alloc (.cells Xb 31)).alloc (.cells Xr 31)) (w.heap.size + 1 + 1) 31 (U rt) := Blk.new' ((w.alloc (.cells Xa 31)).alloc (.cells Xb 31)) (w.heap.size + 1 + 1) 31 Xr (U rt) (by simp) hXr
  have l0 : Later w (((w.alloc (.cells Xa 31)).alloc (.cells Xb 31)).alloc (.cells Xr 31)) := (((Below.refl w.heap.size w).alloc (Nat.le_refl _) _).alloc (by simp) _).alloc (by simp; omega) _
  have hgd : Tryd.prog.eqGuardType Tryd.prog.depth 31 = false := by kernel_rfl
  have HA := Lib.hid ha; have HB := Lib.hid hb; have HR := Lib.hid hr
  rw [← hXa, ← hXb, ← hXr]
  have qt : ∀ w' : World, (Op.equalIn 10000 31 (.agg (U a).toArray) (.agg (U b).toArray)).run Tryd.prog w' = .ok false w' := fun w' => by rw [dig_eq HA.out.1 HB.out.1 w', decide_eq_false hab]
  have HT := Lib.hid tab; have HSP := Lib.hid hsp; have HSQ := Lib.hid hsq; have HLP := Lib.hid hlp; have HLQ := Lib.hid hlq; have HAB := Lib.hid hab
  clear tab tab0 hXa hXb hXr ha hb hr c1 c2 d1 d2 hsp hsq hlp hlq hab
  have f1 : decide ((60 : Int) < (kp : Int)) = false := decide_eq_false (by omega)
  have f2 : decide ((60 : Int) < (kq : Int)) = false := decide_eq_false (by omega)
  cases o1 with
  | false =>
    go_enter Tryd.func8, Tryd.ntmps8
    go_wp2_with (first
      | (go_at_call 9; refine (HS.out _ l2).mono ?_; rintro e w1 ⟨rfl, l1⟩)
      | (go_at_call 29; (with_reducible refine (HC1.out _ l0).mono ?_); rintro e v1 ⟨rfl, m1⟩; have l2 := Later.trans_ l0 m1)
      | ((with_reducible refine wpList_load_g (o := ⟨some 27, .load 31 (.tmp 7), _, _, _, _⟩) _ _ rfl w.heap.size 31 (U a) _ ?_ ?_ ba Tryd.underlying31 ?_ (dig_sz HA.out.1) ?_); rfl; rfl; rfl)
      | ((with_reducible refine wpList_load_g (o := ⟨some 28, .load 31 (.tmp 8), _, _, _, _⟩) _ _ rfl (w.heap.size + 1) 31 (U b) _ ?_ ?_ bb Tryd.underlying31 ?_ (dig_sz HB.out.1) ?_); rfl; rfl; rfl)
      | ((with_reducible refine wpList_load_blk (o := ⟨some 32, .load 31 (.tmp 7), _, _, _, none⟩) rfl _ _ rfl w.heap.size 31 (U a) _ ?_ ba Tryd.underlying31 rfl (dig_sz HA.out.1) ?_); rfl)
      | ((with_reducible refine wpList_load_blk (o := ⟨some 36, .load 31 (.tmp 13), _, _, _, none⟩) rfl _ _ rfl (w.heap.size + 1 + 1) 31 (U rt) _ ?_ br Tryd.underlying31 rfl (dig_sz HR.out.1) ?_); rfl))
    go_ret
    exact ⟨rfl, Later.trans_ l2 l1⟩
  | true =>
  cases o2 with
  | false =>
    go_enter Tryd.func8, Tryd.ntmps8
    go_wp2_with (first
      | (go_at_call 9; refine (HS.out _ l3).mono ?_; rintro e w1 ⟨rfl, l1⟩)
      | (go_at_call 29; (with_reducible refine (HC2.out _ l2).mono ?_); rintro e v2 ⟨rfl, m2⟩; have l3 := Later.trans_ l2 m2)
      | (go_at_call 29; (with_reducible refine (HC1.out _ l0).mono ?_); rintro e v1 ⟨rfl, m1⟩; have l2 := Later.trans_ l0 m1; replace bb := bb.keep m1; replace br := br.keep m1)
      | ((with_reducible refine wpList_load_g (o := ⟨some 27, .load 31 (.tmp 7), _, _, _, _⟩) _ _ rfl w.heap.size 31 (U a) _ ?_ ?_ ba Tryd.underlying31 ?_ (dig_sz HA.out.1) ?_); rfl; rfl; rfl)
      | ((with_reducible refine wpList_load_g (o := ⟨some 28, .load 31 (.tmp 8), _, _, _, _⟩) _ _ rfl (w.heap.size + 1) 31 (U b) _ ?_ ?_ bb Tryd.underlying31 ?_ (dig_sz HB.out.1) ?_); rfl; rfl; rfl)
      | ((with_reducible refine wpList_load_blk (o := ⟨some 32, .load 31 (.tmp 7), _, _, _, none⟩) rfl _ _ rfl w.heap.size 31 (U a) _ ?_ ba Tryd.underlying31 rfl (dig_sz HA.out.1) ?_); rfl)
      | ((with_reducible refine wpList_load_blk (o := ⟨some 36, .load 31 (.tmp 13), _, _, _, none⟩) rfl _ _ rfl (w.heap.size + 1 + 1) 31 (U rt) _ ?_ br Tryd.underlying31 rfl (dig_sz HR.out.1) ?_); rfl)
      | ((with_reducible refine wpList_load_g (o := ⟨some 40, .load 31 (.tmp 8), _, _, _, _⟩) _ _ rfl (w.heap.size + 1) 31 (U b) _ ?_ ?_ bb Tryd.underlying31 ?_ (dig_sz HB.out.1) ?_); rfl; rfl; rfl)
      | ((with_reducible refine wpList_load_g (o := ⟨some 44, .load 31 (.tmp 13), _, _, _, _⟩) _ _ rfl (w.heap.size + 1 + 1) 31 (U rt) _ ?_ ?_ br Tryd.underlying31 ?_ (dig_sz HR.out.1) ?_); rfl; rfl; rfl))
    go_ret
    exact ⟨rfl, Later.trans_ l3 l1⟩
  | true =>
    obtain ⟨i', n', rfl, rfl, hin, hn, hlp, hfp⟩ := HD1.out rfl
    obtain ⟨i2, n2, e1, e2, _, _, hlq, hfq⟩ := HD2.out rfl
    obtain rfl : i' = i2 := by omega
    obtain rfl : n' = n2 := by omega
    clear e1 e2 HD1 HD2
    have HLPn : Hid (lp.length = (Mk.trn i' n').length) := Lib.hid (by rw [Mk.trn_len n' i' n' (Nat.le_refl _)]; exact hlp)
    have HLQn : Hid (lq.length = (Mk.trn i' n').length) := Lib.hid (by rw [Mk.trn_len n' i' n' (Nat.le_refl _)]; exact hlq)
    have HMT := Lib.hid (Mk.meet nodeD (Mk.trn i' n') lp lq a b HLPn.out HLQn.out HAB.out (by rw [hfp, hfq]))
    have HS1 := Lib.hid fun w' (h : Later w w') => steps_any a i' n' A kp cp lp w' hin hn HA.out (HSP.out.keep h) HLP.out (by omega) (HT.out.keep h)
    have HS2 := Lib.hid fun w' (h : Later w w') => steps_any b i' n' B kq cq lq w' hin hn HB.out (HSQ.out.keep h) HLQ.out (by omega) (HT.out.keep h)
    have HX := Lib.hid (Mk.stp_all nodeD (fun d => d.length = 16 ∧ Wm.isBs d) (fun _ _ => ⟨nodeD_len _ _, nodeD_bs _ _⟩) (Mk.trn i' n') lp a HA.out HLP.out)
    have HY := Lib.hid (Mk.stp_all nodeD (fun d => d.length = 16 ∧ Wm.isBs d) (fun _ _ => ⟨nodeD_len _ _, nodeD_bs _ _⟩) (Mk.trn i' n') lq b HB.out HLQ.out)
    obtain ⟨N, hN⟩ : ∃ N, N = (Mk.trn i' n').length := ⟨_, rfl⟩
    have hN60 : N ≤ 60 := by have h := HSP.out.dlen HLP.out; rw [hN, ← HLPn.out, h]; omega
    have HXL : Hid ((Mk.stp nodeD a (Mk.trn i' n') lp).length = N) := Lib.hid (by rw [Mk.stp_len _ _ _ _ HLPn.out, hN])
    have HYL : Hid ((Mk.stp nodeD b (Mk.trn i' n') lq).length = N) := Lib.hid (by rw [Mk.stp_len _ _ _ _ HLQn.out, hN])
    obtain ⟨xs, hxs⟩ : ∃ xs, xs = Mk.stp nodeD a (Mk.trn i' n') lp := ⟨_, rfl⟩
    obtain ⟨ys, hys⟩ : ∃ ys, ys = Mk.stp nodeD b (Mk.trn i' n') lq := ⟨_, rfl⟩
    rw [← hxs] at HS1 HX HXL HMT
    rw [← hys] at HS2 HY HYL HMT
    obtain ⟨J, Xj, Yj, hxj, hyj, hne, hnn⟩ := HMT.out
    have hJN : J < N := by
      rcases Nat.lt_or_ge J xs.length with h | h
      · rw [HXL.out] at h; exact h
      · rw [List.getElem?_eq_none h] at hxj; cases hxj
    have HJ : Hid (xs[J]? = some Xj ∧ ys[J]? = some Yj ∧ Xj ≠ Yj ∧ nodeD Xj.1 Xj.2 = nodeD Yj.1 Yj.2) := Lib.hid ⟨hxj, hyj, hne, hnn⟩
    clear HMT hxj hyj hne hnn hxs hys hN hlp hlq hfp hfq HLPn HLQn hin hn
    go_enter Tryd.func8, Tryd.ntmps8
    go_wp2_with (first
      | (go_at_call 31; (with_reducible refine (HS2.out _ l4).mono ?_); rintro e v4 ⟨A2, m2, c2, rfl, hm2, sy, hc2, j4⟩; have l5 := Later.trans_ l4 j4; have sx5 := sx.keep j4; have hm2' : N = m2 := (by rw [hm2]; exact HYL.out.symm); clear hm2; subst hm2')
      | (go_at_call 31; (with_reducible refine (HS1.out _ l3).mono ?_); rintro e v3 ⟨A1, m1, c1, rfl, hm1, sx, hc1, j3⟩; have l4 := Later.trans_ l3 j3; replace bb := bb.keep j3; have hm1' : N = m1 := (by rw [hm1]; exact HXL.out.symm); clear hm1; subst hm1')
      | (go_at_call 29; (with_reducible refine (HC2.out _ l2).mono ?_); rintro e v2 ⟨rfl, j2⟩; have l3 := Later.trans_ l2 j2; replace ba := ba.keep j2; replace bb := bb.keep j2)
      | (go_at_call 29; (with_reducible refine (HC1.out _ l0).mono ?_); rintro e v1 ⟨rfl, j1⟩; have l2 := Later.trans_ l0 j1; replace ba := ba.keep j1; replace bb := bb.keep j1; replace br := br.keep j1)
      | ((with_reducible refine wpList_load_g (o := ⟨some 27, .load 31 (.tmp 7), _, _, _, _⟩) _ _ rfl w.heap.size 31 (U a) _ ?_ ?_ ba Tryd.underlying31 ?_ (dig_sz HA.out.1) ?_); rfl; rfl; rfl)
      | ((with_reducible refine wpList_load_g (o := ⟨some 28, .load 31 (.tmp 8), _, _, _, _⟩) _ _ rfl (w.heap.size + 1) 31 (U b) _ ?_ ?_ bb Tryd.underlying31 ?_ (dig_sz HB.out.1) ?_); rfl; rfl; rfl)
      | ((with_reducible refine wpList_load_blk (o := ⟨some 32, .load 31 (.tmp 7), _, _, _, none⟩) rfl _ _ rfl w.heap.size 31 (U a) _ ?_ ba Tryd.underlying31 rfl (dig_sz HA.out.1) ?_); rfl)
      | ((with_reducible refine wpList_load_blk (o := ⟨some 36, .load 31 (.tmp 13), _, _, _, none⟩) rfl _ _ rfl (w.heap.size + 1 + 1) 31 (U rt) _ ?_ br Tryd.underlying31 rfl (dig_sz HR.out.1) ?_); rfl)
      | ((with_reducible refine wpList_load_g (o := ⟨some 40, .load 31 (.tmp 8), _, _, _, _⟩) _ _ rfl (w.heap.size + 1) 31 (U b) _ ?_ ?_ bb Tryd.underlying31 ?_ (dig_sz HB.out.1) ?_); rfl; rfl; rfl)
      | ((with_reducible refine wpList_load_g (o := ⟨some 44, .load 31 (.tmp 13), _, _, _, _⟩) _ _ rfl (w.heap.size + 1 + 1) 31 (U rt) _ ?_ ?_ br Tryd.underlying31 ?_ (dig_sz HR.out.1) ?_); rfl; rfl; rfl)
      | ((with_reducible refine wpList_load_blk (o := ⟨some 49, .load 31 (.tmp 7), _, _, _, none⟩) rfl _ _ rfl w.heap.size 31 (U a) _ ?_ ba Tryd.underlying31 rfl (dig_sz HA.out.1) ?_); rfl)
      | ((with_reducible refine wpList_load_blk (o := ⟨some 54, .load 31 (.tmp 8), _, _, _, none⟩) rfl _ _ rfl (w.heap.size + 1) 31 (U b) _ ?_ bb Tryd.underlying31 rfl (dig_sz HB.out.1) ?_); rfl))
    clear ba bb br l0 l2 l3 l4 HC1 HC2 HS1 HS2 qt f1 f2 sx
    go_loopw [17] (fun v wr => ∃ k : Nat, v = .int .i64 k ∧ k ≤ J ∧ Sl wr 32 A1 N (Prs xs) ∧ Sl wr 32 A2 N (Prs ys) ∧ Later w wr) (fun v _ => N - (intOf v).toNat)
    case atStart => exact ⟨0, by go_num, Nat.zero_le _, sx5, sy, l5⟩
    case round =>
      clear sx5 sy l5
      obtain ⟨k, rfl, hkJ, slx, sly, lr⟩ := hrel
      have zk : (k : Int) < (N : Int) := by omega
      have hkx : k < xs.length := by rw [HXL.out]; omega
      have hky : k < ys.length := by rw [HYL.out]; omega
      obtain ⟨X, hX⟩ : ∃ X, X = xs[k] := ⟨_, rfl⟩
      obtain ⟨Y, hY⟩ : ∃ Y, Y = ys[k] := ⟨_, rfl⟩
      have hx? : xs[k]? = some X := by rw [List.getElem?_eq_getElem hkx, hX]
      have hy? : ys[k]? = some Y := by rw [List.getElem?_eq_getElem hky, hY]
      have HXP : Hid (isP X) := Lib.hid (by rw [hX]; exact HX.out _ (List.getElem_mem hkx))
      have HYP : Hid (isP Y) := Lib.hid (by rw [hY]; exact HY.out _ (List.getElem_mem hky))
      have HKJ : Hid (k = J → X ≠ Y ∧ nodeD X.1 X.2 = nodeD Y.1 Y.2) := Lib.hid fun e => by
        subst e
        obtain ⟨h1, h2, h3, h4⟩ := HJ.out
        rw [hx?] at h1; rw [hy?] at h2
        cases h1; cases h2
        exact ⟨h3, h4⟩
      obtain ⟨adx, eX, _⟩ := slx.pair HX.out hx?
      obtain ⟨ady, eY, _⟩ := sly.pair HY.out hy?
      subst eX
      subst eY
      have HCX := Lib.hid fun (w' : World) (s : Sl w' 32 (some adx) N (Prs xs)) (j : Nat) (v : Value) (hv : (U (X.1 ++ X.2))[j]? = some v) => (by
        obtain ⟨ad, e, hc⟩ := s.pair HX.out hx?
        cases e
        exact hc j v hv : w'.cell? ((adx.add (k * 32)).add j) = some v)
      have HCY := Lib.hid fun (w' : World) (s : Sl w' 32 (some ady) N (Prs ys)) (j : Nat) (v : Value) (hv : (U (Y.1 ++ Y.2))[j]? = some v) => (by
        obtain ⟨ad, e, hc⟩ := s.pair HY.out hy?
        cases e
        exact hc j v hv : w'.cell? ((ady.add (k * 32)).add j) = some v)
      clear hX hY
      obtain ⟨x1, x2⟩ := X
      obtain ⟨y1, y2⟩ := Y
      have hgd2 : Tryd.prog.eqGuardType Tryd.prog.depth 62 = false := by kernel_rfl
      have q2 : Hid (∀ w' : World, (Op.equalIn 10000 62 (.agg (U (x1 ++ x2)).toArray) (.agg (U (y1 ++ y2)).toArray)).run Tryd.prog w' = .ok (decide ((x1, x2) = (y1, y2))) w') := Lib.hid fun w' => p2_eq HXP.out.1.1 HXP.out.2.1 HYP.out.1.1 HYP.out.2.1 w'
      clear hkx hky hx? hy? HJ
      have HHX := Lib.hid (HCX.out)
      simp only at HCX HCY
      by_cases hxy : (x1, x2) = (y1, y2)
      · have hkne : k ≠ J := fun e => (HKJ.out e).1 hxy
        have q3 : ∀ w' : World, (Op.equalIn 10000 62 (.agg (U (x1 ++ x2)).toArray) (.agg (U (y1 ++ y2)).toArray)).run Tryd.prog w' = .ok true w' := fun w' => by rw [q2.out w', decide_eq_true hxy]
        clear HKJ q2 hxy HHX
        go_wp2_with fail
        refine wp_region_held_drew (S := fun w' => (∀ j v, (U (x1 ++ x2))[j]? = some v → w'.cell? ((adx.add (k * 32)).add j) = some v) ∧ (∀ j v, (U (y1 ++ y2))[j]? = some v → w'.cell? ((ady.add (k * 32)).add j) = some v)) (by kernel_rfl) ⟨HCX.out _ slx.drew, HCY.out _ sly.drew⟩ (fun hHeld => ?_)
        refine wpAnyH_take (i := 0) (oi := ⟨some 71, .move (.tmp 15), _, _, _, none⟩) (v := .slice (some adx) N c1) rfl (by kernel_rfl) (by kernel_rfl) (by kernel_rfl) (fun _ _ _ h => h) (Or.inl ⟨by rfl, fun _ _ => rfl⟩) hHeld ?_
        simp only [Act.put, List.setIfInBounds_toArray, List.set_cons_zero, List.set_cons_succ]
        refine wpAnyH_take (i := 1) (oi := ⟨some 72, .move (.tmp 17), _, _, _, none⟩) (v := .int .i64 k) rfl (by kernel_rfl) (by kernel_rfl) (by kernel_rfl) (fun _ _ _ h => h) (Or.inl ⟨by rfl, fun _ _ => rfl⟩) hHeld ?_
        simp only [Act.put, List.setIfInBounds_toArray, List.set_cons_zero, List.set_cons_succ]
        refine wpAnyH_take (i := 2) (oi := ⟨some 73, .indexAddr 60 (.tmp 71) (.tmp 72), _, _, _, none⟩) (v := .pointer (some (adx.add (k * 32)))) rfl (by kernel_rfl) (by kernel_rfl) (by kernel_rfl) (fun _ _ _ h => h) (Or.inl ⟨by rfl, fun w _ => by go_simp⟩) hHeld ?_
        simp only [Act.put, List.setIfInBounds_toArray, List.set_cons_zero, List.set_cons_succ]
        refine wpAnyH_take (i := 3) (oi := ⟨some 74, .load 62 (.tmp 73), _, _, _, none⟩) (v := .agg (U (x1 ++ x2)).toArray) rfl (by kernel_rfl) (by kernel_rfl) (by kernel_rfl) (fun _ _ _ h => h) (yieldsIf_load_addr (by rfl) _ _ rfl _ (by rfl) (U (x1 ++ x2)) _ (fun w h => h.1) Tryd.underlying62 rfl (p2_sz (by rw [List.length_append, HXP.out.1.1, HXP.out.2.1]))) hHeld ?_
        simp only [Act.put, List.setIfInBounds_toArray, List.set_cons_zero, List.set_cons_succ]
        refine wpAnyH_take (i := 4) (oi := ⟨some 75, .move (.tmp 16), _, _, _, none⟩) (v := .slice (some ady) N c2) rfl (by kernel_rfl) (by kernel_rfl) (by kernel_rfl) (fun _ _ _ h => h) (Or.inl ⟨by rfl, fun _ _ => rfl⟩) hHeld ?_
        simp only [Act.put, List.setIfInBounds_toArray, List.set_cons_zero, List.set_cons_succ]
        refine wpAnyH_take (i := 5) (oi := ⟨some 76, .move (.tmp 17), _, _, _, none⟩) (v := .int .i64 k) rfl (by kernel_rfl) (by kernel_rfl) (by kernel_rfl) (fun _ _ _ h => h) (Or.inl ⟨by rfl, fun _ _ => rfl⟩) hHeld ?_
        simp only [Act.put, List.setIfInBounds_toArray, List.set_cons_zero, List.set_cons_succ]
        refine wpAnyH_take (i := 6) (oi := ⟨some 77, .indexAddr 60 (.tmp 75) (.tmp 76), _, _, _, none⟩) (v := .pointer (some (ady.add (k * 32)))) rfl (by kernel_rfl) (by kernel_rfl) (by kernel_rfl) (fun _ _ _ h => h) (Or.inl ⟨by rfl, fun w _ => by go_simp⟩) hHeld ?_
        simp only [Act.put, List.setIfInBounds_toArray, List.set_cons_zero, List.set_cons_succ]
        refine wpAnyH_take (i := 7) (oi := ⟨some 78, .load 62 (.tmp 77), _, _, _, none⟩) (v := .agg (U (y1 ++ y2)).toArray) rfl (by kernel_rfl) (by kernel_rfl) (by kernel_rfl) (fun _ _ _ h => h) (yieldsIf_load_addr (by rfl) _ _ rfl _ (by rfl) (U (y1 ++ y2)) _ (fun w h => h.2) Tryd.underlying62 rfl (p2_sz (by rw [List.length_append, HYP.out.1.1, HYP.out.2.1]))) hHeld ?_
        simp only [Act.put, List.setIfInBounds_toArray, List.set_cons_zero, List.set_cons_succ]
        refine wpAnyH_take (i := 8) (oi := ⟨some 79, .binOp .neq 62 (.tmp 74) (.tmp 78) 62, _, _, _, none⟩) (v := .bool false) rfl (by kernel_rfl) (by kernel_rfl) (by kernel_rfl) (fun _ _ _ h => h) (Or.inl ⟨by rfl, fun w _ => by go_simp⟩) hHeld ?_
        simp only [Act.put, List.setIfInBounds_toArray, List.set_cons_zero, List.set_cons_succ]
        refine wpAnyH_take (i := 9) (oi := ⟨some 80, .move (.tmp 79), _, _, _, none⟩) (v := .bool false) rfl (by kernel_rfl) (by kernel_rfl) (by kernel_rfl) (fun _ _ _ h => h) (Or.inl ⟨by rfl, fun _ _ => rfl⟩) hHeld ?_
        simp only [Act.put, List.setIfInBounds_toArray, List.set_cons_zero, List.set_cons_succ]
        refine wpAnyH_take (i := 10) (oi := ⟨some 81, .move (.tmp 15), _, _, _, _⟩) (v := undef) rfl (by kernel_rfl) (by kernel_rfl) (by kernel_rfl) (fun _ _ _ h => h) (Or.inr ⟨by rfl, rfl⟩) hHeld ?_
        simp only [Act.put, List.setIfInBounds_toArray, List.set_cons_zero, List.set_cons_succ]
        refine wpAnyH_take (i := 11) (oi := ⟨some 82, .move (.tmp 17), _, _, _, _⟩) (v := undef) rfl (by kernel_rfl) (by kernel_rfl) (by kernel_rfl) (fun _ _ _ h => h) (Or.inr ⟨by rfl, rfl⟩) hHeld ?_
        simp only [Act.put, List.setIfInBounds_toArray, List.set_cons_zero, List.set_cons_succ]
        refine wpAnyH_take (i := 12) (oi := ⟨some 83, .indexAddr 60 (.tmp 81) (.tmp 82), _, _, _, _⟩) (v := undef) rfl (by kernel_rfl) (by kernel_rfl) (by kernel_rfl) (fun _ _ _ h => h) (Or.inr ⟨by rfl, rfl⟩) hHeld ?_
        simp only [Act.put, List.setIfInBounds_toArray, List.set_cons_zero, List.set_cons_succ]
        refine wpAnyH_take (i := 13) (oi := ⟨some 84, .indexAddr 62 (.tmp 83) (.const (.int .i64 0)), _, _, _, _⟩) (v := undef) rfl (by kernel_rfl) (by kernel_rfl) (by kernel_rfl) (fun _ _ _ h => h) (Or.inr ⟨by rfl, rfl⟩) hHeld ?_
        simp only [Act.put, List.setIfInBounds_toArray, List.set_cons_zero, List.set_cons_succ]
        refine wpAnyH_take (i := 14) (oi := ⟨some 85, .load 31 (.tmp 84), _, _, _, _⟩) (v := undef) rfl (by kernel_rfl) (by kernel_rfl) (by kernel_rfl) (fun _ _ _ h => h) (Or.inr ⟨by rfl, rfl⟩) hHeld ?_
        simp only [Act.put, List.setIfInBounds_toArray, List.set_cons_zero, List.set_cons_succ]
        refine wpAnyH_take (i := 15) (oi := ⟨some 86, .move (.tmp 15), _, _, _, _⟩) (v := undef) rfl (by kernel_rfl) (by kernel_rfl) (by kernel_rfl) (fun _ _ _ h => h) (Or.inr ⟨by rfl, rfl⟩) hHeld ?_
        simp only [Act.put, List.setIfInBounds_toArray, List.set_cons_zero, List.set_cons_succ]
        refine wpAnyH_take (i := 16) (oi := ⟨some 87, .move (.tmp 17), _, _, _, _⟩) (v := undef) rfl (by kernel_rfl) (by kernel_rfl) (by kernel_rfl) (fun _ _ _ h => h) (Or.inr ⟨by rfl, rfl⟩) hHeld ?_
        simp only [Act.put, List.setIfInBounds_toArray, List.set_cons_zero, List.set_cons_succ]
        refine wpAnyH_take (i := 17) (oi := ⟨some 88, .indexAddr 60 (.tmp 86) (.tmp 87), _, _, _, _⟩) (v := undef) rfl (by kernel_rfl) (by kernel_rfl) (by kernel_rfl) (fun _ _ _ h => h) (Or.inr ⟨by rfl, rfl⟩) hHeld ?_
        simp only [Act.put, List.setIfInBounds_toArray, List.set_cons_zero, List.set_cons_succ]
        refine wpAnyH_take (i := 18) (oi := ⟨some 89, .indexAddr 62 (.tmp 88) (.const (.int .i64 1)), _, _, _, _⟩) (v := undef) rfl (by kernel_rfl) (by kernel_rfl) (by kernel_rfl) (fun _ _ _ h => h) (Or.inr ⟨by rfl, rfl⟩) hHeld ?_
        simp only [Act.put, List.setIfInBounds_toArray, List.set_cons_zero, List.set_cons_succ]
        refine wpAnyH_take (i := 19) (oi := ⟨some 90, .load 31 (.tmp 89), _, _, _, _⟩) (v := undef) rfl (by kernel_rfl) (by kernel_rfl) (by kernel_rfl) (fun _ _ _ h => h) (Or.inr ⟨by rfl, rfl⟩) hHeld ?_
        simp only [Act.put, List.setIfInBounds_toArray, List.set_cons_zero, List.set_cons_succ]
        refine wpAnyH_take (i := 20) (oi := ⟨some 91, .call { callee := .value (.func 19), args := #[.tmp 85, .tmp 90], argTypes := #[31, 31] }, _, _, _, _⟩) (v := undef) rfl (by kernel_rfl) (by kernel_rfl) (by kernel_rfl) (fun _ _ _ h => h) (Or.inr ⟨by rfl, rfl⟩) hHeld ?_
        simp only [Act.put, List.setIfInBounds_toArray, List.set_cons_zero, List.set_cons_succ]
        refine wpAnyH_take (i := 21) (oi := ⟨some 92, .move (.tmp 16), _, _, _, _⟩) (v := undef) rfl (by kernel_rfl) (by kernel_rfl) (by kernel_rfl) (fun _ _ _ h => h) (Or.inr ⟨by rfl, rfl⟩) hHeld ?_
        simp only [Act.put, List.setIfInBounds_toArray, List.set_cons_zero, List.set_cons_succ]
        refine wpAnyH_take (i := 22) (oi := ⟨some 93, .move (.tmp 17), _, _, _, _⟩) (v := undef) rfl (by kernel_rfl) (by kernel_rfl) (by kernel_rfl) (fun _ _ _ h => h) (Or.inr ⟨by rfl, rfl⟩) hHeld ?_
        simp only [Act.put, List.setIfInBounds_toArray, List.set_cons_zero, List.set_cons_succ]
        refine wpAnyH_take (i := 23) (oi := ⟨some 94, .indexAddr 60 (.tmp 92) (.tmp 93), _, _, _, _⟩) (v := undef) rfl (by kernel_rfl) (by kernel_rfl) (by kernel_rfl) (fun _ _ _ h => h) (Or.inr ⟨by rfl, rfl⟩) hHeld ?_
        simp only [Act.put, List.setIfInBounds_toArray, List.set_cons_zero, List.set_cons_succ]
        refine wpAnyH_take (i := 24) (oi := ⟨some 95, .indexAddr 62 (.tmp 94) (.const (.int .i64 0)), _, _, _, _⟩) (v := undef) rfl (by kernel_rfl) (by kernel_rfl) (by kernel_rfl) (fun _ _ _ h => h) (Or.inr ⟨by rfl, rfl⟩) hHeld ?_
        simp only [Act.put, List.setIfInBounds_toArray, List.set_cons_zero, List.set_cons_succ]
        refine wpAnyH_take (i := 25) (oi := ⟨some 96, .load 31 (.tmp 95), _, _, _, _⟩) (v := undef) rfl (by kernel_rfl) (by kernel_rfl) (by kernel_rfl) (fun _ _ _ h => h) (Or.inr ⟨by rfl, rfl⟩) hHeld ?_
        simp only [Act.put, List.setIfInBounds_toArray, List.set_cons_zero, List.set_cons_succ]
        refine wpAnyH_take (i := 26) (oi := ⟨some 97, .move (.tmp 16), _, _, _, _⟩) (v := undef) rfl (by kernel_rfl) (by kernel_rfl) (by kernel_rfl) (fun _ _ _ h => h) (Or.inr ⟨by rfl, rfl⟩) hHeld ?_
        simp only [Act.put, List.setIfInBounds_toArray, List.set_cons_zero, List.set_cons_succ]
        refine wpAnyH_take (i := 27) (oi := ⟨some 98, .move (.tmp 17), _, _, _, _⟩) (v := undef) rfl (by kernel_rfl) (by kernel_rfl) (by kernel_rfl) (fun _ _ _ h => h) (Or.inr ⟨by rfl, rfl⟩) hHeld ?_
        simp only [Act.put, List.setIfInBounds_toArray, List.set_cons_zero, List.set_cons_succ]
        refine wpAnyH_take (i := 28) (oi := ⟨some 99, .indexAddr 60 (.tmp 97) (.tmp 98), _, _, _, _⟩) (v := undef) rfl (by kernel_rfl) (by kernel_rfl) (by kernel_rfl) (fun _ _ _ h => h) (Or.inr ⟨by rfl, rfl⟩) hHeld ?_
        simp only [Act.put, List.setIfInBounds_toArray, List.set_cons_zero, List.set_cons_succ]
        refine wpAnyH_take (i := 29) (oi := ⟨some 100, .indexAddr 62 (.tmp 99) (.const (.int .i64 1)), _, _, _, _⟩) (v := undef) rfl (by kernel_rfl) (by kernel_rfl) (by kernel_rfl) (fun _ _ _ h => h) (Or.inr ⟨by rfl, rfl⟩) hHeld ?_
        simp only [Act.put, List.setIfInBounds_toArray, List.set_cons_zero, List.set_cons_succ]
        refine wpAnyH_take (i := 30) (oi := ⟨some 101, .load 31 (.tmp 100), _, _, _, _⟩) (v := undef) rfl (by kernel_rfl) (by kernel_rfl) (by kernel_rfl) (fun _ _ _ h => h) (Or.inr ⟨by rfl, rfl⟩) hHeld ?_
        simp only [Act.put, List.setIfInBounds_toArray, List.set_cons_zero, List.set_cons_succ]
        refine wpAnyH_take (i := 31) (oi := ⟨some 102, .call { callee := .value (.func 19), args := #[.tmp 96, .tmp 101], argTypes := #[31, 31] }, _, _, _, _⟩) (v := undef) rfl (by kernel_rfl) (by kernel_rfl) (by kernel_rfl) (fun _ _ _ h => h) (Or.inr ⟨by rfl, rfl⟩) hHeld ?_
        simp only [Act.put, List.setIfInBounds_toArray, List.set_cons_zero, List.set_cons_succ]
        refine wpAnyH_take (i := 32) (oi := ⟨some 103, .binOp .eql 31 (.tmp 91) (.tmp 102) 31, _, _, _, _⟩) (v := undef) rfl (by kernel_rfl) (by kernel_rfl) (by kernel_rfl) (fun _ _ _ h => h) (Or.inr ⟨by rfl, rfl⟩) hHeld ?_
        simp only [Act.put, List.setIfInBounds_toArray, List.set_cons_zero, List.set_cons_succ]
        refine wpAnyH_take (i := 33) (oi := ⟨some 104, .pick (.tmp 80) (.tmp 103) (.const (.bool false)), _, _, _, none⟩) (v := .bool false) rfl (by kernel_rfl) (by kernel_rfl) (by kernel_rfl) (fun _ _ _ h => h) (Or.inl ⟨by rfl, fun w _ => by go_simp⟩) hHeld ?_
        simp only [Act.put, List.setIfInBounds_toArray, List.set_cons_zero, List.set_cons_succ]
        refine wpAnyH_done (by kernel_rfl) ?_ _
        clear hHeld
        go_wp2
        go_roundw
        case rel => exact ⟨k + 1, by go_num, by omega, slx.drew, sly.drew, lr.drew⟩
        case measure => simp [intOf]; omega
      · have q3 : ∀ w' : World, (Op.equalIn 10000 62 (.agg (U (x1 ++ x2)).toArray) (.agg (U (y1 ++ y2)).toArray)).run Tryd.prog w' = .ok false w' := fun w' => by rw [q2.out w', decide_eq_false hxy]
        have hNl : (nodeD x1 x2).length = 16 := nodeD_len _ _
        have hMl : (nodeD y1 y2).length = 16 := nodeD_len _ _
        have HNX := Lib.hid fun (w' : World) (h : Later w w') => node_any x1 x2 w' HXP.out.1.1 HXP.out.2.1 (HT.out.keep h)
        have HNY := Lib.hid fun (w' : World) (h : Later w w') => node_any y1 y2 w' HYP.out.1.1 HYP.out.2.1 (HT.out.keep h)
        have HKN : Hid (k = J → nodeD x1 x2 = nodeD y1 y2) := Lib.hid fun e => (HKJ.out e).2
        obtain ⟨NX, eNX⟩ : ∃ z, z = nodeD x1 x2 := ⟨_, rfl⟩
        obtain ⟨NY, eNY⟩ : ∃ z, z = nodeD y1 y2 := ⟨_, rfl⟩
        rw [← eNX] at HNX HKN hNl
        rw [← eNY] at HNY HKN hMl
        have q4 : Hid (∀ w' : World, (Op.equalIn 10000 31 (.agg (U NX).toArray) (.agg (U NY).toArray)).run Tryd.prog w' = .ok (decide (NX = NY)) w') := Lib.hid fun w' => dig_eq hNl hMl w'
        clear HKJ q2 hxy HHX eNX eNY hNl hMl
        by_cases hnn : NX = NY
        · have q5 : ∀ w' : World, (Op.equalIn 10000 31 (.agg (U NX).toArray) (.agg (U NY).toArray)).run Tryd.prog w' = .ok true w' := fun w' => by rw [q4.out w', decide_eq_true hnn]
          clear q4 hnn HKN
          go_wp2_with fail
          refine wp_region_held_drew (S := fun w' => (∀ j v, (U (x1 ++ x2))[j]? = some v → w'.cell? ((adx.add (k * 32)).add j) = some v) ∧ (∀ j v, (U (y1 ++ y2))[j]? = some v → w'.cell? ((ady.add (k * 32)).add j) = some v)) (by kernel_rfl) ⟨HCX.out _ slx.drew, HCY.out _ sly.drew⟩ (fun hHeld => ?_)
          refine wpAnyH_take (i := 0) (oi := ⟨some 71, .move (.tmp 15), _, _, _, none⟩) (v := .slice (some adx) N c1) rfl (by kernel_rfl) (by kernel_rfl) (by kernel_rfl) (fun _ _ _ h => h) (Or.inl ⟨by rfl, fun _ _ => rfl⟩) hHeld ?_
          simp only [Act.put, List.setIfInBounds_toArray, List.set_cons_zero, List.set_cons_succ]
          refine wpAnyH_take (i := 1) (oi := ⟨some 72, .move (.tmp 17), _, _, _, none⟩) (v := .int .i64 k) rfl (by kernel_rfl) (by kernel_rfl) (by kernel_rfl) (fun _ _ _ h => h) (Or.inl ⟨by rfl, fun _ _ => rfl⟩) hHeld ?_
          simp only [Act.put, List.setIfInBounds_toArray, List.set_cons_zero, List.set_cons_succ]
          refine wpAnyH_take (i := 2) (oi := ⟨some 73, .indexAddr 60 (.tmp 71) (.tmp 72), _, _, _, none⟩) (v := .pointer (some (adx.add (k * 32)))) rfl (by kernel_rfl) (by kernel_rfl) (by kernel_rfl) (fun _ _ _ h => h) (Or.inl ⟨by rfl, fun w _ => by go_simp⟩) hHeld ?_
          simp only [Act.put, List.setIfInBounds_toArray, List.set_cons_zero, List.set_cons_succ]
          refine wpAnyH_take (i := 3) (oi := ⟨some 74, .load 62 (.tmp 73), _, _, _, none⟩) (v := .agg (U (x1 ++ x2)).toArray) rfl (by kernel_rfl) (by kernel_rfl) (by kernel_rfl) (fun _ _ _ h => h) (yieldsIf_load_addr (by rfl) _ _ rfl _ (by rfl) (U (x1 ++ x2)) _ (fun w h => h.1) Tryd.underlying62 rfl (p2_sz (by rw [List.length_append, HXP.out.1.1, HXP.out.2.1]))) hHeld ?_
          simp only [Act.put, List.setIfInBounds_toArray, List.set_cons_zero, List.set_cons_succ]
          refine wpAnyH_take (i := 4) (oi := ⟨some 75, .move (.tmp 16), _, _, _, none⟩) (v := .slice (some ady) N c2) rfl (by kernel_rfl) (by kernel_rfl) (by kernel_rfl) (fun _ _ _ h => h) (Or.inl ⟨by rfl, fun _ _ => rfl⟩) hHeld ?_
          simp only [Act.put, List.setIfInBounds_toArray, List.set_cons_zero, List.set_cons_succ]
          refine wpAnyH_take (i := 5) (oi := ⟨some 76, .move (.tmp 17), _, _, _, none⟩) (v := .int .i64 k) rfl (by kernel_rfl) (by kernel_rfl) (by kernel_rfl) (fun _ _ _ h => h) (Or.inl ⟨by rfl, fun _ _ => rfl⟩) hHeld ?_
          simp only [Act.put, List.setIfInBounds_toArray, List.set_cons_zero, List.set_cons_succ]
          refine wpAnyH_take (i := 6) (oi := ⟨some 77, .indexAddr 60 (.tmp 75) (.tmp 76), _, _, _, none⟩) (v := .pointer (some (ady.add (k * 32)))) rfl (by kernel_rfl) (by kernel_rfl) (by kernel_rfl) (fun _ _ _ h => h) (Or.inl ⟨by rfl, fun w _ => by go_simp⟩) hHeld ?_
          simp only [Act.put, List.setIfInBounds_toArray, List.set_cons_zero, List.set_cons_succ]
          refine wpAnyH_take (i := 7) (oi := ⟨some 78, .load 62 (.tmp 77), _, _, _, none⟩) (v := .agg (U (y1 ++ y2)).toArray) rfl (by kernel_rfl) (by kernel_rfl) (by kernel_rfl) (fun _ _ _ h => h) (yieldsIf_load_addr (by rfl) _ _ rfl _ (by rfl) (U (y1 ++ y2)) _ (fun w h => h.2) Tryd.underlying62 rfl (p2_sz (by rw [List.length_append, HYP.out.1.1, HYP.out.2.1]))) hHeld ?_
          simp only [Act.put, List.setIfInBounds_toArray, List.set_cons_zero, List.set_cons_succ]
          refine wpAnyH_take (i := 8) (oi := ⟨some 79, .binOp .neq 62 (.tmp 74) (.tmp 78) 62, _, _, _, none⟩) (v := .bool true) rfl (by kernel_rfl) (by kernel_rfl) (by kernel_rfl) (fun _ _ _ h => h) (Or.inl ⟨by rfl, fun w _ => by go_simp⟩) hHeld ?_
          simp only [Act.put, List.setIfInBounds_toArray, List.set_cons_zero, List.set_cons_succ]
          refine wpAnyH_take (i := 9) (oi := ⟨some 80, .move (.tmp 79), _, _, _, none⟩) (v := .bool true) rfl (by kernel_rfl) (by kernel_rfl) (by kernel_rfl) (fun _ _ _ h => h) (Or.inl ⟨by rfl, fun _ _ => rfl⟩) hHeld ?_
          simp only [Act.put, List.setIfInBounds_toArray, List.set_cons_zero, List.set_cons_succ]
          refine wpAnyH_take (i := 10) (oi := ⟨some 81, .move (.tmp 15), _, _, _, _⟩) (v := .slice (some adx) N c1) rfl (by kernel_rfl) (by kernel_rfl) (by kernel_rfl) (fun _ _ _ h => h) (Or.inl ⟨by rfl, fun _ _ => rfl⟩) hHeld ?_
          simp only [Act.put, List.setIfInBounds_toArray, List.set_cons_zero, List.set_cons_succ]
          refine wpAnyH_take (i := 11) (oi := ⟨some 82, .move (.tmp 17), _, _, _, _⟩) (v := .int .i64 k) rfl (by kernel_rfl) (by kernel_rfl) (by kernel_rfl) (fun _ _ _ h => h) (Or.inl ⟨by rfl, fun _ _ => rfl⟩) hHeld ?_
          simp only [Act.put, List.setIfInBounds_toArray, List.set_cons_zero, List.set_cons_succ]
          refine wpAnyH_take (i := 12) (oi := ⟨some 83, .indexAddr 60 (.tmp 81) (.tmp 82), _, _, _, _⟩) (v := .pointer (some (adx.add (k * 32)))) rfl (by kernel_rfl) (by kernel_rfl) (by kernel_rfl) (fun _ _ _ h => h) (Or.inl ⟨by rfl, fun w _ => by go_simp⟩) hHeld ?_
          simp only [Act.put, List.setIfInBounds_toArray, List.set_cons_zero, List.set_cons_succ]
          refine wpAnyH_take (i := 13) (oi := ⟨some 84, .indexAddr 62 (.tmp 83) (.const (.int .i64 0)), _, _, _, _⟩) (v := .pointer (some ((adx.add (k * 32)).add 0))) rfl (by kernel_rfl) (by kernel_rfl) (by kernel_rfl) (fun _ _ _ h => h) (Or.inl ⟨by rfl, fun w _ => by go_simp⟩) hHeld ?_
          simp only [Act.put, List.setIfInBounds_toArray, List.set_cons_zero, List.set_cons_succ]
          refine wpAnyH_take (i := 14) (oi := ⟨some 85, .load 31 (.tmp 84), _, _, _, _⟩) (v := .agg (U x1).toArray) rfl (by kernel_rfl) (by kernel_rfl) (by kernel_rfl) (fun _ _ _ h => h) (yieldsIf_load_addr (by rfl) _ _ rfl _ (by rfl) (U x1) _ (fun w h j u hu => halves0 HXP.out.1.1 (h.1) j u hu) Tryd.underlying31 rfl (dig_sz HXP.out.1.1)) hHeld ?_
          simp only [Act.put, List.setIfInBounds_toArray, List.set_cons_zero, List.set_cons_succ]
          refine wpAnyH_take (i := 15) (oi := ⟨some 86, .move (.tmp 15), _, _, _, _⟩) (v := .slice (some adx) N c1) rfl (by kernel_rfl) (by kernel_rfl) (by kernel_rfl) (fun _ _ _ h => h) (Or.inl ⟨by rfl, fun _ _ => rfl⟩) hHeld ?_
          simp only [Act.put, List.setIfInBounds_toArray, List.set_cons_zero, List.set_cons_succ]
          refine wpAnyH_take (i := 16) (oi := ⟨some 87, .move (.tmp 17), _, _, _, _⟩) (v := .int .i64 k) rfl (by kernel_rfl) (by kernel_rfl) (by kernel_rfl) (fun _ _ _ h => h) (Or.inl ⟨by rfl, fun _ _ => rfl⟩) hHeld ?_
          simp only [Act.put, List.setIfInBounds_toArray, List.set_cons_zero, List.set_cons_succ]
          refine wpAnyH_take (i := 17) (oi := ⟨some 88, .indexAddr 60 (.tmp 86) (.tmp 87), _, _, _, _⟩) (v := .pointer (some (adx.add (k * 32)))) rfl (by kernel_rfl) (by kernel_rfl) (by kernel_rfl) (fun _ _ _ h => h) (Or.inl ⟨by rfl, fun w _ => by go_simp⟩) hHeld ?_
          simp only [Act.put, List.setIfInBounds_toArray, List.set_cons_zero, List.set_cons_succ]
          refine wpAnyH_take (i := 18) (oi := ⟨some 89, .indexAddr 62 (.tmp 88) (.const (.int .i64 1)), _, _, _, _⟩) (v := .pointer (some ((adx.add (k * 32)).add 16))) rfl (by kernel_rfl) (by kernel_rfl) (by kernel_rfl) (fun _ _ _ h => h) (Or.inl ⟨by rfl, fun w _ => by go_simp⟩) hHeld ?_
          simp only [Act.put, List.setIfInBounds_toArray, List.set_cons_zero, List.set_cons_succ]
          refine wpAnyH_take (i := 19) (oi := ⟨some 90, .load 31 (.tmp 89), _, _, _, _⟩) (v := .agg (U x2).toArray) rfl (by kernel_rfl) (by kernel_rfl) (by kernel_rfl) (fun _ _ _ h => h) (yieldsIf_load_addr (by rfl) _ _ rfl _ (by rfl) (U x2) _ (fun w h j u hu => halves1 HXP.out.1.1 (h.1) j u hu) Tryd.underlying31 rfl (dig_sz HXP.out.2.1)) hHeld ?_
          simp only [Act.put, List.setIfInBounds_toArray, List.set_cons_zero, List.set_cons_succ]
          refine wpAnyH_take (i := 21) (oi := ⟨some 92, .move (.tmp 16), _, _, _, _⟩) (v := .slice (some ady) N c2) rfl (by kernel_rfl) (by kernel_rfl) (by kernel_rfl) (fun _ _ _ h => h) (Or.inl ⟨by rfl, fun _ _ => rfl⟩) hHeld ?_
          simp only [Act.put, List.setIfInBounds_toArray, List.set_cons_zero, List.set_cons_succ]
          refine wpAnyH_take (i := 22) (oi := ⟨some 93, .move (.tmp 17), _, _, _, _⟩) (v := .int .i64 k) rfl (by kernel_rfl) (by kernel_rfl) (by kernel_rfl) (fun _ _ _ h => h) (Or.inl ⟨by rfl, fun _ _ => rfl⟩) hHeld ?_
          simp only [Act.put, List.setIfInBounds_toArray, List.set_cons_zero, List.set_cons_succ]
          refine wpAnyH_take (i := 23) (oi := ⟨some 94, .indexAddr 60 (.tmp 92) (.tmp 93), _, _, _, _⟩) (v := .pointer (some (ady.add (k * 32)))) rfl (by kernel_rfl) (by kernel_rfl) (by kernel_rfl) (fun _ _ _ h => h) (Or.inl ⟨by rfl, fun w _ => by go_simp⟩) hHeld ?_
          simp only [Act.put, List.setIfInBounds_toArray, List.set_cons_zero, List.set_cons_succ]
          refine wpAnyH_take (i := 24) (oi := ⟨some 95, .indexAddr 62 (.tmp 94) (.const (.int .i64 0)), _, _, _, _⟩) (v := .pointer (some ((ady.add (k * 32)).add 0))) rfl (by kernel_rfl) (by kernel_rfl) (by kernel_rfl) (fun _ _ _ h => h) (Or.inl ⟨by rfl, fun w _ => by go_simp⟩) hHeld ?_
          simp only [Act.put, List.setIfInBounds_toArray, List.set_cons_zero, List.set_cons_succ]
          refine wpAnyH_take (i := 25) (oi := ⟨some 96, .load 31 (.tmp 95), _, _, _, _⟩) (v := .agg (U y1).toArray) rfl (by kernel_rfl) (by kernel_rfl) (by kernel_rfl) (fun _ _ _ h => h) (yieldsIf_load_addr (by rfl) _ _ rfl _ (by rfl) (U y1) _ (fun w h j u hu => halves0 HYP.out.1.1 (h.2) j u hu) Tryd.underlying31 rfl (dig_sz HYP.out.1.1)) hHeld ?_
          simp only [Act.put, List.setIfInBounds_toArray, List.set_cons_zero, List.set_cons_succ]
          refine wpAnyH_take (i := 26) (oi := ⟨some 97, .move (.tmp 16), _, _, _, _⟩) (v := .slice (some ady) N c2) rfl (by kernel_rfl) (by kernel_rfl) (by kernel_rfl) (fun _ _ _ h => h) (Or.inl ⟨by rfl, fun _ _ => rfl⟩) hHeld ?_
          simp only [Act.put, List.setIfInBounds_toArray, List.set_cons_zero, List.set_cons_succ]
          refine wpAnyH_take (i := 27) (oi := ⟨some 98, .move (.tmp 17), _, _, _, _⟩) (v := .int .i64 k) rfl (by kernel_rfl) (by kernel_rfl) (by kernel_rfl) (fun _ _ _ h => h) (Or.inl ⟨by rfl, fun _ _ => rfl⟩) hHeld ?_
          simp only [Act.put, List.setIfInBounds_toArray, List.set_cons_zero, List.set_cons_succ]
          refine wpAnyH_take (i := 28) (oi := ⟨some 99, .indexAddr 60 (.tmp 97) (.tmp 98), _, _, _, _⟩) (v := .pointer (some (ady.add (k * 32)))) rfl (by kernel_rfl) (by kernel_rfl) (by kernel_rfl) (fun _ _ _ h => h) (Or.inl ⟨by rfl, fun w _ => by go_simp⟩) hHeld ?_
          simp only [Act.put, List.setIfInBounds_toArray, List.set_cons_zero, List.set_cons_succ]
          refine wpAnyH_take (i := 29) (oi := ⟨some 100, .indexAddr 62 (.tmp 99) (.const (.int .i64 1)), _, _, _, _⟩) (v := .pointer (some ((ady.add (k * 32)).add 16))) rfl (by kernel_rfl) (by kernel_rfl) (by kernel_rfl) (fun _ _ _ h => h) (Or.inl ⟨by rfl, fun w _ => by go_simp⟩) hHeld ?_
          simp only [Act.put, List.setIfInBounds_toArray, List.set_cons_zero, List.set_cons_succ]
          refine wpAnyH_take (i := 30) (oi := ⟨some 101, .load 31 (.tmp 100), _, _, _, _⟩) (v := .agg (U y2).toArray) rfl (by kernel_rfl) (by kernel_rfl) (by kernel_rfl) (fun _ _ _ h => h) (yieldsIf_load_addr (by rfl) _ _ rfl _ (by rfl) (U y2) _ (fun w h j u hu => halves1 HYP.out.1.1 (h.2) j u hu) Tryd.underlying31 rfl (dig_sz HYP.out.2.1)) hHeld ?_
          simp only [Act.put, List.setIfInBounds_toArray, List.set_cons_zero, List.set_cons_succ]
          refine wpAnyH_ready (rs := [20]) (by kernel_rfl) (by simp) (AllReadyH.cons (o := ⟨some 91, .call { callee := .value (.func 19), args := #[.tmp 85, .tmp 90], argTypes := #[31, 31] }, _, _, _, _⟩) rfl (fun K' hK => ?_) (AllReadyH.nil))
          go_simp
          replace lr := lr.drew; replace slx := slx.drew; replace sly := sly.drew
          refine (HNX.out _ lr).mono ?_
          rintro e v1 ⟨rfl, k1'⟩
          replace slx := slx.keep k1'; replace sly := sly.keep k1'; replace lr := Later.trans_ lr k1'
          refine hK.out _ _ ⟨HCX.out _ slx, HCY.out _ sly⟩ (fun hHeld => ?_)
          clear hK K'
          try simp only [Act.put, List.setIfInBounds_toArray, List.set_cons_zero, List.set_cons_succ]
          refine wpAnyH_ready (rs := [31]) (by kernel_rfl) (by simp) (AllReadyH.cons (o := ⟨some 102, .call { callee := .value (.func 19), args := #[.tmp 96, .tmp 101], argTypes := #[31, 31] }, _, _, _, _⟩) rfl (fun K' hK => ?_) (AllReadyH.nil))
          go_simp
          refine (HNY.out _ lr).mono ?_
          rintro e v2 ⟨rfl, k2'⟩
          replace slx := slx.keep k2'; replace sly := sly.keep k2'; replace lr := Later.trans_ lr k2'
          refine hK.out _ _ ⟨HCX.out _ slx, HCY.out _ sly⟩ (fun hHeld => ?_)
          clear hK K'
          try simp only [Act.put, List.setIfInBounds_toArray, List.set_cons_zero, List.set_cons_succ]
          refine wpAnyH_take (i := 32) (oi := ⟨some 103, .binOp .eql 31 (.tmp 91) (.tmp 102) 31, _, _, _, _⟩) (v := .bool true) rfl (by kernel_rfl) (by kernel_rfl) (by kernel_rfl) (fun _ _ _ h => h) (Or.inl ⟨by rfl, fun w _ => by go_simp⟩) hHeld ?_
          simp only [Act.put, List.setIfInBounds_toArray, List.set_cons_zero, List.set_cons_succ]
          refine wpAnyH_take (i := 33) (oi := ⟨some 104, .pick (.tmp 80) (.tmp 103) (.const (.bool false)), _, _, _, none⟩) (v := .bool true) rfl (by kernel_rfl) (by kernel_rfl) (by kernel_rfl) (fun _ _ _ h => h) (Or.inl ⟨by rfl, fun w _ => by go_simp⟩) hHeld ?_
          simp only [Act.put, List.setIfInBounds_toArray, List.set_cons_zero, List.set_cons_succ]
          refine wpAnyH_done (by kernel_rfl) ?_ _
          clear hHeld
          go_wp2_with (go_at_call 9; refine (HS.out _ lr).mono ?_; rintro e w1 ⟨rfl, l1⟩)
          go_ret
          exact ⟨rfl, Later.trans_ lr l1⟩
        · have q5 : ∀ w' : World, (Op.equalIn 10000 31 (.agg (U NX).toArray) (.agg (U NY).toArray)).run Tryd.prog w' = .ok false w' := fun w' => by rw [q4.out w', decide_eq_false hnn]
          have hkne : k ≠ J := fun e => hnn (HKN.out e)
          clear q4 hnn HKN
          go_wp2_with fail
          refine wp_region_held_drew (S := fun w' => (∀ j v, (U (x1 ++ x2))[j]? = some v → w'.cell? ((adx.add (k * 32)).add j) = some v) ∧ (∀ j v, (U (y1 ++ y2))[j]? = some v → w'.cell? ((ady.add (k * 32)).add j) = some v)) (by kernel_rfl) ⟨HCX.out _ slx.drew, HCY.out _ sly.drew⟩ (fun hHeld => ?_)
          refine wpAnyH_take (i := 0) (oi := ⟨some 71, .move (.tmp 15), _, _, _, none⟩) (v := .slice (some adx) N c1) rfl (by kernel_rfl) (by kernel_rfl) (by kernel_rfl) (fun _ _ _ h => h) (Or.inl ⟨by rfl, fun _ _ => rfl⟩) hHeld ?_
          simp only [Act.put, List.setIfInBounds_toArray, List.set_cons_zero, List.set_cons_succ]
          refine wpAnyH_take (i := 1) (oi := ⟨some 72, .move (.tmp 17), _, _, _, none⟩) (v := .int .i64 k) rfl (by kernel_rfl) (by kernel_rfl) (by kernel_rfl) (fun _ _ _ h => h) (Or.inl ⟨by rfl, fun _ _ => rfl⟩) hHeld ?_
          simp only [Act.put, List.setIfInBounds_toArray, List.set_cons_zero, List.set_cons_succ]
          refine wpAnyH_take (i := 2) (oi := ⟨some 73, .indexAddr 60 (.tmp 71) (.tmp 72), _, _, _, none⟩) (v := .pointer (some (adx.add (k * 32)))) rfl (by kernel_rfl) (by kernel_rfl) (by kernel_rfl) (fun _ _ _ h => h) (Or.inl ⟨by rfl, fun w _ => by go_simp⟩) hHeld ?_
          simp only [Act.put, List.setIfInBounds_toArray, List.set_cons_zero, List.set_cons_succ]
          refine wpAnyH_take (i := 3) (oi := ⟨some 74, .load 62 (.tmp 73), _, _, _, none⟩) (v := .agg (U (x1 ++ x2)).toArray) rfl (by kernel_rfl) (by kernel_rfl) (by kernel_rfl) (fun _ _ _ h => h) (yieldsIf_load_addr (by rfl) _ _ rfl _ (by rfl) (U (x1 ++ x2)) _ (fun w h => h.1) Tryd.underlying62 rfl (p2_sz (by rw [List.length_append, HXP.out.1.1, HXP.out.2.1]))) hHeld ?_
          simp only [Act.put, List.setIfInBounds_toArray, List.set_cons_zero, List.set_cons_succ]
          refine wpAnyH_take (i := 4) (oi := ⟨some 75, .move (.tmp 16), _, _, _, none⟩) (v := .slice (some ady) N c2) rfl (by kernel_rfl) (by kernel_rfl) (by kernel_rfl) (fun _ _ _ h => h) (Or.inl ⟨by rfl, fun _ _ => rfl⟩) hHeld ?_
          simp only [Act.put, List.setIfInBounds_toArray, List.set_cons_zero, List.set_cons_succ]
          refine wpAnyH_take (i := 5) (oi := ⟨some 76, .move (.tmp 17), _, _, _, none⟩) (v := .int .i64 k) rfl (by kernel_rfl) (by kernel_rfl) (by kernel_rfl) (fun _ _ _ h => h) (Or.inl ⟨by rfl, fun _ _ => rfl⟩) hHeld ?_
          simp only [Act.put, List.setIfInBounds_toArray, List.set_cons_zero, List.set_cons_succ]
          refine wpAnyH_take (i := 6) (oi := ⟨some 77, .indexAddr 60 (.tmp 75) (.tmp 76), _, _, _, none⟩) (v := .pointer (some (ady.add (k * 32)))) rfl (by kernel_rfl) (by kernel_rfl) (by kernel_rfl) (fun _ _ _ h => h) (Or.inl ⟨by rfl, fun w _ => by go_simp⟩) hHeld ?_
          simp only [Act.put, List.setIfInBounds_toArray, List.set_cons_zero, List.set_cons_succ]
          refine wpAnyH_take (i := 7) (oi := ⟨some 78, .load 62 (.tmp 77), _, _, _, none⟩) (v := .agg (U (y1 ++ y2)).toArray) rfl (by kernel_rfl) (by kernel_rfl) (by kernel_rfl) (fun _ _ _ h => h) (yieldsIf_load_addr (by rfl) _ _ rfl _ (by rfl) (U (y1 ++ y2)) _ (fun w h => h.2) Tryd.underlying62 rfl (p2_sz (by rw [List.length_append, HYP.out.1.1, HYP.out.2.1]))) hHeld ?_
          simp only [Act.put, List.setIfInBounds_toArray, List.set_cons_zero, List.set_cons_succ]
          refine wpAnyH_take (i := 8) (oi := ⟨some 79, .binOp .neq 62 (.tmp 74) (.tmp 78) 62, _, _, _, none⟩) (v := .bool true) rfl (by kernel_rfl) (by kernel_rfl) (by kernel_rfl) (fun _ _ _ h => h) (Or.inl ⟨by rfl, fun w _ => by go_simp⟩) hHeld ?_
          simp only [Act.put, List.setIfInBounds_toArray, List.set_cons_zero, List.set_cons_succ]
          refine wpAnyH_take (i := 9) (oi := ⟨some 80, .move (.tmp 79), _, _, _, none⟩) (v := .bool true) rfl (by kernel_rfl) (by kernel_rfl) (by kernel_rfl) (fun _ _ _ h => h) (Or.inl ⟨by rfl, fun _ _ => rfl⟩) hHeld ?_
          simp only [Act.put, List.setIfInBounds_toArray, List.set_cons_zero, List.set_cons_succ]
          refine wpAnyH_take (i := 10) (oi := ⟨some 81, .move (.tmp 15), _, _, _, _⟩) (v := .slice (some adx) N c1) rfl (by kernel_rfl) (by kernel_rfl) (by kernel_rfl) (fun _ _ _ h => h) (Or.inl ⟨by rfl, fun _ _ => rfl⟩) hHeld ?_
          simp only [Act.put, List.setIfInBounds_toArray, List.set_cons_zero, List.set_cons_succ]
          refine wpAnyH_take (i := 11) (oi := ⟨some 82, .move (.tmp 17), _, _, _, _⟩) (v := .int .i64 k) rfl (by kernel_rfl) (by kernel_rfl) (by kernel_rfl) (fun _ _ _ h => h) (Or.inl ⟨by rfl, fun _ _ => rfl⟩) hHeld ?_
          simp only [Act.put, List.setIfInBounds_toArray, List.set_cons_zero, List.set_cons_succ]
          refine wpAnyH_take (i := 12) (oi := ⟨some 83, .indexAddr 60 (.tmp 81) (.tmp 82), _, _, _, _⟩) (v := .pointer (some (adx.add (k * 32)))) rfl (by kernel_rfl) (by kernel_rfl) (by kernel_rfl) (fun _ _ _ h => h) (Or.inl ⟨by rfl, fun w _ => by go_simp⟩) hHeld ?_
          simp only [Act.put, List.setIfInBounds_toArray, List.set_cons_zero, List.set_cons_succ]
          refine wpAnyH_take (i := 13) (oi := ⟨some 84, .indexAddr 62 (.tmp 83) (.const (.int .i64 0)), _, _, _, _⟩) (v := .pointer (some ((adx.add (k * 32)).add 0))) rfl (by kernel_rfl) (by kernel_rfl) (by kernel_rfl) (fun _ _ _ h => h) (Or.inl ⟨by rfl, fun w _ => by go_simp⟩) hHeld ?_
          simp only [Act.put, List.setIfInBounds_toArray, List.set_cons_zero, List.set_cons_succ]
          refine wpAnyH_take (i := 14) (oi := ⟨some 85, .load 31 (.tmp 84), _, _, _, _⟩) (v := .agg (U x1).toArray) rfl (by kernel_rfl) (by kernel_rfl) (by kernel_rfl) (fun _ _ _ h => h) (yieldsIf_load_addr (by rfl) _ _ rfl _ (by rfl) (U x1) _ (fun w h j u hu => halves0 HXP.out.1.1 (h.1) j u hu) Tryd.underlying31 rfl (dig_sz HXP.out.1.1)) hHeld ?_
          simp only [Act.put, List.setIfInBounds_toArray, List.set_cons_zero, List.set_cons_succ]
          refine wpAnyH_take (i := 15) (oi := ⟨some 86, .move (.tmp 15), _, _, _, _⟩) (v := .slice (some adx) N c1) rfl (by kernel_rfl) (by kernel_rfl) (by kernel_rfl) (fun _ _ _ h => h) (Or.inl ⟨by rfl, fun _ _ => rfl⟩) hHeld ?_
          simp only [Act.put, List.setIfInBounds_toArray, List.set_cons_zero, List.set_cons_succ]
          refine wpAnyH_take (i := 16) (oi := ⟨some 87, .move (.tmp 17), _, _, _, _⟩) (v := .int .i64 k) rfl (by kernel_rfl) (by kernel_rfl) (by kernel_rfl) (fun _ _ _ h => h) (Or.inl ⟨by rfl, fun _ _ => rfl⟩) hHeld ?_
          simp only [Act.put, List.setIfInBounds_toArray, List.set_cons_zero, List.set_cons_succ]
          refine wpAnyH_take (i := 17) (oi := ⟨some 88, .indexAddr 60 (.tmp 86) (.tmp 87), _, _, _, _⟩) (v := .pointer (some (adx.add (k * 32)))) rfl (by kernel_rfl) (by kernel_rfl) (by kernel_rfl) (fun _ _ _ h => h) (Or.inl ⟨by rfl, fun w _ => by go_simp⟩) hHeld ?_
          simp only [Act.put, List.setIfInBounds_toArray, List.set_cons_zero, List.set_cons_succ]
          refine wpAnyH_take (i := 18) (oi := ⟨some 89, .indexAddr 62 (.tmp 88) (.const (.int .i64 1)), _, _, _, _⟩) (v := .pointer (some ((adx.add (k * 32)).add 16))) rfl (by kernel_rfl) (by kernel_rfl) (by kernel_rfl) (fun _ _ _ h => h) (Or.inl ⟨by rfl, fun w _ => by go_simp⟩) hHeld ?_
          simp only [Act.put, List.setIfInBounds_toArray, List.set_cons_zero, List.set_cons_succ]
          refine wpAnyH_take (i := 19) (oi := ⟨some 90, .load 31 (.tmp 89), _, _, _, _⟩) (v := .agg (U x2).toArray) rfl (by kernel_rfl) (by kernel_rfl) (by kernel_rfl) (fun _ _ _ h => h) (yieldsIf_load_addr (by rfl) _ _ rfl _ (by rfl) (U x2) _ (fun w h j u hu => halves1 HXP.out.1.1 (h.1) j u hu) Tryd.underlying31 rfl (dig_sz HXP.out.2.1)) hHeld ?_
          simp only [Act.put, List.setIfInBounds_toArray, List.set_cons_zero, List.set_cons_succ]
          refine wpAnyH_take (i := 21) (oi := ⟨some 92, .move (.tmp 16), _, _, _, _⟩) (v := .slice (some ady) N c2) rfl (by kernel_rfl) (by kernel_rfl) (by kernel_rfl) (fun _ _ _ h => h) (Or.inl ⟨by rfl, fun _ _ => rfl⟩) hHeld ?_
          simp only [Act.put, List.setIfInBounds_toArray, List.set_cons_zero, List.set_cons_succ]
          refine wpAnyH_take (i := 22) (oi := ⟨some 93, .move (.tmp 17), _, _, _, _⟩) (v := .int .i64 k) rfl (by kernel_rfl) (by kernel_rfl) (by kernel_rfl) (fun _ _ _ h => h) (Or.inl ⟨by rfl, fun _ _ => rfl⟩) hHeld ?_
          simp only [Act.put, List.setIfInBounds_toArray, List.set_cons_zero, List.set_cons_succ]
          refine wpAnyH_take (i := 23) (oi := ⟨some 94, .indexAddr 60 (.tmp 92) (.tmp 93), _, _, _, _⟩) (v := .pointer (some (ady.add (k * 32)))) rfl (by kernel_rfl) (by kernel_rfl) (by kernel_rfl) (fun _ _ _ h => h) (Or.inl ⟨by rfl, fun w _ => by go_simp⟩) hHeld ?_
          simp only [Act.put, List.setIfInBounds_toArray, List.set_cons_zero, List.set_cons_succ]
          refine wpAnyH_take (i := 24) (oi := ⟨some 95, .indexAddr 62 (.tmp 94) (.const (.int .i64 0)), _, _, _, _⟩) (v := .pointer (some ((ady.add (k * 32)).add 0))) rfl (by kernel_rfl) (by kernel_rfl) (by kernel_rfl) (fun _ _ _ h => h) (Or.inl ⟨by rfl, fun w _ => by go_simp⟩) hHeld ?_
          simp only [Act.put, List.setIfInBounds_toArray, List.set_cons_zero, List.set_cons_succ]
          refine wpAnyH_take (i := 25) (oi := ⟨some 96, .load 31 (.tmp 95), _, _, _, _⟩) (v := .agg (U y1).toArray) rfl (by kernel_rfl) (by kernel_rfl) (by kernel_rfl) (fun _ _ _ h => h) (yieldsIf_load_addr (by rfl) _ _ rfl _ (by rfl) (U y1) _ (fun w h j u hu => halves0 HYP.out.1.1 (h.2) j u hu) Tryd.underlying31 rfl (dig_sz HYP.out.1.1)) hHeld ?_
          simp only [Act.put, List.setIfInBounds_toArray, List.set_cons_zero, List.set_cons_succ]
          refine wpAnyH_take (i := 26) (oi := ⟨some 97, .move (.tmp 16), _, _, _, _⟩) (v := .slice (some ady) N c2) rfl (by kernel_rfl) (by kernel_rfl) (by kernel_rfl) (fun _ _ _ h => h) (Or.inl ⟨by rfl, fun _ _ => rfl⟩) hHeld ?_
          simp only [Act.put, List.setIfInBounds_toArray, List.set_cons_zero, List.set_cons_succ]
          refine wpAnyH_take (i := 27) (oi := ⟨some 98, .move (.tmp 17), _, _, _, _⟩) (v := .int .i64 k) rfl (by kernel_rfl) (by kernel_rfl) (by kernel_rfl) (fun _ _ _ h => h) (Or.inl ⟨by rfl, fun _ _ => rfl⟩) hHeld ?_
          simp only [Act.put, List.setIfInBounds_toArray, List.set_cons_zero, List.set_cons_succ]
          refine wpAnyH_take (i := 28) (oi := ⟨some 99, .indexAddr 60 (.tmp 97) (.tmp 98), _, _, _, _⟩) (v := .pointer (some (ady.add (k * 32)))) rfl (by kernel_rfl) (by kernel_rfl) (by kernel_rfl) (fun _ _ _ h => h) (Or.inl ⟨by rfl, fun w _ => by go_simp⟩) hHeld ?_
          simp only [Act.put, List.setIfInBounds_toArray, List.set_cons_zero, List.set_cons_succ]
          refine wpAnyH_take (i := 29) (oi := ⟨some 100, .indexAddr 62 (.tmp 99) (.const (.int .i64 1)), _, _, _, _⟩) (v := .pointer (some ((ady.add (k * 32)).add 16))) rfl (by kernel_rfl) (by kernel_rfl) (by kernel_rfl) (fun _ _ _ h => h) (Or.inl ⟨by rfl, fun w _ => by go_simp⟩) hHeld ?_
          simp only [Act.put, List.setIfInBounds_toArray, List.set_cons_zero, List.set_cons_succ]
          refine wpAnyH_take (i := 30) (oi := ⟨some 101, .load 31 (.tmp 100), _, _, _, _⟩) (v := .agg (U y2).toArray) rfl (by kernel_rfl) (by kernel_rfl) (by kernel_rfl) (fun _ _ _ h => h) (yieldsIf_load_addr (by rfl) _ _ rfl _ (by rfl) (U y2) _ (fun w h j u hu => halves1 HYP.out.1.1 (h.2) j u hu) Tryd.underlying31 rfl (dig_sz HYP.out.2.1)) hHeld ?_
          simp only [Act.put, List.setIfInBounds_toArray, List.set_cons_zero, List.set_cons_succ]
          refine wpAnyH_ready (rs := [20]) (by kernel_rfl) (by simp) (AllReadyH.cons (o := ⟨some 91, .call { callee := .value (.func 19), args := #[.tmp 85, .tmp 90], argTypes := #[31, 31] }, _, _, _, _⟩) rfl (fun K' hK => ?_) (AllReadyH.nil))
          go_simp
          replace lr := lr.drew; replace slx := slx.drew; replace sly := sly.drew
          refine (HNX.out _ lr).mono ?_
          rintro e v1 ⟨rfl, k1'⟩
          replace slx := slx.keep k1'; replace sly := sly.keep k1'; replace lr := Later.trans_ lr k1'
          refine hK.out _ _ ⟨HCX.out _ slx, HCY.out _ sly⟩ (fun hHeld => ?_)
          clear hK K'
          try simp only [Act.put, List.setIfInBounds_toArray, List.set_cons_zero, List.set_cons_succ]
          refine wpAnyH_ready (rs := [31]) (by kernel_rfl) (by simp) (AllReadyH.cons (o := ⟨some 102, .call { callee := .value (.func 19), args := #[.tmp 96, .tmp 101], argTypes := #[31, 31] }, _, _, _, _⟩) rfl (fun K' hK => ?_) (AllReadyH.nil))
          go_simp
          refine (HNY.out _ lr).mono ?_
          rintro e v2 ⟨rfl, k2'⟩
          replace slx := slx.keep k2'; replace sly := sly.keep k2'; replace lr := Later.trans_ lr k2'
          refine hK.out _ _ ⟨HCX.out _ slx, HCY.out _ sly⟩ (fun hHeld => ?_)
          clear hK K'
          try simp only [Act.put, List.setIfInBounds_toArray, List.set_cons_zero, List.set_cons_succ]
          refine wpAnyH_take (i := 32) (oi := ⟨some 103, .binOp .eql 31 (.tmp 91) (.tmp 102) 31, _, _, _, _⟩) (v := .bool false) rfl (by kernel_rfl) (by kernel_rfl) (by kernel_rfl) (fun _ _ _ h => h) (Or.inl ⟨by rfl, fun w _ => by go_simp⟩) hHeld ?_
          simp only [Act.put, List.setIfInBounds_toArray, List.set_cons_zero, List.set_cons_succ]
          refine wpAnyH_take (i := 33) (oi := ⟨some 104, .pick (.tmp 80) (.tmp 103) (.const (.bool false)), _, _, _, none⟩) (v := .bool false) rfl (by kernel_rfl) (by kernel_rfl) (by kernel_rfl) (fun _ _ _ h => h) (Or.inl ⟨by rfl, fun w _ => by go_simp⟩) hHeld ?_
          simp only [Act.put, List.setIfInBounds_toArray, List.set_cons_zero, List.set_cons_succ]
          refine wpAnyH_done (by kernel_rfl) ?_ _
          clear hHeld
          go_wp2
          go_roundw
          case rel => exact ⟨k + 1, by go_num, by omega, slx, sly, lr⟩
          case measure => simp [intOf]; omega

end Go.Proofs.YtonfdgbohmcpjabDoor
