/-
  THE WALK OF the statements' sanity check.
-/
import Derived.Test.YtaihfkcoiagdaabDoorGk
namespace Go.Proofs.YtaihfkcoiagdaabDoor
open Go.RowKit Go.ChangeShapes Go.WideShapes Go.ChangeAt

/-- What lies in memory while the examples are gone through. -/
structure Kt (w : World) (a b c ab rt : Wm.Bs) (B1 B2 B3 L B5 B6 : Nat) : Prop where
  b1 : Blk w B1 31 (U a)
  b2 : Blk w B2 31 (U b)
  b3 : Blk w B3 31 (U c)
  sl : Sl w 16 (some ⟨L, 0, none⟩) 3 (Ds [a, b, c])
  b5 : Blk w B5 31 (U ab)
  b6 : Blk w B6 31 (U rt)
theorem Kt.keep {w w' : World} {a b c ab rt : Wm.Bs} {B1 B2 B3 L B5 B6 : Nat} (h : Kt w a b c ab rt B1 B2 B3 L B5 B6) (k : Later w w') : Kt w' a b c ab rt B1 B2 B3 L B5 B6 :=
  ⟨h.b1.keep k, h.b2.keep k, h.b3.keep k, h.sl.keep k, h.b5.keep k, h.b6.keep k⟩
/-- A list at hand. -/
def Pt (w : World) (A : Option Addr) (n c : Nat) (l : List Wm.Bs) : Prop := Sl w 16 A n (Ds l) ∧ n ≤ c ∧ c ≤ 9223372036854775807
theorem Pt.keep {w w' : World} {A : Option Addr} {n c : Nat} {l : List Wm.Bs} (h : Pt w A n c l) (k : Later w w') : Pt w' A n c l := ⟨h.1.keep k, h.2⟩
theorem Pt.drew {w : World} {A : Option Addr} {n c : Nat} {l : List Wm.Bs} (h : Pt w A n c l) : Pt w.drew A n c l := h
theorem Kt.drew {w : World} {a b c ab rt : Wm.Bs} {B1 B2 B3 L B5 B6 : Nat} (h : Kt w a b c ab rt B1 B2 B3 L B5 B6) : Kt w.drew a b c ab rt B1 B2 B3 L B5 B6 := ⟨h.b1, h.b2, h.b3, h.sl, h.b5, h.b6⟩
theorem Pt.lt {w : World} {A : Option Addr} {n c : Nat} {l : List Wm.Bs} (h : Pt w A n c l) (h0 : 0 < n) (ad : Addr) (e : A = some ad) : ad.block < w.heap.size := by
  obtain ⟨a, e', hb, _⟩ := h.1.2 h0
  rw [e] at e'; cases e'; exact hb
theorem Pt.only {w w' : World} {A : Option Addr} {n c g : Nat} {l : List Wm.Bs} (h : Pt w A n c l) (ho : Only g w w') (hne : ∀ ad, A = some ad → ad.block ≠ g) : Pt w' A n c l := by
  cases A with
  | none => exact ⟨⟨h.1.1, fun hn => by obtain ⟨_, e, _⟩ := h.1.2 hn; cases e⟩, h.2⟩
  | some ad => exact ⟨h.1.only ho (hne ad rfl), h.2⟩
def GotN (n : Nat) (l : List Wm.Bs) (w : World) (e : Ending) (w' : World) : Prop := ∃ A c, e = .returned (.tuple #[.slice A n c, .int .i64 0]) ∧ Pt w' A n c l ∧ Later w w'
theorem got_n {f : FuncId} {args : Array Value} {w : World} {l l2 : List Wm.Bs} {n : Nat} (h : Calls Tryd.prog f args w (GotPath l w)) (e : l = l2) (hn : l2.length = n) : Calls Tryd.prog f args w (GotN n l2 w) := by
  subst e; subst hn
  exact h.mono fun _ _ ⟨A, c, he, h1, h2, h3, _, h5⟩ => ⟨A, c, he, ⟨h3, h1, h2⟩, h5⟩
theorem dig3 {a b c : Wm.Bs} (ha : a.length = 16 ∧ Wm.isBs a) (hb : b.length = 16 ∧ Wm.isBs b) (hc : c.length = 16 ∧ Wm.isBs c) : isD [a, b, c] := fun d hd => by
  simp only [List.mem_cons, List.not_mem_nil, or_false] at hd
  rcases hd with rfl | rfl | rfl <;> assumption
theorem U_size {d : Wm.Bs} (h : d.length = 16) : (U d).toArray.size = 16 := by rw [List.size_toArray, U_length, h]
theorem blk_sl {w : World} {B n : Nat} {l : List Wm.Bs} (h : Blk w B 31 (Ds l)) (hl : isD l) (hn : l.length = n) : Sl w 16 (some ⟨B, 0, none⟩) n (Ds l) :=
  ⟨by unfold Ds; rw [U_length, flat_len hl, hn], fun _ => ⟨_, rfl, h.lt, fun j u hu => h.addr j u hu⟩⟩
theorem ds3 (a b c : Wm.Bs) : (U a).toArray ++ (U b).toArray ++ (U c).toArray = (Ds [a, b, c]).toArray := by
  unfold Ds; rw [List.flatten_cons, List.flatten_cons, List.flatten_cons, List.flatten_nil, List.append_nil, U_append, U_append]; simp
theorem ds2 (a b : Wm.Bs) : (U a).toArray ++ (U b).toArray = (Ds [a, b]).toArray := by
  unfold Ds; rw [List.flatten_cons, List.flatten_cons, List.flatten_nil, List.append_nil, U_append]; simp
theorem ds1 (a : Wm.Bs) : (U a).toArray = (Ds [a]).toArray := by
  unfold Ds; rw [List.flatten_cons, List.flatten_nil, List.append_nil]
theorem wpList_build3 {P : Program} {ops : Array Oper} {rest : List Oper} {o : Oper} {a : Act} {w : World} {Q : Exit → Act → World → Prop} (hgd : o.guard = none) (t e : TypeId) (x y u : Operand) (ho : o.op = .buildSlice t 3 #[(0, x), (1, y), (2, u)])
    (X Y V : Array Value) (ie : TypeInfo) (z : Value) (hu : P.underlying t = some (.slice e)) (hie : P.info? e = some ie) (hz : ie.zero = some z) (hs : ie.size = 16) (h1 : X.size = 16) (h2 : Y.size = 16) (h3 : V.size = 16)
    (hx : a.eval x = .agg X) (hy : a.eval y = .agg Y) (hv : a.eval u = .agg V) (R : Array Value) (hR : X ++ Y ++ V = R) (h : wpList P ops Q rest (a.put o.dst (.slice (some ⟨w.heap.size, 0, none⟩) 3 3)) (w.alloc (.cells R e))) : wpList P ops Q (o :: rest) a w := by
  subst hR
  exact wpList_plain hgd fun _ hK => wp_build3 t e x y u ho X Y V ie z hu hie hz hs h1 h2 h3 hx hy hv (hK _ _ h)

theorem yieldsIf_load_addr {P : Program} {ops : Array Oper} {S : World → Prop} {op : Oper} {a : Act} (hw : Region.wanted op (yielded ops a.tmps) = true) (ty : TypeId) (x : Operand) (ho : op.op = .load ty x)
    (ad : Addr) (hx : a.eval x = .pointer (some ad)) (cs : List Value) (d : TypeDesc) (hS : ∀ w, S w → ∀ j v, cs[j]? = some v → w.cell? (ad.add j) = some v)
    (hu : P.underlying ty = some d) (hd : d.isRow = true) (hi : (P.info? ty).map (·.size) = some cs.length) : YieldsIf P ops S op (.agg cs.toArray) a :=
  .inl ⟨hw, fun w hw' => by
    unfold execOp
    simp only [ho, hx, Sem.run_bind, Sem.run_pure, run_loadAt_addr (P := P) w ad ty cs d (hS w hw') hu hd hi, Result.andThen_ok]⟩
theorem pk_one (u v : Value) (hu : u.oneCell' = true) (hv : v.oneCell' = true) : ∀ x ∈ [u, v], x.oneCell' = true := fun x hx => by
  simp only [List.mem_cons, List.not_mem_nil, or_false] at hx
  rcases hx with rfl | rfl <;> assumption
theorem pk_sz (u v : Value) : (Tryd.prog.info? 43).map (·.size) = some [u, v].length := peaks_sz
theorem pk_len (u v x y : Value) : [u, v].length = [x, y].length := rfl
theorem dig2 {a b : Wm.Bs} (ha : a.length = 16 ∧ Wm.isBs a) (hb : b.length = 16 ∧ Wm.isBs b) : isD [a, b] := fun d hd => by
  simp only [List.mem_cons, List.not_mem_nil, or_false] at hd
  rcases hd with rfl | rfl <;> assumption
theorem dig1 {a : Wm.Bs} (ha : a.length = 16 ∧ Wm.isBs a) : isD [a] := fun d hd => by
  rw [List.mem_singleton.1 hd]; exact ha
theorem wpList_build2g {P : Program} {ops : Array Oper} {rest : List Oper} {o : Oper} {a : Act} {w : World} {Q : Exit → Act → World → Prop} (hw : Region.wanted o (yielded ops a.tmps) = true) (t e : TypeId) (x y : Operand) (ho : o.op = .buildSlice t 2 #[(0, x), (1, y)])
    (X Y : Array Value) (ie : TypeInfo) (z : Value) (hu : P.underlying t = some (.slice e)) (hie : P.info? e = some ie) (hz : ie.zero = some z) (hs : ie.size = 16) (h1 : X.size = 16) (h2 : Y.size = 16)
    (hx : a.eval x = .agg X) (hy : a.eval y = .agg Y) (R : Array Value) (hR : X ++ Y = R) (h : wpList P ops Q rest (a.put o.dst (.slice (some ⟨w.heap.size, 0, none⟩) 2 2)) (w.alloc (.cells R e))) : wpList P ops Q (o :: rest) a w := by
  subst hR
  exact wpList_step fun K hK => by
    rw [hw, if_pos rfl]
    exact wp_build2 t e x y ho X Y ie z hu hie hz hs h1 h2 hx hy (hK _ _ h)
theorem wpList_build1g {P : Program} {ops : Array Oper} {rest : List Oper} {o : Oper} {a : Act} {w : World} {Q : Exit → Act → World → Prop} (hw : Region.wanted o (yielded ops a.tmps) = true) (t e : TypeId) (x : Operand) (ho : o.op = .buildSlice t 1 #[(0, x)])
    (X : Array Value) (ie : TypeInfo) (z : Value) (hu : P.underlying t = some (.slice e)) (hie : P.info? e = some ie) (hz : ie.zero = some z) (hs : ie.size = 16) (h1 : X.size = 16)
    (hx : a.eval x = .agg X) (R : Array Value) (hR : X = R) (h : wpList P ops Q rest (a.put o.dst (.slice (some ⟨w.heap.size, 0, none⟩) 1 1)) (w.alloc (.cells R e))) : wpList P ops Q (o :: rest) a w := by
  subst hR
  exact wpList_step fun K hK => by
    rw [hw, if_pos rfl]
    exact wp_build1 t e x ho X ie z hu hie hz (by rw [hs, h1]) (by omega) (by omega) hx (hK _ _ h)
theorem san_same (A : Option Addr) (n c B : Nat) (l : List Wm.Bs) (w' : World) (hp : Pt w' A n c l) (hl : isD l) (hb : Blk w' B 31 (Ds l)) (hn : l.length = n) (hm : n ≤ 9223372036854775807) :
    Calls Tryd.prog 17 #[.slice A n c, .slice (some ⟨B, 0, none⟩) n n] w' fun e w'' => e = .returned (.bool true) ∧ Later w' w'' := by
  have h := same_any A (some ⟨B, 0, none⟩) n c n n l l w' hp.1 hl (blk_sl hb hl hn) hl hm
  rw [decide_eq_true rfl] at h; exact h
section
variable (a b c ab rt : Wm.Bs) (ha : a.length = 16 ∧ Wm.isBs a) (hb : b.length = 16 ∧ Wm.isBs b) (hc : c.length = 16 ∧ Wm.isBs c) (hab : ab.length = 16 ∧ Wm.isBs ab) (hrt : rt.length = 16 ∧ Wm.isBs rt) (e1 : ab = nodeD a b) (e2 : rt = nodeD ab c)
include ha hb hc hrt e1 e2
theorem san_ci (A : Option Addr) (x : Nat) (w' : World) (hp : Pt w' A 2 x [b, c]) (tab : Tab w') :
    Calls Tryd.prog 29 #[.agg (U a).toArray, .int .i64 0, .int .i64 3, .slice A 2 x, .agg (U rt).toArray] w' fun e w'' => e = .returned (.bool true) ∧ Later w' w'' := by
  have h := checkIncl_any a rt 0 3 A 2 x [b, c] w' (by decide) (by decide) ha hrt hp.1 (dig2 hb hc) hp.2.1 hp.2.2 tab
  rw [s_climb, ← e1, ← e2, show (decide ((rt, (⟨[], false⟩ : Mk.Tr Wm.Bs)).1 = rt) && !(rt, (⟨[], false⟩ : Mk.Tr Wm.Bs)).2.short && decide ((rt, (⟨[], false⟩ : Mk.Tr Wm.Bs)).2.rest = [])) = true by simp] at h
  exact h
theorem san_cc (A : Option Addr) (x : Nat) (w' : World) (hp : Pt w' A 2 x [b, c]) (tab : Tab w') :
    Calls Tryd.prog 30 #[.int .i64 1, .int .i64 3, .agg (U a).toArray, .agg (U rt).toArray, .slice A 2 x] w' fun e w'' => e = .returned (.bool true) ∧ Later w' w'' := by
  have h := checkCons_any a rt 1 3 A 2 x [b, c] w' (by decide) (by decide) (by decide) ha hrt hp.1 (dig2 hb hc) hp.2.1 hp.2.2 tab
  rw [s_grow, ← e1, ← e2, show (decide (((a, rt), (⟨[], false⟩ : Mk.Tr Wm.Bs)).1.1 = a) && decide (((a, rt), (⟨[], false⟩ : Mk.Tr Wm.Bs)).1.2 = rt) && !((a, rt), (⟨[], false⟩ : Mk.Tr Wm.Bs)).2.short && decide (((a, rt), (⟨[], false⟩ : Mk.Tr Wm.Bs)).2.rest = [])) = true by simp] at h
  exact h
theorem san_cm (A : Option Addr) (x M N : Nat) (w' : World) (hp : Pt w' A 1 x [b]) (h1 : Blk w' M 3 (N64 [0, 2])) (h2 : Blk w' N 31 (Ds [a, c])) (tab : Tab w') :
    Calls Tryd.prog 23 #[.int .i64 3, .slice (some ⟨M, 0, none⟩) 2 2, .slice (some ⟨N, 0, none⟩) 2 2, .slice A 1 x, .agg (U rt).toArray] w' fun e w'' => e = .returned (.bool true) ∧ Later w' w'' := by
  have h := checkMany_any rt 3 (some ⟨M, 0, none⟩) (some ⟨N, 0, none⟩) 2 2 2 [0, 2] [a, c] A 1 x [b] w' (by decide) (by decide) hrt (h1.sl 0 2 (by decide)) (blk_sl h2 (dig2 ha hc) rfl) (dig2 ha hc) (by decide) (by decide) (by decide) (by decide) (by decide) hp.1 (dig1 hb) hp.2.1 hp.2.2 tab
  rw [s_gather, ← e1, ← e2, show (decide ((rt, (⟨[], false⟩ : Mk.Tr Wm.Bs)).1 = rt) && !(rt, (⟨[], false⟩ : Mk.Tr Wm.Bs)).2.short && decide ((rt, (⟨[], false⟩ : Mk.Tr Wm.Bs)).2.rest = [])) = true by simp] at h
  exact h
omit hb hc e1 e2
include hab
theorem san_cn (A : Option Addr) (x : Nat) (w' : World) (hp : Pt w' A 1 x [ab]) (tab : Tab w') :
    Calls Tryd.prog 29 #[.agg (U a).toArray, .int .i64 0, .int .i64 3, .slice A 1 x, .agg (U rt).toArray] w' fun e w'' => e = .returned (.bool false) ∧ Later w' w'' := by
  have h := checkIncl_any a rt 0 3 A 1 x [ab] w' (by decide) (by decide) ha hrt hp.1 (dig1 hab) hp.2.1 hp.2.2 tab
  have e : ∀ p q : Bool, (p && !true && q) = false := by decide
  rw [s_climb2, e] at h
  exact h
end
/-- The peaks after so many of the three leaves. -/
def PKs (a ab c : Wm.Bs) : Nat → List Wm.Bs
  | 0 => []
  | 1 => [a]
  | 2 => [ab]
  | _ => [ab, c]
theorem san_step (a b c ab X : Wm.Bs) (ha : a.length = 16 ∧ Wm.isBs a) (hb : b.length = 16 ∧ Wm.isBs b) (hc : c.length = 16 ∧ Wm.isBs c) (hab : ab.length = 16 ∧ Wm.isBs ab) (e : ab = nodeD a b) (k : Nat) (hk : k < 3) (hX : [a, b, c][k]? = some X)
    (A : Option Addr) (n cc : Nat) (hn : n = (PKs a ab c k).length) (w' : World) (hp : Pt w' A n cc (PKs a ab c k)) (tab : Tab w') :
    Calls Tryd.prog 25 #[.agg #[.int .i64 k, .slice A n cc], .agg (U X).toArray] w' fun e w'' => ∃ A' c', e = .returned (.tuple #[.agg #[.int .i64 ((k : Int) + 1), .slice A' (PKs a ab c (k + 1)).length c'], .int .i64 0]) ∧ Pt w'' A' (PKs a ab c (k + 1)).length c' (PKs a ab c (k + 1)) ∧ (∀ ad, A' = some ad → w'.heap.size ≤ ad.block) ∧ Later w' w'' := by
  have hXd : X.length = 16 ∧ Wm.isBs X := dig3 ha hb hc X (List.mem_of_getElem? hX)
  have hT : isD (PKs a ab c k) := by
    obtain rfl | rfl | rfl : k = 0 ∨ k = 1 ∨ k = 2 := by omega
    · exact fun _ h => by cases h
    · exact fun d h => by rw [List.mem_singleton.1 h]; exact ha
    · exact fun d h => by rw [List.mem_singleton.1 h]; exact hab
  have hwf : WF (k : Int) n := by
    subst hn
    obtain rfl | rfl | rfl : k = 0 ∨ k = 1 ∨ k = 2 := by omega
    · exact ⟨by decide, by decide, rfl⟩
    · exact ⟨by decide, by decide, rfl⟩
    · exact ⟨by decide, by decide, rfl⟩
  have happ : Mk.app nodeD emptyD k (PKs a ab c k) X = PKs a ab c (k + 1) := by
    obtain rfl | rfl | rfl : k = 0 ∨ k = 1 ∨ k = 2 := by omega
    · obtain rfl : a = X := by simpa using hX
      exact s_app0 _ _ _
    · obtain rfl : b = X := by simpa using hX
      show Mk.app nodeD emptyD 1 [a] b = [ab]
      rw [s_app1, e]
    · obtain rfl : c = X := by simpa using hX
      show Mk.app nodeD emptyD 2 [ab] c = [ab, c]
      rw [e]; exact s_app2 _ _ _ _ _
  have h := append_any k A n cc (PKs a ab c k) X w' hwf (by omega) hp.1 hT hXd hp.2.1 tab
  rw [happ] at h
  exact h.mono fun _ _ ⟨A', c', he, h1, h2, h3, _, h5, h6⟩ => ⟨A', c', he, ⟨h3, h1, h2⟩, h5, h6⟩

set_option maxRecDepth 100000 in
set_option maxHeartbeats 2000000 in
theorem sanity_any (w : World) (tab : Tab w) (tab0 : Tab0 w) : Calls Tryd.prog 9 #[] w fun e w' => e = .returned (.bool true) ∧ Later w w' := by
  have TB := Lib.hid tab; have TB0 := Lib.hid tab0
  have HLa := Lib.hid fun (w' : World) (hw : Later w w') => leaf_any ⟨#[97]⟩ w' (by decide) (tab.keep hw)
  have HLb := Lib.hid fun (w' : World) (hw : Later w w') => leaf_any ⟨#[98]⟩ w' (by decide) (tab.keep hw)
  have HLc := Lib.hid fun (w' : World) (hw : Later w w') => leaf_any ⟨#[99]⟩ w' (by decide) (tab.keep hw)
  have HRL := Lib.hid fun (w' : World) (hw : Later w w') => refLeaf_any ⟨#[97]⟩ w' (by decide) (tab0.keep hw)
  have ha : (leafD ⟨#[97]⟩).length = 16 ∧ Wm.isBs (leafD ⟨#[97]⟩) := ⟨digOf_len _, digOf_bs _⟩
  have hb : (leafD ⟨#[98]⟩).length = 16 ∧ Wm.isBs (leafD ⟨#[98]⟩) := ⟨digOf_len _, digOf_bs _⟩
  have hc : (leafD ⟨#[99]⟩).length = 16 ∧ Wm.isBs (leafD ⟨#[99]⟩) := ⟨digOf_len _, digOf_bs _⟩
  obtain ⟨a, ea⟩ : ∃ a, a = leafD ⟨#[97]⟩ := ⟨_, rfl⟩
  obtain ⟨b, eb⟩ : ∃ b, b = leafD ⟨#[98]⟩ := ⟨_, rfl⟩
  obtain ⟨c, ec⟩ : ∃ c, c = leafD ⟨#[99]⟩ := ⟨_, rfl⟩
  rw [← ea] at HLa HRL ha; rw [← eb] at HLb hb; rw [← ec] at HLc hc
  have hab : (nodeD a b).length = 16 ∧ Wm.isBs (nodeD a b) := ⟨nodeD_len _ _, nodeD_bs _ _⟩
  have hrt : (nodeD (nodeD a b) c).length = 16 ∧ Wm.isBs (nodeD (nodeD a b) c) := ⟨nodeD_len _ _, nodeD_bs _ _⟩
  have HN1 := Lib.hid fun (w' : World) (hw : Later w w') => node_any a b w' ha.1 hb.1 (tab.keep hw)
  have HN2 := Lib.hid fun (w' : World) (hw : Later w w') => node_any (nodeD a b) c w' hab.1 hc.1 (tab.keep hw)
  have HRN := Lib.hid fun (w' : World) (hw : Later w w') => refNode_any a b w' ha.1 hb.1 (tab0.keep hw)
  have hl3 := dig3 ha hb hc
  have HI0 := Lib.hid fun (w' : World) (L : Nat) (hs : Sl w' 16 (some ⟨L, 0, none⟩) 3 (Ds [a, b, c])) (hw : Later w w') => got_n (n := 2) (args := #[.slice (some ⟨L, 0, none⟩) 3 3, .int .i64 0]) (inclusion_any (some ⟨L, 0, none⟩) 3 3 0 [a, b, c] w' (by decide) (by decide) (by decide) (by decide) hs hl3 (tab.keep hw)) (s_incl0 _ _ _ _ _) rfl
  have HI2 := Lib.hid fun (w' : World) (L : Nat) (hs : Sl w' 16 (some ⟨L, 0, none⟩) 3 (Ds [a, b, c])) (hw : Later w w') => got_n (n := 1) (args := #[.slice (some ⟨L, 0, none⟩) 3 3, .int .i64 2]) (inclusion_any (some ⟨L, 0, none⟩) 3 3 2 [a, b, c] w' (by decide) (by decide) (by decide) (by decide) hs hl3 (tab.keep hw)) (s_incl2 _ _ _ _ _) rfl
  have HC1 := Lib.hid fun (w' : World) (L : Nat) (hs : Sl w' 16 (some ⟨L, 0, none⟩) 3 (Ds [a, b, c])) (hw : Later w w') => got_n (n := 2) (args := #[.slice (some ⟨L, 0, none⟩) 3 3, .int .i64 1]) (consistency_any (some ⟨L, 0, none⟩) 3 3 1 [a, b, c] w' (by decide) (by decide) (by decide) (by decide) (by decide) hs hl3 (tab.keep hw)) (s_cons1 _ _ _ _ _) rfl
  have HC2 := Lib.hid fun (w' : World) (L : Nat) (hs : Sl w' 16 (some ⟨L, 0, none⟩) 3 (Ds [a, b, c])) (hw : Later w w') => got_n (n := 1) (args := #[.slice (some ⟨L, 0, none⟩) 3 3, .int .i64 2]) (consistency_any (some ⟨L, 0, none⟩) 3 3 2 [a, b, c] w' (by decide) (by decide) (by decide) (by decide) (by decide) hs hl3 (tab.keep hw)) (s_cons2 _ _ _ _ _) rfl
  have HM := Lib.hid fun (w' : World) (L M : Nat) (hs : Sl w' 16 (some ⟨L, 0, none⟩) 3 (Ds [a, b, c])) (hp : Blk w' M 3 (N64 [0, 2])) (hw : Later w w') => got_n (n := 1) (many_any (some ⟨L, 0, none⟩) (some ⟨M, 0, none⟩) 3 3 2 2 [a, b, c] [0, 2] w' (by decide) (by decide) (by decide) (by decide) hs hl3 (hp.sl 0 2 (by decide)) (by decide) (by decide) (by decide) (tab.keep hw)) (s_many _ _ _ _ _) rfl
  have HDa := Lib.hid ha; have HDb := Lib.hid hb; have HDc := Lib.hid hc; have HL3 := Lib.hid hl3
  obtain ⟨ab, eab⟩ : ∃ ab, ab = nodeD a b := ⟨_, rfl⟩
  rw [← eab] at HN1 HN2 HRN HI2 hab hrt
  obtain ⟨rt, ert⟩ : ∃ rt, rt = nodeD ab c := ⟨_, rfl⟩
  rw [← ert] at HN2 hrt
  have HDab := Lib.hid hab; have HDrt := Lib.hid hrt; have EAB := Lib.hid eab; have ERT := Lib.hid ert
  obtain ⟨DL, hDL⟩ : ∃ DL, DL = (Ds [a, b, c]).toArray := ⟨_, rfl⟩
  have HDL := Lib.hid hDL
  obtain ⟨i0, hI⟩ := dgI
  have HI := Lib.hid hI
  clear tab tab0 ha hb hc ea eb ec hab hrt hl3 eab ert hI hDL
  go_enter Tryd.func9, Tryd.ntmps9
  go_wp2_with (first
    | (go_at_call 21; (with_reducible refine (HM.out _ _ w15.heap.size (kt.sl.alloc (.cells #[.int .i64 0, .int .i64 2] 3)) ?_ (l15.alloc l15.size (.cells #[.int .i64 0, .int .i64 2] 3))).mono ?_); exact Blk.new _ _ _ _ rfl; rintro e w16 ⟨Am, cm, rfl, pm, h16⟩; have l16 : Later w w16 := Later.trans_ (l15.alloc l15.size _) h16; replace h16 : Later w15 w16 := Later.trans_ ((Below.refl _ _).alloc (Nat.le_refl _) _) h16; replace kt := kt.keep h16; replace px := px.keep h16; replace py := py.keep h16; replace pz := pz.keep h16; replace pw := pw.keep h16)
    | (go_at_call 11; (with_reducible refine (HC2.out _ _ kt.sl l14).mono ?_); rintro e w15 ⟨Aw, cw, rfl, pw, h15⟩; have l15 : Later w w15 := Later.trans_ l14 h15; replace kt := kt.keep h15; replace px := px.keep h15; replace py := py.keep h15; replace pz := pz.keep h15)
    | (go_at_call 11; (with_reducible refine (HC1.out _ _ kt.sl l13).mono ?_); rintro e w14 ⟨Az, cz, rfl, pz, h14⟩; have l14 : Later w w14 := Later.trans_ l13 h14; replace kt := kt.keep h14; replace px := px.keep h14; replace py := py.keep h14)
    | (go_at_call 10; (with_reducible refine (HI2.out _ _ kt.sl l12).mono ?_); rintro e w13 ⟨Ay, cy, rfl, py, h13⟩; have l13 : Later w w13 := Later.trans_ l12 h13; replace kt := kt.keep h13; replace px := px.keep h13)
    | (go_at_call 10; (with_reducible refine (HI0.out _ _ kt.sl l11).mono ?_); rintro e w12 ⟨Ax, cx, rfl, px, h12⟩; have l12 : Later w w12 := Later.trans_ l11 h12; replace kt := kt.keep h12)
    | ((with_reducible refine wpList_store_abs (o := ⟨none, .store 31 (.tmp 6) (.tmp 36), _, _, _, none⟩) rfl _ _ _ rfl w10.heap.size 31 (PartB [] 16) (U rt) ?_ ?_ (Blk.new w10 _ _ _ rfl) (dig_sz HDrt.out.1) (dig_z HDrt.out.1) (U_one _) ?_); rfl; rfl; intro w11 x6 o6; replace x1 := (x1.alloc (.cells (PartB [] 16).toArray 31)).only o6 (Nat.ne_of_lt x1.lt); replace x2 := (x2.alloc (.cells (PartB [] 16).toArray 31)).only o6 (Nat.ne_of_lt x2.lt); replace x3 := (x3.alloc (.cells (PartB [] 16).toArray 31)).only o6 (Nat.ne_of_lt x3.lt); replace x5 := (x5.alloc (.cells (PartB [] 16).toArray 31)).only o6 (Nat.ne_of_lt x5.lt); replace sl0 := sl0.keep (Below.only ((Below.refl _ _).alloc (Nat.le_refl _) _) o6 (Nat.le_refl _)); have l11 : Later w w11 := Below.only (l10.alloc m10 _) o6 m10; have hs6 : w10.heap.size < w11.heap.size := x6.lt; have kt : Kt w11 a b c ab rt w1.heap.size w3.heap.size w5.heap.size w6.heap.size w8.heap.size w10.heap.size := ⟨x1, x2, x3, sl0, x5, x6⟩)
    | (go_at_call 19; (with_reducible refine (HN2.out _ l9).mono ?_); rintro e w10 ⟨rfl, h10⟩; have l10 : Later w w10 := Later.trans_ l9 h10; replace x1 := x1.keep h10; replace x2 := x2.keep h10; replace x3 := x3.keep h10; replace x5 := x5.keep h10; replace sl0 := sl0.keep h10; have m10 := l10.size)
    | ((with_reducible refine wpList_load_blk (o := ⟨some 35, .load 31 (.tmp 3), _, _, _, none⟩) rfl _ _ rfl w5.heap.size 31 (U c) _ ?_ x3 Tryd.underlying31 ?_ (dig_sz HDc.out.1) ?_); rfl; rfl)
    | ((with_reducible refine wpList_load_blk (o := ⟨some 34, .load 31 (.tmp 5), _, _, _, none⟩) rfl _ _ rfl w8.heap.size 31 (U ab) _ ?_ x5 Tryd.underlying31 ?_ (dig_sz HDab.out.1) ?_); rfl; rfl)
    | ((with_reducible refine wpList_store_abs (o := ⟨none, .store 31 (.tmp 5) (.tmp 33), _, _, _, none⟩) rfl _ _ _ rfl w8.heap.size 31 (PartB [] 16) (U ab) ?_ ?_ (Blk.new w8 _ _ _ rfl) (dig_sz HDab.out.1) (dig_z HDab.out.1) (U_one _) ?_); rfl; rfl; intro w9 x5 o5; replace x1 := (x1.alloc (.cells (PartB [] 16).toArray 31)).only o5 (Nat.ne_of_lt x1.lt); replace x2 := (x2.alloc (.cells (PartB [] 16).toArray 31)).only o5 (Nat.ne_of_lt x2.lt); replace x3 := (x3.alloc (.cells (PartB [] 16).toArray 31)).only o5 (Nat.ne_of_lt x3.lt); replace sl0 := sl0.keep (Below.only ((Below.refl _ _).alloc (Nat.le_refl _) _) o5 (Nat.le_refl _)); have l9 : Later w w9 := Below.only (l8.alloc m8 _) o5 m8; have hs5 : w8.heap.size < w9.heap.size := x5.lt)
    | (go_at_call 19; (with_reducible refine (HN1.out _ l7).mono ?_); rintro e w8 ⟨rfl, h8⟩; have l8 : Later w w8 := Later.trans_ l7 h8; replace x1 := x1.keep h8; replace x2 := x2.keep h8; replace x3 := x3.keep h8; replace sl0 := sl0.keep h8; have m8 := l8.size)
    | ((with_reducible refine wpList_load_blk (o := ⟨some 32, .load 31 (.tmp 2), _, _, _, none⟩) rfl _ _ rfl w3.heap.size 31 (U b) _ ?_ x2 Tryd.underlying31 ?_ (dig_sz HDb.out.1) ?_); rfl; rfl)
    | ((with_reducible refine wpList_load_blk (o := ⟨some 31, .load 31 (.tmp 1), _, _, _, none⟩) rfl _ _ rfl w1.heap.size 31 (U a) _ ?_ x1 Tryd.underlying31 ?_ (dig_sz HDa.out.1) ?_); rfl; rfl)
    | ((with_reducible refine wpList_build3 (o := ⟨some 30, .buildSlice 22 3 #[(0, .tmp 27), (1, .tmp 28), (2, .tmp 29)], _, _, _, none⟩) rfl _ _ _ _ _ rfl (U a).toArray (U b).toArray (U c).toArray i0 _ Tryd.underlying22 HI.out.hi HI.out.hz HI.out.hs (U_size HDa.out.1) (U_size HDb.out.1) (U_size HDc.out.1) ?_ ?_ ?_ DL ((ds3 a b c).trans HDL.out.symm) ?_); rfl; rfl; rfl; have m6 := l6.size; have sl0 : Sl (w6.alloc (.cells DL 31)) 16 (some ⟨w6.heap.size, 0, none⟩) 3 (Ds [a, b, c]) := blk_sl (Blk.new _ _ _ _ HDL.out) HL3.out rfl; replace x1 := x1.alloc (.cells DL 31); replace x2 := x2.alloc (.cells DL 31); replace x3 := x3.alloc (.cells DL 31); have l7 := l6.alloc m6 (.cells DL 31))
    | ((with_reducible refine wpList_load_blk (o := ⟨some 29, .load 31 (.tmp 3), _, _, _, none⟩) rfl _ _ rfl w5.heap.size 31 (U c) _ ?_ x3 Tryd.underlying31 ?_ (dig_sz HDc.out.1) ?_); rfl; rfl)
    | ((with_reducible refine wpList_load_blk (o := ⟨some 28, .load 31 (.tmp 2), _, _, _, none⟩) rfl _ _ rfl w3.heap.size 31 (U b) _ ?_ x2 Tryd.underlying31 ?_ (dig_sz HDb.out.1) ?_); rfl; rfl)
    | ((with_reducible refine wpList_load_blk (o := ⟨some 27, .load 31 (.tmp 1), _, _, _, none⟩) rfl _ _ rfl w1.heap.size 31 (U a) _ ?_ x1 Tryd.underlying31 ?_ (dig_sz HDa.out.1) ?_); rfl; rfl)
    | ((with_reducible refine wpList_store_abs (o := ⟨none, .store 31 (.tmp 3) (.tmp 26), _, _, _, none⟩) rfl _ _ _ rfl w5.heap.size 31 (PartB [] 16) (U c) ?_ ?_ (Blk.new w5 _ _ _ rfl) (dig_sz HDc.out.1) (dig_z HDc.out.1) (U_one _) ?_); rfl; rfl; intro w6 x3 o3; replace x1 := (x1.alloc (.cells (PartB [] 16).toArray 31)).only o3 (Nat.ne_of_lt x1.lt); replace x2 := (x2.alloc (.cells (PartB [] 16).toArray 31)).only o3 (Nat.ne_of_lt x2.lt); have l6 : Later w w6 := Below.only (l5.alloc m5 _) o3 m5; have hs3 : w5.heap.size < w6.heap.size := x3.lt)
    | (go_at_call 14; (with_reducible refine (HLc.out _ l4).mono ?_); rintro e w5 ⟨rfl, h5⟩; have l5 : Later w w5 := Later.trans_ l4 h5; replace x1 := x1.keep h5; replace x2 := x2.keep h5; have m5 := l5.size)
    | ((with_reducible refine wpList_store_abs (o := ⟨none, .store 31 (.tmp 2) (.tmp 25), _, _, _, none⟩) rfl _ _ _ rfl w3.heap.size 31 (PartB [] 16) (U b) ?_ ?_ (Blk.new w3 _ _ _ rfl) (dig_sz HDb.out.1) (dig_z HDb.out.1) (U_one _) ?_); rfl; rfl; intro w4 x2 o2; replace x1 := (x1.alloc (.cells (PartB [] 16).toArray 31)).only o2 (Nat.ne_of_lt x1.lt); have l4 : Later w w4 := Below.only (l3.alloc m3 _) o2 m3; have hs2 : w3.heap.size < w4.heap.size := x2.lt)
    | (go_at_call 14; (with_reducible refine (HLb.out _ l2).mono ?_); rintro e w3 ⟨rfl, h3⟩; have l3 : Later w w3 := Later.trans_ l2 h3; replace x1 := x1.keep h3; have m3 := l3.size)
    | ((with_reducible refine wpList_store_abs (o := ⟨none, .store 31 (.tmp 1) (.tmp 24), _, _, _, none⟩) rfl _ _ _ rfl w1.heap.size 31 (PartB [] 16) (U a) ?_ ?_ (Blk.new w1 _ _ _ rfl) (dig_sz HDa.out.1) (dig_z HDa.out.1) (U_one _) ?_); rfl; rfl; intro w2 x1 o1; have l2 : Later w w2 := Below.only (l1.alloc m1 _) o1 m1; have hs1 : w1.heap.size < w2.heap.size := x1.lt)
    | (go_at_call 14; (with_reducible refine (HLa.out _ (Below.refl _ _)).mono ?_); rintro e w1 ⟨rfl, h1⟩; have l1 : Later w w1 := h1; have m1 := l1.size))
  have k16 := kt; have px16 := px; have py16 := py; have pz16 := pz; have pw16 := pw; have pm16 := pm
  have l17 := l16.alloc l16.size (.cells #[.int .i64 0, .slice none 0 0] 43)
  have a17 : Later w16 (w16.alloc (.cells #[.int .i64 0, .slice none 0 0] 43)) := (Below.refl _ _).alloc (Nat.le_refl _) _
  replace kt := kt.keep a17; replace px := px.keep a17; replace py := py.keep a17; replace pz := pz.keep a17; replace pw := pw.keep a17; replace pm := pm.keep a17
  have bq : Blk (w16.alloc (.cells #[.int .i64 0, .slice none 0 0] 43)) w16.heap.size 43 [.int .i64 0, .slice none 0 0] := Blk.new _ _ _ _ rfl
  have hQ : w.heap.size ≤ w16.heap.size := l16.size
  obtain ⟨B1, e1⟩ : ∃ B1, B1 = w1.heap.size := ⟨_, rfl⟩
  obtain ⟨B2, e2⟩ : ∃ B2, B2 = w3.heap.size := ⟨_, rfl⟩
  obtain ⟨B3, e3⟩ : ∃ B3, B3 = w5.heap.size := ⟨_, rfl⟩
  obtain ⟨L, e4⟩ : ∃ L, L = w6.heap.size := ⟨_, rfl⟩
  obtain ⟨B5, e5⟩ : ∃ B5, B5 = w8.heap.size := ⟨_, rfl⟩
  obtain ⟨B6, e6⟩ : ∃ B6, B6 = w10.heap.size := ⟨_, rfl⟩
  have hB : B1 < w16.heap.size ∧ B2 < w16.heap.size ∧ B3 < w16.heap.size ∧ L < w16.heap.size ∧ B5 < w16.heap.size ∧ B6 < w16.heap.size := ⟨by rw [e1]; exact k16.b1.lt, by rw [e2]; exact k16.b2.lt, by rw [e3]; exact k16.b3.lt, by
    rw [e4]; obtain ⟨_, e, h, _⟩ := k16.sl.2 (by decide); cases e; exact h, by rw [e5]; exact k16.b5.lt, by rw [e6]; exact k16.b6.lt⟩
  have hP : (∀ ad, Ax = some ad → ad.block < w16.heap.size) ∧ (∀ ad, Ay = some ad → ad.block < w16.heap.size) ∧ (∀ ad, Az = some ad → ad.block < w16.heap.size) ∧ (∀ ad, Aw = some ad → ad.block < w16.heap.size) ∧ (∀ ad, Am = some ad → ad.block < w16.heap.size) := by
    refine ⟨?_, ?_, ?_, ?_, ?_⟩ <;> intro ad e <;> subst e
    · obtain ⟨_, e, h, _⟩ := px16.1.2 (by decide); cases e; exact h
    · obtain ⟨_, e, h, _⟩ := py16.1.2 (by decide); cases e; exact h
    · obtain ⟨_, e, h, _⟩ := pz16.1.2 (by decide); cases e; exact h
    · obtain ⟨_, e, h, _⟩ := pw16.1.2 (by decide); cases e; exact h
    · obtain ⟨_, e, h, _⟩ := pm16.1.2 (by decide); cases e; exact h
  rw [← e1, ← e2, ← e3, ← e4, ← e5, ← e6] at kt ⊢
  clear k16 px16 py16 pz16 pw16 pm16 e1 e2 e3 e4 e5 e6 a17
  obtain ⟨Q, eQ⟩ : ∃ Q, Q = w16.heap.size := ⟨_, rfl⟩
  rw [← eQ] at bq hQ hB hP ⊢
  generalize w16.alloc (.cells #[.int .i64 0, .slice none 0 0] 43) = u0 at kt px py pz pw pm bq l17 ⊢
  clear eQ
  clear HLa HLb HLc HN1 HN2 HI0 HI2 HC1 HC2 HM
  have HST := Lib.hid fun (k : Nat) (hk : k < 3) (X : Wm.Bs) (hX : [a, b, c][k]? = some X) (A : Option Addr) (n cc : Nat) (hn : n = (PKs a ab c k).length) (w' : World) (hp : Pt w' A n cc (PKs a ab c k)) (hw : Later w w') => san_step a b c ab X HDa.out HDb.out HDc.out HDab.out EAB.out k hk hX A n cc hn w' hp (TB.out.keep hw)
  have HB6 := Lib.hid hB; have HP6 := Lib.hid hP
  clear hB hP
  go_loopw [18] (fun v wr => ∃ (k : Nat) (A : Option Addr) (n cc : Nat), v = .int .i64 k ∧ k ≤ 3 ∧ Hid (n = (PKs a ab c k).length) ∧ Blk wr Q 43 [.int .i64 k, .slice A n cc] ∧ Hid (∀ ad, A = some ad → ad.block ≠ Q) ∧ Pt wr A n cc (PKs a ab c k) ∧ Kt wr a b c ab rt B1 B2 B3 L B5 B6 ∧ Pt wr Ax 2 cx [b, c] ∧ Pt wr Ay 1 cy [ab] ∧ Pt wr Az 2 cz [b, c] ∧ Pt wr Aw 1 cw [c] ∧ Pt wr Am 1 cm [b] ∧ Later w wr) (fun v _ => 3 - (intOf v).toNat)
  case atStart => exact ⟨0, none, 0, 0, rfl, by decide, Lib.hid rfl, bq, Lib.hid (fun _ h => by cases h), ⟨Sl.nil _ _ _, Nat.le_refl _, by decide⟩, kt, px, py, pz, pw, pm, l17⟩
  case round =>
    clear kt px py pz pw pm bq l17
    obtain ⟨k, A, n, cc, rfl, hk, HNN, bq, HQA, pt, kt, px, py, pz, pw, pm, lr⟩ := hrel
    by_cases hlt : k < 3
    · obtain ⟨ad, eL, _, hkl, hck⟩ := kt.sl.digest HL3.out hlt
      cases eL
      obtain ⟨X, hX⟩ : ∃ X, X = [a, b, c][k] := ⟨_, rfl⟩
      have hXs : [a, b, c][k]? = some X := by rw [List.getElem?_eq_getElem hkl, hX]
      have HXD := Lib.hid (HL3.out _ (List.getElem_mem hkl))
      rw [← hX] at hck HXD
      have HCK := Lib.hid fun (w' : World) (h : Sl w' 16 (some ⟨L, 0, none⟩) 3 (Ds [a, b, c])) (j : Nat) (v : Value) (hv : (U X)[j]? = some v) => (by
        obtain ⟨ad, e, _, hkl, hck⟩ := h.digest HL3.out hlt
        cases e
        exact hck j v (by rw [← hX]; exact hv) : w'.cell? (((⟨L, 0, none⟩ : Addr).add (k * 16)).add j) = some v)
      have HS1 := Lib.hid fun (w' : World) (hp : Pt w' A n cc (PKs a ab c k)) (hw : Later w w') => HST.out k hlt X hXs A n cc HNN.out w' hp hw
      obtain ⟨n', en⟩ : ∃ n', n' = (PKs a ab c (k + 1)).length := ⟨_, rfl⟩
      rw [← en] at HS1
      have HEN := Lib.hid en
      have kn : (k : Int) < 3 := by omega
      have kn1 : IntKind.i64.wrap ((k : Int) + 1) = (k : Int) + 1 := IntWalk.i64_in _ (by omega)
      have HPOS : Hid (0 < n') := Lib.hid (by
        rw [en]
        obtain rfl | rfl | rfl : k = 0 ∨ k = 1 ∨ k = 2 := by omega
        all_goals exact Nat.succ_pos _)
      have hqr : Q < wr.drew.heap.size := bq.lt
      clear hck hX hXs hkl en HST
      go_wp2_with fail
      have hQ1 := lr.size
      refine wp_region_held_drew (S := fun w' => w'.rangeAt Q 0 [.int .i64 k, .slice A n cc] ∧ ∀ j v, (U X)[j]? = some v → w'.cell? (((⟨L, 0, none⟩ : Addr).add (k * 16)).add j) = some v) (by kernel_rfl) ⟨blk_at bq.drew, HCK.out _ kt.sl.drew⟩ (fun hHeld => ?_)
      refine wpAnyH_take (i := 0) (oi := ⟨some 68, .load 43 (.tmp 17), _, _, _, none⟩) (v := .agg #[.int .i64 k, .slice A n cc]) rfl (by kernel_rfl) (by kernel_rfl) (by kernel_rfl) (fun _ _ _ h => h) (yieldsIf_load_mid (by rfl) _ _ rfl _ _ rfl [.int .i64 k, .slice A n cc] _ (fun w h => h.1) Tryd.underlying43 rfl peaks_sz) hHeld ?_
      simp only [Act.put, List.setIfInBounds_toArray, List.set_cons_zero, List.set_cons_succ]
      refine wpAnyH_take (i := 1) (oi := ⟨some 69, .move (.tmp 4), _, _, _, none⟩) (v := .slice (some ⟨L, 0, none⟩) 3 3) rfl (by kernel_rfl) (by kernel_rfl) (by kernel_rfl) (fun _ _ _ h => h) (Or.inl ⟨by rfl, fun _ _ => rfl⟩) hHeld ?_
      simp only [Act.put, List.setIfInBounds_toArray, List.set_cons_zero, List.set_cons_succ]
      refine wpAnyH_take (i := 2) (oi := ⟨some 70, .move (.tmp 18), _, _, _, none⟩) (v := .int .i64 k) rfl (by kernel_rfl) (by kernel_rfl) (by kernel_rfl) (fun _ _ _ h => h) (Or.inl ⟨by rfl, fun _ _ => rfl⟩) hHeld ?_
      simp only [Act.put, List.setIfInBounds_toArray, List.set_cons_zero, List.set_cons_succ]
      refine wpAnyH_take (i := 3) (oi := ⟨some 71, .indexAddr 22 (.tmp 69) (.tmp 70), _, _, _, none⟩) (v := .pointer (some ((⟨L, 0, none⟩ : Addr).add (k * 16)))) rfl (by kernel_rfl) (by kernel_rfl) (by kernel_rfl) (fun _ _ _ h => h) (Or.inl ⟨by rfl, fun w _ => by go_simp⟩) hHeld ?_
      simp only [Act.put, List.setIfInBounds_toArray, List.set_cons_zero, List.set_cons_succ]
      refine wpAnyH_take (i := 4) (oi := ⟨some 72, .load 31 (.tmp 71), _, _, _, none⟩) (v := .agg (U X).toArray) rfl (by kernel_rfl) (by kernel_rfl) (by kernel_rfl) (fun _ _ _ h => h) (yieldsIf_load_addr (by rfl) _ _ rfl _ (by rfl) (U X) _ (fun w h => h.2) Tryd.underlying31 rfl (dig_sz HXD.out.1)) hHeld ?_
      simp only [Act.put, List.setIfInBounds_toArray, List.set_cons_zero, List.set_cons_succ]
      refine wpAnyH_ready (rs := [5, 9]) (by kernel_rfl) (by simp) (AllReadyH.cons (o := ⟨some 73, .call { callee := .value (.func 25), args := #[.tmp 68, .tmp 72], argTypes := #[43, 31] }, _, _, _, none⟩) rfl (fun K' hK => ?_) (AllReadyH.cons (o := ⟨some 19, .alloc 43, _, _, _, none⟩) rfl (fun K' hK => ?_) (AllReadyH.nil)))
      · go_simp
        refine (HS1.out _ pt.drew lr.drew).mono ?_
        rintro e w3 ⟨A', c', rfl, q2, qA, l3⟩
        replace bq := bq.drew; replace kt := kt.drew; replace px := px.drew; replace py := py.drew; replace pz := pz.drew; replace pw := pw.drew; replace pm := pm.drew
        replace bq := bq.keep l3; replace kt := kt.keep l3; replace px := px.keep l3; replace py := py.keep l3; replace pz := pz.keep l3; replace pw := pw.keep l3; replace pm := pm.keep l3
        have lw : Later w w3 := Later.trans_ lr.drew l3
        have hq3 := bq.lt
        have hAQ : ∀ ad, A' = some ad → ad.block ≠ Q := fun ad e => by have := qA ad e; omega
        refine hK.out _ _ ⟨blk_at bq, HCK.out _ kt.sl⟩ (fun hHeld => ?_)
        clear hK K'
        try simp only [Act.put, List.setIfInBounds_toArray, List.set_cons_zero, List.set_cons_succ]
        refine wpAnyH_take (i := 6) (oi := ⟨some 67, .move (.tmp 73), _, _, _, none⟩) (v := .tuple #[.agg #[.int .i64 ((k : Int) + 1), .slice A' n' c'], .int .i64 0]) rfl (by kernel_rfl) (by kernel_rfl) (by kernel_rfl) (fun _ _ _ h => h) (Or.inl ⟨by rfl, fun _ _ => rfl⟩) hHeld ?_
        simp only [Act.put, List.setIfInBounds_toArray, List.set_cons_zero, List.set_cons_succ]
        refine wpAnyH_take (i := 7) (oi := ⟨some 74, .extract (.tmp 67) 0, _, _, _, none⟩) (v := .agg #[.int .i64 ((k : Int) + 1), .slice A' n' c']) rfl (by kernel_rfl) (by kernel_rfl) (by kernel_rfl) (fun _ _ _ h => h) (Or.inl ⟨by rfl, fun w _ => by go_simp⟩) hHeld ?_
        simp only [Act.put, List.setIfInBounds_toArray, List.set_cons_zero, List.set_cons_succ]
        refine wpAnyH_take (i := 8) (oi := ⟨some 75, .extract (.tmp 67) 1, _, _, _, none⟩) (v := .int .i64 0) rfl (by kernel_rfl) (by kernel_rfl) (by kernel_rfl) (fun _ _ _ h => h) (Or.inl ⟨by rfl, fun w _ => by go_simp⟩) hHeld ?_
        simp only [Act.put, List.setIfInBounds_toArray, List.set_cons_zero, List.set_cons_succ]
        refine wpAnyH_ready (rs := [9]) (by kernel_rfl) (by simp) (AllReadyH.cons (o := ⟨some 19, .alloc 43, _, _, _, none⟩) rfl (fun K' hK => ?_) (AllReadyH.nil))
        go_simp
        have la : Later w3 (w3.alloc (.cells #[.int .i64 0, .slice none 0 0] 43)) := (Below.refl _ _).alloc (Nat.le_refl _) _
        have bG : Blk (w3.alloc (.cells #[.int .i64 0, .slice none 0 0] 43)) w3.heap.size 43 [.int .i64 0, .slice none 0 0] := Blk.new _ _ _ _ rfl
        have hAG : ∀ ad, A' = some ad → ad.block ≠ w3.heap.size := fun ad e => Nat.ne_of_lt (q2.lt HPOS.out ad e)
        replace bq := bq.keep la; replace kt := kt.keep la; replace px := px.keep la; replace py := py.keep la; replace pz := pz.keep la; replace pw := pw.keep la; replace pm := pm.keep la
        replace q2 := q2.keep la; replace lw := Later.trans_ lw la
        refine hK.out _ _ ⟨blk_at bq, HCK.out _ kt.sl⟩ (fun hHeld => ?_)
        clear hK K'
        try simp only [Act.put, List.setIfInBounds_toArray, List.set_cons_zero, List.set_cons_succ]
        obtain ⟨G, eG⟩ : ∃ G, G = w3.heap.size := ⟨_, rfl⟩
        have hGQ : Q < G := by rw [eG]; exact hq3
        rw [← eG] at bG hAG ⊢
        generalize w3.alloc (.cells #[.int .i64 0, .slice none 0 0] 43) = w5 at bG bq kt px py pz pw pm q2 lw hHeld ⊢
        clear eG
        refine wpAnyH_ready (rs := [10]) (by kernel_rfl) (by simp) (AllReadyH.cons (o := ⟨none, .store 43 (.tmp 19) (.tmp 74), _, _, _, none⟩) rfl (fun K' hK => ?_) (AllReadyH.nil))
        refine wp_store_whole _ _ _ rfl G 43 [.int .i64 0, .slice none 0 0] [.int .i64 ((k : Int) + 1), .slice A' n' c'] rfl rfl bG peaks_sz rfl (pk_one _ _ rfl rfl) ?_
        intro w6 y1 y2
        replace bq := bq.only y2 (Nat.ne_of_lt hGQ)
        have kB := HB6.out; have kP := HP6.out
        replace kt : Kt w6 a b c ab rt B1 B2 B3 L B5 B6 := ⟨kt.b1.only y2 (by omega), kt.b2.only y2 (by omega), kt.b3.only y2 (by omega), kt.sl.only y2 (by show L ≠ G; omega), kt.b5.only y2 (by omega), kt.b6.only y2 (by omega)⟩
        replace px := px.only y2 (fun ad e => by have := kP.1 ad e; omega)
        replace py := py.only y2 (fun ad e => by have := kP.2.1 ad e; omega)
        replace pz := pz.only y2 (fun ad e => by have := kP.2.2.1 ad e; omega)
        replace pw := pw.only y2 (fun ad e => by have := kP.2.2.2.1 ad e; omega)
        replace pm := pm.only y2 (fun ad e => by have := kP.2.2.2.2 ad e; omega)
        replace q2 := q2.only y2 hAG
        replace lw : Later w w6 := Below.only lw y2 (by omega)
        refine hK.out _ _ ⟨blk_at bq, HCK.out _ kt.sl⟩ (fun hHeld => ?_)
        clear hK K'
        try simp only [Act.put]
        refine wpAnyH_take (i := 11) (oi := ⟨some 20, .assign (.tmp 75), _, _, _, none⟩) (v := .int .i64 0) rfl (by kernel_rfl) (by kernel_rfl) (by kernel_rfl) (fun _ _ _ h => h) (Or.inl ⟨by rfl, fun _ _ => rfl⟩) hHeld ?_
        simp only [Act.put, List.setIfInBounds_toArray, List.set_cons_zero, List.set_cons_succ]
        refine wpAnyH_done (by kernel_rfl) ?_ _
        clear hHeld
        go_wp2_with (first
          | ((with_reducible refine wpList_load_blk (o := ⟨some 78, .load 43 (.tmp 19), _, _, _, none⟩) rfl _ _ rfl G 43 [.int .i64 ((k : Int) + 1), .slice A' n' c'] _ ?_ y1 Tryd.underlying43 ?_ (pk_sz _ _) ?_); rfl; rfl)
          | ((with_reducible refine wpList_store_abs (o := ⟨none, .store 43 (.tmp 17) (.tmp 78), _, _, _, none⟩) rfl _ _ _ rfl Q 43 [.int .i64 k, .slice A n cc] [.int .i64 ((k : Int) + 1), .slice A' n' c'] ?_ ?_ bq (pk_sz _ _) (pk_len _ _ _ _) (pk_one _ _ ?_ ?_) ?_); rfl; rfl; rfl; rfl; intro w7 z1 z2))
        replace kt : Kt w7 a b c ab rt B1 B2 B3 L B5 B6 := ⟨kt.b1.only z2 (by omega), kt.b2.only z2 (by omega), kt.b3.only z2 (by omega), kt.sl.only z2 (by show L ≠ Q; omega), kt.b5.only z2 (by omega), kt.b6.only z2 (by omega)⟩
        replace px := px.only z2 (fun ad e => by have := kP.1 ad e; omega)
        replace py := py.only z2 (fun ad e => by have := kP.2.1 ad e; omega)
        replace pz := pz.only z2 (fun ad e => by have := kP.2.2.1 ad e; omega)
        replace pw := pw.only z2 (fun ad e => by have := kP.2.2.2.1 ad e; omega)
        replace pm := pm.only z2 (fun ad e => by have := kP.2.2.2.2 ad e; omega)
        replace q2 := q2.only z2 hAQ
        replace lw : Later w w7 := Below.only lw z2 hQ
        go_roundw
        case rel => exact ⟨k + 1, A', n', c', by go_num, hlt, HEN, z1, Lib.hid hAQ, q2, kt, px, py, pz, pw, pm, lw⟩
        case measure => simp [intOf]; omega
      · go_simp
        replace bq := bq.drew; replace kt := kt.drew; replace px := px.drew; replace py := py.drew; replace pz := pz.drew; replace pw := pw.drew; replace pm := pm.drew; replace pt := pt.drew
        have la : Later wr.drew (wr.alloc (.cells #[.int .i64 0, .slice none 0 0] 43)).drew := ((Below.refl _ _).alloc (Nat.le_refl _) _ : Later wr.drew (wr.drew.alloc (.cells #[.int .i64 0, .slice none 0 0] 43)))
        have bG : Blk (wr.alloc (.cells #[.int .i64 0, .slice none 0 0] 43)).drew wr.heap.size 43 [.int .i64 0, .slice none 0 0] := (Blk.new wr _ _ _ rfl).drew
        replace bq := bq.keep la; replace kt := kt.keep la; replace px := px.keep la; replace py := py.keep la; replace pz := pz.keep la; replace pw := pw.keep la; replace pm := pm.keep la
        replace pt := pt.keep la; have lw0 : Later w _ := Later.trans_ lr.drew la
        refine hK.out _ _ ⟨blk_at bq, HCK.out _ kt.sl⟩ (fun hHeld => ?_)
        clear hK K'
        try simp only [Act.put, List.setIfInBounds_toArray, List.set_cons_zero, List.set_cons_succ]
        obtain ⟨G, eG⟩ : ∃ G, G = wr.heap.size := ⟨_, rfl⟩
        have hGQ : Q < G := by rw [eG]; exact hqr
        rw [← eG] at bG ⊢
        generalize (wr.alloc (.cells #[.int .i64 0, .slice none 0 0] 43)).drew = w5 at bG bq kt px py pz pw pm pt lw0 hHeld ⊢
        clear eG
        refine wpAnyH_ready (rs := [5]) (by kernel_rfl) (by simp) (AllReadyH.cons (o := ⟨some 73, .call { callee := .value (.func 25), args := #[.tmp 68, .tmp 72], argTypes := #[43, 31] }, _, _, _, none⟩) rfl (fun K' hK => ?_) (AllReadyH.nil))
        go_simp
        refine (HS1.out _ pt lw0).mono ?_
        rintro e w3 ⟨A', c', rfl, q2, qA, l3⟩
        have hG5 := bG.lt
        replace bG := bG.keep l3
        have hAG : ∀ ad, A' = some ad → ad.block ≠ G := fun ad e => by have := qA ad e; omega
        have hAQ : ∀ ad, A' = some ad → ad.block ≠ Q := fun ad e => by have := qA ad e; omega
        replace bq := bq.keep l3; replace kt := kt.keep l3; replace px := px.keep l3; replace py := py.keep l3; replace pz := pz.keep l3; replace pw := pw.keep l3; replace pm := pm.keep l3
        have lw : Later w w3 := Later.trans_ lw0 l3
        refine hK.out _ _ ⟨blk_at bq, HCK.out _ kt.sl⟩ (fun hHeld => ?_)
        clear hK K'
        try simp only [Act.put, List.setIfInBounds_toArray, List.set_cons_zero, List.set_cons_succ]
        refine wpAnyH_take (i := 6) (oi := ⟨some 67, .move (.tmp 73), _, _, _, none⟩) (v := .tuple #[.agg #[.int .i64 ((k : Int) + 1), .slice A' n' c'], .int .i64 0]) rfl (by kernel_rfl) (by kernel_rfl) (by kernel_rfl) (fun _ _ _ h => h) (Or.inl ⟨by rfl, fun _ _ => rfl⟩) hHeld ?_
        simp only [Act.put, List.setIfInBounds_toArray, List.set_cons_zero, List.set_cons_succ]
        refine wpAnyH_take (i := 7) (oi := ⟨some 74, .extract (.tmp 67) 0, _, _, _, none⟩) (v := .agg #[.int .i64 ((k : Int) + 1), .slice A' n' c']) rfl (by kernel_rfl) (by kernel_rfl) (by kernel_rfl) (fun _ _ _ h => h) (Or.inl ⟨by rfl, fun w _ => by go_simp⟩) hHeld ?_
        simp only [Act.put, List.setIfInBounds_toArray, List.set_cons_zero, List.set_cons_succ]
        refine wpAnyH_take (i := 8) (oi := ⟨some 75, .extract (.tmp 67) 1, _, _, _, none⟩) (v := .int .i64 0) rfl (by kernel_rfl) (by kernel_rfl) (by kernel_rfl) (fun _ _ _ h => h) (Or.inl ⟨by rfl, fun w _ => by go_simp⟩) hHeld ?_
        simp only [Act.put, List.setIfInBounds_toArray, List.set_cons_zero, List.set_cons_succ]
        refine wpAnyH_ready (rs := [10]) (by kernel_rfl) (by simp) (AllReadyH.cons (o := ⟨none, .store 43 (.tmp 19) (.tmp 74), _, _, _, none⟩) rfl (fun K' hK => ?_) (AllReadyH.nil))
        refine wp_store_whole _ _ _ rfl G 43 [.int .i64 0, .slice none 0 0] [.int .i64 ((k : Int) + 1), .slice A' n' c'] rfl rfl bG peaks_sz rfl (pk_one _ _ rfl rfl) ?_
        intro w6 y1 y2
        replace bq := bq.only y2 (Nat.ne_of_lt hGQ)
        have kB := HB6.out; have kP := HP6.out
        replace kt : Kt w6 a b c ab rt B1 B2 B3 L B5 B6 := ⟨kt.b1.only y2 (by omega), kt.b2.only y2 (by omega), kt.b3.only y2 (by omega), kt.sl.only y2 (by show L ≠ G; omega), kt.b5.only y2 (by omega), kt.b6.only y2 (by omega)⟩
        replace px := px.only y2 (fun ad e => by have := kP.1 ad e; omega)
        replace py := py.only y2 (fun ad e => by have := kP.2.1 ad e; omega)
        replace pz := pz.only y2 (fun ad e => by have := kP.2.2.1 ad e; omega)
        replace pw := pw.only y2 (fun ad e => by have := kP.2.2.2.1 ad e; omega)
        replace pm := pm.only y2 (fun ad e => by have := kP.2.2.2.2 ad e; omega)
        replace q2 := q2.only y2 hAG
        replace lw : Later w w6 := Below.only lw y2 (by omega)
        refine hK.out _ _ ⟨blk_at bq, HCK.out _ kt.sl⟩ (fun hHeld => ?_)
        clear hK K'
        try simp only [Act.put]
        refine wpAnyH_take (i := 11) (oi := ⟨some 20, .assign (.tmp 75), _, _, _, none⟩) (v := .int .i64 0) rfl (by kernel_rfl) (by kernel_rfl) (by kernel_rfl) (fun _ _ _ h => h) (Or.inl ⟨by rfl, fun _ _ => rfl⟩) hHeld ?_
        simp only [Act.put, List.setIfInBounds_toArray, List.set_cons_zero, List.set_cons_succ]
        refine wpAnyH_done (by kernel_rfl) ?_ _
        clear hHeld
        go_wp2_with (first
          | ((with_reducible refine wpList_load_blk (o := ⟨some 78, .load 43 (.tmp 19), _, _, _, none⟩) rfl _ _ rfl G 43 [.int .i64 ((k : Int) + 1), .slice A' n' c'] _ ?_ y1 Tryd.underlying43 ?_ (pk_sz _ _) ?_); rfl; rfl)
          | ((with_reducible refine wpList_store_abs (o := ⟨none, .store 43 (.tmp 17) (.tmp 78), _, _, _, none⟩) rfl _ _ _ rfl Q 43 [.int .i64 k, .slice A n cc] [.int .i64 ((k : Int) + 1), .slice A' n' c'] ?_ ?_ bq (pk_sz _ _) (pk_len _ _ _ _) (pk_one _ _ ?_ ?_) ?_); rfl; rfl; rfl; rfl; intro w7 z1 z2))
        replace kt : Kt w7 a b c ab rt B1 B2 B3 L B5 B6 := ⟨kt.b1.only z2 (by omega), kt.b2.only z2 (by omega), kt.b3.only z2 (by omega), kt.sl.only z2 (by show L ≠ Q; omega), kt.b5.only z2 (by omega), kt.b6.only z2 (by omega)⟩
        replace px := px.only z2 (fun ad e => by have := kP.1 ad e; omega)
        replace py := py.only z2 (fun ad e => by have := kP.2.1 ad e; omega)
        replace pz := pz.only z2 (fun ad e => by have := kP.2.2.1 ad e; omega)
        replace pw := pw.only z2 (fun ad e => by have := kP.2.2.2.1 ad e; omega)
        replace pm := pm.only z2 (fun ad e => by have := kP.2.2.2.2 ad e; omega)
        replace q2 := q2.only z2 hAQ
        replace lw : Later w w7 := Below.only lw z2 hQ
        go_roundw
        case rel => exact ⟨k + 1, A', n', c', by go_num, hlt, HEN, z1, Lib.hid hAQ, q2, kt, px, py, pz, pw, pm, lw⟩
        case measure => simp [intOf]; omega
    · obtain rfl : k = 3 := by omega
      obtain rfl : n = 2 := HNN.out
      replace pt : Pt wr A 2 cc [ab, c] := pt
      have kn : ¬ ((3 : Nat) : Int) < 3 := by decide
      clear hlt hk HNN HST
      have hgd : Tryd.prog.eqGuardType Tryd.prog.depth 31 = false := by kernel_rfl
      have qrt : ∀ w' : World, (Op.equalIn 10000 31 (.agg (U rt).toArray) (.agg (U rt).toArray)).run Tryd.prog w' = .ok true w' := fun w' => by rw [dig_eq HDrt.out.1 HDrt.out.1 w', decide_eq_true rfl]
      have qa : ∀ w' : World, (Op.equalIn 10000 31 (.agg (U a).toArray) (.agg (U a).toArray)).run Tryd.prog w' = .ok true w' := fun w' => by rw [dig_eq HDa.out.1 HDa.out.1 w', decide_eq_true rfl]
      have qab : ∀ w' : World, (Op.equalIn 10000 31 (.agg (U ab).toArray) (.agg (U ab).toArray)).run Tryd.prog w' = .ok true w' := fun w' => by rw [dig_eq HDab.out.1 HDab.out.1 w', decide_eq_true rfl]
      have HRo := Lib.hid fun (w' : World) (hs : Sl w' 16 (some ⟨L, 0, none⟩) 3 (Ds [a, b, c])) (hw : Later w w') => by have h := root_any 3 (some ⟨L, 0, none⟩) 3 3 [a, b, c] w' (Nat.le_refl _) hs HL3.out (by decide) (by decide) (by decide) (TB.out.keep hw); rw [show rootD [a, b, c] = rt by unfold rootD; rw [s_root3, ← EAB.out, ← ERT.out]] at h; exact h
      have HCI := Lib.hid fun (A : Option Addr) (x : Nat) (w' : World) (hp : Pt w' A 2 x [b, c]) (hw : Later w w') => san_ci a b c ab rt HDa.out HDb.out HDc.out HDrt.out EAB.out ERT.out A x w' hp (TB.out.keep hw)
      have HCC := Lib.hid fun (A : Option Addr) (x : Nat) (w' : World) (hp : Pt w' A 2 x [b, c]) (hw : Later w w') => san_cc a b c ab rt HDa.out HDb.out HDc.out HDrt.out EAB.out ERT.out A x w' hp (TB.out.keep hw)
      have HCM := Lib.hid fun (A : Option Addr) (x M N : Nat) (w' : World) (hp : Pt w' A 1 x [b]) (h1 : Blk w' M 3 (N64 [0, 2])) (h2 : Blk w' N 31 (Ds [a, c])) (hw : Later w w') => san_cm a b c ab rt HDa.out HDb.out HDc.out HDrt.out EAB.out ERT.out A x M N w' hp h1 h2 (TB.out.keep hw)
      have HCN := Lib.hid fun (A : Option Addr) (x : Nat) (w' : World) (hp : Pt w' A 1 x [ab]) (hw : Later w w') => san_cn a ab rt HDa.out HDab.out HDrt.out A x w' hp (TB.out.keep hw)
      clear EAB ERT
      go_wp2_with fail
      refine wp_region_held_drew (S := fun w' => w'.rangeAt B6 0 (U rt) ∧ w'.rangeAt B1 0 (U a) ∧ w'.rangeAt B5 0 (U ab) ∧ w'.rangeAt B2 0 (U b)) (by kernel_rfl) ⟨blk_at kt.b6.drew, blk_at kt.b1.drew, blk_at kt.b5.drew, blk_at kt.b2.drew⟩ (fun hHeld => ?_)
      refine wpAnyH_take (i := 0) (oi := ⟨some 79, .move (.tmp 8), _, _, _, _⟩) (v := .int .i64 0) rfl (by kernel_rfl) (by kernel_rfl) (by kernel_rfl) (fun _ _ _ h => h) (Or.inl ⟨by rfl, fun _ _ => rfl⟩) hHeld ?_
      simp only [Act.put, List.setIfInBounds_toArray, List.set_cons_zero, List.set_cons_succ]
      refine wpAnyH_take (i := 1) (oi := ⟨some 80, .binOp .eql 24 (.tmp 79) (.const (.int .i64 0)) 24, _, _, _, _⟩) (v := .bool true) rfl (by kernel_rfl) (by kernel_rfl) (by kernel_rfl) (fun _ _ _ h => h) (Or.inl ⟨by rfl, fun w _ => by go_simp⟩) hHeld ?_
      simp only [Act.put, List.setIfInBounds_toArray, List.set_cons_zero, List.set_cons_succ]
      refine wpAnyH_take (i := 2) (oi := ⟨some 81, .move (.tmp 80), _, _, _, _⟩) (v := .bool true) rfl (by kernel_rfl) (by kernel_rfl) (by kernel_rfl) (fun _ _ _ h => h) (Or.inl ⟨by rfl, fun _ _ => rfl⟩) hHeld ?_
      simp only [Act.put, List.setIfInBounds_toArray, List.set_cons_zero, List.set_cons_succ]
      refine wpAnyH_take (i := 3) (oi := ⟨some 82, .move (.tmp 10), _, _, _, _⟩) (v := .int .i64 0) rfl (by kernel_rfl) (by kernel_rfl) (by kernel_rfl) (fun _ _ _ h => h) (Or.inl ⟨by rfl, fun _ _ => rfl⟩) hHeld ?_
      simp only [Act.put, List.setIfInBounds_toArray, List.set_cons_zero, List.set_cons_succ]
      refine wpAnyH_take (i := 4) (oi := ⟨some 83, .binOp .eql 24 (.tmp 82) (.const (.int .i64 0)) 24, _, _, _, _⟩) (v := .bool true) rfl (by kernel_rfl) (by kernel_rfl) (by kernel_rfl) (fun _ _ _ h => h) (Or.inl ⟨by rfl, fun w _ => by go_simp⟩) hHeld ?_
      simp only [Act.put, List.setIfInBounds_toArray, List.set_cons_zero, List.set_cons_succ]
      refine wpAnyH_take (i := 5) (oi := ⟨some 84, .pick (.tmp 81) (.tmp 83) (.const (.bool false)), _, _, _, _⟩) (v := .bool true) rfl (by kernel_rfl) (by kernel_rfl) (by kernel_rfl) (fun _ _ _ h => h) (Or.inl ⟨by rfl, fun w _ => by go_simp⟩) hHeld ?_
      simp only [Act.put, List.setIfInBounds_toArray, List.set_cons_zero, List.set_cons_succ]
      refine wpAnyH_take (i := 6) (oi := ⟨some 85, .move (.tmp 84), _, _, _, _⟩) (v := .bool true) rfl (by kernel_rfl) (by kernel_rfl) (by kernel_rfl) (fun _ _ _ h => h) (Or.inl ⟨by rfl, fun _ _ => rfl⟩) hHeld ?_
      simp only [Act.put, List.setIfInBounds_toArray, List.set_cons_zero, List.set_cons_succ]
      refine wpAnyH_take (i := 7) (oi := ⟨some 86, .move (.tmp 12), _, _, _, _⟩) (v := .int .i64 0) rfl (by kernel_rfl) (by kernel_rfl) (by kernel_rfl) (fun _ _ _ h => h) (Or.inl ⟨by rfl, fun _ _ => rfl⟩) hHeld ?_
      simp only [Act.put, List.setIfInBounds_toArray, List.set_cons_zero, List.set_cons_succ]
      refine wpAnyH_take (i := 8) (oi := ⟨some 87, .binOp .eql 24 (.tmp 86) (.const (.int .i64 0)) 24, _, _, _, _⟩) (v := .bool true) rfl (by kernel_rfl) (by kernel_rfl) (by kernel_rfl) (fun _ _ _ h => h) (Or.inl ⟨by rfl, fun w _ => by go_simp⟩) hHeld ?_
      simp only [Act.put, List.setIfInBounds_toArray, List.set_cons_zero, List.set_cons_succ]
      refine wpAnyH_take (i := 9) (oi := ⟨some 88, .pick (.tmp 85) (.tmp 87) (.const (.bool false)), _, _, _, _⟩) (v := .bool true) rfl (by kernel_rfl) (by kernel_rfl) (by kernel_rfl) (fun _ _ _ h => h) (Or.inl ⟨by rfl, fun w _ => by go_simp⟩) hHeld ?_
      simp only [Act.put, List.setIfInBounds_toArray, List.set_cons_zero, List.set_cons_succ]
      refine wpAnyH_take (i := 10) (oi := ⟨some 89, .move (.tmp 88), _, _, _, _⟩) (v := .bool true) rfl (by kernel_rfl) (by kernel_rfl) (by kernel_rfl) (fun _ _ _ h => h) (Or.inl ⟨by rfl, fun _ _ => rfl⟩) hHeld ?_
      simp only [Act.put, List.setIfInBounds_toArray, List.set_cons_zero, List.set_cons_succ]
      refine wpAnyH_take (i := 11) (oi := ⟨some 90, .move (.tmp 14), _, _, _, _⟩) (v := .int .i64 0) rfl (by kernel_rfl) (by kernel_rfl) (by kernel_rfl) (fun _ _ _ h => h) (Or.inl ⟨by rfl, fun _ _ => rfl⟩) hHeld ?_
      simp only [Act.put, List.setIfInBounds_toArray, List.set_cons_zero, List.set_cons_succ]
      refine wpAnyH_take (i := 12) (oi := ⟨some 91, .binOp .eql 24 (.tmp 90) (.const (.int .i64 0)) 24, _, _, _, _⟩) (v := .bool true) rfl (by kernel_rfl) (by kernel_rfl) (by kernel_rfl) (fun _ _ _ h => h) (Or.inl ⟨by rfl, fun w _ => by go_simp⟩) hHeld ?_
      simp only [Act.put, List.setIfInBounds_toArray, List.set_cons_zero, List.set_cons_succ]
      refine wpAnyH_take (i := 13) (oi := ⟨some 92, .pick (.tmp 89) (.tmp 91) (.const (.bool false)), _, _, _, _⟩) (v := .bool true) rfl (by kernel_rfl) (by kernel_rfl) (by kernel_rfl) (fun _ _ _ h => h) (Or.inl ⟨by rfl, fun w _ => by go_simp⟩) hHeld ?_
      simp only [Act.put, List.setIfInBounds_toArray, List.set_cons_zero, List.set_cons_succ]
      refine wpAnyH_take (i := 14) (oi := ⟨some 93, .move (.tmp 92), _, _, _, _⟩) (v := .bool true) rfl (by kernel_rfl) (by kernel_rfl) (by kernel_rfl) (fun _ _ _ h => h) (Or.inl ⟨by rfl, fun _ _ => rfl⟩) hHeld ?_
      simp only [Act.put, List.setIfInBounds_toArray, List.set_cons_zero, List.set_cons_succ]
      refine wpAnyH_take (i := 15) (oi := ⟨some 94, .move (.tmp 16), _, _, _, _⟩) (v := .int .i64 0) rfl (by kernel_rfl) (by kernel_rfl) (by kernel_rfl) (fun _ _ _ h => h) (Or.inl ⟨by rfl, fun _ _ => rfl⟩) hHeld ?_
      simp only [Act.put, List.setIfInBounds_toArray, List.set_cons_zero, List.set_cons_succ]
      refine wpAnyH_take (i := 16) (oi := ⟨some 95, .binOp .eql 24 (.tmp 94) (.const (.int .i64 0)) 24, _, _, _, _⟩) (v := .bool true) rfl (by kernel_rfl) (by kernel_rfl) (by kernel_rfl) (fun _ _ _ h => h) (Or.inl ⟨by rfl, fun w _ => by go_simp⟩) hHeld ?_
      simp only [Act.put, List.setIfInBounds_toArray, List.set_cons_zero, List.set_cons_succ]
      refine wpAnyH_take (i := 17) (oi := ⟨some 96, .pick (.tmp 93) (.tmp 95) (.const (.bool false)), _, _, _, _⟩) (v := .bool true) rfl (by kernel_rfl) (by kernel_rfl) (by kernel_rfl) (fun _ _ _ h => h) (Or.inl ⟨by rfl, fun w _ => by go_simp⟩) hHeld ?_
      simp only [Act.put, List.setIfInBounds_toArray, List.set_cons_zero, List.set_cons_succ]
      refine wpAnyH_take (i := 18) (oi := ⟨some 97, .move (.tmp 96), _, _, _, _⟩) (v := .bool true) rfl (by kernel_rfl) (by kernel_rfl) (by kernel_rfl) (fun _ _ _ h => h) (Or.inl ⟨by rfl, fun _ _ => rfl⟩) hHeld ?_
      simp only [Act.put, List.setIfInBounds_toArray, List.set_cons_zero, List.set_cons_succ]
      refine wpAnyH_take (i := 19) (oi := ⟨some 98, .move (.tmp 4), _, _, _, _⟩) (v := .slice (some ⟨L, 0, none⟩) 3 3) rfl (by kernel_rfl) (by kernel_rfl) (by kernel_rfl) (fun _ _ _ h => h) (Or.inl ⟨by rfl, fun _ _ => rfl⟩) hHeld ?_
      simp only [Act.put, List.setIfInBounds_toArray, List.set_cons_zero, List.set_cons_succ]
      refine wpAnyH_take (i := 21) (oi := ⟨some 100, .load 31 (.tmp 6), _, _, _, _⟩) (v := .agg (U rt).toArray) rfl (by kernel_rfl) (by kernel_rfl) (by kernel_rfl) (fun _ _ _ h => h) (yieldsIf_load_mid (by rfl) _ _ rfl _ _ rfl _ _ (fun w h => h.1) Tryd.underlying31 rfl (dig_sz HDrt.out.1)) hHeld ?_
      simp only [Act.put, List.setIfInBounds_toArray, List.set_cons_zero, List.set_cons_succ]
      replace kt := kt.drew; replace bq := bq.drew; replace pt := pt.drew; replace px := px.drew; replace py := py.drew; replace pz := pz.drew; replace pw := pw.drew; replace pm := pm.drew; replace lr : Later w wr.drew := lr.drew
      refine wpAnyH_ready (rs := [20]) (by kernel_rfl) (by simp) (AllReadyH.cons (o := ⟨some 99, .call { callee := .value (.func 15), args := #[.tmp 98], argTypes := #[22] }, _, _, _, _⟩) rfl (fun K' hK => ?_) (AllReadyH.nil))
      go_simp
      refine (HRo.out _ kt.sl lr).mono ?_
      rintro e v1 ⟨rfl, k1⟩
      replace kt := kt.keep k1; replace bq := bq.keep k1; replace pt := pt.keep k1; replace px := px.keep k1; replace py := py.keep k1; replace pz := pz.keep k1; replace pw := pw.keep k1; replace pm := pm.keep k1; replace lr := Later.trans_ lr k1
      refine hK.out _ _ ⟨blk_at kt.b6, blk_at kt.b1, blk_at kt.b5, blk_at kt.b2⟩ (fun hHeld => ?_)
      clear hK K'
      try simp only [Act.put, List.setIfInBounds_toArray, List.set_cons_zero, List.set_cons_succ]
      refine wpAnyH_take (i := 22) (oi := ⟨some 101, .binOp .eql 31 (.tmp 99) (.tmp 100) 31, _, _, _, _⟩) (v := .bool true) rfl (by kernel_rfl) (by kernel_rfl) (by kernel_rfl) (fun _ _ _ h => h) (Or.inl ⟨by rfl, fun w _ => by go_simp⟩) hHeld ?_
      simp only [Act.put, List.setIfInBounds_toArray, List.set_cons_zero, List.set_cons_succ]
      refine wpAnyH_take (i := 23) (oi := ⟨some 102, .pick (.tmp 97) (.tmp 101) (.const (.bool false)), _, _, _, _⟩) (v := .bool true) rfl (by kernel_rfl) (by kernel_rfl) (by kernel_rfl) (fun _ _ _ h => h) (Or.inl ⟨by rfl, fun w _ => by go_simp⟩) hHeld ?_
      simp only [Act.put, List.setIfInBounds_toArray, List.set_cons_zero, List.set_cons_succ]
      refine wpAnyH_take (i := 24) (oi := ⟨some 103, .move (.tmp 102), _, _, _, _⟩) (v := .bool true) rfl (by kernel_rfl) (by kernel_rfl) (by kernel_rfl) (fun _ _ _ h => h) (Or.inl ⟨by rfl, fun _ _ => rfl⟩) hHeld ?_
      simp only [Act.put, List.setIfInBounds_toArray, List.set_cons_zero, List.set_cons_succ]
      refine wpAnyH_take (i := 25) (oi := ⟨some 104, .load 31 (.tmp 1), _, _, _, _⟩) (v := .agg (U a).toArray) rfl (by kernel_rfl) (by kernel_rfl) (by kernel_rfl) (fun _ _ _ h => h) (yieldsIf_load_mid (by rfl) _ _ rfl _ _ rfl _ _ (fun w h => h.2.1) Tryd.underlying31 rfl (dig_sz HDa.out.1)) hHeld ?_
      simp only [Act.put, List.setIfInBounds_toArray, List.set_cons_zero, List.set_cons_succ]
      refine wpAnyH_ready (rs := [26]) (by kernel_rfl) (by simp) (AllReadyH.cons (o := ⟨some 105, .call { callee := .value (.func 18), args := #[.const (.string ⟨#[97]⟩)], argTypes := #[9] }, _, _, _, _⟩) rfl (fun K' hK => ?_) (AllReadyH.nil))
      go_simp
      refine (HRL.out _ lr).mono ?_
      rintro e v2 ⟨rfl, k2⟩
      replace kt := kt.keep k2; replace bq := bq.keep k2; replace pt := pt.keep k2; replace px := px.keep k2; replace py := py.keep k2; replace pz := pz.keep k2; replace pw := pw.keep k2; replace pm := pm.keep k2; replace lr := Later.trans_ lr k2
      refine hK.out _ _ ⟨blk_at kt.b6, blk_at kt.b1, blk_at kt.b5, blk_at kt.b2⟩ (fun hHeld => ?_)
      clear hK K'
      try simp only [Act.put, List.setIfInBounds_toArray, List.set_cons_zero, List.set_cons_succ]
      refine wpAnyH_take (i := 27) (oi := ⟨some 106, .binOp .eql 31 (.tmp 104) (.tmp 105) 31, _, _, _, _⟩) (v := .bool true) rfl (by kernel_rfl) (by kernel_rfl) (by kernel_rfl) (fun _ _ _ h => h) (Or.inl ⟨by rfl, fun w _ => by go_simp⟩) hHeld ?_
      simp only [Act.put, List.setIfInBounds_toArray, List.set_cons_zero, List.set_cons_succ]
      refine wpAnyH_take (i := 28) (oi := ⟨some 107, .pick (.tmp 103) (.tmp 106) (.const (.bool false)), _, _, _, _⟩) (v := .bool true) rfl (by kernel_rfl) (by kernel_rfl) (by kernel_rfl) (fun _ _ _ h => h) (Or.inl ⟨by rfl, fun w _ => by go_simp⟩) hHeld ?_
      simp only [Act.put, List.setIfInBounds_toArray, List.set_cons_zero, List.set_cons_succ]
      refine wpAnyH_take (i := 29) (oi := ⟨some 108, .move (.tmp 107), _, _, _, _⟩) (v := .bool true) rfl (by kernel_rfl) (by kernel_rfl) (by kernel_rfl) (fun _ _ _ h => h) (Or.inl ⟨by rfl, fun _ _ => rfl⟩) hHeld ?_
      simp only [Act.put, List.setIfInBounds_toArray, List.set_cons_zero, List.set_cons_succ]
      refine wpAnyH_take (i := 30) (oi := ⟨some 109, .load 31 (.tmp 5), _, _, _, _⟩) (v := .agg (U ab).toArray) rfl (by kernel_rfl) (by kernel_rfl) (by kernel_rfl) (fun _ _ _ h => h) (yieldsIf_load_mid (by rfl) _ _ rfl _ _ rfl _ _ (fun w h => h.2.2.1) Tryd.underlying31 rfl (dig_sz HDab.out.1)) hHeld ?_
      simp only [Act.put, List.setIfInBounds_toArray, List.set_cons_zero, List.set_cons_succ]
      refine wpAnyH_take (i := 31) (oi := ⟨some 110, .load 31 (.tmp 1), _, _, _, _⟩) (v := .agg (U a).toArray) rfl (by kernel_rfl) (by kernel_rfl) (by kernel_rfl) (fun _ _ _ h => h) (yieldsIf_load_mid (by rfl) _ _ rfl _ _ rfl _ _ (fun w h => h.2.1) Tryd.underlying31 rfl (dig_sz HDa.out.1)) hHeld ?_
      simp only [Act.put, List.setIfInBounds_toArray, List.set_cons_zero, List.set_cons_succ]
      refine wpAnyH_take (i := 32) (oi := ⟨some 111, .load 31 (.tmp 2), _, _, _, _⟩) (v := .agg (U b).toArray) rfl (by kernel_rfl) (by kernel_rfl) (by kernel_rfl) (fun _ _ _ h => h) (yieldsIf_load_mid (by rfl) _ _ rfl _ _ rfl _ _ (fun w h => h.2.2.2) Tryd.underlying31 rfl (dig_sz HDb.out.1)) hHeld ?_
      simp only [Act.put, List.setIfInBounds_toArray, List.set_cons_zero, List.set_cons_succ]
      refine wpAnyH_ready (rs := [33]) (by kernel_rfl) (by simp) (AllReadyH.cons (o := ⟨some 112, .call { callee := .value (.func 20), args := #[.tmp 110, .tmp 111], argTypes := #[31, 31] }, _, _, _, _⟩) rfl (fun K' hK => ?_) (AllReadyH.nil))
      go_simp
      refine (HRN.out _ lr).mono ?_
      rintro e v3 ⟨rfl, k3⟩
      replace kt := kt.keep k3; replace bq := bq.keep k3; replace pt := pt.keep k3; replace px := px.keep k3; replace py := py.keep k3; replace pz := pz.keep k3; replace pw := pw.keep k3; replace pm := pm.keep k3; replace lr := Later.trans_ lr k3
      refine hK.out _ _ ⟨blk_at kt.b6, blk_at kt.b1, blk_at kt.b5, blk_at kt.b2⟩ (fun hHeld => ?_)
      clear hK K'
      try simp only [Act.put, List.setIfInBounds_toArray, List.set_cons_zero, List.set_cons_succ]
      refine wpAnyH_take (i := 34) (oi := ⟨some 113, .binOp .eql 31 (.tmp 109) (.tmp 112) 31, _, _, _, _⟩) (v := .bool true) rfl (by kernel_rfl) (by kernel_rfl) (by kernel_rfl) (fun _ _ _ h => h) (Or.inl ⟨by rfl, fun w _ => by go_simp⟩) hHeld ?_
      simp only [Act.put, List.setIfInBounds_toArray, List.set_cons_zero, List.set_cons_succ]
      refine wpAnyH_take (i := 35) (oi := ⟨some 114, .pick (.tmp 108) (.tmp 113) (.const (.bool false)), _, _, _, _⟩) (v := .bool true) rfl (by kernel_rfl) (by kernel_rfl) (by kernel_rfl) (fun _ _ _ h => h) (Or.inl ⟨by rfl, fun w _ => by go_simp⟩) hHeld ?_
      simp only [Act.put, List.setIfInBounds_toArray, List.set_cons_zero, List.set_cons_succ]
      refine wpAnyH_take (i := 36) (oi := ⟨some 21, .assign (.tmp 114), _, _, _, _⟩) (v := .bool true) rfl (by kernel_rfl) (by kernel_rfl) (by kernel_rfl) (fun _ _ _ h => h) (Or.inl ⟨by rfl, fun _ _ => rfl⟩) hHeld ?_
      simp only [Act.put, List.setIfInBounds_toArray, List.set_cons_zero, List.set_cons_succ]
      refine wpAnyH_done (by kernel_rfl) ?_ _
      clear hHeld HRo HRL HRN qrt qa qab hgd
      obtain ⟨DBC, hDBC⟩ : ∃ x, x = (Ds [b, c]).toArray := ⟨_, rfl⟩
      have HDBC := Lib.hid hDBC
      obtain ⟨DAB, hDAB⟩ : ∃ x, x = (Ds [ab]).toArray := ⟨_, rfl⟩
      have HDAB := Lib.hid hDAB
      obtain ⟨DC, hDC⟩ : ∃ x, x = (Ds [c]).toArray := ⟨_, rfl⟩
      have HDC := Lib.hid hDC
      obtain ⟨DB, hDB⟩ : ∃ x, x = (Ds [b]).toArray := ⟨_, rfl⟩
      have HDB := Lib.hid hDB
      obtain ⟨DAC, hDAC⟩ : ∃ x, x = (Ds [a, c]).toArray := ⟨_, rfl⟩
      have HDAC := Lib.hid hDAC
      obtain ⟨DABC, hDABC⟩ : ∃ x, x = (Ds [ab, c]).toArray := ⟨_, rfl⟩
      have HDABC := Lib.hid hDABC
      clear hDBC hDAB hDC hDB hDAC hDABC
      have H2 := Lib.hid (dig2 HDb.out HDc.out); have HA1 := Lib.hid (dig1 HDab.out); have HC1 := Lib.hid (dig1 HDc.out); have HB1 := Lib.hid (dig1 HDb.out); have HAC2 := Lib.hid (dig2 HDab.out HDc.out)
      go_wp2_with (first
        | (go_at_call 17; (with_reducible refine (san_same A 2 cc _ [ab, c] _ pt HAC2.out gB rfl (by decide)).mono ?_); rintro e v13 ⟨rfl, k13⟩; replace kt := kt.keep k13; replace bq := bq.keep k13; replace pt := pt.keep k13; replace px := px.keep k13; replace py := py.keep k13; replace pz := pz.keep k13; replace pw := pw.keep k13; replace pm := pm.keep k13; replace lr := Later.trans_ lr k13)
        | ((with_reducible refine wpList_build2g (o := ⟨some 188, .buildSlice 22 2 #[(0, .tmp 186), (1, .tmp 187)], _, _, _, _⟩) ?_ _ _ _ _ rfl (U ab).toArray (U c).toArray i0 _ Tryd.underlying22 HI.out.hi HI.out.hz HI.out.hs (U_size HDab.out.1) (U_size HDc.out.1) ?_ ?_ DABC ((ds2 _ _).trans HDABC.out.symm) ?_); rfl; rfl; rfl; have gB : Blk (v12.alloc (.cells DABC 31)) v12.heap.size 31 (Ds [ab, c]) := Blk.new _ _ _ _ HDABC.out; have la : Later v12 (v12.alloc (.cells DABC 31)) := ((Below.refl _ _).alloc (Nat.le_refl _) _); replace kt := kt.keep la; replace bq := bq.keep la; replace pt := pt.keep la; replace px := px.keep la; replace py := py.keep la; replace pz := pz.keep la; replace pw := pw.keep la; replace pm := pm.keep la; replace lr := Later.trans_ lr la)
        | ((with_reducible refine wpList_load_g (o := ⟨some 187, .load 31 (.tmp 3), _, _, _, _⟩) _ _ rfl B3 31 (U c) _ ?_ ?_ kt.b3 Tryd.underlying31 ?_ (dig_sz HDc.out.1) ?_); rfl; rfl; rfl)
        | ((with_reducible refine wpList_load_g (o := ⟨some 186, .load 31 (.tmp 5), _, _, _, _⟩) _ _ rfl B5 31 (U ab) _ ?_ ?_ kt.b5 Tryd.underlying31 ?_ (dig_sz HDab.out.1) ?_); rfl; rfl; rfl)
        | (go_at_call 29; (with_reducible refine (HCN.out _ _ _ py lr).mono ?_); rintro e v12 ⟨rfl, k12⟩; replace kt := kt.keep k12; replace bq := bq.keep k12; replace pt := pt.keep k12; replace px := px.keep k12; replace py := py.keep k12; replace pz := pz.keep k12; replace pw := pw.keep k12; replace pm := pm.keep k12; replace lr := Later.trans_ lr k12; have c0 := bq.cell (j := 0) (v := .int .i64 (3 : Nat)) rfl; have c1 := bq.cell (j := 1) (v := .slice A 2 cc) rfl)
        | ((with_reducible refine wpList_load_g (o := ⟨some 167, .load 31 (.tmp 6), _, _, _, _⟩) _ _ rfl B6 31 (U rt) _ ?_ ?_ kt.b6 Tryd.underlying31 ?_ (dig_sz HDrt.out.1) ?_); rfl; rfl; rfl)
        | ((with_reducible refine wpList_load_g (o := ⟨some 165, .load 31 (.tmp 1), _, _, _, _⟩) _ _ rfl B1 31 (U a) _ ?_ ?_ kt.b1 Tryd.underlying31 ?_ (dig_sz HDa.out.1) ?_); rfl; rfl; rfl)
        | (go_at_call 23; (with_reducible refine (HCM.out _ _ _ _ _ pm gM gB lr).mono ?_); rintro e v11 ⟨rfl, k11⟩; replace kt := kt.keep k11; replace bq := bq.keep k11; replace pt := pt.keep k11; replace px := px.keep k11; replace py := py.keep k11; replace pz := pz.keep k11; replace pw := pw.keep k11; replace pm := pm.keep k11; replace lr := Later.trans_ lr k11)
        | ((with_reducible refine wpList_load_g (o := ⟨some 161, .load 31 (.tmp 6), _, _, _, _⟩) _ _ rfl B6 31 (U rt) _ ?_ ?_ kt.b6 Tryd.underlying31 ?_ (dig_sz HDrt.out.1) ?_); rfl; rfl; rfl)
        | ((with_reducible refine wpList_build2g (o := ⟨some 159, .buildSlice 22 2 #[(0, .tmp 157), (1, .tmp 158)], _, _, _, _⟩) ?_ _ _ _ _ rfl (U a).toArray (U c).toArray i0 _ Tryd.underlying22 HI.out.hi HI.out.hz HI.out.hs (U_size HDa.out.1) (U_size HDc.out.1) ?_ ?_ DAC ((ds2 _ _).trans HDAC.out.symm) ?_); rfl; rfl; rfl; have gB : Blk ((v10.alloc (.cells #[.int .i64 0, .int .i64 2] 3)).alloc (.cells DAC 31)) (v10.heap.size + 1) 31 (Ds [a, c]) := Blk.new' _ _ _ _ _ (by simp) HDAC.out; have gM := (Blk.new v10 3 #[.int .i64 0, .int .i64 2] (N64 [0, 2]) rfl).alloc (.cells DAC 31); have la : Later v10 ((v10.alloc (.cells #[.int .i64 0, .int .i64 2] 3)).alloc (.cells DAC 31)) := (((Below.refl v10.heap.size v10).alloc (Nat.le_refl _) (.cells #[.int .i64 0, .int .i64 2] 3)).alloc (by simp) _); replace kt := kt.keep la; replace bq := bq.keep la; replace pt := pt.keep la; replace px := px.keep la; replace py := py.keep la; replace pz := pz.keep la; replace pw := pw.keep la; replace pm := pm.keep la; replace lr := Later.trans_ lr la)
        | ((with_reducible refine wpList_load_g (o := ⟨some 158, .load 31 (.tmp 3), _, _, _, _⟩) _ _ rfl B3 31 (U c) _ ?_ ?_ (kt.b3.alloc (.cells #[.int .i64 0, .int .i64 2] 3)) Tryd.underlying31 ?_ (dig_sz HDc.out.1) ?_); rfl; rfl; rfl)
        | ((with_reducible refine wpList_load_g (o := ⟨some 157, .load 31 (.tmp 1), _, _, _, _⟩) _ _ rfl B1 31 (U a) _ ?_ ?_ (kt.b1.alloc (.cells #[.int .i64 0, .int .i64 2] 3)) Tryd.underlying31 ?_ (dig_sz HDa.out.1) ?_); rfl; rfl; rfl)
        | (go_at_call 30; (with_reducible refine (HCC.out _ _ _ pz lr).mono ?_); rintro e v10 ⟨rfl, k10⟩; replace kt := kt.keep k10; replace bq := bq.keep k10; replace pt := pt.keep k10; replace px := px.keep k10; replace py := py.keep k10; replace pz := pz.keep k10; replace pw := pw.keep k10; replace pm := pm.keep k10; replace lr := Later.trans_ lr k10)
        | ((with_reducible refine wpList_load_g (o := ⟨some 151, .load 31 (.tmp 6), _, _, _, _⟩) _ _ rfl B6 31 (U rt) _ ?_ ?_ kt.b6 Tryd.underlying31 ?_ (dig_sz HDrt.out.1) ?_); rfl; rfl; rfl)
        | ((with_reducible refine wpList_load_g (o := ⟨some 150, .load 31 (.tmp 1), _, _, _, _⟩) _ _ rfl B1 31 (U a) _ ?_ ?_ kt.b1 Tryd.underlying31 ?_ (dig_sz HDa.out.1) ?_); rfl; rfl; rfl)
        | (go_at_call 29; (with_reducible refine (HCI.out _ _ _ px lr).mono ?_); rintro e v9 ⟨rfl, k9⟩; replace kt := kt.keep k9; replace bq := bq.keep k9; replace pt := pt.keep k9; replace px := px.keep k9; replace py := py.keep k9; replace pz := pz.keep k9; replace pw := pw.keep k9; replace pm := pm.keep k9; replace lr := Later.trans_ lr k9)
        | ((with_reducible refine wpList_load_g (o := ⟨some 147, .load 31 (.tmp 6), _, _, _, _⟩) _ _ rfl B6 31 (U rt) _ ?_ ?_ kt.b6 Tryd.underlying31 ?_ (dig_sz HDrt.out.1) ?_); rfl; rfl; rfl)
        | ((with_reducible refine wpList_load_g (o := ⟨some 145, .load 31 (.tmp 1), _, _, _, _⟩) _ _ rfl B1 31 (U a) _ ?_ ?_ kt.b1 Tryd.underlying31 ?_ (dig_sz HDa.out.1) ?_); rfl; rfl; rfl)
        | (go_at_call 17; (with_reducible refine (san_same Am 1 cm _ [b] _ pm HB1.out gB rfl (by decide)).mono ?_); rintro e v8 ⟨rfl, k8⟩; replace kt := kt.keep k8; replace bq := bq.keep k8; replace pt := pt.keep k8; replace px := px.keep k8; replace py := py.keep k8; replace pz := pz.keep k8; replace pw := pw.keep k8; replace pm := pm.keep k8; replace lr := Later.trans_ lr k8)
        | ((with_reducible refine wpList_build1g (o := ⟨some 142, .buildSlice 22 1 #[(0, .tmp 141)], _, _, _, _⟩) ?_ _ _ _ rfl (U b).toArray i0 _ Tryd.underlying22 HI.out.hi HI.out.hz HI.out.hs (U_size HDb.out.1) ?_ DB ((ds1 _).trans HDB.out.symm) ?_); rfl; rfl; have gB : Blk (v7.alloc (.cells DB 31)) v7.heap.size 31 (Ds [b]) := Blk.new _ _ _ _ HDB.out; have la : Later v7 (v7.alloc (.cells DB 31)) := ((Below.refl _ _).alloc (Nat.le_refl _) _); replace kt := kt.keep la; replace bq := bq.keep la; replace pt := pt.keep la; replace px := px.keep la; replace py := py.keep la; replace pz := pz.keep la; replace pw := pw.keep la; replace pm := pm.keep la; replace lr := Later.trans_ lr la)
        | ((with_reducible refine wpList_load_g (o := ⟨some 141, .load 31 (.tmp 2), _, _, _, _⟩) _ _ rfl B2 31 (U b) _ ?_ ?_ kt.b2 Tryd.underlying31 ?_ (dig_sz HDb.out.1) ?_); rfl; rfl; rfl)
        | (go_at_call 17; (with_reducible refine (san_same Aw 1 cw _ [c] _ pw HC1.out gB rfl (by decide)).mono ?_); rintro e v7 ⟨rfl, k7⟩; replace kt := kt.keep k7; replace bq := bq.keep k7; replace pt := pt.keep k7; replace px := px.keep k7; replace py := py.keep k7; replace pz := pz.keep k7; replace pw := pw.keep k7; replace pm := pm.keep k7; replace lr := Later.trans_ lr k7)
        | ((with_reducible refine wpList_build1g (o := ⟨some 136, .buildSlice 22 1 #[(0, .tmp 135)], _, _, _, _⟩) ?_ _ _ _ rfl (U c).toArray i0 _ Tryd.underlying22 HI.out.hi HI.out.hz HI.out.hs (U_size HDc.out.1) ?_ DC ((ds1 _).trans HDC.out.symm) ?_); rfl; rfl; have gB : Blk (v6.alloc (.cells DC 31)) v6.heap.size 31 (Ds [c]) := Blk.new _ _ _ _ HDC.out; have la : Later v6 (v6.alloc (.cells DC 31)) := ((Below.refl _ _).alloc (Nat.le_refl _) _); replace kt := kt.keep la; replace bq := bq.keep la; replace pt := pt.keep la; replace px := px.keep la; replace py := py.keep la; replace pz := pz.keep la; replace pw := pw.keep la; replace pm := pm.keep la; replace lr := Later.trans_ lr la)
        | ((with_reducible refine wpList_load_g (o := ⟨some 135, .load 31 (.tmp 3), _, _, _, _⟩) _ _ rfl B3 31 (U c) _ ?_ ?_ kt.b3 Tryd.underlying31 ?_ (dig_sz HDc.out.1) ?_); rfl; rfl; rfl)
        | (go_at_call 17; (with_reducible refine (san_same Az 2 cz _ [b, c] _ pz H2.out gB rfl (by decide)).mono ?_); rintro e v6 ⟨rfl, k6⟩; replace kt := kt.keep k6; replace bq := bq.keep k6; replace pt := pt.keep k6; replace px := px.keep k6; replace py := py.keep k6; replace pz := pz.keep k6; replace pw := pw.keep k6; replace pm := pm.keep k6; replace lr := Later.trans_ lr k6)
        | ((with_reducible refine wpList_build2g (o := ⟨some 130, .buildSlice 22 2 #[(0, .tmp 128), (1, .tmp 129)], _, _, _, _⟩) ?_ _ _ _ _ rfl (U b).toArray (U c).toArray i0 _ Tryd.underlying22 HI.out.hi HI.out.hz HI.out.hs (U_size HDb.out.1) (U_size HDc.out.1) ?_ ?_ DBC ((ds2 _ _).trans HDBC.out.symm) ?_); rfl; rfl; rfl; have gB : Blk (v5.alloc (.cells DBC 31)) v5.heap.size 31 (Ds [b, c]) := Blk.new _ _ _ _ HDBC.out; have la : Later v5 (v5.alloc (.cells DBC 31)) := ((Below.refl _ _).alloc (Nat.le_refl _) _); replace kt := kt.keep la; replace bq := bq.keep la; replace pt := pt.keep la; replace px := px.keep la; replace py := py.keep la; replace pz := pz.keep la; replace pw := pw.keep la; replace pm := pm.keep la; replace lr := Later.trans_ lr la)
        | ((with_reducible refine wpList_load_g (o := ⟨some 129, .load 31 (.tmp 3), _, _, _, _⟩) _ _ rfl B3 31 (U c) _ ?_ ?_ kt.b3 Tryd.underlying31 ?_ (dig_sz HDc.out.1) ?_); rfl; rfl; rfl)
        | ((with_reducible refine wpList_load_g (o := ⟨some 128, .load 31 (.tmp 2), _, _, _, _⟩) _ _ rfl B2 31 (U b) _ ?_ ?_ kt.b2 Tryd.underlying31 ?_ (dig_sz HDb.out.1) ?_); rfl; rfl; rfl)
        | (go_at_call 17; (with_reducible refine (san_same Ay 1 cy _ [ab] _ py HA1.out gB rfl (by decide)).mono ?_); rintro e v5 ⟨rfl, k5⟩; replace kt := kt.keep k5; replace bq := bq.keep k5; replace pt := pt.keep k5; replace px := px.keep k5; replace py := py.keep k5; replace pz := pz.keep k5; replace pw := pw.keep k5; replace pm := pm.keep k5; replace lr := Later.trans_ lr k5)
        | ((with_reducible refine wpList_build1g (o := ⟨some 123, .buildSlice 22 1 #[(0, .tmp 122)], _, _, _, _⟩) ?_ _ _ _ rfl (U ab).toArray i0 _ Tryd.underlying22 HI.out.hi HI.out.hz HI.out.hs (U_size HDab.out.1) ?_ DAB ((ds1 _).trans HDAB.out.symm) ?_); rfl; rfl; have gB : Blk (v4.alloc (.cells DAB 31)) v4.heap.size 31 (Ds [ab]) := Blk.new _ _ _ _ HDAB.out; have la : Later v4 (v4.alloc (.cells DAB 31)) := ((Below.refl _ _).alloc (Nat.le_refl _) _); replace kt := kt.keep la; replace bq := bq.keep la; replace pt := pt.keep la; replace px := px.keep la; replace py := py.keep la; replace pz := pz.keep la; replace pw := pw.keep la; replace pm := pm.keep la; replace lr := Later.trans_ lr la)
        | ((with_reducible refine wpList_load_g (o := ⟨some 122, .load 31 (.tmp 5), _, _, _, _⟩) _ _ rfl B5 31 (U ab) _ ?_ ?_ kt.b5 Tryd.underlying31 ?_ (dig_sz HDab.out.1) ?_); rfl; rfl; rfl)
        | (go_at_call 17; (with_reducible refine (san_same Ax 2 cx _ [b, c] _ px H2.out gB rfl (by decide)).mono ?_); rintro e v4 ⟨rfl, k4⟩; replace kt := kt.keep k4; replace bq := bq.keep k4; replace pt := pt.keep k4; replace px := px.keep k4; replace py := py.keep k4; replace pz := pz.keep k4; replace pw := pw.keep k4; replace pm := pm.keep k4; replace lr := Later.trans_ lr k4)
        | ((with_reducible refine wpList_build2g (o := ⟨some 118, .buildSlice 22 2 #[(0, .tmp 116), (1, .tmp 117)], _, _, _, _⟩) ?_ _ _ _ _ rfl (U b).toArray (U c).toArray i0 _ Tryd.underlying22 HI.out.hi HI.out.hz HI.out.hs (U_size HDb.out.1) (U_size HDc.out.1) ?_ ?_ DBC ((ds2 _ _).trans HDBC.out.symm) ?_); rfl; rfl; rfl; have gB : Blk (v3.alloc (.cells DBC 31)) v3.heap.size 31 (Ds [b, c]) := Blk.new _ _ _ _ HDBC.out; have la : Later v3 (v3.alloc (.cells DBC 31)) := ((Below.refl _ _).alloc (Nat.le_refl _) _); replace kt := kt.keep la; replace bq := bq.keep la; replace pt := pt.keep la; replace px := px.keep la; replace py := py.keep la; replace pz := pz.keep la; replace pw := pw.keep la; replace pm := pm.keep la; replace lr := Later.trans_ lr la)
        | ((with_reducible refine wpList_load_g (o := ⟨some 117, .load 31 (.tmp 3), _, _, _, _⟩) _ _ rfl B3 31 (U c) _ ?_ ?_ kt.b3 Tryd.underlying31 ?_ (dig_sz HDc.out.1) ?_); rfl; rfl; rfl)
        | ((with_reducible refine wpList_load_g (o := ⟨some 116, .load 31 (.tmp 2), _, _, _, _⟩) _ _ rfl B2 31 (U b) _ ?_ ?_ kt.b2 Tryd.underlying31 ?_ (dig_sz HDb.out.1) ?_); rfl; rfl; rfl))
      go_ret
      exact ⟨rfl, lr⟩
end Go.Proofs.YtaihfkcoiagdaabDoor
