/-
  THE ITERATOR OF below: its contract.
-/
import Derived.Test.YtempcbdlaoblhabTabM
namespace Go.Proofs.Ytempcbdlaoblhab
open Go.RowKit Go.ChangeShapes Go.WideShapes Go.ChangeAt
attribute [local go_sem] Oper.semAt_some

/-- A mapping: its virtual and physical address, and its bits. -/
abbrev Mg := {x : Int × Int × Int // 0 ≤ x.2.1 ∧ x.2.1 < 4294967296}
def mgC (x : Mg) : List Value := [.int .u32 x.1.1, .int .u32 x.1.2.1, .int .i64 x.1.2.2]
def encM (x : Mg) : Array Value := #[.agg (mgC x).toArray]
namespace Tm
def mkM (va e : Int) : Mg := ⟨(va, adr e % 4294967296, e % 128), by have := Int.emod_nonneg (adr e) (by decide : (4294967296 : Int) ≠ 0); have := Int.emod_lt_of_pos (adr e) (by decide : (0 : Int) < 4294967296); exact ⟨by assumption, by assumption⟩⟩
def secY (b : Wm.Bs) (ex va : Int) (i : Fin 32) : Int := wd b (sA (adr ex) (va + 128 * (i.1 : Int)))
def secAt (b : Wm.Bs) (ex va : Int) (i : Fin 32) : List Mg := if has (secY b ex va i) 1 && !has (secY b ex va i) 64 then [mkM (va + 128 * (i.1 : Int)) (secY b ex va i)] else []
def blw (b : Wm.Bs) (ex va : Int) : List Mg := if has ex 64 then [mkM va ex] else (List.finRange 32).flatMap (secAt b ex va)
end Tm
theorem mgC_mk {va e : Int} (h : Tm.isE e) : mgC (Tm.mkM va e) = Mp va e := by
  have ha := Tm.adr_e h
  have h2 := Int.emod_eq_of_lt ha.1 ha.2
  show [Value.int .u32 va, .int .u32 (Tm.adr e % 4294967296), .int .i64 (e % 128)] = _
  rw [h2]
  rfl
theorem secAt_len (b : Wm.Bs) (ex va : Int) (i : Fin 32) : (Tm.secAt b ex va i).length ≤ 1 := by
  unfold Tm.secAt
  split <;> simp
theorem flat_len {α β : Type} (f : α → List β) (k : Nat) (h : ∀ x, (f x).length ≤ k) : ∀ l : List α, (l.flatMap f).length ≤ l.length * k := by
  intro l
  induction l with
  | nil => simp
  | cons x r ih =>
    rw [List.flatMap_cons, List.length_append, List.length_cons, Nat.add_mul, Nat.one_mul]
    have := h x
    omega
theorem yv {e : Ending} {P Q : Prop} (h : (e = .returned (.bool true) ∧ P) ∨ (e = .returned (.bool false) ∧ Q)) : ∃ v : Bool, e = .returned (.bool v) ∧ ((v = true ∧ P) ∨ (v = false ∧ Q)) := by
  rcases h with ⟨h1, h2⟩ | ⟨h1, h2⟩
  · exact ⟨true, h1, .inl ⟨rfl, h2⟩⟩
  · exact ⟨false, h1, .inr ⟨rfl, h2⟩⟩
theorem round_any {m : Nat} (m' l' : Nat) {P : Program} {l : Nat} {f : FuncId} {tmps : Array Value} {assign body : Code} {w : World} {R : Ending → World → Prop}
    (h : RoundIn Fence.wide m P l f tmps assign body w R) : RoundIn (Fence.wide.inRound l') m' P l f tmps assign body w R := ⟨h.1, fun c cs _ => h.2 c cs (fun _ hd => nomatch hd)⟩
/-- A piece of code that ends as it should, in one activation. -/
def Cutp (A : Act) (X : World) (e : Exit) (a' : Act) (w' : World) : Prop := e = .normal ∧ a' = A ∧ Later X w'
theorem boxed_drew {W : World} {k : Nat} {t : TypeId} {v : Value} (h : Boxed W k t v) : Boxed W.drew k t v := h
/-- What the walk of below wants of a world. -/
structure Bw (W : World) (n₀ B : Nat) (exs : List Nat) (k1 k2 k3 : Nat) (ex va : Int) (A : Option Addr) (n c : Nat) (b : Wm.Bs) : Prop where
  e1 : Boxed W k1 81 (.int .u32 ex)
  e2 : Boxed W k2 25 (.int .u32 va)
  e3 : Boxed W k3 24 (.slice A n c)
  g1 : B ≤ k1 ∧ k1 ∉ exs
  g2 : B ≤ k2 ∧ k2 ∉ exs
  g3 : B ≤ k3 ∧ k3 ∉ exs
  hx : ∀ e ∈ exs, e < W.heap.size
  hn : n₀ ≤ W.heap.size
  hB : B ≤ W.heap.size
  hs : Sl W 128 A n (U b)
  hA : ∀ ad, A = some ad → ad.block < n₀
set_option maxRecDepth 100000 in
set_option maxHeartbeats 4000000 in
theorem belowL_in (m : Nat) (l n₀ B k1 k2 k3 : Nat) (exs : List Nat) (ex va : Int) (A : Option Addr) (n c : Nat) (b : Wm.Bs) (J Jx : List Mg → World → Prop) (W : World) (hE : Tm.isE ex) (hlg : Tm.has ex 64 = true)
    (hY : ∀ pre x W, J pre W → pre.length < 32 → YieldAt Fence.wide (m - 1) Try.prog l (encM x) W fun e W' =>
      (e = .returned (.bool true) ∧ J (pre ++ [x]) W' ∧ Kq n₀ B exs W W') ∨ (e = .returned (.bool false) ∧ Jx (pre ++ [x]) W' ∧ KeepsFrom (l + 1) W W'))
    (hJ : OwnFrom W.heap.size J) (hw : Bw W n₀ B exs k1 k2 k3 ex va A n c b) (h0 : J [] W) :
    CallsIn Fence.wide m Try.prog 89 #[.func (.yield l) #[] #[], .pointer (some ⟨k1, 0, none⟩), .pointer (some ⟨k2, 0, none⟩), .pointer (some ⟨k3, 0, none⟩)] W fun e W' => (∃ v, e = .returned v) ∧
      ((∃ ys, ys = Tm.blw b ex va ∧ J ys W') ∨ (∃ pre, True ∧ Jx pre W')) := by
  have HY := Lib.hid hY
  have HJ := Lib.hid hJ
  have HG := Lib.hid fun w' => isLarge_any ex w' hE
  have HM := Lib.hid fun w' => mapping_any ex va w' hE
  rw [hlg] at HG
  have hbl : Tm.blw b ex va = [Tm.mkM va ex] := by unfold Tm.blw; rw [if_pos hlg]
  have HBL := Lib.hid hbl
  have hmp := mgC_mk (va := va) hE
  have HMP := Lib.hid hmp
  have hfo : Try.prog.follows .mixedOrders = true := by kernel_rfl
  obtain ⟨W1, hW1⟩ : ∃ W1, W1 = W.alloc (.cells #[.func (.yield l) #[] #[]] 125) := ⟨_, rfl⟩
  have l1 : Later W W1 := by rw [hW1]; exact later1 _ _
  have x1 : Boxed W1 k1 81 (.int .u32 ex) := by rw [hW1]; exact hw.e1.alloc _
  have x2 : Boxed W1 k2 25 (.int .u32 va) := by rw [hW1]; exact hw.e2.alloc _
  have x4 : Boxed W1 W.heap.size 125 (.func (.yield l) #[] #[]) := by rw [hW1]; exact Boxed.new _ _ _
  have HW1 := Lib.hid hW1
  have q1 := x1.cell
  rw [hW1] at q1
  clear hY hJ hlg hE hbl hmp hW1
  refine callsIn_of_wp Try.func89 rfl trivial ?_ rfl
  simp only [Try.ntmps89, List.size_toArray, List.length_cons, List.length_nil, Nat.reduceAdd, Nat.reduceSub, Array.replicate_succ, Array.replicate_zero, List.push_toArray, List.append_toArray, List.nil_append, List.cons_append]
  gi_wp2_with (first
    | (refine ⟨trivial, fun h => (by cases h), ?_⟩; gi_at_call 50; refine (callsIn_wide.2 (HG.out _)).mono ?_; rintro e w' ⟨rfl, rfl⟩))
  rw [← HW1.out]
  have z1 := (boxed_drew x1).cell
  have z2 := (boxed_drew x2).cell
  have z4 := (boxed_drew x4).cell
  have hmpc : (Mp va ex).toArray = #[.int .u32 va, .int .u32 (Tm.adr ex), .int .i64 (ex % 128)] := rfl
  gi_region_with_o (first
    | (refine ⟨trivial, fun h => (by cases h), ?_⟩; gi_at_call 90; refine (callsIn_wide.2 (HM.out _)).mono ?_; rintro e w' ⟨rfl, rfl⟩; obtain ⟨fn, tmps, assign, body, hy, hR⟩ := HY.out [] (Tm.mkM va ex) (W1.alloc (.cells (Mp va ex).toArray 65)).drew (own_later HJ.out h0 ((l1.alloc l1.size (.cells (Mp va ex).toArray 65)).drew)) (by decide); unfold encM at hy; rw [HMP.out] at hy; rw [hmpc] at hy hR; have y4 := (boxed_drew (x4.alloc (.cells #[.int .u32 va, .int .u32 (Tm.adr ex), .int .i64 (ex % 128)] 65))).cell)
    | (refine ⟨fun h => (by cases h), ?_⟩; refine hR.mono ?_; rintro e w4 h4; obtain ⟨v, rfl, h5⟩ := yv h4; clear h4))
  all_goals gi_wp2
  all_goals refine bodyPost_ret (results_none rfl _ _ _) rfl ⟨⟨_, rfl⟩, ?_⟩
  all_goals exact h5.elim (fun h => .inl ⟨_, HBL.out.symm, h.2.1⟩) (fun h => .inr ⟨_, trivial, h.2.1⟩)
set_option maxRecDepth 100000 in
set_option maxHeartbeats 4000000 in
theorem belowS_in (m : Nat) (l n₀ B k1 k2 k3 : Nat) (exs : List Nat) (ex va : Int) (A : Option Addr) (n c : Nat) (b : Wm.Bs) (J Jx : List Mg → World → Prop) (W : World) (hm : 5 ≤ m) (hE : Tm.isE ex) (hlg : Tm.has ex 64 = false) (hpg : Tm.pageB n (Tm.adr ex) = true) (hb : Wm.isBs b) (hn1 : 1 ≤ n) (hn : n ≤ 64) (hv0 : 0 ≤ va) (hv1 : va + 4096 ≤ 131072)
    (hY : ∀ pre x W, J pre W → pre.length < 32 → YieldAt Fence.wide (m - 1) Try.prog l (encM x) W fun e W' =>
      (e = .returned (.bool true) ∧ J (pre ++ [x]) W' ∧ Kq n₀ B exs W W') ∨ (e = .returned (.bool false) ∧ Jx (pre ++ [x]) W' ∧ KeepsFrom (l + 1) W W'))
    (hJ : OwnFrom W.heap.size J) (hJx : OwnFrom W.heap.size Jx) (hll : l < W.heap.size) (hw : Bw W n₀ B exs k1 k2 k3 ex va A n c b) (h0 : J [] W) :
    CallsIn Fence.wide m Try.prog 89 #[.func (.yield l) #[] #[], .pointer (some ⟨k1, 0, none⟩), .pointer (some ⟨k2, 0, none⟩), .pointer (some ⟨k3, 0, none⟩)] W fun e W' => (∃ v, e = .returned v) ∧
      ((∃ ys, ys = Tm.blw b ex va ∧ J ys W') ∨ (∃ pre, True ∧ Jx pre W')) := by
  have HY := Lib.hid hY
  have HJ := Lib.hid hJ
  have HG := Lib.hid fun w' => isLarge_any ex w' hE
  rw [hlg] at HG
  have hbl : Tm.blw b ex va = (List.finRange 32).flatMap (Tm.secAt b ex va) := by unfold Tm.blw; rw [if_neg (by rw [hlg]; decide)]
  have HBL := Lib.hid hbl
  have hfo : Try.prog.follows .mixedOrders = true := by kernel_rfl
  have HST := Lib.hid fun w' => steps_any va (va + 4096) 128 w'
  obtain ⟨W1, hW1⟩ : ∃ W1, W1 = W.alloc (.cells #[.func (.yield l) #[] #[]] 125) := ⟨_, rfl⟩
  have l1 : Later W W1 := by rw [hW1]; exact later1 _ _
  have x1 : Boxed W1 k1 81 (.int .u32 ex) := by rw [hW1]; exact hw.e1.alloc _
  have x2 : Boxed W1 k2 25 (.int .u32 va) := by rw [hW1]; exact hw.e2.alloc _
  have x3 : Boxed W1 k3 24 (.slice A n c) := by rw [hW1]; exact hw.e3.alloc _
  have x4 : Boxed W1 W.heap.size 125 (.func (.yield l) #[] #[]) := by rw [hW1]; exact Boxed.new _ _ _
  have HW1 := Lib.hid hW1
  have q1 := x1.cell
  have q2 := x2.cell
  rw [hW1] at q1 q2
  clear hY hJ hlg hbl hW1
  refine callsIn_of_wp_marks Try.func89 rfl trivial ?_ rfl
  simp only [Try.ntmps89, List.size_toArray, List.length_cons, List.length_nil, Nat.reduceAdd, Nat.reduceSub, Array.replicate_succ, Array.replicate_zero, List.push_toArray, List.append_toArray, List.nil_append, List.cons_append]
  gi_wp2_with (first
    | (refine ⟨trivial, fun h => (by cases h), ?_⟩; gi_at_call 50; refine (callsIn_wide.2 (HG.out _)).mono ?_; rintro e w' ⟨rfl, rfl⟩)
    | (refine ⟨trivial, fun h => (by cases h), ?_⟩; gi_at_call 79; refine (callsIn_wide.2 (HST.out _)).mono ?_; rintro e w' ⟨rfl, hw2⟩; subst hw2))
  rw [← HW1.out]
  have z1 : W1.heap.size = W.heap.size + 1 := by rw [HW1.out]; simp
  obtain ⟨W2, hW2⟩ : ∃ W2, W2 = (((W1.alloc (.cells #[.int .u32 va] 25)).alloc (.cells #[.int .u32 (va + 4096)] 25)).alloc (.cells #[.int .u32 128] 25)) := ⟨_, rfl⟩
  have l2 : Later W W2 := by rw [hW2]; exact ((l1.alloc l1.size _).alloc (by simp; omega) _).alloc (by simp; omega) _
  have z2 : W2.heap.size = W.heap.size + 4 := by rw [hW2]; simp; omega
  have y1 : Boxed W2 (W.heap.size + 1) 25 (.int .u32 va) := by rw [hW2, ← z1]; exact ((Boxed.new _ _ _).alloc _).alloc _
  have y2 : Boxed W2 (W.heap.size + 1 + 1) 25 (.int .u32 (va + 128 * 32)) := by
    rw [hW2, ← z1, show va + 128 * 32 = va + 4096 by omega]
    have h := Boxed.new (W1.alloc (.cells #[.int .u32 va] 25)) 25 (.int .u32 (va + 4096))
    rw [World.size_alloc] at h
    exact h.alloc _
  have y3 : Boxed W2 (W.heap.size + 1 + 2) 25 (.int .u32 128) := by
    rw [hW2, ← z1]
    have h := Boxed.new ((W1.alloc (.cells #[.int .u32 va] 25)).alloc (.cells #[.int .u32 (va + 4096)] 25)) 25 (.int .u32 128)
    rw [World.size_alloc, World.size_alloc] at h
    exact h
  replace x1 : Boxed W2 k1 81 (.int .u32 ex) := by rw [hW2]; exact ((x1.alloc _).alloc _).alloc _
  replace x3 : Boxed W2 k3 24 (.slice A n c) := by rw [hW2]; exact ((x3.alloc _).alloc _).alloc _
  replace x4 : Boxed W2 W.heap.size 125 (.func (.yield l) #[] #[]) := by rw [hW2]; exact ((x4.alloc _).alloc _).alloc _
  rw [← hW2]
  clear hW2 q1 q2 x2
  have hn0 := hw.hn
  have hB0 := hw.hB
  have hxs : W.heap.size ∉ exs := fun h => by have := hw.hx _ h; omega
  refine wpIn_rangeFunc_ownH (F := Fence.wide) rfl (by omega) (gf := 88) (lb := #[.pointer (some ⟨W.heap.size + 1, 0, none⟩), .pointer (some ⟨W.heap.size + 1 + 1, 0, none⟩), .pointer (some ⟨W.heap.size + 1 + 2, 0, none⟩)]) rfl trivial (enters_of Try.func88 (by kernel_rfl) rfl)
    (steps_stops (m - 1) (W.heap.size + 1) (W.heap.size + 1 + 1) (W.heap.size + 1 + 2) va 128 W2 hv0 (by omega) (by omega) y1 y2 y3) (fun h k => Kb.trans h k) (fun X q o o' _ h hc _ => Kb.put X q o o' h hc) (Below.refl _ _) (fun _ => rfl)
    (fun pre X => J (pre.flatMap (Tm.secAt b ex va)) X ∧ Kq n₀ B exs W2 X)
    (fun cd _ X => cd = .ret ∧ ∃ p, Jx p X)
    (OwnFrom.and (fun s X Y row hs hg hr => HJ.out _ X Y row hs hg (fun r e => ⟨by have := (hr r e).1; omega, (hr r e).2⟩)) (Kq.own (by omega) (by omega) (Nat.le_refl _)))
    (fun cd s X Y row hs hg hr => ⟨hs.1, hs.2.elim fun p hp => ⟨p, hJx p X Y row hp hg (fun r e => ⟨by have := (hr r e).1; omega, (hr r e).2⟩)⟩⟩)
    ⟨own_later HJ.out h0 l2, Kq.refl _ _ _ _⟩
    (fun x a' _ => a' = { tmps := #[.func (.yield l) #[] #[], .pointer (some ⟨k1, 0, none⟩), .pointer (some ⟨k2, 0, none⟩), .pointer (some ⟨k3, 0, none⟩), .pointer (some ⟨W.heap.size, 0, none⟩), .int .u32 (va + 128 * (x.1 : Int)), undef, .int .u32 ex, .bool false, undef, undef, undef, undef, undef, .int .u32 va, .int .u32 va, .int .u32 (va + 4096), .func (.func 88) #[] #[.pointer (some ⟨W.heap.size + 1, 0, none⟩), .pointer (some ⟨W.heap.size + 1 + 1, 0, none⟩), .pointer (some ⟨W.heap.size + 1 + 2, 0, none⟩)], .int .u32 (va + 128 * (x.1 : Int)), undef, undef, undef, undef, undef, undef, undef, undef, undef, undef, undef, undef, undef, undef, undef, undef, undef, undef, undef, undef], defers := [] })
    (fun _ _ _ _ _ _ hs _ _ => hs)
    ?assign ?body ?done ?stop
  case assign =>
    rintro l' pre x X K hi hK
    unfold stepE
    gi_wp2
    exact hK _ _ (KeepsFrom.refl _ _) ⟨fun _ h => h, fun _ h => h⟩ hi rfl
  case body =>
    rintro l' pre x a' X _ _ ⟨hJp, hkp⟩ rfl hlen
    obtain ⟨a5, ha5⟩ : ∃ a5, a5 = va + 128 * (x.1 : Int) := ⟨_, rfl⟩
    have hx32 := x.2
    have ha50 : 0 ≤ a5 := by omega
    have ha51 : a5 < 131072 := by omega
    have hxa := Tm.adr_e hE
    have hpgl := Tm.pageB_lt hpg
    have hsA : 0 ≤ Tm.sA (Tm.adr ex) a5 ∧ Tm.sA (Tm.adr ex) a5 < 4294967296 := by have := hxa.1; unfold Tm.sA; omega
    have HAD := Lib.hid fun w' => address_any ex w' hE
    have HIS := Lib.hid fun w' => inSecond_any (Tm.adr ex) a5 w' ⟨hxa.1, by omega⟩ ⟨ha50, by omega⟩
    have lX : Below n₀ W X := (l2.mono hn0).trans hkp.1
    have HLD := Lib.hid fun w' (hl : Below n₀ W w') => tload_any A n c (Tm.sA (Tm.adr ex) a5) b w' (hw.hs.later hl (fun ad e _ => hw.hA ad e)) hb hn1 hn hsA
    have hYe : Tm.secY b ex va x = Tm.wd b (Tm.sA (Tm.adr ex) a5) := by rw [ha5]; rfl
    have hey := Tm.wd_e hb (Tm.sA (Tm.adr ex) a5)
    have hsec : Tm.secAt b ex va x = if Tm.has (Tm.secY b ex va x) 1 && !Tm.has (Tm.secY b ex va x) 64 then [Tm.mkM a5 (Tm.secY b ex va x)] else [] := by rw [ha5]; rfl
    obtain ⟨y, hy0⟩ : ∃ y, y = Tm.secY b ex va x := ⟨_, rfl⟩
    rw [← hYe, ← hy0] at HLD hey
    rw [← hy0] at hsec
    have HVY := Lib.hid fun w' => isValid_any y w' hey
    have HGY := Lib.hid fun w' => isRightSecond_any y w' hey
    have HMY := Lib.hid fun w' => mapping_any y a5 w' hey
    have hmp := mgC_mk (va := a5) hey
    obtain ⟨bv, hbv⟩ : ∃ bv, bv = Tm.has y 1 := ⟨_, rfl⟩
    obtain ⟨bg, hbg⟩ : ∃ bg, bg = Tm.has y 64 := ⟨_, rfl⟩
    rw [← hbv] at HVY hsec
    rw [← hbg] at HGY hsec
    obtain ⟨ax, hax⟩ : ∃ ax, ax = Tm.adr ex := ⟨_, rfl⟩
    obtain ⟨s2, hs2⟩ : ∃ s2, s2 = Tm.sA (Tm.adr ex) a5 := ⟨_, rfl⟩
    rw [← hs2] at HIS HLD
    rw [← hax] at HAD HIS
    have x1X := hkp.boxed x1 hw.g1.1 hw.g1.2 (by decide)
    have x3X := hkp.boxed x3 hw.g3.1 hw.g3.2 (by decide)
    have x4X := hkp.boxed x4 hB0 hxs (by decide)
    have u1 := (boxed_drew x1X).cell
    have u3 := (boxed_drew x3X).cell
    have y2X := hkp.boxed y2 (by omega) (fun h => by have := hw.hx _ h; omega) (by decide)
    have y3X := hkp.boxed y3 (by omega) (fun h => by have := hw.hx _ h; omega) (by decide)
    have hlenp : (pre.flatMap (Tm.secAt b ex va)).length < 32 := by have := flat_len (Tm.secAt b ex va) 1 (secAt_len b ex va) pre; omega
    have hXs := hkp.1.size
    have HSEC := Lib.hid hsec
    have HMP := Lib.hid hmp
    rw [← ha5]
    have HA5 := Lib.hid ha5
    clear hYe hy0 hbv hbg hax hs2 hsA hxa hpgl hsec hmp ha5
    have kx : ∀ X', Later X X' → (KeepsFrom W2.heap.size X X' ∧ Kb (W.heap.size + 1 + 1) (W.heap.size + 1 + 2) X X' ∧ Kq n₀ B exs W2 X') := fun X' h => ⟨(Kq.later (n₀ := 0) (B := 0) (ex := []) h (Nat.zero_le _)).keeps (Nat.zero_le _) (fun e he => by cases he), ⟨fun v hv => (h.block _ hv.lt).trans hv, fun v hv => (h.block _ hv.lt).trans hv⟩, hkp.trans (Kq.later h (by omega))⟩
    gi_wp2
    refine wpIn_mono (Q := Cutp { tmps := #[.func (.yield l) #[] #[], .pointer (some ⟨k1, 0, none⟩), .pointer (some ⟨k2, 0, none⟩), .pointer (some ⟨k3, 0, none⟩), .pointer (some ⟨W.heap.size, 0, none⟩), .int .u32 a5, .int .u32 y, .int .u32 ex, .bool false, undef, undef, undef, undef, undef, .int .u32 va, .int .u32 va, .int .u32 (va + 4096), .func (.func 88) #[] #[.pointer (some ⟨W.heap.size + 1, 0, none⟩), .pointer (some ⟨W.heap.size + 1 + 1, 0, none⟩), .pointer (some ⟨W.heap.size + 1 + 2, 0, none⟩)], .int .u32 a5, .agg #[.slice A n c], .int .u32 ex, .int .u32 ax, .int .u32 a5, .int .u32 s2, .int .u32 y, undef, undef, undef, undef, undef, undef, undef, undef, undef, undef, undef, undef, undef, undef], defers := [] } X.drew) ?_ ?_
    · gi_region_with_o (first
        | (refine ⟨trivial, fun h => (by cases h), ?_⟩; gi_at_call 43; refine (CallsIn.inRound l' (callsIn_wide.2 (HAD.out _))).mono ?_; rintro e w' ⟨rfl, rfl⟩)
        | (refine ⟨trivial, fun h => (by cases h), ?_⟩; gi_at_call 46; refine (CallsIn.inRound l' (callsIn_wide.2 (HIS.out _))).mono ?_; rintro e w' ⟨rfl, rfl⟩)
        | (refine ⟨trivial, fun h => (by cases h), ?_⟩; gi_at_call 41; refine (CallsIn.inRound l' (callsIn_wide.2 (HLD.out _ (lX.drew)))).mono ?_; rintro e w3 ⟨rfl, l3⟩))
      all_goals exact ⟨rfl, rfl, l3⟩
    rintro e a' w3 ⟨rfl, rfl, l3⟩
    have kk : ∀ X', Later w3.drew X' → (KeepsFrom W2.heap.size X X' ∧ Kb (W.heap.size + 1 + 1) (W.heap.size + 1 + 2) X X' ∧ Kq n₀ B exs W2 X') := fun X' h => kx X' (((Below.refl _ X).drew.trans (l3.drew)).trans (h.mono l3.size))
    have lx3 : Later X w3.drew := (Below.refl _ X).drew.trans l3.drew
    have x4Y : Boxed w3 W.heap.size 125 (.func (.yield l) #[] #[]) := (l3.block _ x4X.lt).trans x4X
    have u4 := (boxed_drew x4Y).cell
    gi_wp2
    cases bv with
    | false =>
      gi_region_with_o (first
        | (refine ⟨trivial, fun h => (by cases h), ?_⟩; gi_at_call 42; refine (CallsIn.inRound l' (callsIn_wide.2 (HVY.out _))).mono ?_; rintro e w' ⟨rfl, rfl⟩)
        | (refine ⟨trivial, fun h => (by cases h), ?_⟩; gi_at_call 85; refine (CallsIn.inRound l' (callsIn_wide.2 (HGY.out _))).mono ?_; rintro e w' ⟨rfl, rfl⟩)
        | (refine ⟨trivial, ?_⟩)
        | (refine ⟨fun _ h => (by cases h), ?_⟩))
      all_goals gi_wp2
      all_goals exact ⟨(kk _ (Below.refl _ _)).1, (kk _ (Below.refl _ _)).2.1, by rw [List.flatMap_append, List.flatMap_singleton, HSEC.out]; simpa using own_later HJ.out hJp lx3, (kk _ (Below.refl _ _)).2.2⟩
    | true =>
      cases bg with
      | true =>
        gi_region_with_o (first
          | (refine ⟨trivial, fun h => (by cases h), ?_⟩; gi_at_call 42; refine (CallsIn.inRound l' (callsIn_wide.2 (HVY.out _))).mono ?_; rintro e w' ⟨rfl, rfl⟩)
          | (refine ⟨trivial, fun h => (by cases h), ?_⟩; gi_at_call 85; refine (CallsIn.inRound l' (callsIn_wide.2 (HGY.out _))).mono ?_; rintro e w' ⟨rfl, rfl⟩)
          | (refine ⟨trivial, ?_⟩)
          | (refine ⟨fun _ h => (by cases h), ?_⟩))
        all_goals gi_wp2
        all_goals exact ⟨(kk _ (Below.refl _ _)).1, (kk _ (Below.refl _ _)).2.1, by rw [List.flatMap_append, List.flatMap_singleton, HSEC.out]; simpa using own_later HJ.out hJp lx3, (kk _ (Below.refl _ _)).2.2⟩
      | false =>
        have hmpc : (Mp a5 y).toArray = #[.int .u32 a5, .int .u32 (Tm.adr y), .int .i64 (y % 128)] := rfl
        have lxm : Later w3.drew (w3.alloc (.cells #[.int .u32 a5, .int .u32 (Tm.adr y), .int .i64 (y % 128)] 65)).drew := later1 w3.drew _
        obtain ⟨fn, tmps, assign, body, hy, hR⟩ := HY.out (pre.flatMap (Tm.secAt b ex va)) (Tm.mkM a5 y) (w3.alloc (.cells #[.int .u32 a5, .int .u32 (Tm.adr y), .int .i64 (y % 128)] 65)).drew (own_later HJ.out hJp (lx3.trans (lxm.mono lx3.size))) hlenp
        unfold encM at hy
        rw [HMP.out, hmpc] at hy
        have y4 := (boxed_drew (x4Y.alloc (.cells #[.int .u32 a5, .int .u32 (Tm.adr y), .int .i64 (y % 128)] 65))).cell
        gi_region_with_o (first
          | (refine ⟨trivial, fun h => (by cases h), ?_⟩; gi_at_call 42; refine (CallsIn.inRound l' (callsIn_wide.2 (HVY.out _))).mono ?_; rintro e w' ⟨rfl, rfl⟩)
          | (refine ⟨trivial, fun h => (by cases h), ?_⟩; gi_at_call 85; refine (CallsIn.inRound l' (callsIn_wide.2 (HGY.out _))).mono ?_; rintro e w' ⟨rfl, rfl⟩)
          | (refine ⟨trivial, fun h => (by cases h), ?_⟩; gi_at_call 90; refine (CallsIn.inRound l' (callsIn_wide.2 (HMY.out _))).mono ?_; rintro e w' ⟨rfl, rfl⟩; rw [hmpc])
          | (refine ⟨fun h => (by cases h), ?_⟩; refine (round_any _ l' hR).mono ?_; rintro e w4 h4; obtain ⟨v, rfl, h5⟩ := yv h4; clear h4))
        all_goals rcases h5 with ⟨rfl, hJ4, hk4⟩ | ⟨rfl, hJx4, hkx⟩
        all_goals gi_wp2
        all_goals first
          | exact ⟨((kk _ lxm).1).trans (hk4.keeps (by omega) (fun e he => by have := hw.hx e he; omega)), ((kk _ lxm).2.1).trans ⟨fun v hv => hk4.boxed hv (by omega) (fun h => by have := hw.hx _ h; omega) (by decide), fun v hv => hk4.boxed hv (by omega) (fun h => by have := hw.hx _ h; omega) (by decide)⟩, by rw [List.flatMap_append, List.flatMap_singleton, HSEC.out]; simpa using hJ4, ((kk _ lxm).2.2).trans hk4⟩
          | exact ⟨((kk _ lxm).1).trans (keeps_up hkx (by omega)), rfl, _, hJx4⟩
  case done =>
    rintro D ys X hD rfl ⟨hJp, hkp⟩ hK
    gi_wp2
    refine ⟨by simp, .inl ⟨_, _, rfl, run_takeDeferred hK, ?_⟩⟩
    exact ⟨_, results_none rfl _ _ _, ⟨_, rfl⟩, .inl ⟨_, HBL.out.symm, HJ.out.putObj _ hJp (by omega) hK rfl⟩⟩
  case stop =>
    rintro D cd pre X hD _ ⟨rfl, p, hp⟩ hK
    gi_wp2
    refine ⟨by simp, .inl ⟨_, _, rfl, run_takeDeferred hK, ?_⟩⟩
    exact ⟨_, results_none rfl _ _ _, ⟨_, rfl⟩, .inr ⟨_, trivial, hJx.putObj _ hp (by omega) hK rfl⟩⟩
end Go.Proofs.Ytempcbdlaoblhab
