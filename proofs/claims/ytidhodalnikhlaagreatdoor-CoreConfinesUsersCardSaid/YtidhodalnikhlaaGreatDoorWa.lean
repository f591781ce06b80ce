/-
  A STEP UNDER WAY: how it lies in memory; what appends to its lists leave.
-/
import Derived.Test.YtidhodalnikhlaaGreatDoorVg
import Derived.Test.YtidhodalnikhlaaGreatDoorVi
import Derived.Test.YtidhodalnikhlaaGreatDoorVk
import Derived.Test.YtidhodalnikhlaaGreatDoorVm
import Derived.Laws.AppendOwn
import Derived.Deep.RegionHeld
import Derived.Deep.DeepCutAuto
namespace Go.Proofs.YtidhodalnikhlaaGreatDoor
open Go.RowKit Go.ChangeShapes Go.WideShapes Go.ChangeAt

/-- A step under way. -/
structure Sp where
  (c : Cpu) (m : Value) (p io ia ib ic im : Int) (dn : Bool) (ec old : Cpu) (wd : Int) (wv av : Value) (ak ii : Bool) (ip iv fl fa tr : Int)
def Sp.mid (s : Sp) : List Value := [s.m, .int .u32 s.p, .int .i64 s.io, .int .i64 s.ia, .int .i64 s.ib, .int .i64 s.ic, .int .i64 s.im]
def Sp.eff (s : Sp) : List Value := .bool s.dn :: (s.ec.cells ++ (s.old.cells ++ [.int .u32 s.wd, s.wv, s.av, .bool s.ak, .bool s.ii, .int .i64 s.ip, .int .u32 s.iv, .int .i64 s.fl, .int .u32 s.fa, .int .i64 s.tr]))
def Sp.cells (s : Sp) : List Value := s.c.cells ++ (s.mid ++ s.eff)
theorem step_sz (s : Sp) : (Tryz.prog.info? 86).map (·.size) = some s.cells.length := by
  show _ = some 108
  kernel_rfl
theorem eff_sz (s : Sp) : (Tryz.prog.info? 38).map (·.size) = some s.eff.length := by
  show _ = some 71
  kernel_rfl
def Acs (l : List (Int × Int × Bool)) : List Value := l.flatMap fun x => [.int .i64 x.1, .int .i64 x.2.1, .bool x.2.2]
theorem Acs_snoc (l : List (Int × Int × Bool)) (x : Int × Int × Bool) : Acs (l ++ [x]) = Acs l ++ [.int .i64 x.1, .int .i64 x.2.1, .bool x.2.2] := by unfold Acs; rw [List.flatMap_append]; simp
theorem Ws_snoc (l : List (Int × Int × Int)) (x : Int × Int × Int) : Ws (l ++ [x]) = Ws l ++ [.int .i64 x.1, .int .i64 x.2.1, .int .u32 x.2.2] := by unfold Ws; rw [List.flatMap_append]; simp [Wc]
theorem ac_one (x y : Int) (z : Bool) : ∀ u ∈ [Value.int .i64 x, .int .i64 y, .bool z], u.oneCell' = true := by
  intro u hu
  simp only [List.mem_cons, List.not_mem_nil, or_false] at hu
  rcases hu with rfl | rfl | rfl <;> rfl
theorem ac_info : (Tryz.prog.info? 53).map (fun i => (i.zero, i.size, i.bytes)) = some (some (.agg #[.int .i64 0, .int .i64 0, .bool false]), 3, 24) := by kernel_rfl
theorem wr_info : (Tryz.prog.info? 64).map (fun i => (i.zero, i.size, i.bytes)) = some (some (.agg #[.int .i64 0, .int .i64 0, .int .u32 0]), 3, 24) := by kernel_rfl
/-- The slice that an append hands back lies in the old block, or in a new one. -/
theorem append_fresh {P : Program} {w : World} {base : Nat} {t ty e : TypeId} {i : TypeInfo} {z : Value} {size bytes : Nat} (ht : P.underlying t = some (.slice e)) (hi : P.info? e = some i) (hz : i.zero = some z)
    (hsize : i.size = size) (hby : i.bytes = bytes) {v : Value} {n : Nat} {xs : List Value} (hown : w.ownsRow base e size v n xs)
    {a : Addr} {m c : Nat} {news : List Value} (hl : news.length = m * size) (hnews : ∀ j u, news[j]? = some u → w.cell? (a.add j) = some u) (h1 : ∀ u ∈ news, u.oneCell' = true)
    (h63 : n + m ≤ maxLen) (hbytes : (n + m) * bytes ≤ 140737488355328) (hm : 0 < m) {v' : Value} {w' : World} (hr : (Builtin.append_ #[t, t] ty #[v, .slice (some a) m c]).run P w = .ok v' w') :
    ∀ g, v'.ownBlock = some g → v.ownBlock = some g ∨ w.heap.size ≤ g := by
  subst hsize
  subst hby
  have hsmall : n + m ≤ 9223372036854775807 := by simp only [maxLen] at h63; omega
  intro g hg
  rcases hown.2 with ⟨rfl, rfl⟩ | ⟨g0, cap, cur, rfl, _, hgc, hnc, hcm, hcs, htake⟩
  · have := run_append_nil (P := P) w t ty e i z ht hi hz a m c news hl hnews hm (by omega) (by have hb := hbytes; simp only [Nat.zero_add] at hb; omega)
    rw [this] at hr
    cases hr
    refine .inr (Nat.le_of_eq ?_)
    simpa [Value.ownBlock] using hg
  · by_cases hroom : n + m ≤ cap
    · have := run_append_room (P := P) w t ty e i ht hi g0 n cap cur hgc a m c news hl hnews h1 hroom (by rw [hl, hcs, ← Nat.add_mul]; exact Nat.mul_le_mul_right _ hroom)
      rw [this] at hr
      cases hr
      exact .inl (by simpa [Value.ownBlock] using hg)
    · have := run_append_grow (P := P) w t ty e i z ht hi hz ⟨g0, 0, none⟩ n cap xs hown.1 (hown.cells (g := g0) rfl) a m c news hl hnews (by omega) (by omega) (growslice_fits (by omega) hbytes)
      rw [this] at hr
      cases hr
      refine .inr (Nat.le_of_eq ?_)
      simpa [Value.ownBlock] using hg
theorem wp_append_fr {P : Program} {w : World} {o : Oper} {a : Act} {K : Act → World → Prop} {Q : Exit → Act → World → Prop} (s x : Operand) (t : TypeId)
    (ho : o.op = .call { callee := .builtin .append, args := #[s, x], argTypes := #[t, t] })
    (base : Nat) (e : TypeId) (i : TypeInfo) (z : Value) (size bytes : Nat) (ht : P.underlying t = some (.slice e)) (hi : P.info? e = some i) (hz : i.zero = some z)
    (hsize : i.size = size) (hby : i.bytes = bytes) (hzs : z.cells.size = size) (hsz : 0 < size)
    (v : Value) (n : Nat) (xs : List Value) (hs : a.eval s = v) (hown : w.ownsRow base e size v n xs)
    (ad : Addr) (m c : Nat) (news : List Value) (hx : a.eval x = .slice (some ad) m c) (hl : news.length = m * size) (hnews : ∀ j u, news[j]? = some u → w.cell? (ad.add j) = some u) (h1 : ∀ u ∈ news, u.oneCell' = true)
    (h63 : n + m ≤ maxLen) (hbytes : (n + m) * bytes ≤ 140737488355328) (hbase : base ≤ w.heap.size) (hm : 0 < m)
    (h : ∀ v' w', w'.ownsRow base e size v' (n + m) (xs ++ news) → w.grownBy w' v.ownBlock → (∀ g, v'.ownBlock = some g → v.ownBlock = some g ∨ w.heap.size ≤ g) → K (a.put o.dst v') w') : o.wp P a w K Q := by
  obtain ⟨v', w', hr, h2, h3, _⟩ := run_append_own (P := P) w base t o.type e i z size bytes ht hi hz hsize hby hzs hsz v n xs hown ad m c news hl hnews h1 h63 hbytes hbase
  have h4 := append_fresh ht hi hz hsize hby hown hl hnews h1 h63 hbytes hm hr
  unfold Oper.wp execOp
  simp only [ho, resolve, invoke, builtin, Sem.run_bind, Sem.run_pure, Result.andThen_ok, List.map_toArray, List.map_cons, List.map_nil, hs, hx, hr]
  exact h v' w' h2 h3 h4
theorem wpList_append_fr {P : Program} {w : World} {ops : Array Oper} {rest : List Oper} {o : Oper} {a : Act} {Q : Exit → Act → World → Prop} (hgd : o.guard = none) (s x : Operand) (t : TypeId)
    (ho : o.op = .call { callee := .builtin .append, args := #[s, x], argTypes := #[t, t] })
    (base : Nat) (e : TypeId) (i : TypeInfo) (z : Value) (size bytes : Nat) (ht : P.underlying t = some (.slice e)) (hi : P.info? e = some i) (hz : i.zero = some z)
    (hsize : i.size = size) (hby : i.bytes = bytes) (hzs : z.cells.size = size) (hsz : 0 < size)
    (v : Value) (n : Nat) (xs : List Value) (hs : a.eval s = v) (hown : w.ownsRow base e size v n xs)
    (ad : Addr) (m c : Nat) (news : List Value) (hx : a.eval x = .slice (some ad) m c) (hl : news.length = m * size) (hnews : ∀ j u, news[j]? = some u → w.cell? (ad.add j) = some u) (h1 : ∀ u ∈ news, u.oneCell' = true)
    (h63 : n + m ≤ maxLen) (hbytes : (n + m) * bytes ≤ 140737488355328) (hbase : base ≤ w.heap.size) (hm : 0 < m)
    (h : ∀ v' w', w'.ownsRow base e size v' (n + m) (xs ++ news) → w.grownBy w' v.ownBlock → (∀ g, v'.ownBlock = some g → v.ownBlock = some g ∨ w.heap.size ≤ g) → wpList P ops Q rest (a.put o.dst v') w') : wpList P ops Q (o :: rest) a w :=
  wpList_plain hgd fun _ hK => wp_append_fr s x t ho base e i z size bytes ht hi hz hsize hby hzs hsz v n xs hs hown ad m c news hx hl hnews h1 h63 hbytes hbase hm fun v' w' h2 h3 h4 => hK _ _ (h v' w' h2 h3 h4)
theorem own_ne {w : World} {base : Nat} {e : TypeId} {size n : Nat} {v : Value} {xs : List Value} (h : w.ownsRow base e size v n xs) {B : Nat} {t : TypeId} {cs : List Value} (hb : Blk w B t cs) (hne : t ≠ e) : v.ownBlock ≠ some B := by
  intro hB
  rcases h.2 with ⟨rfl, _⟩ | ⟨g, cap, cur, rfl, _, hg, _⟩
  · cases hB
  · have e1 : g = B := by simpa [Value.ownBlock] using hB
    subst e1
    rw [show w.heap[g]? = _ from hb] at hg
    cases hg
    exact hne rfl
theorem own_own {w : World} {base : Nat} {e e2 : TypeId} {size n size2 n2 : Nat} {v v2 : Value} {xs xs2 : List Value} (h : w.ownsRow base e size v n xs) (h2 : w.ownsRow base e2 size2 v2 n2 xs2) (hne : e ≠ e2) : ∀ g, v.ownBlock = some g → v2.ownBlock ≠ some g := by
  intro g hg hg2
  rcases h.2 with ⟨rfl, _⟩ | ⟨a, cap, cur, rfl, _, ha, _⟩
  · cases hg
  · rcases h2.2 with ⟨rfl, _⟩ | ⟨b, cap2, cur2, rfl, _, hb, _⟩
    · cases hg2
    · have e1 : a = g := by simpa [Value.ownBlock] using hg
      have e2 : b = g := by simpa [Value.ownBlock] using hg2
      subst e1
      rw [e2, ha] at hb
      cases hb
      exact hne rfl
theorem own_succ {w : World} {base : Nat} {e : TypeId} {size n : Nat} {v : Value} {xs : List Value} (h : w.ownsRow base e size v (n + 1) xs) : ∃ g cap, v = .slice (some ⟨g, 0, none⟩) (n + 1) cap := by
  rcases h.2 with ⟨_, h0⟩ | ⟨g, cap, _, h1, _⟩
  · omega
  · exact ⟨g, cap, h1⟩
theorem own_block {w w' : World} {base : Nat} {e : TypeId} {size n : Nat} {v : Value} {xs : List Value} (h : w.ownsRow base e size v n xs) (hk : ∀ g, v.ownBlock = some g → w'.heap[g]? = w.heap[g]?) : w'.ownsRow base e size v n xs := by
  refine ⟨h.1, ?_⟩
  rcases h.2 with h2 | ⟨g, cap, cur, rfl, h2, h3, h4⟩
  · exact .inl h2
  · exact .inr ⟨g, cap, cur, rfl, h2, (hk g rfl).trans h3, h4⟩
theorem Sl.block {w w' : World} {size n : Nat} {A : Option Addr} {xs : List Value} (h : Sl w size A n xs) (hz : w.heap.size ≤ w'.heap.size) (hk : ∀ ad, A = some ad → w'.heap[ad.block]? = w.heap[ad.block]?) : Sl w' size A n xs := by
  refine ⟨h.1, fun hn => ?_⟩
  obtain ⟨ad, e, hl, hc⟩ := h.2 hn
  refine ⟨ad, e, Nat.lt_of_lt_of_le hl hz, fun j u hu => ?_⟩
  have h1 := hc j u hu
  unfold World.cell? at h1 ⊢
  rw [addr_add_block] at h1 ⊢
  rw [hk ad e]
  exact h1
/-- How a step under way lies: its box, the rows of its stores and accesses, its memory. -/
structure At (base : Nat) (w : World) (B : Nat) (s : Sp) (A : Option Addr) (n c : Nat) (ws : List (Int × Int × Int)) (ac : List (Int × Int × Bool)) (b : Wm.Bs) : Prop where
  hB : base ≤ B
  bx : Blk w B 86 s.cells
  rw : w.ownsRow base 64 3 s.wv ws.length (Ws ws)
  ra : w.ownsRow base 53 3 s.av ac.length (Acs ac)
  hn : 1 ≤ n
  hm : s.m = .slice A n c
  sl : Sl w 128 A n (U b)
  sep : ∀ ad, A = some ad → ad.block ≠ B ∧ s.wv.ownBlock ≠ some ad.block ∧ s.av.ownBlock ≠ some ad.block
/-- What a piece of the step changes: its box and its rows alone, or what is new. -/
structure St (base B : Nat) (w : World) (s : Sp) (w' : World) (s' : Sp) : Prop where
  lt : Below base w w'
  kp : ∀ k, k < w.heap.size → k ≠ B → s.wv.ownBlock ≠ some k → s.av.ownBlock ≠ some k → w'.heap[k]? = w.heap[k]?
  fw : ∀ g, s'.wv.ownBlock = some g → s.wv.ownBlock = some g ∨ w.heap.size ≤ g
  fa : ∀ g, s'.av.ownBlock = some g → s.av.ownBlock = some g ∨ w.heap.size ≤ g
theorem St.trans {base B : Nat} {w w' w'' : World} {s s' s'' : Sp} (h : St base B w s w' s') (k : St base B w' s' w'' s'') : St base B w s w'' s'' := by
  have hz := h.lt.size
  refine ⟨Below.trans h.lt k.lt, fun j hj h1 h2 h3 => ?_, fun g hg => ?_, fun g hg => ?_⟩
  · rw [k.kp j (by omega) h1 (fun e => (h.fw j e).elim h2 (by omega)) (fun e => (h.fa j e).elim h3 (by omega))]
    exact h.kp j hj h1 h2 h3
  · rcases k.fw g hg with e | e
    · exact h.fw g e
    · exact .inr (by omega)
  · rcases k.fa g hg with e | e
    · exact h.fa g e
    · exact .inr (by omega)
theorem St.later {base B : Nat} {w w' : World} (s : Sp) (hb : base ≤ w.heap.size) (l : Later w w') : St base B w s w' s :=
  ⟨l.mono hb, fun k hk _ _ _ => l.block k hk, fun _ e => .inl e, fun _ e => .inl e⟩
theorem St.blk {base B : Nat} {w w' : World} {s s' : Sp} (h : St base B w s w' s') {k : Nat} {t : TypeId} {cs : List Value} (hb : Blk w k t cs) (h1 : k ≠ B) (h2 : s.wv.ownBlock ≠ some k) (h3 : s.av.ownBlock ≠ some k) : Blk w' k t cs := (h.kp k hb.lt h1 h2 h3).trans hb
theorem At.lt {base : Nat} {w : World} {B : Nat} {s : Sp} {A : Option Addr} {n c : Nat} {ws : List (Int × Int × Int)} {ac : List (Int × Int × Bool)} {b : Wm.Bs} (h : At base w B s A n c ws ac b) : base ≤ w.heap.size := Nat.le_trans h.hB (Nat.le_of_lt h.bx.lt)
theorem At.mlt {base : Nat} {w : World} {B : Nat} {s : Sp} {A : Option Addr} {n c : Nat} {ws : List (Int × Int × Int)} {ac : List (Int × Int × Bool)} {b : Wm.Bs} (h : At base w B s A n c ws ac b) : ∀ ad, A = some ad → ad.block < w.heap.size := fun ad e => by
  obtain ⟨ad', e', hl, _⟩ := h.sl.2 (by have := h.hn; omega)
  rw [e] at e'
  cases e'
  exact hl
theorem At.later {base : Nat} {w w' : World} {B : Nat} {s : Sp} {A : Option Addr} {n c : Nat} {ws : List (Int × Int × Int)} {ac : List (Int × Int × Bool)} {b : Wm.Bs} (h : At base w B s A n c ws ac b) (l : Later w w') : At base w' B s A n c ws ac b :=
  ⟨h.hB, h.bx.keep l, own_below h.rw l, own_below h.ra l, h.hn, h.hm, h.sl.keep l, h.sep⟩
/-- A box that is no part of the step is kept. -/
theorem At.other {base : Nat} {w w' : World} {B : Nat} {s s' : Sp} {A : Option Addr} {n c : Nat} {ws : List (Int × Int × Int)} {ac : List (Int × Int × Bool)} {b : Wm.Bs} (h : At base w B s A n c ws ac b) (k : St base B w s w' s') {g : Nat} {t : TypeId} {cs : List Value} (hb : Blk w g t cs) (h0 : t ≠ 86) (h1 : t ≠ 64) (h2 : t ≠ 53) : Blk w' g t cs :=
  k.blk hb (fun e => by subst e; have := (show w.heap[g]? = _ from hb).symm.trans (show w.heap[g]? = _ from h.bx); cases this; exact h0 rfl) (own_ne h.rw hb h1) (own_ne h.ra hb h2)
/-- A store into the box alone. -/
theorem At.put {base : Nat} {w w' : World} {B : Nat} {s s' : Sp} {A : Option Addr} {n c : Nat} {ws : List (Int × Int × Int)} {ac : List (Int × Int × Bool)} {b : Wm.Bs} (h : At base w B s A n c ws ac b) (o : Only B w w') (hb : Blk w' B 86 s'.cells) (e1 : s'.m = s.m) (e2 : s'.wv = s.wv) (e3 : s'.av = s.av) : At base w' B s' A n c ws ac b ∧ St base B w s w' s' := by
  have n1 := own_ne h.rw h.bx (by decide)
  have n2 := own_ne h.ra h.bx (by decide)
  have hk : ∀ g, g ≠ B → w'.heap[g]? = w.heap[g]? := fun g hg => o.2.2.2.2 g hg
  refine ⟨⟨h.hB, hb, ?_, ?_, h.hn, e1.trans h.hm, h.sl.block (Nat.le_of_eq o.size.symm) (fun ad e => hk _ (h.sep ad e).1), fun ad e => by rw [e2, e3]; exact h.sep ad e⟩, ⟨Below.only (Below.refl _ _) o h.hB, fun k _ h1 _ _ => hk k h1, fun g e => .inl (e2 ▸ e), fun g e => .inl (e3 ▸ e)⟩⟩
  · rw [e2]; exact own_block h.rw fun g hg => hk g fun e => n1 (e ▸ hg)
  · rw [e3]; exact own_block h.ra fun g hg => hk g fun e => n2 (e ▸ hg)
/-- A store into one field of the box. -/
theorem At.set {base : Nat} {w : World} {B : Nat} {s s' : Sp} {A : Option Addr} {n c : Nat} {ws : List (Int × Int × Int)} {ac : List (Int × Int × Bool)} {b : Wm.Bs} (h : At base w B s A n c ws ac b) (j : Nat) (v : Value) (hc : s.cells.set j v = s'.cells) (e1 : s'.m = s.m) (e2 : s'.wv = s.wv) (e3 : s'.av = s.av) : At base (w.setCell ⟨B, j, none⟩ v) B s' A n c ws ac b ∧ St base B w s (w.setCell ⟨B, j, none⟩ v) s' :=
  h.put (Only.set w B j v) (by rw [← hc]; exact h.bx.set j v) e1 e2 e3
/-- An access more. -/
theorem At.app_a {base : Nat} {w : World} {B : Nat} {s : Sp} {A : Option Addr} {n c : Nat} {ws : List (Int × Int × Int)} {ac : List (Int × Int × Bool)} {b : Wm.Bs} {o : Obj} {w4 : World} {v : Value} {x : Int × Int × Bool} (h : At base w B s A n c ws ac b) (hown : w4.ownsRow base 53 3 v (ac.length + 1) (Acs ac ++ [.int .i64 x.1, .int .i64 x.2.1, .bool x.2.2])) (hg : (w.alloc o).grownBy w4 s.av.ownBlock) (hf : ∀ g, v.ownBlock = some g → s.av.ownBlock = some g ∨ (w.alloc o).heap.size ≤ g) :
    At base (w4.setCell ⟨B, 100, none⟩ v) B { s with av := v } A n c ws (ac ++ [x]) b ∧ St base B w s (w4.setCell ⟨B, 100, none⟩ v) { s with av := v } ∧ w4.cell? ⟨B, 100, none⟩ = some s.av ∧ w4.frozen? ⟨B, 100, none⟩ = false := by
  have hz : (w.alloc o).heap.size = w.heap.size + 1 := World.size_alloc _ _
  have n1 := own_ne h.rw h.bx (by decide)
  have n2 := own_ne h.ra h.bx (by decide)
  have n3 := own_own h.rw h.ra (by decide)
  have hk : ∀ k, k < w.heap.size → s.av.ownBlock ≠ some k → w4.heap[k]? = w.heap[k]? := fun k hk hn => (hg.block k (by omega) (fun e => hn e.symm)).trans ((later1 w o).block k hk)
  have b4 : Blk w4 B 86 s.cells := (hk B h.bx.lt n2).trans h.bx
  have hs : w.heap.size ≤ w4.heap.size := by have := hg.size; omega
  have o4 := Only.set w4 B 100 v
  have nB : v.ownBlock ≠ some B := fun e => (hf B e).elim n2 (by have := h.bx.lt; omega)
  refine ⟨⟨h.hB, b4.set 100 v, ?_, ?_, h.hn, h.hm, ?_, ?_⟩, ⟨?_, ?_, fun g e => .inl e, fun g e => (hf g e).elim .inl (fun q => .inr (by omega))⟩, b4.cell rfl, b4.frz 100⟩
  · exact own_block h.rw fun g hg => (o4.2.2.2.2 g fun e => n1 (e ▸ hg)).trans (hk g (h.rw.lt g hg).2 (n3 g hg))
  · rw [List.length_append, Acs_snoc]
    exact own_block hown fun g hg => o4.2.2.2.2 g fun e => nB (e ▸ hg)
  · refine h.sl.block (by rw [o4.size]; exact hs) fun ad e => ?_
    exact (o4.2.2.2.2 _ (h.sep ad e).1).trans (hk _ (h.mlt ad e) (h.sep ad e).2.2)
  · intro ad e
    refine ⟨(h.sep ad e).1, (h.sep ad e).2.1, fun q => (hf _ q).elim (h.sep ad e).2.2 fun q2 => by have := h.mlt ad e; omega⟩
  · exact Below.only ((Below.alloc (Below.refl _ _) h.lt o).grown hg (by have := h.lt; omega) (fun j hj => (h.ra.lt j hj).1)) o4 h.hB
  · intro k hk1 h1 _ h3
    exact (o4.2.2.2.2 k h1).trans (hk k hk1 h3)
/-- A store more. -/
theorem At.app_w {base : Nat} {w : World} {B : Nat} {s : Sp} {A : Option Addr} {n c : Nat} {ws : List (Int × Int × Int)} {ac : List (Int × Int × Bool)} {b : Wm.Bs} {o : Obj} {w4 : World} {v : Value} {x : Int × Int × Int} (h : At base w B s A n c ws ac b) (hown : w4.ownsRow base 64 3 v (ws.length + 1) (Ws ws ++ [.int .i64 x.1, .int .i64 x.2.1, .int .u32 x.2.2])) (hg : (w.alloc o).grownBy w4 s.wv.ownBlock) (hf : ∀ g, v.ownBlock = some g → s.wv.ownBlock = some g ∨ (w.alloc o).heap.size ≤ g) :
    At base (w4.setCell ⟨B, 99, none⟩ v) B { s with wv := v } A n c (ws ++ [x]) ac b ∧ St base B w s (w4.setCell ⟨B, 99, none⟩ v) { s with wv := v } ∧ w4.cell? ⟨B, 99, none⟩ = some s.wv ∧ w4.frozen? ⟨B, 99, none⟩ = false := by
  have hz : (w.alloc o).heap.size = w.heap.size + 1 := World.size_alloc _ _
  have n1 := own_ne h.ra h.bx (by decide)
  have n2 := own_ne h.rw h.bx (by decide)
  have n3 := own_own h.ra h.rw (by decide)
  have hk : ∀ k, k < w.heap.size → s.wv.ownBlock ≠ some k → w4.heap[k]? = w.heap[k]? := fun k hk hn => (hg.block k (by omega) (fun e => hn e.symm)).trans ((later1 w o).block k hk)
  have b4 : Blk w4 B 86 s.cells := (hk B h.bx.lt n2).trans h.bx
  have hs : w.heap.size ≤ w4.heap.size := by have := hg.size; omega
  have o4 := Only.set w4 B 99 v
  have nB : v.ownBlock ≠ some B := fun e => (hf B e).elim n2 (by have := h.bx.lt; omega)
  refine ⟨⟨h.hB, b4.set 99 v, ?_, ?_, h.hn, h.hm, ?_, ?_⟩, ⟨?_, ?_, fun g e => (hf g e).elim .inl (fun q => .inr (by omega)), fun g e => .inl e⟩, b4.cell rfl, b4.frz 99⟩
  · rw [List.length_append, Ws_snoc]
    exact own_block hown fun g hg => o4.2.2.2.2 g fun e => nB (e ▸ hg)
  · exact own_block h.ra fun g hg => (o4.2.2.2.2 g fun e => n1 (e ▸ hg)).trans (hk g (h.ra.lt g hg).2 (n3 g hg))
  · refine h.sl.block (by rw [o4.size]; exact hs) fun ad e => ?_
    exact (o4.2.2.2.2 _ (h.sep ad e).1).trans (hk _ (h.mlt ad e) (h.sep ad e).2.1)
  · intro ad e
    refine ⟨(h.sep ad e).1, fun q => (hf _ q).elim (h.sep ad e).2.1 fun q2 => by have := h.mlt ad e; omega, (h.sep ad e).2.2⟩
  · exact Below.only ((Below.alloc (Below.refl _ _) h.lt o).grown hg (by have := h.lt; omega) (fun j hj => (h.rw.lt j hj).1)) o4 h.hB
  · intro k hk1 h1 h3 _
    exact (o4.2.2.2.2 k h1).trans (hk k hk1 h3)
end Go.Proofs.YtidhodalnikhlaaGreatDoor
