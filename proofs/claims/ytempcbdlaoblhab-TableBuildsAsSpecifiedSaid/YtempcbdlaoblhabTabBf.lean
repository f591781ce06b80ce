/-
  A REGION THAT DRAWS ITS ORDER, BY AN INVARIANT; what three memories and three answers are while the law makes them.
-/
import Derived.Test.YtempcbdlaoblhabTabBe
namespace Go.Proofs.Ytempcbdlaoblhab
open Go.RowKit Go.ChangeShapes Go.WideShapes Go.ChangeAt

/-- A region whose order is free, by an invariant that every operation keeps. -/
theorem region_ind {P : Program} {md : Region.Mode} {ops : Array Oper} {Q : Exit → Act → World → Prop} {S : World → Prop} (I : Nat → Array Bool → Act → World → Prop)
    (step : ∀ fuel, (∀ listed a w, I fuel listed a w → wpAnyH P md ops Q S fuel listed a w) → ∀ listed a w, I (fuel + 1) listed a w → wpAnyH P md ops Q S (fuel + 1) listed a w)
    (zero : ∀ listed a w, I 0 listed a w → wpAnyH P md ops Q S 0 listed a w) (fuel : Nat) (listed : Array Bool) (a : Act) (w : World) (h : I fuel listed a w) : wpAnyH P md ops Q S fuel listed a w := by
  induction fuel generalizing listed a w with
  | zero => exact zero _ _ _ h
  | succ k ih => exact step k ih _ _ _ h
theorem Blk.ne {w : World} {B1 B2 : Nat} {t1 t2 : TypeId} {c1 c2 : List Value} (h1 : Blk w B1 t1 c1) (h2 : Blk w B2 t2 c2) (ht : t1 ≠ t2) : B1 ≠ B2 := by
  intro e
  subst e
  have := (show w.heap[B1]? = _ from h1).symm.trans (show w.heap[B1]? = _ from h2)
  cases this
  exact ht rfl
/-- The memories that the law holds. -/
structure BS (w u : World) (A : Option Addr) (n c g13 g15 g17 ga gb gc ca cb cc : Nat) (xa xb xc : Wm.Bs) : Prop where
  l : Later w u
  b6 : Blk u w.heap.size 24 [.slice A n c]
  b13 : Blk u g13 24 [.slice (some ⟨ga, 0, none⟩) n ca]
  b15 : Blk u g15 24 [.slice (some ⟨gb, 0, none⟩) n cb]
  b17 : Blk u g17 24 [.slice (some ⟨gc, 0, none⟩) n cc]
  da : Draft u ga n xa
  db : Draft u gb n xb
  dc : Draft u gc n xc
theorem BS.keep {w u u' : World} {A : Option Addr} {n c g13 g15 g17 ga gb gc ca cb cc : Nat} {xa xb xc : Wm.Bs} (h : BS w u A n c g13 g15 g17 ga gb gc ca cb cc xa xb xc) (k : Later u u') : BS w u' A n c g13 g15 g17 ga gb gc ca cb cc xa xb xc :=
  ⟨Later.trans_ h.l k, h.b6.keep k, h.b13.keep k, h.b15.keep k, h.b17.keep k, h.da.keep k, h.db.keep k, h.dc.keep k⟩
theorem BS.drew {w u : World} {A : Option Addr} {n c g13 g15 g17 ga gb gc ca cb cc : Nat} {xa xb xc : Wm.Bs} (h : BS w u A n c g13 g15 g17 ga gb gc ca cb cc xa xb xc) : BS w u.drew A n c g13 g15 g17 ga gb gc ca cb cc xa xb xc :=
  ⟨h.l.drew, h.b6.drew, h.b13.drew, h.b15.drew, h.b17.drew, h.da.drew, h.db.drew, h.dc.drew⟩
theorem Draft.ne {u : World} {g n B : Nat} {x : Wm.Bs} {t : TypeId} {cs : List Value} (h : Draft u g n x) (hn : 1 ≤ n) (hb : Blk u B t cs) (hl : cs.length < 128) : g ≠ B := h.sl.ne_blk hn hb hl _ rfl
theorem BS.only {w u u' : World} {A : Option Addr} {n c g13 g15 g17 ga gb gc ca cb cc B : Nat} {xa xb xc : Wm.Bs} {v e : Value} (h : BS w u A n c g13 g15 g17 ga gb gc ca cb cc xa xb xc) (hn : 1 ≤ n) (hb : Blk u B 46 [v, e]) (hB : w.heap.size ≤ B) (o : Only B u u') : BS w u' A n c g13 g15 g17 ga gb gc ca cb cc xa xb xc := by
  have h6 := Blk.ne h.b6 hb (by decide)
  refine ⟨Below.only h.l o hB, h.b6.only o h6, h.b13.only o (Blk.ne h.b13 hb (by decide)), h.b15.only o (Blk.ne h.b15 hb (by decide)), h.b17.only o (Blk.ne h.b17 hb (by decide)), h.da.only o (h.da.ne hn hb (by simp)), h.db.only o (h.db.ne hn hb (by simp)), h.dc.only o (h.dc.ne hn hb (by simp))⟩
/-- What has come up of the region: p of the calls and stores, and which of the boxes are there. -/
structure BI (w u : World) (A : Option Addr) (n c g13 g15 g17 ga gb gc ca cb cc : Nat) (xa xb xc : Wm.Bs) (Ea Eb Ec : Int) (p : Nat) (x y z : Bool) (A1 : Option Addr) (c1 : Nat) (A2 : Option Addr) (c2 : Nat) (A3 : Option Addr) (c3 B1 B2 B3 : Nat) : Prop where
  s : BS w u A n c g13 g15 g17 ga gb gc ca cb cc xa xb xc
  f1 : w.heap.size ≤ B1
  f2 : w.heap.size ≤ B2
  f3 : w.heap.size ≤ B3
  s1 : 1 ≤ p → Sl u 128 A1 n (U xa)
  s2 : 2 ≤ p → Sl u 128 A2 n (U xb)
  s3 : 3 ≤ p → Sl u 128 A3 n (U xc)
  m1 : x = true → Blk u B1 46 (if 4 ≤ p then [.slice A1 n c1, .int .i64 Ea] else [.slice none 0 0, .int .i64 0])
  m2 : y = true → Blk u B2 46 (if 5 ≤ p then [.slice A2 n c2, .int .i64 Eb] else [.slice none 0 0, .int .i64 0])
  m3 : z = true → Blk u B3 46 (if 6 ≤ p then [.slice A3 n c3, .int .i64 Ec] else [.slice none 0 0, .int .i64 0])
  n12 : x = true → y = true → B1 ≠ B2
  n13 : x = true → z = true → B1 ≠ B3
  n23 : y = true → z = true → B2 ≠ B3
theorem BI.call1 {w u : World} {A : Option Addr} {n c g13 g15 g17 ga gb gc ca cb cc : Nat} {xa xb xc : Wm.Bs} {Ea Eb Ec : Int} {x y z : Bool} {A1 : Option Addr} {c1 : Nat} {A2 : Option Addr} {c2 : Nat} {A3 : Option Addr} {c3 B1 B2 B3 : Nat} {A' : Option Addr} {c' : Nat} {u' : World} (h : BI w u A n c g13 g15 g17 ga gb gc ca cb cc xa xb xc Ea Eb Ec 0 x y z A1 c1 A2 c2 A3 c3 B1 B2 B3) (k : Later u u') (hs' : Sl u' 128 A' n (U xa)) : BI w u' A n c g13 g15 g17 ga gb gc ca cb cc xa xb xc Ea Eb Ec 1 x y z A' c' A2 c2 A3 c3 B1 B2 B3 :=
  ⟨h.s.keep k, h.f1, h.f2, h.f3, fun _ => hs', fun h' => absurd h' (by decide), fun h' => absurd h' (by decide), fun e => by have := (h.m1 e).keep k; rwa [if_neg (by decide)] at this ⊢, fun e => by have := (h.m2 e).keep k; rwa [if_neg (by decide)] at this ⊢, fun e => by have := (h.m3 e).keep k; rwa [if_neg (by decide)] at this ⊢, h.n12, h.n13, h.n23⟩
theorem BI.call2 {w u : World} {A : Option Addr} {n c g13 g15 g17 ga gb gc ca cb cc : Nat} {xa xb xc : Wm.Bs} {Ea Eb Ec : Int} {x y z : Bool} {A1 : Option Addr} {c1 : Nat} {A2 : Option Addr} {c2 : Nat} {A3 : Option Addr} {c3 B1 B2 B3 : Nat} {A' : Option Addr} {c' : Nat} {u' : World} (h : BI w u A n c g13 g15 g17 ga gb gc ca cb cc xa xb xc Ea Eb Ec 1 x y z A1 c1 A2 c2 A3 c3 B1 B2 B3) (k : Later u u') (hs' : Sl u' 128 A' n (U xb)) : BI w u' A n c g13 g15 g17 ga gb gc ca cb cc xa xb xc Ea Eb Ec 2 x y z A1 c1 A' c' A3 c3 B1 B2 B3 :=
  ⟨h.s.keep k, h.f1, h.f2, h.f3, fun h' => (h.s1 (by omega)).keep k, fun _ => hs', fun h' => absurd h' (by decide), fun e => by have := (h.m1 e).keep k; rwa [if_neg (by decide)] at this ⊢, fun e => by have := (h.m2 e).keep k; rwa [if_neg (by decide)] at this ⊢, fun e => by have := (h.m3 e).keep k; rwa [if_neg (by decide)] at this ⊢, h.n12, h.n13, h.n23⟩
theorem BI.call3 {w u : World} {A : Option Addr} {n c g13 g15 g17 ga gb gc ca cb cc : Nat} {xa xb xc : Wm.Bs} {Ea Eb Ec : Int} {x y z : Bool} {A1 : Option Addr} {c1 : Nat} {A2 : Option Addr} {c2 : Nat} {A3 : Option Addr} {c3 B1 B2 B3 : Nat} {A' : Option Addr} {c' : Nat} {u' : World} (h : BI w u A n c g13 g15 g17 ga gb gc ca cb cc xa xb xc Ea Eb Ec 2 x y z A1 c1 A2 c2 A3 c3 B1 B2 B3) (k : Later u u') (hs' : Sl u' 128 A' n (U xc)) : BI w u' A n c g13 g15 g17 ga gb gc ca cb cc xa xb xc Ea Eb Ec 3 x y z A1 c1 A2 c2 A' c' B1 B2 B3 :=
  ⟨h.s.keep k, h.f1, h.f2, h.f3, fun h' => (h.s1 (by omega)).keep k, fun h' => (h.s2 (by omega)).keep k, fun _ => hs', fun e => by have := (h.m1 e).keep k; rwa [if_neg (by decide)] at this ⊢, fun e => by have := (h.m2 e).keep k; rwa [if_neg (by decide)] at this ⊢, fun e => by have := (h.m3 e).keep k; rwa [if_neg (by decide)] at this ⊢, h.n12, h.n13, h.n23⟩
theorem BI.new1 {w u : World} {A : Option Addr} {n c g13 g15 g17 ga gb gc ca cb cc : Nat} {xa xb xc : Wm.Bs} {Ea Eb Ec : Int} {p : Nat} {y z : Bool} {A1 : Option Addr} {c1 : Nat} {A2 : Option Addr} {c2 : Nat} {A3 : Option Addr} {c3 B1 B2 B3 : Nat} (h : BI w u A n c g13 g15 g17 ga gb gc ca cb cc xa xb xc Ea Eb Ec p false y z A1 c1 A2 c2 A3 c3 B1 B2 B3) (hp : p < 4) : BI w (u.alloc (.cells #[.slice none 0 0, .int .i64 0] 46)) A n c g13 g15 g17 ga gb gc ca cb cc xa xb xc Ea Eb Ec p true y z A1 c1 A2 c2 A3 c3 u.heap.size B2 B3 :=
  ⟨h.s.keep (later1 _ _), h.s.l.size, h.f2, h.f3, fun e => (h.s1 e).alloc _, fun e => (h.s2 e).alloc _, fun e => (h.s3 e).alloc _, fun _ => by rw [if_neg (by omega)]; exact Blk.new u 46 _ _ rfl, fun e => (h.m2 e).alloc _, fun e => (h.m3 e).alloc _, fun _ e => by have := (h.m2 e).lt; omega, fun _ e => by have := (h.m3 e).lt; omega, h.n23⟩
theorem BI.new2 {w u : World} {A : Option Addr} {n c g13 g15 g17 ga gb gc ca cb cc : Nat} {xa xb xc : Wm.Bs} {Ea Eb Ec : Int} {p : Nat} {x z : Bool} {A1 : Option Addr} {c1 : Nat} {A2 : Option Addr} {c2 : Nat} {A3 : Option Addr} {c3 B1 B2 B3 : Nat} (h : BI w u A n c g13 g15 g17 ga gb gc ca cb cc xa xb xc Ea Eb Ec p x false z A1 c1 A2 c2 A3 c3 B1 B2 B3) (hp : p < 5) : BI w (u.alloc (.cells #[.slice none 0 0, .int .i64 0] 46)) A n c g13 g15 g17 ga gb gc ca cb cc xa xb xc Ea Eb Ec p x true z A1 c1 A2 c2 A3 c3 B1 u.heap.size B3 :=
  ⟨h.s.keep (later1 _ _), h.f1, h.s.l.size, h.f3, fun e => (h.s1 e).alloc _, fun e => (h.s2 e).alloc _, fun e => (h.s3 e).alloc _, fun e => (h.m1 e).alloc _, fun _ => by rw [if_neg (by omega)]; exact Blk.new u 46 _ _ rfl, fun e => (h.m3 e).alloc _, fun e _ => by have := (h.m1 e).lt; omega, h.n13, fun _ e => by have := (h.m3 e).lt; omega⟩
theorem BI.new3 {w u : World} {A : Option Addr} {n c g13 g15 g17 ga gb gc ca cb cc : Nat} {xa xb xc : Wm.Bs} {Ea Eb Ec : Int} {p : Nat} {x y : Bool} {A1 : Option Addr} {c1 : Nat} {A2 : Option Addr} {c2 : Nat} {A3 : Option Addr} {c3 B1 B2 B3 : Nat} (h : BI w u A n c g13 g15 g17 ga gb gc ca cb cc xa xb xc Ea Eb Ec p x y false A1 c1 A2 c2 A3 c3 B1 B2 B3) (hp : p < 6) : BI w (u.alloc (.cells #[.slice none 0 0, .int .i64 0] 46)) A n c g13 g15 g17 ga gb gc ca cb cc xa xb xc Ea Eb Ec p x y true A1 c1 A2 c2 A3 c3 B1 B2 u.heap.size :=
  ⟨h.s.keep (later1 _ _), h.f1, h.f2, h.s.l.size, fun e => (h.s1 e).alloc _, fun e => (h.s2 e).alloc _, fun e => (h.s3 e).alloc _, fun e => (h.m1 e).alloc _, fun e => (h.m2 e).alloc _, fun _ => by rw [if_neg (by omega)]; exact Blk.new u 46 _ _ rfl, h.n12, fun e _ => by have := (h.m1 e).lt; omega, fun e _ => by have := (h.m2 e).lt; omega⟩
theorem BI.put1 {w u : World} {A : Option Addr} {n c g13 g15 g17 ga gb gc ca cb cc : Nat} {xa xb xc : Wm.Bs} {Ea Eb Ec : Int} {y z : Bool} {A1 : Option Addr} {c1 : Nat} {A2 : Option Addr} {c2 : Nat} {A3 : Option Addr} {c3 B1 B2 B3 : Nat} {u' : World} (h : BI w u A n c g13 g15 g17 ga gb gc ca cb cc xa xb xc Ea Eb Ec 3 true y z A1 c1 A2 c2 A3 c3 B1 B2 B3) (hn : 1 ≤ n) (o : Only B1 u u') (hb' : Blk u' B1 46 [.slice A1 n c1, .int .i64 Ea]) : BI w u' A n c g13 g15 g17 ga gb gc ca cb cc xa xb xc Ea Eb Ec 4 true y z A1 c1 A2 c2 A3 c3 B1 B2 B3 := by
  have hb : Blk u B1 46 [.slice none 0 0, .int .i64 0] := by have := h.m1 rfl; rwa [if_neg (by decide)] at this
  exact ⟨h.s.only hn hb h.f1 o, h.f1, h.f2, h.f3, fun _ => (h.s1 (by decide)).only_ne o ((h.s1 (by decide)).ne_blk hn hb (by simp)), fun _ => (h.s2 (by decide)).only_ne o ((h.s2 (by decide)).ne_blk hn hb (by simp)), fun _ => (h.s3 (by decide)).only_ne o ((h.s3 (by decide)).ne_blk hn hb (by simp)), fun _ => by rw [if_pos (by decide)]; exact hb', fun e => by have := (h.m2 e).only o (Ne.symm (h.n12 rfl e)); rwa [if_neg (by decide)] at this ⊢, fun e => by have := (h.m3 e).only o (Ne.symm (h.n13 rfl e)); rwa [if_neg (by decide)] at this ⊢, h.n12, h.n13, h.n23⟩
theorem BI.put2 {w u : World} {A : Option Addr} {n c g13 g15 g17 ga gb gc ca cb cc : Nat} {xa xb xc : Wm.Bs} {Ea Eb Ec : Int} {z : Bool} {A1 : Option Addr} {c1 : Nat} {A2 : Option Addr} {c2 : Nat} {A3 : Option Addr} {c3 B1 B2 B3 : Nat} {u' : World} (h : BI w u A n c g13 g15 g17 ga gb gc ca cb cc xa xb xc Ea Eb Ec 4 true true z A1 c1 A2 c2 A3 c3 B1 B2 B3) (hn : 1 ≤ n) (o : Only B2 u u') (hb' : Blk u' B2 46 [.slice A2 n c2, .int .i64 Eb]) : BI w u' A n c g13 g15 g17 ga gb gc ca cb cc xa xb xc Ea Eb Ec 5 true true z A1 c1 A2 c2 A3 c3 B1 B2 B3 := by
  have hb : Blk u B2 46 [.slice none 0 0, .int .i64 0] := by have := h.m2 rfl; rwa [if_neg (by decide)] at this
  exact ⟨h.s.only hn hb h.f2 o, h.f1, h.f2, h.f3, fun _ => (h.s1 (by decide)).only_ne o ((h.s1 (by decide)).ne_blk hn hb (by simp)), fun _ => (h.s2 (by decide)).only_ne o ((h.s2 (by decide)).ne_blk hn hb (by simp)), fun _ => (h.s3 (by decide)).only_ne o ((h.s3 (by decide)).ne_blk hn hb (by simp)), fun e => by have := (h.m1 e).only o (h.n12 rfl rfl); rwa [if_pos (by decide)] at this ⊢, fun _ => by rw [if_pos (by decide)]; exact hb', fun e => by have := (h.m3 e).only o (Ne.symm (h.n23 rfl e)); rwa [if_neg (by decide)] at this ⊢, h.n12, h.n13, h.n23⟩
theorem BI.put3 {w u : World} {A : Option Addr} {n c g13 g15 g17 ga gb gc ca cb cc : Nat} {xa xb xc : Wm.Bs} {Ea Eb Ec : Int}  {A1 : Option Addr} {c1 : Nat} {A2 : Option Addr} {c2 : Nat} {A3 : Option Addr} {c3 B1 B2 B3 : Nat} {u' : World} (h : BI w u A n c g13 g15 g17 ga gb gc ca cb cc xa xb xc Ea Eb Ec 5 true true true A1 c1 A2 c2 A3 c3 B1 B2 B3) (hn : 1 ≤ n) (o : Only B3 u u') (hb' : Blk u' B3 46 [.slice A3 n c3, .int .i64 Ec]) : BI w u' A n c g13 g15 g17 ga gb gc ca cb cc xa xb xc Ea Eb Ec 6 true true true A1 c1 A2 c2 A3 c3 B1 B2 B3 := by
  have hb : Blk u B3 46 [.slice none 0 0, .int .i64 0] := by have := h.m3 rfl; rwa [if_neg (by decide)] at this
  exact ⟨h.s.only hn hb h.f3 o, h.f1, h.f2, h.f3, fun _ => (h.s1 (by decide)).only_ne o ((h.s1 (by decide)).ne_blk hn hb (by simp)), fun _ => (h.s2 (by decide)).only_ne o ((h.s2 (by decide)).ne_blk hn hb (by simp)), fun _ => (h.s3 (by decide)).only_ne o ((h.s3 (by decide)).ne_blk hn hb (by simp)), fun e => by have := (h.m1 e).only o (h.n13 rfl rfl); rwa [if_pos (by decide)] at this ⊢, fun e => by have := (h.m2 e).only o (h.n23 rfl rfl); rwa [if_pos (by decide)] at this ⊢, fun _ => by rw [if_pos (by decide)]; exact hb', h.n12, h.n13, h.n23⟩
end Go.Proofs.Ytempcbdlaoblhab
