/-
  THE WALK OF the reference's List.
-/
import Derived.Test.YtidhodalnikhlaaGreatDoorZa
import Derived.Deep.DeepCutAuto
namespace Go.Proofs.YtidhodalnikhlaaGreatDoor
open Go.RowKit Go.ChangeShapes Go.WideShapes Go.ChangeAt

namespace Tm
set_option maxRecDepth 100000 in
def secN (b : Wm.Bs) (ex va : Int) (k : Nat) : List Mg := if h : k < 32 then secAt b ex va ⟨k, h⟩ else []
set_option maxRecDepth 100000 in
def inTo (n : Nat) (b : Wm.Bs) (ex va : Int) (k : Nat) : List Mg := (List.range k).flatMap fun j => (secN b ex va j).filter fun x => pageB n x.1.2.1
set_option maxRecDepth 100000 in
def topN (n : Nat) (b : Wm.Bs) (root : Int) (k : Nat) : List Mg := if h : k < 32 then topAt n b root ⟨k, h⟩ else []
set_option maxRecDepth 100000 in
def outTo (n : Nat) (b : Wm.Bs) (root : Int) (k : Nat) : List Mg := (List.range k).flatMap (topN n b root)
set_option maxRecDepth 100000 in
theorem inTo_succ (n : Nat) (b : Wm.Bs) (ex va : Int) (k : Nat) : inTo n b ex va (k + 1) = inTo n b ex va k ++ (secN b ex va k).filter fun x => pageB n x.1.2.1 := by
  unfold inTo
  rw [List.range_succ, List.flatMap_append]
  simp
set_option maxRecDepth 100000 in
theorem outTo_succ (n : Nat) (b : Wm.Bs) (root : Int) (k : Nat) : outTo n b root (k + 1) = outTo n b root k ++ topN n b root k := by
  unfold outTo
  rw [List.range_succ, List.flatMap_append]
  simp
set_option maxRecDepth 100000 in
theorem flat_fin (f : Fin 32 → List Mg) : (List.finRange 32).flatMap f = (List.range 32).flatMap fun k => if h : k < 32 then f ⟨k, h⟩ else [] := rfl
set_option maxRecDepth 100000 in
theorem flat_len (f : Nat → List Mg) (c : Nat) (h : ∀ k, (f k).length ≤ c) (k : Nat) : ((List.range k).flatMap f).length ≤ k * c := by
  induction k with
  | zero => simp
  | succ k ih =>
    rw [List.range_succ, List.flatMap_append, List.length_append, Nat.add_mul, Nat.one_mul]
    have := h k
    simp only [List.flatMap_cons, List.flatMap_nil, List.append_nil]
    omega
set_option maxRecDepth 100000 in
theorem inTo_len (n : Nat) (b : Wm.Bs) (ex va : Int) (k : Nat) : (inTo n b ex va k).length ≤ k := by
  have := flat_len (fun j => (secN b ex va j).filter fun x => pageB n x.1.2.1) 1 (fun j => Nat.le_trans (List.length_filter_le _ _) (by unfold secN; split; exact secAt_len _ _ _ _; simp)) k
  unfold inTo
  omega
set_option maxRecDepth 100000 in
theorem outTo_len (n : Nat) (b : Wm.Bs) (root : Int) (k : Nat) : (outTo n b root k).length ≤ k * 32 :=
  flat_len (topN n b root) 32 (fun j => by unfold topN; split; exact topAt_len _ _ _ _; simp) k
set_option maxRecDepth 100000 in
theorem outTo_all (n : Nat) (b : Wm.Bs) (root : Int) : (List.finRange 32).flatMap (topAt n b root) = outTo n b root 32 := flat_fin _
set_option maxRecDepth 100000 in
theorem inTo_all (n : Nat) (b : Wm.Bs) (ex va : Int) : ((List.finRange 32).flatMap (secAt b ex va)).filter (fun x => pageB n x.1.2.1) = inTo n b ex va 32 := by
  rw [List.filter_flatMap]
  exact flat_fin _
set_option maxRecDepth 100000 in
/-- What a first-level entry adds. -/
theorem topN_no {n : Nat} {b : Wm.Bs} {root e : Int} {k : Nat} (hk : k < 32) (he : wd b (fA root (4096 * (k : Int))) = e) (h : (has e 1 && rF n e) = false) : topN n b root k = [] := by
  unfold topN topAt topX
  rw [dif_pos hk, if_neg (by rw [he, h]; decide)]
set_option maxRecDepth 100000 in
theorem topN_large {n : Nat} {b : Wm.Bs} {root e : Int} {k : Nat} (hk : k < 32) (he : wd b (fA root (4096 * (k : Int))) = e) (h : (has e 1 && rF n e) = true) (hl : has e 64 = true) : topN n b root k = if pageB n (adr e % 4294967296) then [mkM (4096 * (k : Int)) e] else [] := by
  unfold topN topAt topX blw
  rw [dif_pos hk, if_pos (by rw [he, h]), he, if_pos hl]
  show List.filter _ [_] = _
  rw [List.filter_cons]
  rfl
set_option maxRecDepth 100000 in
theorem topN_small {n : Nat} {b : Wm.Bs} {root e : Int} {k : Nat} (hk : k < 32) (he : wd b (fA root (4096 * (k : Int))) = e) (h : (has e 1 && rF n e) = true) (hl : has e 64 = false) : topN n b root k = inTo n b e (4096 * (k : Int)) 32 := by
  unfold topN topAt topX blw
  rw [dif_pos hk, if_pos (by rw [he, h]), he, if_neg (by rw [hl]; decide)]
  exact inTo_all _ _ _ _
set_option maxRecDepth 100000 in
/-- What a second-level entry adds. -/
theorem secN_is {b : Wm.Bs} {ex va y : Int} {k : Nat} (hk : k < 32) (hy : wd b (sA (adr ex) (va + 128 * (k : Int))) = y) : secN b ex va k = if has y 1 && !has y 64 then [mkM (va + 128 * (k : Int)) y] else [] := by
  unfold secN secAt secY
  rw [dif_pos hk, hy]
end Tm
set_option maxRecDepth 100000 in
theorem own_neBd {w : World} {base : Nat} {e : TypeId} {size n : Nat} {v : Value} {xs : List Value} (h : w.ownsRow base e size v n xs) {B : Nat} {t : TypeId} {cs : List Value} (hb : Blk w B t cs) (hne : t ≠ e) : some B ≠ v.ownBlock := by
  intro hB
  rcases h.2 with ⟨rfl, _⟩ | ⟨g, cap, cur, rfl, _, hg, _⟩
  · cases hB
  · have e1 : B = g := by simpa [Value.ownBlock] using hB
    subst e1
    rw [show w.heap[B]? = _ from hb] at hg
    cases hg
    exact hne rfl
set_option maxRecDepth 100000 in
theorem own_drew {w : World} {base : Nat} {e : TypeId} {size n : Nat} {v : Value} {xs : List Value} (h : w.ownsRow base e size v n xs) : w.drew.ownsRow base e size v n xs := h
set_option maxRecDepth 100000 in
theorem le_drew {w : World} {a : Nat} (h : a ≤ w.heap.size) : a ≤ w.drew.heap.size := h
set_option maxRecDepth 100000 in
theorem le_alloc {w : World} {a : Nat} (h : a ≤ w.drew.heap.size) (o : Obj) : a ≤ (w.alloc o).drew.heap.size := by
  have h2 : a ≤ w.heap.size := h
  show a ≤ (w.alloc o).heap.size
  rw [World.size_alloc]
  omega
set_option maxRecDepth 100000 in
theorem map3_one (x y z : Int) : ∀ u ∈ [Value.int .u32 x, .int .u32 y, .int .i64 z], u.oneCell' = true := by
  intro u hu
  simp only [List.mem_cons, List.not_mem_nil, or_false] at hu
  rcases hu with rfl | rfl | rfl <;> rfl
set_option maxRecDepth 100000 in
theorem Mgs_new {L : List Mg} {va e p q : Int} (h : Tm.isE e) (hp : p = Tm.adr e) (hq : q = e % 128) : Mgs L ++ [.int .u32 va, .int .u32 p, .int .i64 q] = Mgs (L ++ [Tm.mkM va e]) := by
  rw [Mgs_snoc, mgC_mk h, hp, hq]
  rfl
set_option maxRecDepth 100000 in
theorem rlist_z (A : Option Addr) (n c : Nat) (root : Int) (b : Wm.Bs) (w : World) (_ : Sl w 128 A n (U b)) (_ : Wm.isBs b) (_ : 1 ≤ n ∧ n ≤ 64) (_ : 0 ≤ root ∧ root < 4294967296) (h0 : root = 0) :
    Calls Tryz.prog 24 #[.agg #[.slice A n c], .int .u32 root] w (fun e w' => ∃ L k, e = .returned (.slice L (Tm.lst n b root).length k) ∧ Sl w' 3 L (Tm.lst n b root).length (Mgs (Tm.lst n b root)) ∧ Later w w') := by
  have hl : Tm.lst n b root = [] := by unfold Tm.lst Tm.rootB; rw [if_neg (by simp [h0])]
  rw [hl]
  have d0 : (root == 0) = true := by simpa using h0
  clear h0 hl
  go_enter Tryz.func24, Tryz.ntmps24
  go_wp2
  go_ret
  exact ⟨none, 0, rfl, Sl.nil _ _ _, later1 _ _⟩
set_option maxRecDepth 100000 in
theorem rlist_p (A : Option Addr) (n c : Nat) (root : Int) (b : Wm.Bs) (w : World) (_ : Sl w 128 A n (U b)) (_ : Wm.isBs b) (h1 : 1 ≤ n ∧ n ≤ 64) (hr : 0 ≤ root ∧ root < 4294967296) (h0 : root ≠ 0) (hp : Tm.pageB n root = false) :
    Calls Tryz.prog 24 #[.agg #[.slice A n c], .int .u32 root] w (fun e w' => ∃ L k, e = .returned (.slice L (Tm.lst n b root).length k) ∧ Sl w' 3 L (Tm.lst n b root).length (Mgs (Tm.lst n b root)) ∧ Later w w') := by
  have hl : Tm.lst n b root = [] := by unfold Tm.lst Tm.rootB; rw [if_neg (by simp [hp])]
  rw [hl]
  have d0 : (root == 0) = false := by simpa using h0
  have w0 : IntKind.i64.wrap root = root := by rw [IntKind.wrap_i64]; omega
  have HPR := Lib.hid fun w' => rpage_any A n c root w' h1.2 (by omega)
  rw [hp] at HPR
  have b2 := Blk.new w 29 #[.slice A n c] [.slice A n c] rfl
  have lx := later1 w (.cells #[.slice A n c] 29)
  clear h0 hl h1 hr hp
  go_enter Tryz.func24, Tryz.ntmps24
  go_wp2_with (first
    | (go_at_call 61; refine (HPR.out _).mono ?_; rintro e w2 ⟨rfl, l2⟩; replace b2 := b2.keep l2; replace lx := Later.trans_ lx l2; have c2 := b2.cell (j := 0) (v := .slice A n c) rfl))
  go_ret
  exact ⟨none, 0, rfl, Sl.nil _ _ _, lx⟩
set_option maxRecDepth 100000 in
theorem sa_is (fe : Int) (k q : Nat) (_ : q < 32) : Tm.adr fe + 4 * (128 * (q : Int) / 128 % 32) = Tm.sA (Tm.adr fe) (4096 * (k : Int) + 128 * (q : Int)) := by unfold Tm.sA; omega
set_option maxRecDepth 100000 in
theorem hsb {fe : Int} (h : Tm.isE fe) (k q : Nat) (_ : k < 32) (_ : q < 32) : 0 ≤ Tm.sA (Tm.adr fe) (4096 * (k : Int) + 128 * (q : Int)) ∧ Tm.sA (Tm.adr fe) (4096 * (k : Int) + 128 * (q : Int)) < 1099511627776 := by
  have := Tm.adr_e h
  unfold Tm.isE at this
  unfold Tm.sA
  omega
set_option maxRecDepth 100000 in
theorem filter_mk (n : Nat) (va e : Int) : List.filter (fun x : Mg => Tm.pageB n x.1.2.1) [Tm.mkM va e] = if Tm.pageB n (Tm.adr e % 4294967296) then [Tm.mkM va e] else [] := by
  rw [List.filter_cons]
  rfl
set_option maxRecDepth 100000 in
set_option maxHeartbeats 8000000 in
theorem rlist_y (A : Option Addr) (n c : Nat) (root : Int) (b : Wm.Bs) (w : World) (hs : Sl w 128 A n (U b)) (hb : Wm.isBs b) (h1 : 1 ≤ n ∧ n ≤ 64) (hr : 0 ≤ root ∧ root < 4294967296) (h0 : root ≠ 0) (hp : Tm.pageB n root = true) :
    Calls Tryz.prog 24 #[.agg #[.slice A n c], .int .u32 root] w (fun e w' => ∃ L k, e = .returned (.slice L (Tm.lst n b root).length k) ∧ Sl w' 3 L (Tm.lst n b root).length (Mgs (Tm.lst n b root)) ∧ Later w w') := by
  have hl : Tm.lst n b root = Tm.outTo n b root 32 := by
    unfold Tm.lst Tm.rootB
    rw [if_pos (by simp [h0, hp])]
    exact Tm.outTo_all _ _ _
  rw [hl]
  obtain ⟨i0, hi, hz0, hz1, hz2⟩ := info_parts mg_info
  have d0 : (root == 0) = false := by simpa using h0
  have w0 : IntKind.i64.wrap root = root := by rw [IntKind.wrap_i64]; omega
  have HPR := Lib.hid fun w' => rpage_any A n c root w' h1.2 (by omega)
  rw [hp] at HPR
  have HT := Lib.hid fun (k : Nat) (hk : k < 32) w' (hl : Later w w') => rtop_any A n c root (4096 * (k : Int)) b w' (hs.keep hl) hb h1.2 hr (by omega)
  have HWD := Lib.hid fun (a : Int) (ha : 0 ≤ a ∧ a < 1099511627776) w' (hl : Later w w') => rword_any A n c a b w' (hs.keep hl) hb h1.2 ha
  have HB := Lib.hid hb
  have b2 := Blk.new w 29 #[.slice A n c] [.slice A n c] rfl
  have lx := later1 w (.cells #[.slice A n c] 29)
  clear h0 hl hs hb hr hp
  go_enter Tryz.func24, Tryz.ntmps24
  go_wp2_with (first
    | (go_at_call 61; refine (HPR.out _).mono ?_; rintro e w2 ⟨rfl, l2⟩; replace b2 := b2.keep l2; replace lx := Later.trans_ lx l2; have c2 := b2.cell (j := 0) (v := .slice A n c) rfl))
  clear c2 HPR
  have WR := Lib.hid w0
  clear w0
  obtain ⟨u2, hu2⟩ : ∃ x, x = w2 := ⟨_, rfl⟩
  have hz : w.heap.size + 1 ≤ w2.heap.size := b2.lt
  clear hu2 u2
  go_loopw [5, 6] (fun v i wr => ∃ k : Nat, k ≤ 32 ∧ i = .int .i64 (k : Int) ∧ wr.ownsRow (w.heap.size + 1) 68 3 v (Tm.outTo n b root k).length (Mgs (Tm.outTo n b root k)) ∧ w.heap.size + 1 ≤ wr.heap.size ∧ Blk wr w.heap.size 29 [.slice A n c] ∧ Later w wr) (fun _ i _ => 32 - (intOf i).toNat)
  case atStart => exact ⟨0, by omega, rfl, World.ownsRow_nil _ _ _ _, hz, b2, lx⟩
  case round =>
    clear b2 lx hz l2
    rename_i wr
    obtain ⟨k, hk, rfl, hor, hz, b2, lr⟩ := hrel
    obtain ⟨v, hv⟩ : ∃ x, x = u5 := ⟨_, rfl⟩
    subst hv
    by_cases hk2 : k < 32
    · have kl : (k : Int) < 32 := by omega
      have hol := Tm.outTo_len n b root k
      have c2 := b2.cell (j := 0) (v := .slice A n c) rfl
      have KT := HT.out k hk2
      have x0 : IntKind.i64.wrap (4096 * (k : Int)) = 4096 * (k : Int) := by rw [IntKind.wrap_i64]; omega
      have x9 : IntKind.u32.wrap (4096 * (k : Int)) = 4096 * (k : Int) := by rw [IntKind.wrap_u32]; omega
      have wroot : IntKind.i64.wrap root = root := WR.out
      have hee := Tm.wd_e HB.out (Tm.fA root (4096 * (k : Int)))
      obtain ⟨fe, hfe0⟩ : ∃ x, Tm.wd b (Tm.fA root (4096 * (k : Int))) = x := ⟨_, rfl⟩
      rw [hfe0] at KT hee
      have hfe := Lib.hid hfe0
      clear hfe0
      obtain ⟨fa, hfa⟩ : ∃ x, x = Tm.fA root (4096 * (k : Int)) := ⟨_, rfl⟩
      rw [← hfa] at KT
      clear hfa
      have HE := Lib.hid hee
      have HA := Lib.hid fun w' => raddress_any fe w' ⟨hee.1, by have := hee.2; omega⟩
      have HBL := Lib.hid fun (q : Nat) (hq : q < 32) w' => rbelow_any fa fe (128 * (q : Int)) true true false w' ⟨hee.1, by have := hee.2; omega⟩ (by omega)
      have hpa := Tm.adr_e hee
      obtain ⟨p, hp⟩ : ∃ p, p = Tm.adr fe := ⟨_, rfl⟩
      rw [← hp] at HA hpa
      have hpa0 : 0 ≤ p := hpa.1
      have hpa1 : p < 4294967296 := hpa.2
      have HP := Lib.hid fun w' => rpage_any A n c p w' h1.2 ⟨hpa0, by omega⟩
      have HPP := Lib.hid hp
      have hpm : Tm.adr fe % 4294967296 = p := by rw [← hp]; omega
      have wp : IntKind.u32.wrap p = p := by rw [IntKind.wrap_u32]; omega
      have my : fe.tmod 128 = fe % 128 := Int.tmod_eq_emod_of_nonneg hee.1
      clear hp hpa hee
      cases hvl : Tm.has fe 1 with
      | false =>
        rw [hvl] at KT
        obtain ⟨rf, hrf⟩ : ∃ x, Tm.rF n fe = x := ⟨_, rfl⟩
        rw [hrf] at KT
        obtain ⟨lg, hlg⟩ : ∃ x, Tm.has fe 64 = x := ⟨_, rfl⟩
        rw [hlg] at KT
        clear hlg
        have HNO := Lib.hid (Tm.topN_no hk2 hfe.out (by rw [hvl, hrf]; rfl))
        clear hvl hrf
        go_wp2_with (first
          | (go_at_call 62; refine (KT _ lr).mono ?_; clear c2; rintro e w3 ⟨rfl, l3⟩; replace hor := own_below hor l3; have hz0 := l3.size; replace b2 := b2.keep l3; replace lr := Later.trans_ lr l3; have c2 := b2.cell (j := 0) (v := .slice A n c) rfl))
        go_roundw
        case rel => exact ⟨k + 1, by omega, by go_num, by rw [Tm.outTo_succ, HNO.out, List.append_nil]; exact hor.alloc _, by simp; omega, b2.alloc _, lr.alloc lr.size _⟩
        case measure => simp [intOf]; omega
      | true =>
        rw [hvl] at KT
        cases hrf : Tm.rF n fe with
        | false =>
          rw [hrf] at KT
          obtain ⟨lg, hlg⟩ : ∃ x, Tm.has fe 64 = x := ⟨_, rfl⟩
          rw [hlg] at KT
          clear hlg
          have HNO := Lib.hid (Tm.topN_no hk2 hfe.out (by rw [hvl, hrf]; rfl))
          clear hvl hrf
          go_wp2_with (first
            | (go_at_call 62; refine (KT _ lr).mono ?_; clear c2; rintro e w3 ⟨rfl, l3⟩; replace hor := own_below hor l3; have hz0 := l3.size; replace b2 := b2.keep l3; replace lr := Later.trans_ lr l3; have c2 := b2.cell (j := 0) (v := .slice A n c) rfl))
          go_roundw
          case rel => exact ⟨k + 1, by omega, by go_num, by rw [Tm.outTo_succ, HNO.out, List.append_nil]; exact hor.alloc _, by simp; omega, b2.alloc _, lr.alloc lr.size _⟩
          case measure => simp [intOf]; omega
        | true =>
          rw [hrf] at KT
          cases hlg : Tm.has fe 64 with
          | true =>
            rw [hlg] at KT
            have HLG := Lib.hid (Tm.topN_large hk2 hfe.out (by rw [hvl, hrf]; rfl) hlg)
            clear hvl hrf hlg
            cases hpp : Tm.pageB n p with
            | false =>
              rw [hpp] at HP
              rw [hpm, hpp] at HLG
              clear hpp
              go_upto_region 10 with (first
                | (go_at_call 62; refine (KT _ lr).mono ?_; clear c2; rintro e w3 ⟨rfl, l3⟩; replace hor := own_below hor l3; have hz0 := l3.size; replace b2 := b2.keep l3; replace lr := Later.trans_ lr l3; have c2 := b2.cell (j := 0) (v := .slice A n c) rfl))
              have b7 := Blk.new w3 134 #[.int .i64 fa, .int .i64 fe, .bool true, .bool true, .bool true] [.int .i64 fa, .int .i64 fe, .bool true, .bool true, .bool true] rfl
              have h7 : w.heap.size < w3.heap.size := b2.lt
              clear c2
              replace hor := hor.alloc (.cells #[.int .i64 fa, .int .i64 fe, .bool true, .bool true, .bool true] 134)
              replace b2 := b2.alloc (.cells #[.int .i64 fa, .int .i64 fe, .bool true, .bool true, .bool true] 134)
              replace lr := lr.alloc lr.size (.cells #[.int .i64 fa, .int .i64 fe, .bool true, .bool true, .bool true] 134)
              have hz3 : w.heap.size + 1 ≤ (w3.alloc (.cells #[.int .i64 fa, .int .i64 fe, .bool true, .bool true, .bool true] 134)).heap.size := by simp; omega
              obtain ⟨u, hu⟩ : ∃ x, x = w3.alloc (.cells #[.int .i64 fa, .int .i64 fe, .bool true, .bool true, .bool true] 134) := ⟨_, rfl⟩
              rw [← hu] at hor b2 b7 lr hz3 ⊢
              clear hu hz hz0 l3
              obtain ⟨g7, hg7⟩ : ∃ x, x = w3.heap.size := ⟨_, rfl⟩
              rw [← hg7] at b7 h7 ⊢
              clear hg7
              replace hor := own_drew hor
              replace hz3 := le_drew hz3
              replace b2 := b2.drew
              replace b7 := b7.drew
              replace lr := lr.drew
              refine wp_region_held_drew (S := fun w' => w'.cell? ⟨w.heap.size, 0, none⟩ = some (.slice A n c) ∧ w'.cell? ⟨g7, 1, none⟩ = some (.int .i64 fe)) (by kernel_rfl) ⟨b2.cell (j := 0) rfl, b7.cell (j := 1) rfl⟩ (fun hHeld => ?_)
              refine wpAnyH_take (i := 0) (oi := ⟨some 40, .load 29 (.tmp 2), _, _, _, none⟩) (v := .agg #[.slice A n c]) rfl (by kernel_rfl) (by kernel_rfl) (by kernel_rfl) (fun _ _ _ h => h) (Or.inl ⟨by rfl, fun w hSw => by have e1 := hSw.1; clear hSw; go_simp⟩) hHeld ?_
              simp only [Act.put, List.setIfInBounds_toArray, List.set_cons_zero, List.set_cons_succ]
              refine wpAnyH_take (i := 1) (oi := ⟨some 41, .fieldAddr 134 (.tmp 7) 1, _, _, _, none⟩) (v := .pointer (some ⟨g7, 1, none⟩)) rfl (by kernel_rfl) (by kernel_rfl) (by kernel_rfl) (fun _ _ _ h => h) (Or.inl ⟨by rfl, fun w _ => by go_simp⟩) hHeld ?_
              simp only [Act.put, List.setIfInBounds_toArray, List.set_cons_zero, List.set_cons_succ]
              refine wpAnyH_take (i := 2) (oi := ⟨some 42, .load 3 (.tmp 41), _, _, _, none⟩) (v := .int .i64 fe) rfl (by kernel_rfl) (by kernel_rfl) (by kernel_rfl) (fun _ _ _ h => h) (Or.inl ⟨by rfl, fun w hSw => by have e1 := hSw.2; clear hSw; go_simp⟩) hHeld ?_
              simp only [Act.put, List.setIfInBounds_toArray, List.set_cons_zero, List.set_cons_succ]
              refine wpAnyH_ready (rs := [3]) (by kernel_rfl) (by simp) (AllReadyH.cons (o := ⟨some 43, .call { callee := .value (.func 63), args := #[.tmp 42], argTypes := #[3] }, _, _, _, none⟩) rfl (fun K' hK => ?_) (AllReadyH.nil))
              go_simp
              refine (HA.out _).mono ?_
              rintro e y1 ⟨rfl, rfl⟩
              refine hK.out _ _ ⟨b2.cell (j := 0) rfl, b7.cell (j := 1) rfl⟩ (fun hHeld => ?_)
              clear hK K'
              try simp only [Act.put, List.setIfInBounds_toArray, List.set_cons_zero, List.set_cons_succ]
              refine wpAnyH_ready (rs := [4]) (by kernel_rfl) (by simp) (AllReadyH.cons (o := ⟨some 44, .call { callee := .value (.func 61), args := #[.tmp 40, .tmp 43], argTypes := #[29, 3] }, _, _, _, none⟩) rfl (fun K' hK => ?_) (AllReadyH.nil))
              go_simp
              refine (HP.out _).mono ?_
              rintro e w4 ⟨rfl, l4⟩
              replace hor := own_below hor l4
              replace b2 := b2.keep l4
              replace b7 := b7.keep l4
              have hzq := l4.size
              replace hz3 : w.heap.size + 1 ≤ _ := Nat.le_trans hz3 hzq
              clear hzq
              replace lr := Later.trans_ lr l4
              refine hK.out _ _ ⟨b2.cell (j := 0) rfl, b7.cell (j := 1) rfl⟩ (fun hHeld => ?_)
              clear hK K'
              try simp only [Act.put, List.setIfInBounds_toArray, List.set_cons_zero, List.set_cons_succ]
              refine wpAnyH_done (by kernel_rfl) ?_ _
              clear hHeld
              go_wp2
              go_roundw
              case rel => exact ⟨k + 1, by omega, by go_num, by rw [Tm.outTo_succ, HLG.out]; simpa using hor, hz3, b2, lr⟩
              case measure => simp [intOf]; omega
            | true =>
              rw [hpp] at HP
              rw [hpm, hpp] at HLG
              clear hpp
              go_upto_region 10 with (first
                | (go_at_call 62; refine (KT _ lr).mono ?_; clear c2; rintro e w3 ⟨rfl, l3⟩; replace hor := own_below hor l3; have hz0 := l3.size; replace b2 := b2.keep l3; replace lr := Later.trans_ lr l3; have c2 := b2.cell (j := 0) (v := .slice A n c) rfl))
              have b7 := Blk.new w3 134 #[.int .i64 fa, .int .i64 fe, .bool true, .bool true, .bool true] [.int .i64 fa, .int .i64 fe, .bool true, .bool true, .bool true] rfl
              have h7 : w.heap.size < w3.heap.size := b2.lt
              clear c2
              replace hor := hor.alloc (.cells #[.int .i64 fa, .int .i64 fe, .bool true, .bool true, .bool true] 134)
              replace b2 := b2.alloc (.cells #[.int .i64 fa, .int .i64 fe, .bool true, .bool true, .bool true] 134)
              replace lr := lr.alloc lr.size (.cells #[.int .i64 fa, .int .i64 fe, .bool true, .bool true, .bool true] 134)
              have hz3 : w.heap.size + 1 ≤ (w3.alloc (.cells #[.int .i64 fa, .int .i64 fe, .bool true, .bool true, .bool true] 134)).heap.size := by simp; omega
              obtain ⟨u, hu⟩ : ∃ x, x = w3.alloc (.cells #[.int .i64 fa, .int .i64 fe, .bool true, .bool true, .bool true] 134) := ⟨_, rfl⟩
              rw [← hu] at hor b2 b7 lr hz3 ⊢
              clear hu hz hz0 l3
              obtain ⟨g7, hg7⟩ : ∃ x, x = w3.heap.size := ⟨_, rfl⟩
              rw [← hg7] at b7 h7 ⊢
              clear hg7
              replace hor := own_drew hor
              replace hz3 := le_drew hz3
              replace b2 := b2.drew
              replace b7 := b7.drew
              replace lr := lr.drew
              refine wp_region_held_drew (S := fun w' => w'.cell? ⟨w.heap.size, 0, none⟩ = some (.slice A n c) ∧ w'.cell? ⟨g7, 1, none⟩ = some (.int .i64 fe)) (by kernel_rfl) ⟨b2.cell (j := 0) rfl, b7.cell (j := 1) rfl⟩ (fun hHeld => ?_)
              refine wpAnyH_take (i := 0) (oi := ⟨some 40, .load 29 (.tmp 2), _, _, _, none⟩) (v := .agg #[.slice A n c]) rfl (by kernel_rfl) (by kernel_rfl) (by kernel_rfl) (fun _ _ _ h => h) (Or.inl ⟨by rfl, fun w hSw => by have e1 := hSw.1; clear hSw; go_simp⟩) hHeld ?_
              simp only [Act.put, List.setIfInBounds_toArray, List.set_cons_zero, List.set_cons_succ]
              refine wpAnyH_take (i := 1) (oi := ⟨some 41, .fieldAddr 134 (.tmp 7) 1, _, _, _, none⟩) (v := .pointer (some ⟨g7, 1, none⟩)) rfl (by kernel_rfl) (by kernel_rfl) (by kernel_rfl) (fun _ _ _ h => h) (Or.inl ⟨by rfl, fun w _ => by go_simp⟩) hHeld ?_
              simp only [Act.put, List.setIfInBounds_toArray, List.set_cons_zero, List.set_cons_succ]
              refine wpAnyH_take (i := 2) (oi := ⟨some 42, .load 3 (.tmp 41), _, _, _, none⟩) (v := .int .i64 fe) rfl (by kernel_rfl) (by kernel_rfl) (by kernel_rfl) (fun _ _ _ h => h) (Or.inl ⟨by rfl, fun w hSw => by have e1 := hSw.2; clear hSw; go_simp⟩) hHeld ?_
              simp only [Act.put, List.setIfInBounds_toArray, List.set_cons_zero, List.set_cons_succ]
              refine wpAnyH_ready (rs := [3]) (by kernel_rfl) (by simp) (AllReadyH.cons (o := ⟨some 43, .call { callee := .value (.func 63), args := #[.tmp 42], argTypes := #[3] }, _, _, _, none⟩) rfl (fun K' hK => ?_) (AllReadyH.nil))
              go_simp
              refine (HA.out _).mono ?_
              rintro e y1 ⟨rfl, rfl⟩
              refine hK.out _ _ ⟨b2.cell (j := 0) rfl, b7.cell (j := 1) rfl⟩ (fun hHeld => ?_)
              clear hK K'
              try simp only [Act.put, List.setIfInBounds_toArray, List.set_cons_zero, List.set_cons_succ]
              refine wpAnyH_ready (rs := [4]) (by kernel_rfl) (by simp) (AllReadyH.cons (o := ⟨some 44, .call { callee := .value (.func 61), args := #[.tmp 40, .tmp 43], argTypes := #[29, 3] }, _, _, _, none⟩) rfl (fun K' hK => ?_) (AllReadyH.nil))
              go_simp
              refine (HP.out _).mono ?_
              rintro e w4 ⟨rfl, l4⟩
              replace hor := own_below hor l4
              replace b2 := b2.keep l4
              replace b7 := b7.keep l4
              have hzq := l4.size
              replace hz3 : w.heap.size + 1 ≤ _ := Nat.le_trans hz3 hzq
              clear hzq
              replace lr := Later.trans_ lr l4
              refine hK.out _ _ ⟨b2.cell (j := 0) rfl, b7.cell (j := 1) rfl⟩ (fun hHeld => ?_)
              clear hK K'
              try simp only [Act.put, List.setIfInBounds_toArray, List.set_cons_zero, List.set_cons_succ]
              refine wpAnyH_done (by kernel_rfl) ?_ _
              clear hHeld
              go_wp2
              replace hor := own_drew hor
              replace hz3 := le_drew hz3
              replace b2 := b2.drew
              replace b7 := b7.drew
              replace lr := lr.drew
              refine wp_region_held_drew (S := fun w' => w'.cell? ⟨w.heap.size, 0, none⟩ = some (.slice A n c) ∧ w'.cell? ⟨g7, 1, none⟩ = some (.int .i64 fe)) (by kernel_rfl) ⟨b2.cell (j := 0) rfl, b7.cell (j := 1) rfl⟩ (fun hHeld => ?_)
              refine wpAnyH_take (i := 0) (oi := ⟨some 45, .move (.tmp 5), _, _, _, none⟩) (v := v) rfl (by kernel_rfl) (by kernel_rfl) (by kernel_rfl) (fun _ _ _ h => h) (Or.inl ⟨by rfl, fun _ _ => rfl⟩) hHeld ?_
              simp only [Act.put, List.setIfInBounds_toArray, List.set_cons_zero, List.set_cons_succ]
              refine wpAnyH_take (i := 1) (oi := ⟨some 46, .move (.tmp 6), _, _, _, none⟩) (v := .int .i64 (k : Int)) rfl (by kernel_rfl) (by kernel_rfl) (by kernel_rfl) (fun _ _ _ h => h) (Or.inl ⟨by rfl, fun _ _ => rfl⟩) hHeld ?_
              simp only [Act.put, List.setIfInBounds_toArray, List.set_cons_zero, List.set_cons_succ]
              refine wpAnyH_take (i := 2) (oi := ⟨some 47, .binOp .mul 3 (.const (.int .i64 4096)) (.tmp 46) 3, _, _, _, none⟩) (v := .int .i64 (4096 * (k : Int))) rfl (by kernel_rfl) (by kernel_rfl) (by kernel_rfl) (fun _ _ _ h => h) (Or.inl ⟨by rfl, fun w _ => by go_simp⟩) hHeld ?_
              simp only [Act.put, List.setIfInBounds_toArray, List.set_cons_zero, List.set_cons_succ]
              refine wpAnyH_take (i := 3) (oi := ⟨some 48, .convert 3 22 (.tmp 47), _, _, _, none⟩) (v := .int .u32 (4096 * (k : Int))) rfl (by kernel_rfl) (by kernel_rfl) (by kernel_rfl) (fun _ _ _ h => h) (Or.inl ⟨by rfl, fun w _ => by go_simp⟩) hHeld ?_
              simp only [Act.put, List.setIfInBounds_toArray, List.set_cons_zero, List.set_cons_succ]
              refine wpAnyH_take (i := 4) (oi := ⟨some 49, .fieldAddr 134 (.tmp 7) 1, _, _, _, none⟩) (v := .pointer (some ⟨g7, 1, none⟩)) rfl (by kernel_rfl) (by kernel_rfl) (by kernel_rfl) (fun _ _ _ h => h) (Or.inl ⟨by rfl, fun w _ => by go_simp⟩) hHeld ?_
              simp only [Act.put, List.setIfInBounds_toArray, List.set_cons_zero, List.set_cons_succ]
              refine wpAnyH_take (i := 5) (oi := ⟨some 50, .load 3 (.tmp 49), _, _, _, none⟩) (v := .int .i64 fe) rfl (by kernel_rfl) (by kernel_rfl) (by kernel_rfl) (fun _ _ _ h => h) (Or.inl ⟨by rfl, fun w hSw => by have e1 := hSw.2; clear hSw; go_simp⟩) hHeld ?_
              simp only [Act.put, List.setIfInBounds_toArray, List.set_cons_zero, List.set_cons_succ]
              refine wpAnyH_take (i := 8) (oi := ⟨some 53, .fieldAddr 134 (.tmp 7) 1, _, _, _, none⟩) (v := .pointer (some ⟨g7, 1, none⟩)) rfl (by kernel_rfl) (by kernel_rfl) (by kernel_rfl) (fun _ _ _ h => h) (Or.inl ⟨by rfl, fun w _ => by go_simp⟩) hHeld ?_
              simp only [Act.put, List.setIfInBounds_toArray, List.set_cons_zero, List.set_cons_succ]
              refine wpAnyH_take (i := 9) (oi := ⟨some 54, .load 3 (.tmp 53), _, _, _, none⟩) (v := .int .i64 fe) rfl (by kernel_rfl) (by kernel_rfl) (by kernel_rfl) (fun _ _ _ h => h) (Or.inl ⟨by rfl, fun w hSw => by have e1 := hSw.2; clear hSw; go_simp⟩) hHeld ?_
              simp only [Act.put, List.setIfInBounds_toArray, List.set_cons_zero, List.set_cons_succ]
              refine wpAnyH_take (i := 10) (oi := ⟨some 55, .binOp .rem 3 (.tmp 54) (.const (.int .i64 128)) 3, _, _, _, none⟩) (v := .int .i64 (fe % 128)) rfl (by kernel_rfl) (by kernel_rfl) (by kernel_rfl) (fun _ _ _ h => h) (Or.inl ⟨by rfl, fun w _ => by go_simp⟩) hHeld ?_
              simp only [Act.put, List.setIfInBounds_toArray, List.set_cons_zero, List.set_cons_succ]
              refine wpAnyH_ready (rs := [6]) (by kernel_rfl) (by simp) (AllReadyH.cons (o := ⟨some 51, .call { callee := .value (.func 63), args := #[.tmp 50], argTypes := #[3] }, _, _, _, none⟩) rfl (fun K' hK => ?_) (AllReadyH.nil))
              go_simp
              refine (HA.out _).mono ?_
              rintro e y2 ⟨rfl, rfl⟩
              refine hK.out _ _ ⟨b2.cell (j := 0) rfl, b7.cell (j := 1) rfl⟩ (fun hHeld => ?_)
              clear hK K'
              try simp only [Act.put, List.setIfInBounds_toArray, List.set_cons_zero, List.set_cons_succ]
              refine wpAnyH_take (i := 7) (oi := ⟨some 52, .convert 3 22 (.tmp 51), _, _, _, none⟩) (v := .int .u32 p) rfl (by kernel_rfl) (by kernel_rfl) (by kernel_rfl) (fun _ _ _ h => h) (Or.inl ⟨by rfl, fun w _ => by go_simp⟩) hHeld ?_
              simp only [Act.put, List.setIfInBounds_toArray, List.set_cons_zero, List.set_cons_succ]
              refine wpAnyH_take (i := 11) (oi := ⟨some 56, .build 68 #[(0, .tmp 48), (1, .tmp 52), (2, .tmp 55)], _, _, _, none⟩) (v := .agg #[.int .u32 (4096 * (k : Int)), .int .u32 p, .int .i64 (fe % 128)]) rfl (by kernel_rfl) (by kernel_rfl) (by kernel_rfl) (fun _ _ _ h => h) (Or.inl ⟨by rfl, fun w _ => by go_simp⟩) hHeld ?_
              simp only [Act.put, List.setIfInBounds_toArray, List.set_cons_zero, List.set_cons_succ]
              refine wpAnyH_ready (rs := [12]) (by kernel_rfl) (by simp) (AllReadyH.cons (o := ⟨some 57, .buildSlice 65 1 #[(0, .tmp 56)], _, _, _, none⟩) rfl (fun K' hK => ?_) (AllReadyH.nil))
              go_simp
              have bS := (Blk.new w4 68 #[.int .u32 (4096 * (k : Int)), .int .u32 p, .int .i64 (fe % 128)] [.int .u32 (4096 * (k : Int)), .int .u32 p, .int .i64 (fe % 128)] rfl).drew
              replace hor := hor.alloc (.cells #[.int .u32 (4096 * (k : Int)), .int .u32 p, .int .i64 (fe % 128)] 68)
              replace b2 := b2.alloc (.cells #[.int .u32 (4096 * (k : Int)), .int .u32 p, .int .i64 (fe % 128)] 68)
              replace b7 := b7.alloc (.cells #[.int .u32 (4096 * (k : Int)), .int .u32 p, .int .i64 (fe % 128)] 68)
              replace lr := lr.alloc lr.size (.cells #[.int .u32 (4096 * (k : Int)), .int .u32 p, .int .i64 (fe % 128)] 68)
              replace hz3 := le_alloc hz3 (.cells #[.int .u32 (4096 * (k : Int)), .int .u32 p, .int .i64 (fe % 128)] 68)
              refine hK.out _ _ ⟨b2.cell (j := 0) rfl, b7.cell (j := 1) rfl⟩ (fun hHeld => ?_)
              clear hK K'
              try simp only [Act.put, List.setIfInBounds_toArray, List.set_cons_zero, List.set_cons_succ]
              refine wpAnyH_ready (rs := [13]) (by kernel_rfl) (by simp) (AllReadyH.cons (o := ⟨some 58, .call { callee := .builtin .append, args := #[.tmp 45, .tmp 57], argTypes := #[65, 65] }, _, _, _, none⟩) rfl (fun K' hK => ?_) (AllReadyH.nil))
              refine wp_append_own _ _ _ 65 rfl (w.heap.size + 1) 68 i0 _ 3 16 Tryz.underlying65 hi hz0 hz1 hz2 rfl (by decide) v _ (Mgs (Tm.outTo n b root k)) rfl hor ⟨w4.heap.size, 0, none⟩ 1 1 [.int .u32 (4096 * (k : Int)), .int .u32 p, .int .i64 (fe % 128)] rfl rfl (news_blk bS) (map3_one _ _ _) (by unfold maxLen; omega) (by omega) hz3 ?_
              intro v2 w6 hown hgrow _
              have nb2 := own_neBd hor b2 (by decide)
              have nb7 := own_neBd hor b7 (by decide)
              replace b2 := b2.grown hgrow nb2
              replace b7 := b7.grown hgrow nb7
              have hsz6 := hgrow.size
              replace lr := lr.grown hgrow lr.size (fun j hj => by have := (hor.lt j hj).1; omega)
              replace hz3 : w.heap.size + 1 ≤ w6.heap.size := Nat.le_trans hz3 hsz6
              replace hor := hown
              clear hown nb2 nb7 hgrow hsz6
              refine hK.out _ _ ⟨b2.cell (j := 0) rfl, b7.cell (j := 1) rfl⟩ (fun hHeld => ?_)
              clear hK K'
              try simp only [Act.put, List.setIfInBounds_toArray, List.set_cons_zero, List.set_cons_succ]
              refine wpAnyH_take (i := 14) (oi := ⟨some 5, .assign (.tmp 58), _, _, _, none⟩) (v := v2) rfl (by kernel_rfl) (by kernel_rfl) (by kernel_rfl) (fun _ _ _ h => h) (Or.inl ⟨by rfl, fun _ _ => rfl⟩) hHeld ?_
              simp only [Act.put, List.setIfInBounds_toArray, List.set_cons_zero, List.set_cons_succ]
              refine wpAnyH_done (by kernel_rfl) ?_ _
              clear hHeld
              go_wp2
              go_roundw
              case rel => exact ⟨k + 1, by omega, by go_num, by rw [Tm.outTo_succ, HLG.out, if_pos trivial, ← Mgs_new HE.out HPP.out rfl, List.length_append]; exact hor, hz3, b2, lr⟩
              case measure => simp [intOf]; omega
          | false =>
            rw [hlg] at KT
            have HSM := Lib.hid (Tm.topN_small hk2 hfe.out (by rw [hvl, hrf]; rfl) hlg)
            clear hvl hrf hlg HP hpm
            go_upto_region 12 with (first
              | (go_at_call 62; refine (KT _ lr).mono ?_; clear c2; rintro e w3 ⟨rfl, l3⟩; replace hor := own_below hor l3; have hz0 := l3.size; replace b2 := b2.keep l3; replace lr := Later.trans_ lr l3; have c2 := b2.cell (j := 0) (v := .slice A n c) rfl))
            have b7 := Blk.new w3 134 #[.int .i64 fa, .int .i64 fe, .bool true, .bool true, .bool false] [.int .i64 fa, .int .i64 fe, .bool true, .bool true, .bool false] rfl
            have h7 : w.heap.size < w3.heap.size := b2.lt
            clear c2
            replace hor := hor.alloc (.cells #[.int .i64 fa, .int .i64 fe, .bool true, .bool true, .bool false] 134)
            replace b2 := b2.alloc (.cells #[.int .i64 fa, .int .i64 fe, .bool true, .bool true, .bool false] 134)
            replace lr := lr.alloc lr.size (.cells #[.int .i64 fa, .int .i64 fe, .bool true, .bool true, .bool false] 134)
            have hz3 : w.heap.size + 1 ≤ (w3.alloc (.cells #[.int .i64 fa, .int .i64 fe, .bool true, .bool true, .bool false] 134)).heap.size := by simp; omega
            obtain ⟨u, hu⟩ : ∃ x, x = w3.alloc (.cells #[.int .i64 fa, .int .i64 fe, .bool true, .bool true, .bool false] 134) := ⟨_, rfl⟩
            rw [← hu] at hor b2 b7 lr hz3 ⊢
            clear hu hz hz0 l3
            obtain ⟨g7, hg7⟩ : ∃ x, x = w3.heap.size := ⟨_, rfl⟩
            rw [← hg7] at b7 h7 ⊢
            clear hg7
            clear wp my HPP HA hpa0 hpa1
            obtain ⟨LO, hLO⟩ : ∃ x, x = Tm.outTo n b root k := ⟨_, rfl⟩
            rw [← hLO] at hor hol
            have HLO := Lib.hid hLO
            clear hLO
            go_wp2
            go_loopw [5, 8] (fun v j wq => ∃ q : Nat, q ≤ 32 ∧ j = .int .i64 (q : Int) ∧ wq.ownsRow (w.heap.size + 1) 68 3 v (LO ++ Tm.inTo n b fe (4096 * (k : Int)) q).length (Mgs (LO ++ Tm.inTo n b fe (4096 * (k : Int)) q)) ∧ w.heap.size + 1 ≤ wq.heap.size ∧ Blk wq w.heap.size 29 [.slice A n c] ∧ Blk wq g7 134 [.int .i64 fa, .int .i64 fe, .bool true, .bool true, .bool false] ∧ Later w wq) (fun _ j _ => 32 - (intOf j).toNat)
            case atStart => exact ⟨0, by omega, rfl, by rw [show Tm.inTo n b fe (4096 * (k : Int)) 0 = [] from rfl, List.append_nil]; exact hor, hz3, b2, b7, lr⟩
            case round =>
              clear b2 b7 lr hor hz3
              obtain ⟨q, hq, rfl, hor, hz3, b2, b7, lr⟩ := hrel
              obtain ⟨v2, hv2⟩ : ∃ x, x = u5 := ⟨_, rfl⟩
              subst hv2
              by_cases hq2 : q < 32
              · have ql : (q : Int) < 32 := by omega
                obtain ⟨y, hy⟩ : ∃ y, Tm.wd b (Tm.sA (Tm.adr fe) (4096 * (k : Int) + 128 * (q : Int))) = y := ⟨_, rfl⟩
                have HSN := Lib.hid (Tm.secN_is hq2 hy)
                have hye : Tm.isE y := by rw [← hy]; exact Tm.wd_e HB.out _
                have hsa := sa_is fe k q hq2
                obtain ⟨sa, hsa2⟩ : ∃ x, x = Tm.sA (Tm.adr fe) (4096 * (k : Int) + 128 * (q : Int)) := ⟨_, rfl⟩
                have KB := fun w' => HBL.out q hq2 w'
                have KW := fun w' (hl : Later w w') => HWD.out sa (by rw [hsa2]; exact hsb HE.out k q hk2 hq2) w' hl
                rw [hsa, ← hsa2] at KB
                rw [hsa2, hy, ← hsa2] at KW
                have HYE := Lib.hid hye
                have HH1 := Lib.hid fun w' => rhas_any y 1 w' ⟨hye.1, by have := hye.2; omega⟩ (by omega)
                have HH64 := Lib.hid fun w' => rhas_any y 64 w' ⟨hye.1, by have := hye.2; omega⟩ (by omega)
                have HAy := Lib.hid fun w' => raddress_any y w' ⟨hye.1, by have := hye.2; omega⟩
                have hpa := Tm.adr_e hye
                obtain ⟨p, hp⟩ : ∃ p, p = Tm.adr y := ⟨_, rfl⟩
                rw [← hp] at HAy hpa
                have hpa0 : 0 ≤ p := hpa.1
                have hpa1 : p < 4294967296 := hpa.2
                have HPy := Lib.hid fun w' => rpage_any A n c p w' h1.2 ⟨hpa0, by omega⟩
                have HPP := Lib.hid hp
                have hpm : Tm.adr y % 4294967296 = p := by rw [← hp]; omega
                have wp : IntKind.u32.wrap p = p := by rw [IntKind.wrap_u32]; omega
                have my : y.tmod 128 = y % 128 := Int.tmod_eq_emod_of_nonneg hye.1
                have x1 : IntKind.i64.wrap (128 * (q : Int)) = 128 * (q : Int) := by rw [IntKind.wrap_i64]; omega
                have x2 : IntKind.i64.wrap (4096 * (k : Int) + 128 * (q : Int)) = 4096 * (k : Int) + 128 * (q : Int) := by rw [IntKind.wrap_i64]; omega
                have x3 : IntKind.u32.wrap (4096 * (k : Int) + 128 * (q : Int)) = 4096 * (k : Int) + 128 * (q : Int) := by rw [IntKind.wrap_u32]; omega
                have hil := Tm.inTo_len n b fe (4096 * (k : Int)) q
                have hlt : (LO ++ Tm.inTo n b fe (4096 * (k : Int)) q).length ≤ 2000 := by rw [List.length_append]; omega
                clear hsa hsa2 hy hp hpa hye hil
                cases hb1 : Tm.has y 1 with
                | false =>
                  rw [hb1] at HH1 HSN
                  clear hb1
                  go_wp2
                  replace hor := own_drew hor
                  replace hz3 := le_drew hz3
                  replace b2 := b2.drew
                  replace b7 := b7.drew
                  replace lr := lr.drew
                  refine wp_region_held_drew (S := fun w' => w'.cell? ⟨w.heap.size, 0, none⟩ = some (.slice A n c) ∧ w'.cell? ⟨g7, 0, none⟩ = some (.int .i64 fa) ∧ w'.cell? ⟨g7, 1, none⟩ = some (.int .i64 fe) ∧ w'.cell? ⟨g7, 2, none⟩ = some (.bool true) ∧ w'.cell? ⟨g7, 3, none⟩ = some (.bool true) ∧ w'.cell? ⟨g7, 4, none⟩ = some (.bool false)) (by kernel_rfl) ⟨b2.cell (j := 0) rfl, b7.cell (j := 0) rfl, b7.cell (j := 1) rfl, b7.cell (j := 2) rfl, b7.cell (j := 3) rfl, b7.cell (j := 4) rfl⟩ (fun hHeld => ?_)
                  refine wpAnyH_take (i := 0) (oi := ⟨some 63, .load 29 (.tmp 2), _, _, _, none⟩) (v := .agg #[.slice A n c]) rfl (by kernel_rfl) (by kernel_rfl) (by kernel_rfl) (fun _ _ _ h => h) (Or.inl ⟨by rfl, fun w hSw => by have e1 := hSw.1; clear hSw; go_simp⟩) hHeld ?_
                  simp only [Act.put, List.setIfInBounds_toArray, List.set_cons_zero, List.set_cons_succ]
                  refine wpAnyH_take (i := 1) (oi := ⟨some 64, .load 134 (.tmp 7), _, _, _, none⟩) (v := .agg #[.int .i64 fa, .int .i64 fe, .bool true, .bool true, .bool false]) rfl (by kernel_rfl) (by kernel_rfl) (by kernel_rfl) (fun _ _ _ h => h) (Or.inl ⟨by rfl, fun w hSw => by obtain ⟨_, e0, e1, e2, e3, e4⟩ := hSw; go_simp⟩) hHeld ?_
                  simp only [Act.put, List.setIfInBounds_toArray, List.set_cons_zero, List.set_cons_succ]
                  refine wpAnyH_take (i := 2) (oi := ⟨some 65, .move (.tmp 8), _, _, _, none⟩) (v := .int .i64 (q : Int)) rfl (by kernel_rfl) (by kernel_rfl) (by kernel_rfl) (fun _ _ _ h => h) (Or.inl ⟨by rfl, fun _ _ => rfl⟩) hHeld ?_
                  simp only [Act.put, List.setIfInBounds_toArray, List.set_cons_zero, List.set_cons_succ]
                  refine wpAnyH_take (i := 3) (oi := ⟨some 66, .binOp .mul 3 (.const (.int .i64 128)) (.tmp 65) 3, _, _, _, none⟩) (v := .int .i64 (128 * (q : Int))) rfl (by kernel_rfl) (by kernel_rfl) (by kernel_rfl) (fun _ _ _ h => h) (Or.inl ⟨by rfl, fun w _ => by go_simp⟩) hHeld ?_
                  simp only [Act.put, List.setIfInBounds_toArray, List.set_cons_zero, List.set_cons_succ]
                  refine wpAnyH_ready (rs := [4]) (by kernel_rfl) (by simp) (AllReadyH.cons (o := ⟨some 67, .call { callee := .value (.func 65), args := #[.tmp 64, .tmp 66], argTypes := #[134, 3] }, _, _, _, none⟩) rfl (fun K' hK => ?_) (AllReadyH.nil))
                  go_simp
                  refine (KB _).mono ?_
                  rintro e w4 ⟨rfl, l4⟩
                  replace hor := own_below hor l4
                  replace b2 := b2.keep l4
                  replace b7 := b7.keep l4
                  have hzq := l4.size
                  replace hz3 : w.heap.size + 1 ≤ _ := Nat.le_trans hz3 hzq
                  clear hzq
                  replace lr := Later.trans_ lr l4
                  refine hK.out _ _ ⟨b2.cell (j := 0) rfl, b7.cell (j := 0) rfl, b7.cell (j := 1) rfl, b7.cell (j := 2) rfl, b7.cell (j := 3) rfl, b7.cell (j := 4) rfl⟩ (fun hHeld => ?_)
                  clear hK K'
                  try simp only [Act.put, List.setIfInBounds_toArray, List.set_cons_zero, List.set_cons_succ]
                  refine wpAnyH_ready (rs := [5]) (by kernel_rfl) (by simp) (AllReadyH.cons (o := ⟨some 68, .call { callee := .value (.func 64), args := #[.tmp 63, .tmp 67], argTypes := #[29, 3] }, _, _, _, none⟩) rfl (fun K' hK => ?_) (AllReadyH.nil))
                  go_simp
                  refine (KW _ lr).mono ?_
                  rintro e w5 ⟨rfl, l5⟩
                  replace hor := own_below hor l5
                  replace b2 := b2.keep l5
                  replace b7 := b7.keep l5
                  have hzq := l5.size
                  replace hz3 : w.heap.size + 1 ≤ _ := Nat.le_trans hz3 hzq
                  clear hzq
                  replace lr := Later.trans_ lr l5
                  refine hK.out _ _ ⟨b2.cell (j := 0) rfl, b7.cell (j := 0) rfl, b7.cell (j := 1) rfl, b7.cell (j := 2) rfl, b7.cell (j := 3) rfl, b7.cell (j := 4) rfl⟩ (fun hHeld => ?_)
                  clear hK K'
                  try simp only [Act.put, List.setIfInBounds_toArray, List.set_cons_zero, List.set_cons_succ]
                  refine wpAnyH_take (i := 6) (oi := ⟨some 9, .assign (.tmp 68), _, _, _, none⟩) (v := .int .i64 y) rfl (by kernel_rfl) (by kernel_rfl) (by kernel_rfl) (fun _ _ _ h => h) (Or.inl ⟨by rfl, fun _ _ => rfl⟩) hHeld ?_
                  simp only [Act.put, List.setIfInBounds_toArray, List.set_cons_zero, List.set_cons_succ]
                  refine wpAnyH_done (by kernel_rfl) ?_ _
                  clear hHeld
                  go_wp2
                  replace hor := own_drew hor
                  replace hz3 := le_drew hz3
                  replace b2 := b2.drew
                  replace b7 := b7.drew
                  replace lr := lr.drew
                  refine wp_region_held_drew (S := fun w' => w'.cell? ⟨w.heap.size, 0, none⟩ = some (.slice A n c)) (by kernel_rfl) (b2.cell (j := 0) rfl) (fun hHeld => ?_)
                  refine wpAnyH_take (i := 0) (oi := ⟨some 69, .move (.tmp 9), _, _, _, none⟩) (v := .int .i64 y) rfl (by kernel_rfl) (by kernel_rfl) (by kernel_rfl) (fun _ _ _ h => h) (Or.inl ⟨by rfl, fun _ _ => rfl⟩) hHeld ?_
                  simp only [Act.put, List.setIfInBounds_toArray, List.set_cons_zero, List.set_cons_succ]
                  refine wpAnyH_ready (rs := [1]) (by kernel_rfl) (by simp) (AllReadyH.cons (o := ⟨some 70, .call { callee := .value (.func 66), args := #[.tmp 69, .const (.int .i64 1)], argTypes := #[3, 3] }, _, _, _, none⟩) rfl (fun K' hK => ?_) (AllReadyH.nil))
                  go_simp
                  refine (HH1.out _).mono ?_
                  rintro e wh ⟨rfl, rfl⟩
                  refine hK.out _ _ (b2.cell (j := 0) rfl) (fun hHeld => ?_)
                  clear hK K'
                  try simp only [Act.put, List.setIfInBounds_toArray, List.set_cons_zero, List.set_cons_succ]
                  refine wpAnyH_take (i := 2) (oi := ⟨some 71, .move (.tmp 70), _, _, _, none⟩) (v := .bool false) rfl (by kernel_rfl) (by kernel_rfl) (by kernel_rfl) (fun _ _ _ h => h) (Or.inl ⟨by rfl, fun _ _ => rfl⟩) hHeld ?_
                  simp only [Act.put, List.setIfInBounds_toArray, List.set_cons_zero, List.set_cons_succ]
                  refine wpAnyH_take (i := 3) (oi := ⟨some 72, .move (.tmp 9), _, _, _, _⟩) (v := undef) rfl (by kernel_rfl) (by kernel_rfl) (by kernel_rfl) (fun _ _ _ h => h) (Or.inr ⟨by rfl, rfl⟩) hHeld ?_
                  simp only [Act.put, List.setIfInBounds_toArray, List.set_cons_zero, List.set_cons_succ]
                  refine wpAnyH_take (i := 4) (oi := ⟨some 73, .call { callee := .value (.func 66), args := #[.tmp 72, .const (.int .i64 64)], argTypes := #[3, 3] }, _, _, _, _⟩) (v := undef) rfl (by kernel_rfl) (by kernel_rfl) (by kernel_rfl) (fun _ _ _ h => h) (Or.inr ⟨by rfl, rfl⟩) hHeld ?_
                  simp only [Act.put, List.setIfInBounds_toArray, List.set_cons_zero, List.set_cons_succ]
                  refine wpAnyH_take (i := 5) (oi := ⟨some 74, .unOp .not 4 (.tmp 73), _, _, _, _⟩) (v := undef) rfl (by kernel_rfl) (by kernel_rfl) (by kernel_rfl) (fun _ _ _ h => h) (Or.inr ⟨by rfl, rfl⟩) hHeld ?_
                  simp only [Act.put, List.setIfInBounds_toArray, List.set_cons_zero, List.set_cons_succ]
                  refine wpAnyH_take (i := 6) (oi := ⟨some 75, .pick (.tmp 71) (.tmp 74) (.const (.bool false)), _, _, _, none⟩) (v := .bool false) rfl (by kernel_rfl) (by kernel_rfl) (by kernel_rfl) (fun _ _ _ h => h) (Or.inl ⟨by rfl, fun w _ => by go_simp⟩) hHeld ?_
                  simp only [Act.put, List.setIfInBounds_toArray, List.set_cons_zero, List.set_cons_succ]
                  refine wpAnyH_take (i := 7) (oi := ⟨some 76, .move (.tmp 75), _, _, _, none⟩) (v := .bool false) rfl (by kernel_rfl) (by kernel_rfl) (by kernel_rfl) (fun _ _ _ h => h) (Or.inl ⟨by rfl, fun _ _ => rfl⟩) hHeld ?_
                  simp only [Act.put, List.setIfInBounds_toArray, List.set_cons_zero, List.set_cons_succ]
                  refine wpAnyH_take (i := 8) (oi := ⟨some 77, .load 29 (.tmp 2), _, _, _, _⟩) (v := undef) rfl (by kernel_rfl) (by kernel_rfl) (by kernel_rfl) (fun _ _ _ h => h) (Or.inr ⟨by rfl, rfl⟩) hHeld ?_
                  simp only [Act.put, List.setIfInBounds_toArray, List.set_cons_zero, List.set_cons_succ]
                  refine wpAnyH_take (i := 9) (oi := ⟨some 78, .move (.tmp 9), _, _, _, _⟩) (v := undef) rfl (by kernel_rfl) (by kernel_rfl) (by kernel_rfl) (fun _ _ _ h => h) (Or.inr ⟨by rfl, rfl⟩) hHeld ?_
                  simp only [Act.put, List.setIfInBounds_toArray, List.set_cons_zero, List.set_cons_succ]
                  refine wpAnyH_take (i := 10) (oi := ⟨some 79, .call { callee := .value (.func 63), args := #[.tmp 78], argTypes := #[3] }, _, _, _, _⟩) (v := undef) rfl (by kernel_rfl) (by kernel_rfl) (by kernel_rfl) (fun _ _ _ h => h) (Or.inr ⟨by rfl, rfl⟩) hHeld ?_
                  simp only [Act.put, List.setIfInBounds_toArray, List.set_cons_zero, List.set_cons_succ]
                  refine wpAnyH_take (i := 11) (oi := ⟨some 80, .call { callee := .value (.func 61), args := #[.tmp 77, .tmp 79], argTypes := #[29, 3] }, _, _, _, _⟩) (v := undef) rfl (by kernel_rfl) (by kernel_rfl) (by kernel_rfl) (fun _ _ _ h => h) (Or.inr ⟨by rfl, rfl⟩) hHeld ?_
                  simp only [Act.put, List.setIfInBounds_toArray, List.set_cons_zero, List.set_cons_succ]
                  refine wpAnyH_take (i := 12) (oi := ⟨some 81, .pick (.tmp 76) (.tmp 80) (.const (.bool false)), _, _, _, none⟩) (v := .bool false) rfl (by kernel_rfl) (by kernel_rfl) (by kernel_rfl) (fun _ _ _ h => h) (Or.inl ⟨by rfl, fun w _ => by go_simp⟩) hHeld ?_
                  simp only [Act.put, List.setIfInBounds_toArray, List.set_cons_zero, List.set_cons_succ]
                  refine wpAnyH_done (by kernel_rfl) ?_ _
                  clear hHeld
                  go_wp2
                  go_roundw
                  case rel => exact ⟨q + 1, by omega, by go_num, by rw [Tm.inTo_succ, HSN.out, Bool.false_and, if_neg (by decide)]; simpa using hor, hz3, b2, b7, lr⟩
                  case measure => simp [intOf]; omega
                | true =>
                  rw [hb1] at HH1 HSN
                  cases hb64 : Tm.has y 64 with
                  | true =>
                    rw [hb64] at HH64 HSN
                    clear hb1 hb64
                    go_wp2
                    replace hor := own_drew hor
                    replace hz3 := le_drew hz3
                    replace b2 := b2.drew
                    replace b7 := b7.drew
                    replace lr := lr.drew
                    refine wp_region_held_drew (S := fun w' => w'.cell? ⟨w.heap.size, 0, none⟩ = some (.slice A n c) ∧ w'.cell? ⟨g7, 0, none⟩ = some (.int .i64 fa) ∧ w'.cell? ⟨g7, 1, none⟩ = some (.int .i64 fe) ∧ w'.cell? ⟨g7, 2, none⟩ = some (.bool true) ∧ w'.cell? ⟨g7, 3, none⟩ = some (.bool true) ∧ w'.cell? ⟨g7, 4, none⟩ = some (.bool false)) (by kernel_rfl) ⟨b2.cell (j := 0) rfl, b7.cell (j := 0) rfl, b7.cell (j := 1) rfl, b7.cell (j := 2) rfl, b7.cell (j := 3) rfl, b7.cell (j := 4) rfl⟩ (fun hHeld => ?_)
                    refine wpAnyH_take (i := 0) (oi := ⟨some 63, .load 29 (.tmp 2), _, _, _, none⟩) (v := .agg #[.slice A n c]) rfl (by kernel_rfl) (by kernel_rfl) (by kernel_rfl) (fun _ _ _ h => h) (Or.inl ⟨by rfl, fun w hSw => by have e1 := hSw.1; clear hSw; go_simp⟩) hHeld ?_
                    simp only [Act.put, List.setIfInBounds_toArray, List.set_cons_zero, List.set_cons_succ]
                    refine wpAnyH_take (i := 1) (oi := ⟨some 64, .load 134 (.tmp 7), _, _, _, none⟩) (v := .agg #[.int .i64 fa, .int .i64 fe, .bool true, .bool true, .bool false]) rfl (by kernel_rfl) (by kernel_rfl) (by kernel_rfl) (fun _ _ _ h => h) (Or.inl ⟨by rfl, fun w hSw => by obtain ⟨_, e0, e1, e2, e3, e4⟩ := hSw; go_simp⟩) hHeld ?_
                    simp only [Act.put, List.setIfInBounds_toArray, List.set_cons_zero, List.set_cons_succ]
                    refine wpAnyH_take (i := 2) (oi := ⟨some 65, .move (.tmp 8), _, _, _, none⟩) (v := .int .i64 (q : Int)) rfl (by kernel_rfl) (by kernel_rfl) (by kernel_rfl) (fun _ _ _ h => h) (Or.inl ⟨by rfl, fun _ _ => rfl⟩) hHeld ?_
                    simp only [Act.put, List.setIfInBounds_toArray, List.set_cons_zero, List.set_cons_succ]
                    refine wpAnyH_take (i := 3) (oi := ⟨some 66, .binOp .mul 3 (.const (.int .i64 128)) (.tmp 65) 3, _, _, _, none⟩) (v := .int .i64 (128 * (q : Int))) rfl (by kernel_rfl) (by kernel_rfl) (by kernel_rfl) (fun _ _ _ h => h) (Or.inl ⟨by rfl, fun w _ => by go_simp⟩) hHeld ?_
                    simp only [Act.put, List.setIfInBounds_toArray, List.set_cons_zero, List.set_cons_succ]
                    refine wpAnyH_ready (rs := [4]) (by kernel_rfl) (by simp) (AllReadyH.cons (o := ⟨some 67, .call { callee := .value (.func 65), args := #[.tmp 64, .tmp 66], argTypes := #[134, 3] }, _, _, _, none⟩) rfl (fun K' hK => ?_) (AllReadyH.nil))
                    go_simp
                    refine (KB _).mono ?_
                    rintro e w4 ⟨rfl, l4⟩
                    replace hor := own_below hor l4
                    replace b2 := b2.keep l4
                    replace b7 := b7.keep l4
                    have hzq := l4.size
                    replace hz3 : w.heap.size + 1 ≤ _ := Nat.le_trans hz3 hzq
                    clear hzq
                    replace lr := Later.trans_ lr l4
                    refine hK.out _ _ ⟨b2.cell (j := 0) rfl, b7.cell (j := 0) rfl, b7.cell (j := 1) rfl, b7.cell (j := 2) rfl, b7.cell (j := 3) rfl, b7.cell (j := 4) rfl⟩ (fun hHeld => ?_)
                    clear hK K'
                    try simp only [Act.put, List.setIfInBounds_toArray, List.set_cons_zero, List.set_cons_succ]
                    refine wpAnyH_ready (rs := [5]) (by kernel_rfl) (by simp) (AllReadyH.cons (o := ⟨some 68, .call { callee := .value (.func 64), args := #[.tmp 63, .tmp 67], argTypes := #[29, 3] }, _, _, _, none⟩) rfl (fun K' hK => ?_) (AllReadyH.nil))
                    go_simp
                    refine (KW _ lr).mono ?_
                    rintro e w5 ⟨rfl, l5⟩
                    replace hor := own_below hor l5
                    replace b2 := b2.keep l5
                    replace b7 := b7.keep l5
                    have hzq := l5.size
                    replace hz3 : w.heap.size + 1 ≤ _ := Nat.le_trans hz3 hzq
                    clear hzq
                    replace lr := Later.trans_ lr l5
                    refine hK.out _ _ ⟨b2.cell (j := 0) rfl, b7.cell (j := 0) rfl, b7.cell (j := 1) rfl, b7.cell (j := 2) rfl, b7.cell (j := 3) rfl, b7.cell (j := 4) rfl⟩ (fun hHeld => ?_)
                    clear hK K'
                    try simp only [Act.put, List.setIfInBounds_toArray, List.set_cons_zero, List.set_cons_succ]
                    refine wpAnyH_take (i := 6) (oi := ⟨some 9, .assign (.tmp 68), _, _, _, none⟩) (v := .int .i64 y) rfl (by kernel_rfl) (by kernel_rfl) (by kernel_rfl) (fun _ _ _ h => h) (Or.inl ⟨by rfl, fun _ _ => rfl⟩) hHeld ?_
                    simp only [Act.put, List.setIfInBounds_toArray, List.set_cons_zero, List.set_cons_succ]
                    refine wpAnyH_done (by kernel_rfl) ?_ _
                    clear hHeld
                    go_wp2
                    replace hor := own_drew hor
                    replace hz3 := le_drew hz3
                    replace b2 := b2.drew
                    replace b7 := b7.drew
                    replace lr := lr.drew
                    refine wp_region_held_drew (S := fun w' => w'.cell? ⟨w.heap.size, 0, none⟩ = some (.slice A n c)) (by kernel_rfl) (b2.cell (j := 0) rfl) (fun hHeld => ?_)
                    refine wpAnyH_take (i := 0) (oi := ⟨some 69, .move (.tmp 9), _, _, _, none⟩) (v := .int .i64 y) rfl (by kernel_rfl) (by kernel_rfl) (by kernel_rfl) (fun _ _ _ h => h) (Or.inl ⟨by rfl, fun _ _ => rfl⟩) hHeld ?_
                    simp only [Act.put, List.setIfInBounds_toArray, List.set_cons_zero, List.set_cons_succ]
                    refine wpAnyH_ready (rs := [1]) (by kernel_rfl) (by simp) (AllReadyH.cons (o := ⟨some 70, .call { callee := .value (.func 66), args := #[.tmp 69, .const (.int .i64 1)], argTypes := #[3, 3] }, _, _, _, none⟩) rfl (fun K' hK => ?_) (AllReadyH.nil))
                    go_simp
                    refine (HH1.out _).mono ?_
                    rintro e wh ⟨rfl, rfl⟩
                    refine hK.out _ _ (b2.cell (j := 0) rfl) (fun hHeld => ?_)
                    clear hK K'
                    try simp only [Act.put, List.setIfInBounds_toArray, List.set_cons_zero, List.set_cons_succ]
                    refine wpAnyH_take (i := 2) (oi := ⟨some 71, .move (.tmp 70), _, _, _, none⟩) (v := .bool true) rfl (by kernel_rfl) (by kernel_rfl) (by kernel_rfl) (fun _ _ _ h => h) (Or.inl ⟨by rfl, fun _ _ => rfl⟩) hHeld ?_
                    simp only [Act.put, List.setIfInBounds_toArray, List.set_cons_zero, List.set_cons_succ]
                    refine wpAnyH_take (i := 3) (oi := ⟨some 72, .move (.tmp 9), _, _, _, _⟩) (v := .int .i64 y) rfl (by kernel_rfl) (by kernel_rfl) (by kernel_rfl) (fun _ _ _ h => h) (Or.inl ⟨by rfl, fun _ _ => rfl⟩) hHeld ?_
                    simp only [Act.put, List.setIfInBounds_toArray, List.set_cons_zero, List.set_cons_succ]
                    refine wpAnyH_ready (rs := [4]) (by kernel_rfl) (by simp) (AllReadyH.cons (o := ⟨some 73, .call { callee := .value (.func 66), args := #[.tmp 72, .const (.int .i64 64)], argTypes := #[3, 3] }, _, _, _, _⟩) rfl (fun K' hK => ?_) (AllReadyH.nil))
                    go_simp
                    refine (HH64.out _).mono ?_
                    rintro e wh ⟨rfl, rfl⟩
                    refine hK.out _ _ (b2.cell (j := 0) rfl) (fun hHeld => ?_)
                    clear hK K'
                    try simp only [Act.put, List.setIfInBounds_toArray, List.set_cons_zero, List.set_cons_succ]
                    refine wpAnyH_take (i := 5) (oi := ⟨some 74, .unOp .not 4 (.tmp 73), _, _, _, _⟩) (v := .bool false) rfl (by kernel_rfl) (by kernel_rfl) (by kernel_rfl) (fun _ _ _ h => h) (Or.inl ⟨by rfl, fun w _ => by go_simp⟩) hHeld ?_
                    simp only [Act.put, List.setIfInBounds_toArray, List.set_cons_zero, List.set_cons_succ]
                    refine wpAnyH_take (i := 6) (oi := ⟨some 75, .pick (.tmp 71) (.tmp 74) (.const (.bool false)), _, _, _, none⟩) (v := .bool false) rfl (by kernel_rfl) (by kernel_rfl) (by kernel_rfl) (fun _ _ _ h => h) (Or.inl ⟨by rfl, fun w _ => by go_simp⟩) hHeld ?_
                    simp only [Act.put, List.setIfInBounds_toArray, List.set_cons_zero, List.set_cons_succ]
                    refine wpAnyH_take (i := 7) (oi := ⟨some 76, .move (.tmp 75), _, _, _, none⟩) (v := .bool false) rfl (by kernel_rfl) (by kernel_rfl) (by kernel_rfl) (fun _ _ _ h => h) (Or.inl ⟨by rfl, fun _ _ => rfl⟩) hHeld ?_
                    simp only [Act.put, List.setIfInBounds_toArray, List.set_cons_zero, List.set_cons_succ]
                    refine wpAnyH_take (i := 8) (oi := ⟨some 77, .load 29 (.tmp 2), _, _, _, _⟩) (v := undef) rfl (by kernel_rfl) (by kernel_rfl) (by kernel_rfl) (fun _ _ _ h => h) (Or.inr ⟨by rfl, rfl⟩) hHeld ?_
                    simp only [Act.put, List.setIfInBounds_toArray, List.set_cons_zero, List.set_cons_succ]
                    refine wpAnyH_take (i := 9) (oi := ⟨some 78, .move (.tmp 9), _, _, _, _⟩) (v := undef) rfl (by kernel_rfl) (by kernel_rfl) (by kernel_rfl) (fun _ _ _ h => h) (Or.inr ⟨by rfl, rfl⟩) hHeld ?_
                    simp only [Act.put, List.setIfInBounds_toArray, List.set_cons_zero, List.set_cons_succ]
                    refine wpAnyH_take (i := 10) (oi := ⟨some 79, .call { callee := .value (.func 63), args := #[.tmp 78], argTypes := #[3] }, _, _, _, _⟩) (v := undef) rfl (by kernel_rfl) (by kernel_rfl) (by kernel_rfl) (fun _ _ _ h => h) (Or.inr ⟨by rfl, rfl⟩) hHeld ?_
                    simp only [Act.put, List.setIfInBounds_toArray, List.set_cons_zero, List.set_cons_succ]
                    refine wpAnyH_take (i := 11) (oi := ⟨some 80, .call { callee := .value (.func 61), args := #[.tmp 77, .tmp 79], argTypes := #[29, 3] }, _, _, _, _⟩) (v := undef) rfl (by kernel_rfl) (by kernel_rfl) (by kernel_rfl) (fun _ _ _ h => h) (Or.inr ⟨by rfl, rfl⟩) hHeld ?_
                    simp only [Act.put, List.setIfInBounds_toArray, List.set_cons_zero, List.set_cons_succ]
                    refine wpAnyH_take (i := 12) (oi := ⟨some 81, .pick (.tmp 76) (.tmp 80) (.const (.bool false)), _, _, _, none⟩) (v := .bool false) rfl (by kernel_rfl) (by kernel_rfl) (by kernel_rfl) (fun _ _ _ h => h) (Or.inl ⟨by rfl, fun w _ => by go_simp⟩) hHeld ?_
                    simp only [Act.put, List.setIfInBounds_toArray, List.set_cons_zero, List.set_cons_succ]
                    refine wpAnyH_done (by kernel_rfl) ?_ _
                    clear hHeld
                    go_wp2
                    go_roundw
                    case rel => exact ⟨q + 1, by omega, by go_num, by rw [Tm.inTo_succ, HSN.out, Bool.not_true, Bool.and_false, if_neg (by decide)]; simpa using hor, hz3, b2, b7, lr⟩
                    case measure => simp [intOf]; omega
                  | false =>
                    rw [hb64] at HH64 HSN
                    have HSP := Lib.hid (filter_mk n (4096 * (k : Int) + 128 * (q : Int)) y)
                    rw [hpm] at HSP
                    cases hbp : Tm.pageB n p with
                    | false =>
                      rw [hbp] at HPy HSP
                      clear hb1 hb64 hbp hpm
                      go_wp2
                      replace hor := own_drew hor
                      replace hz3 := le_drew hz3
                      replace b2 := b2.drew
                      replace b7 := b7.drew
                      replace lr := lr.drew
                      refine wp_region_held_drew (S := fun w' => w'.cell? ⟨w.heap.size, 0, none⟩ = some (.slice A n c) ∧ w'.cell? ⟨g7, 0, none⟩ = some (.int .i64 fa) ∧ w'.cell? ⟨g7, 1, none⟩ = some (.int .i64 fe) ∧ w'.cell? ⟨g7, 2, none⟩ = some (.bool true) ∧ w'.cell? ⟨g7, 3, none⟩ = some (.bool true) ∧ w'.cell? ⟨g7, 4, none⟩ = some (.bool false)) (by kernel_rfl) ⟨b2.cell (j := 0) rfl, b7.cell (j := 0) rfl, b7.cell (j := 1) rfl, b7.cell (j := 2) rfl, b7.cell (j := 3) rfl, b7.cell (j := 4) rfl⟩ (fun hHeld => ?_)
                      refine wpAnyH_take (i := 0) (oi := ⟨some 63, .load 29 (.tmp 2), _, _, _, none⟩) (v := .agg #[.slice A n c]) rfl (by kernel_rfl) (by kernel_rfl) (by kernel_rfl) (fun _ _ _ h => h) (Or.inl ⟨by rfl, fun w hSw => by have e1 := hSw.1; clear hSw; go_simp⟩) hHeld ?_
                      simp only [Act.put, List.setIfInBounds_toArray, List.set_cons_zero, List.set_cons_succ]
                      refine wpAnyH_take (i := 1) (oi := ⟨some 64, .load 134 (.tmp 7), _, _, _, none⟩) (v := .agg #[.int .i64 fa, .int .i64 fe, .bool true, .bool true, .bool false]) rfl (by kernel_rfl) (by kernel_rfl) (by kernel_rfl) (fun _ _ _ h => h) (Or.inl ⟨by rfl, fun w hSw => by obtain ⟨_, e0, e1, e2, e3, e4⟩ := hSw; go_simp⟩) hHeld ?_
                      simp only [Act.put, List.setIfInBounds_toArray, List.set_cons_zero, List.set_cons_succ]
                      refine wpAnyH_take (i := 2) (oi := ⟨some 65, .move (.tmp 8), _, _, _, none⟩) (v := .int .i64 (q : Int)) rfl (by kernel_rfl) (by kernel_rfl) (by kernel_rfl) (fun _ _ _ h => h) (Or.inl ⟨by rfl, fun _ _ => rfl⟩) hHeld ?_
                      simp only [Act.put, List.setIfInBounds_toArray, List.set_cons_zero, List.set_cons_succ]
                      refine wpAnyH_take (i := 3) (oi := ⟨some 66, .binOp .mul 3 (.const (.int .i64 128)) (.tmp 65) 3, _, _, _, none⟩) (v := .int .i64 (128 * (q : Int))) rfl (by kernel_rfl) (by kernel_rfl) (by kernel_rfl) (fun _ _ _ h => h) (Or.inl ⟨by rfl, fun w _ => by go_simp⟩) hHeld ?_
                      simp only [Act.put, List.setIfInBounds_toArray, List.set_cons_zero, List.set_cons_succ]
                      refine wpAnyH_ready (rs := [4]) (by kernel_rfl) (by simp) (AllReadyH.cons (o := ⟨some 67, .call { callee := .value (.func 65), args := #[.tmp 64, .tmp 66], argTypes := #[134, 3] }, _, _, _, none⟩) rfl (fun K' hK => ?_) (AllReadyH.nil))
                      go_simp
                      refine (KB _).mono ?_
                      rintro e w4 ⟨rfl, l4⟩
                      replace hor := own_below hor l4
                      replace b2 := b2.keep l4
                      replace b7 := b7.keep l4
                      have hzq := l4.size
                      replace hz3 : w.heap.size + 1 ≤ _ := Nat.le_trans hz3 hzq
                      clear hzq
                      replace lr := Later.trans_ lr l4
                      refine hK.out _ _ ⟨b2.cell (j := 0) rfl, b7.cell (j := 0) rfl, b7.cell (j := 1) rfl, b7.cell (j := 2) rfl, b7.cell (j := 3) rfl, b7.cell (j := 4) rfl⟩ (fun hHeld => ?_)
                      clear hK K'
                      try simp only [Act.put, List.setIfInBounds_toArray, List.set_cons_zero, List.set_cons_succ]
                      refine wpAnyH_ready (rs := [5]) (by kernel_rfl) (by simp) (AllReadyH.cons (o := ⟨some 68, .call { callee := .value (.func 64), args := #[.tmp 63, .tmp 67], argTypes := #[29, 3] }, _, _, _, none⟩) rfl (fun K' hK => ?_) (AllReadyH.nil))
                      go_simp
                      refine (KW _ lr).mono ?_
                      rintro e w5 ⟨rfl, l5⟩
                      replace hor := own_below hor l5
                      replace b2 := b2.keep l5
                      replace b7 := b7.keep l5
                      have hzq := l5.size
                      replace hz3 : w.heap.size + 1 ≤ _ := Nat.le_trans hz3 hzq
                      clear hzq
                      replace lr := Later.trans_ lr l5
                      refine hK.out _ _ ⟨b2.cell (j := 0) rfl, b7.cell (j := 0) rfl, b7.cell (j := 1) rfl, b7.cell (j := 2) rfl, b7.cell (j := 3) rfl, b7.cell (j := 4) rfl⟩ (fun hHeld => ?_)
                      clear hK K'
                      try simp only [Act.put, List.setIfInBounds_toArray, List.set_cons_zero, List.set_cons_succ]
                      refine wpAnyH_take (i := 6) (oi := ⟨some 9, .assign (.tmp 68), _, _, _, none⟩) (v := .int .i64 y) rfl (by kernel_rfl) (by kernel_rfl) (by kernel_rfl) (fun _ _ _ h => h) (Or.inl ⟨by rfl, fun _ _ => rfl⟩) hHeld ?_
                      simp only [Act.put, List.setIfInBounds_toArray, List.set_cons_zero, List.set_cons_succ]
                      refine wpAnyH_done (by kernel_rfl) ?_ _
                      clear hHeld
                      go_wp2
                      replace hor := own_drew hor
                      replace hz3 := le_drew hz3
                      replace b2 := b2.drew
                      replace b7 := b7.drew
                      replace lr := lr.drew
                      refine wp_region_held_drew (S := fun w' => w'.cell? ⟨w.heap.size, 0, none⟩ = some (.slice A n c)) (by kernel_rfl) (b2.cell (j := 0) rfl) (fun hHeld => ?_)
                      refine wpAnyH_take (i := 0) (oi := ⟨some 69, .move (.tmp 9), _, _, _, none⟩) (v := .int .i64 y) rfl (by kernel_rfl) (by kernel_rfl) (by kernel_rfl) (fun _ _ _ h => h) (Or.inl ⟨by rfl, fun _ _ => rfl⟩) hHeld ?_
                      simp only [Act.put, List.setIfInBounds_toArray, List.set_cons_zero, List.set_cons_succ]
                      refine wpAnyH_ready (rs := [1]) (by kernel_rfl) (by simp) (AllReadyH.cons (o := ⟨some 70, .call { callee := .value (.func 66), args := #[.tmp 69, .const (.int .i64 1)], argTypes := #[3, 3] }, _, _, _, none⟩) rfl (fun K' hK => ?_) (AllReadyH.nil))
                      go_simp
                      refine (HH1.out _).mono ?_
                      rintro e wh ⟨rfl, rfl⟩
                      refine hK.out _ _ (b2.cell (j := 0) rfl) (fun hHeld => ?_)
                      clear hK K'
                      try simp only [Act.put, List.setIfInBounds_toArray, List.set_cons_zero, List.set_cons_succ]
                      refine wpAnyH_take (i := 2) (oi := ⟨some 71, .move (.tmp 70), _, _, _, none⟩) (v := .bool true) rfl (by kernel_rfl) (by kernel_rfl) (by kernel_rfl) (fun _ _ _ h => h) (Or.inl ⟨by rfl, fun _ _ => rfl⟩) hHeld ?_
                      simp only [Act.put, List.setIfInBounds_toArray, List.set_cons_zero, List.set_cons_succ]
                      refine wpAnyH_take (i := 3) (oi := ⟨some 72, .move (.tmp 9), _, _, _, _⟩) (v := .int .i64 y) rfl (by kernel_rfl) (by kernel_rfl) (by kernel_rfl) (fun _ _ _ h => h) (Or.inl ⟨by rfl, fun _ _ => rfl⟩) hHeld ?_
                      simp only [Act.put, List.setIfInBounds_toArray, List.set_cons_zero, List.set_cons_succ]
                      refine wpAnyH_ready (rs := [4]) (by kernel_rfl) (by simp) (AllReadyH.cons (o := ⟨some 73, .call { callee := .value (.func 66), args := #[.tmp 72, .const (.int .i64 64)], argTypes := #[3, 3] }, _, _, _, _⟩) rfl (fun K' hK => ?_) (AllReadyH.nil))
                      go_simp
                      refine (HH64.out _).mono ?_
                      rintro e wh ⟨rfl, rfl⟩
                      refine hK.out _ _ (b2.cell (j := 0) rfl) (fun hHeld => ?_)
                      clear hK K'
                      try simp only [Act.put, List.setIfInBounds_toArray, List.set_cons_zero, List.set_cons_succ]
                      refine wpAnyH_take (i := 5) (oi := ⟨some 74, .unOp .not 4 (.tmp 73), _, _, _, _⟩) (v := .bool true) rfl (by kernel_rfl) (by kernel_rfl) (by kernel_rfl) (fun _ _ _ h => h) (Or.inl ⟨by rfl, fun w _ => by go_simp⟩) hHeld ?_
                      simp only [Act.put, List.setIfInBounds_toArray, List.set_cons_zero, List.set_cons_succ]
                      refine wpAnyH_take (i := 6) (oi := ⟨some 75, .pick (.tmp 71) (.tmp 74) (.const (.bool false)), _, _, _, none⟩) (v := .bool true) rfl (by kernel_rfl) (by kernel_rfl) (by kernel_rfl) (fun _ _ _ h => h) (Or.inl ⟨by rfl, fun w _ => by go_simp⟩) hHeld ?_
                      simp only [Act.put, List.setIfInBounds_toArray, List.set_cons_zero, List.set_cons_succ]
                      refine wpAnyH_take (i := 7) (oi := ⟨some 76, .move (.tmp 75), _, _, _, none⟩) (v := .bool true) rfl (by kernel_rfl) (by kernel_rfl) (by kernel_rfl) (fun _ _ _ h => h) (Or.inl ⟨by rfl, fun _ _ => rfl⟩) hHeld ?_
                      simp only [Act.put, List.setIfInBounds_toArray, List.set_cons_zero, List.set_cons_succ]
                      refine wpAnyH_take (i := 8) (oi := ⟨some 77, .load 29 (.tmp 2), _, _, _, _⟩) (v := .agg #[.slice A n c]) rfl (by kernel_rfl) (by kernel_rfl) (by kernel_rfl) (fun _ _ _ h => h) (Or.inl ⟨by rfl, fun w hSw => by have e1 := hSw; clear hSw; go_simp⟩) hHeld ?_
                      simp only [Act.put, List.setIfInBounds_toArray, List.set_cons_zero, List.set_cons_succ]
                      refine wpAnyH_take (i := 9) (oi := ⟨some 78, .move (.tmp 9), _, _, _, _⟩) (v := .int .i64 y) rfl (by kernel_rfl) (by kernel_rfl) (by kernel_rfl) (fun _ _ _ h => h) (Or.inl ⟨by rfl, fun _ _ => rfl⟩) hHeld ?_
                      simp only [Act.put, List.setIfInBounds_toArray, List.set_cons_zero, List.set_cons_succ]
                      refine wpAnyH_ready (rs := [10]) (by kernel_rfl) (by simp) (AllReadyH.cons (o := ⟨some 79, .call { callee := .value (.func 63), args := #[.tmp 78], argTypes := #[3] }, _, _, _, _⟩) rfl (fun K' hK => ?_) (AllReadyH.nil))
                      go_simp
                      refine (HAy.out _).mono ?_
                      rintro e wh ⟨rfl, rfl⟩
                      refine hK.out _ _ (b2.cell (j := 0) rfl) (fun hHeld => ?_)
                      clear hK K'
                      try simp only [Act.put, List.setIfInBounds_toArray, List.set_cons_zero, List.set_cons_succ]
                      refine wpAnyH_ready (rs := [11]) (by kernel_rfl) (by simp) (AllReadyH.cons (o := ⟨some 80, .call { callee := .value (.func 61), args := #[.tmp 77, .tmp 79], argTypes := #[29, 3] }, _, _, _, _⟩) rfl (fun K' hK => ?_) (AllReadyH.nil))
                      go_simp
                      refine (HPy.out _).mono ?_
                      rintro e w6 ⟨rfl, l6⟩
                      replace hor := own_below hor l6
                      replace b2 := b2.keep l6
                      replace b7 := b7.keep l6
                      have hzq := l6.size
                      replace hz3 : w.heap.size + 1 ≤ _ := Nat.le_trans hz3 hzq
                      clear hzq
                      replace lr := Later.trans_ lr l6
                      refine hK.out _ _ (b2.cell (j := 0) rfl) (fun hHeld => ?_)
                      clear hK K'
                      try simp only [Act.put, List.setIfInBounds_toArray, List.set_cons_zero, List.set_cons_succ]
                      refine wpAnyH_take (i := 12) (oi := ⟨some 81, .pick (.tmp 76) (.tmp 80) (.const (.bool false)), _, _, _, none⟩) (v := .bool false) rfl (by kernel_rfl) (by kernel_rfl) (by kernel_rfl) (fun _ _ _ h => h) (Or.inl ⟨by rfl, fun w _ => by go_simp⟩) hHeld ?_
                      simp only [Act.put, List.setIfInBounds_toArray, List.set_cons_zero, List.set_cons_succ]
                      refine wpAnyH_done (by kernel_rfl) ?_ _
                      clear hHeld
                      go_wp2
                      go_roundw
                      case rel => exact ⟨q + 1, by omega, by go_num, by rw [Tm.inTo_succ, HSN.out, Bool.not_false, Bool.and_true, if_pos rfl, HSP.out]; simpa using hor, hz3, b2, b7, lr⟩
                      case measure => simp [intOf]; omega
                    | true =>
                      rw [hbp] at HPy HSP
                      clear hb1 hb64 hbp hpm
                      go_wp2
                      replace hor := own_drew hor
                      replace hz3 := le_drew hz3
                      replace b2 := b2.drew
                      replace b7 := b7.drew
                      replace lr := lr.drew
                      refine wp_region_held_drew (S := fun w' => w'.cell? ⟨w.heap.size, 0, none⟩ = some (.slice A n c) ∧ w'.cell? ⟨g7, 0, none⟩ = some (.int .i64 fa) ∧ w'.cell? ⟨g7, 1, none⟩ = some (.int .i64 fe) ∧ w'.cell? ⟨g7, 2, none⟩ = some (.bool true) ∧ w'.cell? ⟨g7, 3, none⟩ = some (.bool true) ∧ w'.cell? ⟨g7, 4, none⟩ = some (.bool false)) (by kernel_rfl) ⟨b2.cell (j := 0) rfl, b7.cell (j := 0) rfl, b7.cell (j := 1) rfl, b7.cell (j := 2) rfl, b7.cell (j := 3) rfl, b7.cell (j := 4) rfl⟩ (fun hHeld => ?_)
                      refine wpAnyH_take (i := 0) (oi := ⟨some 63, .load 29 (.tmp 2), _, _, _, none⟩) (v := .agg #[.slice A n c]) rfl (by kernel_rfl) (by kernel_rfl) (by kernel_rfl) (fun _ _ _ h => h) (Or.inl ⟨by rfl, fun w hSw => by have e1 := hSw.1; clear hSw; go_simp⟩) hHeld ?_
                      simp only [Act.put, List.setIfInBounds_toArray, List.set_cons_zero, List.set_cons_succ]
                      refine wpAnyH_take (i := 1) (oi := ⟨some 64, .load 134 (.tmp 7), _, _, _, none⟩) (v := .agg #[.int .i64 fa, .int .i64 fe, .bool true, .bool true, .bool false]) rfl (by kernel_rfl) (by kernel_rfl) (by kernel_rfl) (fun _ _ _ h => h) (Or.inl ⟨by rfl, fun w hSw => by obtain ⟨_, e0, e1, e2, e3, e4⟩ := hSw; go_simp⟩) hHeld ?_
                      simp only [Act.put, List.setIfInBounds_toArray, List.set_cons_zero, List.set_cons_succ]
                      refine wpAnyH_take (i := 2) (oi := ⟨some 65, .move (.tmp 8), _, _, _, none⟩) (v := .int .i64 (q : Int)) rfl (by kernel_rfl) (by kernel_rfl) (by kernel_rfl) (fun _ _ _ h => h) (Or.inl ⟨by rfl, fun _ _ => rfl⟩) hHeld ?_
                      simp only [Act.put, List.setIfInBounds_toArray, List.set_cons_zero, List.set_cons_succ]
                      refine wpAnyH_take (i := 3) (oi := ⟨some 66, .binOp .mul 3 (.const (.int .i64 128)) (.tmp 65) 3, _, _, _, none⟩) (v := .int .i64 (128 * (q : Int))) rfl (by kernel_rfl) (by kernel_rfl) (by kernel_rfl) (fun _ _ _ h => h) (Or.inl ⟨by rfl, fun w _ => by go_simp⟩) hHeld ?_
                      simp only [Act.put, List.setIfInBounds_toArray, List.set_cons_zero, List.set_cons_succ]
                      refine wpAnyH_ready (rs := [4]) (by kernel_rfl) (by simp) (AllReadyH.cons (o := ⟨some 67, .call { callee := .value (.func 65), args := #[.tmp 64, .tmp 66], argTypes := #[134, 3] }, _, _, _, none⟩) rfl (fun K' hK => ?_) (AllReadyH.nil))
                      go_simp
                      refine (KB _).mono ?_
                      rintro e w4 ⟨rfl, l4⟩
                      replace hor := own_below hor l4
                      replace b2 := b2.keep l4
                      replace b7 := b7.keep l4
                      have hzq := l4.size
                      replace hz3 : w.heap.size + 1 ≤ _ := Nat.le_trans hz3 hzq
                      clear hzq
                      replace lr := Later.trans_ lr l4
                      refine hK.out _ _ ⟨b2.cell (j := 0) rfl, b7.cell (j := 0) rfl, b7.cell (j := 1) rfl, b7.cell (j := 2) rfl, b7.cell (j := 3) rfl, b7.cell (j := 4) rfl⟩ (fun hHeld => ?_)
                      clear hK K'
                      try simp only [Act.put, List.setIfInBounds_toArray, List.set_cons_zero, List.set_cons_succ]
                      refine wpAnyH_ready (rs := [5]) (by kernel_rfl) (by simp) (AllReadyH.cons (o := ⟨some 68, .call { callee := .value (.func 64), args := #[.tmp 63, .tmp 67], argTypes := #[29, 3] }, _, _, _, none⟩) rfl (fun K' hK => ?_) (AllReadyH.nil))
                      go_simp
                      refine (KW _ lr).mono ?_
                      rintro e w5 ⟨rfl, l5⟩
                      replace hor := own_below hor l5
                      replace b2 := b2.keep l5
                      replace b7 := b7.keep l5
                      have hzq := l5.size
                      replace hz3 : w.heap.size + 1 ≤ _ := Nat.le_trans hz3 hzq
                      clear hzq
                      replace lr := Later.trans_ lr l5
                      refine hK.out _ _ ⟨b2.cell (j := 0) rfl, b7.cell (j := 0) rfl, b7.cell (j := 1) rfl, b7.cell (j := 2) rfl, b7.cell (j := 3) rfl, b7.cell (j := 4) rfl⟩ (fun hHeld => ?_)
                      clear hK K'
                      try simp only [Act.put, List.setIfInBounds_toArray, List.set_cons_zero, List.set_cons_succ]
                      refine wpAnyH_take (i := 6) (oi := ⟨some 9, .assign (.tmp 68), _, _, _, none⟩) (v := .int .i64 y) rfl (by kernel_rfl) (by kernel_rfl) (by kernel_rfl) (fun _ _ _ h => h) (Or.inl ⟨by rfl, fun _ _ => rfl⟩) hHeld ?_
                      simp only [Act.put, List.setIfInBounds_toArray, List.set_cons_zero, List.set_cons_succ]
                      refine wpAnyH_done (by kernel_rfl) ?_ _
                      clear hHeld
                      go_wp2
                      replace hor := own_drew hor
                      replace hz3 := le_drew hz3
                      replace b2 := b2.drew
                      replace b7 := b7.drew
                      replace lr := lr.drew
                      refine wp_region_held_drew (S := fun w' => w'.cell? ⟨w.heap.size, 0, none⟩ = some (.slice A n c)) (by kernel_rfl) (b2.cell (j := 0) rfl) (fun hHeld => ?_)
                      refine wpAnyH_take (i := 0) (oi := ⟨some 69, .move (.tmp 9), _, _, _, none⟩) (v := .int .i64 y) rfl (by kernel_rfl) (by kernel_rfl) (by kernel_rfl) (fun _ _ _ h => h) (Or.inl ⟨by rfl, fun _ _ => rfl⟩) hHeld ?_
                      simp only [Act.put, List.setIfInBounds_toArray, List.set_cons_zero, List.set_cons_succ]
                      refine wpAnyH_ready (rs := [1]) (by kernel_rfl) (by simp) (AllReadyH.cons (o := ⟨some 70, .call { callee := .value (.func 66), args := #[.tmp 69, .const (.int .i64 1)], argTypes := #[3, 3] }, _, _, _, none⟩) rfl (fun K' hK => ?_) (AllReadyH.nil))
                      go_simp
                      refine (HH1.out _).mono ?_
                      rintro e wh ⟨rfl, rfl⟩
                      refine hK.out _ _ (b2.cell (j := 0) rfl) (fun hHeld => ?_)
                      clear hK K'
                      try simp only [Act.put, List.setIfInBounds_toArray, List.set_cons_zero, List.set_cons_succ]
                      refine wpAnyH_take (i := 2) (oi := ⟨some 71, .move (.tmp 70), _, _, _, none⟩) (v := .bool true) rfl (by kernel_rfl) (by kernel_rfl) (by kernel_rfl) (fun _ _ _ h => h) (Or.inl ⟨by rfl, fun _ _ => rfl⟩) hHeld ?_
                      simp only [Act.put, List.setIfInBounds_toArray, List.set_cons_zero, List.set_cons_succ]
                      refine wpAnyH_take (i := 3) (oi := ⟨some 72, .move (.tmp 9), _, _, _, _⟩) (v := .int .i64 y) rfl (by kernel_rfl) (by kernel_rfl) (by kernel_rfl) (fun _ _ _ h => h) (Or.inl ⟨by rfl, fun _ _ => rfl⟩) hHeld ?_
                      simp only [Act.put, List.setIfInBounds_toArray, List.set_cons_zero, List.set_cons_succ]
                      refine wpAnyH_ready (rs := [4]) (by kernel_rfl) (by simp) (AllReadyH.cons (o := ⟨some 73, .call { callee := .value (.func 66), args := #[.tmp 72, .const (.int .i64 64)], argTypes := #[3, 3] }, _, _, _, _⟩) rfl (fun K' hK => ?_) (AllReadyH.nil))
                      go_simp
                      refine (HH64.out _).mono ?_
                      rintro e wh ⟨rfl, rfl⟩
                      refine hK.out _ _ (b2.cell (j := 0) rfl) (fun hHeld => ?_)
                      clear hK K'
                      try simp only [Act.put, List.setIfInBounds_toArray, List.set_cons_zero, List.set_cons_succ]
                      refine wpAnyH_take (i := 5) (oi := ⟨some 74, .unOp .not 4 (.tmp 73), _, _, _, _⟩) (v := .bool true) rfl (by kernel_rfl) (by kernel_rfl) (by kernel_rfl) (fun _ _ _ h => h) (Or.inl ⟨by rfl, fun w _ => by go_simp⟩) hHeld ?_
                      simp only [Act.put, List.setIfInBounds_toArray, List.set_cons_zero, List.set_cons_succ]
                      refine wpAnyH_take (i := 6) (oi := ⟨some 75, .pick (.tmp 71) (.tmp 74) (.const (.bool false)), _, _, _, none⟩) (v := .bool true) rfl (by kernel_rfl) (by kernel_rfl) (by kernel_rfl) (fun _ _ _ h => h) (Or.inl ⟨by rfl, fun w _ => by go_simp⟩) hHeld ?_
                      simp only [Act.put, List.setIfInBounds_toArray, List.set_cons_zero, List.set_cons_succ]
                      refine wpAnyH_take (i := 7) (oi := ⟨some 76, .move (.tmp 75), _, _, _, none⟩) (v := .bool true) rfl (by kernel_rfl) (by kernel_rfl) (by kernel_rfl) (fun _ _ _ h => h) (Or.inl ⟨by rfl, fun _ _ => rfl⟩) hHeld ?_
                      simp only [Act.put, List.setIfInBounds_toArray, List.set_cons_zero, List.set_cons_succ]
                      refine wpAnyH_take (i := 8) (oi := ⟨some 77, .load 29 (.tmp 2), _, _, _, _⟩) (v := .agg #[.slice A n c]) rfl (by kernel_rfl) (by kernel_rfl) (by kernel_rfl) (fun _ _ _ h => h) (Or.inl ⟨by rfl, fun w hSw => by have e1 := hSw; clear hSw; go_simp⟩) hHeld ?_
                      simp only [Act.put, List.setIfInBounds_toArray, List.set_cons_zero, List.set_cons_succ]
                      refine wpAnyH_take (i := 9) (oi := ⟨some 78, .move (.tmp 9), _, _, _, _⟩) (v := .int .i64 y) rfl (by kernel_rfl) (by kernel_rfl) (by kernel_rfl) (fun _ _ _ h => h) (Or.inl ⟨by rfl, fun _ _ => rfl⟩) hHeld ?_
                      simp only [Act.put, List.setIfInBounds_toArray, List.set_cons_zero, List.set_cons_succ]
                      refine wpAnyH_ready (rs := [10]) (by kernel_rfl) (by simp) (AllReadyH.cons (o := ⟨some 79, .call { callee := .value (.func 63), args := #[.tmp 78], argTypes := #[3] }, _, _, _, _⟩) rfl (fun K' hK => ?_) (AllReadyH.nil))
                      go_simp
                      refine (HAy.out _).mono ?_
                      rintro e wh ⟨rfl, rfl⟩
                      refine hK.out _ _ (b2.cell (j := 0) rfl) (fun hHeld => ?_)
                      clear hK K'
                      try simp only [Act.put, List.setIfInBounds_toArray, List.set_cons_zero, List.set_cons_succ]
                      refine wpAnyH_ready (rs := [11]) (by kernel_rfl) (by simp) (AllReadyH.cons (o := ⟨some 80, .call { callee := .value (.func 61), args := #[.tmp 77, .tmp 79], argTypes := #[29, 3] }, _, _, _, _⟩) rfl (fun K' hK => ?_) (AllReadyH.nil))
                      go_simp
                      refine (HPy.out _).mono ?_
                      rintro e w6 ⟨rfl, l6⟩
                      replace hor := own_below hor l6
                      replace b2 := b2.keep l6
                      replace b7 := b7.keep l6
                      have hzq := l6.size
                      replace hz3 : w.heap.size + 1 ≤ _ := Nat.le_trans hz3 hzq
                      clear hzq
                      replace lr := Later.trans_ lr l6
                      refine hK.out _ _ (b2.cell (j := 0) rfl) (fun hHeld => ?_)
                      clear hK K'
                      try simp only [Act.put, List.setIfInBounds_toArray, List.set_cons_zero, List.set_cons_succ]
                      refine wpAnyH_take (i := 12) (oi := ⟨some 81, .pick (.tmp 76) (.tmp 80) (.const (.bool false)), _, _, _, none⟩) (v := .bool true) rfl (by kernel_rfl) (by kernel_rfl) (by kernel_rfl) (fun _ _ _ h => h) (Or.inl ⟨by rfl, fun w _ => by go_simp⟩) hHeld ?_
                      simp only [Act.put, List.setIfInBounds_toArray, List.set_cons_zero, List.set_cons_succ]
                      refine wpAnyH_done (by kernel_rfl) ?_ _
                      clear hHeld
                      go_wp2_with (first
                        | (go_at_call 63; refine (HAy.out _).mono ?_; rintro e wh ⟨rfl, rfl⟩)
                        | (at_builtin; refine wpList_append_own _ rfl _ _ 65 rfl (w.heap.size + 1) 68 i0 _ 3 16 Tryz.underlying65 hi hz0 hz1 hz2 rfl (by decide) v2 _ (Mgs (LO ++ Tm.inTo n b fe (4096 * (k : Int)) q)) rfl (hor.alloc (.cells #[.int .u32 (4096 * (k : Int) + 128 * (q : Int)), .int .u32 p, .int .i64 (y % 128)] 68)) ⟨w6.heap.size, 0, none⟩ 1 1 [.int .u32 (4096 * (k : Int) + 128 * (q : Int)), .int .u32 p, .int .i64 (y % 128)] rfl rfl (news_blk (Blk.new w6 68 _ _ rfl)) (map3_one _ _ _) (by unfold maxLen; omega) (by omega) (by simp; omega) ?_; intro v3 w7 hown hgrow _))
                      all_goals
                        have nb2 := own_neBd (hor.alloc (.cells #[.int .u32 (4096 * (k : Int) + 128 * (q : Int)), .int .u32 p, .int .i64 (y % 128)] 68)) (b2.alloc (.cells #[.int .u32 (4096 * (k : Int) + 128 * (q : Int)), .int .u32 p, .int .i64 (y % 128)] 68)) (by decide)
                        have nb7 := own_neBd (hor.alloc (.cells #[.int .u32 (4096 * (k : Int) + 128 * (q : Int)), .int .u32 p, .int .i64 (y % 128)] 68)) (b7.alloc (.cells #[.int .u32 (4096 * (k : Int) + 128 * (q : Int)), .int .u32 p, .int .i64 (y % 128)] 68)) (by decide)
                        replace b2 := (b2.alloc (.cells #[.int .u32 (4096 * (k : Int) + 128 * (q : Int)), .int .u32 p, .int .i64 (y % 128)] 68)).grown hgrow nb2
                        replace b7 := (b7.alloc (.cells #[.int .u32 (4096 * (k : Int) + 128 * (q : Int)), .int .u32 p, .int .i64 (y % 128)] 68)).grown hgrow nb7
                        have hsz6 := hgrow.size
                        replace lr := (lr.alloc lr.size (.cells #[.int .u32 (4096 * (k : Int) + 128 * (q : Int)), .int .u32 p, .int .i64 (y % 128)] 68)).grown hgrow (by simp; omega) (fun j hj => by have := (hor.lt j hj).1; omega)
                        replace hz3 : w.heap.size + 1 ≤ w7.heap.size := by simp at hsz6; omega
                        clear nb2 nb7 hgrow hsz6
                        go_wp2
                        go_roundw
                        case rel => exact ⟨q + 1, by omega, by go_num, by rw [Tm.inTo_succ, HSN.out, Bool.not_false, Bool.and_true, if_pos rfl, HSP.out, if_pos trivial, ← List.append_assoc, ← Mgs_new HYE.out HPP.out rfl, List.length_append]; exact hown, hz3, b2, b7, lr⟩
                        case measure => simp [intOf]; omega
              · obtain rfl : q = 32 := by omega
                rw [HLO.out, ← HSM.out, ← Tm.outTo_succ] at hor
                go_wp2
                go_roundw
                case rel => exact ⟨k + 1, by omega, by go_num, hor, hz3, b2, lr⟩
                case measure => simp [intOf]; omega
    · obtain rfl : k = 32 := by omega
      obtain ⟨A', c', rfl, o1, o2, o3, _⟩ := own_form hor
      clear hor
      go_wp2
      go_ret
      exact ⟨A', c', rfl, o3, lr⟩
set_option maxRecDepth 100000 in
theorem rlist_any (A : Option Addr) (n c : Nat) (root : Int) (b : Wm.Bs) (w : World) (hs : Sl w 128 A n (U b)) (hb : Wm.isBs b) (h1 : 1 ≤ n ∧ n ≤ 64) (hr : 0 ≤ root ∧ root < 4294967296) :
    Calls Tryz.prog 24 #[.agg #[.slice A n c], .int .u32 root] w (fun e w' => ∃ L k, e = .returned (.slice L (Tm.lst n b root).length k) ∧ Sl w' 3 L (Tm.lst n b root).length (Mgs (Tm.lst n b root)) ∧ Later w w') := by
  by_cases h0 : root = 0
  · exact rlist_z A n c root b w hs hb h1 hr h0
  · cases hp : Tm.pageB n root with
    | false => exact rlist_p A n c root b w hs hb h1 hr h0 hp
    | true => exact rlist_y A n c root b w hs hb h1 hr h0 hp
end Go.Proofs.YtidhodalnikhlaaGreatDoor
