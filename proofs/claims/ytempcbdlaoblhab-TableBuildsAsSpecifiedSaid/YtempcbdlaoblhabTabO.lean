/-
  THE ITERATOR OF mappings: its contract.
-/
import Derived.Test.YtempcbdlaoblhabTabN
namespace Go.Proofs.Ytempcbdlaoblhab
open Go.RowKit Go.ChangeShapes Go.WideShapes Go.ChangeAt
attribute [local go_sem] Oper.semAt_some

namespace Tm
def topX (b : Wm.Bs) (root : Int) (i : Fin 32) : Int := wd b (fA root (4096 * (i.1 : Int)))
def topAt (n : Nat) (b : Wm.Bs) (root : Int) (i : Fin 32) : List Mg :=
  if has (topX b root i) 1 && rF n (topX b root i) then (blw b (topX b root i) (4096 * (i.1 : Int))).filter (fun x => pageB n x.1.2.1) else []
def lst (n : Nat) (b : Wm.Bs) (root : Int) : List Mg := if rootB n root then (List.finRange 32).flatMap (topAt n b root) else []
end Tm
theorem blw_len (b : Wm.Bs) (ex va : Int) : (Tm.blw b ex va).length ≤ 32 := by
  unfold Tm.blw
  split
  · simp
  · have := flat_len (Tm.secAt b ex va) 1 (secAt_len b ex va) (List.finRange 32)
    rw [List.length_finRange] at this
    omega
theorem topAt_len (n : Nat) (b : Wm.Bs) (root : Int) (i : Fin 32) : (Tm.topAt n b root i).length ≤ 32 := by
  unfold Tm.topAt
  split
  · exact Nat.le_trans (List.length_filter_le _ _) (blw_len _ _ _)
  · simp
theorem below_any (ex va : Int) (A : Option Addr) (n c : Nat) (w : World) : Calls Try.prog 80 #[.agg #[.slice A n c], .int .u32 ex, .int .u32 va] w fun e w' => e = .returned (.func (.func 89) #[] #[.pointer (some ⟨w.heap.size + 1, 0, none⟩), .pointer (some ⟨w.heap.size + 2, 0, none⟩), .pointer (some ⟨w.heap.size, 0, none⟩)]) ∧
    w' = ((w.alloc (.cells #[.slice A n c] 24)).alloc (.cells #[.int .u32 ex] 81)).alloc (.cells #[.int .u32 va] 25) := by
  have hmf : ∀ (fn : Fn) (first cap : Array Value) (w : World), (Instr.makeFunc fn first cap).run Try.prog w = .ok (.func fn first cap) w := fun _ _ _ _ => rfl
  go_enter Try.func80, Try.ntmps80
  go_wp2
  go_ret
  exact ⟨rfl, rfl⟩
/-- What below hands back is an iterator. -/
theorem below_stops (m n₀ B k1 k2 k3 : Nat) (exs : List Nat) (ex va : Int) (A : Option Addr) (n c : Nat) (b : Wm.Bs) (w : World) (hm : 5 ≤ m) (hE : Tm.isE ex) (hpg : Tm.has ex 64 = false → Tm.pageB n (Tm.adr ex) = true) (hb : Wm.isBs b) (hn1 : 1 ≤ n) (hn : n ≤ 64) (hv0 : 0 ≤ va) (hv1 : va + 4096 ≤ 131072)
    (hw : Bw w n₀ B exs k1 k2 k3 ex va A n c b) :
    SeqO Fence.wide m Try.prog 89 #[.pointer (some ⟨k1, 0, none⟩), .pointer (some ⟨k2, 0, none⟩), .pointer (some ⟨k3, 0, none⟩)] encM (Kq n₀ B exs) (fun ys => ys = Tm.blw b ex va) (fun _ => True) 32 w := fun l J Jx W hW hJ hJx hY hl h0 => by
  have hw' : Bw W n₀ B exs k1 k2 k3 ex va A n c b :=
    ⟨(hW.block _ hw.e1.lt).trans hw.e1, (hW.block _ hw.e2.lt).trans hw.e2, (hW.block _ hw.e3.lt).trans hw.e3, hw.g1, hw.g2, hw.g3, fun e he => Nat.lt_of_lt_of_le (hw.hx e he) hW.size, Nat.le_trans hw.hn hW.size, Nat.le_trans hw.hB hW.size, hw.hs.keep hW, hw.hA⟩
  cases hlg : Tm.has ex 64 with
  | true => exact belowL_in m l n₀ B k1 k2 k3 exs ex va A n c b J Jx W hE hlg hY hJ hw' h0
  | false => exact belowS_in m l n₀ B k1 k2 k3 exs ex va A n c b J Jx W hm hE hlg (hpg hlg) hb hn1 hn hv0 hv1 hY hJ hJx hl hw' h0
/-- What the walk of mappings wants of a world. -/
structure Mw (W : World) (n₀ B : Nat) (exs : List Nat) (k1 k2 : Nat) (root : Int) (A : Option Addr) (n c : Nat) (b : Wm.Bs) : Prop where
  e1 : Boxed W k1 24 (.slice A n c)
  e2 : Boxed W k2 25 (.int .u32 root)
  g1 : B ≤ k1 ∧ k1 ∉ exs
  g2 : B ≤ k2 ∧ k2 ∉ exs
  hx : ∀ e ∈ exs, e < W.heap.size
  hn : n₀ ≤ W.heap.size
  hB : B ≤ W.heap.size
  hs : Sl W 128 A n (U b)
  hA : ∀ ad, A = some ad → ad.block < n₀
set_option maxRecDepth 100000 in
set_option maxHeartbeats 8000000 in
theorem mappings1_in (m : Nat) (l n₀ B k1 k2 : Nat) (exs : List Nat) (root : Int) (A : Option Addr) (n c : Nat) (b : Wm.Bs) (J Jx : List Mg → World → Prop) (W : World) (hm : 12 ≤ m) (hb : Wm.isBs b) (hn1 : 1 ≤ n) (hn : n ≤ 64) (hr0 : 0 ≤ root) (hr1 : root < 4294967296)
    (hY : ∀ pre x W, J pre W → pre.length < 1024 → YieldAt Fence.wide (m - 1) Try.prog l (encM x) W fun e W' =>
      (e = .returned (.bool true) ∧ J (pre ++ [x]) W' ∧ Kq n₀ B exs W W') ∨ (e = .returned (.bool false) ∧ Jx (pre ++ [x]) W' ∧ KeepsFrom (l + 1) W W'))
    (hJ : OwnFrom W.heap.size J) (hJx : OwnFrom W.heap.size Jx) (hll : l < W.heap.size) (hw : Mw W n₀ B exs k1 k2 root A n c b) (h0 : J [] W) :
    CallsIn Fence.wide m Try.prog 78 #[.func (.yield l) #[] #[], .pointer (some ⟨k1, 0, none⟩), .pointer (some ⟨k2, 0, none⟩)] W fun e W' => (∃ v, e = .returned v) ∧
      ((∃ ys, ys = Tm.lst n b root ∧ J ys W') ∨ (∃ pre, True ∧ Jx pre W')) := by
  have HY := Lib.hid hY
  have HJ := Lib.hid hJ
  have HRT := Lib.hid fun w' => isRoot_any A n c root w' hn ⟨hr0, hr1⟩
  have hfo : Try.prog.follows .mixedOrders = true := by kernel_rfl
  have HST := Lib.hid fun w' => steps_any 0 131072 4096 w'
  obtain ⟨rt, hrt⟩ : ∃ rt, rt = Tm.rootB n root := ⟨_, rfl⟩
  have hlst : Tm.lst n b root = if rt then (List.finRange 32).flatMap (Tm.topAt n b root) else [] := by rw [hrt]; rfl
  rw [← hrt] at HRT
  have x1 := hw.e1.alloc (.cells #[.func (.yield l) #[] #[]] 125)
  have x2 := hw.e2.alloc (.cells #[.func (.yield l) #[] #[]] 125)
  have x3 := Boxed.new W 125 (.func (.yield l) #[] #[])
  have q1 := x1.cell
  have q2 := x2.cell
  have HLST := Lib.hid hlst
  clear hY hJ hlst
  cases rt with
  | false =>
    have hls := HLST.out
    rw [if_neg (by decide)] at hls
    have HLS := Lib.hid hls
    clear hls hrt
    refine callsIn_of_wp_marks Try.func78 rfl trivial ?_ rfl
    simp only [Try.ntmps78, List.size_toArray, List.length_cons, List.length_nil, Nat.reduceAdd, Nat.reduceSub, Array.replicate_succ, Array.replicate_zero, List.push_toArray, List.append_toArray, List.nil_append, List.cons_append]
    gi_wp2_with (first
      | (refine ⟨trivial, fun h => (by cases h), ?_⟩; gi_at_call 48; refine (callsIn_wide.2 (HRT.out _)).mono ?_; rintro e w1 ⟨rfl, l1⟩))
    exact ⟨_, results_none rfl _ _ _, ⟨_, rfl⟩, .inl ⟨_, HLS.out.symm, own_later HJ.out h0 (Later.trans_ (later1 W _) l1)⟩⟩
  | true =>
    obtain ⟨rn0, rn1, rn2⟩ := Tm.rootB_lt hrt.symm
    have hls := HLST.out
    rw [if_pos rfl] at hls
    have HLS := Lib.hid hls
    clear hls hrt
    refine callsIn_of_wp_marks Try.func78 rfl trivial ?_ rfl
    simp only [Try.ntmps78, List.size_toArray, List.length_cons, List.length_nil, Nat.reduceAdd, Nat.reduceSub, Array.replicate_succ, Array.replicate_zero, List.push_toArray, List.append_toArray, List.nil_append, List.cons_append]
    gi_wp2_with (first
      | (refine ⟨trivial, fun h => (by cases h), ?_⟩; gi_at_call 48; refine (callsIn_wide.2 (HRT.out _)).mono ?_; rintro e w1 ⟨rfl, l1⟩)
      | (refine ⟨trivial, fun h => (by cases h), ?_⟩; gi_at_call 79; refine (callsIn_wide.2 (HST.out _)).mono ?_; rintro e w' ⟨rfl, hw2⟩; subst hw2))
    obtain ⟨W2, hW2⟩ : ∃ W2, W2 = (((w1.alloc (.cells #[.int .u32 0] 25)).alloc (.cells #[.int .u32 131072] 25)).alloc (.cells #[.int .u32 4096] 25)) := ⟨_, rfl⟩
    have l0 : Later W w1 := Later.trans_ (later1 W _) l1
    have l2 : Later W W2 := by rw [hW2]; exact ((l0.alloc l0.size _).alloc (by have := l0.size; simp; omega) _).alloc (by have := l0.size; simp; omega) _
    have z2 : W2.heap.size = w1.heap.size + 3 := by rw [hW2]; simp
    have y1 : Boxed W2 w1.heap.size 25 (.int .u32 0) := by rw [hW2]; exact ((Boxed.new _ _ _).alloc _).alloc _
    have y2 : Boxed W2 (w1.heap.size + 1) 25 (.int .u32 (0 + 4096 * 32)) := by
      rw [hW2]
      have h := Boxed.new (w1.alloc (.cells #[.int .u32 0] 25)) 25 (.int .u32 131072)
      rw [World.size_alloc] at h
      exact h.alloc _
    have y3 : Boxed W2 (w1.heap.size + 2) 25 (.int .u32 4096) := by
      rw [hW2]
      have h := Boxed.new ((w1.alloc (.cells #[.int .u32 0] 25)).alloc (.cells #[.int .u32 131072] 25)) 25 (.int .u32 4096)
      rw [World.size_alloc, World.size_alloc] at h
      exact h
    have lw12 : Later w1 W2 := by rw [hW2]; exact ((later1 _ _).alloc (by simp) _).alloc (by simp; omega) _
    replace x1 : Boxed W2 k1 24 (.slice A n c) := (lw12.block _ (Nat.lt_of_lt_of_le x1.lt l1.size)).trans ((l1.block _ x1.lt).trans x1)
    replace x2 : Boxed W2 k2 25 (.int .u32 root) := (lw12.block _ (Nat.lt_of_lt_of_le x2.lt l1.size)).trans ((l1.block _ x2.lt).trans x2)
    replace x3 : Boxed W2 W.heap.size 125 (.func (.yield l) #[] #[]) := (lw12.block _ (Nat.lt_of_lt_of_le x3.lt l1.size)).trans ((l1.block _ x3.lt).trans x3)
    have hz1 : W.heap.size < w1.heap.size := by have := l1.size; simp at this; omega
    rw [← hW2]
    clear hW2 q1 q2
    have hn0 := hw.hn
    have hB0 := hw.hB
    have hxs : ∀ k, W.heap.size ≤ k → k ∉ exs := fun k hk h => by have := hw.hx _ h; omega
    refine wpIn_rangeFunc_ownH (F := Fence.wide) rfl (by omega) (gf := 88) (lb := #[.pointer (some ⟨w1.heap.size, 0, none⟩), .pointer (some ⟨w1.heap.size + 1, 0, none⟩), .pointer (some ⟨w1.heap.size + 2, 0, none⟩)]) rfl trivial (enters_of Try.func88 (by kernel_rfl) rfl)
      (steps_stops (m - 1) w1.heap.size (w1.heap.size + 1) (w1.heap.size + 2) 0 4096 W2 (by omega) (by omega) (by omega) y1 y2 y3) (fun h k => Kb.trans h k) (fun X q o o' _ h hc _ => Kb.put X q o o' h hc) (Below.refl _ _) (fun _ => rfl)
      (fun pre X => J (pre.flatMap (Tm.topAt n b root)) X ∧ Kq n₀ B exs W2 X)
      (fun cd _ X => cd = .ret ∧ ∃ p, Jx p X)
      (OwnFrom.and (fun s X Y row hs hg hr => HJ.out _ X Y row hs hg (fun r e => ⟨by have := (hr r e).1; omega, (hr r e).2⟩)) (Kq.own (by omega) (by omega) (Nat.le_refl _)))
      (fun cd s X Y row hs hg hr => ⟨hs.1, hs.2.elim fun p hp => ⟨p, hJx p X Y row hp hg (fun r e => ⟨by have := (hr r e).1; omega, (hr r e).2⟩)⟩⟩)
      ⟨own_later HJ.out h0 l2, Kq.refl _ _ _ _⟩
      (fun x a' _ => a' = { tmps := #[.func (.yield l) #[] #[], .pointer (some ⟨k1, 0, none⟩), .pointer (some ⟨k2, 0, none⟩), .pointer (some ⟨W.heap.size, 0, none⟩), .int .u32 (4096 * (x.1 : Int)), undef, undef, .agg #[.slice A n c], .int .u32 root, .bool true, .bool false, .func (.func 88) #[] #[.pointer (some ⟨w1.heap.size, 0, none⟩), .pointer (some ⟨w1.heap.size + 1, 0, none⟩), .pointer (some ⟨w1.heap.size + 2, 0, none⟩)], .int .u32 (4096 * (x.1 : Int)), undef, undef, undef, undef, undef, undef, undef, undef, undef, undef, undef, undef, undef, undef, undef, undef, undef, undef, undef, undef, undef, undef, undef, undef, undef, undef, undef, undef, undef], defers := [] })
      (fun _ _ _ _ _ _ hs _ _ => hs)
      ?assign ?body ?done ?stop
    case assign =>
      rintro l' pre x X K hi hK
      unfold stepE
      gi_wp2
      exact hK _ _ (KeepsFrom.refl _ _) ⟨fun _ h => h, fun _ h => h⟩ hi rfl
    case body =>
      rintro l' pre x a' X hl' ⟨r, hrl⟩ ⟨hJp, hkp⟩ rfl hlen
      obtain ⟨a4, ha4⟩ : ∃ a4, a4 = 4096 * (x.1 : Int) := ⟨_, rfl⟩
      have hx32 := x.2
      have ha40 : 0 ≤ a4 := by omega
      have ha41 : a4 + 4096 ≤ 131072 := by omega
      have hfA : 0 ≤ Tm.fA root a4 ∧ Tm.fA root a4 < 4294967296 := by unfold Tm.fA; omega
      have lX : Below n₀ W X := (l2.mono hn0).trans hkp.1
      have HF := Lib.hid fun w' => inFirst_any root a4 w' (by omega) (by omega)
      have HLD := Lib.hid fun w' (hl : Below n₀ W w') => tload_any A n c (Tm.fA root a4) b w' (hw.hs.later hl (fun ad e _ => hw.hA ad e)) hb hn1 hn hfA
      have hEx := Tm.wd_e hb (Tm.fA root a4)
      have htop : Tm.topAt n b root x = if Tm.has (Tm.wd b (Tm.fA root a4)) 1 && Tm.rF n (Tm.wd b (Tm.fA root a4)) then (Tm.blw b (Tm.wd b (Tm.fA root a4)) a4).filter (fun x => Tm.pageB n x.1.2.1) else [] := by rw [ha4]; rfl
      obtain ⟨f, hf⟩ : ∃ f, f = Tm.fA root a4 := ⟨_, rfl⟩
      rw [← hf] at HF HLD hEx htop
      obtain ⟨ex, hex⟩ : ∃ ex, ex = Tm.wd b f := ⟨_, rfl⟩
      rw [← hex] at HLD hEx htop
      have HV := Lib.hid fun w' => isValid_any ex w' hEx
      have HRF := Lib.hid fun w' => isRightFirst_any ex A n c w' hEx hn
      have hpg := fun (h : Tm.rF n ex = true) (h2 : Tm.has ex 64 = false) => rF_page h h2
      obtain ⟨bv, hbv⟩ : ∃ bv, bv = Tm.has ex 1 := ⟨_, rfl⟩
      obtain ⟨br, hbr⟩ : ∃ br, br = Tm.rF n ex := ⟨_, rfl⟩
      rw [← hbv] at HV htop
      rw [← hbr] at HRF htop hpg
      have x1X := hkp.boxed x1 hw.g1.1 hw.g1.2 (by decide)
      have x2X := hkp.boxed x2 hw.g2.1 hw.g2.2 (by decide)
      have x3X := hkp.boxed x3 hB0 (hxs _ (Nat.le_refl _)) (by decide)
      have u1 := (boxed_drew x1X).cell
      have u2 := (boxed_drew x2X).cell
      have hXs := hkp.1.size
      have HTOP := Lib.hid htop
      rw [← ha4]
      clear hf hex hbv hbr htop ha4 hfA
      have kx : ∀ X', Kq n₀ B exs X X' → (KeepsFrom W2.heap.size X X' ∧ Kb (w1.heap.size + 1) (w1.heap.size + 2) X X' ∧ Kq n₀ B exs W2 X') := fun X' h => ⟨h.keeps (by omega) (fun e he => by have := hw.hx e he; omega), ⟨fun v hv => h.boxed hv (by omega) (hxs _ (by omega)) (by decide), fun v hv => h.boxed hv (by omega) (hxs _ (by omega)) (by decide)⟩, hkp.trans h⟩
      have kl : ∀ X', Later X X' → Kq n₀ B exs X X' := fun X' h => Kq.later h (by omega)
      gi_wp2
      refine wpIn_mono (Q := Cutp { tmps := #[.func (.yield l) #[] #[], .pointer (some ⟨k1, 0, none⟩), .pointer (some ⟨k2, 0, none⟩), .pointer (some ⟨W.heap.size, 0, none⟩), .int .u32 a4, .int .u32 ex, undef, .agg #[.slice A n c], .int .u32 root, .bool true, .bool false, .func (.func 88) #[] #[.pointer (some ⟨w1.heap.size, 0, none⟩), .pointer (some ⟨w1.heap.size + 1, 0, none⟩), .pointer (some ⟨w1.heap.size + 2, 0, none⟩)], .int .u32 a4, .agg #[.slice A n c], .int .u32 root, .int .u32 a4, .int .u32 f, .int .u32 ex, undef, undef, undef, undef, undef, undef, undef, undef, undef, undef, undef, undef, undef, undef, undef, undef, undef, undef, undef, undef, undef, undef, undef, undef], defers := [] } X.drew) ?_ ?_
      · gi_region_with_o (first
          | (refine ⟨trivial, fun h => (by cases h), ?_⟩; gi_at_call 40; refine (CallsIn.inRound l' (callsIn_wide.2 (HF.out _))).mono ?_; rintro e w' ⟨rfl, rfl⟩)
          | (refine ⟨trivial, fun h => (by cases h), ?_⟩; gi_at_call 41; refine (CallsIn.inRound l' (callsIn_wide.2 (HLD.out _ (lX.drew)))).mono ?_; rintro e w3 ⟨rfl, l3⟩))
        all_goals exact ⟨rfl, rfl, l3⟩
      rintro e a' w3 ⟨rfl, rfl, l3⟩
      have lx3 : Later X w3 := (Below.refl _ X).drew.trans l3
      have x1Y : Boxed w3 k1 24 (.slice A n c) := (lx3.block _ x1X.lt).trans x1X
      have u1b := x1Y.cell
      clear u1 u2
      cases bv with
      | false =>
        gi_wp2_with (first
          | (refine ⟨trivial, fun h => (by cases h), ?_⟩; gi_at_call 42; refine (CallsIn.inRound l' (callsIn_wide.2 (HV.out _))).mono ?_; rintro e w' ⟨rfl, rfl⟩)
          | (refine ⟨trivial, ?_⟩))
        exact ⟨(kx _ (kl _ lx3)).1, (kx _ (kl _ lx3)).2.1, by rw [List.flatMap_append, List.flatMap_singleton, HTOP.out]; simpa using own_later HJ.out hJp lx3, (kx _ (kl _ lx3)).2.2⟩
      | true =>
        cases br with
        | false =>
          gi_wp2_with (first
            | (refine ⟨trivial, fun h => (by cases h), ?_⟩; gi_at_call 42; refine (CallsIn.inRound l' (callsIn_wide.2 (HV.out _))).mono ?_; rintro e w' ⟨rfl, rfl⟩)
            | (refine ⟨trivial, fun h => (by cases h), ?_⟩; gi_at_call 49; refine (CallsIn.inRound l' (callsIn_wide.2 (HRF.out _))).mono ?_; rintro e w5 ⟨rfl, l5⟩; have lx5 := Later.trans_ lx3 l5))
          exact ⟨(kx _ (kl _ lx5)).1, (kx _ (kl _ lx5)).2.1, by rw [List.flatMap_append, List.flatMap_singleton, HTOP.out]; simpa using own_later HJ.out hJp lx5, (kx _ (kl _ lx5)).2.2⟩
        | true =>
          have HBW := Lib.hid fun w' => below_any ex a4 A n c w'
          gi_wp2_with (first
            | (refine ⟨trivial, fun h => (by cases h), ?_⟩; gi_at_call 42; refine (CallsIn.inRound l' (callsIn_wide.2 (HV.out _))).mono ?_; rintro e w' ⟨rfl, rfl⟩)
            | (refine ⟨trivial, fun h => (by cases h), ?_⟩; gi_at_call 49; refine (CallsIn.inRound l' (callsIn_wide.2 (HRF.out _))).mono ?_; rintro e w5 ⟨rfl, l5⟩; have lx5 := Later.trans_ lx3 l5; have x1Z : Boxed w5 k1 24 (.slice A n c) := (l5.block _ x1Y.lt).trans x1Y; have u1c := x1Z.cell)
            | (refine ⟨trivial, fun h => (by cases h), ?_⟩; gi_at_call 80; refine (CallsIn.inRound l' (callsIn_wide.2 (HBW.out _))).mono ?_; rintro e w' ⟨rfl, hw2⟩; subst hw2))
          obtain ⟨W5, hW5⟩ : ∃ W5, W5 = (((w5.alloc (.cells #[.slice A n c] 24)).alloc (.cells #[.int .u32 ex] 81)).alloc (.cells #[.int .u32 a4] 25)) := ⟨_, rfl⟩
          have l55 : Later w5 W5 := by rw [hW5]; exact ((later1 _ _).alloc (by simp) _).alloc (by simp; omega) _
          have lX5 : Later X W5 := Later.trans_ lx5 l55
          have z5 : W5.heap.size = w5.heap.size + 3 := by rw [hW5]; simp
          have e3 : Boxed W5 w5.heap.size 24 (.slice A n c) := by rw [hW5]; exact ((Boxed.new _ _ _).alloc _).alloc _
          have e1 : Boxed W5 (w5.heap.size + 1) 81 (.int .u32 ex) := by
            rw [hW5]
            have h := Boxed.new (w5.alloc (.cells #[.slice A n c] 24)) 81 (.int .u32 ex)
            rw [World.size_alloc] at h
            exact h.alloc _
          have e2 : Boxed W5 (w5.heap.size + 2) 25 (.int .u32 a4) := by
            rw [hW5]
            have h := Boxed.new ((w5.alloc (.cells #[.slice A n c] 24)).alloc (.cells #[.int .u32 ex] 81)) 25 (.int .u32 a4)
            rw [World.size_alloc, World.size_alloc] at h
            exact h
          rw [← hW5]
          clear hW5 u1b u1c
          have hX5 := lx5.size
          have hr5 : W5.heap[l']? = some (.loop r) := (lX5.block l' (Array.getElem?_eq_some_iff.1 hrl).1).trans hrl
          have x1W := (lX5.block _ x1X.lt).trans x1X
          have x3W := (lX5.block _ x3X.lt).trans x3X
          refine loop_qN (F := Fence.wide.inRound l') (l₀ := l') (r₀ := r) rfl hr5 (by omega) (gf := 89) (lb := #[.pointer (some ⟨w5.heap.size + 1, 0, none⟩), .pointer (some ⟨w5.heap.size + 2, 0, none⟩), .pointer (some ⟨w5.heap.size, 0, none⟩)]) rfl trivial (enters_of Try.func89 (by kernel_rfl) rfl) (n₀ := n₀) (B := B) (ex := exs) (by omega)
            (fun V hV hz => (below_stops (m - 1 - 1 - 1) n₀ B (w5.heap.size + 1) (w5.heap.size + 2) w5.heap.size (W5.heap.size :: exs) ex a4 A n c b V (by omega) hEx (hpg (by simp)) hb hn1 hn ha40 ha41
              ⟨(hV.block _ e1.lt).trans e1, (hV.block _ e2.lt).trans e2, (hV.block _ e3.lt).trans e3, ⟨by omega, fun h => by rcases List.mem_cons.1 h with h | h; omega; exact hxs _ (by omega) h⟩, ⟨by omega, fun h => by rcases List.mem_cons.1 h with h | h; omega; exact hxs _ (by omega) h⟩, ⟨by omega, fun h => by rcases List.mem_cons.1 h with h | h; omega; exact hxs _ (by omega) h⟩,
                fun e he => by rcases List.mem_cons.1 he with h | h; omega; have := hw.hx _ h; omega, by omega, by omega, hw.hs.later (lX.trans (lX5.mono (by omega)) |>.trans (hV.mono (by omega))) (fun ad e _ => hw.hA ad e), hw.hA⟩))
            (fun _ => rfl)
            (fun pre' X' => J (pre.flatMap (Tm.topAt n b root) ++ pre'.filter (fun x : Mg => Tm.pageB n x.1.2.1)) X' ∧ Kq n₀ B exs X X')
            (fun cd _ X' => (cd = .ret ∧ ∃ p, Jx p X') ∧ KeepsFrom W2.heap.size X X')
            (OwnFrom.and (fun s V Y row hs hg hr => HJ.out _ V Y row hs hg (fun r e => ⟨by have := (hr r e).1; omega, (hr r e).2⟩)) (Kq.own (by omega) (by omega) (by omega)))
            (fun cd => OwnFrom.and (fun s V Y row hs hg hr => ⟨hs.1, hs.2.elim fun p hp => ⟨p, hJx p V Y row hp hg (fun r e => ⟨by have := (hr r e).1; omega, (hr r e).2⟩)⟩⟩) (ownFrom_keepsFrom (by omega)))
            ⟨by rw [List.filter_nil, List.append_nil]; exact own_later HJ.out hJp lX5, kl _ lX5⟩
            (fun y a'' V => ∃ Bx, Blk V Bx 65 (mgC y) ∧ a'' = { tmps := #[.func (.yield l) #[] #[], .pointer (some ⟨k1, 0, none⟩), .pointer (some ⟨k2, 0, none⟩), .pointer (some ⟨W.heap.size, 0, none⟩), .int .u32 a4, .int .u32 ex, .pointer (some ⟨Bx, 0, none⟩), .agg #[.slice A n c], .int .u32 root, .bool true, .bool false, .func (.func 88) #[] #[.pointer (some ⟨w1.heap.size, 0, none⟩), .pointer (some ⟨w1.heap.size + 1, 0, none⟩), .pointer (some ⟨w1.heap.size + 2, 0, none⟩)], .int .u32 a4, .agg #[.slice A n c], .int .u32 root, .int .u32 a4, .int .u32 f, .int .u32 ex, .int .u32 ex, .bool true, .bool false, .bool false, .int .u32 ex, .agg #[.slice A n c], .bool true, .bool false, .bool false, .agg #[.slice A n c], .int .u32 ex, .int .u32 a4, .func (.func 89) #[] #[.pointer (some ⟨w5.heap.size + 1, 0, none⟩), .pointer (some ⟨w5.heap.size + 2, 0, none⟩), .pointer (some ⟨w5.heap.size, 0, none⟩)], .agg (mgC y).toArray, undef, undef, undef, undef, undef, undef, undef, undef, undef, undef], defers := [] })
            (fun y a'' _ V Y row hs hg hr => by obtain ⟨Bx, h1, h2⟩ := hs; exact ⟨Bx, (hg.block Bx h1.lt (fun e => by obtain ⟨o, ho, hc⟩ := (hr Bx e.symm).2; rw [show V.heap[Bx]? = _ from h1] at ho; cases ho; cases hc)).trans h1, h2⟩)
            ?assign2 ?body2 ?done2 ?stop2
          case assign2 =>
            rintro l2 pre' y V K ⟨hi1, hi2⟩ hK
            unfold encM mgC
            gi_wp2
            exact hK _ _ ((KeepsOthers.alloc _ _).from _) (Kq.later (later1 _ _) (by have := hi2.1.size; omega)) ⟨own_later HJ.out hi1 (later1 _ _), hi2.trans (Kq.later (later1 _ _) (by have := hi2.1.size; omega))⟩ ⟨V.heap.size, Blk.new _ _ _ _ rfl, rfl⟩
          case body2 =>
            rintro l2 pre' y a'' Y hl2 ⟨r2, hr2⟩ ⟨hJq, hkq⟩ ⟨Bx, hBx, rfl⟩ hlen2
            have HPG := Lib.hid fun w' => isPage_any A n c y.1.2.1 w' hn y.2
            obtain ⟨pb, hpb⟩ : ∃ pb, pb = Tm.pageB n y.1.2.1 := ⟨_, rfl⟩
            rw [← hpb] at HPG
            have hYs := hkq.1.size
            have x1V := hkq.boxed x1X hw.g1.1 hw.g1.2 (by decide)
            have x3V := hkq.boxed x3X hB0 (hxs _ (Nat.le_refl _)) (by decide)
            have v1 := x1V.cell
            have vb := hBx.cell (j := 1) (v := .int .u32 y.1.2.1) rfl
            have kz : ∀ Y', Kq n₀ B exs Y Y' → (KeepsFrom W5.heap.size Y Y' ∧ Kq n₀ B exs Y Y' ∧ Kq n₀ B exs X Y') := fun Y' h => ⟨h.keeps (by omega) (fun e he => by have := hw.hx e he; omega), h, hkq.trans h⟩
            have kly : ∀ Y', Later Y Y' → Kq n₀ B exs Y Y' := fun Y' h => Kq.later h (by omega)
            have hfl : (pre.flatMap (Tm.topAt n b root) ++ pre'.filter (fun x : Mg => Tm.pageB n x.1.2.1)).length < 1024 := by
              have h1 := flat_len (Tm.topAt n b root) 32 (topAt_len n b root) pre
              have h2 := List.length_filter_le (fun x : Mg => Tm.pageB n x.1.2.1) pre'
              rw [List.length_append]
              omega
            have hfs : (pre' ++ [y]).filter (fun x : Mg => Tm.pageB n x.1.2.1) = pre'.filter (fun x : Mg => Tm.pageB n x.1.2.1) ++ if pb then [y] else [] := by
              rw [List.filter_append, hpb]
              congr 1
              cases h : Tm.pageB n y.1.2.1 <;> simp [h]
            have HFS := Lib.hid hfs
            clear hfs hpb
            cases pb with
            | false =>
              gi_wp2_with (first
                | (refine ⟨trivial, fun h => (by cases h), ?_⟩; gi_at_call 69; refine (CallsIn.inRound l2 (callsIn_wide.2 (HPG.out _))).mono ?_; rintro e w6 ⟨rfl, l6⟩))
              all_goals try (refine ⟨fun _ h => (by cases h), ?_⟩)
              all_goals gi_wp2
              exact ⟨(kz _ (kly _ l6)).1, (kz _ (kly _ l6)).2.1, by rw [HFS.out]; simpa using own_later HJ.out hJq l6, (kz _ (kly _ l6)).2.2⟩
            | true =>
              gi_wp2_with (first
                | (refine ⟨trivial, fun h => (by cases h), ?_⟩; gi_at_call 69; refine (CallsIn.inRound l2 (callsIn_wide.2 (HPG.out _))).mono ?_; rintro e w6 ⟨rfl, l6⟩; have x3U : Boxed w6 W.heap.size 125 (.func (.yield l) #[] #[]) := (l6.block _ x3V.lt).trans x3V; have v3 := x3U.cell; have hB6 := hBx.keep l6; have d0 := hB6.cell (j := 0) (v := .int .u32 y.1.1) rfl; have d1 := hB6.cell (j := 1) (v := .int .u32 y.1.2.1) rfl; have d2 := hB6.cell (j := 2) (v := .int .i64 y.1.2.2) rfl; obtain ⟨fn, tmps, assign, body, hy, hR⟩ := HY.out _ y w6 (own_later HJ.out hJq l6) hfl; unfold encM mgC at hy)
                | (refine ⟨fun h => (by cases h), ?_⟩; refine (round_any _ l2 hR).mono ?_; rintro e w7 (⟨rfl, hJ8, hk8⟩ | ⟨rfl, hJx8, hkx8⟩)))
              all_goals first
                | exact ⟨(kz _ ((kly _ l6).trans hk8)).1, (kz _ ((kly _ l6).trans hk8)).2.1, by rw [HFS.out]; simpa using hJ8, (kz _ ((kly _ l6).trans hk8)).2.2⟩
                | exact ⟨((kz _ (kly _ l6)).1).trans (keeps_up hkx8 (by omega)), ⟨rfl, _, hJx8⟩, ((kx _ ((hkq.trans (kly _ l6)))).1).trans (keeps_up hkx8 (by omega))⟩
                | trace_state
          case done2 =>
            rintro ys Y rfl ⟨hJq, hkq⟩
            gi_wp2
            exact ⟨(kx _ hkq).1, (kx _ hkq).2.1, by rw [List.flatMap_append, List.flatMap_singleton, HTOP.out]; simpa using hJq, (kx _ hkq).2.2⟩
          case stop2 =>
            rintro cd pre' Y _ ⟨⟨rfl, p, hp⟩, hkf⟩
            gi_wp2
            exact ⟨hkf, rfl, _, hp⟩
    case done =>
      rintro D ys X hD rfl ⟨hJp, hkp⟩ hK
      gi_wp2
      refine ⟨by simp, .inl ⟨_, _, rfl, run_takeDeferred hK, ?_⟩⟩
      exact ⟨_, results_none rfl _ _ _, ⟨_, rfl⟩, .inl ⟨_, HLS.out.symm, HJ.out.putObj _ hJp (by omega) hK rfl⟩⟩
    case stop =>
      rintro D cd pre X hD _ ⟨rfl, p, hp⟩ hK
      gi_wp2
      refine ⟨by simp, .inl ⟨_, _, rfl, run_takeDeferred hK, ?_⟩⟩
      exact ⟨_, results_none rfl _ _ _, ⟨_, rfl⟩, .inr ⟨_, trivial, hJx.putObj _ hp (by omega) hK rfl⟩⟩
end Go.Proofs.Ytempcbdlaoblhab
