/-
  THE WALKS OF THE DECODERS of lists of integers and of strings, wire's and the reference's.
-/
import Derived.Test.YtdohocbpjpnmeaaTwE
namespace Go.Proofs.Ytdohocbpjpnmeaa
open Go.RowKit

theorem int_info : (Try.prog.info? 3).map (fun i => (i.zero, i.size, i.bytes)) = some (some (.int .i64 0), 1, 8) := by kernel_rfl
theorem str_info : (Try.prog.info? 9).map (fun i => (i.zero, i.size, i.bytes)) = some (some (.string ⟨#[]⟩), 1, 16) := by kernel_rfl

/-- b[u:], whatever the capacity. -/
theorem cut_run {A : Option Addr} {n c u : Nat} {b : Wm.Bs} (hu : u ≤ n) (hnc : n ≤ c) :
    ∃ A', (∀ w : World, (Instr.slice 50 (.slice A n c) (some (.int .i64 u)) none none).run Try.prog w = .ok (.slice A' (n - u) (c - u)) w) ∧ ∀ w : World, Sl w 1 A n (U b) → Sl w 1 A' (n - u) (U (b.drop u)) := by
  refine ⟨if c = u then A else A.map (·.add u), fun w => ?_, fun w h => ?_⟩
  · have h1 := run_slice_l (P := Try.prog) (w := w) 50 A n c Try.underlying50 .i64 u (by omega) (by omega)
    have h2 : (sizeOf (Try.prog.elem 50)).run Try.prog w = .ok 1 w := by kernel_rfl
    rw [h1, h2]
    simp [Result.andThen, sliced]
  · by_cases hc : c = u
    · rw [if_pos hc]; exact h.cutEnd hu hnc hc
    · rw [if_neg hc]; exact h.cutB hu hnc hc

theorem isBs_drop {b : Wm.Bs} (h : Wm.isBs b) (p : Nat) : Wm.isBs (b.drop p) := fun x hx => h x (List.mem_of_mem_drop hx)
theorem own_snoc64 {w : World} {B : Nat} {e : TypeId} {v : Value} {a : List Int} {x : Int} (h : w.ownsRow B e 1 v (a.length + 1) (N64 a ++ [Value.int .i64 x])) : w.ownsRow B e 1 v (a ++ [x]).length (N64 (a ++ [x])) := by
  have e1 : (a ++ [x]).length = a.length + 1 := by simp
  have e2 : N64 (a ++ [x]) = N64 a ++ [Value.int .i64 x] := by simp [N64]
  rw [e1, e2]
  exact h

/-- What a decoder of a list answers. -/
def GotInts (r : List Int × Nat × Int) (w : World) (e : Ending) (w' : World) : Prop :=
  ∃ A n c, e = .returned (.tuple #[.slice A n c, .int .i64 r.2.1, .int .i64 r.2.2]) ∧ n ≤ c ∧ c ≤ maxLen ∧ Sl w' 1 A n (N64 r.1) ∧ Later w w'

set_option maxRecDepth 100000 in
set_option maxHeartbeats 400000 in
theorem decodeInts_any (A : Option Addr) (n c : Nat) (b : Wm.Bs) (w : World) (hs : Sl w 1 A n (U b)) (hb : Wm.isBs b) (hnc : n ≤ c) (hn : c ≤ maxLen) (hsm : n ≤ 1000000) :
    Calls Try.prog 41 #[.slice A n c, .int .i64 1, .func (.func 42) #[] #[]] w (GotInts (Wm.decL Wm.decI 1 b) w) := by
  obtain ⟨i0, hi, hz0, hz1, hz2⟩ := info_parts int_info
  have hc := getLength_any A n c b 1 w hs hb (by omega) (by omega) (by omega)
  unfold maxLen at hn
  obtain ⟨z, u, e, hr⟩ : ∃ z u e, Wm.decLen b 1 = (z, u, e) := ⟨_, _, _, rfl⟩
  have H := Lib.hid (Calls.out3 hc hr)
  have hok := Wm.decLen_ok hb (by decide) hr
  rw [hs.blen] at hok
  rcases hok with ⟨he, h1, h2, h3, h4, h5, _⟩ | ⟨hz, hu, he⟩
  · subst he
    obtain ⟨m, rfl⟩ := Int.eq_ofNat_of_zero_le h1
    have hst := Wm.Going.start (get := Wm.decI) hr
    rw [Int.toNat_natCast] at h5
    obtain ⟨fin, hfin⟩ : ∃ fin, Wm.decL Wm.decI 1 b = fin := ⟨_, rfl⟩
    rw [hfin] at hst ⊢
    have hm8 : i0.bytes * m ≤ 281474976710656 := by rw [hz2]; omega
    clear hr hc hfin h1 h2
    have t1 : ((0 : Int) != 0) = false := rfl
    go_enter Try.func41, Try.ntmps41
    go_wp2_with (first
      | (go_at_call 48; refine (H.out).mono ?_; rintro e w' ⟨rfl, rfl⟩)
      | (at_make; refine wpList_make_own _ rfl _ _ 68 rfl w.heap.size 3 i0 (.int .i64 0) 1 Try.underlying68 hi hz0 hz1 _ _ _ m rfl rfl rfl hm8 (by unfold maxLen; omega) (Nat.le_refl _) ?_; intro w1 hown1 hg1))
    have hb1 : Later w w1 := (Below.refl _ _).grown hg1 (Nat.le_refl _) (fun k hk => by cases hk)
    go_loopw [10, 12, 29] (fun at_ lv i wr => ∃ (k p : Nat) (acc : List Int), k ≤ m ∧ p ≤ n ∧ i = .int .i64 k ∧ at_ = .int .i64 p ∧ acc.length ≤ k ∧ Wm.Going Wm.decI b m k acc p fin ∧ wr.ownsRow w.heap.size 3 1 lv acc.length (N64 acc) ∧ Later w wr) (fun _ _ i _ => m - (intOf i).toNat)
    case atStart => exact ⟨0, u, [], Nat.zero_le _, by omega, rfl, rfl, Nat.le_refl _, hst, hown1, hb1⟩
    case round =>
      obtain ⟨k, p, acc, hk, hp, rfl, rfl, hal, hgo, hor, hbr⟩ := hrel
      by_cases hlt : k < m
      · obtain ⟨A', hcut, hsl⟩ := cut_run (A := A) (n := n) (c := c) (u := p) (b := b) hp hnc
        have hs2 := hsl wr (hs.keep hbr)
        have hbd := isBs_drop hb p
        have hlen2 := hs2.blen
        have hc2 := getInt_any A' (n - p) (c - p) (b.drop p) wr hs2 hbd (by unfold maxLen; omega)
        obtain ⟨x, q, e, hr2⟩ : ∃ x q e, Wm.decI (b.drop p) = (x, q, e) := ⟨_, _, _, rfl⟩
        have H2 := Lib.hid (Calls.out3 hc2 hr2)
        have hok2 := Wm.decI_ok hbd hr2
        rw [hlen2] at hok2
        clear hc2 hlen2 hsl
        rcases hok2 with ⟨he, q1, q2, q3, _⟩ | ⟨hx, hq, he⟩
        · subst he
          have hgn := hgo.next hlt hr2
          clear hr2 hgo
          go_wp2_with (first
            | (go_at_call 42; refine (H2.out).mono ?_; rintro e w' ⟨rfl, rfl⟩)
            | (at_builtin; refine wpList_append_own _ rfl _ _ 68 rfl w.heap.size 3 i0 (.int .i64 0) 1 8 Try.underlying68 hi hz0 hz1 hz2 rfl (by decide) _ _ _ rfl (hor.alloc _) ⟨wr.heap.size, 0, none⟩ 1 1 [.int .i64 _] rfl rfl (cell_one_new _ _ _) (one_int _ _) (by unfold maxLen; omega) (by omega) (by have := hbr.size; simp; omega) ?_; intro v' w2 hown' hgrow _))
          have hb2 : Later w w2 := (hbr.alloc hbr.size _).grown hgrow (by have := hbr.size; simp; omega) (fun k hk => (hor.lt k hk).1)
          have ho2 := own_snoc64 hown'
          clear hown' hgrow hor
          go_wp2
          go_roundw
          case rel => exact ⟨k + 1, p + q, _, by omega, by omega, by go_num, by go_num, by simp; omega, hgn, ho2, hb2⟩
          case measure => simp [intOf]; omega
        · subst hx hq
          have hgn := Lib.hid (hgo.bad hlt hr2 (by omega))
          clear hr2 hgo
          have t1 : (e != 0) = true := neq_true (by omega)
          go_wp2_with (go_at_call 42; refine (H2.out).mono ?_; rintro e w' ⟨rfl, rfl⟩)
          go_ret3
          rw [hgn.out]
          exact ⟨none, 0, 0, rfl, Nat.le_refl _, Nat.zero_le _, Sl.nil _ _ _, hbr⟩
      · obtain rfl : k = m := by omega
        have hgn := Lib.hid hgo.end_
        obtain ⟨A2, c2, hv2, hc2, hc3, hs2, _⟩ := own_form hor
        rw [hv2]
        clear hgo hv2
        go_wp2
        go_ret3
        rw [hgn.out]
        exact ⟨A2, _, c2, rfl, hc2, hc3, hs2, hbr⟩
  · subst hz hu
    have hq : Wm.decL Wm.decI 1 b = ([], 0, e) := by unfold Wm.decL; rw [hr]; rw [if_pos (by simp only; omega)]
    have HQ := Lib.hid hq; clear hq hr hc
    have t1 : (e != 0) = true := neq_true (by omega)
    go_enter Try.func41, Try.ntmps41
    go_wp2_with (go_at_call 48; refine (H.out).mono ?_; rintro e w' ⟨rfl, rfl⟩)
    go_ret3
    rw [HQ.out]
    exact ⟨none, 0, 0, rfl, Nat.le_refl _, Nat.zero_le _, Sl.nil _ _ _, Below.refl _ _⟩

theorem Calls.outB {P : Program} {f : FuncId} {args : Array Value} {w : World} {r : Wm.Bs × Nat × Int} {z : Wm.Bs} {u : Nat} {e : Int} (h : Calls P f args w fun x w' => x = .returned (ansB r) ∧ w = w') (hr : r = (z, u, e)) :
    Calls P f args w fun x w' => x = .returned (.tuple #[.string (strOfNums z), .int .i64 u, .int .i64 e]) ∧ w = w' := by subst hr; exact h
/-- Byte strings as cells. -/
def T64 (l : List Wm.Bs) : List Value := l.map fun b => Value.string (strOfNums b)
theorem own_snocT {w : World} {B : Nat} {e : TypeId} {v : Value} {a : List Wm.Bs} {x : Wm.Bs} (h : w.ownsRow B e 1 v (a.length + 1) (T64 a ++ [Value.string (strOfNums x)])) : w.ownsRow B e 1 v (a ++ [x]).length (T64 (a ++ [x])) := by
  have e1 : (a ++ [x]).length = a.length + 1 := by simp
  have e2 : T64 (a ++ [x]) = T64 a ++ [Value.string (strOfNums x)] := by simp [T64]
  rw [e1, e2]
  exact h
theorem one_str (s : ByteArray) : ∀ u ∈ [Value.string s], u.oneCell' = true := by
  intro u hu
  obtain rfl : u = .string s := by simpa using hu
  rfl
def GotStrs (r : List Wm.Bs × Nat × Int) (w : World) (e : Ending) (w' : World) : Prop :=
  ∃ A n c, e = .returned (.tuple #[.slice A n c, .int .i64 r.2.1, .int .i64 r.2.2]) ∧ n ≤ c ∧ c ≤ maxLen ∧ Sl w' 1 A n (T64 r.1) ∧ Later w w'

set_option maxRecDepth 100000 in
set_option maxHeartbeats 400000 in
theorem refGetInts_any (A : Option Addr) (n c : Nat) (b : Wm.Bs) (w : World) (hs : Sl w 1 A n (U b)) (hb : Wm.isBs b) (hnc : n ≤ c) (hn : c ≤ maxLen) (hsm : n ≤ 1000000) :
    Calls Try.prog 38 #[.slice A n c] w (GotInts (Wm.decL Wm.decI 1 b) w) := by
  obtain ⟨i0, hi, hz0, hz1, hz2⟩ := info_parts int_info
  have hc := refLength_any A n c b 1 w hs hb (by omega) (by omega) (by omega)
  unfold maxLen at hn
  obtain ⟨z, u, e, hr⟩ : ∃ z u e, Wm.decLen b 1 = (z, u, e) := ⟨_, _, _, rfl⟩
  have H := Lib.hid (Calls.out3 hc hr)
  have hok := Wm.decLen_ok hb (by decide) hr
  rw [hs.blen] at hok
  rcases hok with ⟨he, h1, h2, h3, h4, h5, _⟩ | ⟨hz, hu, he⟩
  · subst he
    obtain ⟨m, rfl⟩ := Int.eq_ofNat_of_zero_le h1
    have hst := Wm.Going.start (get := Wm.decI) hr
    rw [Int.toNat_natCast] at h5
    obtain ⟨fin, hfin⟩ : ∃ fin, Wm.decL Wm.decI 1 b = fin := ⟨_, rfl⟩
    rw [hfin] at hst ⊢
    clear hr hc hfin h1 h2
    have t1 : ((0 : Int) != 0) = false := rfl
    go_enter Try.func38, Try.ntmps38
    go_wp2_with (go_at_call 43; refine (H.out).mono ?_; rintro e w' ⟨rfl, rfl⟩)
    go_loopw [6, 8, 9] (fun at_ lv i wr => ∃ (k p : Nat) (acc : List Int), k ≤ m ∧ p ≤ n ∧ i = .int .i64 k ∧ at_ = .int .i64 p ∧ acc.length ≤ k ∧ Wm.Going Wm.decI b m k acc p fin ∧ wr.ownsRow w.heap.size 3 1 lv acc.length (N64 acc) ∧ Later w wr) (fun _ _ i _ => m - (intOf i).toNat)
    case atStart => exact ⟨0, u, [], Nat.zero_le _, by omega, rfl, rfl, Nat.le_refl _, hst, World.ownsRow_nil _ _ _ _, Below.refl _ _⟩
    case round =>
      obtain ⟨k, p, acc, hk, hp, rfl, rfl, hal, hgo, hor, hbr⟩ := hrel
      by_cases hlt : k < m
      · obtain ⟨A', hcut, hsl⟩ := cut_run (A := A) (n := n) (c := c) (u := p) (b := b) hp hnc
        have hs2 := hsl wr (hs.keep hbr)
        have hbd := isBs_drop hb p
        have hlen2 := hs2.blen
        have hc2 := refGetInt_any A' (n - p) (c - p) (b.drop p) wr hs2 hbd (by unfold maxLen; omega)
        obtain ⟨x, q, e, hr2⟩ : ∃ x q e, Wm.decI (b.drop p) = (x, q, e) := ⟨_, _, _, rfl⟩
        have H2 := Lib.hid (Calls.out3 hc2 hr2)
        have hok2 := Wm.decI_ok hbd hr2
        rw [hlen2] at hok2
        clear hc2 hlen2 hsl
        rcases hok2 with ⟨he, q1, q2, q3, _⟩ | ⟨hx, hq, he⟩
        · subst he
          have hgn := hgo.next hlt hr2
          clear hr2 hgo
          go_wp2_with (first
            | (go_at_call 44; refine (H2.out).mono ?_; rintro e w' ⟨rfl, rfl⟩)
            | (at_builtin; refine wpList_append_own _ rfl _ _ 68 rfl w.heap.size 3 i0 (.int .i64 0) 1 8 Try.underlying68 hi hz0 hz1 hz2 rfl (by decide) _ _ _ rfl (hor.alloc _) ⟨wr.heap.size, 0, none⟩ 1 1 [.int .i64 _] rfl rfl (cell_one_new _ _ _) (one_int _ _) (by unfold maxLen; omega) (by omega) (by have := hbr.size; simp; omega) ?_; intro v' w2 hown' hgrow _))
          have hb2 : Later w w2 := (hbr.alloc hbr.size _).grown hgrow (by have := hbr.size; simp; omega) (fun k hk => (hor.lt k hk).1)
          have ho2 := own_snoc64 hown'
          clear hown' hgrow hor
          go_wp2
          go_roundw
          case rel => exact ⟨k + 1, p + q, _, by omega, by omega, by go_num, by go_num, by simp; omega, hgn, ho2, hb2⟩
          case measure => simp [intOf]; omega
        · subst hx hq
          have hgn := Lib.hid (hgo.bad hlt hr2 (by omega))
          clear hr2 hgo
          have t1 : (e != 0) = true := neq_true (by omega)
          go_wp2_with (go_at_call 44; refine (H2.out).mono ?_; rintro e w' ⟨rfl, rfl⟩)
          go_ret3
          rw [hgn.out]
          exact ⟨none, 0, 0, rfl, Nat.le_refl _, Nat.zero_le _, Sl.nil _ _ _, hbr⟩
      · obtain rfl : k = m := by omega
        have hgn := Lib.hid hgo.end_
        obtain ⟨A2, c2, hv2, hc2, hc3, hs2, _⟩ := own_form hor
        rw [hv2]
        clear hgo hv2
        go_wp2
        go_ret3
        rw [hgn.out]
        exact ⟨A2, _, c2, rfl, hc2, hc3, hs2, hbr⟩
  · subst hz hu
    have hq : Wm.decL Wm.decI 1 b = ([], 0, e) := by unfold Wm.decL; rw [hr]; rw [if_pos (by simp only; omega)]
    have HQ := Lib.hid hq; clear hq hr hc
    have t1 : (e != 0) = true := neq_true (by omega)
    go_enter Try.func38, Try.ntmps38
    go_wp2_with (go_at_call 43; refine (H.out).mono ?_; rintro e w' ⟨rfl, rfl⟩)
    go_ret3
    rw [HQ.out]
    exact ⟨none, 0, 0, rfl, Nat.le_refl _, Nat.zero_le _, Sl.nil _ _ _, Below.refl _ _⟩

set_option maxHeartbeats 400000 in
theorem wireGetInts_any (A : Option Addr) (n c : Nat) (b : Wm.Bs) (w : World) (hs : Sl w 1 A n (U b)) (hb : Wm.isBs b) (hnc : n ≤ c) (hn : c ≤ maxLen) (hsm : n ≤ 1000000) :
    Calls Try.prog 36 #[.slice A n c] w (GotInts (Wm.decL Wm.decI 1 b) w) := by
  have H := Lib.hid (decodeInts_any A n c b w hs hb hnc hn hsm)
  go_enter Try.func36, Try.ntmps36
  go_wp2_with (go_at_call 41; refine (H.out).mono ?_; rintro e w' ⟨A2, n2, c2, rfl, h1, h2, h3, h4⟩)
  go_ret3
  exact ⟨A2, n2, c2, rfl, h1, h2, h3, h4⟩
end Go.Proofs.Ytdohocbpjpnmeaa
