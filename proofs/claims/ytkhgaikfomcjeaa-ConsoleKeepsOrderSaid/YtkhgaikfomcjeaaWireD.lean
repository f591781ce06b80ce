/-
  THE WALKS OF wire.getLength, the reference's length; wire.GetBytes and the reference's.
-/
import Derived.Test.YtkhgaikfomcjeaaWireC
import Derived.Test.YtkhgaikfomcjeaaWireList
namespace Go.Proofs.Ytkhgaikfomcjeaa
open Go.RowKit

theorem neq_false {a b : Int} (h : a = b) : (a != b) = false := by rw [h]; simp
theorem neq_true {a b : Int} (h : a ≠ b) : (a != b) = true := by simpa using h
theorem eq_false {a b : Int} (h : a ≠ b) : (a == b) = false := by simpa using h
theorem eq_true {a b : Int} (h : a = b) : (a == b) = true := by simpa using h

/-- A contract's answer, written out. -/
theorem Calls.out3 {P : Program} {f : FuncId} {args : Array Value} {w : World} {r : Int × Nat × Int} {z : Int} {u : Nat} {e : Int} (h : Calls P f args w fun x w' => x = .returned (ans r) ∧ w = w') (hr : r = (z, u, e)) :
    Calls P f args w fun x w' => x = .returned (.tuple #[.int .i64 z, .int .i64 u, .int .i64 e]) ∧ w = w' := by subst hr; exact h

theorem len_cast (n u least : Nat) (h : u ≤ n) : (((n - u) / least : Nat) : Int) = ((n : Int) - u) / least := by
  rw [show ((n : Int) - u) = ((n - u : Nat) : Int) by omega]; rfl

set_option maxRecDepth 100000 in
set_option maxHeartbeats 400000 in
theorem getLength_any (A : Option Addr) (n c : Nat) (b : Wm.Bs) (least : Nat) (w : World) (hs : Sl w 1 A n (U b)) (hb : Wm.isBs b) (hn : n ≤ maxLen) (hl : 1 ≤ least) (hl2 : least ≤ 1000) :
    Calls Try.prog 33 #[.slice A n c, .int .i64 least] w fun e w' => e = .returned (ans (Wm.decLen b least)) ∧ w = w' := by
  have hc := getInt_any A n c b w hs hb hn
  unfold maxLen at hn
  obtain ⟨z, u, e, hr⟩ : ∃ z u e, Wm.decI b = (z, u, e) := ⟨_, _, _, rfl⟩
  have hq : Wm.decLen b least = if e ≠ 0 then (0, 0, e) else if z < 0 then (0, 0, 11) else if (((b.length - u) / least : Nat) : Int) < z then (0, 0, 10) else (z, u, 0) := by unfold Wm.decLen; rw [hr]
  rw [hs.blen] at hq
  have H := Lib.hid (Calls.out3 hc hr)
  have hok := Wm.decI_ok hb hr
  rw [hs.blen] at hok
  clear hr hc
  rcases hok with ⟨he, h1, h2, h3, h4, h5, _⟩ | ⟨hz, hu, he⟩
  · subst he
    rw [if_neg (by simp), len_cast n u least h3] at hq
    have HQ := Lib.hid hq; clear hq
    have t1 : ((0 : Int) != 0) = false := rfl
    go_enter Try.func33, Try.ntmps33
    go_wp2_with (go_at_call 25; refine (H.out).mono ?_; rintro e w' ⟨rfl, rfl⟩)
    · go_ret3
      have q : Wm.decLen b least = (0, 0, 11) := by rw [HQ.out, if_pos (by assumption)]
      exact ⟨ret_ans (by rw [q]) (by rw [q]; rfl) (by rw [q]), rfl⟩
    · go_ret3
      have q : Wm.decLen b least = (0, 0, 10) := by rw [HQ.out, if_neg (by omega), if_pos (by assumption)]
      exact ⟨ret_ans (by rw [q]) (by rw [q]; rfl) (by rw [q]), rfl⟩
    · go_ret3
      have q : Wm.decLen b least = (z, u, 0) := by rw [HQ.out, if_neg (by omega), if_neg (by omega)]
      exact ⟨ret_ans (by rw [q]) (by rw [q]) (by rw [q]), rfl⟩
  · subst hz hu
    rw [if_pos (by omega)] at hq
    have HQ := Lib.hid hq; clear hq
    have t1 : (e != 0) = true := neq_true (by omega)
    go_enter Try.func33, Try.ntmps33
    go_wp2_with (go_at_call 25; refine (H.out).mono ?_; rintro e w' ⟨rfl, rfl⟩)
    go_ret3
    exact ⟨ret_ans (by rw [HQ.out]) (by rw [HQ.out]; rfl) (by rw [HQ.out]), rfl⟩

/-- A byte string, a length and an error, as they are handed back. -/
def ansB (r : Wm.Bs × Nat × Int) : Value := .tuple #[.string (strOfNums r.1), .int .i64 r.2.1, .int .i64 r.2.2]

set_option maxRecDepth 100000 in
set_option maxHeartbeats 400000 in
theorem getBytes_any (A : Option Addr) (n c : Nat) (b : Wm.Bs) (w : World) (hs : Sl w 1 A n (U b)) (hb : Wm.isBs b) (hnc : n ≤ c) (hn : c ≤ maxLen) :
    Calls Try.prog 24 #[.slice A n c] w fun e w' => e = .returned (ansB (Wm.decB b)) ∧ w = w' := by
  have hc := getLength_any A n c b 1 w hs hb (by omega) (by omega) (by omega)
  unfold maxLen at hn
  obtain ⟨z, u, e, hr⟩ : ∃ z u e, Wm.decLen b 1 = (z, u, e) := ⟨_, _, _, rfl⟩
  have hq : Wm.decB b = if e ≠ 0 then ([], 0, e) else ((b.drop u).take z.toNat, u + z.toNat, 0) := by unfold Wm.decB; rw [hr]
  have H := Lib.hid (Calls.out3 hc hr)
  have hok := Wm.decLen_ok hb (by decide) hr
  rw [hs.blen] at hok
  clear hr hc
  rcases hok with ⟨he, h1, h2, h3, h4, h5, _⟩ | ⟨hz, hu, he⟩
  · subst he
    rw [if_neg (by simp)] at hq
    have HQ := Lib.hid hq; clear hq
    obtain ⟨m, rfl⟩ := Int.eq_ofNat_of_zero_le h1
    rw [Int.toNat_natCast] at h5 HQ
    have t1 : ((0 : Int) != 0) = false := rfl
    rcases Nat.lt_or_ge u c with hcu | hcu
    · have hcv := run_str (P := Try.prog) 29 9 5 Try.underlying29 Try.underlying5 Try.underlying9 ((hs.cutB (k := u) (by omega) hnc (by omega)).frontB (k := m) (by omega)) (c - u)
      go_enter Try.func24, Try.ntmps24
      go_wp2_with (go_at_call 33; refine (H.out).mono ?_; rintro e w' ⟨rfl, rfl⟩)
      go_ret3
      exact ⟨by rw [HQ.out]; rfl, rfl⟩
    · obtain rfl : c = u := by omega
      obtain rfl : m = 0 := by omega
      have hcv := run_str (P := Try.prog) 29 9 5 Try.underlying29 Try.underlying5 Try.underlying9 ((hs.cutEnd (k := c) (by omega) hnc rfl).frontB (k := 0) (by omega)) 0
      go_enter Try.func24, Try.ntmps24
      go_wp2_with (go_at_call 33; refine (H.out).mono ?_; rintro e w' ⟨rfl, rfl⟩)
      go_ret3
      exact ⟨by rw [HQ.out]; rfl, rfl⟩
  · subst hz hu
    rw [if_pos (by omega)] at hq
    have HQ := Lib.hid hq; clear hq
    have t1 : (e != 0) = true := neq_true (by omega)
    go_enter Try.func24, Try.ntmps24
    go_wp2_with (go_at_call 33; refine (H.out).mono ?_; rintro e w' ⟨rfl, rfl⟩)
    go_ret3
    exact ⟨by rw [HQ.out]; rfl, rfl⟩

set_option maxRecDepth 100000 in
set_option maxHeartbeats 400000 in
theorem refGetBytes_any (A : Option Addr) (n c : Nat) (b : Wm.Bs) (w : World) (hs : Sl w 1 A n (U b)) (hb : Wm.isBs b) (hnc : n ≤ c) (hn : c ≤ maxLen) :
    Calls Try.prog 26 #[.slice A n c] w fun e w' => e = .returned (ansB (Wm.decB b)) ∧ w = w' := by
  have hc := refGetInt_any A n c b w hs hb (by omega)
  unfold maxLen at hn
  obtain ⟨z, u, e, hr⟩ : ∃ z u e, Wm.decI b = (z, u, e) := ⟨_, _, _, rfl⟩
  have hq : Wm.decLen b 1 = if e ≠ 0 then (0, 0, e) else if z < 0 then (0, 0, 11) else if (((b.length - u) / 1 : Nat) : Int) < z then (0, 0, 10) else (z, u, 0) := by unfold Wm.decLen; rw [hr]
  rw [hs.blen, Nat.div_one] at hq
  have H := Lib.hid (Calls.out3 hc hr)
  have hok := Wm.decI_ok hb hr
  rw [hs.blen] at hok
  clear hr hc
  rcases hok with ⟨he, h1, h2, h3, h4, h5, _⟩ | ⟨hz, hu, he⟩
  · subst he
    rw [if_neg (by simp)] at hq
    have t1 : ((0 : Int) != 0) = false := rfl
    rcases Int.lt_or_le z 0 with hz0 | hz0
    · rw [if_pos hz0] at hq
      have hB : Wm.decB b = ([], 0, 11) := by unfold Wm.decB; rw [hq]; rfl
      have HQ := Lib.hid hB; clear hB hq
      go_enter Try.func26, Try.ntmps26
      go_wp2_with (go_at_call 27; refine (H.out).mono ?_; rintro e w' ⟨rfl, rfl⟩)
      go_ret3
      exact ⟨by rw [HQ.out]; rfl, rfl⟩
    · rw [if_neg (by omega)] at hq
      obtain ⟨m, rfl⟩ := Int.eq_ofNat_of_zero_le hz0
      rcases Int.lt_or_le ((n : Int) - u) m with hm | hm
      · rw [if_pos (by omega)] at hq
        have hB : Wm.decB b = ([], 0, 10) := by unfold Wm.decB; rw [hq]; rfl
        have HQ := Lib.hid hB; clear hB hq
        go_enter Try.func26, Try.ntmps26
        go_wp2_with (go_at_call 27; refine (H.out).mono ?_; rintro e w' ⟨rfl, rfl⟩)
        go_ret3
        exact ⟨by rw [HQ.out]; rfl, rfl⟩
      · rw [if_neg (by omega)] at hq
        have hB : Wm.decB b = ((b.drop u).take m, u + m, 0) := by unfold Wm.decB; rw [hq]; rfl
        have HQ := Lib.hid hB; clear hB hq
        rcases Nat.lt_or_ge u c with hcu | hcu
        · have hcv := run_str (P := Try.prog) 29 9 5 Try.underlying29 Try.underlying5 Try.underlying9 ((hs.cutB (k := u) (by omega) hnc (by omega)).frontB (k := m) (by omega)) (c - u)
          go_enter Try.func26, Try.ntmps26
          go_wp2_with (go_at_call 27; refine (H.out).mono ?_; rintro e w' ⟨rfl, rfl⟩)
          go_ret3
          exact ⟨by rw [HQ.out]; rfl, rfl⟩
        · obtain rfl : c = u := by omega
          obtain rfl : m = 0 := by omega
          have hcv := run_str (P := Try.prog) 29 9 5 Try.underlying29 Try.underlying5 Try.underlying9 ((hs.cutEnd (k := c) (by omega) hnc rfl).frontB (k := 0) (by omega)) 0
          go_enter Try.func26, Try.ntmps26
          go_wp2_with (go_at_call 27; refine (H.out).mono ?_; rintro e w' ⟨rfl, rfl⟩)
          go_ret3
          exact ⟨by rw [HQ.out]; rfl, rfl⟩
  · subst hz hu
    rw [if_pos (by omega)] at hq
    have hB : Wm.decB b = ([], 0, e) := by unfold Wm.decB; rw [hq]; rw [if_pos (by simp only; omega)]
    have HQ := Lib.hid hB; clear hB hq
    have t1 : (e != 0) = true := neq_true (by omega)
    go_enter Try.func26, Try.ntmps26
    go_wp2_with (go_at_call 27; refine (H.out).mono ?_; rintro e w' ⟨rfl, rfl⟩)
    go_ret3
    exact ⟨by rw [HQ.out]; rfl, rfl⟩

end Go.Proofs.Ytkhgaikfomcjeaa
