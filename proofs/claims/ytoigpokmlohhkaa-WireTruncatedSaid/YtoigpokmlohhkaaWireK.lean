/-
  THE WALK OF THE STATEMENTS' sanity check: the document's examples.
-/
import Derived.Test.YtoigpokmlohhkaaWireJ
namespace Go.Proofs.Ytoigpokmlohhkaa
open Go.RowKit

theorem sl_lit (w : World) (b : Wm.Bs) (cells : Array Value) (hc : cells = (U b).toArray) (n : Nat) (hn : n = b.length) : Sl (w.alloc (.cells cells 5)) 1 (some ⟨w.heap.size, 0, none⟩) n (U b) :=
  ⟨by rw [U_length, hn]; omega, fun _ => ⟨_, rfl, by simp, fun j u hu => World.news_of_block (heap_alloc_new w _) j u (by rw [hc]; simpa using hu)⟩⟩

theorem ex1 : Wm.decI [128, 1, 9] = (64, 2, 0) := by decide
theorem ex2 : Wm.decI [128] = (0, 0, 10) := by decide
theorem ex3 : Wm.decI [128, 0] = (0, 0, 11) := by decide
theorem ex4 : Wm.decB [4, 97, 98, 7] = ([97, 98], 3, 0) := by decide
theorem ex5 : Wm.decL Wm.decI 1 [4, 2, 1] = ([1, -1], 3, 0) := by decide
theorem ex8 : Wm.decL Wm.decB 1 [4, 0, 2, 97, 5] = ([[], [97]], 4, 0) := by decide

theorem bs_all {b : Wm.Bs} (h : (b.all fun x => decide (0 ≤ x) && decide (x < 256)) = true) : Wm.isBs b := fun x hx => by
  have := List.all_eq_true.1 h x hx
  simpa using this

theorem s1 (w : World) : Calls Try.prog 11 #[.slice (some ⟨w.heap.size, 0, none⟩) 3 3] (w.alloc (.cells #[.int .u8 128, .int .u8 1, .int .u8 9] 5)) fun e w' =>
    e = .returned (.tuple #[.int .i64 64, .int .i64 2, .int .i64 0]) ∧ Later w w' :=
  (Calls.out3 (getInt_any _ 3 3 [128, 1, 9] _ (sl_lit _ _ _ rfl 3 rfl) (bs_all rfl) (by decide)) ex1).mono fun e w' h => ⟨h.1, by rw [← h.2]; exact (Below.refl _ _).alloc (Nat.le_refl _) _⟩
theorem s2 (w : World) : Calls Try.prog 11 #[.slice (some ⟨w.heap.size, 0, none⟩) 1 1] (w.alloc (.cells #[.int .u8 128] 5)) fun e w' =>
    e = .returned (.tuple #[.int .i64 0, .int .i64 0, .int .i64 10]) ∧ Later w w' :=
  (Calls.out3 (getInt_any _ 1 1 [128] _ (sl_lit _ _ _ rfl 1 rfl) (bs_all rfl) (by decide)) ex2).mono fun e w' h => ⟨h.1, by rw [← h.2]; exact (Below.refl _ _).alloc (Nat.le_refl _) _⟩
theorem s3 (w : World) : Calls Try.prog 11 #[.slice (some ⟨w.heap.size, 0, none⟩) 2 2] (w.alloc (.cells #[.int .u8 128, .int .u8 0] 5)) fun e w' =>
    e = .returned (.tuple #[.int .i64 0, .int .i64 0, .int .i64 11]) ∧ Later w w' :=
  (Calls.out3 (getInt_any _ 2 2 [128, 0] _ (sl_lit _ _ _ rfl 2 rfl) (bs_all rfl) (by decide)) ex3).mono fun e w' h => ⟨h.1, by rw [← h.2]; exact (Below.refl _ _).alloc (Nat.le_refl _) _⟩
theorem s4 (w : World) : Calls Try.prog 12 #[.slice (some ⟨w.heap.size, 0, none⟩) 4 4] (w.alloc (.cells #[.int .u8 4, .int .u8 97, .int .u8 98, .int .u8 7] 5)) fun e w' =>
    e = .returned (.tuple #[.string ⟨#[97, 98]⟩, .int .i64 3, .int .i64 0]) ∧ Later w w' :=
  (Calls.outB (getBytes_any _ 4 4 [4, 97, 98, 7] _ (sl_lit _ _ _ rfl 4 rfl) (bs_all rfl) (by decide) (by decide)) ex4).mono fun e w' h => ⟨h.1, by rw [← h.2]; exact (Below.refl _ _).alloc (Nat.le_refl _) _⟩
theorem s5 (w : World) : Calls Try.prog 13 #[.slice (some ⟨w.heap.size, 0, none⟩) 3 3] (w.alloc (.cells #[.int .u8 4, .int .u8 2, .int .u8 1] 5)) fun e w' =>
    ∃ A n c, e = .returned (.tuple #[.slice A n c, .int .i64 3, .int .i64 0]) ∧ n ≤ c ∧ c ≤ maxLen ∧ Sl w' 1 A n (N64 [1, -1]) ∧ Later w w' :=
  (wireGetInts_any _ 3 3 [4, 2, 1] _ (sl_lit _ _ _ rfl 3 rfl) (bs_all rfl) (by decide) (by decide) (by decide)).mono fun e w' h => by
    rw [ex5] at h
    obtain ⟨A, n, c, he, h1, h2, h3, h4⟩ := h
    exact ⟨A, n, c, he, h1, h2, h3, Later.trans_ ((Below.refl _ _).alloc (Nat.le_refl _) _) h4⟩
theorem s8 (w : World) : Calls Try.prog 14 #[.slice (some ⟨w.heap.size, 0, none⟩) 5 5] (w.alloc (.cells #[.int .u8 4, .int .u8 0, .int .u8 2, .int .u8 97, .int .u8 5] 5)) fun e w' =>
    ∃ A n c, e = .returned (.tuple #[.slice A n c, .int .i64 4, .int .i64 0]) ∧ n ≤ c ∧ c ≤ maxLen ∧ Sl w' 1 A n (Strs [⟨#[]⟩, ⟨#[97]⟩]) ∧ Later w w' :=
  (wireGetStrs_any _ 5 5 [4, 0, 2, 97, 5] _ (sl_lit _ _ _ rfl 5 rfl) (bs_all rfl) (by decide) (by decide) (by decide)).mono fun e w' h => by
    rw [ex8] at h
    obtain ⟨A, n, c, he, h1, h2, h3, h4⟩ := h
    exact ⟨A, n, c, he, h1, h2, h3, Later.trans_ ((Below.refl _ _).alloc (Nat.le_refl _) _) h4⟩

theorem row_lit {t : TypeId} (w : World) (l : List Value) (cells : Array Value) (hc : cells = l.toArray) (n : Nat) (hn : n = l.length) : Sl (w.alloc (.cells cells t)) 1 (some ⟨w.heap.size, 0, none⟩) n l :=
  ⟨by rw [hn]; omega, fun _ => ⟨_, rfl, by simp, fun j u hu => World.news_of_block (heap_alloc_new w _) j u (by rw [hc]; simpa using hu)⟩⟩
theorem sameLit {w : World} {A : Option Addr} {n c : Nat} {b : Wm.Bs} (hs : Sl w 1 A n (U b)) (hb : Wm.isBs b) (cells : Array Value) (hc : cells = (U b).toArray) (m : Nat) (hm : m = b.length) :
    Calls Try.prog 17 #[.slice A n c, .slice (some ⟨w.heap.size, 0, none⟩) m m] (w.alloc (.cells cells 5)) fun e w' => e = .returned (.bool true) ∧ Later w w' :=
  (same_any A _ n c m m b b _ (hs.alloc _) (sl_lit w b cells hc m hm) hb hb).mono fun e w' h => ⟨by rw [h.1]; simp, by rw [← h.2]; exact (Below.refl _ _).alloc (Nat.le_refl _) _⟩
/-- What a maker of bytes answers, in short. -/
def Mk (b : Wm.Bs) (w : World) (e : Ending) (w' : World) : Prop := ∃ A n c, e = .returned (.slice A n c) ∧ n ≤ c ∧ c ≤ maxLen ∧ Sl w' 1 A n (U b) ∧ Later w w'
theorem mk_of {f : FuncId} {args : Array Value} {bs b : Wm.Bs} {w : World} (h : Calls Try.prog f args w (Made bs w)) (hb : bs = b) : Calls Try.prog f args w (Mk b w) := by
  subst hb
  exact (made_as h).mono fun e w' ⟨A, c, he, h1, h2, _, h3, h4⟩ => ⟨A, _, c, he, h1, h2, h3, h4⟩
theorem mk_alloc {f : FuncId} {args : Array Value} {bs b : Wm.Bs} {w : World} {o : Obj} (h : Calls Try.prog f args (w.alloc o) (Made bs (w.alloc o))) (hb : bs = b) : Calls Try.prog f args (w.alloc o) (Mk b w) :=
  (mk_of h hb).mono fun _ _ ⟨A, n, c, he, h1, h2, h4, h5⟩ => ⟨A, n, c, he, h1, h2, h4, Later.trans_ ((Below.refl _ _).alloc (Nat.le_refl _) _) h5⟩

theorem enc1 : Wm.encI 1 = [2] := by unfold Wm.encI; rw [Wm.encN_small (by decide)]; rfl
theorem encm1 : Wm.encI (-1) = [1] := by unfold Wm.encI; rw [Wm.encN_small (by decide)]; rfl
theorem enc0 : Wm.encI 0 = [0] := by unfold Wm.encI; rw [Wm.encN_small (by decide)]; rfl
theorem enc2 : Wm.encI 2 = [4] := by unfold Wm.encI; rw [Wm.encN_small (by decide)]; rfl
theorem encm65 : Wm.encI (-65) = [129, 1] := by
  unfold Wm.encI
  rw [Wm.encN_big (by decide), Wm.encN_small (by decide)]
  rfl
def dd : Wm.Bs := [1, 2, 0, 0, 0, 0, 0, 0, 0, 0, 0, 0, 0, 0, 0, 0]
theorem ddD : isD [dd] := fun d hd => by
  rw [List.mem_singleton.1 hd]; exact ⟨rfl, bs_all rfl⟩
theorem ex6 : encD [dd] = 2 :: dd := by
  unfold encD Wm.encL
  rw [show (([dd] : List Wm.Bs).length : Int) = 1 from rfl, enc1]
  rfl
theorem ex7 : Wm.decL decD 16 (2 :: dd) = ([dd], 17, 0) := by decide
theorem exS : Wm.encL encT [⟨#[]⟩, ⟨#[97]⟩] = [4, 0, 2, 97] := by
  unfold Wm.encL encT Wm.encB
  rw [show (([⟨#[]⟩, ⟨#[97]⟩] : List ByteArray).length : Int) = 2 from rfl, enc2]
  rw [List.flatMap_cons, List.flatMap_cons, List.flatMap_nil, show ((Wm.ofS ⟨#[]⟩).length : Int) = 0 from rfl, show ((Wm.ofS ⟨#[97]⟩).length : Int) = 1 from rfl, enc0, enc1]
  rfl
theorem exI : Wm.encL Wm.encI [1, -1] = [4, 2, 1] := by
  unfold Wm.encL
  rw [show (([1, -1] : List Int).length : Int) = 2 from rfl, enc2, List.flatMap_cons, List.flatMap_cons, List.flatMap_nil, enc1, encm1]
  rfl
theorem exB : Wm.encB (Wm.ofS ⟨#[97, 98]⟩) = [4, 97, 98] := by
  unfold Wm.encB
  rw [show ((Wm.ofS ⟨#[97, 98]⟩).length : Int) = 2 from rfl, enc2]
  rfl

theorem sl_dig (w : World) : Sl ((w.alloc (.cells #[.int .u8 1, .int .u8 2, .int .u8 0, .int .u8 0, .int .u8 0, .int .u8 0, .int .u8 0, .int .u8 0, .int .u8 0, .int .u8 0, .int .u8 0, .int .u8 0, .int .u8 0, .int .u8 0, .int .u8 0, .int .u8 0] 47)).alloc (.cells #[.int .u8 1, .int .u8 2, .int .u8 0, .int .u8 0, .int .u8 0, .int .u8 0, .int .u8 0, .int .u8 0, .int .u8 0, .int .u8 0, .int .u8 0, .int .u8 0, .int .u8 0, .int .u8 0, .int .u8 0, .int .u8 0] 47)) 16 (some ⟨w.heap.size + 1, 0, none⟩) 1 (Ds [dd]) :=
  ⟨rfl, fun _ => ⟨_, rfl, by simp, fun j u hu => World.news_of_block (heap_alloc2_new w _ _) j u hu⟩⟩
theorem s6 (w : World) : Calls Try.prog 10 #[.slice (some ⟨w.heap.size + 1, 0, none⟩) 1 1] ((w.alloc (.cells #[.int .u8 1, .int .u8 2, .int .u8 0, .int .u8 0, .int .u8 0, .int .u8 0, .int .u8 0, .int .u8 0, .int .u8 0, .int .u8 0, .int .u8 0, .int .u8 0, .int .u8 0, .int .u8 0, .int .u8 0, .int .u8 0] 47)).alloc (.cells #[.int .u8 1, .int .u8 2, .int .u8 0, .int .u8 0, .int .u8 0, .int .u8 0, .int .u8 0, .int .u8 0, .int .u8 0, .int .u8 0, .int .u8 0, .int .u8 0, .int .u8 0, .int .u8 0, .int .u8 0, .int .u8 0] 47)) fun e w' =>
    Mk (2 :: dd) w e w' ∧ w'.heap[w.heap.size]? = some (.cells #[.int .u8 1, .int .u8 2, .int .u8 0, .int .u8 0, .int .u8 0, .int .u8 0, .int .u8 0, .int .u8 0, .int .u8 0, .int .u8 0, .int .u8 0, .int .u8 0, .int .u8 0, .int .u8 0, .int .u8 0, .int .u8 0] 47 (0, 0)) := by
  have h := wireDigs_any _ 1 1 [dd] _ (sl_dig w) ddD (by decide) (by rw [ex6]; decide)
  refine (mk_of h ex6).mono fun e w' ⟨A, n, c, he, h1, h2, h4, h5⟩ => ⟨⟨A, n, c, he, h1, h2, h4, Later.trans_ (((Below.refl _ _).alloc (Nat.le_refl _) _).alloc (by simp) _) h5⟩, ?_⟩
  exact (h5.block w.heap.size (by simp; omega)).trans (heap_alloc2_old w _ _)
theorem s7 {w : World} {A : Option Addr} {n c : Nat} (hs : Sl w 1 A n (U (2 :: dd))) (h1 : n ≤ c) (h2 : c ≤ maxLen) : Calls Try.prog 15 #[.slice A n c] w fun e w' =>
    ∃ A n c, e = .returned (.tuple #[.slice A n c, .int .i64 17, .int .i64 0]) ∧ n ≤ maxLen ∧ Sl w' 16 A n (Ds [dd]) ∧ Later w w' :=
  (wireGetDigs_any A n c (2 :: dd) w hs (bs_all rfl) h1 h2 (by rw [← hs.blen]; decide)).mono fun e w' h => by
    rw [ex7] at h
    obtain ⟨A, n, c, he, g1, g2, g3, g4⟩ := h
    exact ⟨A, n, c, he, by omega, g3, g4⟩

theorem sT {w : World} {A : Option Addr} {n c : Nat} (hs : Sl w 1 A n (Strs [⟨#[]⟩, ⟨#[97]⟩])) (h1 : n ≤ c) (h2 : c ≤ maxLen) : Calls Try.prog 16 #[.slice A n c, .slice (some ⟨w.heap.size, 0, none⟩) 2 2]
    (w.alloc (.cells #[.string ⟨#[]⟩, .string ⟨#[97]⟩] 9)) fun e w' => e = .returned (.bool true) ∧ Later w w' :=
  (sameTexts_any A _ n c 2 2 _ _ _ (hs.alloc _) (row_lit w (Strs [⟨#[]⟩, ⟨#[97]⟩]) _ rfl 2 rfl) (by omega) (by decide)).mono fun e w' h => ⟨by rw [h.1]; simp, Later.trans_ ((Below.refl _ _).alloc (Nat.le_refl _) _) h.2⟩
theorem sI {w : World} {A : Option Addr} {n c : Nat} (hs : Sl w 1 A n (N64 [1, -1])) (h1 : n ≤ c) (h2 : c ≤ maxLen) : Calls Try.prog 18 #[.slice A n c, .slice (some ⟨w.heap.size, 0, none⟩) 2 2]
    (w.alloc (.cells #[.int .i64 1, .int .i64 (-1)] 3)) fun e w' => e = .returned (.bool true) ∧ Later w w' :=
  (sameInts_any A _ n c 2 2 _ _ _ (hs.alloc _) (row_lit w (N64 [1, -1]) _ rfl 2 rfl) (by omega) (by decide)).mono fun e w' h => ⟨by rw [h.1]; simp, Later.trans_ ((Below.refl _ _).alloc (Nat.le_refl _) _) h.2⟩
theorem m20 (w : World) : Calls Try.prog 9 #[.slice (some ⟨w.heap.size, 0, none⟩) 2 2] (w.alloc (.cells #[.string ⟨#[]⟩, .string ⟨#[97]⟩] 9)) (Mk [4, 0, 2, 97] w) :=
  mk_alloc (wireStrs_any _ 2 2 [⟨#[]⟩, ⟨#[97]⟩] _ (row_lit w (Strs [⟨#[]⟩, ⟨#[97]⟩]) _ rfl 2 rfl) (fun s hs => by
    rcases List.mem_cons.1 hs with rfl | hs
    · decide
    · rw [List.mem_singleton.1 hs]; decide) (by decide) (by rw [exS]; decide)) exS
theorem m18 (w : World) : Calls Try.prog 8 #[.slice (some ⟨w.heap.size, 0, none⟩) 2 2] (w.alloc (.cells #[.int .i64 1, .int .i64 (-1)] 3)) (Mk [4, 2, 1] w) :=
  mk_alloc (wireInts_any _ 2 2 [1, -1] _ (row_lit w (N64 [1, -1]) _ rfl 2 rfl) (fun s hs => by
    rcases List.mem_cons.1 hs with rfl | hs
    · decide
    · rw [List.mem_singleton.1 hs]; decide) (by decide) (by rw [exI]; decide)) exI
theorem m14 (w : World) : Calls Try.prog 6 #[.int .i64 (-65)] w (Mk [129, 1] w) := mk_of (wireInt_any (-65) w (by decide) (by decide)) encm65
theorem m16 (w : World) : Calls Try.prog 7 #[.string ⟨#[97, 98]⟩] w (Mk [4, 97, 98] w) := mk_of (wireBytes_any ⟨#[97, 98]⟩ w (by decide) (by rw [exB]; decide)) exB
theorem sD {w : World} {A : Option Addr} {n c : Nat} (hs : Sl w 16 A n (Ds [dd])) (h1 : n ≤ maxLen) (cells : Array Value) (hc : cells = (U dd).toArray) : Calls Try.prog 19 #[.slice A n c, .slice (some ⟨w.heap.size, 0, none⟩) 1 1]
    (w.alloc (.cells cells 47)) fun e w' => e = .returned (.bool true) ∧ Later w w' :=
  (sameDigs_any A _ n c 1 1 [dd] [dd] _ (hs.alloc _) ⟨rfl, fun _ => ⟨_, rfl, by simp, fun j u hu => World.news_of_block (heap_alloc_new w _) j u (by rw [hc]; exact hu)⟩⟩ ddD ddD h1 (by decide)).mono fun e w' h => ⟨by rw [h.1]; simp, Later.trans_ ((Below.refl _ _).alloc (Nat.le_refl _) _) h.2⟩

set_option maxRecDepth 100000 in
set_option maxHeartbeats 2000000 in
theorem sanity_any (w : World) : Calls Try.prog 5 #[] w fun e w' => e = .returned (.bool true) ∧ Later w w' := by
  go_enter Try.func5, Try.ntmps5
  go_wp2_with fail
  refine (s1 w).mono ?_
  rintro e w1 ⟨rfl, k1⟩
  go_wp2_with fail
  refine (s2 w1).mono ?_
  rintro e w2 ⟨rfl, k2⟩
  replace k2 := Later.trans_ k1 k2
  clear k1
  go_wp2_with fail
  refine (s3 w2).mono ?_
  rintro e w3 ⟨rfl, k3⟩
  replace k3 := Later.trans_ k2 k3
  clear k2
  go_wp2_with fail
  refine (s4 w3).mono ?_
  rintro e w4 ⟨rfl, k4⟩
  replace k4 := Later.trans_ k3 k4
  clear k3
  go_wp2_with fail
  refine (s5 w4).mono ?_
  rintro e w5 ⟨A5, n5, c5, rfl, p1, p2, p3, k5⟩
  replace k5 := Later.trans_ k4 k5
  clear k4
  go_wp2_with fail
  refine (s6 w5).mono ?_
  rintro e w6 ⟨⟨A6, n6, c6, rfl, q1, q2, q4, q6⟩, hd⟩
  have q5 := Later.trans_ k5 q6
  have hlt6 : w5.heap.size < w6.heap.size := by
    rcases Nat.lt_or_ge w5.heap.size w6.heap.size with h | h
    · exact h
    · rw [Array.getElem?_eq_none h] at hd; cases hd
  go_wp2_with fail
  refine (s7 q4 q1 q2).mono ?_
  rintro e w7 ⟨A7, n7, c7, rfl, r1, r2, k7⟩
  replace p3 := p3.keep (Later.trans_ q6 k7)
  replace hd := (k7.block w5.heap.size hlt6).trans hd
  have hle67 := k7.size
  replace k7 := Later.trans_ q5 k7
  clear q5 q6 k5
  go_wp2_with fail
  refine (s8 w7).mono ?_
  rintro e w8 ⟨A8, n8, c8, rfl, u1, u2, u3, k8⟩
  replace p3 := p3.keep k8
  replace r2 := r2.keep k8
  go_wp2_with fail
  have hk8 := Later.trans_ k7 k8
  replace hd := (k8.block w5.heap.size (Nat.lt_of_lt_of_le hlt6 hle67)).trans hd
  refine (sT u3 u1 u2).mono ?_
  rintro e w9 ⟨rfl, k9⟩
  replace p3 := p3.keep k9
  replace r2 := r2.keep k9
  replace hk8 := Later.trans_ hk8 k9
  go_wp2_with fail
  refine (m20 w9).mono ?_
  rintro e w10 ⟨Aa, na, ca, rfl, _, _, v1, k10⟩
  go_wp2_with fail
  refine (sameLit v1 (bs_all rfl) _ rfl 4 rfl).mono ?_
  rintro e w11 ⟨rfl, k11⟩
  replace k11 := Later.trans_ k10 k11
  replace p3 := p3.keep k11
  replace r2 := r2.keep k11
  replace hk8 := Later.trans_ hk8 k11
  go_wp2_with fail
  refine (m14 w11).mono ?_
  rintro e w12 ⟨Ab, nb, cb, rfl, _, _, v2, k12⟩
  go_wp2_with fail
  refine (sameLit v2 (bs_all rfl) _ rfl 2 rfl).mono ?_
  rintro e w13 ⟨rfl, k13⟩
  replace k13 := Later.trans_ k12 k13
  replace p3 := p3.keep k13
  replace r2 := r2.keep k13
  replace hk8 := Later.trans_ hk8 k13
  go_wp2_with fail
  refine (sI p3 p1 p2).mono ?_
  rintro e w14 ⟨rfl, k14⟩
  replace r2 := r2.keep k14
  replace hk8 := Later.trans_ hk8 k14
  go_wp2_with fail
  refine (m16 w14).mono ?_
  rintro e w15 ⟨Ac, nc, cc, rfl, _, _, v3, k15⟩
  go_wp2_with fail
  refine (sameLit v3 (bs_all rfl) _ rfl 3 rfl).mono ?_
  rintro e w16 ⟨rfl, k16⟩
  replace k16 := Later.trans_ k15 k16
  replace r2 := r2.keep k16
  replace hk8 := Later.trans_ hk8 k16
  go_wp2_with fail
  refine (m18 w16).mono ?_
  rintro e w17 ⟨Ad, nd, cd, rfl, _, _, v4, k17⟩
  go_wp2_with fail
  refine (sameLit v4 (bs_all rfl) _ rfl 3 rfl).mono ?_
  rintro e w18 ⟨rfl, k18⟩
  replace k18 := Later.trans_ k17 k18
  replace r2 := r2.keep k18
  replace hk8 := Later.trans_ hk8 k18
  have hfar := Later.trans_ (Later.trans_ (Later.trans_ (Later.trans_ (Later.trans_ k9 k11) k13) k14) k16) k18
  have hd18 := (hfar.block w5.heap.size (by have := k8.size; omega)).trans hd
  have hcell : ∀ j, w18.cell? ⟨w5.heap.size, j, none⟩ = (#[.int .u8 1, .int .u8 2, .int .u8 0, .int .u8 0, .int .u8 0, .int .u8 0, .int .u8 0, .int .u8 0, .int .u8 0, .int .u8 0, .int .u8 0, .int .u8 0, .int .u8 0, .int .u8 0, .int .u8 0, .int .u8 0] : Array Value)[j]? := fun j => cell_of_row w18 _ j _ _ _ hd18
  clear hd hd18 hfar
  go_wp2_with fail
  refine (sD r2 r1 _ rfl).mono ?_
  rintro e w19 ⟨rfl, k19⟩
  replace hk8 := Later.trans_ hk8 k19
  clear hcell
  go_wp2_with fail
  go_ret
  exact ⟨rfl, hk8⟩

end Go.Proofs.Ytoigpokmlohhkaa
