/-
  THE WALK OF the reference's Write.
-/
import Derived.Test.YtffgbbfcbobecaaMemK
namespace Go.Proofs.Ytffgbbfcbobecaa
open Go.RowKit Go.ChangeShapes Go.WideShapes Go.ChangeAt

set_option maxRecDepth 100000 in
set_option maxHeartbeats 1000000 in
theorem rwrite_none (ad : Addr) (n c : Nat) (a : Int) (s : ByteArray) (b : Wm.Bs) (w : World) (hs : Sl w 128 (some ad) n (U b)) (hn1 : 1 ≤ n) (hn : n ≤ 64) (hnc : n ≤ c) (hc : c ≤ maxLen) (ha : -9223372036854775808 ≤ a ∧ a ≤ 9223372036854775807) (h : ¬ Mm.Inside (n * 128) a s.size) :
    Calls Try.prog 53 #[.agg #[.slice (some ad) n c], .int .i64 a, .string s] w (GotS n b false w) := by
  have HS := Lib.hid fun w' => rsize_any (some ad) n c w' hn
  have hlt : ad.block < w.heap.size := by obtain ⟨_, e, h, _⟩ := hs.2 (by omega); cases e; exact h
  obtain ⟨L, hL⟩ : ∃ L, L = n * 128 := ⟨_, rfl⟩
  rw [← hL] at HS h
  have hL2 : L ≤ 8192 := by omega
  have hh : a < 0 ∨ (0 ≤ a ∧ (L : Int) < a) ∨ (0 ≤ a ∧ a ≤ L ∧ (L : Int) - a < s.size) := by unfold Mm.Inside at h; omega
  clear h hL
  have bP := (Blk.new w 24 #[.slice (some ad) n c] [.slice (some ad) n c] rfl).alloc (.cells #[.slice none 0 0, .bool false] 91)
  have bR := Blk.new' (w.alloc (.cells #[.slice (some ad) n c] 24)) (w.heap.size + 1) 91 #[.slice none 0 0, .bool false] [.slice none 0 0, .bool false] (by simp) rfl
  have l0 : Later w ((w.alloc (.cells #[.slice (some ad) n c] 24)).alloc (.cells #[.slice none 0 0, .bool false] 91)) := (later1 w _).alloc (by simp) _
  rcases hh with h1 | ⟨h1, h3⟩ | ⟨h1, h3, h4⟩
  · have d1 : decide (a < 0) = true := decide_eq_true h1
    go_enter Try.func53, Try.ntmps53
    go_wp2
    exact bodyPost_ret (results_blk Try.results53 _ _ (w.heap.size + 1) 91 [.slice (some ad) n c, .bool false] _ rfl (Blk.new' (w.alloc (.cells #[.slice (some ad) n c] 24)) (w.heap.size + 1) 91 #[.slice (some ad) n c, .bool false] [.slice (some ad) n c, .bool false] (by simp) rfl) Try.underlying91 rfl (sto_sz _ _)) rfl ⟨_, _, rfl, hnc, hc, hs.keep ((later1 w _).alloc (by simp) _), (later1 w _).alloc (by simp) _⟩
  · have d1 : decide (a < 0) = false := decide_eq_false (by omega)
    have d3 : decide ((L : Int) < a) = true := decide_eq_true h3
    go_enter Try.func53, Try.ntmps53
    go_wp2_with (first
      | (go_at_call 39; refine (HS.out _).mono ?_; rintro e w1 ⟨rfl, l1⟩; replace bP := bP.keep l1; have p0 := bP.cell (j := 0) (v := .slice (some ad) n c) rfl; replace bR := bR.keep l1; have c0 := bR.cell (j := 0) (v := .slice none 0 0) rfl; have c1 := bR.cell (j := 1) (v := .bool false) rfl; have f0 := bR.frz 0; have f1 := bR.frz 1))
    exact bodyPost_ret (results_blk Try.results53 _ _ (w.heap.size + 1) 91 [.slice (some ad) n c, .bool false] _ rfl ((bR.set 0 _).set 1 _) Try.underlying91 rfl (sto_sz _ _)) rfl ⟨_, _, rfl, hnc, hc, ((hs.keep (Later.trans_ l0 l1)).only_ne (Only.set _ (w.heap.size + 1) 0 _) (fun _ e => by cases e; omega)).only_ne (Only.set _ (w.heap.size + 1) 1 _) (fun _ e => by cases e; omega), ((Later.trans_ l0 l1).setCell (by simp) _).setCell (by simp) _⟩
  · have d1 : decide (a < 0) = false := decide_eq_false (by omega)
    have d3 : decide ((L : Int) < a) = false := decide_eq_false (by omega)
    go_enter Try.func53, Try.ntmps53
    go_wp2_with (first
      | (go_at_call 39; refine (HS.out w1).mono ?_; rintro e w2 ⟨rfl, l2⟩; clear p0 c0 c1 f0 f1; replace bP := bP.keep l2; have p0 := bP.cell (j := 0) (v := .slice (some ad) n c) rfl; replace bR := bR.keep l2; have c0 := bR.cell (j := 0) (v := .slice none 0 0) rfl; have c1 := bR.cell (j := 1) (v := .bool false) rfl; have f0 := bR.frz 0; have f1 := bR.frz 1)
      | (go_at_call 39; refine (HS.out _).mono ?_; rintro e w1 ⟨rfl, l1⟩; replace bP := bP.keep l1; have p0 := bP.cell (j := 0) (v := .slice (some ad) n c) rfl; replace bR := bR.keep l1; have c0 := bR.cell (j := 0) (v := .slice none 0 0) rfl; have c1 := bR.cell (j := 1) (v := .bool false) rfl; have f0 := bR.frz 0; have f1 := bR.frz 1))
    exact bodyPost_ret (results_blk Try.results53 _ _ (w.heap.size + 1) 91 [.slice (some ad) n c, .bool false] _ rfl ((bR.set 0 _).set 1 _) Try.underlying91 rfl (sto_sz _ _)) rfl ⟨_, _, rfl, hnc, hc, ((hs.keep (Later.trans_ (Later.trans_ l0 l1) l2)).only_ne (Only.set _ (w.heap.size + 1) 0 _) (fun _ e => by cases e; omega)).only_ne (Only.set _ (w.heap.size + 1) 1 _) (fun _ e => by cases e; omega), ((Later.trans_ (Later.trans_ l0 l1) l2).setCell (by simp) _).setCell (by simp) _⟩

set_option maxRecDepth 100000 in
set_option maxHeartbeats 4000000 in
theorem rwrite_in (A : Option Addr) (n c a : Nat) (s : ByteArray) (b : Wm.Bs) (w : World) (hs : Sl w 128 A n (U b)) (hn1 : 1 ≤ n) (hn : n ≤ 64) (h : Mm.Inside (n * 128) (a : Int) s.size) :
    Calls Try.prog 53 #[.agg #[.slice A n c], .int .i64 (a : Int), .string s] w (GotS n (Mm.put b a (Wm.ofS s)) true w) := by
  have HS := Lib.hid fun w' => rsize_any A n c w' hn
  obtain ⟨h1, h2, h3⟩ := h
  have has : a + s.size ≤ n * 128 := by omega
  have hbl : b.length = n * 128 := by have := hs.1; rwa [U_length] at this
  have HC := Lib.hid fun w' (hl : Later w w') => rcopy_any A n c b w' (hs.keep hl) hn1 hn
  obtain ⟨X, hX⟩ : ∃ X, X = Wm.ofS s := ⟨_, rfl⟩
  have hXl : X.length = s.size := by rw [hX, Wm.ofS_length]
  have HXg := Lib.hid fun i (hi : i < s.size) => (show X[i]? = some ((s[i].toNat : Nat) : Int) by rw [hX]; unfold Wm.ofS; rw [List.getElem?_map, Array.getElem?_toList, Array.getElem?_eq_getElem hi]; rfl)
  rw [← hX]
  have HX := Lib.hid hXl
  have HB := Lib.hid (show b.length = n * 128 ∧ a + s.size ≤ n * 128 from ⟨hbl, has⟩)
  have hr8 : a + s.size ≤ 8192 := by omega
  obtain ⟨L, hL⟩ : ∃ L, L = n * 128 := ⟨_, rfl⟩
  rw [← hL] at HS
  have hL2 : L ≤ 8192 := by omega
  have d1 : decide ((a : Int) < 0) = false := decide_eq_false (by omega)
  have d3 : decide (L < a) = false := decide_eq_false (by omega)
  have d4 : (s.size : Int) ≤ (L : Int) - a := by omega
  have d5 : decide ((L : Int) - a < s.size) = false := decide_eq_false (by omega)
  have bP := (Blk.new w 24 #[.slice A n c] [.slice A n c] rfl).alloc (.cells #[.slice none 0 0, .bool false] 91)
  have bR := Blk.new' (w.alloc (.cells #[.slice A n c] 24)) (w.heap.size + 1) 91 #[.slice none 0 0, .bool false] [.slice none 0 0, .bool false] (by simp) rfl
  have l0 : Later w ((w.alloc (.cells #[.slice A n c] 24)).alloc (.cells #[.slice none 0 0, .bool false] 91)) := (later1 w _).alloc (by simp) _
  clear hX hXl h1 h2 h3 hbl has hs hL
  go_enter Try.func53, Try.ntmps53
  go_wp2_with (first
    | (go_at_call 39; refine (HS.out w1).mono ?_; rintro e w2 ⟨rfl, l2⟩; clear p0; replace bP := bP.keep l2; have p0 := bP.cell (j := 0) (v := .slice A n c) rfl; replace bR := bR.keep l2; replace l0 := Later.trans_ l0 l2)
    | (go_at_call 39; refine (HS.out _).mono ?_; rintro e w1 ⟨rfl, l1⟩; replace bP := bP.keep l1; have p0 := bP.cell (j := 0) (v := .slice A n c) rfl; replace bR := bR.keep l1; replace l0 := Later.trans_ l0 l1)
    | (go_at_call 73; refine (HC.out _ l0).mono ?_; rintro e w3 ⟨g, c', rfl, k1, k2, k3, k4, k5⟩; have hw1 := bR.lt; replace bR := (bR.keep k5).alloc (.cells #[.slice (some ⟨g, 0, none⟩) n c'] 24); have b7 := Blk.new w3 24 #[.slice (some ⟨g, 0, none⟩) n c'] [.slice (some ⟨g, 0, none⟩) n c'] rfl; have hgl := k4.lt; replace k4 := k4.keep (later1 w3 (.cells #[.slice (some ⟨g, 0, none⟩) n c'] 24)); have l4 := Later.trans_ (Later.trans_ l0 k5) (later1 w3 (.cells #[.slice (some ⟨g, 0, none⟩) n c'] 24))))
  obtain ⟨_, t, junk, hbk⟩ := k4
  have hg1 : w.heap.size + 1 < g := by omega
  have h6 : w.heap.size + 1 < w3.heap.size := by omega
  obtain ⟨B7, hB7⟩ : ∃ B7, B7 = w3.heap.size := ⟨_, rfl⟩
  rw [← hB7] at b7 hgl h6 ⊢
  clear hB7 l0 l1 l2 p0 k1 k5 d1 d3 d4 d5 bP
  go_loopw [8] (fun i wr => ∃ k : Nat, k ≤ s.size ∧ i = .int .i64 (k : Int) ∧ Blk wr g t (U (Mm.put b a (X.take k)) ++ junk) ∧ Blk wr B7 24 [.slice (some ⟨g, 0, none⟩) n c'] ∧ Blk wr (w.heap.size + 1) 91 [.slice none 0 0, .bool false] ∧ Later w wr) (fun i _ => s.size - (intOf i).toNat)
  case atStart => exact ⟨0, Nat.zero_le _, rfl, by rw [List.take_zero, Mm.put_nil]; exact hbk, b7, bR, l4⟩
  case round =>
    clear hbk b7 bR l4
    rename_i wr
    obtain ⟨k, hk, rfl, hbk, b7, bR, lr⟩ := hrel
    have hgw : w.heap.size ≤ g := by omega
    have c7 := b7.cell (j := 0) (v := .slice (some ⟨g, 0, none⟩) n c') rfl
    by_cases hkr : k < s.size
    · have hx := HXg.out k hkr
      obtain ⟨y, hy⟩ : ∃ y, y = ((s[k].toNat : Nat) : Int) := ⟨_, rfl⟩
      rw [← hy] at hx
      have hnK : a + k < n * 128 := by have := HB.out.2; omega
      have hlen : (Mm.put b a (X.take k)).length = n * 128 := by rw [Mm.put_len (by rw [List.length_take, HX.out, HB.out.1]; have := HB.out.2; omega), HB.out.1]
      have hce : wr.drew.cell? ⟨g, a + k, none⟩ = some (.int .u8 ((Mm.put b a (X.take k)).getD (a + k) 0)) := hbk.cell (by rw [List.getElem?_append_left (by rw [U_length, hlen]; exact hnK), U_get _ _ (by rw [hlen]; exact hnK)])
      obtain ⟨z, hz⟩ : ∃ z, z = (Mm.put b a (X.take k)).getD (a + k) 0 := ⟨_, rfl⟩
      rw [← hz] at hce
      have hfe := hbk.drew.frz (a + k)
      have t0 : IntKind.i64.wrap ((a : Int) + (k : Int)) = (a : Int) + (k : Int) := by rw [IntKind.wrap_i64]; omega
      have u1 : IntKind.i64.wrap (((a : Int) + (k : Int)) / 128) = ((a : Int) + (k : Int)) / 128 := by rw [IntKind.wrap_i64]; omega
      have t1 : ((a : Int) + (k : Int)).tdiv 128 = ((a : Int) + (k : Int)) / 128 := Int.tdiv_eq_ediv_of_nonneg (by omega)
      have t2 : ((a : Int) + (k : Int)).tmod 128 = ((a : Int) + (k : Int)) % 128 := Int.tmod_eq_emod_of_nonneg (by omega)
      have t3 : (((a : Int) + (k : Int)) / 128).toNat = (a + k) / 128 := by omega
      have t4 : (((a : Int) + (k : Int)) % 128).toNat = (a + k) % 128 := by omega
      have t5 : (a + k) / 128 * 128 + (a + k) % 128 = a + k := by omega
      have q1 : ((a : Int) + (k : Int)) / 128 < (n : Int) := by omega
      have q2 : ((a : Int) + (k : Int)) % 128 < 128 := by omega
      have q3 : (0 : Int) ≤ ((a : Int) + (k : Int)) / 128 := by omega
      have q4 : (0 : Int) ≤ ((a : Int) + (k : Int)) % 128 := by omega
      have kr : (k : Int) < (s.size : Int) := by omega
      have HRL := Lib.hid (show Mm.put b a (X.take (k + 1)) = (Mm.put b a (X.take k)).set (a + k) y by
        rw [List.take_add_one, hx, ← Mm.put_set _ _ _ (by rw [hlen]; exact hnK)]
        have := Mm.put_app b a (X.take k) [y] (by rw [List.length_take, HX.out, HB.out.1]; have := HB.out.2; simp; omega)
        rw [show (X.take k).length = k by rw [List.length_take, HX.out]; omega] at this
        exact this.symm)
      have HY := Lib.hid hy
      clear hx hy hz
      go_wp2
      replace b7 := b7.drew; replace bR := bR.drew; replace hbk := hbk.drew; replace lr := lr.drew
      refine wp_region_held_drew (S := fun w' => w'.cell? ⟨B7, 0, none⟩ = some (.slice (some ⟨g, 0, none⟩) n c')) (by kernel_rfl) (b7.cell rfl) (fun hHeld => ?_)
      refine wpAnyH_take (i := 0) (oi := ⟨some 36, .fieldAddr 24 (.tmp 7) 0, _, _, _, none⟩) (v := .pointer (some ⟨B7, 0, none⟩)) rfl (by kernel_rfl) (by kernel_rfl) (by kernel_rfl) (fun _ _ _ h => h) (Or.inl ⟨by rfl, fun w _ => by go_simp⟩) hHeld ?_
      simp only [Act.put, List.setIfInBounds_toArray, List.set_cons_zero, List.set_cons_succ]
      refine wpAnyH_take (i := 1) (oi := ⟨some 37, .load 22 (.tmp 36), _, _, _, none⟩) (v := (.slice (some ⟨g, 0, none⟩) n c')) rfl (by kernel_rfl) (by kernel_rfl) (by kernel_rfl) (fun _ _ _ h => h) (Or.inl ⟨by rfl, fun w hSw => by have e1 := hSw; clear hSw; go_simp⟩) hHeld ?_
      simp only [Act.put, List.setIfInBounds_toArray, List.set_cons_zero, List.set_cons_succ]
      refine wpAnyH_take (i := 2) (oi := ⟨some 38, .move (.tmp 1), _, _, _, none⟩) (v := .int .i64 (a : Int)) rfl (by kernel_rfl) (by kernel_rfl) (by kernel_rfl) (fun _ _ _ h => h) (Or.inl ⟨by rfl, fun _ _ => rfl⟩) hHeld ?_
      simp only [Act.put, List.setIfInBounds_toArray, List.set_cons_zero, List.set_cons_succ]
      refine wpAnyH_take (i := 3) (oi := ⟨some 39, .move (.tmp 8), _, _, _, none⟩) (v := .int .i64 (k : Int)) rfl (by kernel_rfl) (by kernel_rfl) (by kernel_rfl) (fun _ _ _ h => h) (Or.inl ⟨by rfl, fun _ _ => rfl⟩) hHeld ?_
      simp only [Act.put, List.setIfInBounds_toArray, List.set_cons_zero, List.set_cons_succ]
      refine wpAnyH_take (i := 4) (oi := ⟨some 40, .binOp .add 3 (.tmp 38) (.tmp 39) 3, _, _, _, none⟩) (v := .int .i64 ((a : Int) + (k : Int))) rfl (by kernel_rfl) (by kernel_rfl) (by kernel_rfl) (fun _ _ _ h => h) (Or.inl ⟨by rfl, fun w _ => by go_simp⟩) hHeld ?_
      simp only [Act.put, List.setIfInBounds_toArray, List.set_cons_zero, List.set_cons_succ]
      refine wpAnyH_take (i := 5) (oi := ⟨some 41, .binOp .quo 3 (.tmp 40) (.const (.int .i64 128)) 3, _, _, _, none⟩) (v := .int .i64 (((a : Int) + (k : Int)) / 128)) rfl (by kernel_rfl) (by kernel_rfl) (by kernel_rfl) (fun _ _ _ h => h) (Or.inl ⟨by rfl, fun w _ => by go_simp⟩) hHeld ?_
      simp only [Act.put, List.setIfInBounds_toArray, List.set_cons_zero, List.set_cons_succ]
      refine wpAnyH_take (i := 6) (oi := ⟨some 42, .move (.tmp 1), _, _, _, none⟩) (v := .int .i64 (a : Int)) rfl (by kernel_rfl) (by kernel_rfl) (by kernel_rfl) (fun _ _ _ h => h) (Or.inl ⟨by rfl, fun _ _ => rfl⟩) hHeld ?_
      simp only [Act.put, List.setIfInBounds_toArray, List.set_cons_zero, List.set_cons_succ]
      refine wpAnyH_take (i := 7) (oi := ⟨some 43, .move (.tmp 8), _, _, _, none⟩) (v := .int .i64 (k : Int)) rfl (by kernel_rfl) (by kernel_rfl) (by kernel_rfl) (fun _ _ _ h => h) (Or.inl ⟨by rfl, fun _ _ => rfl⟩) hHeld ?_
      simp only [Act.put, List.setIfInBounds_toArray, List.set_cons_zero, List.set_cons_succ]
      refine wpAnyH_take (i := 8) (oi := ⟨some 44, .binOp .add 3 (.tmp 42) (.tmp 43) 3, _, _, _, none⟩) (v := .int .i64 ((a : Int) + (k : Int))) rfl (by kernel_rfl) (by kernel_rfl) (by kernel_rfl) (fun _ _ _ h => h) (Or.inl ⟨by rfl, fun w _ => by go_simp⟩) hHeld ?_
      simp only [Act.put, List.setIfInBounds_toArray, List.set_cons_zero, List.set_cons_succ]
      refine wpAnyH_take (i := 9) (oi := ⟨some 45, .binOp .rem 3 (.tmp 44) (.const (.int .i64 128)) 3, _, _, _, none⟩) (v := .int .i64 (((a : Int) + (k : Int)) % 128)) rfl (by kernel_rfl) (by kernel_rfl) (by kernel_rfl) (fun _ _ _ h => h) (Or.inl ⟨by rfl, fun w _ => by go_simp⟩) hHeld ?_
      simp only [Act.put, List.setIfInBounds_toArray, List.set_cons_zero, List.set_cons_succ]
      refine wpAnyH_take (i := 10) (oi := ⟨some 46, .move (.tmp 2), _, _, _, none⟩) (v := .string s) rfl (by kernel_rfl) (by kernel_rfl) (by kernel_rfl) (fun _ _ _ h => h) (Or.inl ⟨by rfl, fun _ _ => rfl⟩) hHeld ?_
      simp only [Act.put, List.setIfInBounds_toArray, List.set_cons_zero, List.set_cons_succ]
      refine wpAnyH_take (i := 11) (oi := ⟨some 47, .move (.tmp 8), _, _, _, none⟩) (v := .int .i64 (k : Int)) rfl (by kernel_rfl) (by kernel_rfl) (by kernel_rfl) (fun _ _ _ h => h) (Or.inl ⟨by rfl, fun _ _ => rfl⟩) hHeld ?_
      simp only [Act.put, List.setIfInBounds_toArray, List.set_cons_zero, List.set_cons_succ]
      refine wpAnyH_take (i := 12) (oi := ⟨some 48, .index 9 (.tmp 46) (.tmp 47), _, _, _, none⟩) (v := .int .u8 y) rfl (by kernel_rfl) (by kernel_rfl) (by kernel_rfl) (fun _ _ _ h => h) (Or.inl ⟨by rfl, fun w _ => by rw [HY.out]; go_simp⟩) hHeld ?_
      simp only [Act.put, List.setIfInBounds_toArray, List.set_cons_zero, List.set_cons_succ]
      refine wpAnyH_take (i := 13) (oi := ⟨some 49, .indexAddr 22 (.tmp 37) (.tmp 41), _, _, _, none⟩) (v := .pointer (some ⟨g, (a + k) / 128 * 128, none⟩)) rfl (by kernel_rfl) (by kernel_rfl) (by kernel_rfl) (fun _ _ _ h => h) (Or.inl ⟨by rfl, fun w _ => by go_simp⟩) hHeld ?_
      simp only [Act.put, List.setIfInBounds_toArray, List.set_cons_zero, List.set_cons_succ]
      refine wpAnyH_take (i := 14) (oi := ⟨some 50, .indexAddr 106 (.tmp 49) (.tmp 45), _, _, _, none⟩) (v := .pointer (some ⟨g, a + k, none⟩)) rfl (by kernel_rfl) (by kernel_rfl) (by kernel_rfl) (fun _ _ _ h => h) (Or.inl ⟨by rfl, fun w _ => by go_simp⟩) hHeld ?_
      simp only [Act.put, List.setIfInBounds_toArray, List.set_cons_zero, List.set_cons_succ]
      refine wpAnyH_ready (rs := [15]) (by kernel_rfl) (by simp) (AllReadyH.cons (o := ⟨none, .store 5 (.tmp 50) (.tmp 48), _, _, _, none⟩) rfl (fun K' hK => ?_) (AllReadyH.nil))
      go_simp
      have hbs := hbk.set (a + k) (.int .u8 y)
      replace b7 := b7.set_other ⟨g, a + k, none⟩ (.int .u8 y) (by simp; omega)
      replace bR := bR.set_other ⟨g, a + k, none⟩ (.int .u8 y) (by simp; omega)
      replace lr : Later w (World.setCell _ ⟨g, a + k, none⟩ (.int .u8 y)) := lr.setCell hgw _
      refine hK.out _ _ (b7.cell rfl) (fun hHeld => ?_)
      clear hK K'
      try simp only [Act.put, List.setIfInBounds_toArray, List.set_cons_zero, List.set_cons_succ]
      refine wpAnyH_done (by kernel_rfl) ?_ _
      clear hHeld
      rw [show (U (Mm.put b a (X.take k)) ++ junk).set (a + k) (.int .u8 y) = U (Mm.put b a (X.take (k + 1))) ++ junk by rw [HRL.out, List.set_append_left _ _ (by rw [U_length, hlen]; exact hnK)]; unfold U; rw [List.map_set]] at hbs
      clear t0 u1 t1 t2 t3 t4 t5 q1 q2 q3 q4 hce hfe
      go_wp2
      go_roundw
      case rel => exact ⟨k + 1, by omega, by go_num, hbs, b7, bR, lr⟩
      case measure => simp [intOf]; omega
    · obtain rfl : k = s.size := by omega
      rw [List.take_of_length_le (by rw [HX.out]; exact Nat.le_refl _)] at hbk
      have c0 := bR.cell (j := 0) (v := .slice none 0 0) rfl
      have c1 := bR.cell (j := 1) (v := .bool false) rfl
      have f0 := bR.frz 0
      have f1 := bR.frz 1
      have nkk : ¬ (s.size : Int) < (s.size : Int) := by omega
      have hDr : Draft wr g n (Mm.put b a X) := ⟨by rw [Mm.put_len (by rw [HX.out, HB.out.1]; exact HB.out.2), HB.out.1], t, junk, hbk⟩
      have HDr := Lib.hid hDr
      clear hDr hbk
      go_wp2
      exact bodyPost_ret (results_blk Try.results53 _ _ (w.heap.size + 1) 91 [.slice (some ⟨g, 0, none⟩) n c', .bool true] _ rfl ((bR.set 0 _).set 1 _) Try.underlying91 rfl (sto_sz _ _)) rfl ⟨_, _, rfl, k2, k3, ((HDr.out.only (Only.set _ (w.heap.size + 1) 0 _) (by omega)).only (Only.set _ (w.heap.size + 1) 1 _) (by omega)).sl, (lr.setCell (by simp) _).setCell (by simp) _⟩
theorem rwrite_any (A : Option Addr) (n c : Nat) (a : Int) (s : ByteArray) (b : Wm.Bs) (w : World) (hs : Sl w 128 A n (U b)) (hn1 : 1 ≤ n) (hn : n ≤ 64) (hnc : n ≤ c) (hc : c ≤ maxLen) (ha : -9223372036854775808 ≤ a ∧ a ≤ 9223372036854775807) :
    Calls Try.prog 53 #[.agg #[.slice A n c], .int .i64 a, .string s] w (GotS n (Mm.wr b a (Wm.ofS s)) (decide (Mm.Inside (n * 128) a s.size)) w) := by
  have hbl : b.length = n * 128 := by have := hs.1; rwa [U_length] at this
  unfold Mm.wr
  rw [hbl, Wm.ofS_length]
  by_cases h : Mm.Inside (n * 128) a s.size
  · rw [if_pos h, decide_eq_true h]
    obtain ⟨a', rfl⟩ := Int.eq_ofNat_of_zero_le h.1
    exact rwrite_in A n c a' s b w hs hn1 hn h
  · rw [if_neg h, decide_eq_false h]
    obtain ⟨ad, rfl⟩ := hs.addr (by omega)
    exact rwrite_none ad n c a s b w hs hn1 hn hnc hc ha h
end Go.Proofs.Ytffgbbfcbobecaa
