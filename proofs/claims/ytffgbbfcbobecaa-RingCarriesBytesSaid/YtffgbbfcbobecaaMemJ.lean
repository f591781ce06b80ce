/-
  THE WALKS OF Write; of the reference's Store.
-/
import Derived.Test.YtffgbbfcbobecaaMemI
namespace Go.Proofs.Ytffgbbfcbobecaa
open Go.RowKit Go.ChangeShapes Go.WideShapes Go.ChangeAt

set_option maxRecDepth 100000 in
set_option maxHeartbeats 2000000 in
theorem write_any (A : Option Addr) (n c : Nat) (a : Int) (s : ByteArray) (b : Wm.Bs) (w : World) (hs : Sl w 128 A n (U b)) (hn1 : 1 ≤ n) (hn : n ≤ 64) (ha : -9223372036854775808 ≤ a ∧ a ≤ 9223372036854775807) :
    Calls Try.prog 52 #[.agg #[.slice A n c], .int .i64 a, .string s] w (GotMB n (Mm.wr b a (Wm.ofS s)) (decide (Mm.Inside (n * 128) a s.size)) w) := by
  have HB := Lib.hid fun (w' : World) (hl : Later w w') => begin_any A n c b w' (hs.keep hl) hn1 hn
  have HW := Lib.hid fun (g c' : Nat) (w' : World) (hd : Draft w' g n b) => dwrite_any g n c' a s b w' hd hn ha
  obtain ⟨X, hX⟩ : ∃ X, X = Mm.wr b a (Wm.ofS s) := ⟨_, rfl⟩
  obtain ⟨q, hq⟩ : ∃ q, q = decide (Mm.Inside (n * 128) a s.size) := ⟨_, rfl⟩
  rw [← hX, ← hq] at HW ⊢
  clear hX hq hs ha
  have l0 := (later1 w (.cells #[.slice A n c] 24)).alloc (by simp) (.cells #[.slice none 0 0] 24)
  have bR := Blk.new' (w.alloc (.cells #[.slice A n c] 24)) (w.heap.size + 1) 24 #[.slice none 0 0] [.slice none 0 0] (by simp) rfl
  go_enter Try.func52, Try.ntmps52
  go_wp2_with (first
    | (go_at_call 71; refine (HB.out _ l0).mono ?_; rintro e w1 ⟨g, c', rfl, k1, k2, k3, k4, k5⟩; replace bR := bR.keep k5; have l1 := Later.trans_ l0 k5; have b6 := Blk.new w1 127 #[.slice (some ⟨g, 0, none⟩) n c'] [.slice (some ⟨g, 0, none⟩) n c'] rfl; have hgl := k4.lt; have hg1 : w.heap.size + 2 ≤ g := (by simpa using k1))
    | (go_at_call 72; refine (HW.out g c' _ (k4.keep (later1 w1 _))).mono ?_; rintro e w2 ⟨rfl, d2, x2⟩; replace bR := (bR.alloc (.cells #[.slice (some ⟨g, 0, none⟩) n c'] 127)).lx x2 (by omega); replace b6 := b6.lx x2 (by omega); have c6 := b6.cell (j := 0) (v := .slice (some ⟨g, 0, none⟩) n c') rfl; have cR := bR.cell (j := 0) (v := .slice none 0 0) rfl; have fR := bR.frz 0; have l2 := Lx.back (Later.trans_ l1 (later1 w1 _)) x2 (by omega)))
  exact bodyPost_ret (v := .tuple #[.agg #[.slice (some ⟨g, 0, none⟩) n c'], .bool q]) (results_cell_tmp Try.results52 _ _ (w.heap.size + 1) 24 _ _ _ rfl rfl (bR.set 0 (.slice (some ⟨g, 0, none⟩) n c')) Try.underlying24 rfl mem_sz) rfl ⟨g, c', rfl, by omega, k2, k3, d2.only (Only.set _ _ _ _) (by omega), l2.setCell (by simp) _⟩

/-- What hands back a memory, wherever it lies, and whether something was done. -/
def GotS (n : Nat) (x : Wm.Bs) (q : Bool) (w : World) (e : Ending) (w' : World) : Prop := ∃ A c, e = .returned (.agg #[.slice A n c, .bool q]) ∧ n ≤ c ∧ c ≤ maxLen ∧ Sl w' 128 A n (U x) ∧ Later w w'
theorem sto_sz (u v : Value) : (Try.prog.info? 91).map (·.size) = some [u, v].length := by
  show _ = some 2
  kernel_rfl
theorem Sl.only_ne {w w' : World} {size n g : Nat} {A : Option Addr} {xs : List Value} (h : Sl w size A n xs) (o : Only g w w') (hne : ∀ ad, A = some ad → ad.block ≠ g) : Sl w' size A n xs := h.lx (Lx.only o) fun _ => hne
set_option maxRecDepth 100000 in
set_option maxHeartbeats 1000000 in
theorem rstore_none (ad : Addr) (n c : Nat) (a s v : Int) (b : Wm.Bs) (w : World) (hs : Sl w 128 (some ad) n (U b)) (hn1 : 1 ≤ n) (hn : n ≤ 64) (hnc : n ≤ c) (hc : c ≤ maxLen) (ha : -9223372036854775808 ≤ a ∧ a ≤ 9223372036854775807) (h : ¬ Mm.There (n * 128) a s) :
    Calls Try.prog 70 #[.agg #[.slice (some ad) n c], .agg #[.int .i64 a, .int .i64 s, .int .u32 v]] w (GotS n b false w) := by
  have HT := Lib.hid fun w' => rthere_any (some ad) n c a s w' hn ha
  rw [decide_eq_false h] at HT
  clear h
  have hlt : ad.block < w.heap.size := by obtain ⟨_, e, h, _⟩ := hs.2 (by omega); cases e; exact h
  go_enter Try.func70, Try.ntmps70
  go_wp2_with (first
    | (go_at_call 85; refine (HT.out _).mono ?_; rintro e w1 ⟨rfl, l1⟩; have bP := (((Blk.new w 24 #[.slice (some ad) n c] _ rfl).alloc (.cells #[.int .i64 a, .int .i64 s, .int .u32 v] 85)).alloc (.cells #[.slice none 0 0, .bool false] 91)).keep l1; have bR := (Blk.new' ((w.alloc (.cells #[.slice (some ad) n c] 24)).alloc (.cells #[.int .i64 a, .int .i64 s, .int .u32 v] 85)) (w.heap.size + 1 + 1) 91 #[.slice none 0 0, .bool false] [.slice none 0 0, .bool false] (by simp) rfl).keep l1; have p0 := bP.cell (j := 0) (v := .slice (some ad) n c) rfl; have c0 := bR.cell (j := 0) (v := .slice none 0 0) rfl; have c1 := bR.cell (j := 1) (v := .bool false) rfl; have f0 := bR.frz 0; have f1 := bR.frz 1; have l2 := Later.trans_ (((later1 w _).alloc (by simp) _).alloc (by simp; omega) _) l1))
  exact bodyPost_ret (results_blk Try.results70 _ _ (w.heap.size + 1 + 1) 91 [.slice (some ad) n c, .bool false] _ rfl ((bR.set 0 (.slice (some ad) n c)).set 1 (.bool false)) Try.underlying91 rfl (sto_sz _ _)) rfl ⟨_, _, rfl, hnc, hc, ((hs.keep l2).only_ne (Only.set _ (w.heap.size + 1 + 1) 0 _) (fun _ e => by cases e; omega)).only_ne (Only.set _ (w.heap.size + 1 + 1) 1 _) (fun _ e => by cases e; omega), (l2.setCell (by simp; omega) _).setCell (by simp; omega) _⟩
set_option maxRecDepth 100000 in
set_option maxHeartbeats 4000000 in
theorem rstore_there (A : Option Addr) (n c a s : Nat) (v : Int) (b : Wm.Bs) (w : World) (hs : Sl w 128 A n (U b)) (hn1 : 1 ≤ n) (hn : n ≤ 64) (h : Mm.There (n * 128) (a : Int) (s : Int)) (hv0 : 0 ≤ v) (hv1 : v < 4294967296) :
    Calls Try.prog 70 #[.agg #[.slice A n c], .agg #[.int .i64 (a : Int), .int .i64 (s : Int), .int .u32 v]] w fun e w' => ∃ g c', e = .returned (.agg #[.slice (some ⟨g, 0, none⟩) n c', .bool true]) ∧ w.heap.size ≤ g ∧ n ≤ c' ∧ c' ≤ maxLen ∧ Draft w' g n (Mm.put b a (Mm.el s v)) ∧ Later w w' := by
  have HT := Lib.hid fun w' => rthere_any A n c (a : Int) (s : Int) w' hn ⟨by omega, by have := h.2.2; omega⟩
  rw [decide_eq_true h] at HT
  obtain ⟨h1, h2, h3⟩ := h
  have hs4 : s = 1 ∨ s = 4 := by omega
  have has : a + s ≤ n * 128 := by omega
  have hbl : b.length = n * 128 := by have := hs.1; rwa [U_length] at this
  have HC := Lib.hid fun w' (hl : Later w w') => rcopy_any A n c b w' (hs.keep hl) hn1 hn
  obtain ⟨X, hX⟩ : ∃ X, X = Mm.el s v := ⟨_, rfl⟩
  have hXl : X.length = s := by rw [hX, Mm.el_len]
  have HXg := Lib.hid fun i (hi : i < s) => by
    have := Mm.el_get s v i hi
    rw [← hX] at this
    exact this
  rw [← hX]
  have HX := Lib.hid hXl
  have HB := Lib.hid (show b.length = n * 128 ∧ a + s ≤ n * 128 from ⟨hbl, has⟩)
  have hr8 : a + s ≤ 8192 := by omega
  clear hX hXl h1 h2 h3 hbl has hs
  go_enter Try.func70, Try.ntmps70
  go_wp2_with (first
    | (go_at_call 85; refine (HT.out _).mono ?_; rintro e w1 ⟨rfl, l1⟩; have bP := (((Blk.new w 24 #[.slice A n c] _ rfl).alloc (.cells #[.int .i64 (a : Int), .int .i64 (s : Int), .int .u32 v] 85)).alloc (.cells #[.slice none 0 0, .bool false] 91)).keep l1; have bW := ((Blk.new' (w.alloc (.cells #[.slice A n c] 24)) (w.heap.size + 1) 85 #[.int .i64 (a : Int), .int .i64 (s : Int), .int .u32 v] [.int .i64 (a : Int), .int .i64 (s : Int), .int .u32 v] (by simp) rfl).alloc (.cells #[.slice none 0 0, .bool false] 91)).keep l1; have bR := (Blk.new' ((w.alloc (.cells #[.slice A n c] 24)).alloc (.cells #[.int .i64 (a : Int), .int .i64 (s : Int), .int .u32 v] 85)) (w.heap.size + 1 + 1) 91 #[.slice none 0 0, .bool false] [.slice none 0 0, .bool false] (by simp) rfl).keep l1; have p0 := bP.cell (j := 0) (v := .slice A n c) rfl; have l2 := Later.trans_ (((later1 w _).alloc (by simp) _).alloc (by simp; omega) _) l1)
    | (go_at_call 73; refine (HC.out _ l2).mono ?_; rintro e w3 ⟨g, c', rfl, k1, k2, k3, k4, k5⟩; have hw1 := bR.lt; replace bW := (bW.keep k5).alloc (.cells #[.slice (some ⟨g, 0, none⟩) n c'] 24); replace bR := (bR.keep k5).alloc (.cells #[.slice (some ⟨g, 0, none⟩) n c'] 24); have b6 := Blk.new w3 24 #[.slice (some ⟨g, 0, none⟩) n c'] [.slice (some ⟨g, 0, none⟩) n c'] rfl; have hgl := k4.lt; replace k4 := k4.keep (later1 w3 (.cells #[.slice (some ⟨g, 0, none⟩) n c'] 24)); have l4 := Later.trans_ (Later.trans_ l2 k5) (later1 w3 (.cells #[.slice (some ⟨g, 0, none⟩) n c'] 24))))
  obtain ⟨_, t, junk, hbk⟩ := k4
  have hg1 : w.heap.size + 2 < g := by omega
  have h6 : w.heap.size ≤ w3.heap.size := by have := l4.size; simp at this; omega
  obtain ⟨B6, hB6⟩ : ∃ B6, B6 = w3.heap.size := ⟨_, rfl⟩
  rw [← hB6] at b6 hgl h6 ⊢
  clear hB6 l1 l2 p0 k1 k5
  go_loopw [7] (fun i wr => ∃ k : Nat, k ≤ s ∧ i = .int .i64 (k : Int) ∧ Blk wr g t (U (Mm.put b a (X.take k)) ++ junk) ∧ Blk wr B6 24 [.slice (some ⟨g, 0, none⟩) n c'] ∧ Blk wr (w.heap.size + 1) 85 [.int .i64 (a : Int), .int .i64 (s : Int), .int .u32 v] ∧ Blk wr (w.heap.size + 1 + 1) 91 [.slice none 0 0, .bool false] ∧ Later w wr) (fun i _ => s - (intOf i).toNat)
  case atStart => exact ⟨0, Nat.zero_le _, rfl, by rw [List.take_zero, Mm.put_nil]; exact hbk, b6, bW, bR, l4⟩
  case round =>
    clear hbk b6 bW bR l4
    rename_i wr
    obtain ⟨k, hk, rfl, hbk, b6, bW, bR, lr⟩ := hrel
    have hgw : w.heap.size ≤ g := by omega
    have c6 := b6.cell (j := 0) (v := .slice (some ⟨g, 0, none⟩) n c') rfl
    have cW0 := bW.cell (j := 0) (v := .int .i64 (a : Int)) rfl
    have cW1 := bW.cell (j := 1) (v := .int .i64 (s : Int)) rfl
    have cW2 := bW.cell (j := 2) (v := .int .u32 v) rfl
    by_cases hkr : k < s
    · rcases (show k = 0 ∨ k = 1 ∨ k = 2 ∨ k = 3 by omega) with rfl | rfl | rfl | rfl
      · simp only [show ((0 : Nat) : Int) = 0 from rfl]
        have hx := HXg.out 0 hkr
        have hnK : a < n * 128 := by have := HB.out.2; omega
        have hlen : (Mm.put b a (X.take 0)).length = n * 128 := by rw [Mm.put_len (by rw [List.length_take, HX.out, HB.out.1]; have := HB.out.2; omega), HB.out.1]
        have hce : wr.drew.cell? ⟨g, a, none⟩ = some (.int .u8 ((Mm.put b a (X.take 0)).getD a 0)) := hbk.cell (by rw [List.getElem?_append_left (by rw [U_length, hlen]; exact hnK), U_get _ _ (by rw [hlen]; exact hnK)])
        obtain ⟨y, hy⟩ : ∃ y, y = (Mm.put b a (X.take 0)).getD a 0 := ⟨_, rfl⟩
        rw [← hy] at hce
        have hfe := hbk.drew.frz a
        have t0 : IntKind.i64.wrap (a : Int) = (a : Int) := by rw [IntKind.wrap_i64]; omega
        have u1 : IntKind.i64.wrap ((a : Int) / 128) = (a : Int) / 128 := by rw [IntKind.wrap_i64]; omega
        have u2 : IntKind.i64.wrap 0 = 0 := rfl
        have u3 : IntKind.u8.wrap (v) = v % 256 := by rw [IntKind.wrap_u8]
        have t1 : (a : Int).tdiv 128 = (a : Int) / 128 := Int.tdiv_eq_ediv_of_nonneg (by omega)
        have t2 : (a : Int).tmod 128 = (a : Int) % 128 := Int.tmod_eq_emod_of_nonneg (by omega)
        have t3 : ((a : Int) / 128).toNat = a / 128 := by omega
        have t4 : ((a : Int) % 128).toNat = a % 128 := by omega
        have t5 : a / 128 * 128 + a % 128 = a := by omega
        have q1 : (a : Int) / 128 < (n : Int) := by omega
        have q2 : (a : Int) % 128 < 128 := by omega
        have q3 : (0 : Int) ≤ (a : Int) / 128 := by omega
        have q4 : (0 : Int) ≤ (a : Int) % 128 := by omega
        have HRL := Lib.hid (show Mm.put b a (X.take (0 + 1)) = (Mm.put b a (X.take 0)).set a (v % 256) by
          rw [List.take_add_one, hx, ← Mm.put_set _ _ _ (by rw [hlen]; exact hnK)]
          have := Mm.put_app b a (X.take 0) [v % 256] (by rw [List.length_take, HX.out, HB.out.1]; have := HB.out.2; simp; omega)
          rw [show (X.take 0).length = 0 by rw [List.length_take, HX.out]; omega] at this
          rw [show (some (v / 256 ^ 0 % 256)).toList = [v % 256] by simp]
          exact this.symm)
        clear hx hy
        go_wp2
        replace b6 := b6.drew; replace bW := bW.drew; replace bR := bR.drew; replace hbk := hbk.drew; replace lr := lr.drew
        refine wp_region_held_drew (S := fun w' => w'.cell? ⟨B6, 0, none⟩ = some (.slice (some ⟨g, 0, none⟩) n c') ∧ w'.cell? ⟨w.heap.size + 1, 0, none⟩ = some (.int .i64 (a : Int)) ∧ w'.cell? ⟨w.heap.size + 1, 2, none⟩ = some (.int .u32 v)) (by kernel_rfl) ⟨b6.cell rfl, bW.cell rfl, bW.cell rfl⟩ (fun hHeld => ?_)
        refine wpAnyH_take (i := 0) (oi := ⟨some 26, .fieldAddr 24 (.tmp 6) 0, _, _, _, none⟩) (v := .pointer (some ⟨B6, 0, none⟩)) rfl (by kernel_rfl) (by kernel_rfl) (by kernel_rfl) (fun _ _ _ h => h) (Or.inl ⟨by rfl, fun w _ => by go_simp⟩) hHeld ?_
        simp only [Act.put, List.setIfInBounds_toArray, List.set_cons_zero, List.set_cons_succ]
        refine wpAnyH_take (i := 1) (oi := ⟨some 27, .load 22 (.tmp 26), _, _, _, none⟩) (v := .slice (some ⟨g, 0, none⟩) n c') rfl (by kernel_rfl) (by kernel_rfl) (by kernel_rfl) (fun _ _ _ h => h) (Or.inl ⟨by rfl, fun w hSw => by have e1 := hSw.1; clear hSw; go_simp⟩) hHeld ?_
        simp only [Act.put, List.setIfInBounds_toArray, List.set_cons_zero, List.set_cons_succ]
        refine wpAnyH_take (i := 2) (oi := ⟨some 28, .fieldAddr 85 (.tmp 3) 0, _, _, _, none⟩) (v := .pointer (some ⟨w.heap.size + 1, 0, none⟩)) rfl (by kernel_rfl) (by kernel_rfl) (by kernel_rfl) (fun _ _ _ h => h) (Or.inl ⟨by rfl, fun w _ => by go_simp⟩) hHeld ?_
        simp only [Act.put, List.setIfInBounds_toArray, List.set_cons_zero, List.set_cons_succ]
        refine wpAnyH_take (i := 3) (oi := ⟨some 29, .load 3 (.tmp 28), _, _, _, none⟩) (v := .int .i64 (a : Int)) rfl (by kernel_rfl) (by kernel_rfl) (by kernel_rfl) (fun _ _ _ h => h) (Or.inl ⟨by rfl, fun w hSw => by have e1 := hSw.2.1; clear hSw; go_simp⟩) hHeld ?_
        simp only [Act.put, List.setIfInBounds_toArray, List.set_cons_zero, List.set_cons_succ]
        refine wpAnyH_take (i := 4) (oi := ⟨some 30, .move (.tmp 7), _, _, _, none⟩) (v := .int .i64 0) rfl (by kernel_rfl) (by kernel_rfl) (by kernel_rfl) (fun _ _ _ h => h) (Or.inl ⟨by rfl, fun _ _ => rfl⟩) hHeld ?_
        simp only [Act.put, List.setIfInBounds_toArray, List.set_cons_zero, List.set_cons_succ]
        refine wpAnyH_take (i := 5) (oi := ⟨some 31, .binOp .add 3 (.tmp 29) (.tmp 30) 3, _, _, _, none⟩) (v := .int .i64 (a : Int)) rfl (by kernel_rfl) (by kernel_rfl) (by kernel_rfl) (fun _ _ _ h => h) (Or.inl ⟨by rfl, fun w _ => by go_simp⟩) hHeld ?_
        simp only [Act.put, List.setIfInBounds_toArray, List.set_cons_zero, List.set_cons_succ]
        refine wpAnyH_take (i := 6) (oi := ⟨some 32, .binOp .quo 3 (.tmp 31) (.const (.int .i64 128)) 3, _, _, _, none⟩) (v := .int .i64 ((a : Int) / 128)) rfl (by kernel_rfl) (by kernel_rfl) (by kernel_rfl) (fun _ _ _ h => h) (Or.inl ⟨by rfl, fun w _ => by go_simp⟩) hHeld ?_
        simp only [Act.put, List.setIfInBounds_toArray, List.set_cons_zero, List.set_cons_succ]
        refine wpAnyH_take (i := 7) (oi := ⟨some 33, .fieldAddr 85 (.tmp 3) 0, _, _, _, none⟩) (v := .pointer (some ⟨w.heap.size + 1, 0, none⟩)) rfl (by kernel_rfl) (by kernel_rfl) (by kernel_rfl) (fun _ _ _ h => h) (Or.inl ⟨by rfl, fun w _ => by go_simp⟩) hHeld ?_
        simp only [Act.put, List.setIfInBounds_toArray, List.set_cons_zero, List.set_cons_succ]
        refine wpAnyH_take (i := 8) (oi := ⟨some 34, .load 3 (.tmp 33), _, _, _, none⟩) (v := .int .i64 (a : Int)) rfl (by kernel_rfl) (by kernel_rfl) (by kernel_rfl) (fun _ _ _ h => h) (Or.inl ⟨by rfl, fun w hSw => by have e1 := hSw.2.1; clear hSw; go_simp⟩) hHeld ?_
        simp only [Act.put, List.setIfInBounds_toArray, List.set_cons_zero, List.set_cons_succ]
        refine wpAnyH_take (i := 9) (oi := ⟨some 35, .move (.tmp 7), _, _, _, none⟩) (v := .int .i64 0) rfl (by kernel_rfl) (by kernel_rfl) (by kernel_rfl) (fun _ _ _ h => h) (Or.inl ⟨by rfl, fun _ _ => rfl⟩) hHeld ?_
        simp only [Act.put, List.setIfInBounds_toArray, List.set_cons_zero, List.set_cons_succ]
        refine wpAnyH_take (i := 10) (oi := ⟨some 36, .binOp .add 3 (.tmp 34) (.tmp 35) 3, _, _, _, none⟩) (v := .int .i64 (a : Int)) rfl (by kernel_rfl) (by kernel_rfl) (by kernel_rfl) (fun _ _ _ h => h) (Or.inl ⟨by rfl, fun w _ => by go_simp⟩) hHeld ?_
        simp only [Act.put, List.setIfInBounds_toArray, List.set_cons_zero, List.set_cons_succ]
        refine wpAnyH_take (i := 11) (oi := ⟨some 37, .binOp .rem 3 (.tmp 36) (.const (.int .i64 128)) 3, _, _, _, none⟩) (v := .int .i64 ((a : Int) % 128)) rfl (by kernel_rfl) (by kernel_rfl) (by kernel_rfl) (fun _ _ _ h => h) (Or.inl ⟨by rfl, fun w _ => by go_simp⟩) hHeld ?_
        simp only [Act.put, List.setIfInBounds_toArray, List.set_cons_zero, List.set_cons_succ]
        refine wpAnyH_take (i := 12) (oi := ⟨some 38, .fieldAddr 85 (.tmp 3) 2, _, _, _, none⟩) (v := .pointer (some ⟨w.heap.size + 1, 2, none⟩)) rfl (by kernel_rfl) (by kernel_rfl) (by kernel_rfl) (fun _ _ _ h => h) (Or.inl ⟨by rfl, fun w _ => by go_simp⟩) hHeld ?_
        simp only [Act.put, List.setIfInBounds_toArray, List.set_cons_zero, List.set_cons_succ]
        refine wpAnyH_take (i := 13) (oi := ⟨some 39, .load 25 (.tmp 38), _, _, _, none⟩) (v := .int .u32 v) rfl (by kernel_rfl) (by kernel_rfl) (by kernel_rfl) (fun _ _ _ h => h) (Or.inl ⟨by rfl, fun w hSw => by have e1 := hSw.2.2; clear hSw; go_simp⟩) hHeld ?_
        simp only [Act.put, List.setIfInBounds_toArray, List.set_cons_zero, List.set_cons_succ]
        refine wpAnyH_take (i := 14) (oi := ⟨some 40, .move (.tmp 7), _, _, _, none⟩) (v := .int .i64 0) rfl (by kernel_rfl) (by kernel_rfl) (by kernel_rfl) (fun _ _ _ h => h) (Or.inl ⟨by rfl, fun _ _ => rfl⟩) hHeld ?_
        simp only [Act.put, List.setIfInBounds_toArray, List.set_cons_zero, List.set_cons_succ]
        refine wpAnyH_take (i := 15) (oi := ⟨some 41, .binOp .mul 3 (.const (.int .i64 8)) (.tmp 40) 3, _, _, _, none⟩) (v := .int .i64 0) rfl (by kernel_rfl) (by kernel_rfl) (by kernel_rfl) (fun _ _ _ h => h) (Or.inl ⟨by rfl, fun w _ => by go_simp⟩) hHeld ?_
        simp only [Act.put, List.setIfInBounds_toArray, List.set_cons_zero, List.set_cons_succ]
        refine wpAnyH_take (i := 16) (oi := ⟨some 42, .binOp .shr 25 (.tmp 39) (.tmp 41) 3, _, _, _, none⟩) (v := .int .u32 (v)) rfl (by kernel_rfl) (by kernel_rfl) (by kernel_rfl) (fun _ _ _ h => h) (Or.inl ⟨by rfl, fun w _ => by go_simp⟩) hHeld ?_
        simp only [Act.put, List.setIfInBounds_toArray, List.set_cons_zero, List.set_cons_succ]
        refine wpAnyH_take (i := 17) (oi := ⟨some 43, .convert 25 5 (.tmp 42), _, _, _, none⟩) (v := .int .u8 (v % 256)) rfl (by kernel_rfl) (by kernel_rfl) (by kernel_rfl) (fun _ _ _ h => h) (Or.inl ⟨by rfl, fun w _ => by go_simp⟩) hHeld ?_
        simp only [Act.put, List.setIfInBounds_toArray, List.set_cons_zero, List.set_cons_succ]
        refine wpAnyH_take (i := 18) (oi := ⟨some 44, .indexAddr 22 (.tmp 27) (.tmp 32), _, _, _, none⟩) (v := .pointer (some ⟨g, a / 128 * 128, none⟩)) rfl (by kernel_rfl) (by kernel_rfl) (by kernel_rfl) (fun _ _ _ h => h) (Or.inl ⟨by rfl, fun w _ => by go_simp⟩) hHeld ?_
        simp only [Act.put, List.setIfInBounds_toArray, List.set_cons_zero, List.set_cons_succ]
        refine wpAnyH_take (i := 19) (oi := ⟨some 45, .indexAddr 106 (.tmp 44) (.tmp 37), _, _, _, none⟩) (v := .pointer (some ⟨g, a, none⟩)) rfl (by kernel_rfl) (by kernel_rfl) (by kernel_rfl) (fun _ _ _ h => h) (Or.inl ⟨by rfl, fun w _ => by go_simp⟩) hHeld ?_
        simp only [Act.put, List.setIfInBounds_toArray, List.set_cons_zero, List.set_cons_succ]
        refine wpAnyH_ready (rs := [20]) (by kernel_rfl) (by simp) (AllReadyH.cons (o := ⟨none, .store 5 (.tmp 45) (.tmp 43), _, _, _, none⟩) rfl (fun K' hK => ?_) (AllReadyH.nil))
        go_simp
        have hbs := hbk.set a (.int .u8 (v % 256))
        replace b6 := b6.set_other ⟨g, a, none⟩ (.int .u8 (v % 256)) (by simp; omega)
        replace bW := bW.set_other ⟨g, a, none⟩ (.int .u8 (v % 256)) (by simp; omega)
        replace bR := bR.set_other ⟨g, a, none⟩ (.int .u8 (v % 256)) (by simp; omega)
        replace lr : Later w (World.setCell _ ⟨g, a, none⟩ (.int .u8 (v % 256))) := lr.setCell hgw _
        refine hK.out _ _ ⟨b6.cell rfl, bW.cell rfl, bW.cell rfl⟩ (fun hHeld => ?_)
        clear hK K'
        try simp only [Act.put, List.setIfInBounds_toArray, List.set_cons_zero, List.set_cons_succ]
        refine wpAnyH_done (by kernel_rfl) ?_ _
        clear hHeld
        rw [show (U (Mm.put b a (X.take 0)) ++ junk).set a (.int .u8 (v % 256)) = U (Mm.put b a (X.take (0 + 1))) ++ junk by rw [HRL.out, List.set_append_left _ _ (by rw [U_length, hlen]; exact hnK)]; unfold U; rw [List.map_set]] at hbs
        clear t0 u1 u2 u3 t1 t2 t3 t4 t5 q1 q2 q3 q4 hce hfe
        go_wp2
        go_roundw
        case rel => exact ⟨1, by omega, by go_num, hbs, b6, bW, bR, lr⟩
        case measure => simp [intOf]; omega
      · simp only [show ((1 : Nat) : Int) = 1 from rfl]
        have hx := HXg.out 1 hkr
        have hnK : (a + 1) < n * 128 := by have := HB.out.2; omega
        have hlen : (Mm.put b a (X.take 1)).length = n * 128 := by rw [Mm.put_len (by rw [List.length_take, HX.out, HB.out.1]; have := HB.out.2; omega), HB.out.1]
        have hce : wr.drew.cell? ⟨g, (a + 1), none⟩ = some (.int .u8 ((Mm.put b a (X.take 1)).getD (a + 1) 0)) := hbk.cell (by rw [List.getElem?_append_left (by rw [U_length, hlen]; exact hnK), U_get _ _ (by rw [hlen]; exact hnK)])
        obtain ⟨y, hy⟩ : ∃ y, y = (Mm.put b a (X.take 1)).getD (a + 1) 0 := ⟨_, rfl⟩
        rw [← hy] at hce
        have hfe := hbk.drew.frz (a + 1)
        have t0 : IntKind.i64.wrap ((a : Int) + 1) = ((a : Int) + 1) := by rw [IntKind.wrap_i64]; omega
        have u1 : IntKind.i64.wrap (((a : Int) + 1) / 128) = ((a : Int) + 1) / 128 := by rw [IntKind.wrap_i64]; omega
        have u2 : IntKind.i64.wrap 8 = 8 := rfl
        have u3 : IntKind.u8.wrap (v / 256) = v / 256 % 256 := by rw [IntKind.wrap_u8]
        have t1 : ((a : Int) + 1).tdiv 128 = ((a : Int) + 1) / 128 := Int.tdiv_eq_ediv_of_nonneg (by omega)
        have t2 : ((a : Int) + 1).tmod 128 = ((a : Int) + 1) % 128 := Int.tmod_eq_emod_of_nonneg (by omega)
        have t3 : (((a : Int) + 1) / 128).toNat = (a + 1) / 128 := by omega
        have t4 : (((a : Int) + 1) % 128).toNat = (a + 1) % 128 := by omega
        have t5 : (a + 1) / 128 * 128 + (a + 1) % 128 = (a + 1) := by omega
        have q1 : ((a : Int) + 1) / 128 < (n : Int) := by omega
        have q2 : ((a : Int) + 1) % 128 < 128 := by omega
        have q3 : (0 : Int) ≤ ((a : Int) + 1) / 128 := by omega
        have q4 : (0 : Int) ≤ ((a : Int) + 1) % 128 := by omega
        have HRL := Lib.hid (show Mm.put b a (X.take (1 + 1)) = (Mm.put b a (X.take 1)).set (a + 1) (v / 256 % 256) by
          rw [List.take_add_one, hx, ← Mm.put_set _ _ _ (by rw [hlen]; exact hnK)]
          have := Mm.put_app b a (X.take 1) [v / 256 % 256] (by rw [List.length_take, HX.out, HB.out.1]; have := HB.out.2; simp; omega)
          rw [show (X.take 1).length = 1 by rw [List.length_take, HX.out]; omega] at this
          rw [show (some (v / 256 ^ 1 % 256)).toList = [v / 256 % 256] by rfl]
          exact this.symm)
        clear hx hy
        go_wp2
        replace b6 := b6.drew; replace bW := bW.drew; replace bR := bR.drew; replace hbk := hbk.drew; replace lr := lr.drew
        refine wp_region_held_drew (S := fun w' => w'.cell? ⟨B6, 0, none⟩ = some (.slice (some ⟨g, 0, none⟩) n c') ∧ w'.cell? ⟨w.heap.size + 1, 0, none⟩ = some (.int .i64 (a : Int)) ∧ w'.cell? ⟨w.heap.size + 1, 2, none⟩ = some (.int .u32 v)) (by kernel_rfl) ⟨b6.cell rfl, bW.cell rfl, bW.cell rfl⟩ (fun hHeld => ?_)
        refine wpAnyH_take (i := 0) (oi := ⟨some 26, .fieldAddr 24 (.tmp 6) 0, _, _, _, none⟩) (v := .pointer (some ⟨B6, 0, none⟩)) rfl (by kernel_rfl) (by kernel_rfl) (by kernel_rfl) (fun _ _ _ h => h) (Or.inl ⟨by rfl, fun w _ => by go_simp⟩) hHeld ?_
        simp only [Act.put, List.setIfInBounds_toArray, List.set_cons_zero, List.set_cons_succ]
        refine wpAnyH_take (i := 1) (oi := ⟨some 27, .load 22 (.tmp 26), _, _, _, none⟩) (v := .slice (some ⟨g, 0, none⟩) n c') rfl (by kernel_rfl) (by kernel_rfl) (by kernel_rfl) (fun _ _ _ h => h) (Or.inl ⟨by rfl, fun w hSw => by have e1 := hSw.1; clear hSw; go_simp⟩) hHeld ?_
        simp only [Act.put, List.setIfInBounds_toArray, List.set_cons_zero, List.set_cons_succ]
        refine wpAnyH_take (i := 2) (oi := ⟨some 28, .fieldAddr 85 (.tmp 3) 0, _, _, _, none⟩) (v := .pointer (some ⟨w.heap.size + 1, 0, none⟩)) rfl (by kernel_rfl) (by kernel_rfl) (by kernel_rfl) (fun _ _ _ h => h) (Or.inl ⟨by rfl, fun w _ => by go_simp⟩) hHeld ?_
        simp only [Act.put, List.setIfInBounds_toArray, List.set_cons_zero, List.set_cons_succ]
        refine wpAnyH_take (i := 3) (oi := ⟨some 29, .load 3 (.tmp 28), _, _, _, none⟩) (v := .int .i64 (a : Int)) rfl (by kernel_rfl) (by kernel_rfl) (by kernel_rfl) (fun _ _ _ h => h) (Or.inl ⟨by rfl, fun w hSw => by have e1 := hSw.2.1; clear hSw; go_simp⟩) hHeld ?_
        simp only [Act.put, List.setIfInBounds_toArray, List.set_cons_zero, List.set_cons_succ]
        refine wpAnyH_take (i := 4) (oi := ⟨some 30, .move (.tmp 7), _, _, _, none⟩) (v := .int .i64 1) rfl (by kernel_rfl) (by kernel_rfl) (by kernel_rfl) (fun _ _ _ h => h) (Or.inl ⟨by rfl, fun _ _ => rfl⟩) hHeld ?_
        simp only [Act.put, List.setIfInBounds_toArray, List.set_cons_zero, List.set_cons_succ]
        refine wpAnyH_take (i := 5) (oi := ⟨some 31, .binOp .add 3 (.tmp 29) (.tmp 30) 3, _, _, _, none⟩) (v := .int .i64 ((a : Int) + 1)) rfl (by kernel_rfl) (by kernel_rfl) (by kernel_rfl) (fun _ _ _ h => h) (Or.inl ⟨by rfl, fun w _ => by go_simp⟩) hHeld ?_
        simp only [Act.put, List.setIfInBounds_toArray, List.set_cons_zero, List.set_cons_succ]
        refine wpAnyH_take (i := 6) (oi := ⟨some 32, .binOp .quo 3 (.tmp 31) (.const (.int .i64 128)) 3, _, _, _, none⟩) (v := .int .i64 (((a : Int) + 1) / 128)) rfl (by kernel_rfl) (by kernel_rfl) (by kernel_rfl) (fun _ _ _ h => h) (Or.inl ⟨by rfl, fun w _ => by go_simp⟩) hHeld ?_
        simp only [Act.put, List.setIfInBounds_toArray, List.set_cons_zero, List.set_cons_succ]
        refine wpAnyH_take (i := 7) (oi := ⟨some 33, .fieldAddr 85 (.tmp 3) 0, _, _, _, none⟩) (v := .pointer (some ⟨w.heap.size + 1, 0, none⟩)) rfl (by kernel_rfl) (by kernel_rfl) (by kernel_rfl) (fun _ _ _ h => h) (Or.inl ⟨by rfl, fun w _ => by go_simp⟩) hHeld ?_
        simp only [Act.put, List.setIfInBounds_toArray, List.set_cons_zero, List.set_cons_succ]
        refine wpAnyH_take (i := 8) (oi := ⟨some 34, .load 3 (.tmp 33), _, _, _, none⟩) (v := .int .i64 (a : Int)) rfl (by kernel_rfl) (by kernel_rfl) (by kernel_rfl) (fun _ _ _ h => h) (Or.inl ⟨by rfl, fun w hSw => by have e1 := hSw.2.1; clear hSw; go_simp⟩) hHeld ?_
        simp only [Act.put, List.setIfInBounds_toArray, List.set_cons_zero, List.set_cons_succ]
        refine wpAnyH_take (i := 9) (oi := ⟨some 35, .move (.tmp 7), _, _, _, none⟩) (v := .int .i64 1) rfl (by kernel_rfl) (by kernel_rfl) (by kernel_rfl) (fun _ _ _ h => h) (Or.inl ⟨by rfl, fun _ _ => rfl⟩) hHeld ?_
        simp only [Act.put, List.setIfInBounds_toArray, List.set_cons_zero, List.set_cons_succ]
        refine wpAnyH_take (i := 10) (oi := ⟨some 36, .binOp .add 3 (.tmp 34) (.tmp 35) 3, _, _, _, none⟩) (v := .int .i64 ((a : Int) + 1)) rfl (by kernel_rfl) (by kernel_rfl) (by kernel_rfl) (fun _ _ _ h => h) (Or.inl ⟨by rfl, fun w _ => by go_simp⟩) hHeld ?_
        simp only [Act.put, List.setIfInBounds_toArray, List.set_cons_zero, List.set_cons_succ]
        refine wpAnyH_take (i := 11) (oi := ⟨some 37, .binOp .rem 3 (.tmp 36) (.const (.int .i64 128)) 3, _, _, _, none⟩) (v := .int .i64 (((a : Int) + 1) % 128)) rfl (by kernel_rfl) (by kernel_rfl) (by kernel_rfl) (fun _ _ _ h => h) (Or.inl ⟨by rfl, fun w _ => by go_simp⟩) hHeld ?_
        simp only [Act.put, List.setIfInBounds_toArray, List.set_cons_zero, List.set_cons_succ]
        refine wpAnyH_take (i := 12) (oi := ⟨some 38, .fieldAddr 85 (.tmp 3) 2, _, _, _, none⟩) (v := .pointer (some ⟨w.heap.size + 1, 2, none⟩)) rfl (by kernel_rfl) (by kernel_rfl) (by kernel_rfl) (fun _ _ _ h => h) (Or.inl ⟨by rfl, fun w _ => by go_simp⟩) hHeld ?_
        simp only [Act.put, List.setIfInBounds_toArray, List.set_cons_zero, List.set_cons_succ]
        refine wpAnyH_take (i := 13) (oi := ⟨some 39, .load 25 (.tmp 38), _, _, _, none⟩) (v := .int .u32 v) rfl (by kernel_rfl) (by kernel_rfl) (by kernel_rfl) (fun _ _ _ h => h) (Or.inl ⟨by rfl, fun w hSw => by have e1 := hSw.2.2; clear hSw; go_simp⟩) hHeld ?_
        simp only [Act.put, List.setIfInBounds_toArray, List.set_cons_zero, List.set_cons_succ]
        refine wpAnyH_take (i := 14) (oi := ⟨some 40, .move (.tmp 7), _, _, _, none⟩) (v := .int .i64 1) rfl (by kernel_rfl) (by kernel_rfl) (by kernel_rfl) (fun _ _ _ h => h) (Or.inl ⟨by rfl, fun _ _ => rfl⟩) hHeld ?_
        simp only [Act.put, List.setIfInBounds_toArray, List.set_cons_zero, List.set_cons_succ]
        refine wpAnyH_take (i := 15) (oi := ⟨some 41, .binOp .mul 3 (.const (.int .i64 8)) (.tmp 40) 3, _, _, _, none⟩) (v := .int .i64 8) rfl (by kernel_rfl) (by kernel_rfl) (by kernel_rfl) (fun _ _ _ h => h) (Or.inl ⟨by rfl, fun w _ => by go_simp⟩) hHeld ?_
        simp only [Act.put, List.setIfInBounds_toArray, List.set_cons_zero, List.set_cons_succ]
        refine wpAnyH_take (i := 16) (oi := ⟨some 42, .binOp .shr 25 (.tmp 39) (.tmp 41) 3, _, _, _, none⟩) (v := .int .u32 (v / 256)) rfl (by kernel_rfl) (by kernel_rfl) (by kernel_rfl) (fun _ _ _ h => h) (Or.inl ⟨by rfl, fun w _ => by go_simp⟩) hHeld ?_
        simp only [Act.put, List.setIfInBounds_toArray, List.set_cons_zero, List.set_cons_succ]
        refine wpAnyH_take (i := 17) (oi := ⟨some 43, .convert 25 5 (.tmp 42), _, _, _, none⟩) (v := .int .u8 (v / 256 % 256)) rfl (by kernel_rfl) (by kernel_rfl) (by kernel_rfl) (fun _ _ _ h => h) (Or.inl ⟨by rfl, fun w _ => by go_simp⟩) hHeld ?_
        simp only [Act.put, List.setIfInBounds_toArray, List.set_cons_zero, List.set_cons_succ]
        refine wpAnyH_take (i := 18) (oi := ⟨some 44, .indexAddr 22 (.tmp 27) (.tmp 32), _, _, _, none⟩) (v := .pointer (some ⟨g, (a + 1) / 128 * 128, none⟩)) rfl (by kernel_rfl) (by kernel_rfl) (by kernel_rfl) (fun _ _ _ h => h) (Or.inl ⟨by rfl, fun w _ => by go_simp⟩) hHeld ?_
        simp only [Act.put, List.setIfInBounds_toArray, List.set_cons_zero, List.set_cons_succ]
        refine wpAnyH_take (i := 19) (oi := ⟨some 45, .indexAddr 106 (.tmp 44) (.tmp 37), _, _, _, none⟩) (v := .pointer (some ⟨g, (a + 1), none⟩)) rfl (by kernel_rfl) (by kernel_rfl) (by kernel_rfl) (fun _ _ _ h => h) (Or.inl ⟨by rfl, fun w _ => by go_simp⟩) hHeld ?_
        simp only [Act.put, List.setIfInBounds_toArray, List.set_cons_zero, List.set_cons_succ]
        refine wpAnyH_ready (rs := [20]) (by kernel_rfl) (by simp) (AllReadyH.cons (o := ⟨none, .store 5 (.tmp 45) (.tmp 43), _, _, _, none⟩) rfl (fun K' hK => ?_) (AllReadyH.nil))
        go_simp
        have hbs := hbk.set (a + 1) (.int .u8 (v / 256 % 256))
        replace b6 := b6.set_other ⟨g, (a + 1), none⟩ (.int .u8 (v / 256 % 256)) (by simp; omega)
        replace bW := bW.set_other ⟨g, (a + 1), none⟩ (.int .u8 (v / 256 % 256)) (by simp; omega)
        replace bR := bR.set_other ⟨g, (a + 1), none⟩ (.int .u8 (v / 256 % 256)) (by simp; omega)
        replace lr : Later w (World.setCell _ ⟨g, (a + 1), none⟩ (.int .u8 (v / 256 % 256))) := lr.setCell hgw _
        refine hK.out _ _ ⟨b6.cell rfl, bW.cell rfl, bW.cell rfl⟩ (fun hHeld => ?_)
        clear hK K'
        try simp only [Act.put, List.setIfInBounds_toArray, List.set_cons_zero, List.set_cons_succ]
        refine wpAnyH_done (by kernel_rfl) ?_ _
        clear hHeld
        rw [show (U (Mm.put b a (X.take 1)) ++ junk).set (a + 1) (.int .u8 (v / 256 % 256)) = U (Mm.put b a (X.take (1 + 1))) ++ junk by rw [HRL.out, List.set_append_left _ _ (by rw [U_length, hlen]; exact hnK)]; unfold U; rw [List.map_set]] at hbs
        clear t0 u1 u2 u3 t1 t2 t3 t4 t5 q1 q2 q3 q4 hce hfe
        go_wp2
        go_roundw
        case rel => exact ⟨2, by omega, by go_num, hbs, b6, bW, bR, lr⟩
        case measure => simp [intOf]; omega
      · simp only [show ((2 : Nat) : Int) = 2 from rfl]
        have hx := HXg.out 2 hkr
        have hnK : (a + 2) < n * 128 := by have := HB.out.2; omega
        have hlen : (Mm.put b a (X.take 2)).length = n * 128 := by rw [Mm.put_len (by rw [List.length_take, HX.out, HB.out.1]; have := HB.out.2; omega), HB.out.1]
        have hce : wr.drew.cell? ⟨g, (a + 2), none⟩ = some (.int .u8 ((Mm.put b a (X.take 2)).getD (a + 2) 0)) := hbk.cell (by rw [List.getElem?_append_left (by rw [U_length, hlen]; exact hnK), U_get _ _ (by rw [hlen]; exact hnK)])
        obtain ⟨y, hy⟩ : ∃ y, y = (Mm.put b a (X.take 2)).getD (a + 2) 0 := ⟨_, rfl⟩
        rw [← hy] at hce
        have hfe := hbk.drew.frz (a + 2)
        have t0 : IntKind.i64.wrap ((a : Int) + 2) = ((a : Int) + 2) := by rw [IntKind.wrap_i64]; omega
        have u1 : IntKind.i64.wrap (((a : Int) + 2) / 128) = ((a : Int) + 2) / 128 := by rw [IntKind.wrap_i64]; omega
        have u2 : IntKind.i64.wrap 16 = 16 := rfl
        have u3 : IntKind.u8.wrap (v / 65536) = v / 65536 % 256 := by rw [IntKind.wrap_u8]
        have t1 : ((a : Int) + 2).tdiv 128 = ((a : Int) + 2) / 128 := Int.tdiv_eq_ediv_of_nonneg (by omega)
        have t2 : ((a : Int) + 2).tmod 128 = ((a : Int) + 2) % 128 := Int.tmod_eq_emod_of_nonneg (by omega)
        have t3 : (((a : Int) + 2) / 128).toNat = (a + 2) / 128 := by omega
        have t4 : (((a : Int) + 2) % 128).toNat = (a + 2) % 128 := by omega
        have t5 : (a + 2) / 128 * 128 + (a + 2) % 128 = (a + 2) := by omega
        have q1 : ((a : Int) + 2) / 128 < (n : Int) := by omega
        have q2 : ((a : Int) + 2) % 128 < 128 := by omega
        have q3 : (0 : Int) ≤ ((a : Int) + 2) / 128 := by omega
        have q4 : (0 : Int) ≤ ((a : Int) + 2) % 128 := by omega
        have HRL := Lib.hid (show Mm.put b a (X.take (2 + 1)) = (Mm.put b a (X.take 2)).set (a + 2) (v / 65536 % 256) by
          rw [List.take_add_one, hx, ← Mm.put_set _ _ _ (by rw [hlen]; exact hnK)]
          have := Mm.put_app b a (X.take 2) [v / 65536 % 256] (by rw [List.length_take, HX.out, HB.out.1]; have := HB.out.2; simp; omega)
          rw [show (X.take 2).length = 2 by rw [List.length_take, HX.out]; omega] at this
          rw [show (some (v / 256 ^ 2 % 256)).toList = [v / 65536 % 256] by rfl]
          exact this.symm)
        clear hx hy
        go_wp2
        replace b6 := b6.drew; replace bW := bW.drew; replace bR := bR.drew; replace hbk := hbk.drew; replace lr := lr.drew
        refine wp_region_held_drew (S := fun w' => w'.cell? ⟨B6, 0, none⟩ = some (.slice (some ⟨g, 0, none⟩) n c') ∧ w'.cell? ⟨w.heap.size + 1, 0, none⟩ = some (.int .i64 (a : Int)) ∧ w'.cell? ⟨w.heap.size + 1, 2, none⟩ = some (.int .u32 v)) (by kernel_rfl) ⟨b6.cell rfl, bW.cell rfl, bW.cell rfl⟩ (fun hHeld => ?_)
        refine wpAnyH_take (i := 0) (oi := ⟨some 26, .fieldAddr 24 (.tmp 6) 0, _, _, _, none⟩) (v := .pointer (some ⟨B6, 0, none⟩)) rfl (by kernel_rfl) (by kernel_rfl) (by kernel_rfl) (fun _ _ _ h => h) (Or.inl ⟨by rfl, fun w _ => by go_simp⟩) hHeld ?_
        simp only [Act.put, List.setIfInBounds_toArray, List.set_cons_zero, List.set_cons_succ]
        refine wpAnyH_take (i := 1) (oi := ⟨some 27, .load 22 (.tmp 26), _, _, _, none⟩) (v := .slice (some ⟨g, 0, none⟩) n c') rfl (by kernel_rfl) (by kernel_rfl) (by kernel_rfl) (fun _ _ _ h => h) (Or.inl ⟨by rfl, fun w hSw => by have e1 := hSw.1; clear hSw; go_simp⟩) hHeld ?_
        simp only [Act.put, List.setIfInBounds_toArray, List.set_cons_zero, List.set_cons_succ]
        refine wpAnyH_take (i := 2) (oi := ⟨some 28, .fieldAddr 85 (.tmp 3) 0, _, _, _, none⟩) (v := .pointer (some ⟨w.heap.size + 1, 0, none⟩)) rfl (by kernel_rfl) (by kernel_rfl) (by kernel_rfl) (fun _ _ _ h => h) (Or.inl ⟨by rfl, fun w _ => by go_simp⟩) hHeld ?_
        simp only [Act.put, List.setIfInBounds_toArray, List.set_cons_zero, List.set_cons_succ]
        refine wpAnyH_take (i := 3) (oi := ⟨some 29, .load 3 (.tmp 28), _, _, _, none⟩) (v := .int .i64 (a : Int)) rfl (by kernel_rfl) (by kernel_rfl) (by kernel_rfl) (fun _ _ _ h => h) (Or.inl ⟨by rfl, fun w hSw => by have e1 := hSw.2.1; clear hSw; go_simp⟩) hHeld ?_
        simp only [Act.put, List.setIfInBounds_toArray, List.set_cons_zero, List.set_cons_succ]
        refine wpAnyH_take (i := 4) (oi := ⟨some 30, .move (.tmp 7), _, _, _, none⟩) (v := .int .i64 2) rfl (by kernel_rfl) (by kernel_rfl) (by kernel_rfl) (fun _ _ _ h => h) (Or.inl ⟨by rfl, fun _ _ => rfl⟩) hHeld ?_
        simp only [Act.put, List.setIfInBounds_toArray, List.set_cons_zero, List.set_cons_succ]
        refine wpAnyH_take (i := 5) (oi := ⟨some 31, .binOp .add 3 (.tmp 29) (.tmp 30) 3, _, _, _, none⟩) (v := .int .i64 ((a : Int) + 2)) rfl (by kernel_rfl) (by kernel_rfl) (by kernel_rfl) (fun _ _ _ h => h) (Or.inl ⟨by rfl, fun w _ => by go_simp⟩) hHeld ?_
        simp only [Act.put, List.setIfInBounds_toArray, List.set_cons_zero, List.set_cons_succ]
        refine wpAnyH_take (i := 6) (oi := ⟨some 32, .binOp .quo 3 (.tmp 31) (.const (.int .i64 128)) 3, _, _, _, none⟩) (v := .int .i64 (((a : Int) + 2) / 128)) rfl (by kernel_rfl) (by kernel_rfl) (by kernel_rfl) (fun _ _ _ h => h) (Or.inl ⟨by rfl, fun w _ => by go_simp⟩) hHeld ?_
        simp only [Act.put, List.setIfInBounds_toArray, List.set_cons_zero, List.set_cons_succ]
        refine wpAnyH_take (i := 7) (oi := ⟨some 33, .fieldAddr 85 (.tmp 3) 0, _, _, _, none⟩) (v := .pointer (some ⟨w.heap.size + 1, 0, none⟩)) rfl (by kernel_rfl) (by kernel_rfl) (by kernel_rfl) (fun _ _ _ h => h) (Or.inl ⟨by rfl, fun w _ => by go_simp⟩) hHeld ?_
        simp only [Act.put, List.setIfInBounds_toArray, List.set_cons_zero, List.set_cons_succ]
        refine wpAnyH_take (i := 8) (oi := ⟨some 34, .load 3 (.tmp 33), _, _, _, none⟩) (v := .int .i64 (a : Int)) rfl (by kernel_rfl) (by kernel_rfl) (by kernel_rfl) (fun _ _ _ h => h) (Or.inl ⟨by rfl, fun w hSw => by have e1 := hSw.2.1; clear hSw; go_simp⟩) hHeld ?_
        simp only [Act.put, List.setIfInBounds_toArray, List.set_cons_zero, List.set_cons_succ]
        refine wpAnyH_take (i := 9) (oi := ⟨some 35, .move (.tmp 7), _, _, _, none⟩) (v := .int .i64 2) rfl (by kernel_rfl) (by kernel_rfl) (by kernel_rfl) (fun _ _ _ h => h) (Or.inl ⟨by rfl, fun _ _ => rfl⟩) hHeld ?_
        simp only [Act.put, List.setIfInBounds_toArray, List.set_cons_zero, List.set_cons_succ]
        refine wpAnyH_take (i := 10) (oi := ⟨some 36, .binOp .add 3 (.tmp 34) (.tmp 35) 3, _, _, _, none⟩) (v := .int .i64 ((a : Int) + 2)) rfl (by kernel_rfl) (by kernel_rfl) (by kernel_rfl) (fun _ _ _ h => h) (Or.inl ⟨by rfl, fun w _ => by go_simp⟩) hHeld ?_
        simp only [Act.put, List.setIfInBounds_toArray, List.set_cons_zero, List.set_cons_succ]
        refine wpAnyH_take (i := 11) (oi := ⟨some 37, .binOp .rem 3 (.tmp 36) (.const (.int .i64 128)) 3, _, _, _, none⟩) (v := .int .i64 (((a : Int) + 2) % 128)) rfl (by kernel_rfl) (by kernel_rfl) (by kernel_rfl) (fun _ _ _ h => h) (Or.inl ⟨by rfl, fun w _ => by go_simp⟩) hHeld ?_
        simp only [Act.put, List.setIfInBounds_toArray, List.set_cons_zero, List.set_cons_succ]
        refine wpAnyH_take (i := 12) (oi := ⟨some 38, .fieldAddr 85 (.tmp 3) 2, _, _, _, none⟩) (v := .pointer (some ⟨w.heap.size + 1, 2, none⟩)) rfl (by kernel_rfl) (by kernel_rfl) (by kernel_rfl) (fun _ _ _ h => h) (Or.inl ⟨by rfl, fun w _ => by go_simp⟩) hHeld ?_
        simp only [Act.put, List.setIfInBounds_toArray, List.set_cons_zero, List.set_cons_succ]
        refine wpAnyH_take (i := 13) (oi := ⟨some 39, .load 25 (.tmp 38), _, _, _, none⟩) (v := .int .u32 v) rfl (by kernel_rfl) (by kernel_rfl) (by kernel_rfl) (fun _ _ _ h => h) (Or.inl ⟨by rfl, fun w hSw => by have e1 := hSw.2.2; clear hSw; go_simp⟩) hHeld ?_
        simp only [Act.put, List.setIfInBounds_toArray, List.set_cons_zero, List.set_cons_succ]
        refine wpAnyH_take (i := 14) (oi := ⟨some 40, .move (.tmp 7), _, _, _, none⟩) (v := .int .i64 2) rfl (by kernel_rfl) (by kernel_rfl) (by kernel_rfl) (fun _ _ _ h => h) (Or.inl ⟨by rfl, fun _ _ => rfl⟩) hHeld ?_
        simp only [Act.put, List.setIfInBounds_toArray, List.set_cons_zero, List.set_cons_succ]
        refine wpAnyH_take (i := 15) (oi := ⟨some 41, .binOp .mul 3 (.const (.int .i64 8)) (.tmp 40) 3, _, _, _, none⟩) (v := .int .i64 16) rfl (by kernel_rfl) (by kernel_rfl) (by kernel_rfl) (fun _ _ _ h => h) (Or.inl ⟨by rfl, fun w _ => by go_simp⟩) hHeld ?_
        simp only [Act.put, List.setIfInBounds_toArray, List.set_cons_zero, List.set_cons_succ]
        refine wpAnyH_take (i := 16) (oi := ⟨some 42, .binOp .shr 25 (.tmp 39) (.tmp 41) 3, _, _, _, none⟩) (v := .int .u32 (v / 65536)) rfl (by kernel_rfl) (by kernel_rfl) (by kernel_rfl) (fun _ _ _ h => h) (Or.inl ⟨by rfl, fun w _ => by go_simp⟩) hHeld ?_
        simp only [Act.put, List.setIfInBounds_toArray, List.set_cons_zero, List.set_cons_succ]
        refine wpAnyH_take (i := 17) (oi := ⟨some 43, .convert 25 5 (.tmp 42), _, _, _, none⟩) (v := .int .u8 (v / 65536 % 256)) rfl (by kernel_rfl) (by kernel_rfl) (by kernel_rfl) (fun _ _ _ h => h) (Or.inl ⟨by rfl, fun w _ => by go_simp⟩) hHeld ?_
        simp only [Act.put, List.setIfInBounds_toArray, List.set_cons_zero, List.set_cons_succ]
        refine wpAnyH_take (i := 18) (oi := ⟨some 44, .indexAddr 22 (.tmp 27) (.tmp 32), _, _, _, none⟩) (v := .pointer (some ⟨g, (a + 2) / 128 * 128, none⟩)) rfl (by kernel_rfl) (by kernel_rfl) (by kernel_rfl) (fun _ _ _ h => h) (Or.inl ⟨by rfl, fun w _ => by go_simp⟩) hHeld ?_
        simp only [Act.put, List.setIfInBounds_toArray, List.set_cons_zero, List.set_cons_succ]
        refine wpAnyH_take (i := 19) (oi := ⟨some 45, .indexAddr 106 (.tmp 44) (.tmp 37), _, _, _, none⟩) (v := .pointer (some ⟨g, (a + 2), none⟩)) rfl (by kernel_rfl) (by kernel_rfl) (by kernel_rfl) (fun _ _ _ h => h) (Or.inl ⟨by rfl, fun w _ => by go_simp⟩) hHeld ?_
        simp only [Act.put, List.setIfInBounds_toArray, List.set_cons_zero, List.set_cons_succ]
        refine wpAnyH_ready (rs := [20]) (by kernel_rfl) (by simp) (AllReadyH.cons (o := ⟨none, .store 5 (.tmp 45) (.tmp 43), _, _, _, none⟩) rfl (fun K' hK => ?_) (AllReadyH.nil))
        go_simp
        have hbs := hbk.set (a + 2) (.int .u8 (v / 65536 % 256))
        replace b6 := b6.set_other ⟨g, (a + 2), none⟩ (.int .u8 (v / 65536 % 256)) (by simp; omega)
        replace bW := bW.set_other ⟨g, (a + 2), none⟩ (.int .u8 (v / 65536 % 256)) (by simp; omega)
        replace bR := bR.set_other ⟨g, (a + 2), none⟩ (.int .u8 (v / 65536 % 256)) (by simp; omega)
        replace lr : Later w (World.setCell _ ⟨g, (a + 2), none⟩ (.int .u8 (v / 65536 % 256))) := lr.setCell hgw _
        refine hK.out _ _ ⟨b6.cell rfl, bW.cell rfl, bW.cell rfl⟩ (fun hHeld => ?_)
        clear hK K'
        try simp only [Act.put, List.setIfInBounds_toArray, List.set_cons_zero, List.set_cons_succ]
        refine wpAnyH_done (by kernel_rfl) ?_ _
        clear hHeld
        rw [show (U (Mm.put b a (X.take 2)) ++ junk).set (a + 2) (.int .u8 (v / 65536 % 256)) = U (Mm.put b a (X.take (2 + 1))) ++ junk by rw [HRL.out, List.set_append_left _ _ (by rw [U_length, hlen]; exact hnK)]; unfold U; rw [List.map_set]] at hbs
        clear t0 u1 u2 u3 t1 t2 t3 t4 t5 q1 q2 q3 q4 hce hfe
        go_wp2
        go_roundw
        case rel => exact ⟨3, by omega, by go_num, hbs, b6, bW, bR, lr⟩
        case measure => simp [intOf]; omega
      · simp only [show ((3 : Nat) : Int) = 3 from rfl]
        have hx := HXg.out 3 hkr
        have hnK : (a + 3) < n * 128 := by have := HB.out.2; omega
        have hlen : (Mm.put b a (X.take 3)).length = n * 128 := by rw [Mm.put_len (by rw [List.length_take, HX.out, HB.out.1]; have := HB.out.2; omega), HB.out.1]
        have hce : wr.drew.cell? ⟨g, (a + 3), none⟩ = some (.int .u8 ((Mm.put b a (X.take 3)).getD (a + 3) 0)) := hbk.cell (by rw [List.getElem?_append_left (by rw [U_length, hlen]; exact hnK), U_get _ _ (by rw [hlen]; exact hnK)])
        obtain ⟨y, hy⟩ : ∃ y, y = (Mm.put b a (X.take 3)).getD (a + 3) 0 := ⟨_, rfl⟩
        rw [← hy] at hce
        have hfe := hbk.drew.frz (a + 3)
        have t0 : IntKind.i64.wrap ((a : Int) + 3) = ((a : Int) + 3) := by rw [IntKind.wrap_i64]; omega
        have u1 : IntKind.i64.wrap (((a : Int) + 3) / 128) = ((a : Int) + 3) / 128 := by rw [IntKind.wrap_i64]; omega
        have u2 : IntKind.i64.wrap 24 = 24 := rfl
        have u3 : IntKind.u8.wrap (v / 16777216) = v / 16777216 := by rw [IntKind.wrap_u8]; omega
        have t1 : ((a : Int) + 3).tdiv 128 = ((a : Int) + 3) / 128 := Int.tdiv_eq_ediv_of_nonneg (by omega)
        have t2 : ((a : Int) + 3).tmod 128 = ((a : Int) + 3) % 128 := Int.tmod_eq_emod_of_nonneg (by omega)
        have t3 : (((a : Int) + 3) / 128).toNat = (a + 3) / 128 := by omega
        have t4 : (((a : Int) + 3) % 128).toNat = (a + 3) % 128 := by omega
        have t5 : (a + 3) / 128 * 128 + (a + 3) % 128 = (a + 3) := by omega
        have q1 : ((a : Int) + 3) / 128 < (n : Int) := by omega
        have q2 : ((a : Int) + 3) % 128 < 128 := by omega
        have q3 : (0 : Int) ≤ ((a : Int) + 3) / 128 := by omega
        have q4 : (0 : Int) ≤ ((a : Int) + 3) % 128 := by omega
        have HRL := Lib.hid (show Mm.put b a (X.take (3 + 1)) = (Mm.put b a (X.take 3)).set (a + 3) (v / 16777216) by
          rw [List.take_add_one, hx, ← Mm.put_set _ _ _ (by rw [hlen]; exact hnK)]
          have := Mm.put_app b a (X.take 3) [v / 16777216] (by rw [List.length_take, HX.out, HB.out.1]; have := HB.out.2; simp; omega)
          rw [show (X.take 3).length = 3 by rw [List.length_take, HX.out]; omega] at this
          rw [show (some (v / 256 ^ 3 % 256)).toList = [v / 16777216] by rw [show v / 256 ^ 3 % 256 = v / 16777216 by omega]; rfl]
          exact this.symm)
        clear hx hy
        go_wp2
        replace b6 := b6.drew; replace bW := bW.drew; replace bR := bR.drew; replace hbk := hbk.drew; replace lr := lr.drew
        refine wp_region_held_drew (S := fun w' => w'.cell? ⟨B6, 0, none⟩ = some (.slice (some ⟨g, 0, none⟩) n c') ∧ w'.cell? ⟨w.heap.size + 1, 0, none⟩ = some (.int .i64 (a : Int)) ∧ w'.cell? ⟨w.heap.size + 1, 2, none⟩ = some (.int .u32 v)) (by kernel_rfl) ⟨b6.cell rfl, bW.cell rfl, bW.cell rfl⟩ (fun hHeld => ?_)
        refine wpAnyH_take (i := 0) (oi := ⟨some 26, .fieldAddr 24 (.tmp 6) 0, _, _, _, none⟩) (v := .pointer (some ⟨B6, 0, none⟩)) rfl (by kernel_rfl) (by kernel_rfl) (by kernel_rfl) (fun _ _ _ h => h) (Or.inl ⟨by rfl, fun w _ => by go_simp⟩) hHeld ?_
        simp only [Act.put, List.setIfInBounds_toArray, List.set_cons_zero, List.set_cons_succ]
        refine wpAnyH_take (i := 1) (oi := ⟨some 27, .load 22 (.tmp 26), _, _, _, none⟩) (v := .slice (some ⟨g, 0, none⟩) n c') rfl (by kernel_rfl) (by kernel_rfl) (by kernel_rfl) (fun _ _ _ h => h) (Or.inl ⟨by rfl, fun w hSw => by have e1 := hSw.1; clear hSw; go_simp⟩) hHeld ?_
        simp only [Act.put, List.setIfInBounds_toArray, List.set_cons_zero, List.set_cons_succ]
        refine wpAnyH_take (i := 2) (oi := ⟨some 28, .fieldAddr 85 (.tmp 3) 0, _, _, _, none⟩) (v := .pointer (some ⟨w.heap.size + 1, 0, none⟩)) rfl (by kernel_rfl) (by kernel_rfl) (by kernel_rfl) (fun _ _ _ h => h) (Or.inl ⟨by rfl, fun w _ => by go_simp⟩) hHeld ?_
        simp only [Act.put, List.setIfInBounds_toArray, List.set_cons_zero, List.set_cons_succ]
        refine wpAnyH_take (i := 3) (oi := ⟨some 29, .load 3 (.tmp 28), _, _, _, none⟩) (v := .int .i64 (a : Int)) rfl (by kernel_rfl) (by kernel_rfl) (by kernel_rfl) (fun _ _ _ h => h) (Or.inl ⟨by rfl, fun w hSw => by have e1 := hSw.2.1; clear hSw; go_simp⟩) hHeld ?_
        simp only [Act.put, List.setIfInBounds_toArray, List.set_cons_zero, List.set_cons_succ]
        refine wpAnyH_take (i := 4) (oi := ⟨some 30, .move (.tmp 7), _, _, _, none⟩) (v := .int .i64 3) rfl (by kernel_rfl) (by kernel_rfl) (by kernel_rfl) (fun _ _ _ h => h) (Or.inl ⟨by rfl, fun _ _ => rfl⟩) hHeld ?_
        simp only [Act.put, List.setIfInBounds_toArray, List.set_cons_zero, List.set_cons_succ]
        refine wpAnyH_take (i := 5) (oi := ⟨some 31, .binOp .add 3 (.tmp 29) (.tmp 30) 3, _, _, _, none⟩) (v := .int .i64 ((a : Int) + 3)) rfl (by kernel_rfl) (by kernel_rfl) (by kernel_rfl) (fun _ _ _ h => h) (Or.inl ⟨by rfl, fun w _ => by go_simp⟩) hHeld ?_
        simp only [Act.put, List.setIfInBounds_toArray, List.set_cons_zero, List.set_cons_succ]
        refine wpAnyH_take (i := 6) (oi := ⟨some 32, .binOp .quo 3 (.tmp 31) (.const (.int .i64 128)) 3, _, _, _, none⟩) (v := .int .i64 (((a : Int) + 3) / 128)) rfl (by kernel_rfl) (by kernel_rfl) (by kernel_rfl) (fun _ _ _ h => h) (Or.inl ⟨by rfl, fun w _ => by go_simp⟩) hHeld ?_
        simp only [Act.put, List.setIfInBounds_toArray, List.set_cons_zero, List.set_cons_succ]
        refine wpAnyH_take (i := 7) (oi := ⟨some 33, .fieldAddr 85 (.tmp 3) 0, _, _, _, none⟩) (v := .pointer (some ⟨w.heap.size + 1, 0, none⟩)) rfl (by kernel_rfl) (by kernel_rfl) (by kernel_rfl) (fun _ _ _ h => h) (Or.inl ⟨by rfl, fun w _ => by go_simp⟩) hHeld ?_
        simp only [Act.put, List.setIfInBounds_toArray, List.set_cons_zero, List.set_cons_succ]
        refine wpAnyH_take (i := 8) (oi := ⟨some 34, .load 3 (.tmp 33), _, _, _, none⟩) (v := .int .i64 (a : Int)) rfl (by kernel_rfl) (by kernel_rfl) (by kernel_rfl) (fun _ _ _ h => h) (Or.inl ⟨by rfl, fun w hSw => by have e1 := hSw.2.1; clear hSw; go_simp⟩) hHeld ?_
        simp only [Act.put, List.setIfInBounds_toArray, List.set_cons_zero, List.set_cons_succ]
        refine wpAnyH_take (i := 9) (oi := ⟨some 35, .move (.tmp 7), _, _, _, none⟩) (v := .int .i64 3) rfl (by kernel_rfl) (by kernel_rfl) (by kernel_rfl) (fun _ _ _ h => h) (Or.inl ⟨by rfl, fun _ _ => rfl⟩) hHeld ?_
        simp only [Act.put, List.setIfInBounds_toArray, List.set_cons_zero, List.set_cons_succ]
        refine wpAnyH_take (i := 10) (oi := ⟨some 36, .binOp .add 3 (.tmp 34) (.tmp 35) 3, _, _, _, none⟩) (v := .int .i64 ((a : Int) + 3)) rfl (by kernel_rfl) (by kernel_rfl) (by kernel_rfl) (fun _ _ _ h => h) (Or.inl ⟨by rfl, fun w _ => by go_simp⟩) hHeld ?_
        simp only [Act.put, List.setIfInBounds_toArray, List.set_cons_zero, List.set_cons_succ]
        refine wpAnyH_take (i := 11) (oi := ⟨some 37, .binOp .rem 3 (.tmp 36) (.const (.int .i64 128)) 3, _, _, _, none⟩) (v := .int .i64 (((a : Int) + 3) % 128)) rfl (by kernel_rfl) (by kernel_rfl) (by kernel_rfl) (fun _ _ _ h => h) (Or.inl ⟨by rfl, fun w _ => by go_simp⟩) hHeld ?_
        simp only [Act.put, List.setIfInBounds_toArray, List.set_cons_zero, List.set_cons_succ]
        refine wpAnyH_take (i := 12) (oi := ⟨some 38, .fieldAddr 85 (.tmp 3) 2, _, _, _, none⟩) (v := .pointer (some ⟨w.heap.size + 1, 2, none⟩)) rfl (by kernel_rfl) (by kernel_rfl) (by kernel_rfl) (fun _ _ _ h => h) (Or.inl ⟨by rfl, fun w _ => by go_simp⟩) hHeld ?_
        simp only [Act.put, List.setIfInBounds_toArray, List.set_cons_zero, List.set_cons_succ]
        refine wpAnyH_take (i := 13) (oi := ⟨some 39, .load 25 (.tmp 38), _, _, _, none⟩) (v := .int .u32 v) rfl (by kernel_rfl) (by kernel_rfl) (by kernel_rfl) (fun _ _ _ h => h) (Or.inl ⟨by rfl, fun w hSw => by have e1 := hSw.2.2; clear hSw; go_simp⟩) hHeld ?_
        simp only [Act.put, List.setIfInBounds_toArray, List.set_cons_zero, List.set_cons_succ]
        refine wpAnyH_take (i := 14) (oi := ⟨some 40, .move (.tmp 7), _, _, _, none⟩) (v := .int .i64 3) rfl (by kernel_rfl) (by kernel_rfl) (by kernel_rfl) (fun _ _ _ h => h) (Or.inl ⟨by rfl, fun _ _ => rfl⟩) hHeld ?_
        simp only [Act.put, List.setIfInBounds_toArray, List.set_cons_zero, List.set_cons_succ]
        refine wpAnyH_take (i := 15) (oi := ⟨some 41, .binOp .mul 3 (.const (.int .i64 8)) (.tmp 40) 3, _, _, _, none⟩) (v := .int .i64 24) rfl (by kernel_rfl) (by kernel_rfl) (by kernel_rfl) (fun _ _ _ h => h) (Or.inl ⟨by rfl, fun w _ => by go_simp⟩) hHeld ?_
        simp only [Act.put, List.setIfInBounds_toArray, List.set_cons_zero, List.set_cons_succ]
        refine wpAnyH_take (i := 16) (oi := ⟨some 42, .binOp .shr 25 (.tmp 39) (.tmp 41) 3, _, _, _, none⟩) (v := .int .u32 (v / 16777216)) rfl (by kernel_rfl) (by kernel_rfl) (by kernel_rfl) (fun _ _ _ h => h) (Or.inl ⟨by rfl, fun w _ => by go_simp⟩) hHeld ?_
        simp only [Act.put, List.setIfInBounds_toArray, List.set_cons_zero, List.set_cons_succ]
        refine wpAnyH_take (i := 17) (oi := ⟨some 43, .convert 25 5 (.tmp 42), _, _, _, none⟩) (v := .int .u8 (v / 16777216)) rfl (by kernel_rfl) (by kernel_rfl) (by kernel_rfl) (fun _ _ _ h => h) (Or.inl ⟨by rfl, fun w _ => by go_simp⟩) hHeld ?_
        simp only [Act.put, List.setIfInBounds_toArray, List.set_cons_zero, List.set_cons_succ]
        refine wpAnyH_take (i := 18) (oi := ⟨some 44, .indexAddr 22 (.tmp 27) (.tmp 32), _, _, _, none⟩) (v := .pointer (some ⟨g, (a + 3) / 128 * 128, none⟩)) rfl (by kernel_rfl) (by kernel_rfl) (by kernel_rfl) (fun _ _ _ h => h) (Or.inl ⟨by rfl, fun w _ => by go_simp⟩) hHeld ?_
        simp only [Act.put, List.setIfInBounds_toArray, List.set_cons_zero, List.set_cons_succ]
        refine wpAnyH_take (i := 19) (oi := ⟨some 45, .indexAddr 106 (.tmp 44) (.tmp 37), _, _, _, none⟩) (v := .pointer (some ⟨g, (a + 3), none⟩)) rfl (by kernel_rfl) (by kernel_rfl) (by kernel_rfl) (fun _ _ _ h => h) (Or.inl ⟨by rfl, fun w _ => by go_simp⟩) hHeld ?_
        simp only [Act.put, List.setIfInBounds_toArray, List.set_cons_zero, List.set_cons_succ]
        refine wpAnyH_ready (rs := [20]) (by kernel_rfl) (by simp) (AllReadyH.cons (o := ⟨none, .store 5 (.tmp 45) (.tmp 43), _, _, _, none⟩) rfl (fun K' hK => ?_) (AllReadyH.nil))
        go_simp
        have hbs := hbk.set (a + 3) (.int .u8 (v / 16777216))
        replace b6 := b6.set_other ⟨g, (a + 3), none⟩ (.int .u8 (v / 16777216)) (by simp; omega)
        replace bW := bW.set_other ⟨g, (a + 3), none⟩ (.int .u8 (v / 16777216)) (by simp; omega)
        replace bR := bR.set_other ⟨g, (a + 3), none⟩ (.int .u8 (v / 16777216)) (by simp; omega)
        replace lr : Later w (World.setCell _ ⟨g, (a + 3), none⟩ (.int .u8 (v / 16777216))) := lr.setCell hgw _
        refine hK.out _ _ ⟨b6.cell rfl, bW.cell rfl, bW.cell rfl⟩ (fun hHeld => ?_)
        clear hK K'
        try simp only [Act.put, List.setIfInBounds_toArray, List.set_cons_zero, List.set_cons_succ]
        refine wpAnyH_done (by kernel_rfl) ?_ _
        clear hHeld
        rw [show (U (Mm.put b a (X.take 3)) ++ junk).set (a + 3) (.int .u8 (v / 16777216)) = U (Mm.put b a (X.take (3 + 1))) ++ junk by rw [HRL.out, List.set_append_left _ _ (by rw [U_length, hlen]; exact hnK)]; unfold U; rw [List.map_set]] at hbs
        clear t0 u1 u2 u3 t1 t2 t3 t4 t5 q1 q2 q3 q4 hce hfe
        go_wp2
        go_roundw
        case rel => exact ⟨4, by omega, by go_num, hbs, b6, bW, bR, lr⟩
        case measure => simp [intOf]; omega
    · obtain rfl : k = s := by omega
      rw [List.take_of_length_le (by rw [HX.out]; exact Nat.le_refl _)] at hbk
      have c0 := bR.cell (j := 0) (v := .slice none 0 0) rfl
      have c1 := bR.cell (j := 1) (v := .bool false) rfl
      have f0 := bR.frz 0
      have f1 := bR.frz 1
      have nkk : ¬ (k : Int) < (k : Int) := by omega
      have hDr : Draft wr g n (Mm.put b a X) := ⟨by rw [Mm.put_len (by rw [HX.out, HB.out.1]; exact HB.out.2), HB.out.1], t, junk, hbk⟩
      have HDr := Lib.hid hDr
      clear hDr hbk
      go_wp2
      exact bodyPost_ret (results_blk Try.results70 _ _ (w.heap.size + 1 + 1) 91 [.slice (some ⟨g, 0, none⟩) n c', .bool true] _ rfl ((bR.set 0 _).set 1 _) Try.underlying91 rfl (sto_sz _ _)) rfl ⟨_, _, rfl, hgw, k2, k3, (HDr.out.only (Only.set _ (w.heap.size + 1 + 1) 0 _) (by omega)).only (Only.set _ (w.heap.size + 1 + 1) 1 _) (by omega), (lr.setCell (by simp; omega) _).setCell (by simp; omega) _⟩
theorem rstore_any (A : Option Addr) (n c : Nat) (a s v : Int) (b : Wm.Bs) (w : World) (hs : Sl w 128 A n (U b)) (hn1 : 1 ≤ n) (hn : n ≤ 64) (hnc : n ≤ c) (hc : c ≤ maxLen) (hw : isW (a, s, v)) :
    Calls Try.prog 70 #[.agg #[.slice A n c], .agg #[.int .i64 a, .int .i64 s, .int .u32 v]] w (GotS n (Mm.st b a s v) (decide (Mm.There (n * 128) a s)) w) := by
  have hbl : b.length = n * 128 := by have := hs.1; rwa [U_length] at this
  unfold Mm.st
  rw [hbl]
  by_cases h : Mm.There (n * 128) a s
  · rw [if_pos h, decide_eq_true h]
    obtain ⟨a', rfl⟩ := Int.eq_ofNat_of_zero_le h.2.1
    obtain ⟨s', rfl⟩ := Int.eq_ofNat_of_zero_le (show 0 ≤ s by have := h.1; omega)
    exact (rstore_there A n c a' s' v b w hs hn1 hn h hw.2.2.1 hw.2.2.2).mono fun e w' ⟨g, c', h1, _, h3, h4, h5, h6⟩ => ⟨_, c', h1, h3, h4, h5.sl, h6⟩
  · rw [if_neg h, decide_eq_false h]
    obtain ⟨ad, rfl⟩ := hs.addr (by omega)
    exact rstore_none ad n c a s v b w hs hn1 hn hnc hc hw.1 h
end Go.Proofs.Ytffgbbfcbobecaa
