/-
  THE WALK OF draft.store.
-/
import Derived.Test.YtffgbbfcbobecaaMemE
namespace Go.Proofs.Ytffgbbfcbobecaa
open Go.RowKit Go.ChangeShapes Go.WideShapes Go.ChangeAt

/-- Later, but for the block B. -/
def Lx (B : Nat) (w w' : World) : Prop := w'.os = w.os ∧ w'.tape = w.tape ∧ w'.output = w.output ∧ w.heap.size ≤ w'.heap.size ∧ ∀ k, k < w.heap.size → k ≠ B → w'.heap[k]? = w.heap[k]?
theorem Lx.size {B : Nat} {w w' : World} (h : Lx B w w') : w.heap.size ≤ w'.heap.size := h.2.2.2.1
theorem Lx.trans_ {B : Nat} {a b c : World} (h : Lx B a b) (k : Lx B b c) : Lx B a c :=
  ⟨k.1.trans h.1, k.2.1.trans h.2.1, k.2.2.1.trans h.2.2.1, Nat.le_trans h.size k.size, fun j hj hne => (k.2.2.2.2 j (Nat.lt_of_lt_of_le hj h.size) hne).trans (h.2.2.2.2 j hj hne)⟩
theorem Lx.of {B : Nat} {w w' : World} (h : Later w w') : Lx B w w' := ⟨h.os, h.tape, h.output, h.size, fun k hk _ => h.block k hk⟩
theorem Lx.only {B : Nat} {w w' : World} (h : Only B w w') : Lx B w w' := ⟨h.1, h.2.1, h.2.2.1, Nat.le_of_eq h.size.symm, fun k _ hne => h.2.2.2.2 k hne⟩
theorem Lx.later {B : Nat} {a w w' : World} (h : Lx B a w) (k : Later w w') : Lx B a w' := h.trans_ (Lx.of k)
theorem Lx.back {B : Nat} {a w w' : World} (h : Later a w) (k : Lx B w w') (hB : a.heap.size ≤ B) : Later a w' :=
  ⟨k.1.trans h.os, k.2.1.trans h.tape, k.2.2.1.trans h.output, Nat.le_trans h.size k.size, fun j hj => (k.2.2.2.2 j (Nat.lt_of_lt_of_le hj h.size) (by omega)).trans (h.block j hj)⟩
theorem Blk.lx {B g : Nat} {w w' : World} {t : TypeId} {cs : List Value} (h : Blk w B t cs) (k : Lx g w w') (hne : B ≠ g) : Blk w' B t cs := by
  unfold Blk; rw [k.2.2.2.2 B h.lt hne]; exact h
theorem Lx.cell {B : Nat} {w w' : World} (k : Lx B w w') {a : Addr} (hl : a.block < w.heap.size) (hne : a.block ≠ B) : w'.cell? a = w.cell? a := by
  unfold World.cell?
  rw [k.2.2.2.2 a.block hl hne]
theorem Sl.lx {B size n : Nat} {w w' : World} {A : Option Addr} {xs : List Value} (h : Sl w size A n xs) (k : Lx B w w') (hne : 0 < n → ∀ ad, A = some ad → ad.block ≠ B) : Sl w' size A n xs :=
  ⟨h.1, fun hn => by
    obtain ⟨ad, e, hl, hc⟩ := h.2 hn
    refine ⟨ad, e, Nat.lt_of_lt_of_le hl k.size, fun j u hu => ?_⟩
    rw [k.cell (by rw [addr_add_block]; exact hl) (by rw [addr_add_block]; exact hne hn ad e)]
    exact hc j u hu⟩
theorem range1 {w : World} {B : Nat} {v : Value} (h : w.cell? ⟨B, 0, none⟩ = some v) : w.rangeAt B 0 [v] := fun j u hu => by
  cases j with
  | zero => obtain rfl : v = u := by simpa using hu
            simpa using h
  | succ j => cases hu
theorem el_part {v : Int} {s : Nat} (h : s = 1 ∨ s = 4) : Mm.el s v = (Mm.el 4 v).take s := by
  rcases h with rfl | rfl
  · rw [el4]; rfl
  · rw [el4]; rfl

theorem store_none (g n c : Nat) (a s v : Int) (w : World) (hn : n ≤ 64) (ha : -9223372036854775808 ≤ a ∧ a ≤ 9223372036854775807) (h : ¬ Mm.There (n * 128) a s) :
    Calls Try.prog 84 #[.agg #[.slice (some ⟨g, 0, none⟩) n c], .agg #[.int .i64 a, .int .i64 s, .int .u32 v]] w fun e w' => e = .returned (.bool false) ∧ Later w w' := by
  have HT := Lib.hid fun w' => there_any (some ⟨g, 0, none⟩) n c a s w' hn ha
  rw [decide_eq_false h] at HT
  clear h
  go_enter Try.func84, Try.ntmps84
  go_wp2_with (first
    | (go_at_call 76; refine (HT.out _).mono ?_; rintro e w1 ⟨rfl, l1⟩))
  go_ret
  exact ⟨rfl, Later.trans_ ((later1 _ _).alloc (by simp) _) l1⟩
set_option maxRecDepth 100000 in
set_option maxHeartbeats 2000000 in
theorem store_there (g n c a s : Nat) (v : Int) (b : Wm.Bs) (w : World) (hd : Draft w g n b) (hn : n ≤ 64) (h : Mm.There (n * 128) (a : Int) (s : Int)) (hv0 : 0 ≤ v) (hv1 : v < 4294967296) :
    Calls Try.prog 84 #[.agg #[.slice (some ⟨g, 0, none⟩) n c], .agg #[.int .i64 (a : Int), .int .i64 (s : Int), .int .u32 v]] w fun e w' => e = .returned (.bool true) ∧ Draft w' g n (Mm.put b a (Mm.el s v)) ∧ Lx g w w' := by
  have HT := Lib.hid fun w' => there_any (some ⟨g, 0, none⟩) n c (a : Int) (s : Int) w' hn ⟨by omega, by have := h.2.2; omega⟩
  rw [decide_eq_true h] at HT
  obtain ⟨h1, h2, h3⟩ := h
  have hs4 : s = 1 ∨ s = 4 := by omega
  have hfit : a % 128 + s ≤ 128 := by omega
  have has : a + s ≤ n * 128 := by omega
  have HD := Lib.hid hd
  obtain ⟨hbl, t, junk, hbk⟩ := hd
  have HF := Lib.hid fun w' => from_any ⟨g, 0, none⟩ n c a w' hn (by omega)
  rw [Addr.add_mid, Nat.zero_add] at HF
  have HB := Lib.hid fun w' => bytesOf_any v w' hv0 hv1
  obtain ⟨X, hX⟩ : ∃ X, X = Mm.el 4 v := ⟨_, rfl⟩
  obtain ⟨x, hx⟩ : ∃ x, x = Mm.el s v := ⟨_, rfl⟩
  have hxX : x = X.take s := by rw [hx, hX, el_part hs4]
  have hXl : X.length = 4 := by rw [hX, Mm.el_len]
  have hxl : x.length = s := by rw [hx, Mm.el_len]
  rw [← hX] at HB
  rw [← hx]
  have HXX := Lib.hid hXl
  have HX := Lib.hid (show (U x).length = Nat.min s (128 - a % 128) ∧ a + (U x).length ≤ (U b ++ junk).length ∧ (∀ (B5 : Nat) {w' : World}, Blk w' B5 134 (U X) → ∀ j u, (U x)[j]? = some u → w'.cell? ((⟨B5, 0, none⟩ : Addr).add j) = some u) from
    ⟨by rw [U_length, hxl]; exact (Nat.min_eq_left (by omega)).symm, by rw [U_length, hxl, List.length_append, U_length, hbl]; omega, fun B5 w' h5 j u hu => by
      rw [Addr.add_mid, Nat.zero_add]
      refine h5.cell ?_
      rw [hxX] at hu
      unfold U at hu ⊢
      rw [List.map_take, List.getElem?_take] at hu
      split at hu
      · exact hu
      · cases hu⟩)
  have HL := Lib.hid (show b.length = n * 128 ∧ a + x.length ≤ n * 128 from ⟨hbl, by rw [hxl]; exact has⟩)
  have s4 : (s : Int) ≤ 4 := by omega
  have hgl := hbk.lt
  clear hX hx hxX hXl hxl hs4 hfit has hbl h1 h2 h3
  go_enter Try.func84, Try.ntmps84
  go_wp2_with (first
    | (go_at_call 76; refine (HT.out _).mono ?_; rintro e w1 ⟨rfl, l1⟩; have b2 := ((Blk.new w 127 #[.slice (some ⟨g, 0, none⟩) n c] [.slice (some ⟨g, 0, none⟩) n c] rfl).alloc (.cells #[.int .i64 (a : Int), .int .i64 (s : Int), .int .u32 v] 85)).keep l1; have b3 := (Blk.new' (w.alloc (.cells #[.slice (some ⟨g, 0, none⟩) n c] 127)) (w.heap.size + 1) 85 #[.int .i64 (a : Int), .int .i64 (s : Int), .int .u32 v] [.int .i64 (a : Int), .int .i64 (s : Int), .int .u32 v] (by simp) rfl).keep l1; have l2 := Later.trans_ ((later1 w _).alloc (by simp) _) l1; have e32 := b3.cell (j := 2) (v := .int .u32 v) rfl)
    | (go_at_call 89; refine (HB.out _).mono ?_; rintro e w3 ⟨rfl, l3⟩; replace b2 := b2.keep l3; replace b3 := b3.keep l3; replace l2 := Later.trans_ l2 l3)
    | ((with_reducible refine wpList_store_abs (o := ⟨none, .store 134 (.tmp 5) (.tmp 16), _, _, _, none⟩) rfl _ _ _ rfl w3.heap.size 134 (U [0, 0, 0, 0]) (U X) ?_ ?_ ?_ (word_sz X HXX.out) (word_z HXX.out) (U_one _) ?_); rfl; rfl; exact Blk.new _ _ _ _ rfl; intro w5 b5 o5))
  replace b2 := ((b2.alloc (.cells #[.int .u8 0, .int .u8 0, .int .u8 0, .int .u8 0] 134)).only o5 (Nat.ne_of_lt b2.lt)).drew
  replace b3 := ((b3.alloc (.cells #[.int .u8 0, .int .u8 0, .int .u8 0, .int .u8 0] 134)).only o5 (Nat.ne_of_lt b3.lt)).drew
  replace b5 := b5.drew
  have l3 : Later w w5.drew := (Below.only (l2.alloc l2.size (.cells #[.int .u8 0, .int .u8 0, .int .u8 0, .int .u8 0] 134)) o5 l2.size).drew
  replace hbk := hbk.keep l3
  have HNE := Lib.hid (show w.heap.size ≠ g ∧ w.heap.size + 1 ≠ g from ⟨by omega, by omega⟩)
  obtain ⟨B2, hB2⟩ : ∃ B2, B2 = w.heap.size := ⟨_, rfl⟩
  obtain ⟨B3, hB3⟩ : ∃ B3, B3 = w.heap.size + 1 := ⟨_, rfl⟩
  obtain ⟨B5, hB5⟩ : ∃ B5, B5 = w3.heap.size := ⟨_, rfl⟩
  have HX2 := fun w' => HX.out.2.2 B5 (w' := w')
  rw [← hB3, ← hB2] at HNE ⊢
  rw [← hB3] at b3
  rw [← hB2] at b2
  rw [← hB5] at b5 ⊢
  clear hB2 hB3 hB5 l1 l2 e32
  refine wp_region_held_drew (S := fun w' => w'.cell? ⟨B2, 0, none⟩ = some (.slice (some ⟨g, 0, none⟩) n c) ∧ w'.cell? ⟨B3, 0, none⟩ = some (.int .i64 (a : Int)) ∧ w'.cell? ⟨B3, 1, none⟩ = some (.int .i64 (s : Int))) (by kernel_rfl) ⟨b2.cell rfl, b3.cell rfl, b3.cell rfl⟩ (fun hHeld => ?_)
  refine wpAnyH_take (i := 0) (oi := ⟨some 17, .fieldAddr 127 (.tmp 2) 0, _, _, _, none⟩) (v := .pointer (some ⟨B2, 0, none⟩)) rfl (by kernel_rfl) (by kernel_rfl) (by kernel_rfl) (fun _ _ _ h => h) (Or.inl ⟨by rfl, fun w _ => by go_simp⟩) hHeld ?_
  simp only [Act.put, List.setIfInBounds_toArray, List.set_cons_zero, List.set_cons_succ]
  refine wpAnyH_take (i := 1) (oi := ⟨some 18, .load 24 (.tmp 17), _, _, _, none⟩) (v := .agg #[.slice (some ⟨g, 0, none⟩) n c]) rfl (by kernel_rfl) (by kernel_rfl) (by kernel_rfl) (fun _ _ _ h => h) (yieldsIf_load_mid (by rfl) _ _ rfl _ _ rfl _ _ (fun w h => range1 h.1) Try.underlying24 rfl mem_sz) hHeld ?_
  simp only [Act.put, List.setIfInBounds_toArray, List.set_cons_zero, List.set_cons_succ]
  refine wpAnyH_take (i := 2) (oi := ⟨some 19, .fieldAddr 85 (.tmp 3) 0, _, _, _, none⟩) (v := .pointer (some ⟨B3, 0, none⟩)) rfl (by kernel_rfl) (by kernel_rfl) (by kernel_rfl) (fun _ _ _ h => h) (Or.inl ⟨by rfl, fun w _ => by go_simp⟩) hHeld ?_
  simp only [Act.put, List.setIfInBounds_toArray, List.set_cons_zero, List.set_cons_succ]
  refine wpAnyH_take (i := 3) (oi := ⟨some 20, .load 3 (.tmp 19), _, _, _, none⟩) (v := .int .i64 (a : Int)) rfl (by kernel_rfl) (by kernel_rfl) (by kernel_rfl) (fun _ _ _ h => h) (Or.inl ⟨by rfl, fun w hSw => by have e1 := hSw.2.1; clear hSw; go_simp⟩) hHeld ?_
  simp only [Act.put, List.setIfInBounds_toArray, List.set_cons_zero, List.set_cons_succ]
  refine wpAnyH_take (i := 5) (oi := ⟨some 22, .fieldAddr 85 (.tmp 3) 1, _, _, _, none⟩) (v := .pointer (some ⟨B3, 1, none⟩)) rfl (by kernel_rfl) (by kernel_rfl) (by kernel_rfl) (fun _ _ _ h => h) (Or.inl ⟨by rfl, fun w _ => by go_simp⟩) hHeld ?_
  simp only [Act.put, List.setIfInBounds_toArray, List.set_cons_zero, List.set_cons_succ]
  refine wpAnyH_take (i := 6) (oi := ⟨some 23, .load 3 (.tmp 22), _, _, _, none⟩) (v := .int .i64 (s : Int)) rfl (by kernel_rfl) (by kernel_rfl) (by kernel_rfl) (fun _ _ _ h => h) (Or.inl ⟨by rfl, fun w hSw => by have e1 := hSw.2.2; clear hSw; go_simp⟩) hHeld ?_
  simp only [Act.put, List.setIfInBounds_toArray, List.set_cons_zero, List.set_cons_succ]
  refine wpAnyH_take (i := 7) (oi := ⟨some 24, .slice 134 (.tmp 5) none (some (.tmp 23)) none, _, _, _, none⟩) (v := .slice (some ⟨B5, 0, none⟩) s 4) rfl (by kernel_rfl) (by kernel_rfl) (by kernel_rfl) (fun _ _ _ h => h) (Or.inl ⟨by rfl, fun w _ => by go_simp⟩) hHeld ?_
  simp only [Act.put, List.setIfInBounds_toArray, List.set_cons_zero, List.set_cons_succ]
  refine wpAnyH_ready (rs := [4]) (by kernel_rfl) (by simp) (AllReadyH.cons (o := ⟨some 21, .call { callee := .value (.func 61), args := #[.tmp 18, .tmp 20], argTypes := #[24, 3] }, _, _, _, none⟩) rfl (fun K' hK => ?_) (AllReadyH.nil))
  go_simp
  refine (HF.out _).mono ?_
  rintro e w4 ⟨rfl, l4⟩
  replace b2 := b2.keep l4
  replace b3 := b3.keep l4
  replace b5 := b5.keep l4
  replace l3 := Later.trans_ l3 l4
  replace hbk := hbk.keep l4
  refine hK.out _ _ ⟨b2.cell rfl, b3.cell rfl, b3.cell rfl⟩ (fun hHeld => ?_)
  clear hK K'
  try simp only [Act.put, List.setIfInBounds_toArray, List.set_cons_zero, List.set_cons_succ]
  refine wpAnyH_ready (rs := [8]) (by kernel_rfl) (by simp) (AllReadyH.cons (o := ⟨some 25, .call { callee := .builtin .copy, args := #[.tmp 21, .tmp 24], argTypes := #[94, 94] }, _, _, _, none⟩) rfl (fun K' hK => ?_) (AllReadyH.nil))
  refine wp_copy_row _ _ rfl Try.underlying94 u8_sz g a _ _ rfl ⟨B5, 0, none⟩ _ _ rfl (U x) HX.out.1 (HX2 _ b5) t (U b ++ junk) hbk HX.out.2.1 (U_one _) ?_
  intro w6 b6 o6
  replace b2 := b2.only o6 HNE.out.1
  replace b3 := b3.only o6 HNE.out.2
  refine hK.out _ _ ⟨b2.cell rfl, b3.cell rfl, b3.cell rfl⟩ (fun hHeld => ?_)
  clear hK K'
  try simp only [Act.put, List.setIfInBounds_toArray, List.set_cons_zero, List.set_cons_succ]
  refine wpAnyH_done (by kernel_rfl) ?_ _
  clear hHeld
  go_wp2
  go_ret
  exact ⟨rfl, HD.out.puts HL.out.1 HL.out.2 b6, (Lx.of l3).trans_ (Lx.only o6)⟩
theorem store_any (g n c : Nat) (a s v : Int) (b : Wm.Bs) (w : World) (hd : Draft w g n b) (hn : n ≤ 64) (ha : -9223372036854775808 ≤ a ∧ a ≤ 9223372036854775807) (hv0 : 0 ≤ v) (hv1 : v < 4294967296) :
    Calls Try.prog 84 #[.agg #[.slice (some ⟨g, 0, none⟩) n c], .agg #[.int .i64 a, .int .i64 s, .int .u32 v]] w fun e w' => e = .returned (.bool (decide (Mm.There (n * 128) a s))) ∧ Draft w' g n (Mm.st b a s v) ∧ Lx g w w' := by
  unfold Mm.st
  rw [hd.1]
  by_cases h : Mm.There (n * 128) a s
  · rw [if_pos h, decide_eq_true h]
    obtain ⟨a', rfl⟩ := Int.eq_ofNat_of_zero_le h.2.1
    obtain ⟨s', rfl⟩ := Int.eq_ofNat_of_zero_le (show 0 ≤ s by have := h.1; omega)
    exact store_there g n c a' s' v b w hd hn h hv0 hv1
  · rw [if_neg h, decide_eq_false h]
    exact (store_none g n c a s v w hn ha h).mono fun e w' ⟨h1, h2⟩ => ⟨h1, hd.keep h2, Lx.of h2⟩
end Go.Proofs.Ytffgbbfcbobecaa
