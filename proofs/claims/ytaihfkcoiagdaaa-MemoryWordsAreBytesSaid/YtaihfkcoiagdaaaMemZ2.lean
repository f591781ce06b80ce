/-
  THE STATEMENT MemoryWordsAreBytes: a store of a word is the four stores of its bytes, and Write of them; the word is made of the four bytes, and Read has them; for every memory, address and number.
-/
import Derived.Test.YtaihfkcoiagdaaaMemN
namespace Go.Proofs.Ytaihfkcoiagdaaa
open Go.RowKit Go.ChangeShapes Go.WideShapes Go.ChangeAt

set_option maxRecDepth 100000 in
theorem words_bad (A : Option Addr) (n c : Nat) (a v : Int) (w : World) (h : ¬ (1 ≤ n ∧ n ≤ 64)) :
    Calls Try.prog 6 #[.agg #[.slice A n c], .int .i64 a, .int .u32 v] w fun e w' => e = .returned (.bool true) ∧ Later w w' := by
  have HV := Lib.hid fun w' => rvalid_any A n c w'
  rw [decide_eq_false h] at HV
  have HN := Lib.hid fun w' => sanity_any w'
  clear h
  go_enter Try.func6, Try.ntmps6
  go_wp2_with (first
    | (go_at_call 11; refine (HV.out _).mono ?_; rintro e w1 ⟨rfl, l1⟩)
    | (go_at_call 9; refine (HN.out _).mono ?_; rintro e w2 ⟨rfl, l2⟩))
  go_ret
  exact ⟨rfl, Later.trans_ (Later.trans_ (later1 _ _) l1) l2⟩

def LK (a v : Int) : Nat → List (Int × Int × Int)
  | 0 => [] | 1 => [(a + 3, 1, v / 16777216)] | 2 => [(a + 3, 1, v / 16777216), (a + 2, 1, v / 65536)] | 3 => [(a + 3, 1, v / 16777216), (a + 2, 1, v / 65536), (a + 1, 1, v / 256)]
  | _ => [(a + 3, 1, v / 16777216), (a + 2, 1, v / 65536), (a + 1, 1, v / 256), (a, 1, v)]
theorem put4 {m : Wm.Bs} {o : Nat} {x0 x1 x2 x3 : Int} (h : o + 4 ≤ m.length) : Mm.put (Mm.put (Mm.put (Mm.put m (o + 3) [x3]) (o + 2) [x2]) (o + 1) [x1]) o [x0] = Mm.put m o [x0, x1, x2, x3] := by
  have l1 : (Mm.put m (o + 3) [x3]).length = m.length := Mm.put_len (by simp; omega)
  have l2 : (Mm.put (Mm.put m (o + 3) [x3]) (o + 2) [x2]).length = m.length := (Mm.put_len (by simp; omega)).trans l1
  have l3 : (Mm.put (Mm.put (Mm.put m (o + 3) [x3]) (o + 2) [x2]) (o + 1) [x1]).length = m.length := (Mm.put_len (by simp; omega)).trans l2
  apply List.ext_getElem?
  intro i
  rw [Mm.put_get (by simp; omega), Mm.put_get (by simp; omega), Mm.put_get (by simp; omega), Mm.put_get (by simp; omega), Mm.put_get (by simp; omega)]
  simp only [List.length_cons, List.length_nil]
  by_cases a : i < o
  · rw [if_pos a, if_pos (by omega), if_pos (by omega), if_pos (by omega), if_pos a]
  · rw [if_neg a, if_neg a]
    rcases (show i = o ∨ i = o + 1 ∨ i = o + 2 ∨ i = o + 3 ∨ o + 4 ≤ i by omega) with e | e | e | e | e
    · subst e; rw [if_pos (by omega), if_pos (by omega)]; simp
    · subst e; rw [if_neg (by omega), if_neg (by omega), if_pos (by omega), if_pos (by omega)]; simp
    · subst e; rw [if_neg (by omega), if_neg (by omega), if_neg (by omega), if_neg (by omega), if_pos (by omega), if_pos (by omega)]; simp
    · subst e; rw [if_neg (by omega), if_neg (by omega), if_neg (by omega), if_neg (by omega), if_neg (by omega), if_neg (by omega), if_pos (by omega), if_pos (by omega)]; simp
    · rw [if_neg (by omega), if_neg (by omega), if_neg (by omega), if_neg (by omega), if_neg (by omega), if_neg (by omega), if_neg (by omega), if_neg (by omega)]
theorem there1 {L : Nat} {a : Int} (h0 : 0 ≤ a) (h : a + 1 ≤ L) : Mm.There L a 1 := ⟨.inl rfl, h0, by omega⟩
theorem ap_bytes {m : Wm.Bs} {a v : Int} (h : Mm.There m.length a 4) : Mm.ap m (LK a v 4) = some (Mm.st m a 4 v) := by
  have hh := h
  obtain ⟨h1, h2, h3⟩ := h
  have l1 : (Mm.put m (a + 3).toNat (Mm.el (1 : Int).toNat (v / 16777216))).length = m.length := Mm.put_len (by rw [Mm.el_len]; omega)
  have l2 : (Mm.put (Mm.put m (a + 3).toNat (Mm.el (1 : Int).toNat (v / 16777216))) (a + 2).toNat (Mm.el (1 : Int).toNat (v / 65536))).length = m.length := (Mm.put_len (by rw [Mm.el_len]; omega)).trans l1
  have l3 : (Mm.put (Mm.put (Mm.put m (a + 3).toNat (Mm.el (1 : Int).toNat (v / 16777216))) (a + 2).toNat (Mm.el (1 : Int).toNat (v / 65536))) (a + 1).toNat (Mm.el (1 : Int).toNat (v / 256))).length = m.length := (Mm.put_len (by rw [Mm.el_len]; omega)).trans l2
  show Mm.ap m [(a + 3, 1, v / 16777216), (a + 2, 1, v / 65536), (a + 1, 1, v / 256), (a, 1, v)] = _
  rw [Mm.ap_cons, if_pos (there1 (by omega) (by omega)), Mm.ap_cons, if_pos (there1 (by omega) (show a + 2 + 1 ≤ ((Mm.put m (a + 3).toNat (Mm.el (1 : Int).toNat (v / 16777216))).length : Int) by rw [l1]; omega)), Mm.ap_cons, if_pos (there1 (by omega) (show a + 1 + 1 ≤ ((Mm.put (Mm.put m (a + 3).toNat (Mm.el (1 : Int).toNat (v / 16777216))) (a + 2).toNat (Mm.el (1 : Int).toNat (v / 65536))).length : Int) by rw [l2]; omega)), Mm.ap_cons, if_pos (there1 (by omega) (show a + 1 ≤ ((Mm.put (Mm.put (Mm.put m (a + 3).toNat (Mm.el (1 : Int).toNat (v / 16777216))) (a + 2).toNat (Mm.el (1 : Int).toNat (v / 65536))) (a + 1).toNat (Mm.el (1 : Int).toNat (v / 256))).length : Int) by rw [l3]; omega)), Mm.ap_nil]
  unfold Mm.st
  rw [if_pos hh, show (4 : Int).toNat = 4 from rfl, el4]
  have e3 : (a + 3).toNat = a.toNat + 3 := by omega
  have e2 : (a + 2).toNat = a.toNat + 2 := by omega
  have e1 : (a + 1).toNat = a.toNat + 1 := by omega
  rw [e3, e2, e1]
  exact congrArg some (put4 (by omega))
theorem write_info : (Try.prog.info? 27).map (fun i => (i.zero, i.size, i.bytes)) = some (some (.agg #[.int .i64 0, .int .i64 0, .int .u32 0]), 3, 24) := by kernel_rfl
theorem wc_one (x y z : Int) : ∀ u ∈ [Value.int .i64 x, .int .i64 y, .int .u32 z], u.oneCell' = true := by
  intro u hu
  simp only [List.mem_cons, List.not_mem_nil, or_false] at hu
  rcases hu with rfl | rfl | rfl <;> rfl
theorem isW_lk {a v : Int} (ha : 0 ≤ a ∧ a + 4 ≤ 8192) (h0 : 0 ≤ v) (h1 : v < 4294967296) : ∀ x ∈ LK a v 4, isW x := by
  intro x hx
  show isW x
  have hx' : x ∈ [(a + 3, 1, v / 16777216), (a + 2, 1, v / 65536), (a + 1, 1, v / 256), (a, 1, v)] := hx
  simp only [List.mem_cons, List.not_mem_nil, or_false] at hx'
  rcases hx' with rfl | rfl | rfl | rfl <;> (simp only [isW]; omega)
theorem sl_w4 {w : World} {B : Nat} {t : TypeId} {x0 x1 x2 x3 : Int} (h : Blk w B t [.int .u8 x0, .int .u8 x1, .int .u8 x2, .int .u8 x3]) : Sl w 1 (some ⟨B, 0, none⟩) 4 (U [x0, x1, x2, x3]) := by
  refine ⟨rfl, fun _ => ⟨_, rfl, h.lt, fun j u hu => ?_⟩⟩
  rw [Addr.add_mid, Nat.zero_add]
  exact h.cell hu

set_option maxRecDepth 100000 in
set_option maxHeartbeats 2000000 in
theorem words_no (A : Option Addr) (n c : Nat) (a v : Int) (b : Wm.Bs) (w : World) (hs : Sl w 128 A n (U b)) (hb : Wm.isBs b) (h1 : 1 ≤ n ∧ n ≤ 64) (hv0 : 0 ≤ v) (hv1 : v < 4294967296) (hat : -9223372036854775808 ≤ a ∧ a ≤ 9223372036854775807) (ht : ¬ Mm.There (n * 128) a 4) :
    Calls Try.prog 6 #[.agg #[.slice A n c], .int .i64 a, .int .u32 v] w fun e w' => e = .returned (.bool true) ∧ Later w w' := by
  have HV := Lib.hid fun w' => rvalid_any A n c w'
  rw [decide_eq_true h1] at HV
  have HN := Lib.hid fun w' => sanity_any w'
  have KS := Lib.hid fun w' (hl : Later w w') => pstore_any A n c a 4 v b w' (hs.keep hl) hb h1.1 h1.2 (by simp only [isW]; omega)
  rw [decide_eq_false ht] at KS
  clear ht hs hb h1
  go_enter Try.func6, Try.ntmps6
  go_wp2_with (first
    | (go_at_call 11; refine (HV.out _).mono ?_; rintro e w1 ⟨rfl, l1⟩; have b3 := (Blk.new w 24 #[.slice A n c] [.slice A n c] rfl).keep l1; have c3 := b3.cell (j := 0) (v := .slice A n c) rfl; have lw := Later.trans_ (later1 w _) l1)
    | (go_at_call 13; refine (KS.out _ lw).mono ?_; rintro e w2 ⟨g, c', rfl, _, _, _, _, l2⟩; replace lw := Later.trans_ (Later.trans_ lw l2) (later1 w2 (.cells #[.slice (some ⟨g, 0, none⟩) n c'] 24)))
    | (go_at_call 9; refine (HN.out _).mono ?_; rintro e w3 ⟨rfl, l3⟩; replace lw := Later.trans_ lw l3))
  go_ret
  exact ⟨rfl, lw⟩
set_option maxRecDepth 100000 in
set_option maxHeartbeats 8000000 in
theorem words_yes (A : Option Addr) (n c : Nat) (a v : Int) (b : Wm.Bs) (w : World) (hs : Sl w 128 A n (U b)) (hb : Wm.isBs b) (h1 : 1 ≤ n ∧ n ≤ 64) (hv0 : 0 ≤ v) (hv1 : v < 4294967296) (hat : -9223372036854775808 ≤ a ∧ a ≤ 9223372036854775807) (ht : Mm.There (n * 128) a 4) :
    Calls Try.prog 6 #[.agg #[.slice A n c], .int .i64 a, .int .u32 v] w fun e w' => e = .returned (.bool true) ∧ Later w w' := by
  obtain ⟨i0, hi, hz0, hz1, hz2⟩ := info_parts write_info
  have hbl : b.length = n * 128 := by have := hs.1; rwa [U_length] at this
  have ha0 : 0 ≤ a := ht.2.1
  have ha4 : a + 4 ≤ 8192 := by have := ht.2.2; omega
  have hthere : Mm.There b.length a 4 := by rw [hbl]; exact ht
  obtain ⟨X, hX⟩ : ∃ X, X = Mm.st b a 4 v := ⟨_, rfl⟩
  have hXp : X = Mm.put b a.toNat (Mm.el 4 v) := by rw [hX]; unfold Mm.st; rw [if_pos hthere]; rfl
  have hXl : X.length = n * 128 := by rw [hX, Mm.st_len, hbl]
  have hXb : Wm.isBs X := by rw [hX]; exact Mm.st_bs hb _ _ _
  have hIns : Mm.Inside (n * 128) a 4 := ⟨ha0, by omega, ht.2.2⟩
  have h4 : ((X.drop a.toNat).take 4) = Mm.el 4 v := by
    rw [hXp]
    have := Mm.put_same (m := b) (o := a.toNat) (d := Mm.el 4 v) (by rw [Mm.el_len]; have := ht.2.2; omega)
    rwa [Mm.el_len] at this
  have HV := Lib.hid fun w' => rvalid_any A n c w'
  rw [decide_eq_true h1] at HV
  have HN := Lib.hid fun w' => sanity_any w'
  have KS := Lib.hid fun w' (hl : Later w w') => pstore_any A n c a 4 v b w' (hs.keep hl) hb h1.1 h1.2 (by simp only [isW]; omega)
  rw [decide_eq_true ht, ← hX] at KS
  have KA := Lib.hid fun AL cl w' (hl : Later w w') (h : Sl w' 3 AL 4 (Ws (LK a v 4))) => apply_any A n c 4 cl AL (LK a v 4) b w' (hs.keep hl) hb h1.1 h1.2 h rfl (isW_lk ⟨ha0, ha4⟩ hv0 hv1) (by omega)
  rw [ap_bytes hthere, ← hX] at KA
  simp only [Option.getD_some, Option.isSome_some] at KA
  obtain ⟨S, hS⟩ : ∃ S, S = strOfNums (Mm.el 4 v) := ⟨_, rfl⟩
  have hSs : S.size = 4 := by rw [hS, show (strOfNums (Mm.el 4 v)).size = (Mm.el 4 v).length by unfold strOfNums; simp [ByteArray.size], Mm.el_len]
  have KW := Lib.hid fun w' (hl : Later w w') => write_any A n c a S b w' (hs.keep hl) h1.1 h1.2 hat
  rw [show Mm.wr b a (Wm.ofS S) = X by unfold Mm.wr; rw [Wm.ofS_length, hSs, hbl, if_pos (show Mm.Inside (n * 128) a ((4 : Nat) : Int) from hIns), hS, Wm.ofS_str (Mm.el_bs _ _), hXp], show decide (Mm.Inside (n * 128) a S.size) = true by rw [hSs]; exact decide_eq_true hIns] at KW
  have KR := Lib.hid fun g c' w' (hd : Draft w' g n X) => read_any (some ⟨g, 0, none⟩) n c' a 4 X w' hd.sl h1.1 h1.2 hat
  rw [show Mm.rd X a 4 = Mm.el 4 v by unfold Mm.rd; rw [hXl, if_pos hIns]; exact h4, ← hS, decide_eq_true hIns] at KR
  have KL := Lib.hid fun g c' w' (hd : Draft w' g n X) => load_any (some ⟨g, 0, none⟩) n c' a 4 X w' hd.sl hXb h1.1 h1.2 hat
  rw [show Mm.ld X a 4 = v by unfold Mm.ld; rw [hXl, if_pos ht, show (4 : Int).toNat = 4 from rfl, h4, Mm.le_el]; show v % 4294967296 = v; omega, decide_eq_true ht] at KL
  have KD := Lib.hid fun g c' gg cc w' (hd : Draft w' g n X) (hd2 : Draft w' gg n X) => diff_any (some ⟨g, 0, none⟩) n c' (some ⟨gg, 0, none⟩) n cc X X w' hd.sl hd2.sl h1.2 h1.2
  rw [(Mm.diff_nil hXl hXl).2 rfl] at KD
  have hcv0 := fun wX : World => run_str (P := Try.prog) 65 9 5 Try.underlying65 Try.underlying5 Try.underlying9 (sl_w4 (Blk.new wX 5 #[.int .u8 (v % 256), .int .u8 (v / 256 % 256), .int .u8 (v / 65536 % 256), .int .u8 (v / 16777216)] [.int .u8 (v % 256), .int .u8 (v / 256 % 256), .int .u8 (v / 65536 % 256), .int .u8 (v / 16777216)] rfl)) 4
  rw [show strOfNums [v % 256, v / 256 % 256, v / 65536 % 256, v / 16777216] = S by rw [hS, el4, show v / 16777216 % 256 = v / 16777216 by omega]] at hcv0
  have hcv := Lib.hid fun (wX : World) (B : Nat) (hB : wX.heap.size = B) => (hB ▸ hcv0 wX : (convert 65 9 (.slice (some ⟨B, 0, none⟩) 4 4)).run Try.prog (wX.alloc (.cells #[.int .u8 (v % 256), .int .u8 (v / 256 % 256), .int .u8 (v / 65536 % 256), .int .u8 (v / 16777216)] 5)) = .ok (.string S) (wX.alloc (.cells #[.int .u8 (v % 256), .int .u8 (v / 256 % 256), .int .u8 (v / 65536 % 256), .int .u8 (v / 16777216)] 5)))
  clear hcv0
  clear hS hSs h4 hIns hXp hXl hXb hX hthere hbl ht hs hb h1
  go_enter Try.func6, Try.ntmps6
  go_wp2_with (first
    | (go_at_call 11; refine (HV.out _).mono ?_; rintro e w1 ⟨rfl, l1⟩; have b3 := (Blk.new w 24 #[.slice A n c] [.slice A n c] rfl).keep l1; have c3 := b3.cell (j := 0) (v := .slice A n c) rfl; have lw := Later.trans_ (later1 w _) l1)
    | (go_at_call 13; refine (KS.out _ lw).mono ?_; rintro e w2 ⟨g, c', rfl, _, _, _, dx, l2⟩; replace b3 := (b3.keep l2).keep (later1 w2 (.cells #[.slice (some ⟨g, 0, none⟩) n c'] 24)); have b7 := Blk.new w2 24 #[.slice (some ⟨g, 0, none⟩) n c'] [.slice (some ⟨g, 0, none⟩) n c'] rfl; replace dx := dx.keep (later1 w2 (.cells #[.slice (some ⟨g, 0, none⟩) n c'] 24)); replace lw := Later.trans_ (Later.trans_ lw l2) (later1 w2 (.cells #[.slice (some ⟨g, 0, none⟩) n c'] 24)); clear c3))
  obtain ⟨wL, hwL⟩ : ∃ wL, wL = w2.alloc (.cells #[.slice (some ⟨g, 0, none⟩) n c'] 24) := ⟨_, rfl⟩
  obtain ⟨B7, hB7⟩ : ∃ B7, B7 = w2.heap.size := ⟨_, rfl⟩
  rw [← hwL] at b3 b7 dx lw ⊢
  rw [← hB7] at b7 ⊢
  clear hwL hB7
  go_loopw [9, 10] (fun x i wr => ∃ k : Nat, k ≤ 4 ∧ i = .int .i64 (3 - (k : Int)) ∧ wr.ownsRow wL.heap.size 27 3 x k (Ws (LK a v k)) ∧ Later wL wr) (fun _ i _ => (intOf i + 1).toNat)
  case atStart => exact ⟨0, by omega, by go_num, World.ownsRow_nil _ _ _ _, later0 _⟩
  case round =>
    rename_i wr
    obtain ⟨k, hk, rfl, hor, lr⟩ := hrel
    have hz := lr.size
    rcases (show k = 0 ∨ k = 1 ∨ k = 2 ∨ k = 3 ∨ k = 4 by omega) with rfl | rfl | rfl | rfl | rfl
    · rw [show (3 - ((0 : Nat) : Int)) = 3 from rfl]
      go_wp2_with (at_builtin; refine wpList_append_own _ rfl _ _ 43 rfl wL.heap.size 27 i0 (.agg #[.int .i64 0, .int .i64 0, .int .u32 0]) 3 24 Try.underlying43 hi hz0 hz1 hz2 rfl (by decide) _ _ _ rfl (hor.alloc _) ⟨wr.heap.size, 0, none⟩ 1 1 [.int .i64 (a + 3), .int .i64 1, .int .u32 (v / 16777216)] rfl rfl (fun j u hu => World.news_of_block (heap_alloc_new wr _) j u hu) (wc_one _ _ _) (by unfold maxLen; omega) (by omega) (by simp; omega) ?_; intro v' w4 hown' hgrow _)
      all_goals
        have hb2 : Later wL w4 := (lr.alloc hz _).grown hgrow (by simp; omega) (fun j hj => (hor.lt j hj).1)
        clear hgrow hor
        go_wp2
        go_roundw
        case rel => exact ⟨1, by omega, by go_num, hown', hb2⟩
        case measure => simp [intOf]
    · rw [show (3 - ((1 : Nat) : Int)) = 2 from rfl]
      go_wp2_with (at_builtin; refine wpList_append_own _ rfl _ _ 43 rfl wL.heap.size 27 i0 (.agg #[.int .i64 0, .int .i64 0, .int .u32 0]) 3 24 Try.underlying43 hi hz0 hz1 hz2 rfl (by decide) _ _ _ rfl (hor.alloc _) ⟨wr.heap.size, 0, none⟩ 1 1 [.int .i64 (a + 2), .int .i64 1, .int .u32 (v / 65536)] rfl rfl (fun j u hu => World.news_of_block (heap_alloc_new wr _) j u hu) (wc_one _ _ _) (by unfold maxLen; omega) (by omega) (by simp; omega) ?_; intro v' w4 hown' hgrow _)
      all_goals
        have hb2 : Later wL w4 := (lr.alloc hz _).grown hgrow (by simp; omega) (fun j hj => (hor.lt j hj).1)
        clear hgrow hor
        go_wp2
        go_roundw
        case rel => exact ⟨2, by omega, by go_num, hown', hb2⟩
        case measure => simp [intOf]
    · rw [show (3 - ((2 : Nat) : Int)) = 1 from rfl]
      go_wp2_with (at_builtin; refine wpList_append_own _ rfl _ _ 43 rfl wL.heap.size 27 i0 (.agg #[.int .i64 0, .int .i64 0, .int .u32 0]) 3 24 Try.underlying43 hi hz0 hz1 hz2 rfl (by decide) _ _ _ rfl (hor.alloc _) ⟨wr.heap.size, 0, none⟩ 1 1 [.int .i64 (a + 1), .int .i64 1, .int .u32 (v / 256)] rfl rfl (fun j u hu => World.news_of_block (heap_alloc_new wr _) j u hu) (wc_one _ _ _) (by unfold maxLen; omega) (by omega) (by simp; omega) ?_; intro v' w4 hown' hgrow _)
      all_goals
        have hb2 : Later wL w4 := (lr.alloc hz _).grown hgrow (by simp; omega) (fun j hj => (hor.lt j hj).1)
        clear hgrow hor
        go_wp2
        go_roundw
        case rel => exact ⟨3, by omega, by go_num, hown', hb2⟩
        case measure => simp [intOf]
    · rw [show (3 - ((3 : Nat) : Int)) = 0 from rfl]
      go_wp2_with (at_builtin; refine wpList_append_own _ rfl _ _ 43 rfl wL.heap.size 27 i0 (.agg #[.int .i64 0, .int .i64 0, .int .u32 0]) 3 24 Try.underlying43 hi hz0 hz1 hz2 rfl (by decide) _ _ _ rfl (hor.alloc _) ⟨wr.heap.size, 0, none⟩ 1 1 [.int .i64 a, .int .i64 1, .int .u32 (v)] rfl rfl (fun j u hu => World.news_of_block (heap_alloc_new wr _) j u hu) (wc_one _ _ _) (by unfold maxLen; omega) (by omega) (by simp; omega) ?_; intro v' w4 hown' hgrow _)
      all_goals
        have hb2 : Later wL w4 := (lr.alloc hz _).grown hgrow (by simp; omega) (fun j hj => (hor.lt j hj).1)
        clear hgrow hor
        go_wp2
        go_roundw
        case rel => exact ⟨4, by omega, by go_num, hown', hb2⟩
        case measure => simp [intOf]
    · rw [show (3 - ((4 : Nat) : Int)) = -1 from rfl]
      obtain ⟨AL, cl, rfl, _, _, o3, _⟩ := own_form hor
      replace b3 := b3.keep lr; replace b7 := b7.keep lr; replace dx := dx.keep lr; replace lw := Later.trans_ lw lr
      have c3 := b3.cell (j := 0) (v := .slice A n c) rfl
      clear hor
      go_wp2_with (first
        | (go_at_call 22; refine (KA.out AL cl _ lw o3).mono ?_; rintro e w5 ⟨gy, cy, rfl, _, _, _, dy, l5⟩; replace b3 := (b3.keep l5).keep (later1 w5 (.cells #[.slice (some ⟨gy, 0, none⟩) n cy] 24)); replace b7 := (b7.keep l5).keep (later1 w5 (.cells #[.slice (some ⟨gy, 0, none⟩) n cy] 24)); replace dx := (dx.keep l5).keep (later1 w5 (.cells #[.slice (some ⟨gy, 0, none⟩) n cy] 24)); replace dy := dy.keep (later1 w5 (.cells #[.slice (some ⟨gy, 0, none⟩) n cy] 24)); have b11 := Blk.new w5 24 #[.slice (some ⟨gy, 0, none⟩) n cy] [.slice (some ⟨gy, 0, none⟩) n cy] rfl; replace lw := Later.trans_ (Later.trans_ lw l5) (later1 w5 (.cells #[.slice (some ⟨gy, 0, none⟩) n cy] 24)); clear c3 o3; have hcv5 := hcv.out (w5.alloc (.cells #[.slice (some ⟨gy, 0, none⟩) n cy] 24)) (w5.heap.size + 1) (by simp); replace b3 := b3.keep (later1 _ (.cells #[.int .u8 (v % 256), .int .u8 (v / 256 % 256), .int .u8 (v / 65536 % 256), .int .u8 (v / 16777216)] 5)); have c3 := b3.cell (j := 0) (v := .slice A n c) rfl)
        | (go_at_call 21; refine (KW.out _ (Later.trans_ lw (later1 _ (.cells #[.int .u8 (v % 256), .int .u8 (v / 256 % 256), .int .u8 (v / 65536 % 256), .int .u8 (v / 16777216)] 5)))).mono ?_; rintro e w6 ⟨gz, cz, rfl, _, _, _, dz, l6⟩; replace b7 := ((b7.alloc _).keep l6).keep (later1 w6 (.cells #[.slice (some ⟨gz, 0, none⟩) n cz] 24)); replace b11 := ((b11.alloc _).keep l6).keep (later1 w6 (.cells #[.slice (some ⟨gz, 0, none⟩) n cz] 24)); replace dx := ((dx.keep (later1 _ _)).keep l6).keep (later1 w6 (.cells #[.slice (some ⟨gz, 0, none⟩) n cz] 24)); replace dy := ((dy.keep (later1 _ _)).keep l6).keep (later1 w6 (.cells #[.slice (some ⟨gz, 0, none⟩) n cz] 24)); replace dz := dz.keep (later1 w6 (.cells #[.slice (some ⟨gz, 0, none⟩) n cz] 24)); have b14 := Blk.new w6 24 #[.slice (some ⟨gz, 0, none⟩) n cz] [.slice (some ⟨gz, 0, none⟩) n cz] rfl; replace lw := Later.trans_ (Later.trans_ (Later.trans_ lw (later1 _ _)) l6) (later1 w6 (.cells #[.slice (some ⟨gz, 0, none⟩) n cz] 24)); have c7 := b7.cell (j := 0) (v := .slice (some ⟨g, 0, none⟩) n c') rfl)
        | (go_at_call 20; refine (KR.out g c' _ dx).mono ?_; rintro e w7 ⟨rfl, l7⟩; replace b7 := b7.keep l7; replace b11 := b11.keep l7; replace b14 := b14.keep l7; replace dx := dx.keep l7; replace dy := dy.keep l7; replace dz := dz.keep l7; replace lw := Later.trans_ lw l7; clear c7; have c7 := b7.cell (j := 0) (v := (.slice (some ⟨g, 0, none⟩) n c')) rfl)
        | (go_at_call 12; refine (KL.out g c' _ dx).mono ?_; rintro e w8 ⟨rfl, l8⟩; replace b7 := b7.keep l8; replace b11 := b11.keep l8; replace b14 := b14.keep l8; replace dx := dx.keep l8; replace dy := dy.keep l8; replace dz := dz.keep l8; replace lw := Later.trans_ lw l8; clear c7; have c7 := b7.cell (j := 0) (v := (.slice (some ⟨g, 0, none⟩) n c')) rfl)
        | (go_at_call 9; refine (HN.out _).mono ?_; rintro e w9 ⟨rfl, l9⟩; replace b7 := b7.keep l9; replace b11 := b11.keep l9; replace b14 := b14.keep l9; replace dx := dx.keep l9; replace dy := dy.keep l9; replace dz := dz.keep l9; replace lw := Later.trans_ lw l9; clear c7; have c7 := b7.cell (j := 0) (v := (.slice (some ⟨g, 0, none⟩) n c')) rfl; have c11 := b11.cell (j := 0) (v := .slice (some ⟨gy, 0, none⟩) n cy) rfl; have c14 := b14.cell (j := 0) (v := .slice (some ⟨gz, 0, none⟩) n cz) rfl)
        | (go_at_call 28; (with_reducible refine (KD.out g c' gy cy _ dx dy).mono ?_); rintro e wa ⟨AD, cD, rfl, _, _, _, la⟩; replace b7 := b7.keep la; replace b11 := b11.keep la; replace b14 := b14.keep la; replace dx := dx.keep la; replace dy := dy.keep la; replace dz := dz.keep la; replace lw := Later.trans_ lw la; clear c7 c11 c14; have c7 := b7.cell (j := 0) (v := (.slice (some ⟨g, 0, none⟩) n c')) rfl; have c11 := b11.cell (j := 0) (v := (.slice (some ⟨gy, 0, none⟩) n cy)) rfl; have c14 := b14.cell (j := 0) (v := (.slice (some ⟨gz, 0, none⟩) n cz)) rfl)
        | (go_at_call 28; (with_reducible refine (KD.out g c' gz cz _ dx dz).mono ?_); rintro e wb ⟨AE, cE, rfl, _, _, _, lb⟩; replace b7 := b7.keep lb; replace b11 := b11.keep lb; replace b14 := b14.keep lb; replace dx := dx.keep lb; replace dy := dy.keep lb; replace dz := dz.keep lb; replace lw := Later.trans_ lw lb; clear c7 c11 c14; have c7 := b7.cell (j := 0) (v := (.slice (some ⟨g, 0, none⟩) n c')) rfl; have c11 := b11.cell (j := 0) (v := (.slice (some ⟨gy, 0, none⟩) n cy)) rfl; have c14 := b14.cell (j := 0) (v := (.slice (some ⟨gz, 0, none⟩) n cz)) rfl))
      all_goals go_ret
      all_goals exact ⟨rfl, lw⟩
theorem words_all (A : Option Addr) (n c : Nat) (a v : Int) (b : Wm.Bs) (w : World) (hs : Sl w 128 A n (U b)) (hb : Wm.isBs b) (hv0 : 0 ≤ v) (hv1 : v < 4294967296) (hat : -9223372036854775808 ≤ a ∧ a ≤ 9223372036854775807) :
    Calls Try.prog 6 #[.agg #[.slice A n c], .int .i64 a, .int .u32 v] w fun e w' => e = .returned (.bool true) ∧ Later w w' := by
  by_cases h1 : 1 ≤ n ∧ n ≤ 64
  · by_cases ht : Mm.There (n * 128) a 4
    · exact words_yes A n c a v b w hs hb h1 hv0 hv1 hat ht
    · exact words_no A n c a v b w hs hb h1 hv0 hv1 hat ht
  · exact words_bad A n c a v w h1

set_option maxRecDepth 100000 in
theorem memoryWordsAreBytes_lifted (os : Os) (started : os.Started) (H : Type) (enc : TypeId × Value → H) :
    ReturnsInHanded {} Try.checked os 6 .any (Rows.memoryWordsAreBytesSpec.pre6 enc Try.prog Try.f6 Rows.memoryWordsAreBytesRow.domain false) (Rows.memoryWordsAreBytesSpec.post enc Try.prog Try.f6 false true false false) := by
  refine returnsInHanded_of_change (C := Try.checked) ownK started (by kernel_rfl) Try.func6
    (ChangeSpec.witness6 (enc := enc) (C := Try.checked) false ⟨#[], #[.agg #[.slice none 0 0], .int .i64 0, .int .u32 0], []⟩ 8 (by kernel_rfl) (by kernel_rfl) (by kernel_rfl) (by kernel_rfl)) ?_
  intro W base args ds gs before hval0 hW hcnd _
  have hval : ∀ (j : Nat) t v, Try.f6.params[j]? = some t → args[j]? = some v → Value.okWide Try.prog W .any base t v := hval0
  have hW' := hW
  obtain ⟨p, q, hA0, hV, rfl, hfz, hnd⟩ := hW
  have hA : DataW.TrodAll enc Try.prog W 0 (fun _ => true) true Try.f6.params.toList args.toList ds p := hA0
  rw [Try.params6] at hA hval
  obtain ⟨v0, vs0, d0, ds0, p0, q0, hargs, rfl, rfl, h0, r0⟩ := trodAll_cons hA
  obtain ⟨v1, vs1, d1, ds1, p1, q1, rfl, rfl, rfl, h1, r1⟩ := trodAll_cons r0
  obtain ⟨v2, vs2, d2, ds2, p2, q2, rfl, rfl, rfl, h2, r2⟩ := trodAll_cons r1
  obtain ⟨rfl, rfl, rfl⟩ := trodAll_nil r2
  obtain rfl : args = #[v0, v1, v2] := by cases args; simp_all
  obtain ⟨rfl, rfl⟩ := trodVars_none hV
  obtain ⟨A0, n0, c0, b0, rfl, x0, y0, s0, z0⟩ := mem_arg (K := 128) (by omega) Try.underlying24 rfl Try.underlying22 Try.underlying79 Try.underlying5 (by kernel_rfl) (by kernel_rfl) (by kernel_rfl) (by kernel_rfl) (hval 0 24 v0 rfl rfl) h0
  obtain ⟨a1, rfl, z1⟩ := int_arg Try.underlying3 (hval 1 3 v1 rfl rfl) h1
  obtain ⟨a2, rfl, z2⟩ := u32_arg Try.underlying25 (hval 2 25 v2 rfl rfl) h2
  clear hA0 hval0
  simp only [List.append_nil] at hW'
  refine (words_all A0 n0 c0 a1 a2 b0 W s0 z0 z2.1 (by omega) z1).mono fun e W' ⟨he, hw⟩ => ?_
  subst he
  exact ⟨_, rfl, law_post laidK rfl (by kernel_rfl) (by kernel_rfl) Try.underlying4 (by kernel_rfl) hW' rfl hw⟩
set_option maxRecDepth 100000 in
/-- The statement. -/
theorem memoryWordsAreBytes_said : Rows.MemoryWordsAreBytesSaid :=
  OpenClaim.holds_of_wide 6 Try.f6 rfl rfl rfl rfl rfl rfl rfl ⟨rfl, rfl, rfl, rfl, rfl⟩ rfl rfl rfl rfl rfl (by kernel_rfl) Try.func6 (by kernel_rfl)
    (of_decide_eq_true (by kernel_rfl)) (by unfold Func.isWrapper; first | (rw [if_pos (by decide +kernel)]; kernel_rfl) | (rw [if_neg (by decide +kernel)]; exact ⟨rfl, rfl⟩))
    (fun os started H enc _ => memoryWordsAreBytes_lifted os started H enc)
#print axioms memoryWordsAreBytes_said
end Go.Proofs.Ytaihfkcoiagdaaa
