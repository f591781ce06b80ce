/-
  THE WALK OF translated.
-/
import Derived.Test.YtempcbdlaoblhabTabI
namespace Go.Proofs.Ytempcbdlaoblhab
open Go.RowKit Go.ChangeShapes Go.WideShapes Go.ChangeAt

set_option maxRecDepth 100000 in
set_option maxHeartbeats 4000000 in
theorem translated_any (A : Option Addr) (n c : Nat) (root va acc : Int) (u : Bool) (b : Wm.Bs) (base tB : Nat) (w0 w : World) (hb0 : base = w0.heap.size) (hs : Sl w0 128 A n (U b)) (hb : Wm.isBs b) (hn1 : 1 ≤ n) (hn : n ≤ 64) (hr0 : 0 ≤ root) (hr : root < 4294967296) (hv0 : 0 ≤ va) (hv : va < 4294967296) (hW : Wk0 w base tB A n c) (hl : Later w0 w) :
    Calls Try.prog 31 #[.pointer (some ⟨tB, 0, none⟩), .int .u32 root, .int .u32 va, .int .i64 acc, .bool u] w (GotT (Tm.trans n b root va acc u) base tB A n c w0 w) := by
  have NY := Lib.hid need_yes
  have NN := Lib.hid need_no
  have HP1 := Lib.hid fun w' => isPage_any A n c root w' hn ⟨hr0, hr⟩
  obtain ⟨_, b1⟩ := id hW
  have hlt := b1.lt
  have c1 := (b1.alloc (.cells #[.int .i64 0, .int .i64 0, .slice none 0 0, .slice none 0 0] 32)).cell (j := 0) (v := .slice A n c) rfl
  have hWa := hW.later (later1 w (.cells #[.int .i64 0, .int .i64 0, .slice none 0 0, .slice none 0 0] 32))
  have lw := hl.alloc hl.size (.cells #[.int .i64 0, .int .i64 0, .slice none 0 0, .slice none 0 0] 32)
  have bR := Blk.new w 32 #[.int .i64 0, .int .i64 0, .slice none 0 0, .slice none 0 0] [.int .i64 0, .int .i64 0, .slice none 0 0, .slice none 0 0] rfl
  have kk := Kept.of (lo := w.heap.size) (tB := tB) (later1 w (.cells #[.int .i64 0, .int .i64 0, .slice none 0 0, .slice none 0 0] 32))
  have htBR : w.heap.size ≠ tB := by omega
  clear b1
  unfold Tm.trans
  by_cases hvv : va < 131072
  rotate_left
  · have d : decide (va < 131072) = false := decide_eq_false hvv
    rw [d, if_neg (by simp)]
    clear hs hb hvv hb0
    go_enter Try.func31, Try.ntmps31
    go_wp2_with (first
      | (go_at_call 69; (with_reducible refine (HP1.out _).mono ?_); rintro e w1 ⟨rfl, l1⟩; replace hWa := hWa.later l1; replace lw := Later.trans_ lw l1; replace bR := bR.keep l1; replace kk := kk.later l1; clear c1)
      | (go_at_call 70; refine (HLF.out _ hWa lw).mono ?_; have hRl := bR.lt; have hzR := lw.size; rintro e w2 ⟨rfl, hWb, lb, kp⟩; replace bR := kp.2 _ _ _ hRl htBR bR; replace kk := kk.trans (kp.down (Nat.le_of_lt hRl)); have hWc := hWb; obtain ⟨_, _, R2, k2, b2, o2, n2⟩ := hWc; have c2 := b2.cell (j := 0) (v := .slice A n c) rfl)
      | (go_at_call 71; refine (HPG.out _).mono ?_; rintro e w' ⟨rfl, rfl⟩)
      | (go_at_call 69; (with_reducible refine (HP2.out _).mono ?_); rintro e w3 ⟨rfl, l3⟩; replace hWb := hWb.later l3; replace lb := Later.trans_ lb l3; replace b2 := b2.keep l3; replace bR := bR.keep l3; replace kk := kk.later l3; replace o2 := own_below o2 l3; clear c2; have c2 := b2.cell (j := 1) (v := .slice R2 lr.length k2) rfl)
      | (go_at_call 72; refine (HAL.out _).mono ?_; rintro e w' ⟨rfl, rfl⟩)
      | (go_at_call 73; refine (HAF.out _).mono ?_; rintro e w' ⟨rfl, rfl⟩)
      | (go_at_call 68; (with_reducible refine (NY.out _).mono ?_); rintro e w' ⟨rfl, rfl⟩)
      | (go_at_call 68; (with_reducible refine (NN.out _).mono ?_); rintro e w' ⟨rfl, rfl⟩))
    exact ⟨rfl, rfl, ⟨w.heap.size, Nat.le_refl _, hWa.wkr w.heap.size (by have := hWa.1; omega)⟩, lw, kk⟩
  have d : decide (va < 131072) = true := decide_eq_true hvv
  rw [d]
  obtain ⟨bp, hbp⟩ : ∃ bp, bp = Tm.pageB n root := ⟨_, rfl⟩
  rw [← hbp] at HP1 ⊢
  cases bp with
  | false =>
    rw [if_neg (by simp)]
    clear hs hb hbp hb0
    go_enter Try.func31, Try.ntmps31
    go_wp2_with (first
      | (go_at_call 69; (with_reducible refine (HP1.out _).mono ?_); rintro e w1 ⟨rfl, l1⟩; replace hWa := hWa.later l1; replace lw := Later.trans_ lw l1; replace bR := bR.keep l1; replace kk := kk.later l1; clear c1)
      | (go_at_call 70; refine (HLF.out _ hWa lw).mono ?_; have hRl := bR.lt; have hzR := lw.size; rintro e w2 ⟨rfl, hWb, lb, kp⟩; replace bR := kp.2 _ _ _ hRl htBR bR; replace kk := kk.trans (kp.down (Nat.le_of_lt hRl)); have hWc := hWb; obtain ⟨_, _, R2, k2, b2, o2, n2⟩ := hWc; have c2 := b2.cell (j := 0) (v := .slice A n c) rfl)
      | (go_at_call 71; refine (HPG.out _).mono ?_; rintro e w' ⟨rfl, rfl⟩)
      | (go_at_call 69; (with_reducible refine (HP2.out _).mono ?_); rintro e w3 ⟨rfl, l3⟩; replace hWb := hWb.later l3; replace lb := Later.trans_ lb l3; replace b2 := b2.keep l3; replace bR := bR.keep l3; replace kk := kk.later l3; replace o2 := own_below o2 l3; clear c2; have c2 := b2.cell (j := 1) (v := .slice R2 lr.length k2) rfl)
      | (go_at_call 72; refine (HAL.out _).mono ?_; rintro e w' ⟨rfl, rfl⟩)
      | (go_at_call 73; refine (HAF.out _).mono ?_; rintro e w' ⟨rfl, rfl⟩)
      | (go_at_call 68; (with_reducible refine (NY.out _).mono ?_); rintro e w' ⟨rfl, rfl⟩)
      | (go_at_call 68; (with_reducible refine (NN.out _).mono ?_); rintro e w' ⟨rfl, rfl⟩))
    exact ⟨rfl, rfl, ⟨w.heap.size, Nat.le_refl _, hWa.wkr w.heap.size (by have := hWa.1; omega)⟩, lw, kk⟩
  | true =>
    rw [if_pos (by simp)]
    obtain ⟨rp1, rp2⟩ := Tm.pageB_lt hbp.symm
    have HLF := Lib.hid fun w' (h : Wk0 w' base tB A n c) (hl : Later w0 w') => leaf_any A n c root va b base tB w0 w' hb0 hs hb hn1 hn hr0 (by omega) hv0 hvv h hl
    have hfo := Tm.find_ok (n := n) (b := b) (root := root) (va := va) hb hr0 (by omega) hv0 hvv hn
    obtain ⟨L, hL⟩ : ∃ L, L = Tm.find n b root va := ⟨_, rfl⟩
    rw [← hL] at HLF hfo ⊢
    obtain ⟨la, le, lr, ok⟩ := L
    unfold lfEnd at HLF
    clear hL hs hb hbp hb0
    cases ok with
    | false =>
      rw [if_neg (by simp)]
      rw [if_neg (by simp)] at HLF
      clear hfo
      go_enter Try.func31, Try.ntmps31
      go_wp2_with (first
        | (go_at_call 69; (with_reducible refine (HP1.out _).mono ?_); rintro e w1 ⟨rfl, l1⟩; replace hWa := hWa.later l1; replace lw := Later.trans_ lw l1; replace bR := bR.keep l1; replace kk := kk.later l1; clear c1)
        | (go_at_call 70; refine (HLF.out _ hWa lw).mono ?_; have hRl := bR.lt; have hzR := lw.size; rintro e w2 ⟨rfl, hWb, lb, kp⟩; replace bR := kp.2 _ _ _ hRl htBR bR; replace kk := kk.trans (kp.down (Nat.le_of_lt hRl)); have hWc := hWb; obtain ⟨_, _, R2, k2, b2, o2, n2⟩ := hWc; have c2 := b2.cell (j := 0) (v := .slice A n c) rfl)
        | (go_at_call 71; refine (HPG.out _).mono ?_; rintro e w' ⟨rfl, rfl⟩)
        | (go_at_call 69; (with_reducible refine (HP2.out _).mono ?_); rintro e w3 ⟨rfl, l3⟩; replace hWb := hWb.later l3; replace lb := Later.trans_ lb l3; replace b2 := b2.keep l3; replace bR := bR.keep l3; replace kk := kk.later l3; replace o2 := own_below o2 l3; clear c2; have c2 := b2.cell (j := 1) (v := .slice R2 lr.length k2) rfl)
        | (go_at_call 72; refine (HAL.out _).mono ?_; rintro e w' ⟨rfl, rfl⟩)
        | (go_at_call 73; refine (HAF.out _).mono ?_; rintro e w' ⟨rfl, rfl⟩)
        | (go_at_call 68; (with_reducible refine (NY.out _).mono ?_); rintro e w' ⟨rfl, rfl⟩)
        | (go_at_call 68; (with_reducible refine (NN.out _).mono ?_); rintro e w' ⟨rfl, rfl⟩))
      exact ⟨rfl, rfl, ⟨_, Nat.le_of_lt hRl, hWb⟩, lb, kk⟩
    | true =>
      rw [if_pos rfl] at HLF
      obtain ⟨he, h46, ha0, ha1⟩ := hfo rfl
      simp only at he h46 ha0 ha1 HLF
      simp only [Bool.true_and]
      have HPG := Lib.hid fun w' => page_any le va w' he ⟨hv0, hv⟩ h46
      have hp0 := Tm.pgOf_nn he hv0
      have hal := allows_any le acc u
      have HAL := Lib.hid fun w' => hal w' he
      have HAF := Lib.hid fun w' => after_any le acc w' he
      have hpL : Tm.pgOf le va < 4294967296 := by
        have h1 := Tm.adr_e he
        have h2 := h1.2
        unfold Tm.pgOf
        split
        · rename_i h3
          have h4 := h46 h3
          omega
        · exact h2
      have HP2 := Lib.hid fun w' => isPage_any A n c (Tm.pgOf le va) w' hn ⟨hp0, hpL⟩
      unfold Tm.wkOf
      obtain ⟨p, hp⟩ : ∃ p, p = Tm.pgOf le va := ⟨_, rfl⟩
      simp only [← hp] at HPG hp0 hpL HP2 ⊢
      obtain ⟨al, hal2⟩ : ∃ al, al = Tm.allows le acc u := ⟨_, rfl⟩
      rw [← hal2] at HAL ⊢
      obtain ⟨nx, hnx⟩ : ∃ nx, nx = Tm.after le acc := ⟨_, rfl⟩
      rw [← hnx] at HAF ⊢
      have HES := Lib.hid fun w' => estore_any nx la w' ⟨ha0, ha1⟩
      obtain ⟨pg, hpg⟩ : ∃ pg, pg = Tm.pageB n p := ⟨_, rfl⟩
      rw [← hpg] at HP2 ⊢
      clear hp hal hal2 hnx he h46 hfo
      cases pg with
      | false =>
        rw [if_neg (by simp)]
        clear hpg
        go_enter Try.func31, Try.ntmps31
        go_wp2_with (first
          | (go_at_call 69; (with_reducible refine (HP1.out _).mono ?_); rintro e w1 ⟨rfl, l1⟩; replace hWa := hWa.later l1; replace lw := Later.trans_ lw l1; replace bR := bR.keep l1; replace kk := kk.later l1; clear c1)
          | (go_at_call 70; refine (HLF.out _ hWa lw).mono ?_; have hRl := bR.lt; have hzR := lw.size; rintro e w2 ⟨rfl, hWb, lb, kp⟩; replace bR := kp.2 _ _ _ hRl htBR bR; replace kk := kk.trans (kp.down (Nat.le_of_lt hRl)); have hWc := hWb; obtain ⟨_, _, R2, k2, b2, o2, n2⟩ := hWc; have c2 := b2.cell (j := 0) (v := .slice A n c) rfl)
          | (go_at_call 71; refine (HPG.out _).mono ?_; rintro e w' ⟨rfl, rfl⟩)
          | (go_at_call 69; (with_reducible refine (HP2.out _).mono ?_); rintro e w3 ⟨rfl, l3⟩; replace hWb := hWb.later l3; replace lb := Later.trans_ lb l3; replace b2 := b2.keep l3; replace bR := bR.keep l3; replace kk := kk.later l3; replace o2 := own_below o2 l3; clear c2; have c2 := b2.cell (j := 1) (v := .slice R2 lr.length k2) rfl)
          | (go_at_call 72; refine (HAL.out _).mono ?_; rintro e w' ⟨rfl, rfl⟩)
          | (go_at_call 73; refine (HAF.out _).mono ?_; rintro e w' ⟨rfl, rfl⟩)
          | (go_at_call 68; (with_reducible refine (NY.out _).mono ?_); rintro e w' ⟨rfl, rfl⟩)
          | (go_at_call 68; (with_reducible refine (NN.out _).mono ?_); rintro e w' ⟨rfl, rfl⟩))
        exact ⟨rfl, rfl, ⟨_, Nat.le_of_lt hRl, hWb⟩, lb, kk⟩
      | true =>
        obtain ⟨pp1, pp2⟩ := Tm.pageB_lt hpg.symm
        clear hpg
        cases al with
        | false =>
          rw [if_neg (by simp)]
          go_enter Try.func31, Try.ntmps31
          go_wp2_with (first
            | (go_at_call 69; (with_reducible refine (HP1.out _).mono ?_); rintro e w1 ⟨rfl, l1⟩; replace hWa := hWa.later l1; replace lw := Later.trans_ lw l1; replace bR := bR.keep l1; replace kk := kk.later l1; clear c1)
            | (go_at_call 70; refine (HLF.out _ hWa lw).mono ?_; have hRl := bR.lt; have hzR := lw.size; rintro e w2 ⟨rfl, hWb, lb, kp⟩; replace bR := kp.2 _ _ _ hRl htBR bR; replace kk := kk.trans (kp.down (Nat.le_of_lt hRl)); have hWc := hWb; obtain ⟨_, _, R2, k2, b2, o2, n2⟩ := hWc; have c2 := b2.cell (j := 0) (v := .slice A n c) rfl)
            | (go_at_call 71; refine (HPG.out _).mono ?_; rintro e w' ⟨rfl, rfl⟩)
            | (go_at_call 69; (with_reducible refine (HP2.out _).mono ?_); rintro e w3 ⟨rfl, l3⟩; replace hWb := hWb.later l3; replace lb := Later.trans_ lb l3; replace b2 := b2.keep l3; replace bR := bR.keep l3; replace kk := kk.later l3; replace o2 := own_below o2 l3; clear c2; have c2 := b2.cell (j := 1) (v := .slice R2 lr.length k2) rfl)
            | (go_at_call 72; refine (HAL.out _).mono ?_; rintro e w' ⟨rfl, rfl⟩)
            | (go_at_call 73; refine (HAF.out _).mono ?_; rintro e w' ⟨rfl, rfl⟩)
            | (go_at_call 68; (with_reducible refine (NY.out _).mono ?_); rintro e w' ⟨rfl, rfl⟩)
            | (go_at_call 68; (with_reducible refine (NN.out _).mono ?_); rintro e w' ⟨rfl, rfl⟩))
          exact ⟨rfl, rfl, ⟨_, Nat.le_of_lt hRl, hWb⟩, lb, kk⟩
        | true =>
          rw [if_pos (by simp)]
          by_cases hne : nx = le
          · have e1 : (nx != le) = false := by simpa using hne
            rw [if_pos hne]
            clear hne
            go_enter Try.func31, Try.ntmps31
            go_wp2_with (first
              | (go_at_call 69; (with_reducible refine (HP1.out _).mono ?_); rintro e w1 ⟨rfl, l1⟩; replace hWa := hWa.later l1; replace lw := Later.trans_ lw l1; replace bR := bR.keep l1; replace kk := kk.later l1; clear c1)
              | (go_at_call 70; refine (HLF.out _ hWa lw).mono ?_; have hRl := bR.lt; have hzR := lw.size; rintro e w2 ⟨rfl, hWb, lb, kp⟩; replace bR := kp.2 _ _ _ hRl htBR bR; replace kk := kk.trans (kp.down (Nat.le_of_lt hRl)); have hWc := hWb; obtain ⟨_, _, R2, k2, b2, o2, n2⟩ := hWc; have c2 := b2.cell (j := 0) (v := .slice A n c) rfl)
              | (go_at_call 71; refine (HPG.out _).mono ?_; rintro e w' ⟨rfl, rfl⟩)
              | (go_at_call 69; (with_reducible refine (HP2.out _).mono ?_); rintro e w3 ⟨rfl, l3⟩; replace hWb := hWb.later l3; replace lb := Later.trans_ lb l3; replace b2 := b2.keep l3; replace bR := bR.keep l3; replace kk := kk.later l3; replace o2 := own_below o2 l3; clear c2; have c2 := b2.cell (j := 1) (v := .slice R2 lr.length k2) rfl)
              | (go_at_call 72; refine (HAL.out _).mono ?_; rintro e w' ⟨rfl, rfl⟩)
              | (go_at_call 73; refine (HAF.out _).mono ?_; rintro e w' ⟨rfl, rfl⟩)
              | ((with_reducible refine wpList_store_abs (o := ⟨none, .store 32 (.tmp 10) (.tmp 72), _, _, _, none⟩) rfl _ _ _ rfl w.heap.size 32 [.int .i64 0, .int .i64 0, .slice none 0 0, .slice none 0 0] [.int .i64 (p + va % 128), .int .i64 la, .slice none 0 0, .slice R2 lr.length k2] ?_ ?_ (bR.alloc _) (walk_sz _ _ _ _) rfl (img_one _ _ _ _ _ _ _ _) ?_); rfl; rfl; intro w7 b7 o7)
              | (go_at_call 68; (with_reducible refine (NY.out _).mono ?_); rintro e w' ⟨rfl, rfl⟩)
              | (go_at_call 68; (with_reducible refine (NN.out _).mono ?_); rintro e w' ⟨rfl, rfl⟩))
            have NQ : ∀ ad, R2 = some ad → w.heap.size ≤ ad.block := (fun ad e => (by have h9 := (o2.lt ad.block (by rw [e]; rfl)).1; omega))
            have NO : ∀ ad, R2 = some ad → ad.block ≠ w.heap.size := (fun ad e => (by have h9 := (o2.lt ad.block (by rw [e]; rfl)).1; omega))
            exact bodyPost_ret (v := .agg #[.int .i64 (p + va % 128), .int .i64 la, .slice none 0 0, .slice R2 lr.length k2]) (results_blk Try.results31 _ _ w.heap.size 32 [.int .i64 (p + va % 128), .int .i64 la, .slice none 0 0, .slice R2 lr.length k2] _ rfl b7 Try.underlying32 rfl (walk_sz _ _ _ _)) rfl
              ⟨none, R2, 0, k2, rfl, sl_nil _ _, (Sl.own (o2.alloc _)).only_ne o7 NO, (fun _ e => by cases e), NQ, Below.only (lb.alloc lb.size _) o7 hl.size, (kk.later (later1 _ _)).only o7 (Nat.le_refl _)⟩
          · have e1 : (nx != le) = true := by simpa using hne
            rw [if_neg hne]
            clear hne
            go_enter Try.func31, Try.ntmps31
            go_wp2_with (first
              | (go_at_call 69; (with_reducible refine (HP1.out _).mono ?_); rintro e w1 ⟨rfl, l1⟩; replace hWa := hWa.later l1; replace lw := Later.trans_ lw l1; replace bR := bR.keep l1; replace kk := kk.later l1; clear c1)
              | (go_at_call 70; refine (HLF.out _ hWa lw).mono ?_; have hRl := bR.lt; have hzR := lw.size; rintro e w2 ⟨rfl, hWb, lb, kp⟩; replace bR := kp.2 _ _ _ hRl htBR bR; replace kk := kk.trans (kp.down (Nat.le_of_lt hRl)); have hWc := hWb; obtain ⟨_, _, R2, k2, b2, o2, n2⟩ := hWc; have c2 := b2.cell (j := 0) (v := .slice A n c) rfl)
              | (go_at_call 71; refine (HPG.out _).mono ?_; rintro e w' ⟨rfl, rfl⟩)
              | (go_at_call 69; (with_reducible refine (HP2.out _).mono ?_); rintro e w3 ⟨rfl, l3⟩; replace hWb := hWb.later l3; replace lb := Later.trans_ lb l3; replace b2 := b2.keep l3; replace bR := bR.keep l3; replace kk := kk.later l3; replace o2 := own_below o2 l3; clear c2; have c2 := b2.cell (j := 1) (v := .slice R2 lr.length k2) rfl)
              | (go_at_call 72; refine (HAL.out _).mono ?_; rintro e w' ⟨rfl, rfl⟩)
              | (go_at_call 73; refine (HAF.out _).mono ?_; rintro e w' ⟨rfl, rfl⟩)
              | (go_at_call 45; refine (HES.out _).mono ?_; have hR3 := bR.lt; rintro e w4 ⟨rfl, l4⟩; have b14 := ((Blk.new w3 32 #[.int .i64 (p + va % 128), .int .i64 la, .slice none 0 0, .slice R2 lr.length k2] [.int .i64 (p + va % 128), .int .i64 la, .slice none 0 0, .slice R2 lr.length k2] rfl).keep l4).alloc (.cells #[.int .i64 la, .int .i64 4, .int .u32 nx] 57); have h14 := (Blk.new w3 32 #[.int .i64 (p + va % 128), .int .i64 la, .slice none 0 0, .slice R2 lr.length k2] [.int .i64 (p + va % 128), .int .i64 la, .slice none 0 0, .slice R2 lr.length k2] rfl).lt; have h4z := l4.size; have bS := Blk.new w4 57 #[.int .i64 la, .int .i64 4, .int .u32 nx] [.int .i64 la, .int .i64 4, .int .u32 nx] rfl; have b15 := (show Blk ((w4.alloc (.cells #[.int .i64 la, .int .i64 4, .int .u32 nx] 57)).setCell ⟨w3.heap.size, 2, none⟩ (.slice (some ⟨w4.heap.size, 0, none⟩) 1 1)) w3.heap.size 32 [.int .i64 (p + va % 128), .int .i64 la, .slice (some ⟨w4.heap.size, 0, none⟩) 1 1, .slice R2 lr.length k2] from b14.set 2 (.slice (some ⟨w4.heap.size, 0, none⟩) 1 1)); have c14 := b14.cell (j := 2) (v := .slice none 0 0) rfl; have f14 := b14.frz 2; have o4 := (own_below (o2.alloc (.cells #[.int .i64 (p + va % 128), .int .i64 la, .slice none 0 0, .slice R2 lr.length k2] 32)) l4).alloc (.cells #[.int .i64 la, .int .i64 4, .int .u32 nx] 57); have lb4 := Later.trans_ (lb.alloc lb.size (.cells #[.int .i64 (p + va % 128), .int .i64 la, .slice none 0 0, .slice R2 lr.length k2] 32)) l4; replace lb4 := lb4.alloc lb4.size (.cells #[.int .i64 la, .int .i64 4, .int .u32 nx] 57); replace bR := ((bR.alloc (.cells #[.int .i64 (p + va % 128), .int .i64 la, .slice none 0 0, .slice R2 lr.length k2] 32)).keep l4).alloc (.cells #[.int .i64 la, .int .i64 4, .int .u32 nx] 57))
              | ((with_reducible refine wpList_load_blk (o := ⟨some 72, .load 32 (.tmp 14), _, _, _, none⟩) rfl _ _ rfl w3.heap.size 32 [.int .i64 (p + va % 128), .int .i64 la, .slice (some ⟨w4.heap.size, 0, none⟩) 1 1, .slice R2 lr.length k2] _ ?_ b15 Try.underlying32 rfl (walk_sz _ _ _ _) ?_); rfl)
              | ((with_reducible refine wpList_store_abs (o := ⟨none, .store 32 (.tmp 10) (.tmp 72), _, _, _, none⟩) rfl _ _ _ rfl w.heap.size 32 [.int .i64 0, .int .i64 0, .slice none 0 0, .slice none 0 0] [.int .i64 (p + va % 128), .int .i64 la, .slice (some ⟨w4.heap.size, 0, none⟩) 1 1, .slice R2 lr.length k2] ?_ ?_ (bR.set_other ⟨w3.heap.size, 2, none⟩ (.slice (some ⟨w4.heap.size, 0, none⟩) 1 1) (by show w.heap.size ≠ w3.heap.size; omega)) (walk_sz _ _ _ _) rfl (img_one _ _ _ _ _ _ _ _) ?_); rfl; rfl; intro w7 b7 o7)
              | (go_at_call 68; (with_reducible refine (NY.out _).mono ?_); rintro e w' ⟨rfl, rfl⟩)
              | (go_at_call 68; (with_reducible refine (NN.out _).mono ?_); rintro e w' ⟨rfl, rfl⟩))
            have NQ : ∀ ad, R2 = some ad → w.heap.size ≤ ad.block := (fun ad e => (by have h9 := (o2.lt ad.block (by rw [e]; rfl)).1; omega))
            have NO : ∀ ad, R2 = some ad → ad.block ≠ w.heap.size := (fun ad e => (by have h9 := (o2.lt ad.block (by rw [e]; rfl)).1; omega))
            have NO3 : ∀ ad, R2 = some ad → ad.block ≠ w3.heap.size := (fun ad e => (by have h9 := (o2.lt ad.block (by rw [e]; rfl)).2; omega))
            exact bodyPost_ret (v := .agg #[.int .i64 (p + va % 128), .int .i64 la, .slice (some ⟨w4.heap.size, 0, none⟩) 1 1, .slice R2 lr.length k2]) (results_blk Try.results31 _ _ w.heap.size 32 [.int .i64 (p + va % 128), .int .i64 la, .slice (some ⟨w4.heap.size, 0, none⟩) 1 1, .slice R2 lr.length k2] _ rfl b7 Try.underlying32 rfl (walk_sz _ _ _ _)) rfl
              ⟨some ⟨w4.heap.size, 0, none⟩, R2, 1, k2, rfl, sl_w1 ((bS.only (Only.set _ w3.heap.size 2 (.slice (some ⟨w4.heap.size, 0, none⟩) 1 1)) (by omega)).only o7 (by omega)), ((Sl.own o4).only_ne (Only.set _ w3.heap.size 2 (.slice (some ⟨w4.heap.size, 0, none⟩) 1 1)) NO3).only_ne o7 NO, (fun _ e => by cases e; show w.heap.size ≤ w4.heap.size; omega), NQ, Below.only (Below.only lb4 (Only.set _ w3.heap.size 2 (.slice (some ⟨w4.heap.size, 0, none⟩) 1 1)) (by have := lb.size; omega)) o7 hl.size, ((((kk.later (later1 w3 (.cells #[.int .i64 (p + va % 128), .int .i64 la, .slice none 0 0, .slice R2 lr.length k2] 32))).later l4).later (later1 w4 (.cells #[.int .i64 la, .int .i64 4, .int .u32 nx] 57))).only (Only.set _ w3.heap.size 2 (.slice (some ⟨w4.heap.size, 0, none⟩) 1 1)) (by omega)).only o7 (Nat.le_refl _)⟩
end Go.Proofs.Ytempcbdlaoblhab
