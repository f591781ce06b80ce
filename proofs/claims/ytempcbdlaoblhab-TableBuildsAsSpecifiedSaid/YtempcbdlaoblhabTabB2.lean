/-
  THE WALKS OF areMappable, with.
-/
import Derived.Test.YtempcbdlaoblhabTabB
namespace Go.Proofs.Ytempcbdlaoblhab
open Go.RowKit Go.ChangeShapes Go.WideShapes Go.ChangeAt

namespace Tm
/-- Which tables may have an entry. -/
def mapB (n : Nat) (root va pa r s : Int) : Bool := decide (va < 131072) && (decide (va % s = 0) && (pageB n pa && (decide (pa % s = 0) && (decide (0 ≤ r ∧ r % 2 = 0 ∧ r ≤ 14) && rootB n root))))
end Tm
set_option maxRecDepth 100000 in
theorem areMappable128_any (A : Option Addr) (n c : Nat) (root va pa r : Int) (w : World) (hn : n ≤ 64) (hr : 0 ≤ root ∧ root < 4294967296) (hv : 0 ≤ va ∧ va < 4294967296) (hp : 0 ≤ pa ∧ pa < 4294967296) (hq : -9223372036854775808 ≤ r ∧ r ≤ 9223372036854775807) :
    Calls Try.prog 47 #[.agg #[.slice A n c], .int .u32 root, .int .u32 va, .int .u32 pa, .int .i64 r, .int .u32 128] w fun e w' => e = .returned (.bool (Tm.mapB n root va pa r 128)) ∧ Later w w' := by
  have HP := Lib.hid fun w' => isPage_any A n c pa w' hn hp
  have HR := Lib.hid fun w' => isRoot_any A n c root w' hn hr
  obtain ⟨b5, h5⟩ : ∃ b5, b5 = decide (0 ≤ r ∧ r % 2 = 0 ∧ r ≤ 14) := ⟨_, rfl⟩
  have e5 := rights_is r hq.1 hq.2
  obtain ⟨hv0, hv1⟩ := hv
  obtain ⟨hp0, hp1⟩ := hp
  obtain ⟨b1, h1⟩ : ∃ b1, b1 = decide (va < 131072) := ⟨_, rfl⟩
  obtain ⟨b2, h2⟩ : ∃ b2, b2 = decide (va % 128 = 0) := ⟨_, rfl⟩
  obtain ⟨b3, h3⟩ : ∃ b3, b3 = Tm.pageB n pa := ⟨_, rfl⟩
  obtain ⟨b4, h4⟩ : ∃ b4, b4 = decide (pa % 128 = 0) := ⟨_, rfl⟩
  obtain ⟨b6, h6⟩ : ∃ b6, b6 = Tm.rootB n root := ⟨_, rfl⟩
  have e2 : (va % 128 == 0) = b2 := by rw [h2]; rfl
  have e4 : (pa % 128 == 0) = b4 := by rw [h4]; rfl
  rw [← h5] at e5
  unfold Tm.mapB
  rw [← h1, ← h2, ← h3, ← h4, ← h5, ← h6]
  rw [← h3] at HP
  rw [← h6] at HR
  replace h1 := h1.symm
  clear h2 h3 h4 h5 h6 hq hr
  cases b1 with
  | false =>
    go_enter Try.func47, Try.ntmps47
    go_wp2_with (first
      | (go_at_call 69; refine (HP.out _).mono ?_; rintro x w1 ⟨rfl, l1⟩; have bk := (Blk.new w 24 #[.slice A n c] [.slice A n c] rfl).keep l1; have c1 := bk.cell (j := 0) (v := .slice A n c) rfl)
      | (go_at_call 48; refine (HR.out _).mono ?_; rintro x w2 ⟨rfl, l2⟩))
    go_ret
    exact ⟨rfl, later1 _ _⟩
  | true =>
    cases b2 with
    | false =>
      go_enter Try.func47, Try.ntmps47
      go_wp2_with (first
        | (go_at_call 69; refine (HP.out _).mono ?_; rintro x w1 ⟨rfl, l1⟩; have bk := (Blk.new w 24 #[.slice A n c] [.slice A n c] rfl).keep l1; have c1 := bk.cell (j := 0) (v := .slice A n c) rfl)
        | (go_at_call 48; refine (HR.out _).mono ?_; rintro x w2 ⟨rfl, l2⟩))
      go_ret
      exact ⟨rfl, later1 _ _⟩
    | true =>
      cases b3 with
      | false =>
        go_enter Try.func47, Try.ntmps47
        go_wp2_with (first
          | (go_at_call 69; refine (HP.out _).mono ?_; rintro x w1 ⟨rfl, l1⟩; have bk := (Blk.new w 24 #[.slice A n c] [.slice A n c] rfl).keep l1; have c1 := bk.cell (j := 0) (v := .slice A n c) rfl)
          | (go_at_call 48; refine (HR.out _).mono ?_; rintro x w2 ⟨rfl, l2⟩))
        go_ret
        exact ⟨rfl, Later.trans_ (later1 _ _) l1⟩
      | true =>
        cases b4 with
        | false =>
          go_enter Try.func47, Try.ntmps47
          go_wp2_with (first
            | (go_at_call 69; refine (HP.out _).mono ?_; rintro x w1 ⟨rfl, l1⟩; have bk := (Blk.new w 24 #[.slice A n c] [.slice A n c] rfl).keep l1; have c1 := bk.cell (j := 0) (v := .slice A n c) rfl)
            | (go_at_call 48; refine (HR.out _).mono ?_; rintro x w2 ⟨rfl, l2⟩))
          go_ret
          exact ⟨rfl, Later.trans_ (later1 _ _) l1⟩
        | true =>
          cases b5 with
          | false =>
            go_enter Try.func47, Try.ntmps47
            go_wp2_with (first
              | (go_at_call 69; refine (HP.out _).mono ?_; rintro x w1 ⟨rfl, l1⟩; have bk := (Blk.new w 24 #[.slice A n c] [.slice A n c] rfl).keep l1; have c1 := bk.cell (j := 0) (v := .slice A n c) rfl)
              | (go_at_call 48; refine (HR.out _).mono ?_; rintro x w2 ⟨rfl, l2⟩))
            go_ret
            exact ⟨rfl, Later.trans_ (later1 _ _) l1⟩
          | true =>
            go_enter Try.func47, Try.ntmps47
            go_wp2_with (first
              | (go_at_call 69; refine (HP.out _).mono ?_; rintro x w1 ⟨rfl, l1⟩; have bk := (Blk.new w 24 #[.slice A n c] [.slice A n c] rfl).keep l1; have c1 := bk.cell (j := 0) (v := .slice A n c) rfl)
              | (go_at_call 48; refine (HR.out _).mono ?_; rintro x w2 ⟨rfl, l2⟩))
            go_ret
            exact ⟨rfl, Later.trans_ (Later.trans_ (later1 _ _) l1) l2⟩
set_option maxRecDepth 100000 in
theorem areMappable4096_any (A : Option Addr) (n c : Nat) (root va pa r : Int) (w : World) (hn : n ≤ 64) (hr : 0 ≤ root ∧ root < 4294967296) (hv : 0 ≤ va ∧ va < 4294967296) (hp : 0 ≤ pa ∧ pa < 4294967296) (hq : -9223372036854775808 ≤ r ∧ r ≤ 9223372036854775807) :
    Calls Try.prog 47 #[.agg #[.slice A n c], .int .u32 root, .int .u32 va, .int .u32 pa, .int .i64 r, .int .u32 4096] w fun e w' => e = .returned (.bool (Tm.mapB n root va pa r 4096)) ∧ Later w w' := by
  have HP := Lib.hid fun w' => isPage_any A n c pa w' hn hp
  have HR := Lib.hid fun w' => isRoot_any A n c root w' hn hr
  obtain ⟨b5, h5⟩ : ∃ b5, b5 = decide (0 ≤ r ∧ r % 2 = 0 ∧ r ≤ 14) := ⟨_, rfl⟩
  have e5 := rights_is r hq.1 hq.2
  obtain ⟨hv0, hv1⟩ := hv
  obtain ⟨hp0, hp1⟩ := hp
  obtain ⟨b1, h1⟩ : ∃ b1, b1 = decide (va < 131072) := ⟨_, rfl⟩
  obtain ⟨b2, h2⟩ : ∃ b2, b2 = decide (va % 4096 = 0) := ⟨_, rfl⟩
  obtain ⟨b3, h3⟩ : ∃ b3, b3 = Tm.pageB n pa := ⟨_, rfl⟩
  obtain ⟨b4, h4⟩ : ∃ b4, b4 = decide (pa % 4096 = 0) := ⟨_, rfl⟩
  obtain ⟨b6, h6⟩ : ∃ b6, b6 = Tm.rootB n root := ⟨_, rfl⟩
  have e2 : (va % 4096 == 0) = b2 := by rw [h2]; rfl
  have e4 : (pa % 4096 == 0) = b4 := by rw [h4]; rfl
  rw [← h5] at e5
  unfold Tm.mapB
  rw [← h1, ← h2, ← h3, ← h4, ← h5, ← h6]
  rw [← h3] at HP
  rw [← h6] at HR
  replace h1 := h1.symm
  clear h2 h3 h4 h5 h6 hq hr
  cases b1 with
  | false =>
    go_enter Try.func47, Try.ntmps47
    go_wp2_with (first
      | (go_at_call 69; refine (HP.out _).mono ?_; rintro x w1 ⟨rfl, l1⟩; have bk := (Blk.new w 24 #[.slice A n c] [.slice A n c] rfl).keep l1; have c1 := bk.cell (j := 0) (v := .slice A n c) rfl)
      | (go_at_call 48; refine (HR.out _).mono ?_; rintro x w2 ⟨rfl, l2⟩))
    go_ret
    exact ⟨rfl, later1 _ _⟩
  | true =>
    cases b2 with
    | false =>
      go_enter Try.func47, Try.ntmps47
      go_wp2_with (first
        | (go_at_call 69; refine (HP.out _).mono ?_; rintro x w1 ⟨rfl, l1⟩; have bk := (Blk.new w 24 #[.slice A n c] [.slice A n c] rfl).keep l1; have c1 := bk.cell (j := 0) (v := .slice A n c) rfl)
        | (go_at_call 48; refine (HR.out _).mono ?_; rintro x w2 ⟨rfl, l2⟩))
      go_ret
      exact ⟨rfl, later1 _ _⟩
    | true =>
      cases b3 with
      | false =>
        go_enter Try.func47, Try.ntmps47
        go_wp2_with (first
          | (go_at_call 69; refine (HP.out _).mono ?_; rintro x w1 ⟨rfl, l1⟩; have bk := (Blk.new w 24 #[.slice A n c] [.slice A n c] rfl).keep l1; have c1 := bk.cell (j := 0) (v := .slice A n c) rfl)
          | (go_at_call 48; refine (HR.out _).mono ?_; rintro x w2 ⟨rfl, l2⟩))
        go_ret
        exact ⟨rfl, Later.trans_ (later1 _ _) l1⟩
      | true =>
        cases b4 with
        | false =>
          go_enter Try.func47, Try.ntmps47
          go_wp2_with (first
            | (go_at_call 69; refine (HP.out _).mono ?_; rintro x w1 ⟨rfl, l1⟩; have bk := (Blk.new w 24 #[.slice A n c] [.slice A n c] rfl).keep l1; have c1 := bk.cell (j := 0) (v := .slice A n c) rfl)
            | (go_at_call 48; refine (HR.out _).mono ?_; rintro x w2 ⟨rfl, l2⟩))
          go_ret
          exact ⟨rfl, Later.trans_ (later1 _ _) l1⟩
        | true =>
          cases b5 with
          | false =>
            go_enter Try.func47, Try.ntmps47
            go_wp2_with (first
              | (go_at_call 69; refine (HP.out _).mono ?_; rintro x w1 ⟨rfl, l1⟩; have bk := (Blk.new w 24 #[.slice A n c] [.slice A n c] rfl).keep l1; have c1 := bk.cell (j := 0) (v := .slice A n c) rfl)
              | (go_at_call 48; refine (HR.out _).mono ?_; rintro x w2 ⟨rfl, l2⟩))
            go_ret
            exact ⟨rfl, Later.trans_ (later1 _ _) l1⟩
          | true =>
            go_enter Try.func47, Try.ntmps47
            go_wp2_with (first
              | (go_at_call 69; refine (HP.out _).mono ?_; rintro x w1 ⟨rfl, l1⟩; have bk := (Blk.new w 24 #[.slice A n c] [.slice A n c] rfl).keep l1; have c1 := bk.cell (j := 0) (v := .slice A n c) rfl)
              | (go_at_call 48; refine (HR.out _).mono ?_; rintro x w2 ⟨rfl, l2⟩))
            go_ret
            exact ⟨rfl, Later.trans_ (Later.trans_ (later1 _ _) l1) l2⟩
/-- What a memory with some stores is. -/
theorem with_any (A : Option Addr) (n c m cl : Nat) (AL : Option Addr) (L : List (Int × Int × Int)) (b : Wm.Bs) (w : World) (hs : Sl w 128 A n (U b)) (hb : Wm.isBs b) (hn1 : 1 ≤ n) (hn : n ≤ 64) (hsl : Sl w 3 AL m (Ws L)) (hL : L.length = m) (hW : ∀ x ∈ L, isW x) (hm : m ≤ 1000000) :
    Calls Try.prog 39 #[.agg #[.slice A n c], .slice AL m cl] w (GotM n ((Mm.ap b L).getD b) w) := by
  have H := Lib.hid fun w' (hl : Later w w') => apply_any A n c m cl AL L b w' (hs.keep hl) hb hn1 hn (hsl.keep hl) hL hW hm
  obtain ⟨x, hx⟩ : ∃ x, x = (Mm.ap b L).getD b := ⟨_, rfl⟩
  obtain ⟨q, hq⟩ : ∃ q, q = (Mm.ap b L).isSome := ⟨_, rfl⟩
  rw [← hx, ← hq] at H
  rw [← hx]
  clear hx hq hs hb hsl hL hW hm hn
  go_enter Try.func39, Try.ntmps39
  go_wp2_with (first
    | (go_at_call 26; refine (H.out _ ((later1 _ _).alloc (by simp) _)).mono ?_; rintro e w1 ⟨g, c', rfl, hg, hc, hc2, hd, l1⟩; have b4 := ((Blk.new' (w.alloc (.cells #[.slice A n c] 24)) (w.heap.size + 1) 24 #[.slice none 0 0] [.slice none 0 0] (by simp) rfl).keep l1).alloc (.cells #[.slice (some ⟨g, 0, none⟩) n c'] 24); have c4 := b4.cell (j := 0) (v := .slice none 0 0) rfl; have f4 := b4.frz 0; have lw := Later.trans_ ((later1 w (.cells #[.slice A n c] 24)).alloc (by simp) (.cells #[.slice none 0 0] 24)) l1))
  have hsz := lw.size
  have hgz : w.heap.size + 2 ≤ g := by simpa using hg
  exact bodyPost_ret (v := .agg #[.slice (some ⟨g, 0, none⟩) n c']) (results_blk Try.results39 _ _ (w.heap.size + 1) 24 [.slice (some ⟨g, 0, none⟩) n c'] _ rfl (b4.set 0 (.slice (some ⟨g, 0, none⟩) n c')) Try.underlying24 rfl mem_sz) rfl
    ⟨g, c', rfl, by omega, hc, hc2, (hd.keep (later1 _ _)).only (Only.set _ _ _ _) (by omega), (lw.alloc hsz _).setCell (by simp) _⟩
theorem write_info : (Try.prog.info? 57).map (fun i => (i.zero, i.size, i.bytes)) = some (some (.agg #[.int .i64 0, .int .i64 0, .int .u32 0]), 3, 24) := by kernel_rfl
theorem wc_one (x y z : Int) : ∀ u ∈ [Value.int .i64 x, .int .i64 y, .int .u32 z], u.oneCell' = true := by
  intro u hu
  simp only [List.mem_cons, List.not_mem_nil, or_false] at hu
  rcases hu with rfl | rfl | rfl <;> rfl
/-- The stores that make a page zero. -/
def zl (at_ : Int) : List (Int × Int × Int) := (List.range 32).map fun (k : Nat) => (at_ + (k : Int) * 4, 4, 0)
def zk (at_ : Int) (k : Nat) : List (Int × Int × Int) := (zl at_).take k ++ List.replicate (32 - k) (0, 0, 0)
theorem zl_len (a : Int) : (zl a).length = 32 := by simp [zl]
theorem zk_len (a : Int) (k : Nat) (h : k ≤ 32) : (zk a k).length = 32 := by unfold zk; rw [List.length_append, List.length_take, zl_len, List.length_replicate]; omega
theorem zl_get (a : Int) (k : Nat) (h : k < 32) : (zl a)[k]? = some (a + (k : Int) * 4, 4, 0) := by
  unfold zl
  rw [List.getElem?_map, List.getElem?_range h]
  rfl
theorem zk_succ (a : Int) (k : Nat) (h : k < 32) : zk a (k + 1) = (zk a k).set k (a + (k : Int) * 4, 4, 0) := by
  apply List.ext_getElem?
  intro i
  rw [List.getElem?_set]
  unfold zk
  have hl := zl_len a
  by_cases hi : i < k
  · rw [if_neg (by omega), List.getElem?_append_left (by rw [List.length_take]; omega), List.getElem?_append_left (by rw [List.length_take]; omega), List.getElem?_take_of_lt (by omega), List.getElem?_take_of_lt hi]
  · by_cases he : k = i
    · subst he
      rw [if_pos rfl, if_pos (by rw [List.length_append, List.length_take, List.length_replicate]; omega), List.getElem?_append_left (by rw [List.length_take]; omega), List.getElem?_take_of_lt (by omega), zl_get a k h]
    · rw [if_neg he, List.getElem?_append_right (by rw [List.length_take]; omega), List.getElem?_append_right (by rw [List.length_take]; omega), List.getElem?_replicate, List.getElem?_replicate, List.length_take, List.length_take]
      by_cases h2 : i < 32
      · rw [if_pos (by omega), if_pos (by omega)]
      · rw [if_neg (by omega), if_neg (by omega)]
theorem zk_end (a : Int) : zk a 32 = zl a := by
  unfold zk
  rw [List.take_of_length_le (by rw [zl_len]; exact Nat.le_refl _)]
  exact List.append_nil _
theorem Ws_set : ∀ (l : List (Int × Int × Int)) (k : Nat) (x : Int × Int × Int), k < l.length → Ws (l.set k x) = (Ws l).take (k * 3) ++ Wc x ++ (Ws l).drop (k * 3 + 3) := by
  intro l
  induction l with
  | nil => intro k x h; simp at h
  | cons w r ih =>
    intro k x h
    cases k with
    | zero => rfl
    | succ k =>
      have h2 := ih k x (by simpa using h)
      show Wc w ++ Ws (r.set k x) = (Wc w ++ Ws r).take ((k + 1) * 3) ++ Wc x ++ (Wc w ++ Ws r).drop ((k + 1) * 3 + 3)
      have hw : (Wc w).length = 3 := rfl
      rw [h2, List.take_append, List.drop_append, hw, show (k + 1) * 3 - 3 = k * 3 by omega, show (k + 1) * 3 + 3 - 3 = k * 3 + 3 by omega, List.take_of_length_le (l := Wc w) (by rw [hw]; omega), show (Wc w).drop ((k + 1) * 3 + 3) = [] from List.drop_eq_nil_of_le (by rw [hw]; omega)]
      simp [List.append_assoc]
set_option maxRecDepth 100000 in
theorem zeros_any (a : Int) (w : World) (h0 : 0 ≤ a) (h1 : a < 1073741824) : Calls Try.prog 44 #[.int .u32 a] w fun e w' => ∃ g, e = .returned (.slice (some ⟨g, 0, none⟩) 32 32) ∧ w.heap.size ≤ g ∧ Blk w' g 57 (Ws (zl a)) ∧ Later w w' := by
  obtain ⟨i0, hi, hz0, hz1, hz2⟩ := info_parts write_info
  have hmk := fun w' => run_makeSlice (P := Try.prog) w' 29 57 i0 _ Try.underlying29 hi hz0 .i64 .i64 32 32 (by omega) (by omega) (by rw [hz1]; omega) (by rw [hz2]; omega) (by omega)
  have HE := Lib.hid fun (k : Nat) (hk : k < 32) w' => estore_any 0 (a + (k : Int) * 4) w' (by omega)
  go_enter Try.func44, Try.ntmps44
  go_wp2
  have hb0 : Blk (w.alloc (.cells (madeCells #[.int .i64 0, .int .i64 0, .int .u32 0] 96) 57)) w.heap.size 57 (Ws (zk a 0)) := Blk.new _ _ _ _ (by rw [show zk a 0 = List.replicate 32 (0, 0, 0) by unfold zk; simp]; kernel_rfl)
  go_loopw [4, 8] (fun x i wr => ∃ k : Nat, k ≤ 32 ∧ i = .int .i64 (k : Int) ∧ Blk wr w.heap.size 57 (Ws (zk a k)) ∧ Later w wr) (fun _ i _ => 32 - (intOf i).toNat)
  case atStart => exact ⟨0, by omega, rfl, hb0, later1 _ _⟩
  case round =>
    rename_i wr
    obtain ⟨k, hk, rfl, hbk, lr⟩ := hrel
    by_cases hlt : k < 32
    · have hHE := HE.out k hlt
      have hzs := lr.size
      have hwl := hbk.lt
      have hlen : k * 3 + 3 ≤ (Ws (zk a k)).length := by rw [Ws_len, zk_len a k hk]; omega
      have hset : (Ws (zk a k)).take (k * 3) ++ [.int .i64 (a + (k : Int) * 4), .int .i64 4, .int .u32 0] ++ (Ws (zk a k)).drop (k * 3 + 3) = Ws (zk a (k + 1)) := by
        rw [zk_succ a k hlt, Ws_set _ _ _ (by rw [zk_len a k hk]; exact hlt)]; rfl
      have HSET := Lib.hid hset
      have HLEN := Lib.hid hlen
      clear hset hlen hmk
      go_wp2_with (first
        | (go_at_call 45; refine (hHE _).mono ?_; rintro e w2 ⟨rfl, l2⟩; replace hbk := hbk.keep l2; replace lr := Later.trans_ lr l2)
        | ((refine wpList_store_at (o := ⟨none, .store 57 (.tmp 19) (.tmp 18), _, _, _, none⟩) rfl _ _ _ rfl rfl w.heap.size (k * 3) 57 (Ws (zk a k)) [.int .i64 (a + (k : Int) * 4), .int .i64 4, .int .u32 0] ?_ rfl hbk (wr_sz _ _ _) HLEN.out (wc_one _ _ _) ?_); (try rfl); intro w3 b3 o3))
      go_roundw
      case rel => exact ⟨k + 1, by omega, by go_num, by rw [← HSET.out]; exact b3, Below.only lr o3 (Nat.le_refl _)⟩
      case measure => simp [intOf]; omega
    · obtain rfl : k = 32 := by omega
      go_wp2
      go_ret
      exact ⟨w.heap.size, rfl, Nat.le_refl _, by rw [← zk_end]; exact hbk, lr⟩
end Go.Proofs.Ytempcbdlaoblhab
