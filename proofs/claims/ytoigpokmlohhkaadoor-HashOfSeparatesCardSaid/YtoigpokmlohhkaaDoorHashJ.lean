/-
  THE WALK OF hash.addAll over bytes: a stream, and more bytes.
-/
import Derived.Test.YtoigpokmlohhkaaDoorHashI
namespace Go.Proofs.YtoigpokmlohhkaaDoor
open Go.RowKit

def lenS (v : Value) : Nat := match v with | .slice _ n _ => n | .string s => s.size | _ => 0
/-- A stream behind more bytes. -/
def Added (m : List Hs.By) (w : World) (e : Ending) (w' : World) : Prop := ∃ cs, e = .returned (.agg cs.toArray) ∧ StrOf m cs ∧ Later w w'

theorem blk_len {w : World} {B : Nat} {t : TypeId} {L : Nat} {V : Hs.St} {lo : Wm.Bs} (h : Blk w B t (strC L V lo)) (k : Nat) : Blk (w.setCell ⟨B, 0, none⟩ (.int .i64 ((L : Int) + (k : Int)))) B t (strC (L + k) V lo) := by
  rw [← strC_set]; exact h.set 0 _

set_option maxRecDepth 100000 in
set_option maxHeartbeats 2000000 in
theorem addB_any (m : List Hs.By) (cs : List Value) (A : Option Addr) (n c : Nat) (t : Wm.Bs) (w : World) (hS : StrOf m cs) (hs : Sl w 1 A n (U t)) (ht : Wm.isBs t) (hnc : n ≤ c) (hc : c ≤ 9223372036854775807) (hbig : m.length + n ≤ 281474976710656) (tab : Tab w) :
    Calls Tryd.prog 59 #[.agg cs.toArray, .slice A n c] w (Added (m ++ bv t) w) := by
  have htl := hs.blen
  have hcl := hS.len
  have hsz : (Tryd.prog.info? 42).map (·.size) = some cs.length := by rw [hcl]; kernel_rfl
  have HT := Lib.hid htl; have HC := Lib.hid hcl
  clear htl hcl
  go_enter Tryd.func59, Tryd.ntmps59
  go_wp2
  go_loopw [1] (fun x wr => ∃ (j : Nat) (A' : Option Addr) (c' : Nat) (cs' : List Value), j ≤ n ∧ x = .slice A' (n - j : Nat) c' ∧ n - j ≤ c' ∧ c' ≤ 9223372036854775807 ∧ Sl w 1 A' (n - j) (U (t.drop j)) ∧ StrOf (m ++ bv (t.take j)) cs' ∧ Blk wr w.heap.size 42 cs' ∧ Blk wr (w.heap.size + 1) 42 Tryd.zeroCells42.toList ∧ Later w wr) (fun x _ => lenS x)
  case atStart =>
    exact ⟨0, A, c, cs, Nat.zero_le _, rfl, hnc, hc, hs, by simpa [bv] using hS, (Blk.new w _ _ _ rfl).alloc _, Blk.new' _ _ _ _ _ (by simp) (by simp), ((Below.refl _ _).alloc (Nat.le_refl _) _).alloc (by simp) _⟩
  case round =>
    clear hs hS hnc hc hsz HC
    obtain ⟨j, A', c', cs', hj, rfl, hnc, hc, hs, hS, g1, g2, g3⟩ := hrel
    by_cases hlt : j < n
    · obtain ⟨blk, b1, b2, b3, rfl⟩ := hS
      obtain ⟨M, hM⟩ : ∃ M, M = m ++ bv (t.take j) := ⟨_, rfl⟩
      rw [← hM] at b3 g1
      have hML : M.length = m.length + j := by rw [hM, List.length_append, bv_len, List.length_take, HT.out]; omega
      obtain ⟨V, hV⟩ : ∃ V, V = Hs.whole M := ⟨_, rfl⟩
      obtain ⟨L, hL⟩ : ∃ L, L = M.length := ⟨_, rfl⟩
      rw [← hL, ← hV] at g1
      obtain ⟨p, hp⟩ : ∃ p, p = L % 64 := ⟨_, rfl⟩
      obtain ⟨x, hx⟩ : ∃ x, x = (t.drop j).take (64 - p) := ⟨_, rfl⟩
      obtain ⟨k, hk⟩ : ∃ k, k = x.length := ⟨_, rfl⟩
      have hxb : Wm.isBs x := by rw [hx]; exact bs_take (bs_drop ht _) _
      have hk1 : k ≤ n - j := by rw [hk, hx, List.length_take, List.length_drop, HT.out]; omega
      have hk2 : k ≤ 64 - p := by rw [hk, hx, List.length_take]; omega
      have hp64 : p < 64 := by omega
      have hk3 : 1 ≤ k := by rw [hk, hx, List.length_take, List.length_drop, HT.out]; omega
      have hpm : (L : Int) % 64 = (p : Int) := by omega
      have hLb : L ≤ 281474976710656 := by omega
      obtain ⟨lo, hlo⟩ : ∃ lo, lo = laidOn blk x p := ⟨_, rfl⟩
      have hcopy : (strC L V blk).take (9 + p) ++ U x ++ (strC L V blk).drop (9 + p + k) = strC L V lo := by rw [hk, hlo]; exact strC_copy L V blk x p
      have hfit : 9 + p + k ≤ (strC L V blk).length := by rw [strC_len _ _ _ b2]; omega
      have hlob : Wm.isBs lo := by rw [hlo]; exact laidOn_bs b1 hxb
      have hlol : lo.length = 64 := by rw [hlo, laidOn_len (by omega)]; exact b2
      have hmsg : M ++ bv x = m ++ bv (t.take (j + k)) := by
        rw [hM, List.append_assoc, ← bv_append]
        congr 2
        rw [List.take_add]
        congr 1
        rw [hk, hx, List.length_take]
        rw [List.take_eq_take_iff]
        omega
      have hfull : p + k = 64 → StrOf (m ++ bv (t.take (j + k))) (strC (L + k) (Hs.compress V (bv lo)) lo) := fun h => by
        have := str_full b1 b2 b3 hxb (by rw [← hL, ← hp, ← hk]; exact h)
        rw [← hL, ← hp, ← hk, ← hV, ← hlo, hmsg] at this
        exact this
      have hwithin : p + k < 64 → StrOf (m ++ bv (t.take (j + k))) (strC (L + k) V lo) := fun h => by
        have := str_within b1 b2 b3 hxb (by rw [← hL, ← hp, ← hk]; exact h)
        rw [← hL, ← hp, ← hk, ← hV, ← hlo, hmsg] at this
        exact this
      have c0 := g1.cell (j := 0) (v := .int .i64 (L : Int)) rfl
      have HC := Lib.hid hcopy; have HF := Lib.hid hfull; have HW := Lib.hid hwithin; have HLO := Lib.hid hlol
      have HX := Lib.hid hx; have HK := Lib.hid hk
      clear hM hML hL hp hx hk b1 b2 b3 hcopy hfull hwithin hmsg hlo hV hlol
      have p0 : (0 : Int) ≤ (p : Int) := by omega
      have p1 : (p : Int) ≤ 64 := by omega
      have p2 : (p : Int) < 64 := by omega
      have hsz1 : (Tryd.prog.info? 5).map (·.size) = some 1 := by kernel_rfl
      have HSZ := Lib.hid hsz1; clear hsz1
      have hsk := hs.keep g3
      have hu8 := Tryd.underlying39
      have HU8 := Lib.hid hu8
      have hu64 := Tryd.underlying40
      have HU64 := Lib.hid hu64
      have HS8' : ∀ v : Hs.St, (Tryd.prog.info? 39).map (·.size) = some (StV v).length := fun v => by rw [StV_len]; kernel_rfl
      have HS8 := Lib.hid (HS8' V)
      have hs64 : (Tryd.prog.info? 40).map (·.size) = some (U lo).length := by rw [U_length, HLO.out]; kernel_rfl
      have HS64 := Lib.hid hs64
      have hf8 : 1 + (StV (Hs.compress V (bv lo))).length ≤ (strC (L + k) V lo).length := by rw [StV_len, strC_len _ _ _ HLO.out]; omega
      have HF8 := Lib.hid hf8
      clear hu8 hu64 hs64 hf8
      by_cases hck : c' = k
      · subst hck
        obtain hnk : n - j = c' := by omega
        have hcut := hs.cutEnd hk1 hnc rfl
        by_cases hf : p + c' = 64
        · have hmod : (((L : Int) + (c' : Int)) % 64 == 0) = true := by rw [beq_iff_eq]; omega
          have hst := Lib.hid (HF.out hf)
          go_wp2_with (first
            | ((with_reducible refine wpList_copy_blk (o := ⟨some 15, .call { callee := .builtin .copy, args := #[.tmp 13, .tmp 14], argTypes := #[33, 33] }, _, _, _, none⟩) rfl _ _ _ _ rfl 5 Tryd.underlying33 HSZ.out w.heap.size (9 + p) (64 - p) (64 - p) A' (n - j) c' _ _ (t.drop j) x c' ?_ ?_ g1 hsk HX.out (by omega) HK.out hfit ?_); rfl; rfl; intro w2 k1 k2; rw [HC.out] at k1; have c1 := k1.cell (j := 0) (v := .int .i64 (L : Int)) rfl; have f1 := k1.frz 0; have k3 := blk_len k1 c'; have k4 := (g2.only k2 (by omega)).set_other ⟨w.heap.size, 0, none⟩ (.int .i64 ((L : Int) + (c' : Int))) (by simp); have k5 : Later w (w2.setCell ⟨w.heap.size, 0, none⟩ (.int .i64 ((L : Int) + (c' : Int)))) := (Below.only g3 k2 (Nat.le_refl _)).setCell (Nat.le_refl _) _)
            | ((with_reducible refine wpList_load_at (o := ⟨some 29, .load 39 (.tmp 28), _, _, _, none⟩) rfl _ _ rfl w.heap.size 1 8 42 (strC (L + c') V lo) (StV V) _ ?_ k3 (strC_val _ _ _) HU8.out rfl HS8.out ?_); rfl)
            | ((with_reducible refine wpList_load_at (o := ⟨some 31, .load 40 (.tmp 30), _, _, _, none⟩) rfl _ _ rfl w.heap.size 9 64 42 (strC (L + c') V lo) (U lo) _ ?_ k3 (strC_blk _ _ _ HLO.out) HU64.out rfl HS64.out ?_); rfl)
            | (go_at_call 64; refine (compress_any V lo _ hlob HLO.out (tab.keep k5)).mono ?_; rintro e w3 ⟨rfl, hl3⟩)
            | ((with_reducible refine wpList_store_at (o := ⟨none, .store 39 (.tmp 33) (.tmp 32), _, _, _, none⟩) rfl _ _ _ rfl rfl w.heap.size 1 42 (strC (L + c') V lo) (StV (Hs.compress V (bv lo))) ?_ ?_ (k3.keep hl3) (HS8' _) (HF8.out) (StV_one _) ?_); rfl; rfl; intro w4 q1 q2; rw [strC_put] at q1))
          go_roundw
          case rel => exact ⟨j + c', A', 0, _, by omega, by rw [show n - (j + c') = 0 by omega], by omega, by omega, by rw [← Nat.sub_sub, ← List.drop_drop]; exact hcut, hst.out, q1, (k4.keep hl3).only q2 (by omega), Below.only (Later.trans_ k5 hl3) q2 (Nat.le_refl _)⟩
          case measure => simp [lenS]; omega
        · have hmod : (((L : Int) + (c' : Int)) % 64 == 0) = false := by rw [beq_eq_false_iff_ne]; omega
          have hst := Lib.hid (HW.out (by omega))
          go_wp2_with (first
            | ((with_reducible refine wpList_copy_blk (o := ⟨some 15, .call { callee := .builtin .copy, args := #[.tmp 13, .tmp 14], argTypes := #[33, 33] }, _, _, _, none⟩) rfl _ _ _ _ rfl 5 Tryd.underlying33 HSZ.out w.heap.size (9 + p) (64 - p) (64 - p) A' (n - j) c' _ _ (t.drop j) x c' ?_ ?_ g1 hsk HX.out (by omega) HK.out hfit ?_); rfl; rfl; intro w2 k1 k2; rw [HC.out] at k1; have c1 := k1.cell (j := 0) (v := .int .i64 (L : Int)) rfl; have f1 := k1.frz 0; have k3 := blk_len k1 c'; have k4 := (g2.only k2 (by omega)).set_other ⟨w.heap.size, 0, none⟩ (.int .i64 ((L : Int) + (c' : Int))) (by simp); have k5 : Later w (w2.setCell ⟨w.heap.size, 0, none⟩ (.int .i64 ((L : Int) + (c' : Int)))) := (Below.only g3 k2 (Nat.le_refl _)).setCell (Nat.le_refl _) _))
          go_roundw
          case rel => exact ⟨j + c', A', 0, _, by omega, by rw [show n - (j + c') = 0 by omega], by omega, by omega, by rw [← Nat.sub_sub, ← List.drop_drop]; exact hcut, hst.out, k3, k4, k5⟩
          case measure => simp [lenS]; omega

      · have hcut := hs.cutB hk1 hnc hck
        by_cases hf : p + k = 64
        · have hmod : (((L : Int) + (k : Int)) % 64 == 0) = true := by rw [beq_iff_eq]; omega
          have hst := Lib.hid (HF.out hf)
          go_wp2_with (first
            | ((with_reducible refine wpList_copy_blk (o := ⟨some 15, .call { callee := .builtin .copy, args := #[.tmp 13, .tmp 14], argTypes := #[33, 33] }, _, _, _, none⟩) rfl _ _ _ _ rfl 5 Tryd.underlying33 HSZ.out w.heap.size (9 + p) (64 - p) (64 - p) A' (n - j) c' _ _ (t.drop j) x k ?_ ?_ g1 hsk HX.out (by omega) HK.out hfit ?_); rfl; rfl; intro w2 k1 k2; rw [HC.out] at k1; have c1 := k1.cell (j := 0) (v := .int .i64 (L : Int)) rfl; have f1 := k1.frz 0; have k3 := blk_len k1 k; have k4 := (g2.only k2 (by omega)).set_other ⟨w.heap.size, 0, none⟩ (.int .i64 ((L : Int) + (k : Int))) (by simp); have k5 : Later w (w2.setCell ⟨w.heap.size, 0, none⟩ (.int .i64 ((L : Int) + (k : Int)))) := (Below.only g3 k2 (Nat.le_refl _)).setCell (Nat.le_refl _) _)
            | ((with_reducible refine wpList_load_at (o := ⟨some 29, .load 39 (.tmp 28), _, _, _, none⟩) rfl _ _ rfl w.heap.size 1 8 42 (strC (L + k) V lo) (StV V) _ ?_ k3 (strC_val _ _ _) HU8.out rfl HS8.out ?_); rfl)
            | ((with_reducible refine wpList_load_at (o := ⟨some 31, .load 40 (.tmp 30), _, _, _, none⟩) rfl _ _ rfl w.heap.size 9 64 42 (strC (L + k) V lo) (U lo) _ ?_ k3 (strC_blk _ _ _ HLO.out) HU64.out rfl HS64.out ?_); rfl)
            | (go_at_call 64; refine (compress_any V lo _ hlob HLO.out (tab.keep k5)).mono ?_; rintro e w3 ⟨rfl, hl3⟩)
            | ((with_reducible refine wpList_store_at (o := ⟨none, .store 39 (.tmp 33) (.tmp 32), _, _, _, none⟩) rfl _ _ _ rfl rfl w.heap.size 1 42 (strC (L + k) V lo) (StV (Hs.compress V (bv lo))) ?_ ?_ (k3.keep hl3) (HS8' _) (HF8.out) (StV_one _) ?_); rfl; rfl; intro w4 q1 q2; rw [strC_put] at q1))
          go_roundw
          case rel => exact ⟨j + k, A'.map (·.add k), c' - k, _, by omega, by rw [Nat.sub_sub], by omega, by omega, by rw [← Nat.sub_sub, ← List.drop_drop]; exact hcut, hst.out, q1, (k4.keep hl3).only q2 (by omega), Below.only (Later.trans_ k5 hl3) q2 (Nat.le_refl _)⟩
          case measure => simp [lenS]; omega
        · have hmod : (((L : Int) + (k : Int)) % 64 == 0) = false := by rw [beq_eq_false_iff_ne]; omega
          have hst := Lib.hid (HW.out (by omega))
          go_wp2_with (first
            | ((with_reducible refine wpList_copy_blk (o := ⟨some 15, .call { callee := .builtin .copy, args := #[.tmp 13, .tmp 14], argTypes := #[33, 33] }, _, _, _, none⟩) rfl _ _ _ _ rfl 5 Tryd.underlying33 HSZ.out w.heap.size (9 + p) (64 - p) (64 - p) A' (n - j) c' _ _ (t.drop j) x k ?_ ?_ g1 hsk HX.out (by omega) HK.out hfit ?_); rfl; rfl; intro w2 k1 k2; rw [HC.out] at k1; have c1 := k1.cell (j := 0) (v := .int .i64 (L : Int)) rfl; have f1 := k1.frz 0; have k3 := blk_len k1 k; have k4 := (g2.only k2 (by omega)).set_other ⟨w.heap.size, 0, none⟩ (.int .i64 ((L : Int) + (k : Int))) (by simp); have k5 : Later w (w2.setCell ⟨w.heap.size, 0, none⟩ (.int .i64 ((L : Int) + (k : Int)))) := (Below.only g3 k2 (Nat.le_refl _)).setCell (Nat.le_refl _) _))
          go_roundw
          case rel => exact ⟨j + k, A'.map (·.add k), c' - k, _, by omega, by rw [Nat.sub_sub], by omega, by omega, by rw [← Nat.sub_sub, ← List.drop_drop]; exact hcut, hst.out, k3, k4, k5⟩
          case measure => simp [lenS]; omega

    · obtain rfl : j = n := by omega
      have hS' := hS
      rw [List.take_of_length_le (by rw [HT.out]; exact Nat.le_refl _)] at hS'
      have hsz : (Tryd.prog.info? 42).map (·.size) = some cs'.length := by rw [hS.len]; kernel_rfl
      have hone := hS.one
      have hz : Tryd.zeroCells42.toList.length = cs'.length := by rw [hS.len]; rfl
      have hu := Tryd.underlying42
      have HU := Lib.hid hu
      have HO := Lib.hid hone; have HZ := Lib.hid hz; have HS := Lib.hid hS'
      clear hone hz hS hS' hu
      go_wp2_with (first
        | ((with_reducible refine wpList_load_blk (o := ⟨some 34, .load 42 (.tmp 2), _, _, _, none⟩) rfl _ _ rfl w.heap.size 42 cs' _ ?_ g1 HU.out rfl hsz ?_); rfl)
        | ((with_reducible refine wpList_store_abs (o := ⟨none, .store 42 (.tmp 4) (.tmp 34), _, _, _, none⟩) rfl _ _ _ rfl (w.heap.size + 1) 42 _ cs' ?_ ?_ g2 hsz HZ.out HO.out ?_); rfl; rfl; intro w5 k1 k2))
      exact bodyPost_ret (v := .agg cs'.toArray) (results_blk Tryd.results59 _ _ (w.heap.size + 1) _ cs' _ rfl k1 HU.out rfl hsz) rfl ⟨cs', rfl, HS.out, Below.only g3 k2 (by omega)⟩
end Go.Proofs.YtoigpokmlohhkaaDoor
