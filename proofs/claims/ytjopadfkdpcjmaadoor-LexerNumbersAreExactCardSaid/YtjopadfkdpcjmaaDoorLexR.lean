/-
  THE WALK OF lexer.put.
-/
import Derived.Test.YtjopadfkdpcjmaaDoorLexQ
namespace Go.Proofs.YtjopadfkdpcjmaaDoor
open Go.RowKit Go.ChangeShapes Go.WideShapes Go.ChangeAt

set_option maxRecDepth 100000 in
set_option maxHeartbeats 2000000 in
theorem put_any (B : Nat) (v : Value) (acc : Lx.Str) (t : Lx.Tok) (w : World) (hr : Lx.right t = true) (hor : w.ownsRow B 5 1 v acc.length (Ub acc)) (hB : B ≤ w.heap.size) (hl : acc.length ≤ 100000)
    (tab : Lib.TabBelow Tryd.prog B w "internal/strconv.uint64pow10" .u64 Lib.pow10Tab) :
    Calls Tryd.prog 36 #[v, .agg (Tk t).toArray] w (GotRow B (acc ++ Lx.src t) w) := by
  obtain ⟨i0, hi, hz0, hz1, hz2⟩ := info_parts u8_info
  obtain ⟨tk, ta, tn, ts⟩ := t
  obtain ⟨s, hs⟩ : ∃ s : ByteArray, (⟨ts.toArray⟩ : ByteArray) = s := ⟨_, rfl⟩
  have hLs : L s = ts := by rw [← hs, L_mk]
  unfold Lx.right at hr
  unfold Tk
  simp only at hr ⊢
  rw [hs]
  clear hs
  obtain ⟨w0, hw0⟩ : ∃ x, w.alloc (.cells #[.int .i64 tk, .int .i64 ta, .int .i64 tn, .string s] 41) = x := ⟨_, rfl⟩
  have hor0 : w0.ownsRow B 5 1 v acc.length (Ub acc) := hw0 ▸ hor.alloc _
  have hb0 : Below B w w0 := hw0 ▸ (Below.refl _ _).alloc hB _
  have hB0 : B ≤ w0.heap.size := Nat.le_trans hB hb0.size
  have tab0 := tab.on hb0
  have HPT := Lib.hid fun (h : s.size ≤ 100000) => putText_any B v acc s w0 hor0 hB0 hl h
  have HAI := Lib.hid fun (h0 : 0 ≤ tn) (h1 : tn ≤ 4294967295) => Tryd.strconv_AppendInt_10 B acc.length tn (by omega) (by omega) v (Ub acc) w0 hor0 hB0 (by omega) tab0
  rw [← hw0] at HPT HAI
  by_cases e2 : tk = 2
  · subst e2
    rw [if_neg (by decide), if_pos rfl] at hr
    simp only [Bool.and_eq_true, decide_eq_true_eq] at hr
    obtain ⟨h0, h1, h2⟩ := hr
    have H := Lib.hid (HAI.out h1 h2)
    have hsrc : Lx.src ⟨2, ta, tn, ts⟩ = Lib.itoa tn := by unfold Lx.src; rw [if_pos rfl, itoa_dec h1]
    rw [hsrc]
    have HW0 := Lib.hid hw0
    clear hsrc HPT HAI tab0 tab hor0 hLs h0 hw0
    go_enter Tryd.func36, Tryd.ntmps36
    go_wp2_with (go_at_call 57; refine (H.out).mono ?_; rintro e w' ⟨v', rfl, ho2, hb2, _⟩)
    go_ret
    rw [← Ub_bytes] at ho2
    rw [← HW0.out] at hb0
    exact ⟨_, rfl, own_snocB ho2, hb0.trans hb2⟩
  have b2 : (tk == 2) = false := beq_eq_false_iff_ne.2 e2
  by_cases e3 : tk = 3
  · subst e3
    rw [if_neg (by decide), if_neg (by decide), if_pos rfl] at hr
    simp only [Bool.and_eq_true, decide_eq_true_eq] at hr
    have hss : s.size ≤ 16384 := by rw [← L_len, hLs]; exact hr.2
    have H := Lib.hid (HPT.out (by omega))
    have hsrc : Lx.src ⟨3, ta, tn, ts⟩ = Lx.quoted (L s) := by unfold Lx.src; rw [if_neg (by simp), if_pos rfl, hLs]
    rw [hsrc]
    have HW0 := Lib.hid hw0
    clear hsrc HPT HAI tab0 tab hor0 hLs hr hw0
    go_enter Tryd.func36, Tryd.ntmps36
    go_wp2_with (go_at_call 58; refine (H.out).mono ?_; rintro e w' ⟨v', rfl, ho2, hb2⟩)
    go_ret
    rw [← HW0.out] at hb0
    exact ⟨_, rfl, ho2, hb0.trans hb2⟩
  have b3 : (tk == 3) = false := beq_eq_false_iff_ne.2 e3
  by_cases e5 : tk = 5
  · subst e5
    have hsrc : Lx.src ⟨5, ta, tn, ts⟩ = [10] := by unfold Lx.src; rw [if_neg (by simp), if_neg (by simp), if_pos rfl]
    rw [hsrc]
    rw [← hw0] at hor0 hb0 hB0
    clear hsrc HPT HAI tab0 tab hLs hr hw0
    go_enter Tryd.func36, Tryd.ntmps36
    go_wp2_with (at_builtin; refine wpList_append_own _ rfl _ _ 49 rfl B 5 i0 (.int .u8 0) 1 1 Tryd.underlying49 hi hz0 hz1 hz2 rfl (by decide) _ _ _ rfl (hor0.alloc _) ⟨w.heap.size + 1, 0, none⟩ 1 1 (Ub [10]) rfl rfl (fun j u hu => World.news_of_block (Blk.new' (w.alloc (.cells #[.int .i64 5, .int .i64 ta, .int .i64 tn, .string s] 41)) (w.heap.size + 1) 5 (Ub [10]).toArray (Ub [10]) (by simp) rfl) j u hu) (Ub_one _) (by unfold maxLen; omega) (by omega) (by simp; omega) ?_; intro v' w1 hown' hgrow _)
    go_ret
    exact ⟨_, rfl, own_snocB (b := [10]) hown', (hb0.alloc hB0 _).grown hgrow (by simp; omega) (fun j hj => (hor0.lt j hj).1)⟩
  have b5 : (tk == 5) = false := beq_eq_false_iff_ne.2 e5
  have hss : s.size ≤ 100000 := by
    rw [← L_len, hLs]
    by_cases e1 : tk = 1
    · rw [if_pos e1] at hr
      unfold Lx.isName at hr
      simp only [Bool.and_eq_true, decide_eq_true_eq] at hr
      omega
    · rw [if_neg e1, if_neg e2, if_neg e3] at hr
      by_cases e4 : tk = 4
      · rw [if_pos e4] at hr
        simp only [Bool.and_eq_true, decide_eq_true_eq] at hr
        omega
      · rw [if_neg e4, if_neg e5] at hr
        cases hr
  have hsrc : Lx.src ⟨tk, ta, tn, ts⟩ = L s := by unfold Lx.src; rw [if_neg e2, if_neg e3, if_neg e5, hLs]
  rw [hsrc]
  rw [← hw0] at hor0 hb0 hB0
  clear hsrc HPT HAI tab0 tab hLs hr hw0 e2 e3 e5
  go_enter Tryd.func36, Tryd.ntmps36
  go_wp2_with (at_builtin; refine Lib.wpList_append_own_string _ rfl _ _ 49 9 rfl B 5 i0 Tryd.underlying49 Tryd.underlying9 hi hz0 hz1 hz2 _ _ _ rfl hor0 s rfl (by unfold maxLen; omega) (by omega) hB0 ?_; intro v2 w2 ho2 hg2 _)
  go_ret
  rw [Lib.strCells_eq, ← Ub_bytes, ← L_len] at ho2
  exact ⟨_, rfl, own_snocB ho2, hb0.grown hg2 hB0 (fun j hj => (hor0.lt j hj).1)⟩
end Go.Proofs.YtjopadfkdpcjmaaDoor
