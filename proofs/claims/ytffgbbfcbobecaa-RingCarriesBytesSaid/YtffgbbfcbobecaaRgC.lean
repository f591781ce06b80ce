/-
  A RING: whether a list of parts has one (IndexFunc, ContainsFunc); hasWrongFlags, isInside, check.
-/
import Derived.Test.YtffgbbfcbobecaaRgB
namespace Go.Proofs.Ytffgbbfcbobecaa
open Go.RowKit Go.ChangeShapes Go.WideShapes Go.ChangeAt

theorem Sl.ptAt {w : World} {m : Nat} {ad : Addr} {l : List Rg.Pt} (h : Sl w 4 (some ad) m (Ps l)) {k : Nat} (hk : k < l.length) (hm : l.length = m) :
    ∀ j u, (Pc l[k])[j]? = some u → w.cell? ((ad.add (k * 4)).add j) = some u := by
  intro j u hu
  obtain ⟨_, e, _, hc⟩ := h.2 (by omega)
  cases e
  rw [addr_add_add]
  apply hc
  have hj : j < 4 := by
    rcases Nat.lt_or_ge j 4 with h | h
    · exact h
    · rw [List.getElem?_eq_none (by simpa [Pc] using h)] at hu; cases hu
  rw [Ps_at l k hk j hj]
  exact hu
theorem anyp_succ {α : Type} (l : List α) (f : α → Bool) {k : Nat} (hk : k < l.length) : (l.take (k + 1)).any f = ((l.take k).any f || f l[k]) := by
  rw [List.take_succ_eq_append_getElem hk, List.any_append]
  simp
theorem any_true {α : Type} (l : List α) (f : α → Bool) {k : Nat} (hk : k < l.length) (h : f l[k] = true) : l.any f = true := List.any_eq_true.2 ⟨_, List.getElem_mem hk, h⟩
set_option maxRecDepth 100000 in
set_option maxHeartbeats 2000000 in
theorem index_at (A' : Option Addr) (m c' : Nat) (l : List Rg.Pt) (p : Rg.Pt) (fl st : Int) (w : World) (hs : Sl w 4 A' m (Ps l)) (hl : l.length = m) (hm : m ≤ 1000) :
    Calls Try.prog 88 #[.slice A' m c', .func (.func 79) #[.agg (dcC p fl st).toArray] #[]] w fun e w' => (∃ z : Int, e = .returned (.int .i64 z) ∧ decide (0 ≤ z) = l.any (fun q : Rg.Pt => decide (q.1 = p.1))) ∧ Later w w' := by
  have HI := Lib.hid fun (q : Rg.Pt) w' => isAt_any p q fl st w'
  have HL := Lib.hid hl
  obtain ⟨R, hR⟩ : ∃ R, R = l.any (fun q : Rg.Pt => decide (q.1 = p.1)) := ⟨_, rfl⟩
  rw [← hR]
  have HR := Lib.hid hR
  clear hl hR
  go_enter Try.func88, Try.ntmps88
  go_wp2
  go_loopw [8] (fun i wr => ∃ k : Nat, k ≤ m ∧ i = .int .i64 (k : Int) ∧ Hid ((l.take k).any (fun q : Rg.Pt => decide (q.1 = p.1)) = false) ∧ Sl wr 4 A' m (Ps l) ∧ Later w wr) (fun i _ => m - (intOf i).toNat)
  case atStart => exact ⟨0, Nat.zero_le _, rfl, Lib.hid (by rw [List.take_zero]; rfl), hs, later0 _⟩
  case round =>
    clear hs
    rename_i wr
    obtain ⟨k, hk, rfl, HA, hs, lr⟩ := hrel
    by_cases hlt : k < m
    · have hkl : k < l.length := by rw [HL.out]; exact hlt
      obtain ⟨ad, rfl⟩ := hs.addr (by omega)
      have HC := Lib.hid (hs.ptAt hkl HL.out)
      have HT := Lib.hid (anyp_succ l (fun q : Rg.Pt => decide (q.1 = p.1)) hkl)
      have HX := Lib.hid (any_true l (fun q : Rg.Pt => decide (q.1 = p.1)) hkl)
      have kn : (k : Int) < (m : Int) := by omega
      obtain ⟨q, hq⟩ : ∃ q, q = l[k] := ⟨_, rfl⟩
      rw [← hq] at HC HT HX
      clear hq
      obtain ⟨r, hr⟩ : ∃ r, r = decide (q.1 = p.1) := ⟨_, rfl⟩
      have HQ := Lib.hid fun w' => HI.out q w'
      rw [← hr] at HQ HT HX
      clear hr
      cases r with
      | false =>
        have HA' := Lib.hid (show (l.take (k + 1)).any (fun q : Rg.Pt => decide (q.1 = p.1)) = false by rw [HT.out, HA.out]; rfl)
        clear HT HX
        go_wp2_with (first
          | ((with_reducible refine wpList_load_addr (o := ⟨some 15, .load 59 (.tmp 14), _, _, _, none⟩) rfl _ _ rfl (ad.add (k * 4)) (Pc q) _ ?_ HC.out Try.underlying59 rfl (pt_sz _) ?_); rfl)
          | (go_at_call 79; (with_reducible refine (HQ.out _).mono ?_); rintro e w2 ⟨rfl, l2⟩))
        go_roundw
        case rel => exact ⟨k + 1, by omega, by go_num, HA', hs.keep l2, Later.trans_ lr l2⟩
        case measure => simp [intOf]; omega
      | true =>
        have HN := Lib.hid (HR.out.trans (HX.out rfl))
        clear HT HX
        go_wp2_with (first
          | ((with_reducible refine wpList_load_addr (o := ⟨some 15, .load 59 (.tmp 14), _, _, _, none⟩) rfl _ _ rfl (ad.add (k * 4)) (Pc q) _ ?_ HC.out Try.underlying59 rfl (pt_sz _) ?_); rfl)
          | (go_at_call 79; (with_reducible refine (HQ.out _).mono ?_); rintro e w2 ⟨rfl, l2⟩))
        go_ret
        exact ⟨⟨_, rfl, by rw [HN.out]; exact decide_eq_true (by omega)⟩, Later.trans_ lr l2⟩
    · obtain rfl : k = m := by omega
      have hA := HA.out
      rw [List.take_of_length_le (by rw [HL.out]; exact Nat.le_refl _)] at hA
      have HN := Lib.hid (HR.out.trans hA)
      have nlt : ¬ ((k : Int) < (k : Int)) := by omega
      clear hA
      go_wp2
      go_ret
      exact ⟨⟨_, rfl, by rw [HN.out]; rfl⟩, lr⟩
set_option maxRecDepth 100000 in
theorem contains_at (A' : Option Addr) (m c' : Nat) (l : List Rg.Pt) (p : Rg.Pt) (fl st : Int) (w : World) (hs : Sl w 4 A' m (Ps l)) (hl : l.length = m) (hm : m ≤ 1000) :
    Calls Try.prog 78 #[.slice A' m c', .func (.func 79) #[.agg (dcC p fl st).toArray] #[]] w fun e w' => e = .returned (.bool (l.any (fun q : Rg.Pt => decide (q.1 = p.1)))) ∧ Later w w' := by
  have HI := Lib.hid (index_at A' m c' l p fl st w hs hl hm)
  clear hs hl
  obtain ⟨R, hR⟩ : ∃ R, R = l.any (fun q : Rg.Pt => decide (q.1 = p.1)) := ⟨_, rfl⟩
  rw [← hR] at HI ⊢
  clear hR
  cases R
  · go_enter Try.func78, Try.ntmps78
    go_wp2_with (go_at_call 88; (with_reducible refine (HI.out).mono ?_); rintro e w2 ⟨⟨z, rfl, hz⟩, l2⟩)
    go_ret
    exact ⟨rfl, l2⟩
  · go_enter Try.func78, Try.ntmps78
    go_wp2_with (go_at_call 88; (with_reducible refine (HI.out).mono ?_); rintro e w2 ⟨⟨z, rfl, hz⟩, l2⟩)
    go_ret
    exact ⟨rfl, l2⟩
set_option maxRecDepth 100000 in
set_option maxHeartbeats 2000000 in
theorem index_wri (A' : Option Addr) (m c' : Nat) (l : List Rg.Pt)  (w : World) (hs : Sl w 4 A' m (Ps l)) (hl : l.length = m) (hm : m ≤ 1000) :
    Calls Try.prog 88 #[.slice A' m c', .func (.func 82) #[] #[]] w fun e w' => (∃ z : Int, e = .returned (.int .i64 z) ∧ decide (0 ≤ z) = l.any (fun q : Rg.Pt => q.2.2.2)) ∧ Later w w' := by
  have HI := Lib.hid fun (q : Rg.Pt) w' => isWritten_any q w'
  have HL := Lib.hid hl
  obtain ⟨R, hR⟩ : ∃ R, R = l.any (fun q : Rg.Pt => q.2.2.2) := ⟨_, rfl⟩
  rw [← hR]
  have HR := Lib.hid hR
  clear hl hR
  go_enter Try.func88, Try.ntmps88
  go_wp2
  go_loopw [8] (fun i wr => ∃ k : Nat, k ≤ m ∧ i = .int .i64 (k : Int) ∧ Hid ((l.take k).any (fun q : Rg.Pt => q.2.2.2) = false) ∧ Sl wr 4 A' m (Ps l) ∧ Later w wr) (fun i _ => m - (intOf i).toNat)
  case atStart => exact ⟨0, Nat.zero_le _, rfl, Lib.hid (by rw [List.take_zero]; rfl), hs, later0 _⟩
  case round =>
    clear hs
    rename_i wr
    obtain ⟨k, hk, rfl, HA, hs, lr⟩ := hrel
    by_cases hlt : k < m
    · have hkl : k < l.length := by rw [HL.out]; exact hlt
      obtain ⟨ad, rfl⟩ := hs.addr (by omega)
      have HC := Lib.hid (hs.ptAt hkl HL.out)
      have HT := Lib.hid (anyp_succ l (fun q : Rg.Pt => q.2.2.2) hkl)
      have HX := Lib.hid (any_true l (fun q : Rg.Pt => q.2.2.2) hkl)
      have kn : (k : Int) < (m : Int) := by omega
      obtain ⟨q, hq⟩ : ∃ q, q = l[k] := ⟨_, rfl⟩
      rw [← hq] at HC HT HX
      clear hq
      obtain ⟨r, hr⟩ : ∃ r, r = q.2.2.2 := ⟨_, rfl⟩
      have HQ := Lib.hid fun w' => HI.out q w'
      rw [← hr] at HQ HT HX
      clear hr
      cases r with
      | false =>
        have HA' := Lib.hid (show (l.take (k + 1)).any (fun q : Rg.Pt => q.2.2.2) = false by rw [HT.out, HA.out]; rfl)
        clear HT HX
        go_wp2_with (first
          | ((with_reducible refine wpList_load_addr (o := ⟨some 15, .load 59 (.tmp 14), _, _, _, none⟩) rfl _ _ rfl (ad.add (k * 4)) (Pc q) _ ?_ HC.out Try.underlying59 rfl (pt_sz _) ?_); rfl)
          | (go_at_call 82; (with_reducible refine (HQ.out _).mono ?_); rintro e w2 ⟨rfl, l2⟩))
        go_roundw
        case rel => exact ⟨k + 1, by omega, by go_num, HA', hs.keep l2, Later.trans_ lr l2⟩
        case measure => simp [intOf]; omega
      | true =>
        have HN := Lib.hid (HR.out.trans (HX.out rfl))
        clear HT HX
        go_wp2_with (first
          | ((with_reducible refine wpList_load_addr (o := ⟨some 15, .load 59 (.tmp 14), _, _, _, none⟩) rfl _ _ rfl (ad.add (k * 4)) (Pc q) _ ?_ HC.out Try.underlying59 rfl (pt_sz _) ?_); rfl)
          | (go_at_call 82; (with_reducible refine (HQ.out _).mono ?_); rintro e w2 ⟨rfl, l2⟩))
        go_ret
        exact ⟨⟨_, rfl, by rw [HN.out]; exact decide_eq_true (by omega)⟩, Later.trans_ lr l2⟩
    · obtain rfl : k = m := by omega
      have hA := HA.out
      rw [List.take_of_length_le (by rw [HL.out]; exact Nat.le_refl _)] at hA
      have HN := Lib.hid (HR.out.trans hA)
      have nlt : ¬ ((k : Int) < (k : Int)) := by omega
      clear hA
      go_wp2
      go_ret
      exact ⟨⟨_, rfl, by rw [HN.out]; rfl⟩, lr⟩
set_option maxRecDepth 100000 in
theorem contains_wri (A' : Option Addr) (m c' : Nat) (l : List Rg.Pt)  (w : World) (hs : Sl w 4 A' m (Ps l)) (hl : l.length = m) (hm : m ≤ 1000) :
    Calls Try.prog 78 #[.slice A' m c', .func (.func 82) #[] #[]] w fun e w' => e = .returned (.bool (l.any (fun q : Rg.Pt => q.2.2.2))) ∧ Later w w' := by
  have HI := Lib.hid (index_wri A' m c' l w hs hl hm)
  clear hs hl
  obtain ⟨R, hR⟩ : ∃ R, R = l.any (fun q : Rg.Pt => q.2.2.2) := ⟨_, rfl⟩
  rw [← hR] at HI ⊢
  clear hR
  cases R
  · go_enter Try.func78, Try.ntmps78
    go_wp2_with (go_at_call 88; (with_reducible refine (HI.out).mono ?_); rintro e w2 ⟨⟨z, rfl, hz⟩, l2⟩)
    go_ret
    exact ⟨rfl, l2⟩
  · go_enter Try.func78, Try.ntmps78
    go_wp2_with (go_at_call 88; (with_reducible refine (HI.out).mono ?_); rintro e w2 ⟨⟨z, rfl, hz⟩, l2⟩)
    go_ret
    exact ⟨rfl, l2⟩
end Go.Proofs.Ytffgbbfcbobecaa
