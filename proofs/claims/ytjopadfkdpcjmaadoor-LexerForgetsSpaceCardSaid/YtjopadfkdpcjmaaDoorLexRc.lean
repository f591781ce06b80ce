/-
  THE WALK OF the reference's Print.
-/
import Derived.Test.YtjopadfkdpcjmaaDoorLexRb
import Derived.Test.YtjopadfkdpcjmaaDoorLexX
import Derived.Test.YtjopadfkdpcjmaaDoorLexT
import Derived.Lib.AppendStr
namespace Go.Proofs.YtjopadfkdpcjmaaDoor
open Go.RowKit Go.ChangeShapes Go.WideShapes Go.ChangeAt

/-- A printed source's cells. -/
def Pc (s : Lx.Str) (e : Int) : List Value := [.string ⟨s.toArray⟩, .int .i64 e]
theorem pr_sz (s : Lx.Str) (e : Int) : (Tryd.prog.info? 46).map (·.size) = some (Pc s e).length := by kernel_rfl
theorem pr_one (s : Lx.Str) (e : Int) : ∀ v ∈ Pc s e, v.oneCell' = true := by
  intro v hv
  simp only [Pc, List.mem_cons, List.not_mem_nil, or_false] at hv
  rcases hv with rfl | rfl <;> rfl
theorem own_later {w w' : World} {base : Nat} {e : TypeId} {size n : Nat} {v : Value} {xs : List Value} (h : w.ownsRow base e size v n xs) (k : Later w w') : w'.ownsRow base e size v n xs :=
  h.kept (row := none) ⟨k.1, k.2, k.3, k.4, fun j hj _ => k.5 j hj⟩ (by
    cases e : v.ownBlock with
    | none => exact .inl rfl
    | some g => exact .inr (fun h => by cases h))
set_option maxRecDepth 100000 in
set_option maxHeartbeats 8000000 in
theorem rprint_any (A : Option Addr) (n c : Nat) (l : List Lx.Tok) (w : World) (hs : Sl w 4 A n (Tks l)) (hll : l.length = n) (hn : n ≤ maxLen) :
    Calls Tryd.prog 19 #[.slice A n c] w fun e w' => e = .returned (.agg (Pc (Lx.Print l).1 (Lx.Print l).2).toArray) ∧ Later w w' := by
  obtain ⟨i0, hi, hz0, hz1, hz2⟩ := info_parts u8_info
  unfold maxLen at hn
  obtain ⟨w1, hw1⟩ : ∃ x, w.alloc (.cells #[.string ⟨#[]⟩, .int .i64 0] 46) = x := ⟨_, rfl⟩
  have b1 : Blk w1 w.heap.size 46 (Pc [] 0) := hw1 ▸ Blk.new w _ _ _ rfl
  have lw1 : Later w w1 := hw1 ▸ later1 w _
  have hsz1 : w.heap.size < w1.heap.size := by rw [← hw1]; simp
  have HS := Lib.hid fun w' (h : Later w1 w') => hs.keep (Later.trans_ lw1 h)
  have HB := Lib.hid fun w' (h : Later w1 w') => b1.keep h
  have HAD := Lib.hid fun (h : 0 < n) => (show ∃ ad, A = some ad ∧ ad.block < w.heap.size from by obtain ⟨ad, e, hb, _⟩ := hs.2 h; exact ⟨ad, e, hb⟩)
  have HRT := Lib.hid fun t w' => rright_any t w'
  obtain ⟨R, hR⟩ : ∃ R, Lx.Print l = R := ⟨_, rfl⟩
  rw [hR]
  have HRR := Lib.hid hR
  have HW1 := Lib.hid hw1
  clear hs hR hw1 b1
  go_enter Tryd.func19, Tryd.ntmps19
  go_wp2
  rw [HW1.out]
  go_loopw [4] (fun i wr => ∃ k : Nat, k ≤ n ∧ i = .int .i64 k ∧ Aside (∀ j (h : j < l.length), j < k → Lx.right l[j] = true) ∧ Later w1 wr) (fun i _ => n - (intOf i).toNat)
  case atStart => exact ⟨0, Nat.zero_le _, rfl, fun j _ h => absurd h (by omega), later0 _⟩
  case round =>
    obtain ⟨k, hk, rfl, hall, hbr⟩ := hrel
    rename_i wr
    by_cases hlt : k < n
    · obtain ⟨ad, rfl, hab⟩ := HAD.out (by omega)
      have hkl : k < l.length := by omega
      have cx := Lib.hid (Sl.tok (HS.out wr hbr) hkl hll)
      obtain ⟨t, ht⟩ : ∃ t, l[k]'hkl = t := ⟨_, rfl⟩
      rw [ht] at cx
      have HG := Lib.hid (HRT.out t)
      cases hr : Lx.right t with
      | true =>
        rw [hr] at HG
        have hall2 : Aside (∀ j (h : j < l.length), j < k + 1 → Lx.right l[j] = true) := fun j h hj => by
          rcases Nat.lt_succ_iff_lt_or_eq.1 hj with h' | rfl
          · exact hall j h h'
          · rw [ht]; exact hr
        clear ht hr hall HAD
        obtain ⟨tk, ta, tn, ts⟩ := t
        unfold Tk at cx HG
        simp only at cx HG
        go_wp2_with (first
          | (refine wpList_load_addr (o := ⟨some 16, .load 41 (.tmp 15), _, _, _, none⟩) rfl _ _ rfl (ad.add (k * 4)) [.int .i64 tk, .int .i64 ta, .int .i64 tn, .string ⟨ts.toArray⟩] _ rfl cx.out Tryd.underlying41 rfl (tk_sz ⟨tk, ta, tn, ts⟩) ?_)
          | (go_at_call 17; refine (HG.out _).mono ?_; rintro e w' ⟨rfl, l1⟩))
        go_roundw
        case rel => exact ⟨k + 1, by omega, by go_num, hall2, Later.trans_ hbr l1⟩
        case measure => simp [intOf]; omega
      | false =>
        rw [hr] at HG
        have hpr : R = ([], 1) := by
          rw [← HRR.out]
          unfold Lx.Print
          rw [if_neg]
          intro h
          rw [List.all_eq_true] at h
          have := h _ (List.getElem_mem hkl)
          rw [ht, hr] at this
          cases this
        have HP := Lib.hid hpr
        clear ht hr hall HAD hpr
        obtain ⟨tk, ta, tn, ts⟩ := t
        unfold Tk at cx HG
        simp only at cx HG
        go_wp2_with (first
          | (refine wpList_load_addr (o := ⟨some 16, .load 41 (.tmp 15), _, _, _, none⟩) rfl _ _ rfl (ad.add (k * 4)) [.int .i64 tk, .int .i64 ta, .int .i64 tn, .string ⟨ts.toArray⟩] _ rfl cx.out Tryd.underlying41 rfl (tk_sz ⟨tk, ta, tn, ts⟩) ?_)
          | (go_at_call 17; refine (HG.out _).mono ?_; rintro e w' ⟨rfl, l1⟩; have bB := HB.out _ (Later.trans_ hbr l1))
          | ((with_reducible refine wpList_store_abs (o := ⟨none, .store 46 (.tmp 2) (.tmp 19), _, _, _, none⟩) rfl _ _ _ rfl w.heap.size 46 (Pc [] 0) (Pc [] 1) ?_ ?_ bB (pr_sz _ _) rfl (pr_one _ _) ?_); rfl; rfl; intro wP bP oP))
        exact bodyPost_ret (v := .agg (Pc [] 1).toArray) (results_blk Tryd.results19 _ _ w.heap.size 46 (Pc [] 1) _ rfl bP Tryd.underlying46 rfl (pr_sz _ _)) rfl ⟨by rw [HP.out], Below.only (Later.trans_ lw1 (Later.trans_ hbr l1)) oP (Nat.le_refl _)⟩
    · have hkn : n = k := by omega
      subst hkn
      have HALL := Lib.hid fun j (h : j < l.length) => hall j h (by omega)
      clear hall HRT
      go_wp2
      go_loopw [3, 5, 6] (fun sz v i wr => ∃ k : Nat, k ≤ n ∧ i = .int .i64 k ∧ (∃ z, sz = .int .i64 z) ∧ (Lx.pr true (l.take k)).length ≤ 16384 ∧ wr.ownsRow w1.heap.size 5 1 v (Lx.pr true (l.take k)).length (Ub (Lx.pr true (l.take k))) ∧ Later w1 wr) (fun _ _ i _ => n - (intOf i).toNat)
      case atStart => exact ⟨0, Nat.zero_le _, rfl, ⟨0, rfl⟩, by simp [Lx.pr], World.ownsRow_nil _ _ _ _, hbr⟩
      case round =>
        obtain ⟨k, hk, rfl, ⟨z0, rfl⟩, hal, hor, hb3⟩ := hrel
        rename_i wr
        clear hbr
        by_cases hlt : k < n
        · obtain ⟨ad, rfl, hab⟩ := HAD.out (by omega)
          have hkl : k < l.length := by omega
          have cx := Lib.hid (Sl.tok (HS.out wr hb3) hkl hll)
          have hnx := pr_next hkl
          obtain ⟨t, ht⟩ : ∃ t, l[k]'hkl = t := ⟨_, rfl⟩
          have hrt := HALL.out k hkl
          rw [ht] at cx hnx hrt
          have hsl := src_len hrt
          have CXTOK := Lib.hid fun w' (h : Later w1 w') => (show ∀ i v, (Tk t)[i]? = some v → w'.cell? ((ad.add (k * 4)).add i) = some v by
            have h1 := Sl.tok (HS.out w' h) hkl hll
            rw [ht] at h1
            exact h1)
          have HPV := Lib.hid fun (h0 : 0 < k) => (show wr.cell? (ad.add ((k - 1) * 4)) = some (.int .i64 (l[k - 1]'(by omega)).kind) by
            have h1 := Sl.tok (HS.out wr hb3) (k := k - 1) (by omega) hll 0 _ rfl
            rwa [addr_add_add, Nat.add_zero] at h1)
          have HL5 := Lib.hid fun (h0 : 0 < k) => last5_take hkl h0
          obtain ⟨acc, hac⟩ : ∃ acc, Lx.pr true (l.take k) = acc := ⟨_, rfl⟩
          rw [hac] at hal hor hnx
          have hle := pr_le l (k + 1)
          have HLM := Lib.hid fun (h : 16384 < (Lx.pr true (l.take (k + 1))).length) => (show R = ([], 2) by
            rw [← HRR.out]
            unfold Lx.Print
            rw [if_pos, if_neg (by omega)]
            rw [List.all_eq_true]
            intro x hx
            obtain ⟨j, hj, rfl⟩ := List.mem_iff_getElem.1 hx
            exact HALL.out j hj)
          obtain ⟨nxt, hnxt⟩ : ∃ x, Lx.pr true (l.take (k + 1)) = x := ⟨_, rfl⟩
          rw [hnxt] at hnx HLM
          have HNXT := Lib.hid hnxt
          clear ht hac hle hnxt HALL
          have HSRC := Lib.hid fun w' => rsource_any t w' hrt
          obtain ⟨sr, hsr⟩ : ∃ x, Lx.src t = x := ⟨_, rfl⟩
          rw [hsr] at HSRC hnx hsl
          clear hsr hrt
          obtain ⟨tk, ta, tn, ts⟩ := t
          unfold Tk at cx HSRC CXTOK
          simp only at cx HSRC hnx CXTOK
          have cx0 : wr.cell? (ad.add (k * 4)) = some (.int .i64 tk) := by
            have h1 := cx.out 0 _ rfl
            rwa [addr_add_add, Nat.add_zero] at h1
          have hw1r := hb3.size
          by_cases hk0 : k = 0
          · subst hk0
            have cz := Lib.hid (show ∀ i v, ([.int .i64 tk, .int .i64 ta, .int .i64 tn, .string ⟨ts.toArray⟩] : List Value)[i]? = some v → wr.cell? (ad.add i) = some v from fun i v h => by have := cx.out i v h; rw [addr_add_add] at this; simpa using this)
            have hl0 : Lx.last5 true (l.take 0) = true := by rw [List.take_zero]; rfl
            have d0 : decide ((0 : Int) < ((0 : Nat) : Int)) = false := rfl
            replace hnx : nxt = acc ++ sr := by rw [hnx, hl0]; simp
            clear hl0 cx cx0
            have hlx : acc.length ≤ 100000 := by first | omega | (simp; omega)
            have hxl : ∀ x : ByteArray, L x = sr → x.size ≤ 70000 := fun x h => by rw [← L_len, h]; exact hsl
            have HNX := Lib.hid hnx
            by_cases hgt : 16384 < nxt.length
            · have HP := Lib.hid (HLM.out hgt)
              have gi : (16384 : Int) < (nxt.length : Int) := by omega
              have gd : decide ((16384 : Int) < (nxt.length : Int)) = true := decide_eq_true gi
              clear hnx HLM
              go_wp2_with (first
                | (refine wpList_load_addr (o := ⟨some 52, .load 41 (.tmp 51), _, _, _, none⟩) rfl _ _ rfl ad [.int .i64 tk, .int .i64 ta, .int .i64 tn, .string ⟨ts.toArray⟩] _ rfl cz.out Tryd.underlying41 rfl (tk_sz ⟨tk, ta, tn, ts⟩) ?_)
                | (go_at_call 22; (with_reducible refine (HSRC.out _).mono ?_); rintro e w5 ⟨x, rfl, hx, l5⟩; have ho5 := own_later hor l5; have hb5 := Later.trans_ hb3 l5; have hxs := hxl x hx)
                | (at_builtin; refine Lib.wpList_append_own_string _ rfl _ _ 49 9 rfl w1.heap.size 5 i0 Tryd.underlying49 Tryd.underlying9 hi hz0 hz1 hz2 _ _ _ rfl ho5 x rfl (by unfold maxLen; omega) (by omega) (by have := hb5.size; omega) ?_; intro v6 w6 ho6 hg6 _; have hb6 : Later w1 w6 := hb5.grown hg6 hb5.size (fun j hj => (ho5.lt j hj).1); rw [Lib.strCells_eq, ← Ub_bytes, ← L_len] at ho6; replace ho6 := own_snocB ho6; rw [show L x = sr from hx, ← HNX.out] at ho6; clear ho5; obtain ⟨A3, c3, rfl, hc3, hc4, hs3, _⟩ := own_form ho6; have bB := HB.out _ hb6)
                | ((with_reducible refine wpList_store_abs (o := ⟨none, .store 46 (.tmp 2) (.tmp 59), _, _, _, none⟩) rfl _ _ _ rfl w.heap.size 46 (Pc [] 0) (Pc [] 2) ?_ ?_ bB (pr_sz _ _) rfl (pr_one _ _) ?_); rfl; rfl; intro wP bP oP))
              exact bodyPost_ret (v := .agg (Pc [] 2).toArray) (results_blk Tryd.results19 _ _ w.heap.size 46 (Pc [] 2) _ rfl bP Tryd.underlying46 rfl (pr_sz _ _)) rfl ⟨by rw [HP.out], Below.only (Later.trans_ lw1 hb6) oP (Nat.le_refl _)⟩
            · have gi : ¬ (16384 : Int) < (nxt.length : Int) := by omega
              have gd : decide ((16384 : Int) < (nxt.length : Int)) = false := decide_eq_false gi
              have hnl : nxt.length ≤ 16384 := by omega
              clear hnx HLM
              go_wp2_with (first
                | (refine wpList_load_addr (o := ⟨some 52, .load 41 (.tmp 51), _, _, _, none⟩) rfl _ _ rfl ad [.int .i64 tk, .int .i64 ta, .int .i64 tn, .string ⟨ts.toArray⟩] _ rfl cz.out Tryd.underlying41 rfl (tk_sz ⟨tk, ta, tn, ts⟩) ?_)
                | (go_at_call 22; (with_reducible refine (HSRC.out _).mono ?_); rintro e w5 ⟨x, rfl, hx, l5⟩; have ho5 := own_later hor l5; have hb5 := Later.trans_ hb3 l5; have hxs := hxl x hx)
                | (at_builtin; refine Lib.wpList_append_own_string _ rfl _ _ 49 9 rfl w1.heap.size 5 i0 Tryd.underlying49 Tryd.underlying9 hi hz0 hz1 hz2 _ _ _ rfl ho5 x rfl (by unfold maxLen; omega) (by omega) (by have := hb5.size; omega) ?_; intro v6 w6 ho6 hg6 _; have hb6 : Later w1 w6 := hb5.grown hg6 hb5.size (fun j hj => (ho5.lt j hj).1); rw [Lib.strCells_eq, ← Ub_bytes, ← L_len] at ho6; replace ho6 := own_snocB ho6; rw [show L x = sr from hx, ← HNX.out] at ho6; clear ho5; obtain ⟨A3, c3, rfl, hc3, hc4, hs3, _⟩ := own_form ho6; have bB := HB.out _ hb6))
              go_roundw
              case rel => exact ⟨0 + 1, by omega, by go_num, ⟨_, rfl⟩, by rw [HNXT.out]; exact hnl, by rw [HNXT.out]; exact ho6, hb6⟩
              case measure => first | (simp [intOf]; omega) | (simp [intOf]; done) | (simp; omega)
          have hk1 : 0 < k := by omega
          have d0 : decide ((0 : Int) < (k : Int)) = true := decide_eq_true (by omega)
          by_cases h5 : tk = 5
          · have b5 : (tk != 5) = false := by rw [h5]; rfl
            replace hnx : nxt = acc ++ sr := by rw [hnx, decide_eq_true h5, Bool.or_true]; simp
            clear h5
            have hlx : acc.length ≤ 100000 := by first | omega | (simp; omega)
            have hxl : ∀ x : ByteArray, L x = sr → x.size ≤ 70000 := fun x h => by rw [← L_len, h]; exact hsl
            have HNX := Lib.hid hnx
            by_cases hgt : 16384 < nxt.length
            · have HP := Lib.hid (HLM.out hgt)
              have gi : (16384 : Int) < (nxt.length : Int) := by omega
              have gd : decide ((16384 : Int) < (nxt.length : Int)) = true := decide_eq_true gi
              clear hnx HLM
              go_wp2_with (first
                | (refine wpList_load_addr (o := ⟨some 52, .load 41 (.tmp 51), _, _, _, none⟩) rfl _ _ rfl (ad.add (k * 4)) [.int .i64 tk, .int .i64 ta, .int .i64 tn, .string ⟨ts.toArray⟩] _ rfl cx.out Tryd.underlying41 rfl (tk_sz ⟨tk, ta, tn, ts⟩) ?_)
                | (go_at_call 22; (with_reducible refine (HSRC.out _).mono ?_); rintro e w5 ⟨x, rfl, hx, l5⟩; have ho5 := own_later hor l5; have hb5 := Later.trans_ hb3 l5; have hxs := hxl x hx)
                | (at_builtin; refine Lib.wpList_append_own_string _ rfl _ _ 49 9 rfl w1.heap.size 5 i0 Tryd.underlying49 Tryd.underlying9 hi hz0 hz1 hz2 _ _ _ rfl ho5 x rfl (by unfold maxLen; omega) (by omega) (by have := hb5.size; omega) ?_; intro v6 w6 ho6 hg6 _; have hb6 : Later w1 w6 := hb5.grown hg6 hb5.size (fun j hj => (ho5.lt j hj).1); rw [Lib.strCells_eq, ← Ub_bytes, ← L_len] at ho6; replace ho6 := own_snocB ho6; rw [show L x = sr from hx, ← HNX.out] at ho6; clear ho5; obtain ⟨A3, c3, rfl, hc3, hc4, hs3, _⟩ := own_form ho6; have bB := HB.out _ hb6)
                | ((with_reducible refine wpList_store_abs (o := ⟨none, .store 46 (.tmp 2) (.tmp 59), _, _, _, none⟩) rfl _ _ _ rfl w.heap.size 46 (Pc [] 0) (Pc [] 2) ?_ ?_ bB (pr_sz _ _) rfl (pr_one _ _) ?_); rfl; rfl; intro wP bP oP))
              exact bodyPost_ret (v := .agg (Pc [] 2).toArray) (results_blk Tryd.results19 _ _ w.heap.size 46 (Pc [] 2) _ rfl bP Tryd.underlying46 rfl (pr_sz _ _)) rfl ⟨by rw [HP.out], Below.only (Later.trans_ lw1 hb6) oP (Nat.le_refl _)⟩
            · have gi : ¬ (16384 : Int) < (nxt.length : Int) := by omega
              have gd : decide ((16384 : Int) < (nxt.length : Int)) = false := decide_eq_false gi
              have hnl : nxt.length ≤ 16384 := by omega
              clear hnx HLM
              go_wp2_with (first
                | (refine wpList_load_addr (o := ⟨some 52, .load 41 (.tmp 51), _, _, _, none⟩) rfl _ _ rfl (ad.add (k * 4)) [.int .i64 tk, .int .i64 ta, .int .i64 tn, .string ⟨ts.toArray⟩] _ rfl cx.out Tryd.underlying41 rfl (tk_sz ⟨tk, ta, tn, ts⟩) ?_)
                | (go_at_call 22; (with_reducible refine (HSRC.out _).mono ?_); rintro e w5 ⟨x, rfl, hx, l5⟩; have ho5 := own_later hor l5; have hb5 := Later.trans_ hb3 l5; have hxs := hxl x hx)
                | (at_builtin; refine Lib.wpList_append_own_string _ rfl _ _ 49 9 rfl w1.heap.size 5 i0 Tryd.underlying49 Tryd.underlying9 hi hz0 hz1 hz2 _ _ _ rfl ho5 x rfl (by unfold maxLen; omega) (by omega) (by have := hb5.size; omega) ?_; intro v6 w6 ho6 hg6 _; have hb6 : Later w1 w6 := hb5.grown hg6 hb5.size (fun j hj => (ho5.lt j hj).1); rw [Lib.strCells_eq, ← Ub_bytes, ← L_len] at ho6; replace ho6 := own_snocB ho6; rw [show L x = sr from hx, ← HNX.out] at ho6; clear ho5; obtain ⟨A3, c3, rfl, hc3, hc4, hs3, _⟩ := own_form ho6; have bB := HB.out _ hb6))
              go_roundw
              case rel => exact ⟨k + 1, by omega, by go_num, ⟨_, rfl⟩, by rw [HNXT.out]; exact hnl, by rw [HNXT.out]; exact ho6, hb6⟩
              case measure => first | (simp [intOf]; omega) | (simp [intOf]; done) | (simp; omega)
          have b5 : (tk != 5) = true := bne_iff_ne.2 h5
          have hpv := HPV.out hk1
          have hl5 := HL5.out hk1
          obtain ⟨pk, hpk⟩ : ∃ pk, (l[k - 1]'(by omega)).kind = pk := ⟨_, rfl⟩
          rw [hpk] at hpv hl5
          clear hpk HPV HL5
          have hki : ((k : Int) - 1).toNat = k - 1 := by omega
          by_cases hp5 : pk = 5
          · have b6 : (pk != 5) = false := by rw [hp5]; rfl
            replace hnx : nxt = acc ++ sr := by rw [hnx, hl5, decide_eq_true hp5, Bool.true_or]; simp
            clear hp5 hl5
            have hlx : acc.length ≤ 100000 := by first | omega | (simp; omega)
            have hxl : ∀ x : ByteArray, L x = sr → x.size ≤ 70000 := fun x h => by rw [← L_len, h]; exact hsl
            have HNX := Lib.hid hnx
            by_cases hgt : 16384 < nxt.length
            · have HP := Lib.hid (HLM.out hgt)
              have gi : (16384 : Int) < (nxt.length : Int) := by omega
              have gd : decide ((16384 : Int) < (nxt.length : Int)) = true := decide_eq_true gi
              clear hnx HLM
              go_wp2_with (first
                | (refine wpList_load_addr (o := ⟨some 52, .load 41 (.tmp 51), _, _, _, none⟩) rfl _ _ rfl (ad.add (k * 4)) [.int .i64 tk, .int .i64 ta, .int .i64 tn, .string ⟨ts.toArray⟩] _ rfl cx.out Tryd.underlying41 rfl (tk_sz ⟨tk, ta, tn, ts⟩) ?_)
                | (go_at_call 22; (with_reducible refine (HSRC.out _).mono ?_); rintro e w5 ⟨x, rfl, hx, l5⟩; have ho5 := own_later hor l5; have hb5 := Later.trans_ hb3 l5; have hxs := hxl x hx)
                | (at_builtin; refine Lib.wpList_append_own_string _ rfl _ _ 49 9 rfl w1.heap.size 5 i0 Tryd.underlying49 Tryd.underlying9 hi hz0 hz1 hz2 _ _ _ rfl ho5 x rfl (by unfold maxLen; omega) (by omega) (by have := hb5.size; omega) ?_; intro v6 w6 ho6 hg6 _; have hb6 : Later w1 w6 := hb5.grown hg6 hb5.size (fun j hj => (ho5.lt j hj).1); rw [Lib.strCells_eq, ← Ub_bytes, ← L_len] at ho6; replace ho6 := own_snocB ho6; rw [show L x = sr from hx, ← HNX.out] at ho6; clear ho5; obtain ⟨A3, c3, rfl, hc3, hc4, hs3, _⟩ := own_form ho6; have bB := HB.out _ hb6)
                | ((with_reducible refine wpList_store_abs (o := ⟨none, .store 46 (.tmp 2) (.tmp 59), _, _, _, none⟩) rfl _ _ _ rfl w.heap.size 46 (Pc [] 0) (Pc [] 2) ?_ ?_ bB (pr_sz _ _) rfl (pr_one _ _) ?_); rfl; rfl; intro wP bP oP))
              exact bodyPost_ret (v := .agg (Pc [] 2).toArray) (results_blk Tryd.results19 _ _ w.heap.size 46 (Pc [] 2) _ rfl bP Tryd.underlying46 rfl (pr_sz _ _)) rfl ⟨by rw [HP.out], Below.only (Later.trans_ lw1 hb6) oP (Nat.le_refl _)⟩
            · have gi : ¬ (16384 : Int) < (nxt.length : Int) := by omega
              have gd : decide ((16384 : Int) < (nxt.length : Int)) = false := decide_eq_false gi
              have hnl : nxt.length ≤ 16384 := by omega
              clear hnx HLM
              go_wp2_with (first
                | (refine wpList_load_addr (o := ⟨some 52, .load 41 (.tmp 51), _, _, _, none⟩) rfl _ _ rfl (ad.add (k * 4)) [.int .i64 tk, .int .i64 ta, .int .i64 tn, .string ⟨ts.toArray⟩] _ rfl cx.out Tryd.underlying41 rfl (tk_sz ⟨tk, ta, tn, ts⟩) ?_)
                | (go_at_call 22; (with_reducible refine (HSRC.out _).mono ?_); rintro e w5 ⟨x, rfl, hx, l5⟩; have ho5 := own_later hor l5; have hb5 := Later.trans_ hb3 l5; have hxs := hxl x hx)
                | (at_builtin; refine Lib.wpList_append_own_string _ rfl _ _ 49 9 rfl w1.heap.size 5 i0 Tryd.underlying49 Tryd.underlying9 hi hz0 hz1 hz2 _ _ _ rfl ho5 x rfl (by unfold maxLen; omega) (by omega) (by have := hb5.size; omega) ?_; intro v6 w6 ho6 hg6 _; have hb6 : Later w1 w6 := hb5.grown hg6 hb5.size (fun j hj => (ho5.lt j hj).1); rw [Lib.strCells_eq, ← Ub_bytes, ← L_len] at ho6; replace ho6 := own_snocB ho6; rw [show L x = sr from hx, ← HNX.out] at ho6; clear ho5; obtain ⟨A3, c3, rfl, hc3, hc4, hs3, _⟩ := own_form ho6; have bB := HB.out _ hb6))
              go_roundw
              case rel => exact ⟨k + 1, by omega, by go_num, ⟨_, rfl⟩, by rw [HNXT.out]; exact hnl, by rw [HNXT.out]; exact ho6, hb6⟩
              case measure => first | (simp [intOf]; omega) | (simp [intOf]; done) | (simp; omega)
          · have b6 : (pk != 5) = true := bne_iff_ne.2 hp5
            replace hnx : nxt = (acc ++ [32]) ++ sr := by rw [hnx, hl5, decide_eq_false hp5, decide_eq_false h5]; simp
            clear hp5 hl5 h5
            have CXK := Lib.hid fun w' (h : Later w1 w') => CXTOK.out w' h
            have hlx : (acc ++ [32]).length ≤ 100000 := by first | omega | (simp; omega)
            have hxl : ∀ x : ByteArray, L x = sr → x.size ≤ 70000 := fun x h => by rw [← L_len, h]; exact hsl
            have HNX := Lib.hid hnx
            by_cases hgt : 16384 < nxt.length
            · have HP := Lib.hid (HLM.out hgt)
              have gi : (16384 : Int) < (nxt.length : Int) := by omega
              have gd : decide ((16384 : Int) < (nxt.length : Int)) = true := decide_eq_true gi
              clear hnx HLM
              go_wp2_with (first
                | (refine wpList_load_addr (o := ⟨some 52, .load 41 (.tmp 51), _, _, _, none⟩) rfl _ _ rfl (ad.add (k * 4)) [.int .i64 tk, .int .i64 ta, .int .i64 tn, .string ⟨ts.toArray⟩] _ rfl cxs Tryd.underlying41 rfl (tk_sz ⟨tk, ta, tn, ts⟩) ?_)
                | (go_at_call 22; (with_reducible refine (HSRC.out _).mono ?_); rintro e w5 ⟨x, rfl, hx, l5⟩; have ho5 := own_later ho4 l5; have hb5 := Later.trans_ hb4 l5; have hxs := hxl x hx)
                | (at_builtin; refine Lib.wpList_append_own_string _ rfl _ _ 49 9 rfl w1.heap.size 5 i0 Tryd.underlying49 Tryd.underlying9 hi hz0 hz1 hz2 _ _ _ rfl ho5 x rfl (by unfold maxLen; omega) (by omega) (by have := hb5.size; omega) ?_; intro v6 w6 ho6 hg6 _; have hb6 : Later w1 w6 := hb5.grown hg6 hb5.size (fun j hj => (ho5.lt j hj).1); rw [Lib.strCells_eq, ← Ub_bytes, ← L_len] at ho6; replace ho6 := own_snocB ho6; rw [show L x = sr from hx, ← HNX.out] at ho6; clear ho5; obtain ⟨A3, c3, rfl, hc3, hc4, hs3, _⟩ := own_form ho6; have bB := HB.out _ hb6)
                | ((with_reducible refine wpList_store_abs (o := ⟨none, .store 46 (.tmp 2) (.tmp 59), _, _, _, none⟩) rfl _ _ _ rfl w.heap.size 46 (Pc [] 0) (Pc [] 2) ?_ ?_ bB (pr_sz _ _) rfl (pr_one _ _) ?_); rfl; rfl; intro wP bP oP)
                | (at_builtin; refine wpList_append_own _ rfl _ _ 49 rfl w1.heap.size 5 i0 (.int .u8 0) 1 1 Tryd.underlying49 hi hz0 hz1 hz2 rfl (by decide) _ _ _ rfl (hor.alloc _) ⟨wr.heap.size, 0, none⟩ 1 1 (Ub [32]) rfl rfl (cell_one_new wr _ _) (Ub_one _) (by unfold maxLen; omega) (by omega) (by simp; omega) ?_; intro v4 w4 hown4 hg4 _; have ho4 := own_snocB (b := [32]) hown4; have hb4 : Later w1 w4 := (hb3.alloc hb3.size _).grown hg4 (by simp; omega) (fun j hj => (hor.lt j hj).1); clear hown4 hg4; have cxs := CXK.out w4 hb4))
              exact bodyPost_ret (v := .agg (Pc [] 2).toArray) (results_blk Tryd.results19 _ _ w.heap.size 46 (Pc [] 2) _ rfl bP Tryd.underlying46 rfl (pr_sz _ _)) rfl ⟨by rw [HP.out], Below.only (Later.trans_ lw1 hb6) oP (Nat.le_refl _)⟩
            · have gi : ¬ (16384 : Int) < (nxt.length : Int) := by omega
              have gd : decide ((16384 : Int) < (nxt.length : Int)) = false := decide_eq_false gi
              have hnl : nxt.length ≤ 16384 := by omega
              clear hnx HLM
              go_wp2_with (first
                | (refine wpList_load_addr (o := ⟨some 52, .load 41 (.tmp 51), _, _, _, none⟩) rfl _ _ rfl (ad.add (k * 4)) [.int .i64 tk, .int .i64 ta, .int .i64 tn, .string ⟨ts.toArray⟩] _ rfl cxs Tryd.underlying41 rfl (tk_sz ⟨tk, ta, tn, ts⟩) ?_)
                | (go_at_call 22; (with_reducible refine (HSRC.out _).mono ?_); rintro e w5 ⟨x, rfl, hx, l5⟩; have ho5 := own_later ho4 l5; have hb5 := Later.trans_ hb4 l5; have hxs := hxl x hx)
                | (at_builtin; refine Lib.wpList_append_own_string _ rfl _ _ 49 9 rfl w1.heap.size 5 i0 Tryd.underlying49 Tryd.underlying9 hi hz0 hz1 hz2 _ _ _ rfl ho5 x rfl (by unfold maxLen; omega) (by omega) (by have := hb5.size; omega) ?_; intro v6 w6 ho6 hg6 _; have hb6 : Later w1 w6 := hb5.grown hg6 hb5.size (fun j hj => (ho5.lt j hj).1); rw [Lib.strCells_eq, ← Ub_bytes, ← L_len] at ho6; replace ho6 := own_snocB ho6; rw [show L x = sr from hx, ← HNX.out] at ho6; clear ho5; obtain ⟨A3, c3, rfl, hc3, hc4, hs3, _⟩ := own_form ho6; have bB := HB.out _ hb6)
                | (at_builtin; refine wpList_append_own _ rfl _ _ 49 rfl w1.heap.size 5 i0 (.int .u8 0) 1 1 Tryd.underlying49 hi hz0 hz1 hz2 rfl (by decide) _ _ _ rfl (hor.alloc _) ⟨wr.heap.size, 0, none⟩ 1 1 (Ub [32]) rfl rfl (cell_one_new wr _ _) (Ub_one _) (by unfold maxLen; omega) (by omega) (by simp; omega) ?_; intro v4 w4 hown4 hg4 _; have ho4 := own_snocB (b := [32]) hown4; have hb4 : Later w1 w4 := (hb3.alloc hb3.size _).grown hg4 (by simp; omega) (fun j hj => (hor.lt j hj).1); clear hown4 hg4; have cxs := CXK.out w4 hb4))
              go_roundw
              case rel => exact ⟨k + 1, by omega, by go_num, ⟨_, rfl⟩, by rw [HNXT.out]; exact hnl, by rw [HNXT.out]; exact ho6, hb6⟩
              case measure => first | (simp [intOf]; omega) | (simp [intOf]; done) | (simp; omega)
        · have hkn : k = n := by omega
          rw [List.take_of_length_le (by omega)] at hal hor
          have hpr : R = (Lx.pr true l, 0) := by
            rw [← HRR.out]
            unfold Lx.Print
            rw [if_pos, if_pos hal]
            rw [List.all_eq_true]
            intro x hx
            obtain ⟨j, hj, rfl⟩ := List.mem_iff_getElem.1 hx
            exact HALL.out j hj
          have HP := Lib.hid hpr
          clear hpr HAD HALL
          obtain ⟨A4, c4, rfl, _, _, hcv⟩ := conv_own hor
          have bB := HB.out _ hb3
          go_wp2_with ((with_reducible refine wpList_store_abs (o := ⟨none, .store 46 (.tmp 2) (.tmp 62), _, _, _, none⟩) rfl _ _ _ rfl w.heap.size 46 (Pc [] 0) (Pc (Lx.pr true l) 0) ?_ ?_ bB (pr_sz _ _) rfl (pr_one _ _) ?_); rfl; rfl; intro wP bP oP)
          exact bodyPost_ret (v := .agg (Pc (Lx.pr true l) 0).toArray) (results_blk Tryd.results19 _ _ w.heap.size 46 (Pc (Lx.pr true l) 0) _ rfl bP Tryd.underlying46 rfl (pr_sz _ _)) rfl ⟨by rw [HP.out], Below.only (Later.trans_ lw1 hb3) oP (Nat.le_refl _)⟩
end Go.Proofs.YtjopadfkdpcjmaaDoor
