/-
  THE WALK OF lexer.Print.
-/
import Derived.Test.YtjopadfkdpcjmaaDoorLexS
import Derived.Test.YtjopadfkdpcjmaaDoorLexO
namespace Go.Proofs.YtjopadfkdpcjmaaDoor
open Go.RowKit Go.ChangeShapes Go.WideShapes Go.ChangeAt

/-- The table of powers of ten lies in its variable. -/
def Tab10 (w : World) : Prop := Lib.TabIs Tryd.prog w "internal/strconv.uint64pow10" .u64 Lib.pow10Tab
theorem Tab10.keep {w w' : World} (h : Tab10 w) (hb : Later w w') : Tab10 w' := Lib.tabBelow_of_tabIs h w' hb
theorem pr_split : ∀ (l : List Lx.Tok) (b : Bool) (k : Nat), ∃ r, Lx.pr b l = Lx.pr b (l.take k) ++ r := by
  intro l
  induction l with
  | nil => intro b k; exact ⟨[], by simp [Lx.pr]⟩
  | cons t r ih =>
    intro b k
    cases k with
    | zero => exact ⟨_, rfl⟩
    | succ k =>
      obtain ⟨x, hx⟩ := ih (decide (t.kind = 5)) k
      refine ⟨x, ?_⟩
      rw [List.take_succ_cons, Lx.pr, hx, Lx.pr]
      simp
theorem pr_le (l : List Lx.Tok) (k : Nat) : (Lx.pr true (l.take k)).length ≤ (Lx.pr true l).length := by
  obtain ⟨r, h⟩ := pr_split l true k
  rw [h, List.length_append]
  omega
theorem pr_next {l : List Lx.Tok} {k : Nat} (h : k < l.length) : Lx.pr true (l.take (k + 1)) = Lx.pr true (l.take k) ++ ((if Lx.last5 true (l.take k) || decide (l[k].kind = 5) then [] else [32]) ++ Lx.src l[k]) := by
  rw [List.take_succ_eq_append_getElem h, Lx.pr_snoc]
theorem last5_take {l : List Lx.Tok} {k : Nat} (h : k < l.length) (h0 : 0 < k) : Lx.last5 true (l.take k) = decide ((l[k - 1]'(by omega)).kind = 5) := by
  have hl : (l.take k).length = k := by rw [List.length_take]; omega
  rw [Lx.last5_get _ _ (by omega)]
  simp only [hl, List.getElem_take]
theorem src_len {t : Lx.Tok} (h : Lx.right t = true) : (Lx.src t).length ≤ 70000 := by
  obtain ⟨tk, ta, tn, ts⟩ := t
  unfold Lx.right at h
  unfold Lx.src
  simp only at h ⊢
  by_cases e2 : tk = 2
  · rw [if_pos e2]
    rw [if_neg (by omega), if_pos e2] at h
    simp only [Bool.and_eq_true, decide_eq_true_eq] at h
    have := dec_len 9 tn.toNat (by omega)
    omega
  rw [if_neg e2]
  by_cases e3 : tk = 3
  · rw [if_pos e3]
    rw [if_neg (by omega), if_neg e2, if_pos e3] at h
    simp only [Bool.and_eq_true, decide_eq_true_eq] at h
    have hsl : ∀ c, (Lx.srcB c).length ≤ 4 := fun c => by unfold Lx.srcB; split <;> (try split) <;> (try split) <;> simp
    have hfl : ∀ l : Lx.Str, (l.flatMap Lx.srcB).length ≤ 4 * l.length := by
      intro l
      induction l with
      | nil => simp
      | cons c r ih => rw [List.flatMap_cons, List.length_append, List.length_cons]; have := hsl c; omega
    unfold Lx.quoted
    rw [List.length_cons, List.length_append]
    have := hfl ts
    simp only [List.length_cons, List.length_nil]
    omega
  rw [if_neg e3]
  by_cases e5 : tk = 5
  · rw [if_pos e5]; simp
  rw [if_neg e5]
  by_cases e1 : tk = 1
  · rw [if_pos e1] at h
    unfold Lx.isName at h
    simp only [Bool.and_eq_true, decide_eq_true_eq] at h
    omega
  rw [if_neg e1, if_neg e2, if_neg e3] at h
  by_cases e4 : tk = 4
  · rw [if_pos e4] at h
    simp only [Bool.and_eq_true, decide_eq_true_eq] at h
    omega
  rw [if_neg e4, if_neg e5] at h
  cases h
/-- What Print answers. -/
def prAns (r : Lx.Str × Int) : Value := .tuple #[.string ⟨r.1.toArray⟩, .int .i64 r.2]

set_option maxRecDepth 100000 in
set_option maxHeartbeats 8000000 in
theorem print_any (A : Option Addr) (n c : Nat) (l : List Lx.Tok) (w : World) (hs : Sl w 4 A n (Tks l)) (hll : l.length = n) (hn : n ≤ maxLen) (tab : Tab10 w) :
    Calls Tryd.prog 18 #[.slice A n c] w fun e w' => e = .returned (prAns (Lx.Print l)) ∧ Later w w' := by
  obtain ⟨i0, hi, hz0, hz1, hz2⟩ := info_parts u8_info
  unfold maxLen at hn
  have HS := Lib.hid fun w' (h : Later w w') => hs.keep h
  have HAD := Lib.hid fun (h : 0 < n) => (show ∃ ad, A = some ad ∧ ad.block < w.heap.size from by obtain ⟨ad, e, hb, _⟩ := hs.2 h; exact ⟨ad, e, hb⟩)
  have TB := Lib.hid fun w' (h : Later w w') => (Lib.tabBelow_of_tabIs tab).on h
  have HRT := Lib.hid fun t w' => right_any t w'
  obtain ⟨R, hR⟩ : ∃ R, Lx.Print l = R := ⟨_, rfl⟩
  rw [hR]
  have HRR := Lib.hid hR
  clear hs tab hR
  go_enter Tryd.func18, Tryd.ntmps18
  go_wp2
  go_loopw [11] (fun i wr => ∃ k : Nat, k ≤ n ∧ i = .int .i64 k ∧ Aside (∀ j (h : j < l.length), j < k → Lx.right l[j] = true) ∧ Later w wr) (fun i _ => n - (intOf i).toNat)
  case atStart => exact ⟨0, Nat.zero_le _, rfl, fun j _ h => absurd h (by omega), later0 _⟩
  case round =>
    obtain ⟨k, hk, rfl, hall, hbr⟩ := hrel
    rename_i wr
    by_cases hlt : k < n
    · obtain ⟨ad, rfl, hab⟩ := HAD.out (by omega)
      have hkl : k < l.length := by omega
      have cx := Lib.hid (Sl.tok (HS.out wr hbr) hkl hll)
      obtain ⟨t, ht⟩ : ∃ t, l[k]'hkl = t := ⟨_, rfl⟩
      rw [ht] at cx
      have HG := Lib.hid (HRT.out t)
      cases hr : Lx.right t with
      | true =>
        rw [hr] at HG
        have hall2 : Aside (∀ j (h : j < l.length), j < k + 1 → Lx.right l[j] = true) := fun j h hj => by
          rcases Nat.lt_succ_iff_lt_or_eq.1 hj with h' | rfl
          · exact hall j h h'
          · rw [ht]; exact hr
        clear ht hr hall HAD
        obtain ⟨tk, ta, tn, ts⟩ := t
        unfold Tk at cx HG
        simp only at cx HG
        go_wp2_with (first
          | (refine wpList_load_addr (o := ⟨some 14, .load 41 (.tmp 13), _, _, _, none⟩) rfl _ _ rfl (ad.add (k * 4)) [.int .i64 tk, .int .i64 ta, .int .i64 tn, .string ⟨ts.toArray⟩] _ rfl cx.out Tryd.underlying41 rfl (tk_sz ⟨tk, ta, tn, ts⟩) ?_)
          | (go_at_call 16; refine (HG.out _).mono ?_; rintro e w' ⟨rfl, l1⟩))
        go_roundw
        case rel => exact ⟨k + 1, by omega, by go_num, hall2, Later.trans_ (hbr.alloc hbr.size _) l1⟩
        case measure => simp [intOf]; omega
      | false =>
        rw [hr] at HG
        have hpr : R = ([], 1) := by
          rw [← HRR.out]
          unfold Lx.Print
          rw [if_neg]
          intro h
          rw [List.all_eq_true] at h
          have := h _ (List.getElem_mem hkl)
          rw [ht, hr] at this
          cases this
        have HP := Lib.hid hpr
        clear ht hr hall HAD hpr
        obtain ⟨tk, ta, tn, ts⟩ := t
        unfold Tk at cx HG
        simp only at cx HG
        go_wp2_with (first
          | (refine wpList_load_addr (o := ⟨some 14, .load 41 (.tmp 13), _, _, _, none⟩) rfl _ _ rfl (ad.add (k * 4)) [.int .i64 tk, .int .i64 ta, .int .i64 tn, .string ⟨ts.toArray⟩] _ rfl cx.out Tryd.underlying41 rfl (tk_sz ⟨tk, ta, tn, ts⟩) ?_)
          | (go_at_call 16; refine (HG.out _).mono ?_; rintro e w' ⟨rfl, l1⟩))
        go_ret2
        rw [HP.out]
        exact ⟨rfl, Later.trans_ (hbr.alloc hbr.size _) l1⟩
    · have hkn : n = k := by omega
      subst hkn
      have HALL := Lib.hid fun j (h : j < l.length) => hall j h (by omega)
      clear hall HRT
      obtain ⟨w2, hw2⟩ : ∃ x, x = wr := ⟨_, rfl⟩
      subst hw2
      go_wp2
      go_loopw [6, 21] (fun v i wr => ∃ k : Nat, k ≤ n ∧ i = .int .i64 k ∧ (Lx.pr true (l.take k)).length ≤ 16384 ∧ wr.ownsRow w.heap.size 5 1 v (Lx.pr true (l.take k)).length (Ub (Lx.pr true (l.take k))) ∧ Later w wr) (fun _ i _ => n - (intOf i).toNat)
      case atStart => exact ⟨0, Nat.zero_le _, rfl, by simp [Lx.pr], World.ownsRow_nil _ _ _ _, hbr⟩
      case round =>
        obtain ⟨k, hk, rfl, hal, hor, hb3⟩ := hrel
        rename_i wr
        clear hbr
        by_cases hlt : k < n
        · obtain ⟨ad, rfl, hab⟩ := HAD.out (by omega)
          have hkl : k < l.length := by omega
          have cx := Lib.hid (Sl.tok (HS.out wr hb3) hkl hll)
          have hnx := pr_next hkl
          obtain ⟨t, ht⟩ : ∃ t, l[k]'hkl = t := ⟨_, rfl⟩
          have hrt := HALL.out k hkl
          rw [ht] at cx hnx hrt
          have hsl := src_len hrt
          have HPV := Lib.hid fun (h0 : 0 < k) (o : Obj) => (show (wr.alloc o).cell? (ad.add ((k - 1) * 4)) = some (.int .i64 (l[k - 1]'(by omega)).kind) by
            have h1 := Sl.tok (HS.out (wr.alloc o) (hb3.alloc hb3.size o)) (k := k - 1) (by omega) hll 0 _ rfl
            rwa [addr_add_add, Nat.add_zero] at h1)
          have HL5 := Lib.hid fun (h0 : 0 < k) => last5_take hkl h0
          obtain ⟨acc, hac⟩ : ∃ acc, Lx.pr true (l.take k) = acc := ⟨_, rfl⟩
          rw [hac] at hal hor hnx
          have hle := pr_le l (k + 1)
          have HLM := Lib.hid fun (h : 16384 < (Lx.pr true (l.take (k + 1))).length) => (show R = ([], 2) by
            rw [← HRR.out]
            unfold Lx.Print
            rw [if_pos, if_neg (by omega)]
            rw [List.all_eq_true]
            intro x hx
            obtain ⟨j, hj, rfl⟩ := List.mem_iff_getElem.1 hx
            exact HALL.out j hj)
          obtain ⟨nxt, hnxt⟩ : ∃ x, Lx.pr true (l.take (k + 1)) = x := ⟨_, rfl⟩
          rw [hnxt] at hnx HLM
          have HNXT := Lib.hid hnxt
          clear ht hac hle hnxt HALL
          have HPUT := Lib.hid fun v (a2 : Lx.Str) w' (ho : w'.ownsRow w.heap.size 5 1 v a2.length (Ub a2)) (hl : Later w w') (h : a2.length ≤ 100000) => put_any w.heap.size v a2 t w' hrt ho hl.size h (TB.out w' hl)
          obtain ⟨tk, ta, tn, ts⟩ := t
          unfold Tk at cx HPUT
          simp only at cx HPUT hnx
          have hb8 := hb3.alloc hb3.size (.cells #[.int .i64 tk, .int .i64 ta, .int .i64 tn, .string ⟨ts.toArray⟩] 41)
          have ho8 := hor.alloc (.cells #[.int .i64 tk, .int .i64 ta, .int .i64 tn, .string ⟨ts.toArray⟩] 41)
          by_cases hk0 : k = 0
          · subst hk0
            have cz := Lib.hid (show ∀ i v, ([.int .i64 tk, .int .i64 ta, .int .i64 tn, .string ⟨ts.toArray⟩] : List Value)[i]? = some v → wr.cell? (ad.add i) = some v from cx.out)
            have hl0 : Lx.last5 true (l.take 0) = true := by rw [List.take_zero]; rfl
            have d0 : decide ((0 : Int) < ((0 : Nat) : Int)) = false := rfl
            replace hnx : nxt = acc ++ Lx.src ⟨tk, ta, tn, ts⟩ := by rw [hnx, hl0]; simp
            clear hl0 cx
            have hlx : (acc).length ≤ 100000 := by first | omega | (simp; omega)
            have HNX := Lib.hid hnx
            by_cases hgt : 16384 < nxt.length
            · have HP := Lib.hid (HLM.out hgt)
              have gi : (16384 : Int) < (nxt.length : Int) := by omega
              have gd : decide ((16384 : Int) < (nxt.length : Int)) = true := decide_eq_true gi
              clear hnx HLM
              go_wp2_with (first
                | (refine wpList_load_addr (o := ⟨some 25, .load 41 (.tmp 24), _, _, _, none⟩) rfl _ _ rfl ad [.int .i64 tk, .int .i64 ta, .int .i64 tn, .string ⟨ts.toArray⟩] _ rfl cz.out Tryd.underlying41 rfl (tk_sz ⟨tk, ta, tn, ts⟩) ?_)
                | (go_at_call 36; refine (HPUT.out _ acc _ ho8 hb8 hlx).mono ?_; rintro e w' ⟨v', rfl, ho2, hb2⟩; rw [← HNX.out] at ho2; obtain ⟨A3, c3, rfl, hc3, hc4, hs3, _⟩ := own_form ho2; have hb9 := hb8))
              go_ret2
              rw [HP.out]
              exact ⟨rfl, hb9.trans hb2⟩
            · have gi : ¬ (16384 : Int) < (nxt.length : Int) := by omega
              have gd : decide ((16384 : Int) < (nxt.length : Int)) = false := decide_eq_false gi
              have hnl : nxt.length ≤ 16384 := by omega
              clear hnx HLM
              go_wp2_with (first
                | (refine wpList_load_addr (o := ⟨some 25, .load 41 (.tmp 24), _, _, _, none⟩) rfl _ _ rfl ad [.int .i64 tk, .int .i64 ta, .int .i64 tn, .string ⟨ts.toArray⟩] _ rfl cz.out Tryd.underlying41 rfl (tk_sz ⟨tk, ta, tn, ts⟩) ?_)
                | (go_at_call 36; refine (HPUT.out _ acc _ ho8 hb8 hlx).mono ?_; rintro e w' ⟨v', rfl, ho2, hb2⟩; rw [← HNX.out] at ho2; obtain ⟨A3, c3, rfl, hc3, hc4, hs3, _⟩ := own_form ho2; have hb9 := hb8))
              go_roundw
              case rel => exact ⟨0 + 1, by omega, by go_num, by rw [HNXT.out]; exact hnl, by rw [HNXT.out]; exact ho2, hb9.trans hb2⟩
              case measure => first | (simp [intOf]; omega) | (simp [intOf]; done) | (simp; omega)
          have hk1 : 0 < k := by omega
          have d0 : decide ((0 : Int) < (k : Int)) = true := decide_eq_true (by omega)
          by_cases h5 : tk = 5
          · have b5 : (tk != 5) = false := by rw [h5]; rfl
            replace hnx : nxt = acc ++ Lx.src ⟨tk, ta, tn, ts⟩ := by rw [hnx, decide_eq_true h5, Bool.or_true]; simp
            clear h5
            have hlx : (acc).length ≤ 100000 := by first | omega | (simp; omega)
            have HNX := Lib.hid hnx
            by_cases hgt : 16384 < nxt.length
            · have HP := Lib.hid (HLM.out hgt)
              have gi : (16384 : Int) < (nxt.length : Int) := by omega
              have gd : decide ((16384 : Int) < (nxt.length : Int)) = true := decide_eq_true gi
              clear hnx HLM
              go_wp2_with (first
                | (refine wpList_load_addr (o := ⟨some 25, .load 41 (.tmp 24), _, _, _, none⟩) rfl _ _ rfl (ad.add (k * 4)) [.int .i64 tk, .int .i64 ta, .int .i64 tn, .string ⟨ts.toArray⟩] _ rfl cx.out Tryd.underlying41 rfl (tk_sz ⟨tk, ta, tn, ts⟩) ?_)
                | (go_at_call 36; refine (HPUT.out _ acc _ ho8 hb8 hlx).mono ?_; rintro e w' ⟨v', rfl, ho2, hb2⟩; rw [← HNX.out] at ho2; obtain ⟨A3, c3, rfl, hc3, hc4, hs3, _⟩ := own_form ho2; have hb9 := hb8))
              go_ret2
              rw [HP.out]
              exact ⟨rfl, hb9.trans hb2⟩
            · have gi : ¬ (16384 : Int) < (nxt.length : Int) := by omega
              have gd : decide ((16384 : Int) < (nxt.length : Int)) = false := decide_eq_false gi
              have hnl : nxt.length ≤ 16384 := by omega
              clear hnx HLM
              go_wp2_with (first
                | (refine wpList_load_addr (o := ⟨some 25, .load 41 (.tmp 24), _, _, _, none⟩) rfl _ _ rfl (ad.add (k * 4)) [.int .i64 tk, .int .i64 ta, .int .i64 tn, .string ⟨ts.toArray⟩] _ rfl cx.out Tryd.underlying41 rfl (tk_sz ⟨tk, ta, tn, ts⟩) ?_)
                | (go_at_call 36; refine (HPUT.out _ acc _ ho8 hb8 hlx).mono ?_; rintro e w' ⟨v', rfl, ho2, hb2⟩; rw [← HNX.out] at ho2; obtain ⟨A3, c3, rfl, hc3, hc4, hs3, _⟩ := own_form ho2; have hb9 := hb8))
              go_roundw
              case rel => exact ⟨k + 1, by omega, by go_num, by rw [HNXT.out]; exact hnl, by rw [HNXT.out]; exact ho2, hb9.trans hb2⟩
              case measure => first | (simp [intOf]; omega) | (simp [intOf]; done) | (simp; omega)
          have b5 : (tk != 5) = true := bne_iff_ne.2 h5
          have hpv := HPV.out hk1
          have hl5 := HL5.out hk1
          obtain ⟨pk, hpk⟩ : ∃ pk, (l[k - 1]'(by omega)).kind = pk := ⟨_, rfl⟩
          rw [hpk] at hpv hl5
          clear hpk HPV HL5
          have hki : ((k : Int) - 1).toNat = k - 1 := by omega
          by_cases hp5 : pk = 5
          · have b6 : (pk != 5) = false := by rw [hp5]; rfl
            replace hnx : nxt = acc ++ Lx.src ⟨tk, ta, tn, ts⟩ := by rw [hnx, hl5, decide_eq_true hp5, Bool.true_or]; simp
            clear h5 hp5 hl5
            have hlx : (acc).length ≤ 100000 := by first | omega | (simp; omega)
            have HNX := Lib.hid hnx
            by_cases hgt : 16384 < nxt.length
            · have HP := Lib.hid (HLM.out hgt)
              have gi : (16384 : Int) < (nxt.length : Int) := by omega
              have gd : decide ((16384 : Int) < (nxt.length : Int)) = true := decide_eq_true gi
              clear hnx HLM
              go_wp2_with (first
                | (refine wpList_load_addr (o := ⟨some 25, .load 41 (.tmp 24), _, _, _, none⟩) rfl _ _ rfl (ad.add (k * 4)) [.int .i64 tk, .int .i64 ta, .int .i64 tn, .string ⟨ts.toArray⟩] _ rfl cx.out Tryd.underlying41 rfl (tk_sz ⟨tk, ta, tn, ts⟩) ?_)
                | (go_at_call 36; refine (HPUT.out _ acc _ ho8 hb8 hlx).mono ?_; rintro e w' ⟨v', rfl, ho2, hb2⟩; rw [← HNX.out] at ho2; obtain ⟨A3, c3, rfl, hc3, hc4, hs3, _⟩ := own_form ho2; have hb9 := hb8))
              go_ret2
              rw [HP.out]
              exact ⟨rfl, hb9.trans hb2⟩
            · have gi : ¬ (16384 : Int) < (nxt.length : Int) := by omega
              have gd : decide ((16384 : Int) < (nxt.length : Int)) = false := decide_eq_false gi
              have hnl : nxt.length ≤ 16384 := by omega
              clear hnx HLM
              go_wp2_with (first
                | (refine wpList_load_addr (o := ⟨some 25, .load 41 (.tmp 24), _, _, _, none⟩) rfl _ _ rfl (ad.add (k * 4)) [.int .i64 tk, .int .i64 ta, .int .i64 tn, .string ⟨ts.toArray⟩] _ rfl cx.out Tryd.underlying41 rfl (tk_sz ⟨tk, ta, tn, ts⟩) ?_)
                | (go_at_call 36; refine (HPUT.out _ acc _ ho8 hb8 hlx).mono ?_; rintro e w' ⟨v', rfl, ho2, hb2⟩; rw [← HNX.out] at ho2; obtain ⟨A3, c3, rfl, hc3, hc4, hs3, _⟩ := own_form ho2; have hb9 := hb8))
              go_roundw
              case rel => exact ⟨k + 1, by omega, by go_num, by rw [HNXT.out]; exact hnl, by rw [HNXT.out]; exact ho2, hb9.trans hb2⟩
              case measure => first | (simp [intOf]; omega) | (simp [intOf]; done) | (simp; omega)
          have b6 : (pk != 5) = true := bne_iff_ne.2 hp5
          replace hnx : nxt = (acc ++ [32]) ++ Lx.src ⟨tk, ta, tn, ts⟩ := by rw [hnx, hl5, decide_eq_false hp5, decide_eq_false h5, Bool.false_or, if_neg (by simp), List.append_assoc]
          clear h5 hp5 hl5
          obtain ⟨w8, hw8⟩ : ∃ x, wr.alloc (.cells #[.int .i64 tk, .int .i64 ta, .int .i64 tn, .string ⟨ts.toArray⟩] 41) = x := ⟨_, rfl⟩
          have bk8 : Blk w8 wr.heap.size 41 [.int .i64 tk, .int .i64 ta, .int .i64 tn, .string ⟨ts.toArray⟩] := hw8 ▸ Blk.new wr _ _ _ rfl
          have hnb8 : ∀ g, Value.ownBlock _ = some g → g ≠ wr.heap.size := fun g e => Nat.ne_of_lt (hor.lt g e).2
          rw [hw8] at hb8 ho8
          have hpv8 := hpv (.cells #[.int .i64 tk, .int .i64 ta, .int .i64 tn, .string ⟨ts.toArray⟩] 41)
          rw [hw8] at hpv8
          have k80 := bk8.cell (j := 0) (v := .int .i64 tk) rfl
          have HW8 := hw8
          clear hpv
          have hlx : (acc ++ [32]).length ≤ 100000 := by first | omega | (simp; omega)
          have HNX := Lib.hid hnx
          by_cases hgt : 16384 < nxt.length
          · have HP := Lib.hid (HLM.out hgt)
            have gi : (16384 : Int) < (nxt.length : Int) := by omega
            have gd : decide ((16384 : Int) < (nxt.length : Int)) = true := decide_eq_true gi
            clear hnx HLM
            go_wp2_with (first
              | (refine wpList_load_addr (o := ⟨some 25, .load 41 (.tmp 24), _, _, _, none⟩) rfl _ _ rfl (ad.add (k * 4)) [.int .i64 tk, .int .i64 ta, .int .i64 tn, .string ⟨ts.toArray⟩] _ rfl cx.out Tryd.underlying41 rfl (tk_sz ⟨tk, ta, tn, ts⟩) ?_)
              | (at_builtin; refine wpList_append_own _ rfl _ _ 49 rfl w.heap.size 5 i0 (.int .u8 0) 1 1 Tryd.underlying49 hi hz0 hz1 hz2 rfl (by decide) _ _ _ rfl (ho8.alloc _) ⟨w8.heap.size, 0, none⟩ 1 1 (Ub [32]) rfl rfl (cell_one_new w8 _ _) (Ub_one _) (by unfold maxLen; omega) (by omega) (by have := hb8.size; simp; omega) ?_; intro v1 w9 hown9 hgrow9 _; have ho9 := own_snocB (b := [32]) hown9; have hb9 : Later w w9 := (hb8.alloc hb8.size _).grown hgrow9 (by have := hb8.size; simp; omega) (fun j hj => (ho8.lt j hj).1); have bk9 : Blk w9 wr.heap.size 41 [.int .i64 tk, .int .i64 ta, .int .i64 tn, .string ⟨ts.toArray⟩] := by { have y3 := bk8.alloc (.cells (Ub [32]).toArray 5); have hh := hgrow9.block wr.heap.size y3.lt (fun e => hnb8 _ e.symm rfl); unfold Blk; rw [hh]; exact y3 }; clear hown9 hgrow9)
              | (refine wpList_load_blk (o := ⟨some 46, .load 41 (.tmp 8), _, _, _, none⟩) rfl _ _ rfl wr.heap.size 41 [.int .i64 tk, .int .i64 ta, .int .i64 tn, .string ⟨ts.toArray⟩] _ rfl bk9 Tryd.underlying41 rfl (tk_sz ⟨tk, ta, tn, ts⟩) ?_)
              | (go_at_call 36; refine (HPUT.out _ (acc ++ [32]) _ ho9 hb9 hlx).mono ?_; rintro e w' ⟨v', rfl, ho2, hb2⟩; rw [← HNX.out] at ho2; obtain ⟨A3, c3, rfl, hc3, hc4, hs3, _⟩ := own_form ho2))
            go_ret2
            rw [HP.out]
            exact ⟨rfl, hb9.trans hb2⟩
          · have gi : ¬ (16384 : Int) < (nxt.length : Int) := by omega
            have gd : decide ((16384 : Int) < (nxt.length : Int)) = false := decide_eq_false gi
            have hnl : nxt.length ≤ 16384 := by omega
            clear hnx HLM
            go_wp2_with (first
              | (refine wpList_load_addr (o := ⟨some 25, .load 41 (.tmp 24), _, _, _, none⟩) rfl _ _ rfl (ad.add (k * 4)) [.int .i64 tk, .int .i64 ta, .int .i64 tn, .string ⟨ts.toArray⟩] _ rfl cx.out Tryd.underlying41 rfl (tk_sz ⟨tk, ta, tn, ts⟩) ?_)
              | (at_builtin; refine wpList_append_own _ rfl _ _ 49 rfl w.heap.size 5 i0 (.int .u8 0) 1 1 Tryd.underlying49 hi hz0 hz1 hz2 rfl (by decide) _ _ _ rfl (ho8.alloc _) ⟨w8.heap.size, 0, none⟩ 1 1 (Ub [32]) rfl rfl (cell_one_new w8 _ _) (Ub_one _) (by unfold maxLen; omega) (by omega) (by have := hb8.size; simp; omega) ?_; intro v1 w9 hown9 hgrow9 _; have ho9 := own_snocB (b := [32]) hown9; have hb9 : Later w w9 := (hb8.alloc hb8.size _).grown hgrow9 (by have := hb8.size; simp; omega) (fun j hj => (ho8.lt j hj).1); have bk9 : Blk w9 wr.heap.size 41 [.int .i64 tk, .int .i64 ta, .int .i64 tn, .string ⟨ts.toArray⟩] := by { have y3 := bk8.alloc (.cells (Ub [32]).toArray 5); have hh := hgrow9.block wr.heap.size y3.lt (fun e => hnb8 _ e.symm rfl); unfold Blk; rw [hh]; exact y3 }; clear hown9 hgrow9)
              | (refine wpList_load_blk (o := ⟨some 46, .load 41 (.tmp 8), _, _, _, none⟩) rfl _ _ rfl wr.heap.size 41 [.int .i64 tk, .int .i64 ta, .int .i64 tn, .string ⟨ts.toArray⟩] _ rfl bk9 Tryd.underlying41 rfl (tk_sz ⟨tk, ta, tn, ts⟩) ?_)
              | (go_at_call 36; refine (HPUT.out _ (acc ++ [32]) _ ho9 hb9 hlx).mono ?_; rintro e w' ⟨v', rfl, ho2, hb2⟩; rw [← HNX.out] at ho2; obtain ⟨A3, c3, rfl, hc3, hc4, hs3, _⟩ := own_form ho2))
            go_roundw
            case rel => exact ⟨k + 1, by omega, by go_num, by rw [HNXT.out]; exact hnl, by rw [HNXT.out]; exact ho2, hb9.trans hb2⟩
            case measure => first | (simp [intOf]; omega) | (simp [intOf]; done) | (simp; omega)
        · have hkn : k = n := by omega
          rw [List.take_of_length_le (by omega)] at hal hor
          have hpr : R = (Lx.pr true l, 0) := by
            rw [← HRR.out]
            unfold Lx.Print
            rw [if_pos, if_pos hal]
            rw [List.all_eq_true]
            intro x hx
            obtain ⟨j, hj, rfl⟩ := List.mem_iff_getElem.1 hx
            exact HALL.out j hj
          have HP := Lib.hid hpr
          clear hpr HAD HALL
          obtain ⟨A4, c4, rfl, _, _, hcv⟩ := conv_own hor
          go_wp2
          go_ret2
          rw [HP.out]
          exact ⟨rfl, hb3⟩
end Go.Proofs.YtjopadfkdpcjmaaDoor
