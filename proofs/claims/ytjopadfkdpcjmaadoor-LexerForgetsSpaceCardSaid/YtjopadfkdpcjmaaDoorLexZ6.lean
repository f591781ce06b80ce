/-
  THE STATEMENT LexerForgetsSpace: tokens with other gaps between them are the same tokens.
-/
import Derived.Test.YtjopadfkdpcjmaaDoorLexV
import Derived.Test.YtjopadfkdpcjmaaDoorLexW
import Derived.Test.YtjopadfkdpcjmaaDoorLexT
import Derived.Test.YtjopadfkdpcjmaaDoorLexRd
import Derived.Test.YtjopadfkdpcjmaaDoorLexZ4
namespace Go.Proofs.YtjopadfkdpcjmaaDoor
open Go.RowKit Go.ChangeShapes Go.WideShapes Go.ChangeAt

theorem IsB.later {w w' : World} {B b : Nat} {bs : List Value} (h : Lib.IsBuilder 52 5 B b bs w) (l : Later w w') : Lib.IsBuilder 52 5 B b bs w' := by
  have one : ∀ p, Lib.BuilderAt 52 5 B b p bs w → Lib.BuilderAt 52 5 B b p bs w' := by
    rintro p h
    have hlt := h.lt
    obtain ⟨hB, v, hb, ho, hne⟩ := h
    exact ⟨hB, v, by rw [l.5 b hlt]; exact hb, own_later ho l, hne⟩
  rcases h with h | h
  · exact .inl (one _ h)
  · exact .inr (one _ h)
/-- Which gap stands before which token. -/
def gapNo (gs : Wm.Bs) (k : Nat) : Nat := if gs.length = 0 then k else (gs.getD (k % gs.length) 0).toNat
theorem byteCells_app (a b : Lx.Str) : Lib.byteCells (a ++ b) = Lib.byteCells a ++ Lib.byteCells b := by unfold Lib.byteCells; rw [List.map_append]
set_option maxRecDepth 100000 in
theorem space_no (A : Option Addr) (n c : Nat) (l : List Lx.Tok) (A1 : Option Addr) (n1 c1 : Nat) (w : World) (hs : Sl w 4 A n (Tks l)) (hll : l.length = n) (hn : n ≤ maxLen) (h : fewB l = false ∨ fewB l = true ∧ (Lx.Print l).2 ≠ 0) (tab : Tab10 w) :
    Calls Tryd.prog 6 #[.slice A n c, .slice A1 n1 c1] w fun e w' => e = .returned (.bool true) ∧ Later w w' := by
  have HN := Lib.hid fun w' (h : Later w w') => sanity_any w' (tab.keep h)
  have HF := Lib.hid fun w' (h : Later w w') => few_any A n c l w' (hs.keep h) hll hn
  have HP := Lib.hid fun w' (h : Later w w') => print_any A n c l w' (hs.keep h) hll hn (tab.keep h)
  unfold prAns at HP
  clear tab hs hll hn
  rcases h with h | ⟨h, h2⟩
  · rw [h] at HF
    clear h
    go_enter Tryd.func6, Tryd.ntmps6
    go_wp2_with (first
      | (go_at_call 18; (with_reducible refine (HP.out _ (later0 _)).mono ?_); rintro e w1 ⟨rfl, lw⟩)
      | (go_at_call 15; (with_reducible refine (HF.out _ lw).mono ?_); rintro e w2 ⟨rfl, l2⟩; replace lw := Later.trans_ lw l2)
      | (go_at_call 9; refine (HN.out _ lw).mono ?_; rintro e w9 ⟨rfl, l9⟩; replace lw := Later.trans_ lw l9))
    go_ret
    exact ⟨rfl, lw⟩
  · rw [h] at HF
    have e1 : ((Lx.Print l).2 == 0) = false := beq_eq_false_iff_ne.2 h2
    have e2 : ((Lx.Print l).2 != 0) = true := bne_iff_ne.2 h2
    clear h h2
    go_enter Tryd.func6, Tryd.ntmps6
    go_wp2_with (first
      | (go_at_call 18; (with_reducible refine (HP.out _ (later0 _)).mono ?_); rintro e w1 ⟨rfl, lw⟩)
      | (go_at_call 15; (with_reducible refine (HF.out _ lw).mono ?_); rintro e w2 ⟨rfl, l2⟩; replace lw := Later.trans_ lw l2)
      | (go_at_call 9; refine (HN.out _ lw).mono ?_; rintro e w9 ⟨rfl, l9⟩; replace lw := Later.trans_ lw l9))
    go_ret
    exact ⟨rfl, lw⟩
set_option maxRecDepth 100000 in
set_option maxHeartbeats 8000000 in
theorem space_main (A : Option Addr) (n c : Nat) (l : List Lx.Tok) (A1 : Option Addr) (n1 c1 : Nat) (gs : Wm.Bs) (w : World) (hs : Sl w 4 A n (Tks l)) (hll : l.length = n) (hn : n ≤ maxLen) (hg : Sl w 1 A1 n1 (U gs)) (hgb : Wm.isBs gs) (hn1 : n1 ≤ maxLen) (hfw : fewB l = true) (hp0 : (Lx.Print l).2 = 0) (tab : Tab10 w) :
    Calls Tryd.prog 6 #[.slice A n c, .slice A1 n1 c1] w fun e w' => e = .returned (.bool true) ∧ Later w w' := by
  have HN := Lib.hid fun w' (h : Later w w') => sanity_any w' (tab.keep h)
  have HF := Lib.hid fun w' (h : Later w w') => few_any A n c l w' (hs.keep h) hll hn
  rw [hfw] at HF
  have HP := Lib.hid fun w' (h : Later w w') => print_any A n c l w' (hs.keep h) hll hn (tab.keep h)
  unfold prAns at HP
  rw [hp0] at HP
  have hright : ∀ t ∈ l, Lx.right t = true := by
    unfold Lx.Print at hp0
    by_cases h : l.all Lx.right = true
    · exact List.all_eq_true.1 h
    · rw [if_neg h] at hp0; exact absurd hp0 (by decide)
  have HR := Lib.hid hright
  have HS := Lib.hid fun w' (h : Later w w') => hs.keep h
  have HGS := Lib.hid fun w' (h : Later w w') => hg.keep h
  have HAD := Lib.hid fun (h : 0 < n) => (show ∃ ad, A = some ad ∧ ad.block < w.heap.size from by obtain ⟨ad, e, hb, _⟩ := hs.2 h; exact ⟨ad, e, hb⟩)
  have HAG := Lib.hid fun (h : 0 < n1) => (show ∃ ad, A1 = some ad from by obtain ⟨ad, e, _⟩ := hg.2 h; exact ⟨ad, e⟩)
  have hgl : gs.length = n1 := by have := hg.1; rw [U_length] at this; omega
  have HGL := Lib.hid hgl
  have HGB := Lib.hid hgb
  unfold maxLen at hn hn1
  have hn100 : n ≤ 100 := by
    unfold fewB at hfw
    rw [Bool.and_eq_true, decide_eq_true_eq] at hfw
    omega
  obtain ⟨G, hG⟩ : ∃ G, gapNo gs = G := ⟨_, rfl⟩
  have HG := Lib.hid hG
  have HSRC := Lib.hid fun t w' => rsource_any t w'
  have HGAP := Lib.hid fun m b w' => gap_any m b w'
  clear tab hfw hs hp0 hright hg hgb hG hgl
  go_enter Tryd.func6, Tryd.ntmps6
  go_wp2_with (first
    | (go_at_call 18; (with_reducible refine (HP.out _ (later0 _)).mono ?_); rintro e w1 ⟨rfl, lw⟩)
    | (go_at_call 15; (with_reducible refine (HF.out _ lw).mono ?_); rintro e w2 ⟨rfl, l2⟩; replace lw := Later.trans_ lw l2))
  obtain ⟨w3, hw3⟩ : ∃ x, w2.alloc (.cells #[.pointer none, .slice none 0 0] 52) = x := ⟨_, rfl⟩
  have hb3 : Later w2 w3 := hw3 ▸ later1 w2 _
  have hB3 : Lib.IsBuilder 52 5 w2.heap.size w2.heap.size (Lib.byteCells (Lx.gapSrc G (l.take 0))) w3 := by
    rw [← hw3]
    refine .inl ⟨Nat.le_refl _, .slice none 0 0, heap_alloc_new w2 _, World.ownsRow_nil _ _ _ _, by simp [Value.ownBlock]⟩
  rw [hw3]
  clear hw3
  go_wp2
  go_loopw [28] (fun i wr => ∃ k : Nat, k ≤ n ∧ i = .int .i64 k ∧ Lib.IsBuilder 52 5 w2.heap.size w2.heap.size (Lib.byteCells (Lx.gapSrc G (l.take k))) wr ∧ (Lx.gapSrc G (l.take k)).length ≤ k * 70013 ∧ Later w2 wr) (fun i _ => n - (intOf i).toNat)
  case atStart => exact ⟨0, Nat.zero_le _, rfl, hB3, by simp [Lx.gapSrc_nil], hb3⟩
  case round =>
    obtain ⟨k, hk, rfl, hIB, hlen, hbr⟩ := hrel
    rename_i wr
    clear hB3 hb3
    by_cases hlt : k < n
    · obtain ⟨ad, rfl, hab⟩ := HAD.out (by omega)
      have hkl : k < l.length := by omega
      have cx := Lib.hid (Sl.tok (HS.out wr (Later.trans_ lw hbr)) hkl hll)
      have hnx := Lx.gapSrc_next G hkl
      have hrt := HR.out _ (List.getElem_mem hkl)
      obtain ⟨t, ht⟩ : ∃ t, l[k]'hkl = t := ⟨_, rfl⟩
      rw [ht] at cx hnx hrt
      have hsl := src_len hrt
      have HSR := Lib.hid fun w' => HSRC.out t w' hrt
      obtain ⟨sr, hsr⟩ : ∃ x, Lx.src t = x := ⟨_, rfl⟩
      rw [hsr] at HSR hnx hsl
      clear ht hrt hsr HSRC HR
      have b0 : Blk (wr.alloc (.cells (Tk t).toArray 41)) wr.heap.size 41 (Tk t) := Blk.new wr _ _ _ rfl
      have hw8 := hbr.alloc hbr.size (.cells (Tk t).toArray 41)
      have hIB8 := IsB.later hIB (later1 wr (.cells (Tk t).toArray 41))
      obtain ⟨tk, ta, tn, ts⟩ := t
      have hsz := tk_sz ⟨tk, ta, tn, ts⟩
      have C0 := TokAt.blk b0
      have ck0 := b0.cell (j := 0) (v := .int .i64 tk) rfl
      have hgw : wr.heap.size ≠ w2.heap.size := by
        have hlt2 : w2.heap.size < wr.heap.size := by
          rcases hIB with h | h
          · exact h.lt
          · exact h.lt
        omega
      unfold TokAt at C0
      unfold Tk at cx b0 hw8 hsz C0 HSR hIB8 ck0
      simp only at cx b0 hw8 hsz C0 HSR hIB8 hnx ck0
      obtain ⟨b5, hb5⟩ : ∃ b5, decide (tk = 5) = b5 := ⟨_, rfl⟩
      have q5 : (tk == 5) = b5 := by rw [← hb5]; rfl
      rw [hb5] at hnx
      clear hb5
      have wk : IntKind.u8.wrap (k : Int) = k := by rw [IntKind.wrap_u8]; omega
      obtain ⟨m, hm⟩ : ∃ m, G k = m := ⟨_, rfl⟩
      rw [hm] at hnx
      obtain ⟨gp, hgp⟩ : ∃ g, Lx.gapS m b5 = g := ⟨_, rfl⟩
      have hgpl := Lx.gap_len m b5
      have HGP := Lib.hid fun w' (h : m < 256) => HGAP.out m b5 w' h
      rw [hgp] at HGP hnx hgpl
      obtain ⟨gz, hgz⟩ : ∃ z : ByteArray, (⟨gp.toArray⟩ : ByteArray) = z := ⟨_, rfl⟩
      have hgL : L gz = gp := by rw [← hgz, L_mk]
      have hgzs : gz.size ≤ 13 := by rw [← L_len, hgL]; exact hgpl
      rw [hgz] at HGP
      clear hgz hgp HGAP hgpl
      obtain ⟨acc, hac⟩ : ∃ acc, Lx.gapSrc G (l.take k) = acc := ⟨_, rfl⟩
      rw [hac] at hIB hIB8 hnx hlen
      clear hac hIB
      have HNX := Lib.hid hnx
      have hbl : (Lib.byteCells acc).length = acc.length := by unfold Lib.byteCells; rw [List.length_map]
      have HBW := Lib.hid fun w' (x : ByteArray) (h : Lib.IsBuilder 52 5 w2.heap.size w2.heap.size (Lib.byteCells acc) w') (hx : x.size ≤ 70013) (hB : w2.heap.size ≤ w'.heap.size) => bwrite_any w2.heap.size w2.heap.size (Lib.byteCells acc) x w' h (by rw [hbl]; omega) hB
      have hxl : ∀ x : ByteArray, L x = sr → x.size ≤ 70000 := fun x h => by rw [← L_len, h]; exact hsl
      have HXL := Lib.hid hxl
      clear hnx hbl hxl
      have hnl : (Lx.gapSrc G (l.take (k + 1))).length ≤ (k + 1) * 70013 := by
        rw [HNX.out, List.length_append, List.length_append, ← hgL, L_len]
        omega
      clear hsl hlen
      by_cases hz : n1 = 0
      · have hm256 : m < 256 := by
          rw [← hm, ← HG.out]; unfold gapNo; rw [if_pos (by rw [HGL.out]; exact hz)]; omega
        have hmk : (k : Int) = (m : Int) := by
          rw [← hm, ← HG.out]; unfold gapNo; rw [if_pos (by rw [HGL.out]; exact hz)]
        rw [← hmk] at HGP
        have d1 : decide ((0 : Int) < (n1 : Int)) = false := decide_eq_false (by omega)
        have g1 : ¬ (0 : Int) < (n1 : Int) := by omega
        clear hm hmk hz HGS HAG HGB
        go_wp2_with (first
          | (refine wpList_load_addr (o := ⟨some 32, .load 41 (.tmp 31), _, _, _, none⟩) rfl _ _ rfl (ad.add (k * 4)) [.int .i64 tk, .int .i64 ta, .int .i64 tn, .string ⟨ts.toArray⟩] _ rfl cx.out Tryd.underlying41 rfl hsz ?_))
        obtain ⟨w8, h8⟩ : ∃ x, wr.alloc (.cells #[.int .i64 tk, .int .i64 ta, .int .i64 tn, .string ⟨ts.toArray⟩] 41) = x := ⟨_, rfl⟩
        rw [h8] at hw8 C0 hIB8 ck0 b0 ⊢
        clear h8
        refine wp_region_held_drew (S := fun w' => w'.cell? ⟨wr.heap.size, 0, none⟩ = some (.int .i64 tk) ∧ ∀ j v, ([.int .i64 tk, .int .i64 ta, .int .i64 tn, .string ⟨ts.toArray⟩] : List Value)[j]? = some v → w'.cell? ((⟨wr.heap.size, 0, none⟩ : Addr).add j) = some v) (by kernel_rfl) ⟨ck0, C0⟩ (fun hHeld => ?_)
        refine wpAnyH_take (i := 0) (oi := ⟨some 45, .move (.tmp 10), _, _, _, none⟩) (v := .int .u8 (k : Int)) rfl (by kernel_rfl) (by kernel_rfl) (by kernel_rfl) (fun _ _ _ h => h) (Or.inl ⟨by rfl, fun _ _ => rfl⟩) hHeld ?_
        simp only [Act.put, List.setIfInBounds_toArray, List.set_cons_zero, List.set_cons_succ]
        refine wpAnyH_take (i := 1) (oi := ⟨some 46, .fieldAddr 41 (.tmp 9) 0, _, _, _, none⟩) (v := .pointer (some ⟨wr.heap.size, 0, none⟩)) rfl (by kernel_rfl) (by kernel_rfl) (by kernel_rfl) (fun _ _ _ h => h) (Or.inl ⟨by rfl, fun w _ => by go_simp⟩) hHeld ?_
        simp only [Act.put, List.setIfInBounds_toArray, List.set_cons_zero, List.set_cons_succ]
        refine wpAnyH_take (i := 2) (oi := ⟨some 47, .load 3 (.tmp 46), _, _, _, none⟩) (v := .int .i64 tk) rfl (by kernel_rfl) (by kernel_rfl) (by kernel_rfl) (fun _ _ _ h => h) (Or.inl ⟨by rfl, fun w hSw => by have e1 := hSw.1; clear hSw; go_simp⟩) hHeld ?_
        simp only [Act.put, List.setIfInBounds_toArray, List.set_cons_zero, List.set_cons_succ]
        refine wpAnyH_take (i := 3) (oi := ⟨some 48, .binOp .eql 3 (.tmp 47) (.const (.int .i64 5)) 3, _, _, _, none⟩) (v := .bool b5) rfl (by kernel_rfl) (by kernel_rfl) (by kernel_rfl) (fun _ _ _ h => h) (Or.inl ⟨by rfl, fun w _ => by go_simp⟩) hHeld ?_
        simp only [Act.put, List.setIfInBounds_toArray, List.set_cons_zero, List.set_cons_succ]
        refine wpAnyH_take (i := 5) (oi := ⟨some 50, .load 41 (.tmp 9), _, _, _, none⟩) (v := .agg #[.int .i64 tk, .int .i64 ta, .int .i64 tn, .string ⟨ts.toArray⟩]) rfl (by kernel_rfl) (by kernel_rfl) (by kernel_rfl) (fun _ _ _ h => h) (yieldsIf_load_addr (by rfl) _ _ rfl ⟨wr.heap.size, 0, none⟩ (by rfl) [.int .i64 tk, .int .i64 ta, .int .i64 tn, .string ⟨ts.toArray⟩] _ (fun w h => h.2) Tryd.underlying41 rfl hsz) hHeld ?_
        simp only [Act.put, List.setIfInBounds_toArray, List.set_cons_zero, List.set_cons_succ]
        refine wpAnyH_ready (rs := [4]) (by kernel_rfl) (by simp) (AllReadyH.cons (o := ⟨some 49, .call { callee := .value (.func 21), args := #[.tmp 45, .tmp 48], argTypes := #[5, 4] }, _, _, _, none⟩) rfl (fun K' hK => ?_) (AllReadyH.nil))
        go_simp
        (with_reducible refine (HGP.out _ hm256).mono ?_)
        rintro e v1 ⟨rfl, l1⟩
        have b1 := (Blk.drew b0).keep l1
        have SS := And.intro (b1.cell (j := 0) (v := .int .i64 tk) rfl) (TokAt.blk (t := ⟨tk, ta, tn, ts⟩) b1)
        unfold TokAt Tk at SS
        simp only at SS
        refine hK.out _ _ SS (fun hHeld => ?_)
        clear hK K'
        try simp only [Act.put, List.setIfInBounds_toArray, List.set_cons_zero, List.set_cons_succ]
        refine wpAnyH_ready (rs := [6]) (by kernel_rfl) (by simp) (AllReadyH.cons (o := ⟨some 51, .call { callee := .value (.func 22), args := #[.tmp 50], argTypes := #[41] }, _, _, _, none⟩) rfl (fun K' hK => ?_) (AllReadyH.nil))
        go_simp
        (with_reducible refine (HSR.out _).mono ?_)
        rintro e v2 ⟨x, rfl, hx, l2⟩
        have hxs := HXL.out x hx
        replace b1 := b1.keep l2
        replace SS := And.intro (b1.cell (j := 0) (v := .int .i64 tk) rfl) (TokAt.blk (t := ⟨tk, ta, tn, ts⟩) b1)
        unfold TokAt Tk at SS
        simp only at SS
        refine hK.out _ _ SS (fun hHeld => ?_)
        clear hK K'
        try simp only [Act.put, List.setIfInBounds_toArray, List.set_cons_zero, List.set_cons_succ]
        refine wpAnyH_take (i := 7) (oi := ⟨some 52, .binOp .add 9 (.tmp 49) (.tmp 51) 9, _, _, _, none⟩) (v := .string (gz ++ x)) rfl (by kernel_rfl) (by kernel_rfl) (by kernel_rfl) (fun _ _ _ h => h) (Or.inl ⟨by rfl, fun w _ => by go_simp <;> omega⟩) hHeld ?_
        simp only [Act.put, List.setIfInBounds_toArray, List.set_cons_zero, List.set_cons_succ]
        refine wpAnyH_ready (rs := [8]) (by kernel_rfl) (by simp) (AllReadyH.cons (o := ⟨some 53, .call { callee := .value (.func 20), args := #[.tmp 7, .tmp 52], argTypes := #[52, 9] }, _, _, _, none⟩) rfl (fun K' hK => ?_) (AllReadyH.nil))
        go_simp
        have hIB2 := IsB.later (IsB.later (w := w8.drew) hIB8 l1) l2
        have hl2 := Later.trans_ (Later.trans_ hw8.drew l1) l2
        have hcs : (gz ++ x).size ≤ 70013 := by rw [ByteArray.size_append]; omega
        (with_reducible refine (HBW.out _ (gz ++ x) hIB2 hcs hl2.size).mono ?_)
        rintro e v3 ⟨rfl, hIB3, hb3, hk3⟩
        replace b1 := hk3 _ _ _ hgw (by decide) b1
        replace SS := And.intro (b1.cell (j := 0) (v := .int .i64 tk) rfl) (TokAt.blk (t := ⟨tk, ta, tn, ts⟩) b1)
        unfold TokAt Tk at SS
        simp only at SS
        refine hK.out _ _ SS (fun hHeld => ?_)
        clear hK K'
        try simp only [Act.put, List.setIfInBounds_toArray, List.set_cons_zero, List.set_cons_succ]
        refine wpAnyH_done (by kernel_rfl) ?_ _
        clear hHeld
        try simp only [Act.put]
        go_wp2
        go_roundw
        case rel => exact ⟨k + 1, by omega, by go_num, by rw [HNX.out, ← hgL, ← hx, ← L_cat, byteCells_app]; exact .inr hIB3, hnl, hl2.trans hb3⟩
        case measure => first | (simp [intOf]; omega) | (simp [intOf]; done) | (simp; omega)
      · obtain ⟨a1, rfl⟩ := HAG.out (by omega)
        obtain ⟨q, hq⟩ : ∃ q, k % n1 = q := ⟨_, rfl⟩
        have hq1 : q < n1 := by rw [← hq]; exact Nat.mod_lt _ (by omega)
        have hql : q < gs.length := by rw [HGL.out]; exact hq1
        obtain ⟨x, hx⟩ : ∃ x, gs[q]'hql = x := ⟨_, rfl⟩
        have hxr := HGB.out x (by rw [← hx]; exact List.getElem_mem hql)
        have hmx : x = (m : Int) := by
          rw [← hm, ← HG.out]
          unfold gapNo
          rw [if_neg (by rw [HGL.out]; exact hz), HGL.out, hq, List.getD_eq_getElem?_getD, List.getElem?_eq_getElem hql, hx, Option.getD_some]
          omega
        have hm256 : m < 256 := by omega
        have cg : (wr.alloc (.cells #[.int .i64 tk, .int .i64 ta, .int .i64 tn, .string ⟨ts.toArray⟩] 41)).cell? (a1.add q) = some (.int .u8 (m : Int)) := by
          obtain ⟨ad', e', _, hc⟩ := (HGS.out _ (Later.trans_ lw hw8)).2 (by omega)
          cases e'
          refine hc q _ ?_
          rw [← hmx, ← hx]
          simp [U, hql]
        have t1 : (k : Int).tmod (n1 : Int) = (q : Int) := by rw [Int.tmod_eq_emod_of_nonneg (by omega), ← hq]; rfl
        have e1 : (k : Int) % (n1 : Int) = (q : Int) := by rw [← hq]; rfl
        have z1 : ¬ (n1 : Int) = 0 := by omega
        have z2 : ((n1 : Int) == 0) = false := beq_eq_false_iff_ne.2 (by omega)
        have q1 : (q : Int) < (n1 : Int) := by omega
        have d1 : decide ((0 : Int) < (n1 : Int)) = true := decide_eq_true (by omega)
        have g1 : (0 : Int) < (n1 : Int) := by omega
        clear hm hz HGS HAG HGB hq hx hxr hmx hql
        go_wp2_with (first
          | (refine wpList_load_addr (o := ⟨some 32, .load 41 (.tmp 31), _, _, _, none⟩) rfl _ _ rfl (ad.add (k * 4)) [.int .i64 tk, .int .i64 ta, .int .i64 tn, .string ⟨ts.toArray⟩] _ rfl cx.out Tryd.underlying41 rfl hsz ?_))
        clear cg
        obtain ⟨w8, h8⟩ : ∃ x, wr.alloc (.cells #[.int .i64 tk, .int .i64 ta, .int .i64 tn, .string ⟨ts.toArray⟩] 41) = x := ⟨_, rfl⟩
        rw [h8] at hw8 C0 hIB8 ck0 b0 ⊢
        clear h8
        refine wp_region_held_drew (S := fun w' => w'.cell? ⟨wr.heap.size, 0, none⟩ = some (.int .i64 tk) ∧ ∀ j v, ([.int .i64 tk, .int .i64 ta, .int .i64 tn, .string ⟨ts.toArray⟩] : List Value)[j]? = some v → w'.cell? ((⟨wr.heap.size, 0, none⟩ : Addr).add j) = some v) (by kernel_rfl) ⟨ck0, C0⟩ (fun hHeld => ?_)
        refine wpAnyH_take (i := 0) (oi := ⟨some 45, .move (.tmp 10), _, _, _, none⟩) (v := .int .u8 (m : Int)) rfl (by kernel_rfl) (by kernel_rfl) (by kernel_rfl) (fun _ _ _ h => h) (Or.inl ⟨by rfl, fun _ _ => rfl⟩) hHeld ?_
        simp only [Act.put, List.setIfInBounds_toArray, List.set_cons_zero, List.set_cons_succ]
        refine wpAnyH_take (i := 1) (oi := ⟨some 46, .fieldAddr 41 (.tmp 9) 0, _, _, _, none⟩) (v := .pointer (some ⟨wr.heap.size, 0, none⟩)) rfl (by kernel_rfl) (by kernel_rfl) (by kernel_rfl) (fun _ _ _ h => h) (Or.inl ⟨by rfl, fun w _ => by go_simp⟩) hHeld ?_
        simp only [Act.put, List.setIfInBounds_toArray, List.set_cons_zero, List.set_cons_succ]
        refine wpAnyH_take (i := 2) (oi := ⟨some 47, .load 3 (.tmp 46), _, _, _, none⟩) (v := .int .i64 tk) rfl (by kernel_rfl) (by kernel_rfl) (by kernel_rfl) (fun _ _ _ h => h) (Or.inl ⟨by rfl, fun w hSw => by have e1 := hSw.1; clear hSw; go_simp⟩) hHeld ?_
        simp only [Act.put, List.setIfInBounds_toArray, List.set_cons_zero, List.set_cons_succ]
        refine wpAnyH_take (i := 3) (oi := ⟨some 48, .binOp .eql 3 (.tmp 47) (.const (.int .i64 5)) 3, _, _, _, none⟩) (v := .bool b5) rfl (by kernel_rfl) (by kernel_rfl) (by kernel_rfl) (fun _ _ _ h => h) (Or.inl ⟨by rfl, fun w _ => by go_simp⟩) hHeld ?_
        simp only [Act.put, List.setIfInBounds_toArray, List.set_cons_zero, List.set_cons_succ]
        refine wpAnyH_take (i := 5) (oi := ⟨some 50, .load 41 (.tmp 9), _, _, _, none⟩) (v := .agg #[.int .i64 tk, .int .i64 ta, .int .i64 tn, .string ⟨ts.toArray⟩]) rfl (by kernel_rfl) (by kernel_rfl) (by kernel_rfl) (fun _ _ _ h => h) (yieldsIf_load_addr (by rfl) _ _ rfl ⟨wr.heap.size, 0, none⟩ (by rfl) [.int .i64 tk, .int .i64 ta, .int .i64 tn, .string ⟨ts.toArray⟩] _ (fun w h => h.2) Tryd.underlying41 rfl hsz) hHeld ?_
        simp only [Act.put, List.setIfInBounds_toArray, List.set_cons_zero, List.set_cons_succ]
        refine wpAnyH_ready (rs := [4]) (by kernel_rfl) (by simp) (AllReadyH.cons (o := ⟨some 49, .call { callee := .value (.func 21), args := #[.tmp 45, .tmp 48], argTypes := #[5, 4] }, _, _, _, none⟩) rfl (fun K' hK => ?_) (AllReadyH.nil))
        go_simp
        (with_reducible refine (HGP.out _ hm256).mono ?_)
        rintro e v1 ⟨rfl, l1⟩
        have b1 := (Blk.drew b0).keep l1
        have SS := And.intro (b1.cell (j := 0) (v := .int .i64 tk) rfl) (TokAt.blk (t := ⟨tk, ta, tn, ts⟩) b1)
        unfold TokAt Tk at SS
        simp only at SS
        refine hK.out _ _ SS (fun hHeld => ?_)
        clear hK K'
        try simp only [Act.put, List.setIfInBounds_toArray, List.set_cons_zero, List.set_cons_succ]
        refine wpAnyH_ready (rs := [6]) (by kernel_rfl) (by simp) (AllReadyH.cons (o := ⟨some 51, .call { callee := .value (.func 22), args := #[.tmp 50], argTypes := #[41] }, _, _, _, none⟩) rfl (fun K' hK => ?_) (AllReadyH.nil))
        go_simp
        (with_reducible refine (HSR.out _).mono ?_)
        rintro e v2 ⟨x, rfl, hx, l2⟩
        have hxs := HXL.out x hx
        replace b1 := b1.keep l2
        replace SS := And.intro (b1.cell (j := 0) (v := .int .i64 tk) rfl) (TokAt.blk (t := ⟨tk, ta, tn, ts⟩) b1)
        unfold TokAt Tk at SS
        simp only at SS
        refine hK.out _ _ SS (fun hHeld => ?_)
        clear hK K'
        try simp only [Act.put, List.setIfInBounds_toArray, List.set_cons_zero, List.set_cons_succ]
        refine wpAnyH_take (i := 7) (oi := ⟨some 52, .binOp .add 9 (.tmp 49) (.tmp 51) 9, _, _, _, none⟩) (v := .string (gz ++ x)) rfl (by kernel_rfl) (by kernel_rfl) (by kernel_rfl) (fun _ _ _ h => h) (Or.inl ⟨by rfl, fun w _ => by go_simp <;> omega⟩) hHeld ?_
        simp only [Act.put, List.setIfInBounds_toArray, List.set_cons_zero, List.set_cons_succ]
        refine wpAnyH_ready (rs := [8]) (by kernel_rfl) (by simp) (AllReadyH.cons (o := ⟨some 53, .call { callee := .value (.func 20), args := #[.tmp 7, .tmp 52], argTypes := #[52, 9] }, _, _, _, none⟩) rfl (fun K' hK => ?_) (AllReadyH.nil))
        go_simp
        have hIB2 := IsB.later (IsB.later (w := w8.drew) hIB8 l1) l2
        have hl2 := Later.trans_ (Later.trans_ hw8.drew l1) l2
        have hcs : (gz ++ x).size ≤ 70013 := by rw [ByteArray.size_append]; omega
        (with_reducible refine (HBW.out _ (gz ++ x) hIB2 hcs hl2.size).mono ?_)
        rintro e v3 ⟨rfl, hIB3, hb3, hk3⟩
        replace b1 := hk3 _ _ _ hgw (by decide) b1
        replace SS := And.intro (b1.cell (j := 0) (v := .int .i64 tk) rfl) (TokAt.blk (t := ⟨tk, ta, tn, ts⟩) b1)
        unfold TokAt Tk at SS
        simp only at SS
        refine hK.out _ _ SS (fun hHeld => ?_)
        clear hK K'
        try simp only [Act.put, List.setIfInBounds_toArray, List.set_cons_zero, List.set_cons_succ]
        refine wpAnyH_done (by kernel_rfl) ?_ _
        clear hHeld
        try simp only [Act.put]
        go_wp2
        go_roundw
        case rel => exact ⟨k + 1, by omega, by go_num, by rw [HNX.out, ← hgL, ← hx, ← L_cat, byteCells_app]; exact .inr hIB3, hnl, hl2.trans hb3⟩
        case measure => first | (simp [intOf]; omega) | (simp [intOf]; done) | (simp; omega)
    · have hkn : k = n := by omega
      rw [List.take_of_length_le (by omega)] at hIB
      obtain ⟨Src, hSrc⟩ : ∃ x, Lx.gapSrc G l = x := ⟨_, rfl⟩
      have HGT := Lib.hid fun (h : Src.length ≤ 16384) => Lx.gap_tokens G (l := l) HR.out (by rw [hSrc]; exact h)
      rw [hSrc] at hIB HGT
      rw [hkn] at hlen
      clear hlen hSrc HSRC HGAP HAD HAG HGB HGS HR
      have hbl : (Lib.byteCells Src).length = Src.length := by unfold Lib.byteCells; rw [List.length_map]
      have HLN := Lib.hid (Tryd.Builder_Len w2.heap.size w2.heap.size (Lib.byteCells Src) wr hIB)
      have HST := Lib.hid (Tryd.Builder_String_any w2.heap.size w2.heap.size Src wr hIB hbr.size)
      rw [hbl] at HLN
      clear hIB hbl
      have lw3 := Later.trans_ lw hbr
      by_cases hgt : Src.length ≤ 16384
      · obtain ⟨r, hr1, hr2⟩ := HGT.out hgt
        have hrl : r.length = n := by have := congrArg List.length hr2; rw [List.length_map, List.length_map] at this; omega
        have HTK : Hid (∀ w' : World, Calls Tryd.prog 10 #[.string ⟨Src.toArray⟩] w' fun e w'' => ∃ A c, e = .returned (.tuple #[.slice A n c, .agg #[.int .i64 0, .int .i64 0]]) ∧ Sl w'' 4 A n (Tks r) ∧ Later w' w'') := Lib.hid fun w' => by
          have k := tokens_any ⟨Src.toArray⟩ w'
          rw [L_mk, hr1] at k
          refine k.mono ?_
          rintro e w'' ⟨A, m, c, rfl, hm, _, _, hs, l1⟩
          have hm2 : m = n := by rw [← hrl]; exact hm.symm
          subst hm2
          exact ⟨A, c, rfl, hs, l1⟩
        have HR2 := Lib.hid hr2
        have HRL := Lib.hid hrl
        have d1 : decide ((16384 : Int) < (Src.length : Int)) = false := decide_eq_false (by omega)
        have g1 : ¬ (16384 : Int) < (Src.length : Int) := by omega
        clear hgt HGT hr1 hr2 hrl
        go_wp2_with (first
          | (go_at_call 23; (with_reducible refine (HLN.out).mono ?_); rintro e w4 ⟨rfl, hw4⟩; rw [hw4]; clear hw4 w4)
          | (go_at_call 24; (with_reducible refine (HST.out).mono ?_); rintro e w5 ⟨rfl, l5⟩; have lw5 := lw3.trans (l5.mono lw.size))
          | (go_at_call 10; (with_reducible refine (HTK.out _).mono ?_); rintro e w6 ⟨A6, c6, rfl, s6, l6⟩; have b6 := Blk.new w6 26 #[.int .i64 0, .int .i64 0] [.int .i64 0, .int .i64 0] rfl; have lw6 := Later.trans_ (Later.trans_ lw5 l6) (later1 w6 (.cells #[.int .i64 0, .int .i64 0] 26)); replace s6 := s6.keep (later1 w6 (.cells #[.int .i64 0, .int .i64 0] 26)))
          | (go_at_call 9; refine (HN.out _ lw6).mono ?_; rintro e w7 ⟨rfl, l7⟩; have lw7 := Later.trans_ lw6 l7; replace b6 := b6.keep l7; replace s6 := s6.keep l7; have c61 := b6.cell (j := 1) (v := .int .i64 0) rfl)
          | (go_at_call 14; (with_reducible refine (same_any A6 A n c6 c r l true _ s6 (HS.out _ lw7) HRL.out hll (by omega) (fun h => by cases h) (fun _ => HR2.out)).mono ?_); rintro e w8 ⟨rfl, l8⟩; clear c61; have lw8 := Later.trans_ lw7 l8))
        go_ret
        exact ⟨rfl, lw8⟩
      · have d1 : decide ((16384 : Int) < (Src.length : Int)) = true := decide_eq_true (by omega)
        have g1 : (16384 : Int) < (Src.length : Int) := by omega
        clear hgt HGT HST
        go_wp2_with (first
          | (go_at_call 23; (with_reducible refine (HLN.out).mono ?_); rintro e w4 ⟨rfl, hw4⟩; rw [hw4]; clear hw4 w4)
          | (go_at_call 9; refine (HN.out _ lw3).mono ?_; rintro e w7 ⟨rfl, l7⟩; have lw7 := Later.trans_ lw3 l7))
        go_ret
        exact ⟨rfl, lw7⟩
theorem space_all (A : Option Addr) (n c : Nat) (l : List Lx.Tok) (A1 : Option Addr) (n1 c1 : Nat) (gs : Wm.Bs) (w : World) (hs : Sl w 4 A n (Tks l)) (hll : l.length = n) (hn : n ≤ maxLen) (hg : Sl w 1 A1 n1 (U gs)) (hgb : Wm.isBs gs) (hn1 : n1 ≤ maxLen) (tab : Tab10 w) :
    Calls Tryd.prog 6 #[.slice A n c, .slice A1 n1 c1] w fun e w' => e = .returned (.bool true) ∧ Later w w' := by
  cases h : fewB l with
  | false => exact space_no A n c l A1 n1 c1 w hs hll hn (.inl h) tab
  | true =>
    by_cases h2 : (Lx.Print l).2 = 0
    · exact space_main A n c l A1 n1 c1 gs w hs hll hn hg hgb hn1 h h2 tab
    · exact space_no A n c l A1 n1 c1 w hs hll hn (.inr ⟨h, h2⟩) tab

set_option maxRecDepth 100000 in
theorem lexerForgetsSpace_contract (H : Type) (enc : TypeId × Value → H) (W : World) (base : Nat) (args : Array Value) (ds gs : List (DataW H)) (before : List MemPlace)
    (hval : ∀ (j : Nat) t v, Tryd.f6.params[j]? = some t → args[j]? = some v → Value.okWide Tryd.prog W .any base t v)
    (hW : DataW.Whole enc Tryd.prog Tryd.f6.params.toList Rows.lexerForgetsSpaceSpec.vars false W args.toList ds gs before) (hL : laidMetH Tryd.prog Rows.lexerForgetsSpaceRow.laid W) :
    Calls Tryd.prog 6 args W fun e W' => ∃ v, e = .returned v ∧ Rows.lexerForgetsSpaceSpec.post enc Tryd.prog Tryd.f6 false true false false W args v W' := by
  have hW' := hW
  have tab : Tab10 W := tab10_of hL
  obtain ⟨p, q, hA0, hV, rfl, _, _⟩ := hW
  have hA : DataW.TrodAll enc Tryd.prog W 0 (fun _ => true) true Tryd.f6.params.toList args.toList ds p := hA0
  rw [Tryd.params6] at hA hval
  obtain ⟨v0, vs0, d0, ds0, p0, q0, hargs, rfl, rfl, h0, r0⟩ := trodAll_cons hA
  obtain ⟨v1, vs1, d1, ds1, p1, q1, rfl, rfl, rfl, h1, r1⟩ := trodAll_cons r0
  obtain ⟨rfl, rfl, rfl⟩ := trodAll_nil r1
  obtain rfl : args = #[v0, v1] := by cases args; simp_all
  obtain ⟨rfl, rfl⟩ := trodVars_none hV
  obtain ⟨A0, n0, c0, l0, rfl, x0, y0, s0, z0⟩ := tokens_arg Tryd.underlying23 Tryd.underlying41 rfl rfl rfl rfl Tryd.underlying3 Tryd.underlying3 Tryd.underlying3 Tryd.underlying9 (by kernel_rfl) (by kernel_rfl) (by kernel_rfl) (by kernel_rfl) (by kernel_rfl) (hval 0 23 v0 rfl rfl) h0
  obtain ⟨A1, n1, c1, b1, rfl, x1, y1, s1, z1⟩ := bytes_arg Tryd.underlying49 Tryd.underlying5 (by kernel_rfl) (hval 1 49 v1 rfl rfl) h1
  clear hA0
  simp only [List.append_nil] at hW'
  refine (space_all A0 n0 c0 l0 A1 n1 c1 b1 W s0 z0 (Nat.le_trans x0 y0) s1 z1 (Nat.le_trans x1 y1) tab).mono fun e W' ⟨he, hw⟩ => ?_
  subst he
  exact ⟨_, rfl, law_post laidK rfl (by kernel_rfl) (by kernel_rfl) Tryd.underlying4 (by kernel_rfl) hW' rfl hw⟩
set_option maxRecDepth 100000 in
theorem lexerForgetsSpace_met (os : Os) : laidMet Tryd.prog Rows.lexerForgetsSpaceRow.laid ((laidWorld os).forCall (fun _ _ => 0) ⟨#[], #[.slice none 0 0, .slice none 0 0], []⟩).memory :=
  laidMet_of_run' 8 (by kernel_rfl) (by kernel_rfl)
set_option maxRecDepth 100000 in
theorem lexerForgetsSpace_reads (os : Os) {H : Type} (enc : TypeId × Value → H) : ∃ places, DataW.whole enc Tryd.prog ((laidWorld os).forCall (fun _ _ => 0) ⟨#[], #[.slice none 0 0, .slice none 0 0], []⟩).memory Tryd.f6.params.toList Rows.lexerForgetsSpaceSpec.vars false (#[.slice none 0 0, .slice none 0 0] : Array Value).toList 8 = some ([.nil, .nil], [], places) :=
  ⟨[], by kernel_rfl⟩

set_option maxRecDepth 100000 in
theorem lexerForgetsSpace_lifted (os : Os) (started : os.Started) (H : Type) (enc : TypeId × Value → H) (F : Stop.Interp) :
    ReturnsInHanded {} Tryd.checked os 6 .any ((OpenSpec.ofChange Rows.lexerForgetsSpaceSpec).preRow enc Tryd.prog Tryd.f6 Rows.lexerForgetsSpaceRow.domain false Rows.lexerForgetsSpaceRow.laid) (((OpenSpec.ofChange Rows.lexerForgetsSpaceSpec).at F).post enc Tryd.prog Tryd.f6 false true false false) := by
  obtain ⟨places, hx⟩ := lexerForgetsSpace_reads os enc
  refine returnsInHanded_of_row (C := Tryd.checked) (s := OpenSpec.ofChange Rows.lexerForgetsSpaceSpec) ownK started (by kernel_rfl) Tryd.func6
    (witness_row_at (enc := enc) (C := Tryd.checked) false (laidWorld os) #[.slice none 0 0, .slice none 0 0] rfl (by kernel_rfl) (by kernel_rfl) (by kernel_rfl)
      (OpenSpec.preRow_of_cond 8 hx (by kernel_rfl) (fun k hk => by cases hk) (by kernel_rfl) (lexerForgetsSpace_met os))) ?_
  intro W base args ds gs before hval hW _ _ _ hL _ _
  exact lexerForgetsSpace_contract H enc W base args ds gs before hval hW hL

set_option maxRecDepth 100000 in
theorem lexerForgetsSpace_said : Rows.LexerForgetsSpaceSaid :=
  OpenClaim.holds_of_cond 6 Tryd.f6 rfl rfl rfl rfl rfl rfl rfl ⟨rfl, rfl, rfl, rfl, rfl⟩ rfl rfl rfl rfl rfl (by kernel_rfl) Tryd.func6 (by kernel_rfl)
    (of_decide_eq_true (by kernel_rfl)) (by unfold Func.isWrapper; first | (rw [if_pos (by decide +kernel)]; kernel_rfl) | (rw [if_neg (by decide +kernel)]; exact ⟨rfl, rfl⟩))
    (fun os started H enc _ F => by rw [OpenClaim.pre_eq_preRow]; exact lexerForgetsSpace_lifted os started H enc F)

set_option maxRecDepth 100000 in
theorem lexerForgetsSpace_plain (f : FuncId) (fn : Func) (hf : Tryd.pinned.checked.prog.funcNamed "simulacrum/simulacrumlaw07.LexerForgetsSpace" = some f) (hfn : Tryd.pinned.checked.prog.funcs[f]? = some fn) :
    false = Tryd.pinned.checked.prog.looks [] ∧ ∀ (j : Nat) t, fn.params[j]? = some t → Tryd.pinned.checked.prog.wantsStandIn t = false := by
  obtain rfl : f = 6 := Option.some.inj ((show Tryd.prog.funcNamed "simulacrum/simulacrumlaw07.LexerForgetsSpace" = some 6 by kernel_rfl).symm.trans hf) |>.symm
  obtain rfl : fn = Tryd.f6 := (Option.some.inj (Tryd.func6.symm.trans hfn)).symm
  refine ⟨by kernel_rfl, fun j t ht => ?_⟩
  exact wants_none 6 Tryd.f6.params (by kernel_rfl) j t ht

set_option maxRecDepth 100000 in
/-- The card. -/
theorem lexerForgetsSpace_card : Rows.LexerForgetsSpaceCardSaid :=
  Claim7.holds_tied_plain_at .later [] _ _ _ _ lexerForgetsSpace_said (fun _ h => by cases h) (by kernel_rfl) (fun _ h => by cases h) lexerForgetsSpace_row_tie rfl ⟨rfl, rfl⟩ (by kernel_rfl) rfl lexerForgetsSpace_plain (by kernel_rfl)
#print axioms lexerForgetsSpace_card

end Go.Proofs.YtjopadfkdpcjmaaDoor
