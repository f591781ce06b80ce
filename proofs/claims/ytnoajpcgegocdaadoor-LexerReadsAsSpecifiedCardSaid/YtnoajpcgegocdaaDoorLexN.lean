/-
  THE WALK OF the reference's Tokens.
-/
import Derived.Test.YtnoajpcgegocdaaDoorLexM
namespace Go.Proofs.YtnoajpcgegocdaaDoor
open Go.RowKit Go.ChangeShapes Go.WideShapes Go.ChangeAt

/-- What the reference's Tokens answers. -/
def GotRead (r : List Lx.Tok × Nat × Int) (w : World) (e : Ending) (w' : World) : Prop :=
  ∃ A n c, e = .returned (.agg #[.slice A n c, .int .i64 r.2.1, .int .i64 r.2.2]) ∧ r.1.length = n ∧ n ≤ c ∧ c ≤ maxLen ∧ Sl w' 4 A n (Tks r.1) ∧ Later w w'
def Rd (v : Value) (a e : Int) : List Value := [v, .int .i64 a, .int .i64 e]
theorem rd_sz (v : Value) (a e : Int) : (Tryd.prog.info? 30).map (·.size) = some (Rd v a e).length := by kernel_rfl
theorem rd_one (A : Option Addr) (n c : Nat) (a e : Int) : ∀ v ∈ Rd (.slice A n c) a e, v.oneCell' = true := by
  intro v hv
  simp only [Rd, List.mem_cons, List.not_mem_nil, or_false] at hv
  rcases hv with rfl | rfl | rfl <;> rfl
theorem rest_step {l : Lx.Str} {q : Nat} (h : q < l.length) (hn : l[q] ≠ 10) : Lx.rest (l.drop q) = Lx.rest (l.drop (q + 1)) + 1 := by
  rw [Lx.drop_at h]
  unfold Lx.rest
  rw [List.takeWhile_cons, if_pos (by simpa using hn)]; rfl
theorem rest_stop {l : Lx.Str} {q : Nat} (h : q < l.length) (hn : l[q] = 10) : Lx.rest (l.drop q) = 0 := by
  rw [Lx.drop_at h]
  unfold Lx.rest
  rw [List.takeWhile_cons, hn, if_neg (by decide)]; rfl

set_option maxRecDepth 100000 in
theorem rtokens_long (s : ByteArray) (w : World) (hs : 16384 < s.size) : Calls Tryd.prog 11 #[.string s] w (GotRead ([], 16384, 2) w) := by
  go_enter Tryd.func11, Tryd.ntmps11
  go_wp2
  exact bodyPost_ret (v := .agg (Rd (.slice none 0 0) 16384 2).toArray) (results_blk Tryd.results11 _ _ w.heap.size 30 (Rd (.slice none 0 0) 16384 2) _ rfl (Blk.new w _ _ _ rfl) Tryd.underlying30 rfl (rd_sz _ _ _)) rfl ⟨none, 0, 0, rfl, rfl, Nat.le_refl _, Nat.zero_le _, Sl.nil _ _ _, later1 _ _⟩

set_option maxRecDepth 100000 in
set_option maxHeartbeats 4000000 in
theorem rtokens_short (s : ByteArray) (w : World) (hs : s.size ≤ 16384) : Calls Tryd.prog 11 #[.string s] w (GotRead (Lx.toks 0 (L s)) w) := by
  obtain ⟨i0, hi, hz0, hz1, hz2⟩ := info_parts tk_info
  have hlen := L_len s
  have hst := Lx.Going.start (L s)
  obtain ⟨fin, hfin⟩ : ∃ fin, Lx.toks 0 (L s) = fin := ⟨_, rfl⟩
  rw [hfin] at hst ⊢
  clear hfin
  have HS := Lib.hid hst
  clear hst
  go_enter Tryd.func11, Tryd.ntmps11
  go_wp2
  obtain ⟨w2, hw2⟩ : ∃ x, w.alloc (.cells #[.slice none 0 0, .int .i64 0, .int .i64 0] 30) = x := ⟨_, rfl⟩
  have bP : Blk w2 w.heap.size 30 (Rd (.slice none 0 0) 0 0) := hw2 ▸ Blk.new w _ _ _ rfl
  have lw : Later w w2 := hw2 ▸ later1 w _
  rw [hw2]
  clear hw2
  go_loopw [3, 4] (fun s3 s4 wx => ∃ (p : Nat) (acc : List Lx.Tok), s4 = .int .i64 p ∧ Aside (Lx.Going (L s) p acc fin) ∧ p ≤ s.size ∧ acc.length ≤ p ∧ wx.ownsRow w2.heap.size 41 4 s3 acc.length (Tks acc) ∧ Later w2 wx) (fun _ s4 _ => s.size - (intOf s4).toNat)
  case atStart => exact ⟨0, [], rfl, HS.out, by omega, Nat.le_refl _, World.ownsRow_nil _ _ _ _, later0 _⟩
  case round =>
    obtain ⟨p, acc, rfl, hgo, hps, hal, hor, hbr⟩ := hrel
    rename_i wr
    clear HS
    by_cases hlt : p < s.size
    · have hpl : p < (L s).length := by omega
      obtain ⟨c, hc⟩ : ∃ c, s[p]'hlt = c := ⟨_, rfl⟩
      have hcl : (L s)[p]'hpl = c := by rw [← L_get s p hlt, hc]
      by_cases e1 : c.toNat = 32
      · have b1 : ((c.toNat : Int) == 32) = true := beq_iff_eq.2 (by omega)
        have hsp : Lx.spaceB c = true := by unfold Lx.spaceB; rw [decide_eq_true e1]; rfl
        have hg2 : Aside (Lx.Going (L s) (p + 1) acc fin) := Lx.Going.space hgo hpl (by rw [hcl]; exact hsp)
        clear hgo hsp e1 hcl
        go_wp2
        go_roundw
        case rel => exact ⟨p + 1, acc, by go_num, hg2, by omega, by omega, hor, hbr⟩
        case measure => simp [intOf]; omega
      have b1 : ((c.toNat : Int) == 32) = false := beq_eq_false_iff_ne.2 (by omega)
      by_cases e2 : c.toNat = 9
      · have b2 : ((c.toNat : Int) == 9) = true := beq_iff_eq.2 (by omega)
        have hsp : Lx.spaceB c = true := by unfold Lx.spaceB; rw [decide_eq_true e2, Bool.true_or, Bool.or_true]
        have hg2 : Aside (Lx.Going (L s) (p + 1) acc fin) := Lx.Going.space hgo hpl (by rw [hcl]; exact hsp)
        clear hgo hsp e1 e2 hcl
        go_wp2
        go_roundw
        case rel => exact ⟨p + 1, acc, by go_num, hg2, by omega, by omega, hor, hbr⟩
        case measure => simp [intOf]; omega
      have b2 : ((c.toNat : Int) == 9) = false := beq_eq_false_iff_ne.2 (by omega)
      by_cases e3 : c.toNat = 13
      · have b3 : ((c.toNat : Int) == 13) = true := beq_iff_eq.2 (by omega)
        have hsp : Lx.spaceB c = true := by unfold Lx.spaceB; rw [decide_eq_true e3, Bool.or_true, Bool.or_true]
        have hg2 : Aside (Lx.Going (L s) (p + 1) acc fin) := Lx.Going.space hgo hpl (by rw [hcl]; exact hsp)
        clear hgo hsp e1 e2 e3 hcl
        go_wp2
        go_roundw
        case rel => exact ⟨p + 1, acc, by go_num, hg2, by omega, by omega, hor, hbr⟩
        case measure => simp [intOf]; omega
      have b3 : ((c.toNat : Int) == 13) = false := beq_eq_false_iff_ne.2 (by omega)
      have hsp : Lx.spaceB c = false := by unfold Lx.spaceB; rw [decide_eq_false e1, decide_eq_false e2, decide_eq_false e3]; rfl
      clear e1 e2 e3
      by_cases h9 : c = 59
      · have hg2 : Aside (Lx.Going (L s) (p + (Lx.rest ((L s).drop (p + 1)) + 1)) acc fin) := Lx.Going.note hgo hpl (by rw [hcl]; exact hsp) (by rw [hcl]; exact h9)
        have b9 := ceqT (k := 59) h9 rfl
        have hrl := Lx.rest_le ((L s).drop (p + 1))
        rw [List.length_drop] at hrl
        have hrs := rest_step hpl (by rw [hcl, h9]; decide)
        obtain ⟨E, hE⟩ : ∃ E, p + (Lx.rest ((L s).drop (p + 1)) + 1) = E := ⟨_, rfl⟩
        rw [hE] at hg2
        have hEp : p < E ∧ E ≤ s.size := by omega
        have HE := Lib.hid (show p + Lx.rest ((L s).drop p) = E by omega)
        clear hrl hrs hE hgo hsp h9
        obtain ⟨wo, hwo⟩ : ∃ x, x = wr := ⟨_, rfl⟩
        subst hwo
        go_wp2
        go_loopw [4] (fun s4 wx => ∃ q : Nat, s4 = .int .i64 q ∧ p ≤ q ∧ q ≤ s.size ∧ q + Lx.rest ((L s).drop q) = E ∧ wx = wo) (fun s4 _ => s.size - (intOf s4).toNat)
        case atStart => exact ⟨p, rfl, Nat.le_refl _, by omega, HE.out, rfl⟩
        case round =>
          obtain ⟨q, rfl, hpq, hqs, hq, rfl⟩ := hrel
          by_cases hlq : q < s.size
          · have dl : decide ((q : Int) < (s.size : Int)) = true := decide_eq_true (by omega)
            have hql : q < (L s).length := by omega
            obtain ⟨x, hx⟩ : ∃ x, s[q]'hlq = x := ⟨_, rfl⟩
            have hxl : (L s)[q]'hql = x := by rw [← L_get s q hlq, hx]
            by_cases h10 : x = 10
            · have b10 := cneF (k := 10) h10 rfl
              have hr0 := rest_stop hql (by rw [hxl, h10])
              have hqE : q = E := by omega
              clear hq hr0 hxl h10
              subst hqE
              go_wp2
              go_roundw
              case rel => exact ⟨q, acc, rfl, hg2, by omega, by omega, hor, hbr⟩
              case measure => simp [intOf]; omega
            · have b10 := cneT (k := 10) h10 rfl
              have hr1 := rest_step hql (by rw [hxl]; exact h10)
              have HQ := Lib.hid (show q + 1 + Lx.rest ((L s).drop (q + 1)) = E by omega)
              clear hq hr1 hxl h10
              go_wp2
              go_roundw
              case rel => exact ⟨q + 1, by go_num, by omega, by omega, HQ.out, trivial⟩
              case measure => simp [intOf]; omega
          · have dl : decide ((q : Int) < (s.size : Int)) = false := decide_eq_false (by omega)
            have hqE : q = E := by rw [List.drop_eq_nil_of_le (by omega)] at hq; exact hq
            clear hq
            subst hqE
            go_wp2
            go_roundw
            case rel => exact ⟨q, acc, rfl, hg2, by omega, by omega, hor, hbr⟩
            case measure => simp [intOf]; omega
      · have b9 := ceqF (k := 59) h9 rfl
        have HT := Lib.hid fun w' => rtoken_any s p w' hlt (by omega)
        have hbad := Lx.Going.bad hgo hpl (by rw [hcl]; exact hsp) (by rw [hcl]; exact h9)
        have hnx := Lx.Going.next hgo hpl (by rw [hcl]; exact hsp) (by rw [hcl]; exact h9)
        have hok := Lx.tok1_ok c ((L s).drop (p + 1))
        have hcr : (L s).drop p = c :: (L s).drop (p + 1) := by rw [Lx.drop_at hpl, hcl]
        rw [← hcr] at hok
        obtain ⟨tok, n, ee, htk⟩ : ∃ tok n ee, Lx.tok1 ((L s).drop p) = (tok, n, ee) := ⟨_, _, _, rfl⟩
        rw [htk] at hok HT hbad hnx
        simp only [List.length_drop] at hok hbad hnx
        unfold rtokAns at HT
        simp only at HT
        clear hgo hsp h9 hcr htk hcl
        have bP2 := bP.keep hbr
        by_cases he : ee = 0
        · simp only [if_pos he] at HT
          have hg2 := Lib.hid (hnx he)
          have hn1 : 1 ≤ n ∧ n ≤ s.size - p := by omega
          clear hbad hnx hok he
          go_wp2_with (first
            | (go_at_call 29; refine (HT.out _).mono ?_; rintro e wE ⟨rfl, lE⟩; have hor1 := own_below hor lE; replace hbr := Later.trans_ hbr lE)
            | (refine wpList_store_abs (o := ⟨none, .store 78 (.tmp 5) (.tmp 51), _, _, _, none⟩) rfl _ _ _ rfl wE.heap.size 78 (Pc Lx.Tok.zero 0 0) (Pc { tok with at_ := (p : Int) } ((p + n : Nat) : Int) 0) rfl rfl (Blk.new wE _ _ _ rfl) (pc_sz _ _ _) rfl (pc_one _ _ _) ?_; intro wF y1 y2; have cF := y1.cell (j := 5) (v := .int .i64 0) rfl; have lF : Later wE wF := Below.only (later1 wE _) y2 (Nat.le_refl _); have hor2 := own_below hor1 lF; replace hbr := Later.trans_ hbr lF)
            | (refine wpList_load_at (o := ⟨some 62, .load 41 (.tmp 61), _, _, _, none⟩) rfl _ _ rfl wE.heap.size 0 4 78 _ [.int .i64 tok.kind, .int .i64 (p : Int), .int .i64 tok.n, .string ⟨tok.s.toArray⟩] _ rfl y1 rfl Tryd.underlying41 rfl (tk_sz { tok with at_ := (p : Int) }) ?_)
            | (at_builtin; refine wpList_append_own _ rfl _ _ 23 rfl w2.heap.size 41 i0 (.agg #[.int .i64 0, .int .i64 0, .int .i64 0, .string ⟨#[]⟩]) 4 40 Tryd.underlying23 hi hz0 hz1 hz2 rfl (by decide) _ _ _ rfl (hor2.alloc _) ⟨wF.heap.size, 0, none⟩ 1 1 [.int .i64 tok.kind, .int .i64 (p : Int), .int .i64 tok.n, .string ⟨tok.s.toArray⟩] rfl rfl (fun j u hu => World.news_of_block (heap_alloc_new wF _) j u hu) (tk_one { tok with at_ := (p : Int) }) (by unfold maxLen; omega) (by omega) (by have := hbr.size; simp; omega) ?_; intro v' w5 hown' hgrow _; have hnb : ∀ g, Value.ownBlock _ = some g → g ≠ wE.heap.size := (fun g e => Nat.ne_of_lt (hor1.lt g e).2); have y3 := (y1.alloc (.cells #[.int .i64 tok.kind, .int .i64 (p : Int), .int .i64 tok.n, .string ⟨tok.s.toArray⟩] 41)); have cG : w5.cell? ⟨wE.heap.size, 4, none⟩ = some (.int .i64 ((p + n : Nat) : Int)) := by { have hh := hgrow.block wE.heap.size y3.lt (fun e => hnb _ e.symm rfl); unfold World.cell?; rw [hh]; exact y3.cell (j := 4) rfl }))
          have ho2 := own_snocT (t := { tok with at_ := (p : Int) }) hown'
          have hb3 : Later w2 w5 := (hbr.alloc hbr.size _).grown hgrow (by have := hbr.size; simp; omega) (fun j hj => (hor2.lt j hj).1)
          clear hown' hgrow hor hor1 hor2
          go_wp2
          go_roundw
          case rel => exact ⟨p + n, acc ++ [{ tok with at_ := (p : Int) }], by go_num, (show Aside (Lx.Going (L s) (p + n) (acc ++ [{ tok with at_ := (p : Int) }]) fin) from hg2.out), by omega, by simp; omega, ho2, hb3⟩
          case measure => simp [intOf]; omega
        · simp only [if_neg he] at HT
          have HF := Lib.hid (hbad he)
          have e0 : (ee != 0) = true := bne_iff_ne.2 he
          clear hbad hnx hok he
          go_wp2_with (first
            | (go_at_call 29; refine (HT.out _).mono ?_; rintro e wE ⟨rfl, lE⟩; replace bP2 := bP2.keep lE; replace hbr := Later.trans_ hbr lE)
            | (refine wpList_store_abs (o := ⟨none, .store 78 (.tmp 5) (.tmp 51), _, _, _, none⟩) rfl _ _ _ rfl wE.heap.size 78 (Pc Lx.Tok.zero 0 0) (Pc Lx.Tok.zero 0 ee) rfl rfl (Blk.new wE _ _ _ rfl) (pc_sz _ _ _) rfl (pc_one _ _ _) ?_; intro wF y1 y2; have cF := y1.cell (j := 5) (v := .int .i64 ee) rfl; have hwE := bP2.lt; replace bP2 := (bP2.alloc (.cells (Pc Lx.Tok.zero 0 0).toArray 78)).only y2 (by omega); replace hbr := Below.only (hbr.alloc hbr.size (.cells (Pc Lx.Tok.zero 0 0).toArray 78)) y2 hbr.size)
            | (refine wpList_store_abs (o := ⟨none, .store 30 (.tmp 2) (.tmp 59), _, _, _, none⟩) rfl _ _ _ rfl w.heap.size 30 _ (Rd (.slice none 0 0) p ee) rfl rfl bP2 (rd_sz _ _ _) rfl (rd_one _ _ _ _ _) ?_; intro w6 y3 y4))
          rw [HF.out]
          exact bodyPost_ret (v := .agg (Rd (.slice none 0 0) p ee).toArray) (results_blk Tryd.results11 _ _ w.heap.size 30 _ _ rfl y3 Tryd.underlying30 rfl (rd_sz _ _ _)) rfl ⟨none, 0, 0, rfl, rfl, Nat.le_refl _, Nat.zero_le _, Sl.nil _ _ _, Below.only (Later.trans_ lw hbr) y4 (Nat.le_refl _)⟩
    · have hpe : p = s.size := by omega
      have hf := Lx.Going.end_ hgo (by omega)
      have HF := Lib.hid hf
      have bP2 := bP.keep hbr
      clear hf hgo
      obtain ⟨A, c2, rfl, hc2, hc3, _, _⟩ := own_form hor
      go_wp2_with (refine wpList_store_abs (o := ⟨none, .store 30 (.tmp 2) (.tmp 68), _, _, _, none⟩) rfl _ _ _ rfl w.heap.size 30 _ (Rd (.slice A acc.length c2) 0 0) rfl rfl bP2 (rd_sz _ _ _) rfl (rd_one _ _ _ _ _) ?_; intro w3 y1 y2)
      have hlt2 := bP.lt
      have hor3 := own_only hor y2 (fun g e => by have := (hor.lt g e).1; omega)
      rw [HF.out]
      exact bodyPost_ret (v := .agg (Rd (.slice A acc.length c2) 0 0).toArray) (results_blk Tryd.results11 _ _ w.heap.size 30 _ _ rfl y1 Tryd.underlying30 rfl (rd_sz _ _ _)) rfl ⟨A, acc.length, c2, rfl, rfl, hc2, hc3, Sl.own hor3, Below.only (Later.trans_ lw hbr) y2 (Nat.le_refl _)⟩

theorem rtokens_any (s : ByteArray) (w : World) : Calls Tryd.prog 11 #[.string s] w (GotRead (Lx.Tokens (L s)) w) := by
  unfold Lx.Tokens
  rw [L_len]
  by_cases h : s.size ≤ 16384
  · rw [if_pos h]; exact rtokens_short s w h
  · rw [if_neg h]; exact rtokens_long s w (by omega)
end Go.Proofs.YtnoajpcgegocdaaDoor
