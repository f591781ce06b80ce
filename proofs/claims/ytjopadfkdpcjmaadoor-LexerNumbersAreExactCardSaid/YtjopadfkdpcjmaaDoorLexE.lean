/-
  THE WALK OF lexer.readText.
-/
import Derived.Test.YtjopadfkdpcjmaaDoorLexD
namespace Go.Proofs.YtjopadfkdpcjmaaDoor
open Go.RowKit Go.ChangeShapes Go.WideShapes Go.ChangeAt

/-- Bytes as numbers. -/
def Bn (l : Lx.Str) : Wm.Bs := l.map fun c => (c.toNat : Int)
theorem Bn_len (l : Lx.Str) : (Bn l).length = l.length := by simp [Bn]
theorem Bn_app (a b : Lx.Str) : Bn (a ++ b) = Bn a ++ Bn b := by simp [Bn]
theorem Bn_str (l : Lx.Str) : strOfNums (Bn l) = ⟨l.toArray⟩ := by
  unfold strOfNums Bn
  rw [List.map_map]
  congr 2
  refine Eq.trans (List.map_congr_left (g := id) fun c _ => ?_) (List.map_id _)
  simp
/-- Bytes as cells. -/
def Ub (l : Lx.Str) : List Value := U (Bn l)
theorem Ub_len (l : Lx.Str) : (Ub l).length = l.length := by rw [Ub, U_length, Bn_len]
theorem Ub_app (a b : Lx.Str) : Ub (a ++ b) = Ub a ++ Ub b := by rw [Ub, Bn_app, U_append]; rfl
theorem Ub_bytes (l : Lx.Str) : Ub l = Lib.byteCells l := by simp [Ub, U, Bn, Lib.byteCells]
theorem Ub_one (l : Lx.Str) : ∀ u ∈ Ub l, u.oneCell' = true := U_one _
theorem own_snocB {w : World} {B : Nat} {e : TypeId} {v : Value} {a b : Lx.Str} (h : w.ownsRow B e 1 v (a.length + b.length) (Ub a ++ Ub b)) : w.ownsRow B e 1 v (a ++ b).length (Ub (a ++ b)) := by
  rw [Ub_app, List.length_append]; exact h
theorem u8_info : (Tryd.prog.info? 5).map (fun i => (i.zero, i.size, i.bytes)) = some (some (.int .u8 0), 1, 1) := by kernel_rfl
/-- string(out). -/
theorem conv_own {w : World} {base n : Nat} {v : Value} {l : Lx.Str} (h : w.ownsRow base 5 1 v n (Ub l)) : ∃ A c, v = .slice A n c ∧ n ≤ c ∧ c ≤ maxLen ∧ (convert 49 9 (.slice A n c)).run Tryd.prog w = .ok (.string ⟨l.toArray⟩) w := by
  obtain ⟨A, c, rfl, h1, h2, h3, _⟩ := own_form h
  refine ⟨A, c, rfl, h1, h2, ?_⟩
  rw [run_str (P := Tryd.prog) 49 9 5 Tryd.underlying49 Tryd.underlying5 Tryd.underlying9 h3 c, Bn_str]

/-- HOW FAR A READER OF A TEXT HAS COME. -/
def TG (l : Lx.Str) (p : Nat) (acc : Lx.Str) (fin : Lx.Str × Nat) : Prop :=
  1 ≤ p ∧ p ≤ l.length ∧ ((Lx.text (l.drop p)).2 = 0 → fin.2 = 0) ∧ ((Lx.text (l.drop p)).2 ≠ 0 → fin.1 = acc ++ (Lx.text (l.drop p)).1 ∧ fin.2 + 1 = p + (Lx.text (l.drop p)).2)
section
variable {l acc : Lx.Str} {p : Nat} {fin : Lx.Str × Nat}
theorem TG.start (h : 0 < l.length) : TG l 1 [] (Lx.text (l.drop 1)) := ⟨Nat.le_refl _, h, id, fun _ => ⟨rfl, by omega⟩⟩
theorem TG.end_ (h : TG l p acc fin) (hp : l.length ≤ p) : fin.2 = 0 := h.2.2.1 (by rw [List.drop_eq_nil_of_le hp]; rfl)
theorem TG.quote (h : TG l p acc fin) (hp : p < l.length) (hq : l[p] = 34) : fin = (acc, p) := by
  have ht : Lx.text (l.drop p) = ([], 1) := by rw [Lx.drop_at hp, Lx.text_cons, if_pos hq]
  obtain ⟨h1, h2⟩ := h.2.2.2 (by rw [ht]; decide)
  rw [ht] at h1 h2
  simp only [List.append_nil] at h1 h2
  exact Prod.ext h1 (by simp only; omega)
theorem TG.bad (h : TG l p acc fin) (hp : p < l.length) (hq : l[p] ≠ 34) (hb : (Lx.part (l.drop p)).2 = 0) : fin.2 = 0 := by
  apply h.2.2.1
  rw [Lx.drop_at hp] at hb ⊢
  rw [Lx.text_cons, if_neg hq, if_pos hb]
theorem TG.next (h : TG l p acc fin) (hp : p < l.length) (hq : l[p] ≠ 34) (hb : (Lx.part (l.drop p)).2 ≠ 0) : TG l (p + (Lx.part (l.drop p)).2) (acc ++ [(Lx.part (l.drop p)).1]) fin := by
  have hs := Lx.part_size (l.drop p)
  rw [List.length_drop] at hs
  have ht : Lx.text (l.drop p) = if (Lx.text ((l.drop p).drop (Lx.part (l.drop p)).2)).2 = 0 then ([], 0) else ((Lx.part (l.drop p)).1 :: (Lx.text ((l.drop p).drop (Lx.part (l.drop p)).2)).1, (Lx.part (l.drop p)).2 + (Lx.text ((l.drop p).drop (Lx.part (l.drop p)).2)).2) := by
    rw [Lx.drop_at hp] at hb ⊢
    rw [Lx.text_cons, if_neg hq, if_neg hb]
  obtain ⟨h1, h2, h3, h4⟩ := h
  rw [ht, List.drop_drop] at h3 h4
  refine ⟨by omega, by omega, fun h0 => h3 (by rw [if_pos h0]), fun h0 => ?_⟩
  obtain ⟨h5, h6⟩ := h4 (by rw [if_neg h0]; simp only; omega)
  rw [if_neg h0] at h5 h6
  simp only at h5 h6
  refine ⟨by rw [h5, List.append_assoc]; rfl, by omega⟩
end
def textAns (l : Lx.Str) : Lx.Tok × Nat × Int := if (Lx.text l).2 = 0 then (Lx.Tok.zero, 0, 72) else (⟨3, 0, 0, (Lx.text l).1⟩, (Lx.text l).2 + 1, 0)

set_option maxRecDepth 100000 in
set_option maxHeartbeats 1000000 in
theorem readText_any (s : ByteArray) (w : World) (h0 : 0 < s.size) (hs : s.size ≤ 1000000) : Calls Tryd.prog 45 #[.string s] w fun e w' => e = .returned (ans (textAns ((L s).drop 1))) ∧ Later w w' := by
  obtain ⟨i0, hi, hz0, hz1, hz2⟩ := info_parts u8_info
  have hlen := L_len s
  have hst := TG.start (l := L s) (by omega)
  obtain ⟨fin, hfin⟩ : ∃ fin, Lx.text ((L s).drop 1) = fin := ⟨_, rfl⟩
  have hta : textAns ((L s).drop 1) = if fin.2 = 0 then (Lx.Tok.zero, 0, 72) else (⟨3, 0, 0, fin.1⟩, fin.2 + 1, 0) := by unfold textAns; rw [hfin]
  rw [hfin] at hst
  rw [hta]
  clear hfin hta
  obtain ⟨R, hR⟩ : ∃ R, (if fin.2 = 0 then (Lx.Tok.zero, 0, 72) else (⟨3, 0, 0, fin.1⟩, fin.2 + 1, 0) : Lx.Tok × Nat × Int) = R := ⟨_, rfl⟩
  rw [hR]
  have HR := Lib.hid hR
  clear hR
  have HS := Lib.hid hst
  clear hst
  go_enter Tryd.func45, Tryd.ntmps45
  go_wp2
  obtain ⟨w0, hw0⟩ : ∃ w0, w.alloc (.cells #[.int .i64 0, .int .i64 0, .int .i64 0, .string ⟨#[]⟩] 41) = w0 := ⟨_, rfl⟩
  have bz : Blk w0 w.heap.size 41 (Tk Lx.Tok.zero) := hw0 ▸ Blk.new w _ _ _ rfl
  have hz : w0.heap.size = w.heap.size + 1 := by rw [← hw0]; simp
  have lw : Later w w0 := hw0 ▸ later1 w _
  rw [hw0]
  clear hw0
  go_loopw [5, 6] (fun lv i wr => ∃ (p : Nat) (acc : Lx.Str), i = .int .i64 p ∧ TG (L s) p acc fin ∧ acc.length ≤ p ∧ wr.ownsRow w0.heap.size 5 1 lv acc.length (Ub acc) ∧ Later w0 wr) (fun _ i _ => s.size - (intOf i).toNat)
  case atStart => exact ⟨1, [], rfl, HS.out, by simp, World.ownsRow_nil _ _ _ _, later0 _⟩
  case round =>
    obtain ⟨p, acc, rfl, hg, hal, hor, hbr⟩ := hrel
    rename_i wr
    have hp1 := hg.1
    have hp2 : p ≤ s.size := by have := hg.2.1; omega
    by_cases hlt : p < s.size
    · have dl : decide ((p : Int) < (s.size : Int)) = true := decide_eq_true (by omega)
      have hpl : p < (L s).length := by omega
      obtain ⟨c, hc⟩ : ∃ c, s[p]'hlt = c := ⟨_, rfl⟩
      have hcl : (L s)[p]'hpl = c := by rw [← L_get s p hlt, hc]
      by_cases hq : c = 34
      · have bq := cneF (k := 34) hq rfl
        have hfe := hg.quote hpl (by rw [hcl, hq])
        subst hfe
        have hRe := HR.out
        simp only at hRe
        rw [if_neg (by omega)] at hRe
        have HRe := Lib.hid hRe.symm
        clear hRe HR HS hg hcl hpl hq
        obtain ⟨A, c2, rfl, hc2, hc3, hcv⟩ := conv_own hor
        have b2 := bz.keep hbr
        have hne : ((p : Int) == (s.size : Int)) = false := beq_eq_false_iff_ne.2 (by omega)
        go_wp2_with (refine wpList_store_abs (o := ⟨none, .store 41 (.tmp 2) (.tmp 43), _, _, _, none⟩) rfl _ _ _ rfl w.heap.size 41 _ (Tk ⟨3, 0, 0, acc⟩) rfl rfl b2 (tk_sz _) rfl (tk_one _) ?_; intro w3 z1 z2)
        rw [HRe.out]
        exact bodyPost_ret (v := ans (⟨3, 0, 0, acc⟩, p + 1, 0)) (results_c3 (cs := Tk ⟨3, 0, 0, acc⟩) Tryd.results45 _ _ w.heap.size 41 (.int .i64 ((p + 1 : Nat) : Int)) (.int .i64 0) _ rfl rfl rfl z1 Tryd.underlying41 rfl (tk_sz _)) rfl ⟨rfl, Below.only (Later.trans_ lw hbr) z2 (Nat.le_refl _)⟩
      · have bq := cneT (k := 34) hq rfl
        have hts : 0 < (s.extract p s.size).size := by rw [← L_len, L_drop, List.length_drop]; omega
        have HP := Lib.hid fun w' => by have h := part_any (s.extract p s.size) w' hts; rw [L_drop] at h; exact h
        obtain ⟨k, n, hk⟩ : ∃ k n, Lx.part ((L s).drop p) = (k, n) := ⟨_, _, rfl⟩
        have hps := Lx.part_size ((L s).drop p)
        rw [List.length_drop] at hps
        have hbad := hg.bad hpl (by rw [hcl]; exact hq)
        have hnx := hg.next hpl (by rw [hcl]; exact hq)
        rw [hk] at HP hps hbad hnx
        simp only at hps hbad hnx
        unfold two at HP
        simp only at HP
        clear hts hk hg hcl hpl hq
        by_cases hn : n = 0
        · subst hn
          have hf := hbad rfl
          have hRe := HR.out
          rw [if_pos hf] at hRe
          have HRe := Lib.hid hRe.symm
          have b2 := bz.keep hbr
          clear hRe HR HS hbad hnx hps hf
          go_wp2_with (first
            | (go_at_call 66; refine (HP.out _).mono ?_; rintro e w' ⟨rfl, rfl⟩)
            | (refine wpList_store_abs (o := ⟨none, .store 41 (.tmp 2) (.tmp 28), _, _, _, none⟩) rfl _ _ _ rfl w.heap.size 41 _ (Tk Lx.Tok.zero) rfl rfl b2 (tk_sz _) rfl (tk_one _) ?_; intro w3 z1 z2))
          rw [HRe.out]
          exact bodyPost_ret (v := ans (Lx.Tok.zero, 0, 72)) (results_c3 (cs := Tk Lx.Tok.zero) Tryd.results45 _ _ w.heap.size 41 _ _ _ rfl rfl rfl z1 Tryd.underlying41 rfl (tk_sz _)) rfl ⟨rfl, Below.only (Later.trans_ lw hbr) z2 (Nat.le_refl _)⟩
        · have hg2 := Lib.hid (hnx hn)
          have hn1 : 1 ≤ n ∧ n ≤ (L s).length - p := by omega
          have e0 : ((n : Int) == 0) = false := beq_eq_false_iff_ne.2 (by omega)
          clear hbad hnx hps HS
          go_wp2_with (first
            | (go_at_call 66; refine (HP.out _).mono ?_; rintro e w' ⟨rfl, rfl⟩)
            | (at_builtin; refine wpList_append_own _ rfl _ _ 49 rfl w0.heap.size 5 i0 (.int .u8 0) 1 1 Tryd.underlying49 hi hz0 hz1 hz2 rfl (by decide) _ _ _ rfl (hor.alloc _) ⟨_, 0, none⟩ 1 1 (Ub [k]) rfl rfl (cell_one_new _ _ _) (Ub_one _) (by unfold maxLen; omega) (by omega) (by have := hbr.size; simp; omega) ?_; intro v' w2 hown' hgrow _))
          have hb2 : Later w0 w2 := (hbr.alloc hbr.size _).grown hgrow (by have := hbr.size; simp; omega) (fun j hj => (hor.lt j hj).1)
          have ho2 := own_snocB (b := [k]) hown'
          clear hown' hgrow hor
          go_wp2
          go_roundw
          case rel => exact ⟨p + n, acc ++ [k], by go_num, hg2.out, by simp; omega, ho2, hb2⟩
          case measure => simp [intOf]; omega
    · obtain rfl : p = s.size := by omega
      have dl : decide ((s.size : Int) < (s.size : Int)) = false := decide_eq_false (by omega)
      have hf := hg.end_ (by omega)
      have hRe := HR.out
      rw [if_pos hf] at hRe
      have HRe := Lib.hid hRe.symm
      have b2 := bz.keep hbr
      clear hRe HR HS hg hf
      go_wp2_with (refine wpList_store_abs (o := ⟨none, .store 41 (.tmp 2) (.tmp 40), _, _, _, none⟩) rfl _ _ _ rfl w.heap.size 41 _ (Tk Lx.Tok.zero) rfl rfl b2 (tk_sz _) rfl (tk_one _) ?_; intro w3 z1 z2)
      rw [HRe.out]
      exact bodyPost_ret (v := ans (Lx.Tok.zero, 0, 72)) (results_c3 (cs := Tk Lx.Tok.zero) Tryd.results45 _ _ w.heap.size 41 _ _ _ rfl rfl rfl z1 Tryd.underlying41 rfl (tk_sz _)) rfl ⟨rfl, Below.only (Later.trans_ lw hbr) z2 (Nat.le_refl _)⟩
end Go.Proofs.YtjopadfkdpcjmaaDoor
