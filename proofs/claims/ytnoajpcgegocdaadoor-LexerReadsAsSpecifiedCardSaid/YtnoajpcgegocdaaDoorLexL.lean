/-
  THE WALK OF the reference's text.
-/
import Derived.Test.YtnoajpcgegocdaaDoorLexK
namespace Go.Proofs.YtnoajpcgegocdaaDoor
open Go.RowKit Go.ChangeShapes Go.WideShapes Go.ChangeAt

/-- A piece's cells. -/
def Pc (t : Lx.Tok) (nx e : Int) : List Value := [.int .i64 t.kind, .int .i64 t.at_, .int .i64 t.n, .string ⟨t.s.toArray⟩, .int .i64 nx, .int .i64 e]
theorem pc_sz (t : Lx.Tok) (nx e : Int) : (Tryd.prog.info? 78).map (·.size) = some (Pc t nx e).length := by kernel_rfl
theorem pc_one (t : Lx.Tok) (nx e : Int) : ∀ v ∈ Pc t nx e, v.oneCell' = true := by
  intro v hv
  simp only [Pc, List.mem_cons, List.not_mem_nil, or_false] at hv
  rcases hv with rfl | rfl | rfl | rfl | rfl | rfl <;> rfl
def rtextAns (at_ : Nat) (r : Lx.Str × Nat) : List Value := if r.2 = 0 then Pc Lx.Tok.zero 0 72 else Pc ⟨3, at_, 0, r.1⟩ ((at_ + 1 + r.2 : Nat) : Int) 0
theorem part_92 {l : Lx.Str} {p : Nat} (h : p < l.length) (hc : l[p] = 92) : Lx.part (l.drop p) = Lx.esc (l.drop (p + 1)) := by
  rw [Lx.drop_at h]
  unfold Lx.part
  simp only
  rw [if_pos hc]
theorem part_no {l : Lx.Str} {p : Nat} (h : p < l.length) (hc : l[p] ≠ 92) : Lx.part (l.drop p) = if Lx.plainB l[p] then (l[p], 1) else (0, 0) := by
  rw [Lx.drop_at h]
  unfold Lx.part
  simp only
  rw [if_neg hc]

set_option maxRecDepth 100000 in
set_option maxHeartbeats 4000000 in
theorem rtext_any (s : ByteArray) (a : Nat) (w : World) (ha : a < s.size) (hs : s.size ≤ 1000000) : Calls Tryd.prog 51 #[.string s, .int .i64 a] w fun e w' => e = .returned (.agg (rtextAns a (Lx.text ((L s).drop (a + 1)))).toArray) ∧ Later w w' := by
  obtain ⟨i0, hi, hz0, hz1, hz2⟩ := info_parts u8_info
  have hlen := L_len s
  obtain ⟨l, hl⟩ : ∃ l, (L s).drop a = l := ⟨_, rfl⟩
  have hll : l.length = s.size - a := by rw [← hl, List.length_drop, hlen]
  have hst := TG.start (l := l) (by omega)
  have hd1 : (L s).drop (a + 1) = l.drop 1 := by rw [← hl, List.drop_drop]
  rw [hd1]
  obtain ⟨fin, hfin⟩ : ∃ fin, Lx.text (l.drop 1) = fin := ⟨_, rfl⟩
  rw [hfin] at hst ⊢
  clear hfin hd1
  obtain ⟨R, hR⟩ : ∃ R, rtextAns a fin = R := ⟨_, rfl⟩
  rw [hR]
  have HR := Lib.hid hR
  clear hR
  have HS := Lib.hid hst
  clear hst
  have HGL := Lib.hid fun q (hq : q < s.size) (hqa : a ≤ q) => (show s[q]'hq = l[q - a]'(by omega) by
    rw [L_get s q hq]
    have h1 : (L s)[q]? = l[q - a]? := by rw [← hl, List.getElem?_drop, show a + (q - a) = q by omega]
    rw [List.getElem?_eq_getElem (by omega), List.getElem?_eq_getElem (by omega)] at h1
    exact Option.some.inj h1)
  have HDR := Lib.hid fun q (hqa : a ≤ q) => (show (L s).drop (q + 1) = l.drop (q - a + 1) by rw [← hl, List.drop_drop, show a + (q - a + 1) = q + 1 by omega])
  clear hl
  go_enter Tryd.func51, Tryd.ntmps51
  go_wp2
  obtain ⟨w0, hw0⟩ : ∃ w0, w.alloc (.cells #[.int .i64 0, .int .i64 0, .int .i64 0, .string ⟨#[]⟩, .int .i64 0, .int .i64 0] 78) = w0 := ⟨_, rfl⟩
  have bz : Blk w0 w.heap.size 78 (Pc Lx.Tok.zero 0 0) := hw0 ▸ Blk.new w _ _ _ rfl
  have lw : Later w w0 := hw0 ▸ later1 w _
  rw [hw0]
  clear hw0
  go_loopw [5, 6] (fun lv i wr => ∃ (q : Nat) (acc : Lx.Str), i = .int .i64 q ∧ a < q ∧ q ≤ s.size ∧ TG l (q - a) acc fin ∧ acc.length ≤ q ∧ wr.ownsRow w0.heap.size 5 1 lv acc.length (Ub acc) ∧ Later w0 wr) (fun _ i _ => s.size - (intOf i).toNat)
  case atStart => exact ⟨a + 1, [], by go_num, by omega, by omega, by rw [show a + 1 - a = 1 by omega]; exact HS.out, by simp, World.ownsRow_nil _ _ _ _, later0 _⟩
  case round =>
    obtain ⟨q, acc, rfl, hqa, hqs, hg, hal, hor, hbr⟩ := hrel
    rename_i wr
    clear HS
    have b2 := bz.keep hbr
    by_cases hlt : q < s.size
    · obtain ⟨c, hc⟩ : ∃ c, s[q]'hlt = c := ⟨_, rfl⟩
      have hpl : q - a < l.length := by omega
      have hcl : l[q - a]'hpl = c := by rw [← HGL.out q hlt (by omega), hc]
      by_cases hq : c = 34
      · have bq := ceqT (k := 34) hq rfl
        have hfe := hg.quote hpl (by rw [hcl, hq])
        subst hfe
        have hRe := HR.out
        unfold rtextAns at hRe
        simp only at hRe
        rw [if_neg (by omega), show a + 1 + (q - a) = q + 1 by omega] at hRe
        have HRe := Lib.hid hRe.symm
        clear hRe HR hg hcl hpl hq HGL HDR
        obtain ⟨A, c2, rfl, hc2, hc3, hcv⟩ := conv_own hor
        go_wp2_with (refine wpList_store_abs (o := ⟨none, .store 78 (.tmp 4) (.tmp 33), _, _, _, none⟩) rfl _ _ _ rfl w.heap.size 78 _ (Pc ⟨3, a, 0, acc⟩ ((q + 1 : Nat) : Int) 0) rfl rfl b2 (pc_sz _ _ _) rfl (pc_one _ _ _) ?_; intro w3 z1 z2)
        rw [HRe.out]
        exact bodyPost_ret (v := .agg (Pc ⟨3, a, 0, acc⟩ ((q + 1 : Nat) : Int) 0).toArray) (results_blk Tryd.results51 _ _ w.heap.size 78 _ _ rfl z1 Tryd.underlying78 rfl (pc_sz _ _ _)) rfl ⟨rfl, Below.only (Later.trans_ lw hbr) z2 (Nat.le_refl _)⟩
      · have bq := ceqF (k := 34) hq rfl
        have hbad := hg.bad hpl (by rw [hcl]; exact hq)
        have hnx := hg.next hpl (by rw [hcl]; exact hq)
        have hps := Lx.part_size (l.drop (q - a))
        rw [List.length_drop] at hps
        by_cases h92 : c = 92
        · have b92 := ceqT (k := 92) h92 rfl
          have hpe := part_92 hpl (by rw [hcl]; exact h92)
          have HE := Lib.hid fun w' => by
            have h := rescaped_any s q w' hlt hs
            rw [HDR.out q (by omega), ← hpe] at h
            exact h
          obtain ⟨k, n, hk⟩ : ∃ k n, Lx.part (l.drop (q - a)) = (k, n) := ⟨_, _, rfl⟩
          rw [hk] at HE hps hbad hnx
          simp only at hps hbad hnx
          clear hk hpe hg hcl hpl hq h92 HGL HDR
          by_cases hn : n = 0
          · subst hn
            have hf := hbad rfl
            have hRe := HR.out
            unfold rtextAns at hRe
            rw [if_pos hf] at hRe
            have HRe := Lib.hid hRe.symm
            clear hRe HR hbad hnx hps hf
            go_wp2_with (first
              | (go_at_call 69; refine (HE.out _).mono ?_; rintro e wE ⟨rfl, lE⟩; replace b2 := b2.keep lE; replace hbr := Later.trans_ hbr lE)
              | (refine wpList_store_abs (o := ⟨none, .store 108 (.tmp 7) (.tmp 41), _, _, _, none⟩) rfl _ _ _ rfl wE.heap.size 108 (Ex (0, 0)) (Ex (k, 0)) rfl rfl (Blk.new wE _ _ _ rfl) (ex_sz _) rfl (ex_one _) ?_; intro wF y1 y2; have cF := y1.cell (j := 1) (v := .int .i64 ((0 : Nat) : Int)) rfl; have hwE := b2.lt; replace b2 := (b2.alloc (.cells (Ex (0, 0)).toArray 108)).only y2 (by omega); replace hbr := Below.only (hbr.alloc hbr.size (.cells (Ex (0, 0)).toArray 108)) y2 hbr.size)
              | (refine wpList_store_abs (o := ⟨none, .store 78 (.tmp 4) (.tmp 45), _, _, _, none⟩) rfl _ _ _ rfl w.heap.size 78 _ (Pc Lx.Tok.zero 0 72) rfl rfl b2 (pc_sz _ _ _) rfl (pc_one _ _ _) ?_; intro w3 z1 z2))
            rw [HRe.out]
            exact bodyPost_ret (v := .agg (Pc Lx.Tok.zero 0 72).toArray) (results_blk Tryd.results51 _ _ w.heap.size 78 _ _ rfl z1 Tryd.underlying78 rfl (pc_sz _ _ _)) rfl ⟨rfl, Below.only (Later.trans_ lw hbr) z2 (Nat.le_refl _)⟩
          · have hg2 := Lib.hid (hnx hn)
            have hn1 : 1 ≤ n ∧ n ≤ l.length - (q - a) := by omega
            have e0 : ((n : Int) == 0) = false := beq_eq_false_iff_ne.2 (by omega)
            clear hbad hnx hps b2
            go_wp2_with (first
              | (go_at_call 69; refine (HE.out _).mono ?_; rintro e wE ⟨rfl, lE⟩; have hor1 := own_below hor lE; replace hbr := Later.trans_ hbr lE)
              | (refine wpList_store_abs (o := ⟨none, .store 108 (.tmp 7) (.tmp 41), _, _, _, none⟩) rfl _ _ _ rfl wE.heap.size 108 (Ex (0, 0)) (Ex (k, n)) rfl rfl (Blk.new wE _ _ _ rfl) (ex_sz _) rfl (ex_one _) ?_; intro wF y1 y2; have cF0 := y1.cell (j := 0) (v := .int .u8 (k.toNat : Int)) rfl; have cF := y1.cell (j := 1) (v := .int .i64 (n : Int)) rfl; have lF : Later wE wF := Below.only (later1 wE _) y2 (Nat.le_refl _); have hor2 := own_below hor1 lF; replace hbr := Later.trans_ hbr lF)
              | (at_builtin; refine wpList_append_own _ rfl _ _ 49 rfl w0.heap.size 5 i0 (.int .u8 0) 1 1 Tryd.underlying49 hi hz0 hz1 hz2 rfl (by decide) _ _ _ rfl (hor2.alloc _) ⟨wF.heap.size, 0, none⟩ 1 1 (Ub [k]) rfl rfl (cell_one_new wF _ _) (Ub_one _) (by unfold maxLen; omega) (by omega) (by have := hbr.size; simp; omega) ?_; intro v' w2 hown' hgrow _; have hnb : ∀ g, Value.ownBlock _ = some g → g ≠ wE.heap.size := (fun g e => Nat.ne_of_lt (hor1.lt g e).2); have y3 := (y1.alloc (.cells (Ub [k]).toArray 5)); have cG : w2.cell? ⟨wE.heap.size, 1, none⟩ = some (.int .i64 (n : Int)) := by { have hh := hgrow.block wE.heap.size y3.lt (fun e => hnb _ e.symm rfl); unfold World.cell?; rw [hh]; exact y3.cell (j := 1) rfl }))
            have hb2 : Later w0 w2 := (hbr.alloc hbr.size _).grown hgrow (by have := hbr.size; simp; omega) (fun j hj => (hor2.lt j hj).1)
            have ho2 := own_snocB (b := [k]) hown'
            clear hown' hgrow hor hor1 hor2
            go_wp2
            go_roundw
            case rel => exact ⟨q + n, acc ++ [k], by go_num, by omega, by omega, by rw [show q + n - a = q - a + n by omega]; exact hg2.out, by simp; omega, ho2, hb2⟩
            case measure => simp [intOf]; omega
        · have b92 := ceqF (k := 92) h92 rfl
          have hpe := part_no hpl (by rw [hcl]; exact h92)
          rw [hcl] at hpe
          cases hp : Lx.plainB c with
          | true =>
            rw [hp, if_pos rfl] at hpe
            rw [hpe] at hnx
            simp only at hnx
            have hg2 := Lib.hid (hnx (by decide))
            have hpb : 32 ≤ c.toNat ∧ c.toNat ≤ 126 := of_decide_eq_true hp
            have g1 : decide ((c.toNat : Int) < 32) = false := decide_eq_false (by omega)
            have g2 : decide ((126 : Int) < (c.toNat : Int)) = false := decide_eq_false (by omega)
            clear hbad hnx hps b2 hpe hg hcl hpl hq h92 HGL HDR hp
            go_wp2_with (at_builtin; refine wpList_append_own _ rfl _ _ 49 rfl w0.heap.size 5 i0 (.int .u8 0) 1 1 Tryd.underlying49 hi hz0 hz1 hz2 rfl (by decide) _ _ _ rfl (hor.alloc _) ⟨wr.heap.size, 0, none⟩ 1 1 (Ub [c]) rfl rfl (cell_one_new wr _ _) (Ub_one _) (by unfold maxLen; omega) (by omega) (by have := hbr.size; simp; omega) ?_; intro v' w2 hown' hgrow _)
            have hb2 : Later w0 w2 := (hbr.alloc hbr.size _).grown hgrow (by have := hbr.size; simp; omega) (fun j hj => (hor.lt j hj).1)
            have ho2 := own_snocB (b := [c]) hown'
            clear hown' hgrow hor
            go_wp2
            go_roundw
            case rel => exact ⟨q + 1, acc ++ [c], by go_num, by omega, by omega, by rw [show q + 1 - a = q - a + 1 by omega]; exact hg2.out, by simp; omega, ho2, hb2⟩
            case measure => simp [intOf]; omega
          | false =>
            rw [hp, if_neg (by decide)] at hpe
            have hf := hbad (by rw [hpe])
            have hRe := HR.out
            unfold rtextAns at hRe
            rw [if_pos hf] at hRe
            have HRe := Lib.hid hRe.symm
            have hpb : ¬ (32 ≤ c.toNat ∧ c.toNat ≤ 126) := of_decide_eq_false hp
            clear hRe HR hbad hnx hps hf hpe hg hcl hpl hq h92 HGL HDR hp
            by_cases hx : c.toNat < 32
            · have g1 : decide ((c.toNat : Int) < 32) = true := decide_eq_true (by omega)
              go_wp2_with (refine wpList_store_abs (o := ⟨none, .store 78 (.tmp 4) (.tmp 66), _, _, _, none⟩) rfl _ _ _ rfl w.heap.size 78 _ (Pc Lx.Tok.zero 0 72) rfl rfl b2 (pc_sz _ _ _) rfl (pc_one _ _ _) ?_; intro w3 z1 z2)
              rw [HRe.out]
              exact bodyPost_ret (v := .agg (Pc Lx.Tok.zero 0 72).toArray) (results_blk Tryd.results51 _ _ w.heap.size 78 _ _ rfl z1 Tryd.underlying78 rfl (pc_sz _ _ _)) rfl ⟨rfl, Below.only (Later.trans_ lw hbr) z2 (Nat.le_refl _)⟩
            · have g1 : decide ((c.toNat : Int) < 32) = false := decide_eq_false (by omega)
              have g2 : decide ((126 : Int) < (c.toNat : Int)) = true := decide_eq_true (by omega)
              go_wp2_with (refine wpList_store_abs (o := ⟨none, .store 78 (.tmp 4) (.tmp 66), _, _, _, none⟩) rfl _ _ _ rfl w.heap.size 78 _ (Pc Lx.Tok.zero 0 72) rfl rfl b2 (pc_sz _ _ _) rfl (pc_one _ _ _) ?_; intro w3 z1 z2)
              rw [HRe.out]
              exact bodyPost_ret (v := .agg (Pc Lx.Tok.zero 0 72).toArray) (results_blk Tryd.results51 _ _ w.heap.size 78 _ _ rfl z1 Tryd.underlying78 rfl (pc_sz _ _ _)) rfl ⟨rfl, Below.only (Later.trans_ lw hbr) z2 (Nat.le_refl _)⟩
    · have hqe : q = s.size := by omega
      have hf := hg.end_ (by omega)
      have hRe := HR.out
      unfold rtextAns at hRe
      rw [if_pos hf] at hRe
      have HRe := Lib.hid hRe.symm
      clear hRe HR hg hf HGL HDR
      go_wp2_with (refine wpList_store_abs (o := ⟨none, .store 78 (.tmp 4) (.tmp 67), _, _, _, none⟩) rfl _ _ _ rfl w.heap.size 78 _ (Pc Lx.Tok.zero 0 72) rfl rfl b2 (pc_sz _ _ _) rfl (pc_one _ _ _) ?_; intro w3 z1 z2)
      rw [HRe.out]
      exact bodyPost_ret (v := .agg (Pc Lx.Tok.zero 0 72).toArray) (results_blk Tryd.results51 _ _ w.heap.size 78 _ _ rfl z1 Tryd.underlying78 rfl (pc_sz _ _ _)) rfl ⟨rfl, Below.only (Later.trans_ lw hbr) z2 (Nat.le_refl _)⟩
end Go.Proofs.YtnoajpcgegocdaaDoor
