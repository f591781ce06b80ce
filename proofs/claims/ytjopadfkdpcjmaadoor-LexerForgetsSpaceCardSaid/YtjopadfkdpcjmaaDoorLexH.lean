/-
  THE WALK OF lexer.Tokens.
-/
import Derived.Test.YtjopadfkdpcjmaaDoorLexG
import Derived.Deep.MidRow
import Derived.Deep.WholeRow
import Derived.StillTailTactics
import Derived.Lib.QuietBelow
import Derived.Deep.RegionHeld3
namespace Go.Proofs.YtjopadfkdpcjmaaDoor
open Go.RowKit Go.ChangeShapes Go.WideShapes Go.ChangeAt

set_option maxRecDepth 100000 in
set_option maxHeartbeats 4000000 in
theorem tokens_short (s : ByteArray) (w : World) (hs : s.size ≤ 16384) : Calls Tryd.prog 10 #[.string s] w (GotToks (Lx.toks 0 (L s)) w) := by
  obtain ⟨i0, hi, hz0, hz1, hz2⟩ := info_parts tk_info
  have hlen := L_len s
  have hst := Lx.Going.start (L s)
  obtain ⟨fin, hfin⟩ : ∃ fin, Lx.toks 0 (L s) = fin := ⟨_, rfl⟩
  rw [hfin] at hst ⊢
  clear hfin
  have HS := Lib.hid hst
  clear hst
  have HK := Lib.hid fun w' => allKinds_any w'
  go_enter Tryd.func10, Tryd.ntmps10
  go_wp2
  go_step3
  go_wp2_with (first
    | (go_at_call 26; refine (HK.out _).mono ?_; rintro e w1 ⟨rfl, l1⟩)
    | (refine wpList_store_abs (o := ⟨none, .store 72 (.tmp 5) (.tmp 17), _, _, _, none⟩) rfl _ _ _ rfl w1.heap.size 72 kinds0 kindsC rfl rfl (Blk.new w1 _ _ _ rfl) kinds_sz rfl kinds_one ?_; intro w2 z1 z2))
  go_step3
  go_wp2
  have hB : w.heap.size < w1.heap.size := by have := l1.size; simp at this; omega
  have bP : Blk w2 w.heap.size 26 (Pb 0 0) := (((Blk.new w 26 _ (Pb 0 0) rfl).keep l1).alloc _).only z2 (by omega)
  have lw : Later w w2 := Below.only ((Later.trans_ (later1 w _) l1).alloc (by omega) _) z2 (by omega)
  obtain ⟨G5, hG5⟩ : ∃ G5, G5 = w1.heap.size := ⟨_, rfl⟩
  rw [← hG5] at z1 ⊢
  clear z2 l1 hB hG5 HK
  go_loopg [4, 6] s.size (fun g s4 s6 wx => ∃ (p : Nat) (acc : List Lx.Tok), p + g = s.size ∧ s6 = .int .i64 p ∧ Aside (Lx.Going (L s) p acc fin) ∧ acc.length ≤ p ∧ wx.ownsRow w2.heap.size 41 4 s4 acc.length (Tks acc) ∧ Later w2 wx)
  case atStart => exact ⟨0, [], by omega, rfl, HS.out, Nat.le_refl _, World.ownsRow_nil _ _ _ _, later0 _⟩
  case round =>
    obtain ⟨p, acc, hpg, rfl, hgo, hal, hor, hbr⟩ := hrel
    by_cases hlt : p < s.size
    · obtain ⟨wo, hwo⟩ : ∃ x, x = wr := ⟨_, rfl⟩
      subst hwo
      obtain ⟨go, hgk⟩ : ∃ x, x = gk := ⟨_, rfl⟩
      subst hgk
      obtain ⟨lv, hlv⟩ : ∃ x, x = u4 := ⟨_, rfl⟩
      subst hlv
      have hpl : p < (L s).length := by omega
      have hts : 0 < (s.extract p s.size).size := by rw [← L_len, L_drop, List.length_drop]; omega
      have HI := Lib.hid fun w' => by have h := ignored_any (s.extract p s.size) w' hts; rw [L_drop, List.drop_drop] at h; exact h
      obtain ⟨c, hc⟩ : ∃ c, s[p]'hlt = c := ⟨_, rfl⟩
      have hcl : (L s)[p]'hpl = c := by rw [← L_get s p hlt, hc]
      have ht0 : (s.extract p s.size)[0]'hts = c := by
        rw [L_get]
        have h1 : (L (s.extract p s.size))[0]? = some c := by rw [L_drop, List.getElem?_drop, Nat.add_zero, List.getElem?_eq_getElem hpl, hcl]
        rw [List.getElem?_eq_getElem (by rw [L_len]; exact hts)] at h1
        exact Option.some.inj h1
      rw [ht0] at HI
      cases hsp : Lx.spaceB c with
      | true =>
        have hg2 : Aside (Lx.Going (L s) (p + 1) acc fin) := Lx.Going.space hgo hpl (by rw [hcl]; exact hsp)
        rw [hsp] at HI
        simp only [if_true] at HI
        clear ht0 hts hsp hgo HS
        go_wp2_with (go_at_call 27; refine (HI.out _).mono ?_; rintro e w' ⟨rfl, rfl⟩)
        go_roundg (s.size - (p + 1))
        case measure => omega
        case rel => exact ⟨p + 1, acc, by omega, by go_num, hg2, by omega, hor, hbr⟩
      | false =>
        rw [hsp] at HI
        simp only [Bool.false_eq_true, if_false] at HI
        by_cases h9 : c = 59
        · have hg2 : Aside (Lx.Going (L s) (p + (Lx.rest ((L s).drop (p + 1)) + 1)) acc fin) := Lx.Going.note hgo hpl (by rw [hcl]; exact hsp) (by rw [hcl]; exact h9)
          simp only [if_pos h9] at HI
          have hrl := Lx.rest_le ((L s).drop (p + 1))
          rw [List.length_drop] at hrl
          obtain ⟨q, hq⟩ : ∃ q, Lx.rest ((L s).drop (p + 1)) = q := ⟨_, rfl⟩
          rw [hq] at HI hg2 hrl
          clear ht0 hts hsp hgo HS hq h9
          go_wp2_with (go_at_call 27; refine (HI.out _).mono ?_; rintro e w' ⟨rfl, rfl⟩)
          go_roundg (s.size - (p + (q + 1)))
          case measure => omega
          case rel => exact ⟨p + (q + 1), acc, by omega, by go_num, hg2, by omega, hor, hbr⟩
        · simp only [if_neg h9] at HI
          have hbad := Lx.Going.bad hgo hpl (by rw [hcl]; exact hsp) (by rw [hcl]; exact h9)
          have hnx := Lx.Going.next hgo hpl (by rw [hcl]; exact hsp) (by rw [hcl]; exact h9)
          clear ht0 hgo HS
          have z5 := z1.keep hbr
          go_wp2_with (first
            | (go_at_call 27; refine (HI.out _).mono ?_; rintro e w' ⟨rfl, rfl⟩)
            | (refine wpList_load_blk (o := ⟨some 31, .load 72 (.tmp 5), _, _, _, none⟩) rfl _ _ rfl G5 72 kindsC _ rfl z5 Tryd.underlying72 rfl kinds_sz ?_))
          obtain ⟨tok, n, ee, htk⟩ : ∃ tok n ee, Lx.tok1 ((L s).drop p) = (tok, n, ee) := ⟨_, _, _, rfl⟩
          have hok := Lx.tok1_ok c ((L s).drop (p + 1))
          have hcr : (L s).drop p = c :: (L s).drop (p + 1) := by rw [Lx.drop_at hpl, hcl]
          rw [← hcr, htk] at hok
          rw [htk] at hbad hnx
          simp only [List.length_drop] at hok hbad hnx
          have HOK := Lib.hid fun (he : ee = 0) => (show _ ∧ 1 ≤ n ∧ n ≤ s.size - p from ⟨hnx he, by omega, by omega⟩)
          have HBAD := Lib.hid hbad
          have HT := Lib.hid htk
          have hLt : L (s.extract p s.size) = (L s).drop p := L_drop s p
          have hsz : (s.extract p s.size).size ≤ 1000000 := by rw [← L_len, hLt, List.length_drop]; omega
          have HKF := Lib.hid fun k (hk : k < 5) => kind_facts k hk
          have HC5 := Lib.hid fun (h : ∀ j, j < 5 → kindB j c = false) => kind_none c ((L s).drop (p + 1)) h
          have HHD := Lib.hid hcr
          clear hok hnx hbad htk hcr
          go_loopg [4, 6, 32] 5 (fun g s4 s6 s32 wx => ∃ k : Nat, s4 = lv ∧ s6 = .int .i64 p ∧ k + g = 5 ∧ s32 = .int .i64 k ∧ (∀ j, j < k → kindB j c = false) ∧ Later w' wx)
          case atStart => exact ⟨0, rfl, rfl, rfl, rfl, fun j hj => absurd hj (by omega), later0 _⟩
          case round =>
            obtain ⟨k, rfl, rfl, hkg, rfl, hno, hlx⟩ := hrel
            by_cases hk5 : k < 5
            · obtain ⟨ks, kf, hkF, hkc, hent, hIx0, hcall⟩ := HKF.out k hk5
              have hIx : ∀ wz : World, (Instr.index 72 (.agg kindsC.toArray) (.int .i64 k)).run Tryd.prog wz = .ok (.agg #[.string ks, .func (.func kf) #[] #[]]) wz := fun wz => by rw [hIx0 wz, hkF]
              have HIN := Lib.hid fun w'' => by have h := in_any ks c w''; rw [hkc c] at h; exact h
              have hk5i : (k : Int) < 5 := by omega
              have hsz2 : (Tryd.prog.info? 71).map (·.size) = some [Value.string ks, .func (.func kf) #[] #[]].length := by rw [← hkF]; exact kindF_sz k
              have hon2 : ∀ v ∈ [Value.string ks, .func (.func kf) #[] #[]], v.oneCell' = true := by rw [← hkF]; exact kindF_one k
              have HR0 := Lib.hid fun hkb w'' => by have h := hcall (s.extract p s.size) w'' hts hsz c ((L s).drop (p + 1)) (by rw [hLt]; exact HHD.out) hno hkb; rw [hLt, HT.out] at h; exact h
              clear hkc hIx0 hcall hkF
              cases hkb : kindB k c with
              | false =>
                rw [hkb] at HIN
                clear HR0
                go_wp2_with (refine wpList_store_abs (o := ⟨none, .store 71 (.tmp 9) (.tmp 34), _, _, _, none⟩) rfl _ _ _ rfl wr.heap.size 71 [.string ⟨#[]⟩, .nilFunc] [.string ks, .func (.func kf) #[] #[]] rfl rfl (Blk.new wr _ _ _ rfl) hsz2 rfl hon2 ?_; intro w9 y1 y2)
                have hl0 : Later w' w9 := Below.only (hlx.alloc hlx.size _) y2 hlx.size
                refine wp_region_held_drew (S := fun w' => w'.cell? ⟨wr.heap.size, 0, none⟩ = some (.string ks)) (by kernel_rfl) (y1.drew.cell rfl) (fun hHeld => ?_)
                refine wpAnyH_take (i := 0) (oi := ⟨some 35, .fieldAddr 71 (.tmp 9) 0, _, _, _, none⟩) (v := .pointer (some ⟨wr.heap.size, 0, none⟩)) rfl (by kernel_rfl) (by kernel_rfl) (by kernel_rfl) (fun _ _ _ h => h) (Or.inl ⟨by rfl, fun w _ => by go_simp⟩) hHeld ?_
                simp only [Act.put, List.setIfInBounds_toArray, List.set_cons_zero, List.set_cons_succ]
                refine wpAnyH_take (i := 1) (oi := ⟨some 36, .load 9 (.tmp 35), _, _, _, none⟩) (v := .string ks) rfl (by kernel_rfl) (by kernel_rfl) (by kernel_rfl) (fun _ _ _ h => h) (Or.inl ⟨by rfl, fun w hSw => by have e1 := hSw; clear hSw; go_simp⟩) hHeld ?_
                simp only [Act.put, List.setIfInBounds_toArray, List.set_cons_zero, List.set_cons_succ]
                refine wpAnyH_take (i := 2) (oi := ⟨some 37, .move (.tmp 0), _, _, _, none⟩) (v := .string s) rfl (by kernel_rfl) (by kernel_rfl) (by kernel_rfl) (fun _ _ _ h => h) (Or.inl ⟨by rfl, fun _ _ => rfl⟩) hHeld ?_
                simp only [Act.put, List.setIfInBounds_toArray, List.set_cons_zero, List.set_cons_succ]
                refine wpAnyH_take (i := 3) (oi := ⟨some 38, .move (.tmp 6), _, _, _, none⟩) (v := .int .i64 (p : Int)) rfl (by kernel_rfl) (by kernel_rfl) (by kernel_rfl) (fun _ _ _ h => h) (Or.inl ⟨by rfl, fun _ _ => rfl⟩) hHeld ?_
                simp only [Act.put, List.setIfInBounds_toArray, List.set_cons_zero, List.set_cons_succ]
                refine wpAnyH_take (i := 4) (oi := ⟨some 39, .index 9 (.tmp 37) (.tmp 38), _, _, _, none⟩) (v := .int .u8 (c.toNat : Int)) rfl (by kernel_rfl) (by kernel_rfl) (by kernel_rfl) (fun _ _ _ h => h) (Or.inl ⟨by rfl, fun w _ => by go_simp⟩) hHeld ?_
                simp only [Act.put, List.setIfInBounds_toArray, List.set_cons_zero, List.set_cons_succ]
                refine wpAnyH_ready (rs := [5]) (by kernel_rfl) (by simp) (AllReadyH.cons (o := ⟨some 40, .call { callee := .value (.func 28), args := #[.tmp 36, .tmp 39], argTypes := #[9, 5] }, _, _, _, none⟩) rfl (fun K' hK => ?_) (AllReadyH.nil))
                go_simp
                refine (HIN.out _).mono ?_
                rintro e w10 ⟨rfl, rfl⟩
                refine hK.out _ _ (y1.drew.cell rfl) (fun hHeld => ?_)
                clear hK K'
                try simp only [Act.put, List.setIfInBounds_toArray, List.set_cons_zero, List.set_cons_succ]
                refine wpAnyH_take (i := 6) (oi := ⟨some 41, .unOp .not 4 (.tmp 40), _, _, _, none⟩) (v := .bool true) rfl (by kernel_rfl) (by kernel_rfl) (by kernel_rfl) (fun _ _ _ h => h) (Or.inl ⟨by rfl, fun w _ => by go_simp⟩) hHeld ?_
                simp only [Act.put, List.setIfInBounds_toArray, List.set_cons_zero, List.set_cons_succ]
                refine wpAnyH_done (by kernel_rfl) ?_ _
                clear hHeld
                try simp only [Act.put]
                go_wp2_with fail
                go_roundg (gk - 1)
                case measure => omega
                case rel => exact ⟨k + 1, rfl, rfl, by omega, by go_num, fun j hj => by
                    rcases Nat.lt_succ_iff_lt_or_eq.1 hj with h | rfl
                    · exact hno j h
                    · exact hkb, hl0.drew⟩
              | true =>
                rw [hkb] at HIN
                have HR := Lib.hid (HR0.out hkb)
                unfold ans at HR
                simp only at HR
                clear HR0
                go_wp2_with (refine wpList_store_abs (o := ⟨none, .store 71 (.tmp 9) (.tmp 34), _, _, _, none⟩) rfl _ _ _ rfl wr.heap.size 71 [.string ⟨#[]⟩, .nilFunc] [.string ks, .func (.func kf) #[] #[]] rfl rfl (Blk.new wr _ _ _ rfl) hsz2 rfl hon2 ?_; intro w9 y1 y2)
                have hl0 : Later w' w9 := Below.only (hlx.alloc hlx.size _) y2 hlx.size
                refine wp_region_held_drew (S := fun w' => w'.cell? ⟨wr.heap.size, 0, none⟩ = some (.string ks)) (by kernel_rfl) (y1.drew.cell rfl) (fun hHeld => ?_)
                refine wpAnyH_take (i := 0) (oi := ⟨some 35, .fieldAddr 71 (.tmp 9) 0, _, _, _, none⟩) (v := .pointer (some ⟨wr.heap.size, 0, none⟩)) rfl (by kernel_rfl) (by kernel_rfl) (by kernel_rfl) (fun _ _ _ h => h) (Or.inl ⟨by rfl, fun w _ => by go_simp⟩) hHeld ?_
                simp only [Act.put, List.setIfInBounds_toArray, List.set_cons_zero, List.set_cons_succ]
                refine wpAnyH_take (i := 1) (oi := ⟨some 36, .load 9 (.tmp 35), _, _, _, none⟩) (v := .string ks) rfl (by kernel_rfl) (by kernel_rfl) (by kernel_rfl) (fun _ _ _ h => h) (Or.inl ⟨by rfl, fun w hSw => by have e1 := hSw; clear hSw; go_simp⟩) hHeld ?_
                simp only [Act.put, List.setIfInBounds_toArray, List.set_cons_zero, List.set_cons_succ]
                refine wpAnyH_take (i := 2) (oi := ⟨some 37, .move (.tmp 0), _, _, _, none⟩) (v := .string s) rfl (by kernel_rfl) (by kernel_rfl) (by kernel_rfl) (fun _ _ _ h => h) (Or.inl ⟨by rfl, fun _ _ => rfl⟩) hHeld ?_
                simp only [Act.put, List.setIfInBounds_toArray, List.set_cons_zero, List.set_cons_succ]
                refine wpAnyH_take (i := 3) (oi := ⟨some 38, .move (.tmp 6), _, _, _, none⟩) (v := .int .i64 (p : Int)) rfl (by kernel_rfl) (by kernel_rfl) (by kernel_rfl) (fun _ _ _ h => h) (Or.inl ⟨by rfl, fun _ _ => rfl⟩) hHeld ?_
                simp only [Act.put, List.setIfInBounds_toArray, List.set_cons_zero, List.set_cons_succ]
                refine wpAnyH_take (i := 4) (oi := ⟨some 39, .index 9 (.tmp 37) (.tmp 38), _, _, _, none⟩) (v := .int .u8 (c.toNat : Int)) rfl (by kernel_rfl) (by kernel_rfl) (by kernel_rfl) (fun _ _ _ h => h) (Or.inl ⟨by rfl, fun w _ => by go_simp⟩) hHeld ?_
                simp only [Act.put, List.setIfInBounds_toArray, List.set_cons_zero, List.set_cons_succ]
                refine wpAnyH_ready (rs := [5]) (by kernel_rfl) (by simp) (AllReadyH.cons (o := ⟨some 40, .call { callee := .value (.func 28), args := #[.tmp 36, .tmp 39], argTypes := #[9, 5] }, _, _, _, none⟩) rfl (fun K' hK => ?_) (AllReadyH.nil))
                go_simp
                refine (HIN.out _).mono ?_
                rintro e w10 ⟨rfl, rfl⟩
                refine hK.out _ _ (y1.drew.cell rfl) (fun hHeld => ?_)
                clear hK K'
                try simp only [Act.put, List.setIfInBounds_toArray, List.set_cons_zero, List.set_cons_succ]
                refine wpAnyH_take (i := 6) (oi := ⟨some 41, .unOp .not 4 (.tmp 40), _, _, _, none⟩) (v := .bool false) rfl (by kernel_rfl) (by kernel_rfl) (by kernel_rfl) (fun _ _ _ h => h) (Or.inl ⟨by rfl, fun w _ => by go_simp⟩) hHeld ?_
                simp only [Act.put, List.setIfInBounds_toArray, List.set_cons_zero, List.set_cons_succ]
                refine wpAnyH_done (by kernel_rfl) ?_ _
                clear hHeld
                try simp only [Act.put]
                go_wp2_with fail
                replace y1 := y1.drew
                replace hl0 := hl0.drew
                generalize w9.drew = v0 at y1 hl0 ⊢
                obtain ⟨B9, hB9⟩ : ∃ B9, B9 = wr.heap.size := ⟨_, rfl⟩
                rw [← hB9] at y1 ⊢
                clear hB9 hlx y2
                refine wp_region_held_drew (S := fun w' => w'.cell? ⟨B9, 1, none⟩ = some (.func (.func kf) #[] #[])) (by kernel_rfl) (y1.drew.cell rfl) (fun hHeld => ?_)
                replace y1 := y1.drew
                replace hl0 := hl0.drew
                generalize v0.drew = u0 at y1 hl0 hHeld ⊢
                refine wpAnyH_take (i := 0) (oi := ⟨some 43, .fieldAddr 71 (.tmp 9) 1, _, _, _, none⟩) (v := .pointer (some ⟨B9, 1, none⟩)) rfl (by kernel_rfl) (by kernel_rfl) (by kernel_rfl) (fun _ _ _ h => h) (Or.inl ⟨by rfl, fun w _ => by go_simp⟩) hHeld ?_
                simp only [Act.put, List.setIfInBounds_toArray, List.set_cons_zero, List.set_cons_succ]
                refine wpAnyH_take (i := 1) (oi := ⟨some 44, .load 69 (.tmp 43), _, _, _, none⟩) (v := .func (.func kf) #[] #[]) rfl (by kernel_rfl) (by kernel_rfl) (by kernel_rfl) (fun _ _ _ h => h) (Or.inl ⟨by rfl, fun w hSw => by have e1 := hSw; clear hSw; go_simp⟩) hHeld ?_
                simp only [Act.put, List.setIfInBounds_toArray, List.set_cons_zero, List.set_cons_succ]
                refine wpAnyH_take (i := 2) (oi := ⟨some 45, .move (.tmp 0), _, _, _, none⟩) (v := .string s) rfl (by kernel_rfl) (by kernel_rfl) (by kernel_rfl) (fun _ _ _ h => h) (Or.inl ⟨by rfl, fun _ _ => rfl⟩) hHeld ?_
                simp only [Act.put, List.setIfInBounds_toArray, List.set_cons_zero, List.set_cons_succ]
                refine wpAnyH_take (i := 3) (oi := ⟨some 46, .move (.tmp 6), _, _, _, none⟩) (v := .int .i64 (p : Int)) rfl (by kernel_rfl) (by kernel_rfl) (by kernel_rfl) (fun _ _ _ h => h) (Or.inl ⟨by rfl, fun _ _ => rfl⟩) hHeld ?_
                simp only [Act.put, List.setIfInBounds_toArray, List.set_cons_zero, List.set_cons_succ]
                refine wpAnyH_take (i := 4) (oi := ⟨some 47, .slice 9 (.tmp 45) (some (.tmp 46)) none none, _, _, _, none⟩) (v := .string (s.extract p s.size)) rfl (by kernel_rfl) (by kernel_rfl) (by kernel_rfl) (fun _ _ _ h => h) (Or.inl ⟨by rfl, fun w _ => by go_simp <;> (first | omega | (intro h; omega))⟩) hHeld ?_
                simp only [Act.put, List.setIfInBounds_toArray, List.set_cons_zero, List.set_cons_succ]
                refine wpAnyH_ready (rs := [5, 10]) (by kernel_rfl) (by simp) (AllReadyH.cons (o := ⟨some 48, .call { callee := .value (.tmp 44), args := #[.tmp 47], argTypes := #[9] }, _, _, _, none⟩) rfl (fun K' hK => ?_) (AllReadyH.cons (o := ⟨some 10, .alloc 41, _, _, _, none⟩) rfl (fun K' hK => ?_) (AllReadyH.nil)))
                · go_simp
                  refine (HR.out _).mono ?_
                  rintro e wa ⟨rfl, la⟩
                  replace hl0 := Later.trans_ hl0 la
                  replace y1 := y1.keep la
                  refine hK.out _ _ (y1.cell rfl) (fun hHeld => ?_)
                  clear hK K'
                  try simp only [Act.put, List.setIfInBounds_toArray, List.set_cons_zero, List.set_cons_succ]
                  refine wpAnyH_take (i := 6) (oi := ⟨some 42, .move (.tmp 48), _, _, _, none⟩) (v := .tuple #[.agg (Tk tok).toArray, .int .i64 (n : Int), .int .i64 ee]) rfl (by kernel_rfl) (by kernel_rfl) (by kernel_rfl) (fun _ _ _ h => h) (Or.inl ⟨by rfl, fun _ _ => rfl⟩) hHeld ?_
                  simp only [Act.put, List.setIfInBounds_toArray, List.set_cons_zero, List.set_cons_succ]
                  refine wpAnyH_take (i := 7) (oi := ⟨some 49, .extract (.tmp 42) 0, _, _, _, none⟩) (v := .agg (Tk tok).toArray) rfl (by kernel_rfl) (by kernel_rfl) (by kernel_rfl) (fun _ _ _ h => h) (Or.inl ⟨by rfl, fun w _ => by go_simp⟩) hHeld ?_
                  simp only [Act.put, List.setIfInBounds_toArray, List.set_cons_zero, List.set_cons_succ]
                  refine wpAnyH_take (i := 8) (oi := ⟨some 50, .extract (.tmp 42) 1, _, _, _, none⟩) (v := .int .i64 (n : Int)) rfl (by kernel_rfl) (by kernel_rfl) (by kernel_rfl) (fun _ _ _ h => h) (Or.inl ⟨by rfl, fun w _ => by go_simp⟩) hHeld ?_
                  simp only [Act.put, List.setIfInBounds_toArray, List.set_cons_zero, List.set_cons_succ]
                  refine wpAnyH_take (i := 9) (oi := ⟨some 51, .extract (.tmp 42) 2, _, _, _, none⟩) (v := .int .i64 ee) rfl (by kernel_rfl) (by kernel_rfl) (by kernel_rfl) (fun _ _ _ h => h) (Or.inl ⟨by rfl, fun w _ => by go_simp⟩) hHeld ?_
                  simp only [Act.put, List.setIfInBounds_toArray, List.set_cons_zero, List.set_cons_succ]
                  refine wpAnyH_ready (rs := [10]) (by kernel_rfl) (by simp) (AllReadyH.cons (o := ⟨some 10, .alloc 41, _, _, _, none⟩) rfl (fun K' hK => ?_) (AllReadyH.nil))
                  go_simp
                  refine hK.out _ (wa.alloc (.cells (Tk Lx.Tok.zero).toArray 41)) ((y1.alloc _).cell rfl) (fun hHeld => ?_)
                  clear hK K'
                  try simp only [Act.put, List.setIfInBounds_toArray, List.set_cons_zero, List.set_cons_succ]
                  have b10 : Blk (wa.alloc (.cells (Tk Lx.Tok.zero).toArray 41)) wa.heap.size 41 (Tk Lx.Tok.zero) := Blk.new wa _ _ _ rfl
                  have s0 := later1 wa (.cells (Tk Lx.Tok.zero).toArray 41)
                  have hG1 : w'.heap.size ≤ wa.heap.size := hl0.size
                  have hG9 : wa.heap.size ≠ B9 := Nat.ne_of_gt y1.lt
                  replace hl0 := Later.trans_ hl0 s0
                  replace y1 := y1.keep s0
                  clear s0
                  obtain ⟨G, hG⟩ : ∃ G, G = wa.heap.size := ⟨_, rfl⟩
                  rw [← hG] at b10 hG1 hG9 ⊢
                  clear hG
                  generalize wa.alloc (.cells (Tk Lx.Tok.zero).toArray 41) = wb at hl0 y1 b10 hHeld ⊢
                  refine wpAnyH_ready (rs := [11]) (by kernel_rfl) (by simp) (AllReadyH.cons (o := ⟨none, .store 41 (.tmp 10) (.tmp 49), _, _, _, none⟩) rfl (fun K' hK => ?_) (AllReadyH.nil))
                  refine wp_store_whole _ _ _ rfl G 41 (Tk Lx.Tok.zero) (Tk tok) rfl rfl b10 (tk_sz _) rfl (tk_one _) ?_
                  intro u3 b10' o3
                  replace y1 := y1.only o3 hG9.symm
                  replace hl0 := Below.only hl0 o3 hG1
                  refine hK.out _ _ (y1.cell rfl) (fun hHeld => ?_)
                  clear hK K'
                  try simp only [Act.put]
                  refine wpAnyH_take (i := 12) (oi := ⟨some 11, .assign (.tmp 50), _, _, _, none⟩) (v := .int .i64 (n : Int)) rfl (by kernel_rfl) (by kernel_rfl) (by kernel_rfl) (fun _ _ _ h => h) (Or.inl ⟨by rfl, fun _ _ => rfl⟩) hHeld ?_
                  simp only [Act.put, List.setIfInBounds_toArray, List.set_cons_zero, List.set_cons_succ]
                  refine wpAnyH_take (i := 13) (oi := ⟨some 12, .assign (.tmp 51), _, _, _, none⟩) (v := .int .i64 ee) rfl (by kernel_rfl) (by kernel_rfl) (by kernel_rfl) (fun _ _ _ h => h) (Or.inl ⟨by rfl, fun _ _ => rfl⟩) hHeld ?_
                  simp only [Act.put, List.setIfInBounds_toArray, List.set_cons_zero, List.set_cons_succ]
                  refine wpAnyH_done (by kernel_rfl) ?_ _
                  clear hHeld b10 HR
                  try simp only [Act.put]
                  have hor2 := own_below hor hl0
                  have hNG := fun g e => Nat.ne_of_lt (Nat.lt_of_lt_of_le (hor.lt g e).2 hG1)
                  have hbr2 := Later.trans_ hbr hl0
                  have hG2 : w2.heap.size ≤ G := Nat.le_trans hbr.size hG1
                  clear y1 hl0 hor hbr hG1 hG9 hIx
                  by_cases he : ee = 0
                  · obtain ⟨hg2, hn1, hn2⟩ := HOK.out he
                    have e0 : (ee != 0) = false := by rw [he]; rfl
                    have cG := b10'.cell (j := 1) (v := .int .i64 tok.at_) rfl
                    have fG := b10'.frz 1
                    have b11 := b10'.set 1 (.int .i64 (p : Int))
                    have o4 := Only.set u3 G 1 (.int .i64 (p : Int))
                    have hHG := Lib.hid hg2
                    clear hg2 he HOK HBAD
                    go_wp2_with (first
                      | (refine wpList_load_blk (o := ⟨some 60, .load 41 (.tmp 10), _, _, _, none⟩) rfl _ _ rfl G 41 [.int .i64 tok.kind, .int .i64 (p : Int), .int .i64 tok.n, .string ⟨tok.s.toArray⟩] _ rfl b11 Tryd.underlying41 rfl (tk_sz { tok with at_ := (p : Int) }) ?_; obtain ⟨uW, hUW⟩ : ∃ x, x = u3.setCell ⟨G, 1, none⟩ (.int .i64 (p : Int)) := ⟨_, rfl⟩; rw [← hUW] at o4 ⊢; clear hUW b11 cG fG b10')
                      | (at_builtin; refine wpList_append_own _ rfl _ _ 23 rfl w2.heap.size 41 i0 (.agg #[.int .i64 0, .int .i64 0, .int .i64 0, .string ⟨#[]⟩]) 4 40 Tryd.underlying23 hi hz0 hz1 hz2 rfl (by decide) _ _ _ rfl ((own_only hor2 o4 hNG).alloc _) ⟨uW.heap.size, 0, none⟩ 1 1 [.int .i64 tok.kind, .int .i64 (p : Int), .int .i64 tok.n, .string ⟨tok.s.toArray⟩] rfl rfl (fun j u hu => World.news_of_block (heap_alloc_new uW _) j u hu) (tk_one { tok with at_ := (p : Int) }) (by unfold maxLen; omega) (by omega) (by have := hbr2.size; have := o4.size; simp; omega) ?_; intro v' w5 hown' hgrow _))
                    have ho2 := own_snocT (t := { tok with at_ := (p : Int) }) hown'
                    have hb3 : Later w2 w5 := ((Below.only hbr2 o4 hG2).alloc (by have := hbr2.size; have := o4.size; omega) _).grown hgrow (by have := hbr2.size; have := o4.size; simp; omega) (fun j hj => (hor2.lt j hj).1)
                    clear hown' hgrow hor2
                    go_wp2
                    go_roundg (s.size - (p + n))
                    case measure => omega
                    case rel => exact ⟨p + n, acc ++ [{ tok with at_ := (p : Int) }], by omega, by go_num, (show Aside (Lx.Going (L s) (p + n) (acc ++ [{ tok with at_ := (p : Int) }]) fin) from hHG.out), by simp; omega, ho2, hb3⟩
                  · have hRe := HBAD.out he
                    have e0 : (ee != 0) = true := bne_iff_ne.2 he
                    have bP2 := bP.keep hbr2
                    have HF := Lib.hid hRe
                    clear hRe HBAD HOK
                    go_wp2_with (refine wpList_store_abs (o := ⟨none, .store 26 (.tmp 3) (.tmp 56), _, _, _, none⟩) rfl _ _ _ rfl w.heap.size 26 _ (Pb p ee) rfl rfl bP2 (pb_sz _ _) rfl (pb_one _ _) ?_; intro w6 y3 y4)
                    try rw [Exit.noGoto_ret]
                    rw [HF.out]
                    exact bodyPost_ret (v := .tuple #[.slice none 0 0, .agg (Pb p ee).toArray]) (results_tc (cs := Pb p ee) Tryd.results10 _ _ w.heap.size 26 (.slice none 0 0) _ rfl rfl y3 Tryd.underlying26 rfl (pb_sz _ _)) rfl ⟨none, 0, 0, rfl, rfl, Nat.le_refl _, Nat.zero_le _, Sl.nil _ _ _, Below.only (Later.trans_ lw hbr2) y4 (Nat.le_refl _)⟩
                · go_simp
                  refine hK.out _ (u0.alloc (.cells (Tk Lx.Tok.zero).toArray 41)) ((y1.alloc _).cell rfl) (fun hHeld => ?_)
                  clear hK K'
                  try simp only [Act.put, List.setIfInBounds_toArray, List.set_cons_zero, List.set_cons_succ]
                  have b10 : Blk (u0.alloc (.cells (Tk Lx.Tok.zero).toArray 41)) u0.heap.size 41 (Tk Lx.Tok.zero) := Blk.new u0 _ _ _ rfl
                  have s0 := later1 u0 (.cells (Tk Lx.Tok.zero).toArray 41)
                  have hG1 : w'.heap.size ≤ u0.heap.size := hl0.size
                  have hG9 : u0.heap.size ≠ B9 := Nat.ne_of_gt y1.lt
                  replace hl0 := Later.trans_ hl0 s0
                  replace y1 := y1.keep s0
                  clear s0
                  obtain ⟨G, hG⟩ : ∃ G, G = u0.heap.size := ⟨_, rfl⟩
                  rw [← hG] at b10 hG1 hG9 ⊢
                  clear hG
                  generalize u0.alloc (.cells (Tk Lx.Tok.zero).toArray 41) = wa at hl0 y1 b10 hHeld ⊢
                  refine wpAnyH_ready (rs := [5]) (by kernel_rfl) (by simp) (AllReadyH.cons (o := ⟨some 48, .call { callee := .value (.tmp 44), args := #[.tmp 47], argTypes := #[9] }, _, _, _, none⟩) rfl (fun K' hK => ?_) (AllReadyH.nil))
                  go_simp
                  refine (HR.out _).mono ?_
                  rintro e wb ⟨rfl, la⟩
                  replace hl0 := Later.trans_ hl0 la
                  replace y1 := y1.keep la
                  replace b10 := b10.keep la
                  refine hK.out _ _ (y1.cell rfl) (fun hHeld => ?_)
                  clear hK K'
                  try simp only [Act.put, List.setIfInBounds_toArray, List.set_cons_zero, List.set_cons_succ]
                  refine wpAnyH_take (i := 6) (oi := ⟨some 42, .move (.tmp 48), _, _, _, none⟩) (v := .tuple #[.agg (Tk tok).toArray, .int .i64 (n : Int), .int .i64 ee]) rfl (by kernel_rfl) (by kernel_rfl) (by kernel_rfl) (fun _ _ _ h => h) (Or.inl ⟨by rfl, fun _ _ => rfl⟩) hHeld ?_
                  simp only [Act.put, List.setIfInBounds_toArray, List.set_cons_zero, List.set_cons_succ]
                  refine wpAnyH_take (i := 7) (oi := ⟨some 49, .extract (.tmp 42) 0, _, _, _, none⟩) (v := .agg (Tk tok).toArray) rfl (by kernel_rfl) (by kernel_rfl) (by kernel_rfl) (fun _ _ _ h => h) (Or.inl ⟨by rfl, fun w _ => by go_simp⟩) hHeld ?_
                  simp only [Act.put, List.setIfInBounds_toArray, List.set_cons_zero, List.set_cons_succ]
                  refine wpAnyH_take (i := 8) (oi := ⟨some 50, .extract (.tmp 42) 1, _, _, _, none⟩) (v := .int .i64 (n : Int)) rfl (by kernel_rfl) (by kernel_rfl) (by kernel_rfl) (fun _ _ _ h => h) (Or.inl ⟨by rfl, fun w _ => by go_simp⟩) hHeld ?_
                  simp only [Act.put, List.setIfInBounds_toArray, List.set_cons_zero, List.set_cons_succ]
                  refine wpAnyH_take (i := 9) (oi := ⟨some 51, .extract (.tmp 42) 2, _, _, _, none⟩) (v := .int .i64 ee) rfl (by kernel_rfl) (by kernel_rfl) (by kernel_rfl) (fun _ _ _ h => h) (Or.inl ⟨by rfl, fun w _ => by go_simp⟩) hHeld ?_
                  simp only [Act.put, List.setIfInBounds_toArray, List.set_cons_zero, List.set_cons_succ]
                  refine wpAnyH_ready (rs := [11]) (by kernel_rfl) (by simp) (AllReadyH.cons (o := ⟨none, .store 41 (.tmp 10) (.tmp 49), _, _, _, none⟩) rfl (fun K' hK => ?_) (AllReadyH.nil))
                  refine wp_store_whole _ _ _ rfl G 41 (Tk Lx.Tok.zero) (Tk tok) rfl rfl b10 (tk_sz _) rfl (tk_one _) ?_
                  intro u3 b10' o3
                  replace y1 := y1.only o3 hG9.symm
                  replace hl0 := Below.only hl0 o3 hG1
                  refine hK.out _ _ (y1.cell rfl) (fun hHeld => ?_)
                  clear hK K'
                  try simp only [Act.put]
                  refine wpAnyH_take (i := 12) (oi := ⟨some 11, .assign (.tmp 50), _, _, _, none⟩) (v := .int .i64 (n : Int)) rfl (by kernel_rfl) (by kernel_rfl) (by kernel_rfl) (fun _ _ _ h => h) (Or.inl ⟨by rfl, fun _ _ => rfl⟩) hHeld ?_
                  simp only [Act.put, List.setIfInBounds_toArray, List.set_cons_zero, List.set_cons_succ]
                  refine wpAnyH_take (i := 13) (oi := ⟨some 12, .assign (.tmp 51), _, _, _, none⟩) (v := .int .i64 ee) rfl (by kernel_rfl) (by kernel_rfl) (by kernel_rfl) (fun _ _ _ h => h) (Or.inl ⟨by rfl, fun _ _ => rfl⟩) hHeld ?_
                  simp only [Act.put, List.setIfInBounds_toArray, List.set_cons_zero, List.set_cons_succ]
                  refine wpAnyH_done (by kernel_rfl) ?_ _
                  clear hHeld b10 HR
                  try simp only [Act.put]
                  have hor2 := own_below hor hl0
                  have hNG := fun g e => Nat.ne_of_lt (Nat.lt_of_lt_of_le (hor.lt g e).2 hG1)
                  have hbr2 := Later.trans_ hbr hl0
                  have hG2 : w2.heap.size ≤ G := Nat.le_trans hbr.size hG1
                  clear y1 hl0 hor hbr hG1 hG9 hIx
                  by_cases he : ee = 0
                  · obtain ⟨hg2, hn1, hn2⟩ := HOK.out he
                    have e0 : (ee != 0) = false := by rw [he]; rfl
                    have cG := b10'.cell (j := 1) (v := .int .i64 tok.at_) rfl
                    have fG := b10'.frz 1
                    have b11 := b10'.set 1 (.int .i64 (p : Int))
                    have o4 := Only.set u3 G 1 (.int .i64 (p : Int))
                    have hHG := Lib.hid hg2
                    clear hg2 he HOK HBAD
                    go_wp2_with (first
                      | (refine wpList_load_blk (o := ⟨some 60, .load 41 (.tmp 10), _, _, _, none⟩) rfl _ _ rfl G 41 [.int .i64 tok.kind, .int .i64 (p : Int), .int .i64 tok.n, .string ⟨tok.s.toArray⟩] _ rfl b11 Tryd.underlying41 rfl (tk_sz { tok with at_ := (p : Int) }) ?_; obtain ⟨uW, hUW⟩ : ∃ x, x = u3.setCell ⟨G, 1, none⟩ (.int .i64 (p : Int)) := ⟨_, rfl⟩; rw [← hUW] at o4 ⊢; clear hUW b11 cG fG b10')
                      | (at_builtin; refine wpList_append_own _ rfl _ _ 23 rfl w2.heap.size 41 i0 (.agg #[.int .i64 0, .int .i64 0, .int .i64 0, .string ⟨#[]⟩]) 4 40 Tryd.underlying23 hi hz0 hz1 hz2 rfl (by decide) _ _ _ rfl ((own_only hor2 o4 hNG).alloc _) ⟨uW.heap.size, 0, none⟩ 1 1 [.int .i64 tok.kind, .int .i64 (p : Int), .int .i64 tok.n, .string ⟨tok.s.toArray⟩] rfl rfl (fun j u hu => World.news_of_block (heap_alloc_new uW _) j u hu) (tk_one { tok with at_ := (p : Int) }) (by unfold maxLen; omega) (by omega) (by have := hbr2.size; have := o4.size; simp; omega) ?_; intro v' w5 hown' hgrow _))
                    have ho2 := own_snocT (t := { tok with at_ := (p : Int) }) hown'
                    have hb3 : Later w2 w5 := ((Below.only hbr2 o4 hG2).alloc (by have := hbr2.size; have := o4.size; omega) _).grown hgrow (by have := hbr2.size; have := o4.size; simp; omega) (fun j hj => (hor2.lt j hj).1)
                    clear hown' hgrow hor2
                    go_wp2
                    go_roundg (s.size - (p + n))
                    case measure => omega
                    case rel => exact ⟨p + n, acc ++ [{ tok with at_ := (p : Int) }], by omega, by go_num, (show Aside (Lx.Going (L s) (p + n) (acc ++ [{ tok with at_ := (p : Int) }]) fin) from hHG.out), by simp; omega, ho2, hb3⟩
                  · have hRe := HBAD.out he
                    have e0 : (ee != 0) = true := bne_iff_ne.2 he
                    have bP2 := bP.keep hbr2
                    have HF := Lib.hid hRe
                    clear hRe HBAD HOK
                    go_wp2_with (refine wpList_store_abs (o := ⟨none, .store 26 (.tmp 3) (.tmp 56), _, _, _, none⟩) rfl _ _ _ rfl w.heap.size 26 _ (Pb p ee) rfl rfl bP2 (pb_sz _ _) rfl (pb_one _ _) ?_; intro w6 y3 y4)
                    try rw [Exit.noGoto_ret]
                    rw [HF.out]
                    exact bodyPost_ret (v := .tuple #[.slice none 0 0, .agg (Pb p ee).toArray]) (results_tc (cs := Pb p ee) Tryd.results10 _ _ w.heap.size 26 (.slice none 0 0) _ rfl rfl y3 Tryd.underlying26 rfl (pb_sz _ _)) rfl ⟨none, 0, 0, rfl, rfl, Nat.le_refl _, Nat.zero_le _, Sl.nil _ _ _, Below.only (Later.trans_ lw hbr2) y4 (Nat.le_refl _)⟩
            · obtain rfl : k = 5 := by omega
              have hee : ee = 70 := by
                have h := HT.out
                rw [HHD.out, HC5.out hno] at h
                exact (congrArg (·.2.2) h).symm
              subst hee
              have HF := Lib.hid (HBAD.out (by decide))
              have hbr2 := Later.trans_ hbr hlx
              have bP2 := bP.keep hbr2
              clear HC5 HHD HT HBAD HOK HKF
              go_wp2_with (refine wpList_store_abs (o := ⟨none, .store 26 (.tmp 3) (.tmp 68), _, _, _, none⟩) rfl _ _ _ rfl w.heap.size 26 _ (Pb p 70) rfl rfl bP2 (pb_sz _ _) rfl (pb_one _ _) ?_; intro w6 y3 y4)
              try rw [Exit.noGoto_ret]
              rw [HF.out]
              exact bodyPost_ret (v := .tuple #[.slice none 0 0, .agg (Pb p 70).toArray]) (results_tc (cs := Pb p 70) Tryd.results10 _ _ w.heap.size 26 (.slice none 0 0) _ rfl rfl y3 Tryd.underlying26 rfl (pb_sz _ _)) rfl ⟨none, 0, 0, rfl, rfl, Nat.le_refl _, Nat.zero_le _, Sl.nil _ _ _, Below.only (Later.trans_ lw hbr2) y4 (Nat.le_refl _)⟩
    · obtain rfl : p = s.size := by omega
      have hf := Lx.Going.end_ hgo (by omega)
      have HF := Lib.hid hf
      have bP2 := bP.keep hbr
      clear hf hgo HS
      obtain ⟨A, c2, rfl, hc2, hc3, _, _⟩ := own_form hor
      go_wp2_with (refine wpList_store_abs (o := ⟨none, .store 26 (.tmp 3) (.tmp 70), _, _, _, none⟩) rfl _ _ _ rfl w.heap.size 26 _ (Pb 0 0) rfl rfl bP2 (pb_sz _ _) rfl (pb_one _ _) ?_; intro w3 y1 y2)
      try rw [Exit.noGoto_ret]
      have hlt2 := bP.lt
      have hor3 := own_only hor y2 (fun g e => by have := (hor.lt g e).1; omega)
      rw [HF.out]
      exact bodyPost_ret (v := .tuple #[.slice A acc.length c2, .agg (Pb 0 0).toArray]) (results_tc (cs := Pb 0 0) Tryd.results10 _ _ w.heap.size 26 (.slice A acc.length c2) _ rfl rfl y1 Tryd.underlying26 rfl (pb_sz _ _)) rfl ⟨A, acc.length, c2, rfl, rfl, hc2, hc3, Sl.own hor3, Below.only (Later.trans_ lw hbr) y2 (Nat.le_refl _)⟩

theorem tokens_any (s : ByteArray) (w : World) : Calls Tryd.prog 10 #[.string s] w (GotToks (Lx.Tokens (L s)) w) := by
  unfold Lx.Tokens
  rw [L_len]
  by_cases h : s.size ≤ 16384
  · rw [if_pos h]; exact tokens_short s w h
  · rw [if_neg h]; exact tokens_long s w (by omega)
end Go.Proofs.YtjopadfkdpcjmaaDoor
