/-
  THE WALKS OF the reference's Short, Input, Of.
-/
import Derived.Test.YtoigpokmlohhkaaDoorShaC
namespace Go.Proofs.YtoigpokmlohhkaaDoor
open Go.RowKit

/-- The first bytes of the hash. -/
def digOf (b : Wm.Bs) : Wm.Bs := (iv8 (Hs.sha (bv b))).take 16
theorem sha_len (b : Wm.Bs) : (iv8 (Hs.sha (bv b))).length = 32 := by have := shaC_len b; unfold shaC at this; rwa [U_length] at this
theorem digOf_len (b : Wm.Bs) : (digOf b).length = 16 := by unfold digOf; rw [List.length_take, sha_len]; rfl
theorem digOf_bs (b : Wm.Bs) : Wm.isBs (digOf b) := bs_take (iv8_bs _) _
theorem U_digOf (b : Wm.Bs) : U (digOf b) = (shaC b).take 16 := by unfold digOf shaC U; rw [List.map_take]

set_option maxRecDepth 100000 in
set_option maxHeartbeats 1000000 in
theorem refShort_any (A : Option Addr) (n c : Nat) (b : Wm.Bs) (w : World) (hs : Sl w 1 A n (U b)) (hb : Wm.isBs b) (hn : n ≤ 100000) (tab : Tab0 w) :
    Calls Tryd.prog 67 #[.slice A n c] w fun e w' => e = .returned (.agg (U (digOf b)).toArray) ∧ Later w w' := by
  obtain ⟨H, hH⟩ : ∃ H, H = iv8 (Hs.sha (bv b)) := ⟨_, rfl⟩
  have hHl : H.length = 32 := by rw [hH]; exact sha_len b
  have hHb : Wm.isBs H := by rw [hH]; exact iv8_bs _
  have hD : digOf b = H.take 16 := by rw [hH]; rfl
  obtain ⟨C, hC⟩ : ∃ C, C = U H := ⟨_, rfl⟩
  have HSM := Lib.hid fun (w' : World) (hl : Later w w') => by have h := refSum_any A n c b w' (hs.keep hl) hb hn (tab.keep hl); rw [show shaC b = C from by rw [hC, hH]; rfl] at h; exact h
  have hszC : (Tryd.prog.info? 35).map (·.size) = some C.length := by rw [hC, U_length, hHl]; kernel_rfl
  have hC1 : ∀ v ∈ C, v.oneCell' = true := by rw [hC]; exact U_one _
  have hCl : (PartB [] 32).length = C.length := by rw [hC, U_length, hHl]; rfl
  have HCC := Lib.hid hC; have HC1 := Lib.hid hC1; have HCl := Lib.hid hCl; have HHL := Lib.hid hHl; have HD := Lib.hid hD
  clear hs tab hH hC hC1 hCl hHl hD
  go_enter Tryd.func67, Tryd.ntmps67
  go_wp2_with (first
    | (go_at_call 22; (with_reducible refine (HSM.out _ ((Below.refl _ _).alloc (Nat.le_refl _) _)).mono ?_); rintro e w1 ⟨rfl, l1⟩)
    | ((with_reducible refine wpList_store_abs (o := ⟨none, .store 35 (.tmp 3) (.tmp 7), _, _, _, none⟩) rfl _ _ _ rfl w1.heap.size 35 (PartB [] 32) C ?_ ?_ ?_ hszC HCl.out HC1.out ?_); rfl; rfl; exact Blk.new _ _ _ _ rfl; intro w2 g3 o2))
  have n1 := l1.size
  have n2 := o2.size
  simp only [World.size_alloc] at n1 n2
  have f1 : Blk w2 w.heap.size 47 (PartB [] 16) := (((Blk.new w _ _ _ rfl).keep l1).alloc _).only o2 (by omega)
  have f2 : Later w w2 := Below.only ((Later.trans_ ((Below.refl _ _).alloc (Nat.le_refl _) _) l1).alloc (by omega) _) o2 (by omega)
  rw [HCC.out] at g3
  obtain ⟨B3, hB3⟩ : ∃ B3, B3 = w1.heap.size := ⟨_, rfl⟩
  rw [← hB3] at g3 ⊢
  have m3 : B3 < w2.heap.size := by omega
  have m0 : w.heap.size < B3 := by omega
  clear l1 o2 n1 n2 hB3 HSM
  go_loopw [5] (fun i wq => ∃ k : Nat, k ≤ 16 ∧ i = .int .i64 k ∧ Blk wq w.heap.size 47 (PartB [] 16) ∧ Blk wq B3 35 (U H) ∧ Blk wq w2.heap.size 47 (PartB (H.take k) 16) ∧ Later w wq) (fun i _ => 16 - (intOf i).toNat)
  case atStart => exact ⟨0, by omega, rfl, f1.alloc _, g3.alloc _, Blk.new _ _ _ _ rfl, f2.alloc f2.size _⟩
  case round =>
    clear f1 f2 g3
    obtain ⟨k, hk, rfl, k1, k2, k3, k4⟩ := hrel
    have htl : (H.take k).length = k := by rw [List.length_take, HHL.out]; omega
    by_cases hlt : k < 16
    · obtain ⟨x, hc, x0, x1, HX⟩ := k2.byte hHb k (by rw [HHL.out]; omega)
      have htk : H.take (k + 1) = H.take k ++ [x] := by
        rw [List.take_succ_eq_append_getElem (by rw [HHL.out]; omega)]
        congr 2
        rw [← HX.out, List.getD_eq_getElem?_getD, List.getElem?_eq_getElem (by rw [HHL.out]; omega)]; rfl
      obtain ⟨u, hcell⟩ := Option.isSome_iff_exists.1 (k3.there1 (j := k) (by rw [PartB.len (by omega)]; omega))
      have hfr := k3.frz k
      have hset := k3.set k (.int .u8 x)
      have hps := PartB.set (b := H.take k) (n := 16) (by omega) x
      rw [htl] at hps
      rw [hps, ← htk] at hset
      have e0 : (0 : Int) ≤ (k : Int) := by omega
      have e1 : (k : Int) < 16 := by omega
      have e2 : (k : Int) < 32 := by omega
      clear htk htl hps HX
      go_wp2
      go_roundw
      case rel => exact ⟨k + 1, by omega, by go_num, k1.set_other _ _ (by simp; omega), k2.set_other _ _ (by simp; omega), hset, k4.setCell (by simp; omega) _⟩
      case measure => simp [intOf]; omega
    · obtain rfl : k = 16 := by omega
      rw [← HD.out, PartB.full (digOf_len b)] at k3
      obtain ⟨F, hF⟩ : ∃ F, F = U (digOf b) := ⟨_, rfl⟩
      rw [← hF] at k3
      have hol : F.length = 16 := by rw [hF, U_length]; exact digOf_len _
      have hszF : (Tryd.prog.info? 47).map (·.size) = some F.length := by rw [hol]; kernel_rfl
      have hF1 : ∀ v ∈ F, v.oneCell' = true := by rw [hF]; exact U_one _
      have hFl : (PartB [] 16).length = F.length := by rw [hol]; rfl
      have HF := Lib.hid hF
      have HF1 := Lib.hid hF1
      have HFl := Lib.hid hFl
      have hu8 := Tryd.underlying47
      have HU8 := Lib.hid hu8
      clear hF hF1 hFl hu8 hol htl
      go_wp2_with (first
        | ((with_reducible refine wpList_load_blk (o := ⟨some 18, .load 47 (.tmp 4), _, _, _, none⟩) rfl _ _ rfl w2.heap.size 47 F _ ?_ k3 HU8.out rfl hszF ?_); rfl)
        | ((with_reducible refine wpList_store_abs (o := ⟨none, .store 47 (.tmp 2) (.tmp 18), _, _, _, none⟩) rfl _ _ _ rfl w.heap.size 47 (PartB [] 16) F ?_ ?_ k1 hszF HFl.out HF1.out ?_); rfl; rfl; intro w5 z1 z2))
      exact bodyPost_ret (v := .agg F.toArray) (results_blk Tryd.results67 _ _ w.heap.size _ F _ rfl z1 HU8.out rfl hszF) rfl ⟨by rw [HF.out], Below.only k4 z2 (Nat.le_refl _)⟩

/-- The reference's Input. -/
theorem ofS_ofB (s : ByteArray) : Wm.ofS s = sb s := rfl
set_option maxRecDepth 100000 in
set_option maxHeartbeats 1000000 in
theorem refInput_any (tag : Int) (A : Option Addr) (n c : Nat) (l : List ByteArray) (w : World) (hs : Sl w 1 A n (Strs l)) (h400 : ∀ s ∈ l, s.size ≤ 400) (hn : n ≤ 200) :
    Calls Tryd.prog 28 #[.int .i64 tag, .slice A n c] w (MadeV (inputB tag l) w) := by
  obtain ⟨i0, hi, hz0, hz1, hz2⟩ := info_parts u8_info
  have hll := hs.slen
  have hil : ∀ k, (inputB tag (l.take k)).length ≤ 82001 := fun k => by
    have h1 := inputB_le tag (l.take k) (fun x hx => h400 x (List.mem_of_mem_take hx))
    have h2 : (l.take k).length ≤ l.length := by rw [List.length_take]; omega
    omega
  have HLL := Lib.hid hll
  have htag : IntKind.u8.wrap tag = tag % 256 := IntKind.wrap_u8 _
  obtain ⟨tg, htg, t0, t1⟩ : ∃ tg, IntKind.u8.wrap tag = tg ∧ 0 ≤ tg ∧ tg < 256 := ⟨_, rfl, by rw [htag]; omega, by rw [htag]; omega⟩
  have HTG : Hid (tg = tag % 256) := Lib.hid (htg.symm.trans htag)
  have H4 := Lib.hid h400; have HIL := Lib.hid hil
  clear htag hll h400 hil
  go_enter Tryd.func28, Tryd.ntmps28
  go_wp2
  have o1 : (w.alloc (.cells #[.int .u8 tg] 5)).ownsRow w.heap.size 5 1 (.slice (some ⟨w.heap.size, 0, none⟩) 1 1) 1 [.int .u8 tg] := World.ownsRow_lit w #[.int .u8 tg] 1 (Nat.le_refl _) (by decide) rfl
  have hst : inputB tag (l.take 0) = [tg] := by simp [inputB, HTG.out]
  have HST := Lib.hid hst
  clear hst htg
  go_loopw [5, 6] (fun v i wr => ∃ k : Nat, k ≤ n ∧ i = .int .i64 k ∧ wr.ownsRow w.heap.size 5 1 v (inputB tag (l.take k)).length (U (inputB tag (l.take k))) ∧ Later w wr) (fun _ i _ => n - (intOf i).toNat)
  case atStart => exact ⟨0, Nat.zero_le _, rfl, by rw [HST.out]; exact o1, (Below.refl _ _).alloc (Nat.le_refl _) _⟩
  case round =>
    clear o1
    obtain ⟨k, hk, rfl, hor, hbr⟩ := hrel
    by_cases hlt : k < n
    · obtain ⟨ad, s, rfl, hbl, hc, hmem, HX⟩ := (hs.keep hbr).str hlt
      have hs4 := H4.out s hmem
      have hmE : (Wm.encB (sb s)).length ≤ 410 := by have := encB_le s (by omega); omega
      have hik := HIL.out k
      have hnx : inputB tag (l.take (k + 1)) = inputB tag (l.take k) ++ Wm.encB (sb s) := by rw [HX.out.1, inputB_snoc]
      have HN := Lib.hid hnx
      have HB := Lib.hid (madeV_as (ref01Bytes_any s wr (by omega) (by rw [ofS_ofB]; omega)))
      rw [ofS_ofB] at HB
      obtain ⟨K, hK⟩ : ∃ K, K = inputB tag (l.take k) := ⟨_, rfl⟩
      rw [← hK] at hor hik HN
      obtain ⟨E, hE⟩ : ∃ E, E = Wm.encB (sb s) := ⟨_, rfl⟩
      rw [← hE] at HB HN hmE
      clear hnx HX hK hE
      go_wp2_with (first
        | (go_at_call 68; (with_reducible refine HB.out.mono ?_); rintro e w1 ⟨A1, c1, rfl, m1, m2, _, m3, m4⟩)
        | (at_builtin; refine wpList_app _ rfl _ _ 33 rfl w.heap.size 5 i0 (.int .u8 0) 1 1 Tryd.underlying33 hi hz0 hz1 hz2 rfl (by decide) _ _ _ rfl (own_below hor m4) A1 E.length c1 _ rfl m3 (U_one _) (by unfold maxLen; omega) (by omega) (Later.trans_ hbr m4).size ?_; intro v2 w2 hown2 hgrow2))
      have hb2 : Later w w2 := (Later.trans_ hbr m4).grown hgrow2 (Later.trans_ hbr m4).size (fun k hk => (hor.lt k hk).1)
      have ho2 := own_app (b := E) rfl hown2
      rw [← HN.out] at ho2
      clear hown2 hgrow2 hor m3 m4
      go_roundw
      case rel => exact ⟨k + 1, by omega, by go_num, ho2, hb2⟩
      case measure => simp [intOf]; omega
    · rw [List.take_of_length_le (by rw [HLL.out]; omega)] at hor
      go_wp2
      go_ret
      exact ⟨_, rfl, hor, hbr⟩

set_option maxRecDepth 100000 in
set_option maxHeartbeats 1000000 in
theorem refOf_any (tag : Int) (A : Option Addr) (n c : Nat) (l : List ByteArray) (w : World) (hs : Sl w 1 A n (Strs l)) (h400 : ∀ s ∈ l, s.size ≤ 400) (hn : n ≤ 200) (tab : Tab0 w) :
    Calls Tryd.prog 27 #[.int .i64 tag, .slice A n c] w fun e w' => e = .returned (.agg (U (digOf (inputB tag l))).toArray) ∧ Later w w' := by
  have hil := inputB_le tag l h400
  have hll := hs.slen
  obtain ⟨I, hI⟩ : ∃ I, I = inputB tag l := ⟨_, rfl⟩
  have hIb : Wm.isBs I := by rw [hI]; exact inputB_bs _ _
  have HIN := Lib.hid fun (w' : World) (hl : Later w w') => by have h := madeV_as (refInput_any tag A n c l w' (hs.keep hl) h400 hn); rw [← hI] at h; exact h
  rw [← hI] at hil ⊢
  obtain ⟨F, hF⟩ : ∃ F, F = U (digOf I) := ⟨_, rfl⟩
  have hol : F.length = 16 := by rw [hF, U_length]; exact digOf_len _
  have HSH := Lib.hid fun (w' : World) (X : Option Addr) (c' : Nat) (hl : Later w w') (hx : Sl w' 1 X I.length (U I)) => by have h := refShort_any X I.length c' I w' hx hIb (by omega) (tab.keep hl); rw [← hF] at h; exact h
  have hszF : (Tryd.prog.info? 47).map (·.size) = some F.length := by rw [hol]; kernel_rfl
  have hF1 : ∀ v ∈ F, v.oneCell' = true := by rw [hF]; exact U_one _
  have hFl : (PartB [] 16).length = F.length := by rw [hol]; rfl
  rw [← hF]
  have HF1 := Lib.hid hF1
  have HFl := Lib.hid hFl
  have hu8 := Tryd.underlying47
  have HU8 := Lib.hid hu8
  clear hF hF1 hFl hu8 hol hI hil hll hs tab h400
  go_enter Tryd.func27, Tryd.ntmps27
  go_wp2_with (first
    | (go_at_call 28; (with_reducible refine (HIN.out _ ((Below.refl _ _).alloc (Nat.le_refl _) _)).mono ?_); rintro e w1 ⟨A1, c1, rfl, m1, m2, _, m3, m4⟩; have l1 := Later.trans_ ((Below.refl _ _).alloc (Nat.le_refl _) _) m4)
    | (go_at_call 67; (with_reducible refine (HSH.out _ A1 c1 l1 m3).mono ?_); rintro e w2 ⟨rfl, m5⟩)
    | ((with_reducible refine wpList_store_abs (o := ⟨none, .store 47 (.tmp 4) (.tmp 8), _, _, _, none⟩) rfl _ _ _ rfl w.heap.size 47 (PartB [] 16) F ?_ ?_ ?_ hszF HFl.out HF1.out ?_); rfl; rfl; exact (((Blk.new w _ _ _ rfl).keep m4).keep m5); intro w5 z1 z2))
  exact bodyPost_ret (v := .agg F.toArray) (results_blk Tryd.results27 _ _ w.heap.size _ F _ rfl z1 HU8.out rfl hszF) rfl ⟨rfl, Below.only (Later.trans_ l1 m5) z2 (Nat.le_refl _)⟩
end Go.Proofs.YtoigpokmlohhkaaDoor
