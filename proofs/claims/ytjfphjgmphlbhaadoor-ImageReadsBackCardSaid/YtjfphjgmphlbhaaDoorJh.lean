/-
  THE WALKS OF hash.Sum, and of wire.Bytes, which hash.Of calls.
-/
import Derived.Test.YtjfphjgmphlbhaaDoorJg
import Derived.Test.YtjfphjgmphlbhaaDoorJa
import Derived.Test.YtjfphjgmphlbhaaDoorRows
import Derived.Test.YtjfphjgmphlbhaaDoorCards
import Derived.Test.YtjfphjgmphlbhaaDoorTie
import Derived.Lib.Zigzag
import Derived.Lib.AppendStr
import Derived.Deep.RegionHeld3
import Derived.Laws.Cover3
import Derived.WalkKit
import Derived.ProofKit
import Derived.OpenShut
import Derived.SliceStrings
import Derived.Deep.Slices
import Derived.ArgAppend
import Derived.Deep.DeepHandedRow
import Derived.Lib.LaidTab
import Derived.SizedLaws
namespace Go.Proofs.YtjfphjgmphlbhaaDoor
open Go.RowKit

set_option maxRecDepth 100000 in
/-- The hash of bytes, as cells. -/
def shaC (b : Wm.Bs) : List Value := U (iv8 (Hs.sha (bv b)))
set_option maxRecDepth 100000 in
theorem shaC_len (b : Wm.Bs) : (shaC b).length = 32 := fresh_out _
set_option maxRecDepth 100000 in
theorem shaC_one (b : Wm.Bs) : ∀ v ∈ shaC b, v.oneCell' = true := U_one _

end Go.Proofs.YtjfphjgmphlbhaaDoor

/-
  THE WALKS OF wire.fold, appendInt, appendBytes, Bytes, and of the reference's Int and Bytes (layer 1).
-/
namespace Go.Proofs.YtjfphjgmphlbhaaDoor
open Go.RowKit


set_option maxRecDepth 100000 in
def MadeV (bs : Wm.Bs) (w : World) (e : Ending) (w' : World) : Prop := ∃ v, e = .returned v ∧ w'.ownsRow w.heap.size 5 1 v bs.length (U bs) ∧ Later w w'

set_option maxRecDepth 100000 in
set_option maxHeartbeats 400000 in
theorem ref01Bytes_any (s : ByteArray) (w : World) (hs : s.size ≤ 9223372036854775807) (hm : (Wm.encB (Wm.ofS s)).length ≤ 140737488355328) :
    Calls Tryd.prog 86 #[.string s] w (MadeV (Wm.encB (Wm.ofS s)) w) := by
  obtain ⟨i0, hi, hz0, hz1, hz2⟩ := info_parts u8_info
  have he : (Wm.encB (Wm.ofS s)).length = (Wm.encI s.size).length + s.size := by unfold Wm.encB; rw [List.length_append, Wm.ofS_length]
  have hc := refInt_any s.size w (by omega) (by omega)
  have hm2 : (Wm.encI s.size).length + s.size ≤ 140737488355328 := by omega
  have heq : Wm.encB (Wm.ofS s) = Wm.encI s.size ++ Wm.ofS s := by unfold Wm.encB; rw [Wm.ofS_length]
  rw [heq]
  clear he heq hm
  have H := Lib.hid hc; clear hc
  go_enter Tryd.func86, Tryd.ntmps86
  go_wp2_with (first
    | (go_at_call 85; refine (H.out).mono ?_; rintro e w1 ⟨v1, rfl, ho, hb⟩)
    | (at_builtin; refine Lib.wpList_append_own_string _ rfl _ _ 25 9 rfl w.heap.size 5 i0 Tryd.underlying25 Tryd.underlying9 hi hz0 hz1 hz2 _ _ _ rfl ho s rfl (by unfold maxLen; omega) hm2 hb.size ?_; intro v2 w2 ho2 hg2 _))
  go_ret
  exact ⟨_, rfl, own_str ho2, hb.grown hg2 hb.size (fun k hk => (ho.lt k hk).1)⟩

set_option maxRecDepth 100000 in
theorem madeV_as {f : FuncId} {args : Array Value} {bs : Wm.Bs} {w : World} (h : Calls Tryd.prog f args w (MadeV bs w)) : Calls Tryd.prog f args w (Made_H bs w) :=
  h.mono fun e w' ⟨v, he, ho, hb⟩ => by subst he; exact made_of ho hb
set_option maxRecDepth 100000 in
theorem ofS_sb (s : ByteArray) : Wm.ofS s = sb s := rfl

end Go.Proofs.YtjfphjgmphlbhaaDoor

/-
  THE WALK OF hash.Of: a digest of parts with a tag.
-/
namespace Go.Proofs.YtjfphjgmphlbhaaDoor
open Go.RowKit

set_option maxRecDepth 100000 in
theorem Sl.str {w : World} {A : Option Addr} {n : Nat} {l : List ByteArray} (h : Sl w 1 A n (Strs l)) {k : Nat} (hk : k < n) : ∃ ad s, A = some ad ∧ ad.block < w.heap.size ∧ w.cell? (ad.add k) = some (.string s) ∧ s ∈ l ∧ Hid (l.take (k + 1) = l.take k ++ [s] ∧ l[k]? = some s) := by
  obtain ⟨ad, u, e, hb, hu, hc⟩ := h.at1 hk
  have hl : k < l.length := by have := h.1; simp only [Strs, List.length_map] at this; omega
  simp only [Strs, List.getElem?_map, List.getElem?_eq_getElem hl, Option.map_some] at hu
  cases hu
  exact ⟨ad, l[k], e, hb, hc, List.getElem_mem hl, Lib.hid ⟨List.take_succ_eq_append_getElem hl, List.getElem?_eq_getElem hl⟩⟩
set_option maxRecDepth 100000 in
theorem Sl.slen {w : World} {A : Option Addr} {n : Nat} {l : List ByteArray} (h : Sl w 1 A n (Strs l)) : l.length = n := by
  have := h.1; simp only [Strs, List.length_map] at this; omega

set_option maxRecDepth 100000 in
/-- The input that Of hashes. -/
def inputB (tag : Int) (l : List ByteArray) : Wm.Bs := [tag % 256] ++ l.flatMap fun s => Wm.encB (sb s)
set_option maxRecDepth 100000 in
theorem inputB_snoc (tag : Int) (l : List ByteArray) (s : ByteArray) : inputB tag (l ++ [s]) = inputB tag l ++ Wm.encB (sb s) := by
  unfold inputB; simp
set_option maxRecDepth 100000 in
theorem encB_bs (s : ByteArray) : Wm.isBs (Wm.encB (sb s)) := Wm.encB_bytes (sb_bs s)
set_option maxRecDepth 100000 in
theorem inputB_bs (tag : Int) (l : List ByteArray) : Wm.isBs (inputB tag l) := bs_app (fun x hx => by simp at hx; omega) (fun x hx => by
  obtain ⟨s, _, h⟩ := List.mem_flatMap.1 hx
  exact encB_bs s x h)
set_option maxRecDepth 100000 in
theorem encB_le (s : ByteArray) (h : s.size ≤ 9223372036854775807) : (Wm.encB (sb s)).length ≤ s.size + 10 := by
  rw [Wm.encB_len, sb_len]
  have := Wm.encI_len (n := s.size) (by omega) (by omega)
  omega
set_option maxRecDepth 100000 in
theorem inputB_le (tag : Int) (l : List ByteArray) (h : ∀ s ∈ l, s.size ≤ 400) : (inputB tag l).length ≤ 1 + 410 * l.length := by
  induction l with
  | nil => simp [inputB]
  | cons s r ih =>
    have h1 := ih (fun x hx => h x (List.mem_cons_of_mem _ hx))
    have h2 := encB_le s (by have := h s List.mem_cons_self; omega)
    have h3 := h s List.mem_cons_self
    unfold inputB at *
    simp only [List.flatMap_cons, List.length_append, List.length_cons] at *
    omega
set_option maxRecDepth 100000 in
theorem inputB_take (tag : Int) (l : List ByteArray) (k : Nat) : (inputB tag (l.take k)).length ≤ (inputB tag l).length := by
  have e : l = l.take k ++ l.drop k := (List.take_append_drop k l).symm
  conv => rhs; rw [e]
  unfold inputB
  rw [List.flatMap_append, List.length_append, List.length_append, List.length_append]
  omega

set_option maxRecDepth 100000 in
theorem blk_range {w : World} {B : Nat} {t : TypeId} {cs : List Value} (h : Blk w B t cs) (hl : cs.length = 73) : w.rangeAt B 0 cs ∧ w.there B 0 73 := by
  refine ⟨?_, h.there 0 73 (by omega)⟩
  have := h.range 0 73
  rwa [List.drop_zero, List.take_of_length_le (by omega)] at this

set_option maxRecDepth 100000 in
set_option maxHeartbeats 2000000 in
theorem of_any (tag : Int) (A : Option Addr) (n c : Nat) (l : List ByteArray) (w : World) (hs : Sl w 1 A n (Strs l)) (h400 : ∀ s ∈ l, s.size ≤ 400) (hn : n ≤ 1000) (tab : Tab w) :
    Calls Tryd.prog 52 #[.int .i64 tag, .slice A n c] w fun e w' => e = .returned (.agg ((shaC (inputB tag l)).take 16).toArray) ∧ Later w w' := by
  have hll := hs.slen
  have HLL := Lib.hid hll; clear hll
  have hsc : ∀ (cs : List Value) {m : List Hs.By}, StrOf m cs → (Tryd.prog.info? 125).map (·.size) = some cs.length := fun cs m hS => by rw [hS.len]; kernel_rfl
  have hzc : ∀ (cs : List Value) {m : List Hs.By}, StrOf m cs → Tryd.zeroCells125.toList.length = cs.length := fun cs m hS => by rw [hS.len]; rfl
  have HSC := Lib.hid hsc; have HZC := Lib.hid hzc
  clear hsc hzc
  go_enter Tryd.func52, Tryd.ntmps52
  have hM : ∀ w' cs, Later w w' → StrOf [] cs → ∀ (x : Int) (B : Nat), 0 ≤ x → x < 256 → Blk w' B 5 (U [x]) → Calls Tryd.prog 72 #[.agg cs.toArray, .slice (some ⟨B, 0, none⟩) 1 1] w' (Added (bv [x]) w') := fun w' cs hl hS x B h0 h1 hB => by
    have h := addB_any [] cs (some ⟨B, 0, none⟩) 1 1 [x] w' hS (hB.sl 0 1 (by simp [U])) (fun y hy => by simp at hy; omega) (Nat.le_refl _) (by omega) (by simp) (tab.keep hl)
    rwa [List.nil_append] at h
  have HM := Lib.hid hM; clear hM
  have htag : IntKind.u8.wrap tag = tag % 256 := IntKind.wrap_u8 _
  obtain ⟨tg, htg, t0, t1⟩ : ∃ tg, IntKind.u8.wrap tag = tg ∧ 0 ≤ tg ∧ tg < 256 := ⟨_, rfl, by rw [htag]; omega, by rw [htag]; omega⟩
  have HTG : Hid (tg = tag % 256) := Lib.hid (htg.symm.trans htag)
  clear htag
  go_wp2_with (first
    | (go_at_call 73; refine (strBegin_any _).mono ?_; rintro e w1 ⟨cs1, rfl, hS1, hl1⟩; have hl1' : Later w w1 := ((Below.refl _ _).alloc (Nat.le_refl _) _).trans (hl1.mono (by simp)))
    | (go_at_call 72; refine (HM.out _ cs1 (hl1'.alloc hl1'.size _) hS1 tg w1.heap.size t0 t1 (Blk.new _ _ _ _ rfl)).mono ?_; rintro e w2 ⟨cs2, rfl, hS2, hl2⟩)
    | ((with_reducible refine wpList_store_abs (o := ⟨none, .store 125 (.tmp 5) (.tmp 13), _, _, _, none⟩) rfl _ _ _ rfl w2.heap.size 125 Tryd.zeroCells125.toList cs2 ?_ ?_ ?_ (HSC.out cs2 hS2) (HZC.out cs2 hS2) hS2.one ?_); rfl; rfl; exact Blk.new _ _ _ _ (by simp); intro w3 z1 z2))
  have hl2' : Later w w2 := Later.trans_ (hl1'.alloc hl1'.size _) hl2
  have hle2 := hl2'.size
  have hle1 := hl1.size
  have hle3 := hl2.size
  simp only [World.size_alloc] at hle1 hle3
  have hl3 : Later w w3 := Below.only (hl2'.alloc hle2 _) z2 hle2
  have hD : Blk w3 w.heap.size 69 (PartB [] 16) := ((((Blk.new w _ _ _ rfl).keep hl1).alloc _).keep hl2 |>.alloc _).only z2 (by omega)
  have hS3 : StrOf (bv (inputB tag (l.take 0))) cs2 := by
    have : inputB tag (l.take 0) = [tg] := by simp [inputB, HTG.out]
    rw [this]; exact hS2
  clear htg t0 t1 HTG HM hS1 hl1 hl1' hl2 hl2' z2 hS2
  go_loopw [16] (fun i wr => ∃ (k : Nat) (cs : List Value), k ≤ n ∧ i = .int .i64 k ∧ StrOf (bv (inputB tag (l.take k))) cs ∧ Blk wr w2.heap.size 125 cs ∧ Blk wr w.heap.size 69 (PartB [] 16) ∧ Later w wr) (fun i _ => n - (intOf i).toNat)
  case atStart => exact ⟨0, cs2, Nat.zero_le _, rfl, hS3, z1, hD, hl3⟩
  case round =>
    clear hS3 z1 hD hl3
    rename_i wr
    obtain ⟨k, cs, hk, rfl, hS, g1, g2, g3⟩ := hrel
    by_cases hlt : k < n
    · obtain ⟨ad, s, rfl, hbl, hc, hmem, HX⟩ := (hs.keep g3).str hlt
      have hs4 := h400 s hmem
      have hy : cs.length = 73 := hS.len
      have hi : (Tryd.prog.info? 125).map (·.size) = some cs.length := HSC.out cs hS
      have hone := hS.one
      have hu := Tryd.underlying125
      have hr : wr.rangeAt w2.heap.size 0 cs := by
        have := g1.range 0 73
        rwa [List.drop_zero, List.take_of_length_le (by omega)] at this
      have ht : wr.there w2.heap.size 0 73 := g1.there 0 73 (by omega)
      have hmE : (Wm.encB (sb s)).length ≤ 410 := by have := encB_le s (by omega); omega
      have hil := inputB_le tag (l.take k) (fun x hx => h400 x (List.mem_of_mem_take hx))
      have htk : (l.take k).length ≤ k := List.length_take_le _ _
      have hA : ∀ wx A1 c1, Later w wx → (Wm.encB (sb s)).length ≤ c1 → c1 ≤ maxLen → Sl wx 1 A1 (Wm.encB (sb s)).length (U (Wm.encB (sb s))) → Calls Tryd.prog 72 #[.agg cs.toArray, .slice A1 (Wm.encB (sb s)).length c1] wx (Added (bv (inputB tag (l.take (k + 1)))) wx) := fun wx A1 c1 hl h1 h2 h3 => by
        have h := addB_any _ cs A1 _ c1 _ wx hS h3 (encB_bs s) h1 (by unfold maxLen at h2; omega) (by rw [bv_len]; omega) (tab.keep hl)
        rwa [← bv_append, ← inputB_snoc, ← HX.out.1] at h
      have HA := Lib.hid hA
      clear hA hil htk
      go_wp2
      refine wp_region_any (by kernel_rfl) ?_
      change wpAny _ _ _ _ _ _ _ wr.drew
      have g1 := g1.drew
      have g2 := g2.drew
      have g3 := g3.drew
      refine wpAny_take (i := 1) (oi := ⟨some 21, .move (.tmp 7), 9, _, _, none⟩) (v := .string s) rfl (by kernel_rfl) (by kernel_rfl) (by kernel_rfl) (fun _ _ _ h => h) (Or.inl ⟨by rfl, fun _ => rfl⟩) ?_
      simp only [Act.put, List.setIfInBounds_toArray, List.set_cons_zero, List.set_cons_succ]
      refine wpAny_ready (rs := [0, 2]) (by kernel_rfl) (by simp) ?_
      refine AllReady.cons (o := ⟨some 20, .load 125 (.tmp 5), _, _, _, none⟩) rfl (fun K hK => ?_) (AllReady.cons (o := ⟨some 22, .call { callee := .value (.func 74), args := #[.tmp 21], argTypes := #[9] }, _, _, _, none⟩) rfl (fun K hK => ?_) AllReady.nil)
      · rw [if_pos (by rfl)]
        refine wp_load_row 125 _ rfl w2.heap.size rfl 125 cs.toArray (0, 0) _ g1 hu rfl (by rw [List.size_toArray]; exact hi) ?_
        refine hK _ _ ?_
        clear hK K
        try simp only [Act.put, List.setIfInBounds_toArray, List.set_cons_zero, List.set_cons_succ]
        refine wpAny_ready (rs := [2]) (by kernel_rfl) (by simp) (AllReady.cons (o := ⟨some 22, .call { callee := .value (.func 74), args := #[.tmp 21], argTypes := #[9] }, _, _, _, none⟩) rfl (fun K hK => ?_) AllReady.nil)
        rw [if_pos (by rfl)]
        go_simp
        refine (madeV_as (wireBytes_any s _ (by omega) (by rw [ofS_sb]; omega))).mono ?_
        rw [ofS_sb]
        rintro e wa ⟨A1, c1, rfl, m1, m2, _, m3, m4⟩
        refine hK _ _ ?_
        clear hK K
        try simp only [Act.put, List.setIfInBounds_toArray, List.set_cons_zero, List.set_cons_succ]
        refine wpAny_ready (rs := [3]) (by kernel_rfl) (by simp) (AllReady.cons (o := ⟨some 23, .call { callee := .value (.func 72), args := #[.tmp 20, .tmp 22], argTypes := #[125, 25] }, _, _, _, none⟩) rfl (fun K hK => ?_) AllReady.nil)
        rw [if_pos (by rfl)]
        go_simp
        refine (HA.out wa A1 c1 (Later.trans_ g3 m4) m1 m2 m3).mono ?_
        rintro e wb ⟨cs', rfl, hS', hlb⟩
        refine hK _ _ ?_
        clear hK K
        try simp only [Act.put, List.setIfInBounds_toArray, List.set_cons_zero, List.set_cons_succ]
        refine wpAny_ready (rs := [4]) (by kernel_rfl) (by simp) (AllReady.cons (o := ⟨none, .store 125 (.tmp 5) (.tmp 23), _, _, _, none⟩) rfl (fun K hK => ?_) AllReady.nil)
        rw [if_pos (by rfl)]
        refine wp_store_row 125 _ _ rfl w2.heap.size cs'.toArray rfl rfl 125 cs.toArray ((g1.keep m4).keep hlb) (by rw [List.size_toArray]; exact HSC.out cs' hS') (by rw [List.size_toArray, List.size_toArray, hy, hS'.len]) (all_oneCell_toArray hS'.one) ?_
        refine hK _ _ ?_
        clear hK K
        refine wpAny_done (by kernel_rfl) ?_ _
        have r1 : Blk ((wb).setRow w2.heap.size cs'.toArray) w2.heap.size 125 cs' := ((g1.keep m4).keep hlb).row cs'
        have r2 := ((g2.keep m4).keep hlb).only (Only.row wb w2.heap.size cs'.toArray) (by omega)
        have r3 : Later w (wb.setRow w2.heap.size cs'.toArray) := below_setRow (Later.trans_ (Later.trans_ g3 m4) hlb) hle2 _
        clear g1 g2 g3 hr ht m3 m4 hlb hS
        generalize wb.setRow w2.heap.size cs'.toArray = wc at r1 r2 r3 ⊢
        go_wp2
        go_roundw
        case rel => exact ⟨k + 1, cs', by omega, by go_num, hS', r1, r2, r3⟩
        case measure => simp [intOf]; omega
      · skip
        rw [if_pos (by rfl)]
        go_simp
        refine (madeV_as (wireBytes_any s _ (by omega) (by rw [ofS_sb]; omega))).mono ?_
        rw [ofS_sb]
        rintro e wa ⟨A1, c1, rfl, m1, m2, _, m3, m4⟩
        refine hK _ _ ?_
        clear hK K
        try simp only [Act.put, List.setIfInBounds_toArray, List.set_cons_zero, List.set_cons_succ]
        refine wpAny_ready (rs := [0]) (by kernel_rfl) (by simp) (AllReady.cons (o := ⟨some 20, .load 125 (.tmp 5), _, _, _, none⟩) rfl (fun K hK => ?_) AllReady.nil)
        rw [if_pos (by rfl)]
        refine wp_load_row 125 _ rfl w2.heap.size rfl 125 cs.toArray (0, 0) _ (g1.keep m4) hu rfl (by rw [List.size_toArray]; exact hi) ?_
        refine hK _ _ ?_
        clear hK K
        try simp only [Act.put, List.setIfInBounds_toArray, List.set_cons_zero, List.set_cons_succ]
        refine wpAny_ready (rs := [3]) (by kernel_rfl) (by simp) (AllReady.cons (o := ⟨some 23, .call { callee := .value (.func 72), args := #[.tmp 20, .tmp 22], argTypes := #[125, 25] }, _, _, _, none⟩) rfl (fun K hK => ?_) AllReady.nil)
        rw [if_pos (by rfl)]
        go_simp
        refine (HA.out wa A1 c1 (Later.trans_ g3 m4) m1 m2 m3).mono ?_
        rintro e wb ⟨cs', rfl, hS', hlb⟩
        refine hK _ _ ?_
        clear hK K
        try simp only [Act.put, List.setIfInBounds_toArray, List.set_cons_zero, List.set_cons_succ]
        refine wpAny_ready (rs := [4]) (by kernel_rfl) (by simp) (AllReady.cons (o := ⟨none, .store 125 (.tmp 5) (.tmp 23), _, _, _, none⟩) rfl (fun K hK => ?_) AllReady.nil)
        rw [if_pos (by rfl)]
        refine wp_store_row 125 _ _ rfl w2.heap.size cs'.toArray rfl rfl 125 cs.toArray ((g1.keep m4).keep hlb) (by rw [List.size_toArray]; exact HSC.out cs' hS') (by rw [List.size_toArray, List.size_toArray, hy, hS'.len]) (all_oneCell_toArray hS'.one) ?_
        refine hK _ _ ?_
        clear hK K
        refine wpAny_done (by kernel_rfl) ?_ _
        have r1 : Blk ((wb).setRow w2.heap.size cs'.toArray) w2.heap.size 125 cs' := ((g1.keep m4).keep hlb).row cs'
        have r2 := ((g2.keep m4).keep hlb).only (Only.row wb w2.heap.size cs'.toArray) (by omega)
        have r3 : Later w (wb.setRow w2.heap.size cs'.toArray) := below_setRow (Later.trans_ (Later.trans_ g3 m4) hlb) hle2 _
        clear g1 g2 g3 hr ht m3 m4 hlb hS
        generalize wb.setRow w2.heap.size cs'.toArray = wc at r1 r2 r3 ⊢
        go_wp2
        go_roundw
        case rel => exact ⟨k + 1, cs', by omega, by go_num, hS', r1, r2, r3⟩
        case measure => simp [intOf]; omega
    · have hkn : l.take k = l := List.take_of_length_le (by rw [HLL.out]; omega)
      rw [hkn] at hS
      have hi : (Tryd.prog.info? 125).map (·.size) = some cs.length := HSC.out cs hS
      have hu := Tryd.underlying125
      have HU := Lib.hid hu
      have hil := inputB_le tag l h400
      have hM := strSum_any (bv (inputB tag l)) cs wr hS (by rw [bv_len]; have := HLL.out; omega) (tab.keep g3)
      have hM2 : Calls Tryd.prog 75 #[.agg cs.toArray] wr fun e w'' => e = .returned (.agg (shaC (inputB tag l)).toArray) ∧ Later wr w'' := hM
      obtain ⟨O, hO⟩ : ∃ O, O = shaC (inputB tag l) := ⟨_, rfl⟩
      rw [← hO] at hM2
      have hfo : O.length = 32 := by rw [hO]; exact shaC_len _
      have hsO : (Tryd.prog.info? 129).map (·.size) = some O.length := by rw [hfo]; kernel_rfl
      have hO1 : ∀ v ∈ O, v.oneCell' = true := by rw [hO]; exact shaC_one _
      have hOl : (PartB [] 32).length = O.length := by rw [hfo]; rfl
      obtain ⟨D, hD⟩ : ∃ D, D = O.take 16 := ⟨_, rfl⟩
      have hDl : D.length = 16 := by rw [hD, List.length_take, hfo]; rfl
      have hsD : (Tryd.prog.info? 69).map (·.size) = some D.length := by rw [hDl]; kernel_rfl
      have hD1 : ∀ v ∈ D, v.oneCell' = true := by rw [hD]; exact fun v hv => hO1 v (List.mem_of_mem_take hv)
      have hDz : (PartB [] 16).length = D.length := by rw [hDl]; rfl
      have hcut : (O.drop 0).take 16 = D := by rw [List.drop_zero, hD]
      have HM := Lib.hid hM2; have HO := Lib.hid hO; have HO1 := Lib.hid hO1; have HOL := Lib.hid hOl; have HD := Lib.hid hD; have HD1 := Lib.hid hD1; have HDZ := Lib.hid hDz; have HCUT := Lib.hid hcut
      have hu58 := Tryd.underlying69
      have HU58 := Lib.hid hu58
      clear hM hM2 hO hO1 hOl hD hD1 hDz hcut hil hu hkn hS hu58 hfo hDl
      go_wp2_with (first
        | ((with_reducible refine wpList_load_blk (o := ⟨some 25, .load 125 (.tmp 5), _, _, _, none⟩) rfl _ _ rfl w2.heap.size 125 cs _ ?_ g1 HU.out rfl hi ?_); rfl)
        | (go_at_call 75; refine (HM.out).mono ?_; rintro e w4 ⟨rfl, hl4⟩)
        | ((with_reducible refine wpList_store_abs (o := ⟨none, .store 129 (.tmp 8) (.tmp 26), _, _, _, none⟩) rfl _ _ _ rfl w4.heap.size 129 (PartB [] 32) O ?_ ?_ ?_ hsO HOL.out HO1.out ?_); rfl; rfl; exact Blk.new _ _ _ _ rfl; intro w5 z1 z2; have harr := run_arrayAt (P := Tryd.prog) (w := w5) 69 5 16 (some ⟨w4.heap.size, 0, none⟩) 16 32 HU58.out (by omega))
        | ((with_reducible refine wpList_load_at (o := ⟨some 29, .load 69 (.tmp 28), _, _, _, none⟩) rfl _ _ rfl w4.heap.size 0 16 129 O D _ ?_ z1 HCUT.out HU58.out rfl hsD ?_); rfl)
        | ((with_reducible refine wpList_store_abs (o := ⟨none, .store 69 (.tmp 4) (.tmp 29), _, _, _, none⟩) rfl _ _ _ rfl w.heap.size 69 (PartB [] 16) D ?_ ?_ (((g2.keep hl4).alloc _).only z2 (by have := g2.lt; have := hl4.size; omega)) hsD HDZ.out HD1.out ?_); rfl; rfl; intro w6 y1 y2))
      have hl5 : Later w w5 := Below.only ((Later.trans_ g3 hl4).alloc (Later.trans_ g3 hl4).size _) z2 (Later.trans_ g3 hl4).size
      exact bodyPost_ret (v := .agg D.toArray) (results_blk Tryd.results52 _ _ w.heap.size _ D _ rfl y1 HU58.out rfl hsD) rfl ⟨by rw [HD.out, HO.out], Below.only hl5 y2 (Nat.le_refl _)⟩
end Go.Proofs.YtjfphjgmphlbhaaDoor

/-
  FROM A WALK TO A CARD: what every statement of this seat needs: its arguments opened, its end closed, the constants, the world of the witness.
-/
namespace Go.Proofs.YtjfphjgmphlbhaaDoor
open Go.RowKit Go.ChangeShapes Go.WideShapes Go.ChangeAt

section
variable {H : Type} {enc : TypeId × Value → H} {P : Program}
end

section
variable {H : Type} {enc : TypeId × Value → H} {P : Program} {W : World} {r : Reach} {b0 : Nat} {v : Value} {d : DataW H} {p : List MemPlace}
end


set_option maxRecDepth 100000 in
theorem gTab : Tryd.prog.globalNamed "simulacrum/hash.rounds" = some 0 := by kernel_rfl
set_option maxRecDepth 100000 in
theorem tab_data : (Rows.laid_simulacrum_hash_rounds : DataW Unit) = Lib.tabData .u32 (Hs.K.map q32) := by kernel_rfl
set_option maxRecDepth 100000 in
theorem K_len : Hs.K.length = 64 := by kernel_rfl
set_option maxRecDepth 100000 in
/-- What the row's list gives: the constants. -/
theorem tab_of {W : World} {rest : List (String × DataW Unit)} (h : laidMet Tryd.prog (("simulacrum/hash.rounds", Rows.laid_simulacrum_hash_rounds) :: rest) W) : Tab W := by
  rw [tab_data] at h
  have ht : ∃ t e : TypeId, (Tryd.prog.globals[0]?).map (·.type) = some t ∧ Tryd.prog.underlying t = some (.array 64 e) ∧ Tryd.prog.underlying e = some (.int .u32) ∧ Tryd.prog.cellsOf e = 1 ∧ Tryd.prog.cellsOf t = 64 :=
    ⟨149, 49, by kernel_rfl, by kernel_rfl, by kernel_rfl, by kernel_rfl, by kernel_rfl⟩
  obtain ⟨t, e, h1, h2, h3, h4, h5⟩ := ht
  have hT := Lib.tabIs_of_head gTab h1 h2 h3 h4 h5 h
  intro j hj
  have hc := hT.cell gTab j (by rw [List.length_map, K_len]; exact hj)
  rw [hc, List.getD_eq_getElem?_getD, List.getElem?_map, List.getD_eq_getElem?_getD, List.getElem?_eq_getElem (by rw [K_len]; exact hj)]
  rfl
set_option maxRecDepth 100000 in
/-- A world for the witness. -/
noncomputable def laidWorld (os : Os) : World :=
  { World.holding Tryd.prog os ⟨#[], #[], []⟩ with heap := (World.holding Tryd.prog os ⟨#[], #[], []⟩).heap.modify 0 fun
      | .cells _ t frozen => .cells (W32 Hs.K).toArray t frozen
      | o => o }

set_option maxRecDepth 100000 in
theorem wants_none (_f : FuncId) (ps : Array TypeId) (h : (ps.toList.all fun t => !Tryd.prog.wantsStandIn t) = true) (j : Nat) (t : TypeId) (ht : ps[j]? = some t) : Tryd.prog.wantsStandIn t = false := by
  have := List.all_eq_true.1 h t (by rw [Array.mem_toList_iff]; exact Array.mem_of_getElem? ht)
  simpa using this

end Go.Proofs.YtjfphjgmphlbhaaDoor
