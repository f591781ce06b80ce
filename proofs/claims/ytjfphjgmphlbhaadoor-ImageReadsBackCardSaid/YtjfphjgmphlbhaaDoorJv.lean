/-
  PLAIN FACTS: what the decoding of an encoding is, and of what bytes a decoding comes.
-/
import Derived.Test.YtjfphjgmphlbhaaDoorJu
import Derived.Deep.RegionHeld3
import Derived.SizedLaws
namespace Go.Proofs.YtjfphjgmphlbhaaDoor
open Go.RowKit Go.ChangeShapes Go.WideShapes Go.ChangeAt

set_option maxRecDepth 100000 in
theorem txS_map (L : List Im.Seg) {d : Wm.Bs} (hd : Wm.isBs d) (m : Nat) : (txS L d m).map Wm.ofS = L.map (fun x => Wm.ofS x.2) ++ (List.range m).map (Im.page d) := by
  unfold txS secS
  rw [List.map_append, List.map_map, List.map_map]
  congr 1
  apply List.map_congr_left
  intro k _
  exact Wm.ofS_str (Im.page_bs hd k)
set_option maxRecDepth 100000 in
theorem encT_map (l : List ByteArray) : Wm.encL encT l = Wm.encL Wm.encB (l.map Wm.ofS) := by
  unfold Wm.encL
  rw [List.length_map, List.flatMap_map]
  rfl
set_option maxRecDepth 100000 in
theorem encS_is (en p : Int) (L : List Im.Seg) (d : Wm.Bs) (m : Nat) : encS en p L d m = Wm.encL Wm.encI (Im.nums en p L m) ++ Wm.encL Wm.encB ((txS L d m).map Wm.ofS) := by
  unfold encS
  rw [encT_map]
set_option maxRecDepth 100000 in
theorem zS_get (pl : List Int) (ts : List Wm.Bs) (n i : Nat) (h : i < (Im.zS pl ts n).length) : (Im.zS pl ts n)[i] = (pl.getD i 0, strOfNums (ts.getD i [])) := by
  simp only [Im.zS, List.getElem_map, List.getElem_range]
set_option maxRecDepth 100000 in
theorem zS_back (L : List Im.Seg) (S : List Wm.Bs) : Im.zS (L.map (·.1)) (L.map (fun x => Wm.ofS x.2) ++ S) L.length = L := by
  apply List.ext_getElem (by rw [Im.zS_len])
  intro i h1 h2
  rw [zS_get]
  rw [List.getD_eq_getElem?_getD, List.getElem?_map, List.getElem?_eq_getElem h2, List.getD_eq_getElem?_getD, List.getElem?_append_left (by rw [List.length_map]; exact h2), List.getElem?_map, List.getElem?_eq_getElem h2]
  simp only [Option.map_some, Option.getD_some]
  rw [Wm.str_ofS]
set_option maxRecDepth 100000 in
theorem dK_back (T : List Wm.Bs) {d : Wm.Bs} {m : Nat} (hd : d.length = m * 128) : Im.dK (T ++ (List.range m).map (Im.page d)) T.length m = d := by
  have h : ∀ k, k ≤ m → Im.dK (T ++ (List.range m).map (Im.page d)) T.length k = d.take (k * 128) := by
    intro k
    induction k with
    | zero => intro _; rw [Nat.zero_mul, List.take_zero]; rfl
    | succ k ih =>
      intro hk
      rw [Im.dK_succ, ih (by omega), Im.take_page]
      congr 1
      rw [List.getD_eq_getElem?_getD, List.getElem?_append_right (by omega), Nat.add_sub_cancel_left, List.getElem?_map, List.getElem?_range (by omega)]
      rfl
  rw [h m (Nat.le_refl _), List.take_of_length_le (by omega)]
set_option maxRecDepth 100000 in
theorem compD_enc (x : Dat) (hd : x.d.length = x.m * 128) (hb : Wm.isBs x.d) : compD (Im.nums x.en x.p x.L x.m) ((txS x.L x.d x.m).map Wm.ofS) = some x := by
  rw [txS_map x.L hb]
  show compD (x.en :: x.p :: (x.m : Int) :: x.L.map (·.1)) _ = some x
  unfold compD
  simp only []
  rw [if_pos]
  · rw [List.length_map, Int.toNat_natCast, zS_back]
    have h := dK_back (x.L.map fun y => Wm.ofS y.2) hd
    rw [List.length_map] at h
    rw [h]
  · refine ⟨by omega, ?_, ?_⟩
    · rw [List.length_append, List.length_map, List.length_map, List.length_range, List.length_map]
      omega
    · intro t ht
      rw [List.length_map, List.drop_left' (by rw [List.length_map])] at ht
      obtain ⟨k, hk, rfl⟩ := List.mem_map.1 ht
      exact Im.page_len hd (List.mem_range.1 hk)
set_option maxRecDepth 100000 in
theorem dcd_enc (x : Dat) (hL : inSeg x.L) (hl : x.L.length ≤ 1000000) (hm : x.m ≤ 1000000) (hen : -9223372036854775808 ≤ x.en ∧ x.en ≤ 9223372036854775807) (hp : -9223372036854775808 ≤ x.p ∧ x.p ≤ 9223372036854775807) (hd : x.d.length = x.m * 128) (hb : Wm.isBs x.d) :
    dcd x.enc = if x.chk ≠ 0 then (zD, x.chk) else (x, 0) := by
  have e : x.enc = Wm.encL Wm.encI (Im.nums x.en x.p x.L x.m) ++ Wm.encL Wm.encB ((txS x.L x.d x.m).map Wm.ofS) := encS_is _ _ _ _ _
  have e1 : (Im.nums x.en x.p x.L x.m).length = 3 + x.L.length := by unfold Im.nums; simp; omega
  have i1 := Wm.ints_back (Im.nums x.en x.p x.L x.m) (Wm.encL Wm.encB ((txS x.L x.d x.m).map Wm.ofS)) (fun y hy => by
    unfold Im.nums at hy
    rcases List.mem_append.1 hy with hy | hy
    · have hy2 : y = x.en ∨ y = x.p ∨ y = (x.m : Int) := by simpa using hy
      rcases hy2 with rfl | rfl | rfl
      · exact hen
      · exact hp
      · omega
    · obtain ⟨z, hz1, rfl⟩ := List.mem_map.1 hy
      exact ⟨(hL z hz1).1, (hL z hz1).2.1⟩) (by omega)
  have i2 := Wm.strs_back ((txS x.L x.d x.m).map Wm.ofS) [] (fun y hy => by
    obtain ⟨s, hs, rfl⟩ := List.mem_map.1 hy
    rw [Wm.ofS_length]
    unfold txS at hs
    rcases List.mem_append.1 hs with hs | hs
    · obtain ⟨z, hz1, rfl⟩ := List.mem_map.1 hs
      exact (hL z hz1).2.2
    · unfold secS at hs
      obtain ⟨z, _, rfl⟩ := List.mem_map.1 hs
      rw [Im.strN_size]
      unfold Im.page
      rw [List.length_take]
      omega) (by rw [List.length_map, txS_len]; omega)
  rw [List.append_nil] at i2
  have hc := compD_enc x hd hb
  unfold dcd
  rw [e, i1]
  simp only
  rw [List.drop_left, i2]
  simp only
  rw [if_neg (by simp), if_neg (by simp), hc]
  simp only
  rw [if_neg (by rw [List.length_append]; simp)]
set_option maxRecDepth 100000 in
theorem zS_fst (pl : List Int) (ts : List Wm.Bs) : (Im.zS pl ts pl.length).map (·.1) = pl := by
  apply List.ext_getElem (by rw [List.length_map, Im.zS_len])
  intro i h1 h2
  rw [List.getElem_map, zS_get, List.getD_eq_getElem?_getD, List.getElem?_eq_getElem h2]
  rfl
set_option maxRecDepth 100000 in
theorem zS_snd (pl : List Int) (ts : List Wm.Bs) (h : ∀ t ∈ ts, Wm.isBs t) (n : Nat) (hn : n ≤ ts.length) : (Im.zS pl ts n).map (fun x => Wm.ofS x.2) = ts.take n := by
  apply List.ext_getElem (by rw [List.length_map, Im.zS_len, List.length_take]; omega)
  intro i h1 h2
  have hi : i < ts.length := by rw [List.length_take] at h2; omega
  rw [List.getElem_map, zS_get, List.getElem_take]
  show Wm.ofS (strOfNums (ts.getD i [])) = ts[i]
  rw [List.getD_eq_getElem?_getD, List.getElem?_eq_getElem hi]
  exact Wm.ofS_str (h _ (List.getElem_mem hi))
set_option maxRecDepth 100000 in
theorem dK_len (ts : List Wm.Bs) (n m : Nat) (h : ∀ j, j < m → (ts.getD (n + j) []).length = 128) : (Im.dK ts n m).length = m * 128 := by
  induction m with
  | zero => rfl
  | succ m ih => rw [Im.dK_succ, List.length_append, ih (fun j hj => h j (by omega)), h m (by omega)]; omega
set_option maxRecDepth 100000 in
theorem dK_page (ts : List Wm.Bs) (n m : Nat) (h : ∀ j, j < m → (ts.getD (n + j) []).length = 128) (k : Nat) (hk : k < m) : Im.page (Im.dK ts n m) k = ts.getD (n + k) [] := by
  induction m with
  | zero => omega
  | succ m ih =>
    have hl := dK_len ts n m (fun j hj => h j (by omega))
    rw [Im.dK_succ]
    rcases Nat.lt_or_ge k m with hkm | hkm
    · rw [← ih (fun j hj => h j (by omega)) hkm]
      unfold Im.page
      rw [List.drop_append_of_le_length (by omega), List.take_append_of_le_length (by rw [List.length_drop]; omega)]
    · obtain rfl : k = m := by omega
      unfold Im.page
      rw [List.drop_left' hl, List.take_of_length_le (by rw [h k (by omega)]; exact Nat.le_refl _)]
set_option maxRecDepth 100000 in
theorem getD_drop (ts : List Wm.Bs) (n k : Nat) : ts.getD (n + k) [] = (ts.drop n).getD k [] := by
  rw [List.getD_eq_getElem?_getD, List.getD_eq_getElem?_getD, List.getElem?_drop]
set_option maxRecDepth 100000 in
theorem compD_back {l : List Int} {ts : List Wm.Bs} {y : Dat} (ht : ∀ t ∈ ts, Wm.isBs t) (h : compD l ts = some y) : y.enc = Wm.encL Wm.encI l ++ Wm.encL Wm.encB ts := by
  unfold compD at h
  split at h
  · rename_i en p s pl
    split at h
    · rename_i hc
      obtain ⟨h0, h1, h2⟩ := hc
      have hy := (Option.some.inj h).symm
      have hgl : ∀ j, j < s.toNat → (ts.getD (pl.length + j) []).length = 128 := fun j hj => by
        rw [getD_drop, List.getD_eq_getElem?_getD, List.getElem?_eq_getElem (by rw [List.length_drop]; omega)]
        exact h2 _ (List.getElem_mem _)
      have hdb : Wm.isBs (Im.dK ts pl.length s.toNat) := fun z hz => by
        unfold Im.dK at hz
        obtain ⟨j, hj, hz⟩ := List.mem_flatMap.1 hz
        rw [List.getD_eq_getElem?_getD, List.getElem?_eq_getElem (by have := List.mem_range.1 hj; omega)] at hz
        exact ht _ (List.getElem_mem _) z hz
      rw [hy]
      show encS en p (Im.zS pl ts pl.length) (Im.dK ts pl.length s.toNat) s.toNat = _
      rw [encS_is, txS_map _ hdb, zS_snd pl ts ht pl.length (by omega)]
      have e1 : Im.nums en p (Im.zS pl ts pl.length) s.toNat = en :: p :: s :: pl := by
        unfold Im.nums
        rw [zS_fst, Int.toNat_of_nonneg h0]
        rfl
      have e2 : (List.range s.toNat).map (Im.page (Im.dK ts pl.length s.toNat)) = ts.drop pl.length := by
        apply List.ext_getElem (by rw [List.length_map, List.length_range, List.length_drop]; omega)
        intro i h3 h4
        rw [List.length_map, List.length_range] at h3
        rw [List.getElem_map, List.getElem_range, dK_page ts pl.length s.toNat hgl i h3, getD_drop, List.getD_eq_getElem?_getD, List.getElem?_eq_getElem h4]
        rfl
      rw [e1, e2, List.take_append_drop]
    · cases h
  · cases h
set_option maxRecDepth 100000 in
theorem dcd_back {b : Wm.Bs} (hb : Wm.isBs b) (h : (dcd b).2 = 0) : (dcd b).1.enc = b ∧ (dcd b).1.chk = 0 := by
  obtain ⟨l, u, e, h1⟩ : ∃ l u e, Wm.decL Wm.decI 1 b = (l, u, e) := ⟨_, _, _, rfl⟩
  obtain ⟨ts, v, f, h2⟩ : ∃ ts v f, Wm.decL Wm.decB 1 (b.drop u) = (ts, v, f) := ⟨_, _, _, rfl⟩
  have hd : dcd b = if e ≠ 0 then (zD, e) else if f ≠ 0 then (zD, f) else match compD l ts with
    | none => (zD, 11)
    | some x => if u + v ≠ b.length then (zD, 11) else if x.chk ≠ 0 then (zD, x.chk) else (x, 0) := by
    unfold dcd
    rw [h1]
    simp only
    rw [h2]
    rfl
  rw [hd] at h ⊢
  by_cases he : e = 0
  · subst he
    by_cases hf : f = 0
    · subst hf
      rw [if_neg (by simp), if_neg (by simp)] at h ⊢
      have hbd : Wm.isBs (b.drop u) := fun x hx => hb x (List.mem_of_mem_drop hx)
      have i1 := Wm.ints_dec hb h1
      have i2 := Wm.strs_dec hbd h2
      have t1 := i1.2.2.2 rfl
      have t2 := i2.2.2.2 rfl
      cases hc : compD l ts with
      | none => rw [hc] at h; simp only at h; omega
      | some y =>
        rw [hc] at h
        simp only at h ⊢
        by_cases hu : u + v = b.length
        · rw [if_neg (by simpa using hu)] at h ⊢
          by_cases hk : y.chk = 0
          · rw [if_neg (by simpa using hk)]
            refine ⟨?_, hk⟩
            show y.enc = b
            rw [compD_back (fun t ht => (i2.2.2.1 t ht).1) hc, ← t1, ← t2]
            have e9 : (b.drop u).take v = b.drop u := List.take_of_length_le (by rw [List.length_drop]; omega)
            rw [e9, List.take_append_drop]
          · rw [if_pos hk] at h; exact absurd h hk
        · rw [if_pos hu] at h; simp only at h; omega
    · rw [if_neg (by simp), if_pos hf] at h; exact absurd h hf
  · rw [if_pos he] at h; exact absurd h he
end Go.Proofs.YtjfphjgmphlbhaaDoor

/-
  THE STATEMENT ImageReadsBack: its walk.
-/
namespace Go.Proofs.YtjfphjgmphlbhaaDoor
open Go.RowKit Go.ChangeShapes Go.WideShapes Go.ChangeAt

set_option maxRecDepth 100000 in
theorem enc_mid (x : Dat) (hL : inSeg x.L) (hl : x.L.length ≤ 80) (hz : ∀ y ∈ x.L, y.2.size ≤ 12000) (hm : x.m ≤ 80) (hen : -9223372036854775808 ≤ x.en ∧ x.en ≤ 9223372036854775807) (hp : -9223372036854775808 ≤ x.p ∧ x.p ≤ 9223372036854775807) : x.enc.length ≤ 1000000 := by
  unfold Dat.enc encS Wm.encL
  have e1 : (Im.nums x.en x.p x.L x.m).length = 3 + x.L.length := by unfold Im.nums; simp; omega
  have e2 : (txS x.L x.d x.m).length = x.L.length + x.m := txS_len _ _ _
  have b1 := flat_le Wm.encI 10 (Im.nums x.en x.p x.L x.m) (fun y hy => by
    unfold Im.nums at hy
    rcases List.mem_append.1 hy with hy | hy
    · have hy2 : y = x.en ∨ y = x.p ∨ y = (x.m : Int) := by simpa using hy
      rcases hy2 with rfl | rfl | rfl
      · exact Wm.encI_len hen.1 hen.2
      · exact Wm.encI_len hp.1 hp.2
      · exact Wm.encI_len (by omega) (by omega)
    · obtain ⟨z, hz1, rfl⟩ := List.mem_map.1 hy
      exact Wm.encI_len (hL z hz1).1 (hL z hz1).2.1)
  have b2 := flat_le encT 12010 (x.L.map (·.2)) (fun s hs => by
    obtain ⟨z, hz1, rfl⟩ := List.mem_map.1 hs
    have h1 := hz z hz1
    have h2 : (Wm.encB (Wm.ofS z.2)).length ≤ z.2.size + 10 := encB_le z.2 (by omega)
    show (encT z.2).length ≤ _
    unfold encT
    omega)
  have b3 := flat_le encT 138 (secS x.d x.m) (fun s hs => by
    have h1 : s.size ≤ 128 := by
      unfold secS at hs
      obtain ⟨z, _, rfl⟩ := List.mem_map.1 hs
      rw [Im.strN_size]
      unfold Im.page
      rw [List.length_take]
      omega
    have h2 : (Wm.encB (Wm.ofS s)).length ≤ s.size + 10 := encB_le s (by omega)
    show (encT s).length ≤ _
    unfold encT
    omega)
  have c1 := Wm.encI_len (n := ((Im.nums x.en x.p x.L x.m).length : Int)) (by omega) (by omega)
  have c2 := Wm.encI_len (n := ((txS x.L x.d x.m).length : Int)) (by omega) (by omega)
  rw [List.length_append, List.length_append, List.length_append]
  have e3 : ((txS x.L x.d x.m).flatMap encT).length = ((x.L.map (·.2)).flatMap encT).length + ((secS x.d x.m).flatMap encT).length := by
    unfold txS
    rw [List.flatMap_append, List.length_append]
  rw [e3]
  rw [e1] at b1
  rw [List.length_map] at b2
  rw [secS_len] at b3
  omega
set_option maxRecDepth 100000 in
theorem bs_both {a b : Wm.Bs} (h : Wm.isBs a) (k : Wm.isBs b) : Wm.isBs (a ++ b) := fun x hx => (List.mem_append.1 hx).elim (h x) (k x)
set_option maxRecDepth 100000 in
theorem bs_flat {α : Type} (f : α → Wm.Bs) (l : List α) (h : ∀ x ∈ l, Wm.isBs (f x)) : Wm.isBs (l.flatMap f) := fun y hy => by
  obtain ⟨x, hx, hy⟩ := List.mem_flatMap.1 hy
  exact h x hx y hy
set_option maxRecDepth 100000 in
theorem enc_bs (x : Dat) : Wm.isBs x.enc := by
  unfold Dat.enc encS Wm.encL
  refine bs_both (bs_both (Wm.encI_bytes _) (bs_flat _ _ fun y _ => Wm.encI_bytes y)) (bs_both (Wm.encI_bytes _) (bs_flat _ _ fun s _ => ?_))
  exact Wm.encB_bytes (Wm.ofS_bytes s)
set_option maxRecDepth 100000 in
theorem encI_I (w : World) (v : Value) (x : Dat) (h : Img w v x) (hM : x.enc.length ≤ 140737488355328) : Calls Tryd.prog 20 #[v] w (MadeAs x.enc w) := by
  obtain ⟨A, n, c, B, cd, rfl, h1, h2, h3, h5, h6, h7, h8, h9, h10⟩ := h
  exact (encode_any x.en x.p A n c x.L B x.m cd x.d w h1 h2 h3 h5 h6 h7 h8 hM).mono fun e w2 h => h.as
set_option maxRecDepth 100000 in
set_option maxHeartbeats 4000000 in
theorem back_any (en p : Int) (A : Option Addr) (n c : Nat) (L : List Im.Seg) (B : Option Addr) (m cd : Nat) (bb : Wm.Bs) (Ab : Option Addr) (cb : Nat) (b : Wm.Bs) (w : World) (hs : Sl w 2 A n (Gs L)) (hL : inSeg L) (hn : n ≤ maxLen) (hm : m ≤ maxLen) (hen : -9223372036854775808 ≤ en ∧ en ≤ 9223372036854775807) (hp : -9223372036854775808 ≤ p ∧ p ≤ 9223372036854775807) (hmc : m ≤ cd ∧ cd ≤ maxLen) (hd : Sl w 128 B m (U bb)) (hbb : Wm.isBs bb)
    (hz : fewQ L m = true → ∀ y ∈ L, y.2.size ≤ 12000) (sb0 : Sl w 1 Ab b.length (U b)) (hb : Wm.isBs b) (hbc : b.length ≤ cb ∧ cb ≤ maxLen) (tab : Tab w) :
    Calls Tryd.prog 6 #[.agg #[.int .i64 en, .int .i64 p, .slice A n c, .slice B m cd], .slice Ab b.length cb] w fun e w' => e = .returned (.bool true) ∧ Later w w' := by
  have HLN := hs.seglen
  have HF := Lib.hid fun w' (hl : Later w w') => few_any en p A n c L B m cd w' (hs.keep hl) hn hm
  have HS := Lib.hid fun w' (hl : Later w w') => sanity_any w' (tab.keep hl)
  obtain ⟨q, hq⟩ : ∃ q, q = fewQ L m := ⟨_, rfl⟩
  rw [← hq] at HF
  have b0 := Blk.new w 29 #[.int .i64 en, .int .i64 p, .slice A n c, .slice B m cd] [.int .i64 en, .int .i64 p, .slice A n c, .slice B m cd] rfl
  have l0 := later1 w (.cells #[.int .i64 en, .int .i64 p, .slice A n c, .slice B m cd] 29)
  have hbm : b.length ≤ 9223372036854775807 := Nat.le_trans hbc.1 hbc.2
  cases q with
  | false =>
    clear hs hL hn hm hp tab hd hen hq hz HLN
    go_enter Tryd.func6, Tryd.ntmps6
    go_wp2_with (first
    | (go_at_call 14; refine (HF.out _ l0).mono ?_; rintro e w1 ⟨rfl, l1⟩; have b1 := b0.keep l1; have lw := Later.trans_ l0 l1; have c0 := b1.cell (j := 0) (v := .int .i64 en) rfl; have c1 := b1.cell (j := 1) (v := .int .i64 p) rfl; have c2 := b1.cell (j := 2) (v := .slice A n c) rfl; have c3 := b1.cell (j := 3) (v := .slice B m cd) rfl)
    | (go_at_call 8; refine (HS.out _ lw).mono ?_; rintro e w19 ⟨rfl, l19⟩; replace lw := Later.trans_ lw l19))
    go_ret
    exact ⟨rfl, lw⟩
  | true =>
    by_cases hbl : b.length ≤ 20000
    · have hbl2 : ¬ ((b.length : Int) > 20000) := by omega
      have hqq := hq.symm
      unfold fewQ at hqq
      obtain ⟨_, hl80, hm80⟩ := of_decide_eq_true hqq
      have hz2 := hz hq.symm
      have hdl : bb.length = m * 128 := by have := hd.1; rwa [U_length] at this
      have hI : Img w (.agg #[.int .i64 en, .int .i64 p, .slice A n c, .slice B m cd]) ⟨en, p, L, bb, m⟩ := ⟨A, n, c, B, cd, rfl, hs, hd, hL, by omega, (show m ≤ 1000000 by omega), hen, hp, hmc.1, hmc.2⟩
      have hEl := enc_mid ⟨en, p, L, bb, m⟩ hL hl80 hz2 hm80 hen hp
      have hDE := dcd_enc ⟨en, p, L, bb, m⟩ hL (show L.length ≤ 1000000 by omega) (show m ≤ 1000000 by omega) hen hp hdl hbb
      obtain ⟨XD, hXD⟩ : ∃ XD : Dat, XD = ⟨en, p, L, bb, m⟩ := ⟨_, rfl⟩
      rw [← hXD] at hI hEl hDE
      have hEb : Wm.isBs XD.enc := enc_bs XD
      have HE := Lib.hid fun w' (hl : Later w w') => encI_I w' _ XD (hI.keep hl) (by omega)
      have HC := Lib.hid fun w' (hl : Later w w') => checkI w' _ XD (hI.keep hl)
      obtain ⟨r, hr⟩ : ∃ r, r = XD.chk := ⟨_, rfl⟩
      rw [← hr] at HC hDE
      have hD2 : (dcd XD.enc).2 = r := by rw [hDE]; split <;> first | rfl | omega
      have HD1 := Lib.hid fun A' c' w' (sE : Sl w' 1 A' XD.enc.length (U XD.enc)) (g1 : XD.enc.length ≤ c') (g2 : c' ≤ maxLen) => decode_any A' _ c' XD.enc w' sE hEb g1 g2 hEl
      rw [hD2] at HD1
      obtain ⟨Y, hY⟩ : ∃ Y, Y = (dcd XD.enc).1 := ⟨_, rfl⟩
      rw [← hY] at HD1
      have HSM := Lib.hid fun (hr0 : r = 0) v w' (hl : Later w w') (i3 : Img w' v Y) => same_any v _ Y XD w' i3 (hI.keep hl) (by rw [hY, hDE, if_neg (by simpa using hr0)]) (by rw [hY, hDE, if_neg (by simpa using hr0)]; show XD.enc.length ≤ _; omega)
      have HD2 := Lib.hid fun w' (hl : Later w w') => decode_any Ab b.length cb b w' (sb0.keep hl) hb hbc.1 hbc.2 (by omega)
      have hbk := dcd_back hb
      obtain ⟨Z, hZ⟩ : ∃ Z, Z = (dcd b).1 := ⟨_, rfl⟩
      obtain ⟨f, hf⟩ : ∃ f, f = (dcd b).2 := ⟨_, rfl⟩
      rw [← hZ, ← hf] at HD2 hbk
      have HE2 := Lib.hid fun (h0 : f = 0) v w' (i : Img w' v Z) => (by have h := encI_I w' v Z i (by rw [(hbk h0).1]; omega); rw [(hbk h0).1] at h; exact h : Calls Tryd.prog 20 #[v] w' (MadeAs b w'))
      have HC2 := Lib.hid fun (h0 : f = 0) v w' (i : Img w' v Z) => (by have h := checkI w' v Z i; rw [(hbk h0).2] at h; exact h : Calls Tryd.prog 17 #[v] w' fun e w'' => e = .returned (.int .i64 0) ∧ Later w' w'')
      obtain ⟨E, hE⟩ : ∃ E, E = XD.enc := ⟨_, rfl⟩
      rw [← hE] at HE HD1
      clear hs hL hn hm hp tab hd hen hq hz HLN hqq hl80 hm80 hz2 hdl hI hEl hDE hXD hEb hr hD2 hY hbk hZ hf hE hb hbb hmc hbm hbl hbc
      by_cases hr0 : r = 0
      · subst hr0
        replace HSM := Lib.hid (HSM.out rfl)
        by_cases hf0 : f = 0
        · subst hf0
          replace HE2 := Lib.hid (HE2.out rfl)
          replace HC2 := Lib.hid (HC2.out rfl)
          go_enter Tryd.func6, Tryd.ntmps6
          go_wp2_with (first
    | (go_at_call 14; refine (HF.out _ l0).mono ?_; rintro e w1 ⟨rfl, l1⟩; have b1 := b0.keep l1; have lw := Later.trans_ l0 l1; have c0 := b1.cell (j := 0) (v := .int .i64 en) rfl; have c1 := b1.cell (j := 1) (v := .int .i64 p) rfl; have c2 := b1.cell (j := 2) (v := .slice A n c) rfl; have c3 := b1.cell (j := 3) (v := .slice B m cd) rfl)
    | (go_at_call 20; (with_reducible refine (HE.out _ lw).mono ?_); rintro e w2 ⟨A2, c2', rfl, hE1, hE2, _, sE, l2⟩; clear c0 c1 c2 c3; replace b1 := b1.keep l2; replace lw := Later.trans_ lw l2)
    | (go_at_call 10; (with_reducible refine (HD1.out _ _ _ sE hE1 hE2).mono ?_); rintro e w3 ⟨v3, rfl, i3, l3⟩; clear sE; obtain ⟨A3, n3, c3', B3, cd3, rfl, _⟩ := Img.parts i3; replace b1 := b1.keep l3; replace lw := Later.trans_ lw l3; have a3 := later1 w3 (.cells #[.int .i64 Y.en, .int .i64 Y.p, .slice A3 n3 c3', .slice B3 Y.m cd3] 29); have b3 := Blk.new w3 29 #[.int .i64 Y.en, .int .i64 Y.p, .slice A3 n3 c3', .slice B3 Y.m cd3] [.int .i64 Y.en, .int .i64 Y.p, .slice A3 n3 c3', .slice B3 Y.m cd3] rfl; replace b1 := b1.keep a3; replace lw := Later.trans_ lw a3; replace i3 := i3.keep a3; have c0 := b1.cell (j := 0) (v := .int .i64 en) rfl; have c1 := b1.cell (j := 1) (v := .int .i64 p) rfl; have c2 := b1.cell (j := 2) (v := .slice A n c) rfl; have c3 := b1.cell (j := 3) (v := .slice B m cd) rfl)
    | (go_at_call 17; (with_reducible refine (HC.out _ lw).mono ?_); rintro e w4 ⟨rfl, l4⟩; clear c0 c1 c2 c3; replace b1 := b1.keep l4; replace lw := Later.trans_ lw l4; replace b3 := b3.keep l4; replace i3 := i3.keep l4; have c0 := b1.cell (j := 0) (v := .int .i64 en) rfl; have c1 := b1.cell (j := 1) (v := .int .i64 p) rfl; have c2 := b1.cell (j := 2) (v := .slice A n c) rfl; have c3 := b1.cell (j := 3) (v := .slice B m cd) rfl; have d0 := b3.cell (j := 0) (v := .int .i64 Y.en) rfl; have d1 := b3.cell (j := 1) (v := .int .i64 Y.p) rfl; have d2 := b3.cell (j := 2) (v := .slice A3 n3 c3') rfl; have d3 := b3.cell (j := 3) (v := .slice B3 Y.m cd3) rfl)
    | (go_at_call 13; (with_reducible refine (HSM.out _ _ lw i3).mono ?_); rintro e w5 ⟨rfl, l5⟩; clear c0 c1 c2 c3; clear d0 d1 d2 d3; replace b1 := b1.keep l5; replace lw := Later.trans_ lw l5)
    | (go_at_call 10; (with_reducible refine (HD2.out _ lw).mono ?_); rintro e w6 ⟨v6, rfl, i6, l6⟩; obtain ⟨A6, n6, c6', B6, cd6, rfl, _⟩ := Img.parts i6; replace lw := Later.trans_ lw l6; have a6 := later1 w6 (.cells #[.int .i64 Z.en, .int .i64 Z.p, .slice A6 n6 c6', .slice B6 Z.m cd6] 29); have b6 := Blk.new w6 29 #[.int .i64 Z.en, .int .i64 Z.p, .slice A6 n6 c6', .slice B6 Z.m cd6] [.int .i64 Z.en, .int .i64 Z.p, .slice A6 n6 c6', .slice B6 Z.m cd6] rfl; replace lw := Later.trans_ lw a6; replace i6 := i6.keep a6))
          replace b6 := b6.drew
          replace i6 : Img _ _ _ := i6.keep (later0 _).drew
          replace lw := lw.drew
          refine wp_region_held_drew (S := fun w' => True) (by kernel_rfl) trivial (fun hHeld => ?_)
          refine wpAnyH_ready (rs := [0]) (by kernel_rfl) (by simp) (AllReadyH.cons (o := ⟨some 43, .call { callee := .value (.func 8), args := #[], argTypes := #[] }, _, _, _, none⟩) rfl (fun K' hK => ?_) (AllReadyH.nil))
          go_simp
          refine (HS.out _ lw).mono ?_
          rintro e w8 ⟨rfl, l8⟩
          replace lw := Later.trans_ lw l8
          replace b6 := b6.keep l8
          replace i6 := i6.keep l8
          have sB := sb0.keep lw
          refine hK.out _ _ trivial (fun hHeld => ?_)
          clear hK K'
          try simp only [Act.put, List.setIfInBounds_toArray, List.set_cons_zero, List.set_cons_succ]
          refine wpAnyH_more (S' := fun w' => Later w8 w') (fun _ h => trivial) ?_
          replace hHeld := later0 w8
          refine wpAnyH_take (i := 1) (oi := ⟨some 44, .move (.tmp 43), _, _, _, none⟩) (v := .bool true) rfl (by kernel_rfl) (by kernel_rfl) (by kernel_rfl) (fun _ _ _ h => h) (Or.inl ⟨by rfl, fun _ _ => rfl⟩) hHeld ?_
          simp only [Act.put, List.setIfInBounds_toArray, List.set_cons_zero, List.set_cons_succ]
          refine wpAnyH_take (i := 2) (oi := ⟨some 45, .move (.tmp 8), _, _, _, _⟩) (v := .int .i64 0) rfl (by kernel_rfl) (by kernel_rfl) (by kernel_rfl) (fun _ _ _ h => h) (Or.inl ⟨by rfl, fun _ _ => rfl⟩) hHeld ?_
          simp only [Act.put, List.setIfInBounds_toArray, List.set_cons_zero, List.set_cons_succ]
          refine wpAnyH_take (i := 3) (oi := ⟨some 46, .binOp .neq 30 (.tmp 45) (.const (.int .i64 0)) 30, _, _, _, _⟩) (v := .bool false) rfl (by kernel_rfl) (by kernel_rfl) (by kernel_rfl) (fun _ _ _ h => h) (Or.inl ⟨by rfl, fun w _ => by go_simp⟩) hHeld ?_
          simp only [Act.put, List.setIfInBounds_toArray, List.set_cons_zero, List.set_cons_succ]
          refine wpAnyH_take (i := 4) (oi := ⟨some 47, .move (.tmp 46), _, _, _, _⟩) (v := .bool false) rfl (by kernel_rfl) (by kernel_rfl) (by kernel_rfl) (fun _ _ _ h => h) (Or.inl ⟨by rfl, fun _ _ => rfl⟩) hHeld ?_
          simp only [Act.put, List.setIfInBounds_toArray, List.set_cons_zero, List.set_cons_succ]
          refine wpAnyH_take (i := 5) (oi := ⟨some 48, .load 29 (.tmp 7), _, _, _, _⟩) (v := .agg #[.int .i64 Z.en, .int .i64 Z.p, .slice A6 n6 c6', .slice B6 Z.m cd6]) rfl (by kernel_rfl) (by kernel_rfl) (by kernel_rfl) (fun _ _ _ h => h) (yieldsIf_load_mid (by rfl) _ _ rfl _ _ rfl [.int .i64 Z.en, .int .i64 Z.p, .slice A6 n6 c6', .slice B6 Z.m cd6] _ (fun w h => blk_at (b6.keep h)) Tryd.underlying29 rfl (img_sz _ _ _ _)) hHeld ?_
          simp only [Act.put, List.setIfInBounds_toArray, List.set_cons_zero, List.set_cons_succ]
          refine wpAnyH_take (i := 8) (oi := ⟨some 51, .move (.tmp 1), _, _, _, _⟩) (v := .slice Ab b.length cb) rfl (by kernel_rfl) (by kernel_rfl) (by kernel_rfl) (fun _ _ _ h => h) (Or.inl ⟨by rfl, fun _ _ => rfl⟩) hHeld ?_
          simp only [Act.put, List.setIfInBounds_toArray, List.set_cons_zero, List.set_cons_succ]
          refine wpAnyH_take (i := 9) (oi := ⟨some 52, .convert 25 9 (.tmp 51), _, _, _, _⟩) (v := .string (strOfNums b)) rfl (by kernel_rfl) (by kernel_rfl) (by kernel_rfl) (fun _ _ _ h => h) (Or.inl ⟨by rfl, fun w hS => by have h5 := run_str_ex sB hS cb; go_simp⟩) hHeld ?_
          simp only [Act.put, List.setIfInBounds_toArray, List.set_cons_zero, List.set_cons_succ]
          refine wpAnyH_ready (rs := [6]) (by kernel_rfl) (by simp) (AllReadyH.cons (o := ⟨some 49, .call { callee := .value (.func 20), args := #[.tmp 48], argTypes := #[29] }, _, _, _, _⟩) rfl (fun K' hK => ?_) (AllReadyH.nil))
          go_simp
          refine (HE2.out _ _ i6).mono ?_
          rintro e w9 ⟨AE, cE, rfl, _, _, _, sE, l9⟩
          replace lw := Later.trans_ lw l9
          replace b6 := b6.keep l9
          replace i6 := i6.keep l9
          refine hK.out _ _ l9 (fun hHeld => ?_)
          clear hK K'
          try simp only [Act.put, List.setIfInBounds_toArray, List.set_cons_zero, List.set_cons_succ]
          refine wpAnyH_more (S' := fun w' => Later w9 w') (fun _ h => Later.trans_ l9 h) ?_
          replace hHeld := later0 w9
          refine wpAnyH_take (i := 7) (oi := ⟨some 50, .convert 25 9 (.tmp 49), _, _, _, _⟩) (v := .string (strOfNums b)) rfl (by kernel_rfl) (by kernel_rfl) (by kernel_rfl) (fun _ _ _ h => h) (Or.inl ⟨by rfl, fun w hS => by have h5 := run_str_ex sE hS cE; go_simp⟩) hHeld ?_
          simp only [Act.put, List.setIfInBounds_toArray, List.set_cons_zero, List.set_cons_succ]
          refine wpAnyH_take (i := 10) (oi := ⟨some 53, .binOp .eql 9 (.tmp 50) (.tmp 52) 9, _, _, _, _⟩) (v := .bool true) rfl (by kernel_rfl) (by kernel_rfl) (by kernel_rfl) (fun _ _ _ h => h) (Or.inl ⟨by rfl, fun w _ => by go_simp⟩) hHeld ?_
          simp only [Act.put, List.setIfInBounds_toArray, List.set_cons_zero, List.set_cons_succ]
          refine wpAnyH_take (i := 11) (oi := ⟨some 54, .move (.tmp 53), _, _, _, _⟩) (v := .bool true) rfl (by kernel_rfl) (by kernel_rfl) (by kernel_rfl) (fun _ _ _ h => h) (Or.inl ⟨by rfl, fun _ _ => rfl⟩) hHeld ?_
          simp only [Act.put, List.setIfInBounds_toArray, List.set_cons_zero, List.set_cons_succ]
          refine wpAnyH_take (i := 12) (oi := ⟨some 55, .load 29 (.tmp 7), _, _, _, _⟩) (v := .agg #[.int .i64 Z.en, .int .i64 Z.p, .slice A6 n6 c6', .slice B6 Z.m cd6]) rfl (by kernel_rfl) (by kernel_rfl) (by kernel_rfl) (fun _ _ _ h => h) (yieldsIf_load_mid (by rfl) _ _ rfl _ _ rfl [.int .i64 Z.en, .int .i64 Z.p, .slice A6 n6 c6', .slice B6 Z.m cd6] _ (fun w h => blk_at (b6.keep h)) Tryd.underlying29 rfl (img_sz _ _ _ _)) hHeld ?_
          simp only [Act.put, List.setIfInBounds_toArray, List.set_cons_zero, List.set_cons_succ]
          refine wpAnyH_ready (rs := [13]) (by kernel_rfl) (by simp) (AllReadyH.cons (o := ⟨some 56, .call { callee := .value (.func 17), args := #[.tmp 55], argTypes := #[29] }, _, _, _, _⟩) rfl (fun K' hK => ?_) (AllReadyH.nil))
          go_simp
          refine (HC2.out _ _ i6).mono ?_
          rintro e w10 ⟨rfl, l10⟩
          replace lw := Later.trans_ lw l10
          replace b6 := b6.keep l10
          refine hK.out _ _ l10 (fun hHeld => ?_)
          clear hK K'
          try simp only [Act.put, List.setIfInBounds_toArray, List.set_cons_zero, List.set_cons_succ]
          refine wpAnyH_take (i := 14) (oi := ⟨some 57, .binOp .eql 30 (.tmp 56) (.const (.int .i64 0)) 30, _, _, _, _⟩) (v := .bool true) rfl (by kernel_rfl) (by kernel_rfl) (by kernel_rfl) (fun _ _ _ h => h) (Or.inl ⟨by rfl, fun w _ => by go_simp⟩) hHeld ?_
          simp only [Act.put, List.setIfInBounds_toArray, List.set_cons_zero, List.set_cons_succ]
          refine wpAnyH_take (i := 15) (oi := ⟨some 58, .pick (.tmp 54) (.tmp 57) (.const (.bool false)), _, _, _, _⟩) (v := .bool true) rfl (by kernel_rfl) (by kernel_rfl) (by kernel_rfl) (fun _ _ _ h => h) (Or.inl ⟨by rfl, fun w _ => by go_simp⟩) hHeld ?_
          simp only [Act.put, List.setIfInBounds_toArray, List.set_cons_zero, List.set_cons_succ]
          refine wpAnyH_take (i := 16) (oi := ⟨some 59, .pick (.tmp 47) (.const (.bool true)) (.tmp 58), _, _, _, _⟩) (v := .bool true) rfl (by kernel_rfl) (by kernel_rfl) (by kernel_rfl) (fun _ _ _ h => h) (Or.inl ⟨by rfl, fun w _ => by go_simp⟩) hHeld ?_
          simp only [Act.put, List.setIfInBounds_toArray, List.set_cons_zero, List.set_cons_succ]
          refine wpAnyH_take (i := 17) (oi := ⟨some 60, .pick (.tmp 44) (.tmp 59) (.const (.bool false)), _, _, _, none⟩) (v := .bool true) rfl (by kernel_rfl) (by kernel_rfl) (by kernel_rfl) (fun _ _ _ h => h) (Or.inl ⟨by rfl, fun w _ => by go_simp⟩) hHeld ?_
          simp only [Act.put, List.setIfInBounds_toArray, List.set_cons_zero, List.set_cons_succ]
          refine wpAnyH_take (i := 18) (oi := ⟨some 4, .assign (.tmp 60), _, _, _, none⟩) (v := .bool true) rfl (by kernel_rfl) (by kernel_rfl) (by kernel_rfl) (fun _ _ _ h => h) (Or.inl ⟨by rfl, fun _ _ => rfl⟩) hHeld ?_
          simp only [Act.put, List.setIfInBounds_toArray, List.set_cons_zero, List.set_cons_succ]
          refine wpAnyH_done (by kernel_rfl) ?_ _
          clear hHeld
          go_wp2
          go_ret
          exact ⟨rfl, lw⟩
        · have hf1 : (f == 0) = false := neq_false' hf0
          clear HE2 HC2
          go_enter Tryd.func6, Tryd.ntmps6
          go_wp2_with (first
    | (go_at_call 14; refine (HF.out _ l0).mono ?_; rintro e w1 ⟨rfl, l1⟩; have b1 := b0.keep l1; have lw := Later.trans_ l0 l1; have c0 := b1.cell (j := 0) (v := .int .i64 en) rfl; have c1 := b1.cell (j := 1) (v := .int .i64 p) rfl; have c2 := b1.cell (j := 2) (v := .slice A n c) rfl; have c3 := b1.cell (j := 3) (v := .slice B m cd) rfl)
    | (go_at_call 20; (with_reducible refine (HE.out _ lw).mono ?_); rintro e w2 ⟨A2, c2', rfl, hE1, hE2, _, sE, l2⟩; clear c0 c1 c2 c3; replace b1 := b1.keep l2; replace lw := Later.trans_ lw l2)
    | (go_at_call 10; (with_reducible refine (HD1.out _ _ _ sE hE1 hE2).mono ?_); rintro e w3 ⟨v3, rfl, i3, l3⟩; clear sE; obtain ⟨A3, n3, c3', B3, cd3, rfl, _⟩ := Img.parts i3; replace b1 := b1.keep l3; replace lw := Later.trans_ lw l3; have a3 := later1 w3 (.cells #[.int .i64 Y.en, .int .i64 Y.p, .slice A3 n3 c3', .slice B3 Y.m cd3] 29); have b3 := Blk.new w3 29 #[.int .i64 Y.en, .int .i64 Y.p, .slice A3 n3 c3', .slice B3 Y.m cd3] [.int .i64 Y.en, .int .i64 Y.p, .slice A3 n3 c3', .slice B3 Y.m cd3] rfl; replace b1 := b1.keep a3; replace lw := Later.trans_ lw a3; replace i3 := i3.keep a3; have c0 := b1.cell (j := 0) (v := .int .i64 en) rfl; have c1 := b1.cell (j := 1) (v := .int .i64 p) rfl; have c2 := b1.cell (j := 2) (v := .slice A n c) rfl; have c3 := b1.cell (j := 3) (v := .slice B m cd) rfl)
    | (go_at_call 17; (with_reducible refine (HC.out _ lw).mono ?_); rintro e w4 ⟨rfl, l4⟩; clear c0 c1 c2 c3; replace b1 := b1.keep l4; replace lw := Later.trans_ lw l4; replace b3 := b3.keep l4; replace i3 := i3.keep l4; have c0 := b1.cell (j := 0) (v := .int .i64 en) rfl; have c1 := b1.cell (j := 1) (v := .int .i64 p) rfl; have c2 := b1.cell (j := 2) (v := .slice A n c) rfl; have c3 := b1.cell (j := 3) (v := .slice B m cd) rfl; have d0 := b3.cell (j := 0) (v := .int .i64 Y.en) rfl; have d1 := b3.cell (j := 1) (v := .int .i64 Y.p) rfl; have d2 := b3.cell (j := 2) (v := .slice A3 n3 c3') rfl; have d3 := b3.cell (j := 3) (v := .slice B3 Y.m cd3) rfl)
    | (go_at_call 13; (with_reducible refine (HSM.out _ _ lw i3).mono ?_); rintro e w5 ⟨rfl, l5⟩; clear c0 c1 c2 c3; clear d0 d1 d2 d3; replace b1 := b1.keep l5; replace lw := Later.trans_ lw l5)
    | (go_at_call 10; (with_reducible refine (HD2.out _ lw).mono ?_); rintro e w6 ⟨v6, rfl, i6, l6⟩; obtain ⟨A6, n6, c6', B6, cd6, rfl, _⟩ := Img.parts i6; replace lw := Later.trans_ lw l6; have a6 := later1 w6 (.cells #[.int .i64 Z.en, .int .i64 Z.p, .slice A6 n6 c6', .slice B6 Z.m cd6] 29); have b6 := Blk.new w6 29 #[.int .i64 Z.en, .int .i64 Z.p, .slice A6 n6 c6', .slice B6 Z.m cd6] [.int .i64 Z.en, .int .i64 Z.p, .slice A6 n6 c6', .slice B6 Z.m cd6] rfl; replace lw := Later.trans_ lw a6; replace i6 := i6.keep a6))
          replace b6 := b6.drew
          replace i6 : Img _ _ _ := i6.keep (later0 _).drew
          replace lw := lw.drew
          refine wp_region_held_drew (S := fun w' => True) (by kernel_rfl) trivial (fun hHeld => ?_)
          refine wpAnyH_ready (rs := [0]) (by kernel_rfl) (by simp) (AllReadyH.cons (o := ⟨some 43, .call { callee := .value (.func 8), args := #[], argTypes := #[] }, _, _, _, none⟩) rfl (fun K' hK => ?_) (AllReadyH.nil))
          go_simp
          refine (HS.out _ lw).mono ?_
          rintro e w8 ⟨rfl, l8⟩
          replace lw := Later.trans_ lw l8
          replace b6 := b6.keep l8
          replace i6 := i6.keep l8
          have sB := sb0.keep lw
          refine hK.out _ _ trivial (fun hHeld => ?_)
          clear hK K'
          try simp only [Act.put, List.setIfInBounds_toArray, List.set_cons_zero, List.set_cons_succ]
          refine wpAnyH_take (i := 1) (oi := ⟨some 44, .move (.tmp 43), _, _, _, none⟩) (v := .bool true) rfl (by kernel_rfl) (by kernel_rfl) (by kernel_rfl) (fun _ _ _ h => h) (Or.inl ⟨by rfl, fun _ _ => rfl⟩) hHeld ?_
          simp only [Act.put, List.setIfInBounds_toArray, List.set_cons_zero, List.set_cons_succ]
          refine wpAnyH_take (i := 2) (oi := ⟨some 45, .move (.tmp 8), _, _, _, _⟩) (v := .int .i64 f) rfl (by kernel_rfl) (by kernel_rfl) (by kernel_rfl) (fun _ _ _ h => h) (Or.inl ⟨by rfl, fun _ _ => rfl⟩) hHeld ?_
          simp only [Act.put, List.setIfInBounds_toArray, List.set_cons_zero, List.set_cons_succ]
          refine wpAnyH_take (i := 3) (oi := ⟨some 46, .binOp .neq 30 (.tmp 45) (.const (.int .i64 0)) 30, _, _, _, _⟩) (v := .bool true) rfl (by kernel_rfl) (by kernel_rfl) (by kernel_rfl) (fun _ _ _ h => h) (Or.inl ⟨by rfl, fun w _ => by go_simp⟩) hHeld ?_
          simp only [Act.put, List.setIfInBounds_toArray, List.set_cons_zero, List.set_cons_succ]
          refine wpAnyH_take (i := 4) (oi := ⟨some 47, .move (.tmp 46), _, _, _, _⟩) (v := .bool true) rfl (by kernel_rfl) (by kernel_rfl) (by kernel_rfl) (fun _ _ _ h => h) (Or.inl ⟨by rfl, fun _ _ => rfl⟩) hHeld ?_
          simp only [Act.put, List.setIfInBounds_toArray, List.set_cons_zero, List.set_cons_succ]
          refine wpAnyH_take (i := 5) (oi := ⟨some 48, .load 29 (.tmp 7), _, _, _, _⟩) (v := undef) rfl (by kernel_rfl) (by kernel_rfl) (by kernel_rfl) (fun _ _ _ h => h) (Or.inr ⟨by rfl, rfl⟩) hHeld ?_
          simp only [Act.put, List.setIfInBounds_toArray, List.set_cons_zero, List.set_cons_succ]
          refine wpAnyH_take (i := 6) (oi := ⟨some 49, .call { callee := .value (.func 20), args := #[.tmp 48], argTypes := #[29] }, _, _, _, _⟩) (v := undef) rfl (by kernel_rfl) (by kernel_rfl) (by kernel_rfl) (fun _ _ _ h => h) (Or.inr ⟨by rfl, rfl⟩) hHeld ?_
          simp only [Act.put, List.setIfInBounds_toArray, List.set_cons_zero, List.set_cons_succ]
          refine wpAnyH_take (i := 7) (oi := ⟨some 50, .convert 25 9 (.tmp 49), _, _, _, _⟩) (v := undef) rfl (by kernel_rfl) (by kernel_rfl) (by kernel_rfl) (fun _ _ _ h => h) (Or.inr ⟨by rfl, rfl⟩) hHeld ?_
          simp only [Act.put, List.setIfInBounds_toArray, List.set_cons_zero, List.set_cons_succ]
          refine wpAnyH_take (i := 8) (oi := ⟨some 51, .move (.tmp 1), _, _, _, _⟩) (v := undef) rfl (by kernel_rfl) (by kernel_rfl) (by kernel_rfl) (fun _ _ _ h => h) (Or.inr ⟨by rfl, rfl⟩) hHeld ?_
          simp only [Act.put, List.setIfInBounds_toArray, List.set_cons_zero, List.set_cons_succ]
          refine wpAnyH_take (i := 9) (oi := ⟨some 52, .convert 25 9 (.tmp 51), _, _, _, _⟩) (v := undef) rfl (by kernel_rfl) (by kernel_rfl) (by kernel_rfl) (fun _ _ _ h => h) (Or.inr ⟨by rfl, rfl⟩) hHeld ?_
          simp only [Act.put, List.setIfInBounds_toArray, List.set_cons_zero, List.set_cons_succ]
          refine wpAnyH_take (i := 10) (oi := ⟨some 53, .binOp .eql 9 (.tmp 50) (.tmp 52) 9, _, _, _, _⟩) (v := undef) rfl (by kernel_rfl) (by kernel_rfl) (by kernel_rfl) (fun _ _ _ h => h) (Or.inr ⟨by rfl, rfl⟩) hHeld ?_
          simp only [Act.put, List.setIfInBounds_toArray, List.set_cons_zero, List.set_cons_succ]
          refine wpAnyH_take (i := 11) (oi := ⟨some 54, .move (.tmp 53), _, _, _, _⟩) (v := undef) rfl (by kernel_rfl) (by kernel_rfl) (by kernel_rfl) (fun _ _ _ h => h) (Or.inr ⟨by rfl, rfl⟩) hHeld ?_
          simp only [Act.put, List.setIfInBounds_toArray, List.set_cons_zero, List.set_cons_succ]
          refine wpAnyH_take (i := 12) (oi := ⟨some 55, .load 29 (.tmp 7), _, _, _, _⟩) (v := undef) rfl (by kernel_rfl) (by kernel_rfl) (by kernel_rfl) (fun _ _ _ h => h) (Or.inr ⟨by rfl, rfl⟩) hHeld ?_
          simp only [Act.put, List.setIfInBounds_toArray, List.set_cons_zero, List.set_cons_succ]
          refine wpAnyH_take (i := 13) (oi := ⟨some 56, .call { callee := .value (.func 17), args := #[.tmp 55], argTypes := #[29] }, _, _, _, _⟩) (v := undef) rfl (by kernel_rfl) (by kernel_rfl) (by kernel_rfl) (fun _ _ _ h => h) (Or.inr ⟨by rfl, rfl⟩) hHeld ?_
          simp only [Act.put, List.setIfInBounds_toArray, List.set_cons_zero, List.set_cons_succ]
          refine wpAnyH_take (i := 14) (oi := ⟨some 57, .binOp .eql 30 (.tmp 56) (.const (.int .i64 0)) 30, _, _, _, _⟩) (v := undef) rfl (by kernel_rfl) (by kernel_rfl) (by kernel_rfl) (fun _ _ _ h => h) (Or.inr ⟨by rfl, rfl⟩) hHeld ?_
          simp only [Act.put, List.setIfInBounds_toArray, List.set_cons_zero, List.set_cons_succ]
          refine wpAnyH_take (i := 15) (oi := ⟨some 58, .pick (.tmp 54) (.tmp 57) (.const (.bool false)), _, _, _, _⟩) (v := undef) rfl (by kernel_rfl) (by kernel_rfl) (by kernel_rfl) (fun _ _ _ h => h) (Or.inr ⟨by rfl, rfl⟩) hHeld ?_
          simp only [Act.put, List.setIfInBounds_toArray, List.set_cons_zero, List.set_cons_succ]
          refine wpAnyH_take (i := 16) (oi := ⟨some 59, .pick (.tmp 47) (.const (.bool true)) (.tmp 58), _, _, _, _⟩) (v := .bool true) rfl (by kernel_rfl) (by kernel_rfl) (by kernel_rfl) (fun _ _ _ h => h) (Or.inl ⟨by rfl, fun w _ => by go_simp⟩) hHeld ?_
          simp only [Act.put, List.setIfInBounds_toArray, List.set_cons_zero, List.set_cons_succ]
          refine wpAnyH_take (i := 17) (oi := ⟨some 60, .pick (.tmp 44) (.tmp 59) (.const (.bool false)), _, _, _, none⟩) (v := .bool true) rfl (by kernel_rfl) (by kernel_rfl) (by kernel_rfl) (fun _ _ _ h => h) (Or.inl ⟨by rfl, fun w _ => by go_simp⟩) hHeld ?_
          simp only [Act.put, List.setIfInBounds_toArray, List.set_cons_zero, List.set_cons_succ]
          refine wpAnyH_take (i := 18) (oi := ⟨some 4, .assign (.tmp 60), _, _, _, none⟩) (v := .bool true) rfl (by kernel_rfl) (by kernel_rfl) (by kernel_rfl) (fun _ _ _ h => h) (Or.inl ⟨by rfl, fun _ _ => rfl⟩) hHeld ?_
          simp only [Act.put, List.setIfInBounds_toArray, List.set_cons_zero, List.set_cons_succ]
          refine wpAnyH_done (by kernel_rfl) ?_ _
          clear hHeld
          go_wp2
          go_ret
          exact ⟨rfl, lw⟩
      · have hr1 : (r == 0) = false := neq_false' hr0
        clear HSM
        by_cases hf0 : f = 0
        · subst hf0
          replace HE2 := Lib.hid (HE2.out rfl)
          replace HC2 := Lib.hid (HC2.out rfl)
          go_enter Tryd.func6, Tryd.ntmps6
          go_wp2_with (first
    | (go_at_call 14; refine (HF.out _ l0).mono ?_; rintro e w1 ⟨rfl, l1⟩; have b1 := b0.keep l1; have lw := Later.trans_ l0 l1; have c0 := b1.cell (j := 0) (v := .int .i64 en) rfl; have c1 := b1.cell (j := 1) (v := .int .i64 p) rfl; have c2 := b1.cell (j := 2) (v := .slice A n c) rfl; have c3 := b1.cell (j := 3) (v := .slice B m cd) rfl)
    | (go_at_call 20; (with_reducible refine (HE.out _ lw).mono ?_); rintro e w2 ⟨A2, c2', rfl, hE1, hE2, _, sE, l2⟩; clear c0 c1 c2 c3; replace b1 := b1.keep l2; replace lw := Later.trans_ lw l2)
    | (go_at_call 10; (with_reducible refine (HD1.out _ _ _ sE hE1 hE2).mono ?_); rintro e w3 ⟨v3, rfl, i3, l3⟩; clear sE; obtain ⟨A3, n3, c3', B3, cd3, rfl, _⟩ := Img.parts i3; replace b1 := b1.keep l3; replace lw := Later.trans_ lw l3; have a3 := later1 w3 (.cells #[.int .i64 Y.en, .int .i64 Y.p, .slice A3 n3 c3', .slice B3 Y.m cd3] 29); have b3 := Blk.new w3 29 #[.int .i64 Y.en, .int .i64 Y.p, .slice A3 n3 c3', .slice B3 Y.m cd3] [.int .i64 Y.en, .int .i64 Y.p, .slice A3 n3 c3', .slice B3 Y.m cd3] rfl; replace b1 := b1.keep a3; replace lw := Later.trans_ lw a3; replace i3 := i3.keep a3; have c0 := b1.cell (j := 0) (v := .int .i64 en) rfl; have c1 := b1.cell (j := 1) (v := .int .i64 p) rfl; have c2 := b1.cell (j := 2) (v := .slice A n c) rfl; have c3 := b1.cell (j := 3) (v := .slice B m cd) rfl)
    | (go_at_call 17; (with_reducible refine (HC.out _ lw).mono ?_); rintro e w4 ⟨rfl, l4⟩; clear c0 c1 c2 c3; replace b1 := b1.keep l4; replace lw := Later.trans_ lw l4; replace b3 := b3.keep l4; replace i3 := i3.keep l4; have c0 := b1.cell (j := 0) (v := .int .i64 en) rfl; have c1 := b1.cell (j := 1) (v := .int .i64 p) rfl; have c2 := b1.cell (j := 2) (v := .slice A n c) rfl; have c3 := b1.cell (j := 3) (v := .slice B m cd) rfl; have d0 := b3.cell (j := 0) (v := .int .i64 Y.en) rfl; have d1 := b3.cell (j := 1) (v := .int .i64 Y.p) rfl; have d2 := b3.cell (j := 2) (v := .slice A3 n3 c3') rfl; have d3 := b3.cell (j := 3) (v := .slice B3 Y.m cd3) rfl)
    | (go_at_call 13; (with_reducible refine (HSM.out _ _ lw i3).mono ?_); rintro e w5 ⟨rfl, l5⟩; clear c0 c1 c2 c3; clear d0 d1 d2 d3; replace b1 := b1.keep l5; replace lw := Later.trans_ lw l5)
    | (go_at_call 10; (with_reducible refine (HD2.out _ lw).mono ?_); rintro e w6 ⟨v6, rfl, i6, l6⟩; obtain ⟨A6, n6, c6', B6, cd6, rfl, _⟩ := Img.parts i6; replace lw := Later.trans_ lw l6; have a6 := later1 w6 (.cells #[.int .i64 Z.en, .int .i64 Z.p, .slice A6 n6 c6', .slice B6 Z.m cd6] 29); have b6 := Blk.new w6 29 #[.int .i64 Z.en, .int .i64 Z.p, .slice A6 n6 c6', .slice B6 Z.m cd6] [.int .i64 Z.en, .int .i64 Z.p, .slice A6 n6 c6', .slice B6 Z.m cd6] rfl; replace lw := Later.trans_ lw a6; replace i6 := i6.keep a6))
          replace b6 := b6.drew
          replace i6 : Img _ _ _ := i6.keep (later0 _).drew
          replace lw := lw.drew
          refine wp_region_held_drew (S := fun w' => True) (by kernel_rfl) trivial (fun hHeld => ?_)
          refine wpAnyH_ready (rs := [0]) (by kernel_rfl) (by simp) (AllReadyH.cons (o := ⟨some 43, .call { callee := .value (.func 8), args := #[], argTypes := #[] }, _, _, _, none⟩) rfl (fun K' hK => ?_) (AllReadyH.nil))
          go_simp
          refine (HS.out _ lw).mono ?_
          rintro e w8 ⟨rfl, l8⟩
          replace lw := Later.trans_ lw l8
          replace b6 := b6.keep l8
          replace i6 := i6.keep l8
          have sB := sb0.keep lw
          refine hK.out _ _ trivial (fun hHeld => ?_)
          clear hK K'
          try simp only [Act.put, List.setIfInBounds_toArray, List.set_cons_zero, List.set_cons_succ]
          refine wpAnyH_more (S' := fun w' => Later w8 w') (fun _ h => trivial) ?_
          replace hHeld := later0 w8
          refine wpAnyH_take (i := 1) (oi := ⟨some 44, .move (.tmp 43), _, _, _, none⟩) (v := .bool true) rfl (by kernel_rfl) (by kernel_rfl) (by kernel_rfl) (fun _ _ _ h => h) (Or.inl ⟨by rfl, fun _ _ => rfl⟩) hHeld ?_
          simp only [Act.put, List.setIfInBounds_toArray, List.set_cons_zero, List.set_cons_succ]
          refine wpAnyH_take (i := 2) (oi := ⟨some 45, .move (.tmp 8), _, _, _, _⟩) (v := .int .i64 0) rfl (by kernel_rfl) (by kernel_rfl) (by kernel_rfl) (fun _ _ _ h => h) (Or.inl ⟨by rfl, fun _ _ => rfl⟩) hHeld ?_
          simp only [Act.put, List.setIfInBounds_toArray, List.set_cons_zero, List.set_cons_succ]
          refine wpAnyH_take (i := 3) (oi := ⟨some 46, .binOp .neq 30 (.tmp 45) (.const (.int .i64 0)) 30, _, _, _, _⟩) (v := .bool false) rfl (by kernel_rfl) (by kernel_rfl) (by kernel_rfl) (fun _ _ _ h => h) (Or.inl ⟨by rfl, fun w _ => by go_simp⟩) hHeld ?_
          simp only [Act.put, List.setIfInBounds_toArray, List.set_cons_zero, List.set_cons_succ]
          refine wpAnyH_take (i := 4) (oi := ⟨some 47, .move (.tmp 46), _, _, _, _⟩) (v := .bool false) rfl (by kernel_rfl) (by kernel_rfl) (by kernel_rfl) (fun _ _ _ h => h) (Or.inl ⟨by rfl, fun _ _ => rfl⟩) hHeld ?_
          simp only [Act.put, List.setIfInBounds_toArray, List.set_cons_zero, List.set_cons_succ]
          refine wpAnyH_take (i := 5) (oi := ⟨some 48, .load 29 (.tmp 7), _, _, _, _⟩) (v := .agg #[.int .i64 Z.en, .int .i64 Z.p, .slice A6 n6 c6', .slice B6 Z.m cd6]) rfl (by kernel_rfl) (by kernel_rfl) (by kernel_rfl) (fun _ _ _ h => h) (yieldsIf_load_mid (by rfl) _ _ rfl _ _ rfl [.int .i64 Z.en, .int .i64 Z.p, .slice A6 n6 c6', .slice B6 Z.m cd6] _ (fun w h => blk_at (b6.keep h)) Tryd.underlying29 rfl (img_sz _ _ _ _)) hHeld ?_
          simp only [Act.put, List.setIfInBounds_toArray, List.set_cons_zero, List.set_cons_succ]
          refine wpAnyH_take (i := 8) (oi := ⟨some 51, .move (.tmp 1), _, _, _, _⟩) (v := .slice Ab b.length cb) rfl (by kernel_rfl) (by kernel_rfl) (by kernel_rfl) (fun _ _ _ h => h) (Or.inl ⟨by rfl, fun _ _ => rfl⟩) hHeld ?_
          simp only [Act.put, List.setIfInBounds_toArray, List.set_cons_zero, List.set_cons_succ]
          refine wpAnyH_take (i := 9) (oi := ⟨some 52, .convert 25 9 (.tmp 51), _, _, _, _⟩) (v := .string (strOfNums b)) rfl (by kernel_rfl) (by kernel_rfl) (by kernel_rfl) (fun _ _ _ h => h) (Or.inl ⟨by rfl, fun w hS => by have h5 := run_str_ex sB hS cb; go_simp⟩) hHeld ?_
          simp only [Act.put, List.setIfInBounds_toArray, List.set_cons_zero, List.set_cons_succ]
          refine wpAnyH_ready (rs := [6]) (by kernel_rfl) (by simp) (AllReadyH.cons (o := ⟨some 49, .call { callee := .value (.func 20), args := #[.tmp 48], argTypes := #[29] }, _, _, _, _⟩) rfl (fun K' hK => ?_) (AllReadyH.nil))
          go_simp
          refine (HE2.out _ _ i6).mono ?_
          rintro e w9 ⟨AE, cE, rfl, _, _, _, sE, l9⟩
          replace lw := Later.trans_ lw l9
          replace b6 := b6.keep l9
          replace i6 := i6.keep l9
          refine hK.out _ _ l9 (fun hHeld => ?_)
          clear hK K'
          try simp only [Act.put, List.setIfInBounds_toArray, List.set_cons_zero, List.set_cons_succ]
          refine wpAnyH_more (S' := fun w' => Later w9 w') (fun _ h => Later.trans_ l9 h) ?_
          replace hHeld := later0 w9
          refine wpAnyH_take (i := 7) (oi := ⟨some 50, .convert 25 9 (.tmp 49), _, _, _, _⟩) (v := .string (strOfNums b)) rfl (by kernel_rfl) (by kernel_rfl) (by kernel_rfl) (fun _ _ _ h => h) (Or.inl ⟨by rfl, fun w hS => by have h5 := run_str_ex sE hS cE; go_simp⟩) hHeld ?_
          simp only [Act.put, List.setIfInBounds_toArray, List.set_cons_zero, List.set_cons_succ]
          refine wpAnyH_take (i := 10) (oi := ⟨some 53, .binOp .eql 9 (.tmp 50) (.tmp 52) 9, _, _, _, _⟩) (v := .bool true) rfl (by kernel_rfl) (by kernel_rfl) (by kernel_rfl) (fun _ _ _ h => h) (Or.inl ⟨by rfl, fun w _ => by go_simp⟩) hHeld ?_
          simp only [Act.put, List.setIfInBounds_toArray, List.set_cons_zero, List.set_cons_succ]
          refine wpAnyH_take (i := 11) (oi := ⟨some 54, .move (.tmp 53), _, _, _, _⟩) (v := .bool true) rfl (by kernel_rfl) (by kernel_rfl) (by kernel_rfl) (fun _ _ _ h => h) (Or.inl ⟨by rfl, fun _ _ => rfl⟩) hHeld ?_
          simp only [Act.put, List.setIfInBounds_toArray, List.set_cons_zero, List.set_cons_succ]
          refine wpAnyH_take (i := 12) (oi := ⟨some 55, .load 29 (.tmp 7), _, _, _, _⟩) (v := .agg #[.int .i64 Z.en, .int .i64 Z.p, .slice A6 n6 c6', .slice B6 Z.m cd6]) rfl (by kernel_rfl) (by kernel_rfl) (by kernel_rfl) (fun _ _ _ h => h) (yieldsIf_load_mid (by rfl) _ _ rfl _ _ rfl [.int .i64 Z.en, .int .i64 Z.p, .slice A6 n6 c6', .slice B6 Z.m cd6] _ (fun w h => blk_at (b6.keep h)) Tryd.underlying29 rfl (img_sz _ _ _ _)) hHeld ?_
          simp only [Act.put, List.setIfInBounds_toArray, List.set_cons_zero, List.set_cons_succ]
          refine wpAnyH_ready (rs := [13]) (by kernel_rfl) (by simp) (AllReadyH.cons (o := ⟨some 56, .call { callee := .value (.func 17), args := #[.tmp 55], argTypes := #[29] }, _, _, _, _⟩) rfl (fun K' hK => ?_) (AllReadyH.nil))
          go_simp
          refine (HC2.out _ _ i6).mono ?_
          rintro e w10 ⟨rfl, l10⟩
          replace lw := Later.trans_ lw l10
          replace b6 := b6.keep l10
          refine hK.out _ _ l10 (fun hHeld => ?_)
          clear hK K'
          try simp only [Act.put, List.setIfInBounds_toArray, List.set_cons_zero, List.set_cons_succ]
          refine wpAnyH_take (i := 14) (oi := ⟨some 57, .binOp .eql 30 (.tmp 56) (.const (.int .i64 0)) 30, _, _, _, _⟩) (v := .bool true) rfl (by kernel_rfl) (by kernel_rfl) (by kernel_rfl) (fun _ _ _ h => h) (Or.inl ⟨by rfl, fun w _ => by go_simp⟩) hHeld ?_
          simp only [Act.put, List.setIfInBounds_toArray, List.set_cons_zero, List.set_cons_succ]
          refine wpAnyH_take (i := 15) (oi := ⟨some 58, .pick (.tmp 54) (.tmp 57) (.const (.bool false)), _, _, _, _⟩) (v := .bool true) rfl (by kernel_rfl) (by kernel_rfl) (by kernel_rfl) (fun _ _ _ h => h) (Or.inl ⟨by rfl, fun w _ => by go_simp⟩) hHeld ?_
          simp only [Act.put, List.setIfInBounds_toArray, List.set_cons_zero, List.set_cons_succ]
          refine wpAnyH_take (i := 16) (oi := ⟨some 59, .pick (.tmp 47) (.const (.bool true)) (.tmp 58), _, _, _, _⟩) (v := .bool true) rfl (by kernel_rfl) (by kernel_rfl) (by kernel_rfl) (fun _ _ _ h => h) (Or.inl ⟨by rfl, fun w _ => by go_simp⟩) hHeld ?_
          simp only [Act.put, List.setIfInBounds_toArray, List.set_cons_zero, List.set_cons_succ]
          refine wpAnyH_take (i := 17) (oi := ⟨some 60, .pick (.tmp 44) (.tmp 59) (.const (.bool false)), _, _, _, none⟩) (v := .bool true) rfl (by kernel_rfl) (by kernel_rfl) (by kernel_rfl) (fun _ _ _ h => h) (Or.inl ⟨by rfl, fun w _ => by go_simp⟩) hHeld ?_
          simp only [Act.put, List.setIfInBounds_toArray, List.set_cons_zero, List.set_cons_succ]
          refine wpAnyH_take (i := 18) (oi := ⟨some 4, .assign (.tmp 60), _, _, _, none⟩) (v := .bool true) rfl (by kernel_rfl) (by kernel_rfl) (by kernel_rfl) (fun _ _ _ h => h) (Or.inl ⟨by rfl, fun _ _ => rfl⟩) hHeld ?_
          simp only [Act.put, List.setIfInBounds_toArray, List.set_cons_zero, List.set_cons_succ]
          refine wpAnyH_done (by kernel_rfl) ?_ _
          clear hHeld
          go_wp2
          go_ret
          exact ⟨rfl, lw⟩
        · have hf1 : (f == 0) = false := neq_false' hf0
          clear HE2 HC2
          go_enter Tryd.func6, Tryd.ntmps6
          go_wp2_with (first
    | (go_at_call 14; refine (HF.out _ l0).mono ?_; rintro e w1 ⟨rfl, l1⟩; have b1 := b0.keep l1; have lw := Later.trans_ l0 l1; have c0 := b1.cell (j := 0) (v := .int .i64 en) rfl; have c1 := b1.cell (j := 1) (v := .int .i64 p) rfl; have c2 := b1.cell (j := 2) (v := .slice A n c) rfl; have c3 := b1.cell (j := 3) (v := .slice B m cd) rfl)
    | (go_at_call 20; (with_reducible refine (HE.out _ lw).mono ?_); rintro e w2 ⟨A2, c2', rfl, hE1, hE2, _, sE, l2⟩; clear c0 c1 c2 c3; replace b1 := b1.keep l2; replace lw := Later.trans_ lw l2)
    | (go_at_call 10; (with_reducible refine (HD1.out _ _ _ sE hE1 hE2).mono ?_); rintro e w3 ⟨v3, rfl, i3, l3⟩; clear sE; obtain ⟨A3, n3, c3', B3, cd3, rfl, _⟩ := Img.parts i3; replace b1 := b1.keep l3; replace lw := Later.trans_ lw l3; have a3 := later1 w3 (.cells #[.int .i64 Y.en, .int .i64 Y.p, .slice A3 n3 c3', .slice B3 Y.m cd3] 29); have b3 := Blk.new w3 29 #[.int .i64 Y.en, .int .i64 Y.p, .slice A3 n3 c3', .slice B3 Y.m cd3] [.int .i64 Y.en, .int .i64 Y.p, .slice A3 n3 c3', .slice B3 Y.m cd3] rfl; replace b1 := b1.keep a3; replace lw := Later.trans_ lw a3; replace i3 := i3.keep a3; have c0 := b1.cell (j := 0) (v := .int .i64 en) rfl; have c1 := b1.cell (j := 1) (v := .int .i64 p) rfl; have c2 := b1.cell (j := 2) (v := .slice A n c) rfl; have c3 := b1.cell (j := 3) (v := .slice B m cd) rfl)
    | (go_at_call 17; (with_reducible refine (HC.out _ lw).mono ?_); rintro e w4 ⟨rfl, l4⟩; clear c0 c1 c2 c3; replace b1 := b1.keep l4; replace lw := Later.trans_ lw l4; replace b3 := b3.keep l4; replace i3 := i3.keep l4; have c0 := b1.cell (j := 0) (v := .int .i64 en) rfl; have c1 := b1.cell (j := 1) (v := .int .i64 p) rfl; have c2 := b1.cell (j := 2) (v := .slice A n c) rfl; have c3 := b1.cell (j := 3) (v := .slice B m cd) rfl; have d0 := b3.cell (j := 0) (v := .int .i64 Y.en) rfl; have d1 := b3.cell (j := 1) (v := .int .i64 Y.p) rfl; have d2 := b3.cell (j := 2) (v := .slice A3 n3 c3') rfl; have d3 := b3.cell (j := 3) (v := .slice B3 Y.m cd3) rfl)
    | (go_at_call 13; (with_reducible refine (HSM.out _ _ lw i3).mono ?_); rintro e w5 ⟨rfl, l5⟩; clear c0 c1 c2 c3; clear d0 d1 d2 d3; replace b1 := b1.keep l5; replace lw := Later.trans_ lw l5)
    | (go_at_call 10; (with_reducible refine (HD2.out _ lw).mono ?_); rintro e w6 ⟨v6, rfl, i6, l6⟩; obtain ⟨A6, n6, c6', B6, cd6, rfl, _⟩ := Img.parts i6; replace lw := Later.trans_ lw l6; have a6 := later1 w6 (.cells #[.int .i64 Z.en, .int .i64 Z.p, .slice A6 n6 c6', .slice B6 Z.m cd6] 29); have b6 := Blk.new w6 29 #[.int .i64 Z.en, .int .i64 Z.p, .slice A6 n6 c6', .slice B6 Z.m cd6] [.int .i64 Z.en, .int .i64 Z.p, .slice A6 n6 c6', .slice B6 Z.m cd6] rfl; replace lw := Later.trans_ lw a6; replace i6 := i6.keep a6))
          replace b6 := b6.drew
          replace i6 : Img _ _ _ := i6.keep (later0 _).drew
          replace lw := lw.drew
          refine wp_region_held_drew (S := fun w' => True) (by kernel_rfl) trivial (fun hHeld => ?_)
          refine wpAnyH_ready (rs := [0]) (by kernel_rfl) (by simp) (AllReadyH.cons (o := ⟨some 43, .call { callee := .value (.func 8), args := #[], argTypes := #[] }, _, _, _, none⟩) rfl (fun K' hK => ?_) (AllReadyH.nil))
          go_simp
          refine (HS.out _ lw).mono ?_
          rintro e w8 ⟨rfl, l8⟩
          replace lw := Later.trans_ lw l8
          replace b6 := b6.keep l8
          replace i6 := i6.keep l8
          have sB := sb0.keep lw
          refine hK.out _ _ trivial (fun hHeld => ?_)
          clear hK K'
          try simp only [Act.put, List.setIfInBounds_toArray, List.set_cons_zero, List.set_cons_succ]
          refine wpAnyH_take (i := 1) (oi := ⟨some 44, .move (.tmp 43), _, _, _, none⟩) (v := .bool true) rfl (by kernel_rfl) (by kernel_rfl) (by kernel_rfl) (fun _ _ _ h => h) (Or.inl ⟨by rfl, fun _ _ => rfl⟩) hHeld ?_
          simp only [Act.put, List.setIfInBounds_toArray, List.set_cons_zero, List.set_cons_succ]
          refine wpAnyH_take (i := 2) (oi := ⟨some 45, .move (.tmp 8), _, _, _, _⟩) (v := .int .i64 f) rfl (by kernel_rfl) (by kernel_rfl) (by kernel_rfl) (fun _ _ _ h => h) (Or.inl ⟨by rfl, fun _ _ => rfl⟩) hHeld ?_
          simp only [Act.put, List.setIfInBounds_toArray, List.set_cons_zero, List.set_cons_succ]
          refine wpAnyH_take (i := 3) (oi := ⟨some 46, .binOp .neq 30 (.tmp 45) (.const (.int .i64 0)) 30, _, _, _, _⟩) (v := .bool true) rfl (by kernel_rfl) (by kernel_rfl) (by kernel_rfl) (fun _ _ _ h => h) (Or.inl ⟨by rfl, fun w _ => by go_simp⟩) hHeld ?_
          simp only [Act.put, List.setIfInBounds_toArray, List.set_cons_zero, List.set_cons_succ]
          refine wpAnyH_take (i := 4) (oi := ⟨some 47, .move (.tmp 46), _, _, _, _⟩) (v := .bool true) rfl (by kernel_rfl) (by kernel_rfl) (by kernel_rfl) (fun _ _ _ h => h) (Or.inl ⟨by rfl, fun _ _ => rfl⟩) hHeld ?_
          simp only [Act.put, List.setIfInBounds_toArray, List.set_cons_zero, List.set_cons_succ]
          refine wpAnyH_take (i := 5) (oi := ⟨some 48, .load 29 (.tmp 7), _, _, _, _⟩) (v := undef) rfl (by kernel_rfl) (by kernel_rfl) (by kernel_rfl) (fun _ _ _ h => h) (Or.inr ⟨by rfl, rfl⟩) hHeld ?_
          simp only [Act.put, List.setIfInBounds_toArray, List.set_cons_zero, List.set_cons_succ]
          refine wpAnyH_take (i := 6) (oi := ⟨some 49, .call { callee := .value (.func 20), args := #[.tmp 48], argTypes := #[29] }, _, _, _, _⟩) (v := undef) rfl (by kernel_rfl) (by kernel_rfl) (by kernel_rfl) (fun _ _ _ h => h) (Or.inr ⟨by rfl, rfl⟩) hHeld ?_
          simp only [Act.put, List.setIfInBounds_toArray, List.set_cons_zero, List.set_cons_succ]
          refine wpAnyH_take (i := 7) (oi := ⟨some 50, .convert 25 9 (.tmp 49), _, _, _, _⟩) (v := undef) rfl (by kernel_rfl) (by kernel_rfl) (by kernel_rfl) (fun _ _ _ h => h) (Or.inr ⟨by rfl, rfl⟩) hHeld ?_
          simp only [Act.put, List.setIfInBounds_toArray, List.set_cons_zero, List.set_cons_succ]
          refine wpAnyH_take (i := 8) (oi := ⟨some 51, .move (.tmp 1), _, _, _, _⟩) (v := undef) rfl (by kernel_rfl) (by kernel_rfl) (by kernel_rfl) (fun _ _ _ h => h) (Or.inr ⟨by rfl, rfl⟩) hHeld ?_
          simp only [Act.put, List.setIfInBounds_toArray, List.set_cons_zero, List.set_cons_succ]
          refine wpAnyH_take (i := 9) (oi := ⟨some 52, .convert 25 9 (.tmp 51), _, _, _, _⟩) (v := undef) rfl (by kernel_rfl) (by kernel_rfl) (by kernel_rfl) (fun _ _ _ h => h) (Or.inr ⟨by rfl, rfl⟩) hHeld ?_
          simp only [Act.put, List.setIfInBounds_toArray, List.set_cons_zero, List.set_cons_succ]
          refine wpAnyH_take (i := 10) (oi := ⟨some 53, .binOp .eql 9 (.tmp 50) (.tmp 52) 9, _, _, _, _⟩) (v := undef) rfl (by kernel_rfl) (by kernel_rfl) (by kernel_rfl) (fun _ _ _ h => h) (Or.inr ⟨by rfl, rfl⟩) hHeld ?_
          simp only [Act.put, List.setIfInBounds_toArray, List.set_cons_zero, List.set_cons_succ]
          refine wpAnyH_take (i := 11) (oi := ⟨some 54, .move (.tmp 53), _, _, _, _⟩) (v := undef) rfl (by kernel_rfl) (by kernel_rfl) (by kernel_rfl) (fun _ _ _ h => h) (Or.inr ⟨by rfl, rfl⟩) hHeld ?_
          simp only [Act.put, List.setIfInBounds_toArray, List.set_cons_zero, List.set_cons_succ]
          refine wpAnyH_take (i := 12) (oi := ⟨some 55, .load 29 (.tmp 7), _, _, _, _⟩) (v := undef) rfl (by kernel_rfl) (by kernel_rfl) (by kernel_rfl) (fun _ _ _ h => h) (Or.inr ⟨by rfl, rfl⟩) hHeld ?_
          simp only [Act.put, List.setIfInBounds_toArray, List.set_cons_zero, List.set_cons_succ]
          refine wpAnyH_take (i := 13) (oi := ⟨some 56, .call { callee := .value (.func 17), args := #[.tmp 55], argTypes := #[29] }, _, _, _, _⟩) (v := undef) rfl (by kernel_rfl) (by kernel_rfl) (by kernel_rfl) (fun _ _ _ h => h) (Or.inr ⟨by rfl, rfl⟩) hHeld ?_
          simp only [Act.put, List.setIfInBounds_toArray, List.set_cons_zero, List.set_cons_succ]
          refine wpAnyH_take (i := 14) (oi := ⟨some 57, .binOp .eql 30 (.tmp 56) (.const (.int .i64 0)) 30, _, _, _, _⟩) (v := undef) rfl (by kernel_rfl) (by kernel_rfl) (by kernel_rfl) (fun _ _ _ h => h) (Or.inr ⟨by rfl, rfl⟩) hHeld ?_
          simp only [Act.put, List.setIfInBounds_toArray, List.set_cons_zero, List.set_cons_succ]
          refine wpAnyH_take (i := 15) (oi := ⟨some 58, .pick (.tmp 54) (.tmp 57) (.const (.bool false)), _, _, _, _⟩) (v := undef) rfl (by kernel_rfl) (by kernel_rfl) (by kernel_rfl) (fun _ _ _ h => h) (Or.inr ⟨by rfl, rfl⟩) hHeld ?_
          simp only [Act.put, List.setIfInBounds_toArray, List.set_cons_zero, List.set_cons_succ]
          refine wpAnyH_take (i := 16) (oi := ⟨some 59, .pick (.tmp 47) (.const (.bool true)) (.tmp 58), _, _, _, _⟩) (v := .bool true) rfl (by kernel_rfl) (by kernel_rfl) (by kernel_rfl) (fun _ _ _ h => h) (Or.inl ⟨by rfl, fun w _ => by go_simp⟩) hHeld ?_
          simp only [Act.put, List.setIfInBounds_toArray, List.set_cons_zero, List.set_cons_succ]
          refine wpAnyH_take (i := 17) (oi := ⟨some 60, .pick (.tmp 44) (.tmp 59) (.const (.bool false)), _, _, _, none⟩) (v := .bool true) rfl (by kernel_rfl) (by kernel_rfl) (by kernel_rfl) (fun _ _ _ h => h) (Or.inl ⟨by rfl, fun w _ => by go_simp⟩) hHeld ?_
          simp only [Act.put, List.setIfInBounds_toArray, List.set_cons_zero, List.set_cons_succ]
          refine wpAnyH_take (i := 18) (oi := ⟨some 4, .assign (.tmp 60), _, _, _, none⟩) (v := .bool true) rfl (by kernel_rfl) (by kernel_rfl) (by kernel_rfl) (fun _ _ _ h => h) (Or.inl ⟨by rfl, fun _ _ => rfl⟩) hHeld ?_
          simp only [Act.put, List.setIfInBounds_toArray, List.set_cons_zero, List.set_cons_succ]
          refine wpAnyH_done (by kernel_rfl) ?_ _
          clear hHeld
          go_wp2
          go_ret
          exact ⟨rfl, lw⟩
    · have hbl2 : (b.length : Int) > 20000 := by omega
      clear hs hL hn hm hp tab hd hen hq hz HLN
      go_enter Tryd.func6, Tryd.ntmps6
      go_wp2_with (first
    | (go_at_call 14; refine (HF.out _ l0).mono ?_; rintro e w1 ⟨rfl, l1⟩; have b1 := b0.keep l1; have lw := Later.trans_ l0 l1; have c0 := b1.cell (j := 0) (v := .int .i64 en) rfl; have c1 := b1.cell (j := 1) (v := .int .i64 p) rfl; have c2 := b1.cell (j := 2) (v := .slice A n c) rfl; have c3 := b1.cell (j := 3) (v := .slice B m cd) rfl)
    | (go_at_call 8; refine (HS.out _ lw).mono ?_; rintro e w19 ⟨rfl, l19⟩; replace lw := Later.trans_ lw l19))
      go_ret
      exact ⟨rfl, lw⟩
end Go.Proofs.YtjfphjgmphlbhaaDoor

/-
  THE ROOM OF AN IMAGE: its texts fit in what can be reached; so the sum of Few is the sum.
-/
namespace Go.Proofs.YtjfphjgmphlbhaaDoor
open Go.RowKit Go.ChangeShapes Go.WideShapes Go.ChangeAt

section
variable {H : Type} {enc : TypeId × Value → H} {P : Program} {W : World} {r : Reach} {b0 : Nat} {v : Value} {d : DataW H} {p : List MemPlace}
set_option maxRecDepth 100000 in
theorem weightsAll_mem {e : TypeId} {ds : List (DataW H)} {x : DataW H} (hx : x ∈ ds) {n : Nat} (hn : n ∈ x.weights P e) : n ∈ DataW.weightsAll P e ds := by
  induction ds with
  | nil => cases hx
  | cons y r ih =>
    rw [DataW.weightsAll]
    rcases List.mem_cons.1 hx with rfl | hx
    · exact List.mem_append.2 (.inl hn)
    · exact List.mem_append.2 (.inr (ih hx))
set_option maxRecDepth 100000 in
theorem seg_room {t : TypeId} {f0 f1 : Field} {fuel : Nat} {cs : List Value} {x : DataW H × List MemPlace} (ht : P.underlying t = some (.struct #[f0, f1])) (o0 : f0.offset = 0) (o1 : f1.offset = 1)
    (h0 : P.underlying f0.type = some (.int .i64)) (h1 : P.underlying f1.type = some .string) (c0 : P.cellsOf f0.type = 1) (c1 : P.cellsOf f1.type = 1) (hct : P.cellsOf t = 2)
    (hf : DataW.trod enc P W 0 (fun _ => true) true fuel t cs = some x) : ∃ y : Im.Seg, cs = Gc y ∧ -9223372036854775808 ≤ y.1 ∧ y.1 ≤ 9223372036854775807 ∧ (y.2.size ≤ 9223372036854775807 ∧ y.2.size ∈ x.1.weights P t) := by
  obtain ⟨y0, y1, m, hx, hl, k0, k1⟩ := trod_struct2 ht hf
  rw [o0, c0] at k0
  rw [o1, c1] at k1
  obtain ⟨z0, e0, _, w0⟩ := DataW.trod_int h0 k0
  obtain ⟨z1, e1, hy1, w1⟩ := DataW.trod_string h1 k1
  have a0 : IntKind.i64.min = -9223372036854775808 := rfl
  have a1 : IntKind.i64.max = 9223372036854775807 := rfl
  simp only [Lit.wf, Bool.and_eq_true, decide_eq_true_eq] at w0
  unfold maxLen at w1
  have hmem : z1.size ∈ x.1.weights P t := by
    rw [hx, hy1]
    simp only [DataW.weights, ht]
    refine DataW.weights_mem_each (j := 1) (t := f1.type) (d := .lit (.string z1.data.toList)) rfl rfl z1.size ?_
    rw [DataW.weights]
    exact List.mem_singleton.2 (show z1.size = z1.data.toList.length by rw [Array.length_toList]; rfl)
  refine ⟨(z0, z1), ?_, by simp only; omega, by simp only; omega, by simp only; omega, hmem⟩
  rw [hct] at hl
  match cs, hl with
  | [x, y], _ =>
    simp at e0 e1
    rw [e0, e1]
    rfl
set_option maxRecDepth 100000 in
theorem segs_room {t e : TypeId} {f0 f1 : Field} {fuel : Nat} {cs : List Value} {x : DataW H × List MemPlace} (hs : P.underlying t = some (.slice e)) (ht : P.underlying e = some (.struct #[f0, f1])) (o0 : f0.offset = 0) (o1 : f1.offset = 1)
    (h0 : P.underlying f0.type = some (.int .i64)) (h1 : P.underlying f1.type = some .string) (c0 : P.cellsOf f0.type = 1) (c1 : P.cellsOf f1.type = 1) (hct : P.cellsOf e = 2)
    (hf : DataW.trod enc P W 0 (fun _ => true) true fuel t cs = some x) : ∃ A n c L, cs = [.slice A n c] ∧ n ≤ c ∧ c ≤ maxLen ∧ Sl W 2 A n (Gs L) ∧ inSeg L ∧ ∀ y ∈ L, y.2.size ∈ x.1.weights P t := by
  rcases Deep.open_slice hs hf with ⟨hcs, hx⟩ | ⟨a, len, cap, m, n, D, Pl, hcs, _, hl, hm, hmm, hx, hel⟩
  · exact ⟨none, 0, 0, [], hcs, Nat.le_refl _, Nat.zero_le _, Sl.nil _ _ _, (fun x hx => by cases hx), fun x hx => by cases hx⟩
  · simp only [if_true] at hmm
    have each : ∀ i, i < len → ∃ y : Im.Seg, (-9223372036854775808 ≤ y.1 ∧ y.1 ≤ 9223372036854775807 ∧ y.2.size ≤ 9223372036854775807 ∧ y.2.size ∈ (D i).weights P e) ∧ ∀ j, j < 2 → W.cell? ((a.add (i * 2)).add j) = (Gc y)[j]? := by
      intro i hi
      obtain ⟨cs', h3, h4⟩ := hel i (by omega)
      rw [hct] at h3
      obtain ⟨w, rfl, h5⟩ := seg_room ht o0 o1 h0 h1 c0 c1 hct h4
      exact ⟨w, h5, (cells_at h3).2⟩
    obtain ⟨f, hfl⟩ := Deep.choose_lt each
    refine ⟨some a, len, cap, (List.range len).map f, hcs, hl, hm, ⟨by rw [Gs_len]; simp, fun hn => ⟨a, rfl, ?_, ?_⟩⟩, fun w hw => ?_, fun w hw => ?_⟩
    · have h3 := (hfl 0 hn).2 0 (by omega)
      have h4 := World.block_lt_of_cell? W _ (h3.trans (show (Gc (f 0))[0]? = some _ from rfl))
      rwa [addr_add_block, addr_add_block] at h4
    · intro j y hy
      have hj : j < len * 2 := by
        rcases Nat.lt_or_ge j (len * 2) with h | h
        · exact h
        · rw [List.getElem?_eq_none (by rw [Gs_len]; simpa using h)] at hy; cases hy
      have h3 := (hfl (j / 2) (by omega)).2 (j % 2) (by omega)
      rw [addr_add_add, show j / 2 * 2 + j % 2 = j by omega] at h3
      rw [h3]
      have h4 := Gs_at ((List.range len).map f) (j / 2) (by simp; omega) (j % 2) (by omega)
      rw [show j / 2 * 2 + j % 2 = j by omega] at h4
      rw [← hy, h4]
      simp
    · obtain ⟨i, hi, rfl⟩ := List.mem_map.1 hw
      have h9 := (hfl i (by simpa using hi)).1
      exact ⟨h9.1, h9.2.1, h9.2.2.1⟩
    · obtain ⟨i, hi, rfl⟩ := List.mem_map.1 hw
      have h9 := (hfl i (by simpa using hi)).1.2.2.2
      rw [hx]
      simp only [DataW.weights, hs]
      exact List.mem_cons_of_mem _ (List.mem_append.2 (.inl (weightsAll_mem (List.mem_map.2 ⟨i, hi, rfl⟩) h9)))
set_option maxRecDepth 100000 in
/-- An image. -/
theorem image_room {t ts te tp tg tu : TypeId} {f0 f1 f2 f3 g0 g1 : Field} (ht : P.underlying t = some (.struct #[f0, f1, f2, f3])) (o0 : f0.offset = 0) (o1 : f1.offset = 1) (o2 : f2.offset = 2) (o3 : f3.offset = 3)
    (h0 : P.underlying f0.type = some (.int .i64)) (h1 : P.underlying f1.type = some (.int .i64)) (e2 : f2.type = ts) (e3 : f3.type = tp) (h2 : P.underlying ts = some (.slice te)) (h3 : P.underlying tp = some (.slice tg))
    (k2 : P.underlying te = some (.struct #[g0, g1])) (p0 : g0.offset = 0) (p1 : g1.offset = 1) (q0 : P.underlying g0.type = some (.int .i64)) (q1 : P.underlying g1.type = some .string) (s0 : P.cellsOf g0.type = 1) (s1 : P.cellsOf g1.type = 1) (s2 : P.cellsOf te = 2)
    (k3 : P.underlying tg = some (.array 128 tu)) (k4 : P.underlying tu = some (.int .u8)) (s3 : P.cellsOf tg = 128) (s4 : P.cellsOf tu = 1)
    (c0 : P.cellsOf f0.type = 1) (c1 : P.cellsOf f1.type = 1) (c2 : P.cellsOf ts = 1) (c3 : P.cellsOf tp = 1) (hct : P.cellsOf t = 4)
    (hv : Value.okWide P W r b0 t v) (h : DataW.Trod enc P W 0 (fun _ => true) true t v d p) :
    ∃ en p A n c L B m cd b, v = .agg #[.int .i64 en, .int .i64 p, .slice A n c, .slice B m cd] ∧ (-9223372036854775808 ≤ en ∧ en ≤ 9223372036854775807) ∧ (-9223372036854775808 ≤ p ∧ p ≤ 9223372036854775807) ∧ (n ≤ c ∧ c ≤ maxLen) ∧ Sl W 2 A n (Gs L) ∧ inSeg L ∧ (m ≤ cd ∧ cd ≤ maxLen) ∧ Sl W 128 B m (U b) ∧ Wm.isBs b ∧ ∀ y ∈ L, y.2.size ∈ d.weights P t := by
  obtain ⟨cs, rfl, hsz⟩ := okWide_struct ht hv
  obtain ⟨fuel, hf⟩ := h
  obtain ⟨y0, y1, y2, y3, m, hx, hl, j0, j1, j2, j3⟩ := Go.Joins.trod_struct4 ht hf
  rw [o0, c0] at j0
  rw [o1, c1] at j1
  rw [o2, e2, c2] at j2
  rw [o3, e3, c3] at j3
  obtain ⟨z0, e0, _, w0⟩ := DataW.trod_int h0 j0
  obtain ⟨z1, e1, _, w1⟩ := DataW.trod_int h1 j1
  obtain ⟨A, n, c, L, r0, r1, r2, r3, r4, r5⟩ := segs_room h2 k2 p0 p1 q0 q1 s0 s1 s2 j2
  obtain ⟨B, m2, cd, b, t0, t1, t2, t3, t4⟩ := pages_open (K := 128) (by omega) h3 k3 k4 s3 s4 j3
  have a0 : IntKind.i64.min = -9223372036854775808 := rfl
  have a1 : IntKind.i64.max = 9223372036854775807 := rfl
  simp only [Lit.wf, Bool.and_eq_true, decide_eq_true_eq] at w0 w1
  refine ⟨z0, z1, A, n, c, L, B, m2, cd, b, ?_, by omega, by omega, ⟨r1, r2⟩, r3, r4, ⟨t1, t2⟩, t3, t4, fun y hy => ?_⟩
  rotate_left
  · have h9 := r5 y hy
    have hdd : d = .agg [y0.1, y1.1, y2.1, y3.1] := congrArg Prod.fst hx
    rw [hdd]
    simp only [DataW.weights, ht]
    rw [← e2] at h9
    exact DataW.weights_mem_each (j := 2) (t := f2.type) rfl rfl _ h9
  obtain ⟨l2⟩ := cs
  rw [hct] at hl
  match l2, hl with
  | [x, y, z, u], _ =>
    simp [Value.cells] at e0 e1 r0 t0
    rw [e0, e1, r0, t0]
end
set_option maxRecDepth 100000 in
theorem image_arg_room {H : Type} {enc : TypeId × Value → H} {W : World} {r : Reach} {b0 : Nat} {v : Value} {d : DataW H} {p : List MemPlace} (hv : Value.okWide Tryd.prog W r b0 29 v) (h : DataW.Trod enc Tryd.prog W 0 (fun _ => true) true 29 v d p) :
    ∃ en p A n c L B m cd b, v = .agg #[.int .i64 en, .int .i64 p, .slice A n c, .slice B m cd] ∧ (-9223372036854775808 ≤ en ∧ en ≤ 9223372036854775807) ∧ (-9223372036854775808 ≤ p ∧ p ≤ 9223372036854775807) ∧ (n ≤ c ∧ c ≤ maxLen) ∧ Sl W 2 A n (Gs L) ∧ inSeg L ∧ (m ≤ cd ∧ cd ≤ maxLen) ∧ Sl W 128 B m (U b) ∧ Wm.isBs b ∧ ∀ y ∈ L, y.2.size ∈ d.weights Tryd.prog 29 :=
  image_room Tryd.underlying29 rfl rfl rfl rfl Tryd.underlying3 Tryd.underlying3 rfl rfl Tryd.underlying27 Tryd.underlying22 Tryd.underlying47 rfl rfl Tryd.underlying3 Tryd.underlying9 (by kernel_rfl) (by kernel_rfl) (by kernel_rfl)
    Tryd.underlying76 Tryd.underlying5 (by kernel_rfl) (by kernel_rfl) (by kernel_rfl) (by kernel_rfl) (by kernel_rfl) (by kernel_rfl) (by kernel_rfl) hv h
set_option maxRecDepth 100000 in
theorem tots_mem {L : List Im.Seg} {y : Im.Seg} (h : y ∈ L) : y.2.size ≤ tots L := by
  induction L with
  | nil => cases h
  | cons x r ih =>
    unfold tots at *
    rw [List.map_cons, List.sum_cons]
    rcases List.mem_cons.1 h with rfl | h
    · omega
    · have := ih h; omega
set_option maxRecDepth 100000 in
theorem tots_le (K : Nat) {L : List Im.Seg} (h : ∀ y ∈ L, y.2.size ≤ K) : tots L ≤ L.length * K := by
  induction L with
  | nil => simp [tots]
  | cons x r ih =>
    have h1 := ih (fun y hy => h y (List.mem_cons_of_mem _ hy))
    have h2 := h x List.mem_cons_self
    unfold tots at *
    rw [List.map_cons, List.sum_cons, List.length_cons, Nat.add_mul]
    omega
set_option maxRecDepth 100000 in
theorem few_small {L : List Im.Seg} {m : Nat} (h : ∀ y ∈ L, y.2.size ≤ reachBytes) (hq : fewQ L m = true) : ∀ y ∈ L, y.2.size ≤ 12000 := by
  unfold fewQ at hq
  obtain ⟨h1, h2, _⟩ := of_decide_eq_true hq
  intro y hy
  have h3 := tots_le _ h
  have h4 := tots_mem hy
  have h5 : L.length * reachBytes ≤ 80 * reachBytes := Nat.mul_le_mul_right _ h2
  have h6 := reachBytes_lt
  unfold fewV at h1
  rw [List.take_of_length_le h2, IntKind.wrap_i64] at h1
  omega
end Go.Proofs.YtjfphjgmphlbhaaDoor
