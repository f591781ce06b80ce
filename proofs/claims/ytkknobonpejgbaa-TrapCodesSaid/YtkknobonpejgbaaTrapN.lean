/-
  PROCESSORS: Decode.
-/
import Derived.Test.YtkknobonpejgbaaTrapM
namespace Go.Proofs.Ytkknobonpejgbaa
open Go.RowKit Go.ChangeShapes Go.WideShapes Go.ChangeAt

def fillR (l : List Int) : Nat → List Value
  | 0 => ({ zC with pc := wr32 (l.getD 0 0) } : Cpu).cells
  | k + 1 => (fillR l k).set (1 + k) (.int .u32 (wr32 (l.getD (1 + k) 0)))
def fillC (l : List Int) : Nat → List Value
  | 0 => fillR l 16
  | k + 1 => (fillC l k).set (17 + k) (.int .u32 (wr32 (l.getD (17 + k) 0)))
theorem fillR_len (l : List Int) : ∀ k, (fillR l k).length = 30
  | 0 => rfl
  | k + 1 => by rw [fillR, List.length_set]; exact fillR_len l k
theorem fillC_len (l : List Int) : ∀ k, (fillC l k).length = 30
  | 0 => fillR_len l 16
  | k + 1 => by rw [fillC, List.length_set]; exact fillC_len l k
/-- A processor without its modes and its count. -/
def Cpu.half (l : List Int) : Cpu := ⟨wr32 (l.getD 0 0), wr32 (l.getD 1 0), wr32 (l.getD 2 0), wr32 (l.getD 3 0), wr32 (l.getD 4 0), wr32 (l.getD 5 0), wr32 (l.getD 6 0), wr32 (l.getD 7 0), wr32 (l.getD 8 0), wr32 (l.getD 9 0), wr32 (l.getD 10 0), wr32 (l.getD 11 0), wr32 (l.getD 12 0), wr32 (l.getD 13 0), wr32 (l.getD 14 0), wr32 (l.getD 15 0), wr32 (l.getD 16 0), wr32 (l.getD 17 0), wr32 (l.getD 18 0), wr32 (l.getD 19 0), wr32 (l.getD 20 0), wr32 (l.getD 21 0), wr32 (l.getD 22 0), wr32 (l.getD 23 0), wr32 (l.getD 24 0), wr32 (l.getD 25 0), false, false, false, 0⟩
theorem fill_half (l : List Int) : fillC l 9 = (Cpu.half l).cells := by kernel_rfl
theorem encLI_bytes (l : List Int) : Wm.isBs (Wm.encL Wm.encI l) := by
  intro x hx
  unfold Wm.encL at hx
  rcases List.mem_append.1 hx with h | h
  · exact Wm.encI_bytes _ x h
  · obtain ⟨a, _, h⟩ := List.mem_flatMap.1 h
    exact Wm.encI_bytes _ x h
theorem drop_getD {l : List Int} {j : Nat} (hj : j < l.length) : l.drop j = l.getD j 0 :: l.drop (j + 1) := by
  rw [List.drop_eq_getElem_cons hj, List.getD_eq_getElem?_getD, List.getElem?_eq_getElem hj]
  rfl
theorem built_0 : Try.prog.built 26 [] = some zC.cells.toArray := by kernel_rfl
theorem run_0 (w : World) : (Instr.build 26 #[]).run Try.prog w = .ok (.agg zC.cells.toArray) w := run_build w _ _ _ built_0
theorem built_pc (v : Int) : Try.prog.built 26 [(0, .int .u32 v)] = some ({ zC with pc := v } : Cpu).cells.toArray := by kernel_rfl
theorem run_pc (v : Int) (w : World) : (Instr.build 26 #[(0, .int .u32 v)]).run Try.prog w = .ok (.agg ({ zC with pc := v } : Cpu).cells.toArray) w := run_build w _ _ _ (built_pc v)
/-- What Decode hands back. -/
def dcdC (b : Wm.Bs) (l : List Int) (e : Int) : Cpu := if okD b l e then Cpu.ofL l else zC
def dcdE (b : Wm.Bs) (l : List Int) (e : Int) : Int := if okD b l e then 0 else 11
theorem dcd_no {b : Wm.Bs} {l : List Int} {e : Int} (h : okD b l e = false) : dcdC b l e = zC ∧ dcdE b l e = 11 := by
  unfold dcdC dcdE
  rw [h]
  exact ⟨rfl, rfl⟩
theorem dcd_yes {b : Wm.Bs} {l : List Int} {e : Int} (h : okD b l e = true) : dcdC b l e = Cpu.ofL l ∧ dcdE b l e = 0 := by
  unfold dcdC dcdE
  rw [h]
  exact ⟨rfl, rfl⟩
set_option maxRecDepth 100000 in
set_option maxHeartbeats 2000000 in
/-- Bytes that are no list, or of another length. -/
theorem decode_short (A : Option Addr) (n c : Nat) (b : Wm.Bs) (w : World) (hs : Sl w 1 A n (U b)) (hb : Wm.isBs b) (hnc : n ≤ c) (hn : c ≤ maxLen) (hsm : n ≤ 1000000) (l : List Int) (u : Nat) (e : Int) (hd : Wm.decL Wm.decI 1 b = (l, u, e)) (hbad : e ≠ 0 ∨ l.length ≠ 28) :
    Calls Try.prog 27 #[.slice A n c] w fun r w' => r = .returned (.tuple #[.agg (dcdC b l e).cells.toArray, .int .i64 (dcdE b l e)]) ∧ Later w w' := by
  have HG := Lib.hid (wireGetInts_any A n c b (w.alloc (.cells zC.cells.toArray 26)) (hs.alloc _) hb hnc hn hsm)
  rw [hd] at HG
  have hno : okD b l e = false := by
    unfold okD
    rcases hbad with h | h
    · rw [decide_eq_false h]; rfl
    · rw [decide_eq_false h]; simp
  have HOK := Lib.hid (dcd_no hno)
  by_cases he : e = 0
  · subst he
    have hl : l.length ≠ 28 := by rcases hbad with h | h; exact absurd rfl h; exact h
    clear hno hbad hd hs hb hn hsm hnc
    have HL := Lib.hid hl
    clear hl
    go_enter Try.func27, Try.ntmps27
    go_wp2_with (first | (go_at_call 36; refine (HG.out).mono ?_; rintro e w1 ⟨A2, n2, c2, rfl, g1, g2, s2, l1⟩; replace s2 : Sl w1 1 A2 n2 (N64 l) := s2; have b2 := (Blk.new w 26 zC.cells.toArray zC.cells rfl).keep l1; have lw := Later.trans_ (later1 w (.cells zC.cells.toArray 26)) l1; have hz1 := b2.lt; have b4 := Blk.new w1 60 #[.slice A2 n2 c2] [.slice A2 n2 c2] rfl; replace b2 := b2.alloc (.cells #[.slice A2 n2 c2] 60); replace lw := lw.alloc lw.size (.cells #[.slice A2 n2 c2] 60); replace s2 := s2.alloc (.cells #[.slice A2 n2 c2] 60); have hnl : n2 ≠ 28 := (by have := s2.1; rw [N64_len] at this; have := HL.out; omega); have hnz : ((n2 : Int) != 28) = true := (by simp; omega); clear hnl; have e4 := b4.cell (j := 0) (v := .slice A2 n2 c2) rfl) | ((with_reducible refine wpList_bld (o := ⟨some 25, .build 26 #[], _, _, _, none⟩) rfl _ #[] #[] zC.cells.toArray rfl ?_ (run_0 _) ?_); rfl) | ((with_reducible refine wpList_store_abs (o := ⟨none, .store 26 (.tmp 2) (.tmp 25), _, _, _, none⟩) rfl _ _ _ rfl w.heap.size 26 zC.cells zC.cells ?_ ?_ ?_ ?_ ?_ ?_ ?_); rfl; rfl; exact b2; exact cpu_sz _; rfl; exact cpu_one _; intro w9 b9 o9))
    exact bodyPost_ret (cpu_ret2 Try.results27 _ _ w.heap.size zC (.int .i64 11) rfl rfl b9) rfl ⟨by rw [HOK.out.1, HOK.out.2], Below.only lw o9 (Nat.le_refl _)⟩
  · have hne : (e != 0) = true := by simpa using he
    clear hno hbad hd hs hb hn hsm hnc he
    go_enter Try.func27, Try.ntmps27
    go_wp2_with (first | (go_at_call 36; refine (HG.out).mono ?_; rintro e w1 ⟨A2, n2, c2, rfl, g1, g2, s2, l1⟩; replace s2 : Sl w1 1 A2 n2 (N64 l) := s2; have b2 := (Blk.new w 26 zC.cells.toArray zC.cells rfl).keep l1; have lw := Later.trans_ (later1 w (.cells zC.cells.toArray 26)) l1; have hz1 := b2.lt; have b4 := Blk.new w1 60 #[.slice A2 n2 c2] [.slice A2 n2 c2] rfl; replace b2 := b2.alloc (.cells #[.slice A2 n2 c2] 60); replace lw := lw.alloc lw.size (.cells #[.slice A2 n2 c2] 60); replace s2 := s2.alloc (.cells #[.slice A2 n2 c2] 60); have e4 := b4.cell (j := 0) (v := .slice A2 n2 c2) rfl) | ((with_reducible refine wpList_bld (o := ⟨some 25, .build 26 #[], _, _, _, none⟩) rfl _ #[] #[] zC.cells.toArray rfl ?_ (run_0 _) ?_); rfl) | ((with_reducible refine wpList_store_abs (o := ⟨none, .store 26 (.tmp 2) (.tmp 25), _, _, _, none⟩) rfl _ _ _ rfl w.heap.size 26 zC.cells zC.cells ?_ ?_ ?_ ?_ ?_ ?_ ?_); rfl; rfl; exact b2; exact cpu_sz _; rfl; exact cpu_one _; intro w9 b9 o9))
    exact bodyPost_ret (cpu_ret2 Try.results27 _ _ w.heap.size zC (.int .i64 11) rfl rfl b9) rfl ⟨by rw [HOK.out.1, HOK.out.2], Below.only lw o9 (Nat.le_refl _)⟩
set_option maxRecDepth 100000 in
set_option maxHeartbeats 8000000 in
/-- Bytes that are a list of 28 numbers. -/
theorem decode_long (A : Option Addr) (n c : Nat) (b : Wm.Bs) (w : World) (hs : Sl w 1 A n (U b)) (hb : Wm.isBs b) (hnc : n ≤ c) (hn : c ≤ maxLen) (hsm : n ≤ 1000000) (l : List Int) (u : Nat) (hd : Wm.decL Wm.decI 1 b = (l, u, 0)) (hl28 : l.length = 28) :
    Calls Try.prog 27 #[.slice A n c] w fun r w' => r = .returned (.tuple #[.agg (dcdC b l 0).cells.toArray, .int .i64 (dcdE b l 0)]) ∧ Later w w' := by
  have HG := Lib.hid (wireGetInts_any A n c b (w.alloc (.cells zC.cells.toArray 26)) (hs.alloc _) hb hnc hn hsm)
  rw [hd] at HG
  have hin : inR l := by have := decL_in hb; rw [hd] at this; exact this
  have hnz : ((l.length : Int) != 28) = false := by rw [hl28]; rfl
  clear hd hn hsm hnc
  go_enter Try.func27, Try.ntmps27
  go_upto_region 4 with (go_at_call 36; refine (HG.out).mono ?_; rintro e w1 ⟨A2, n2, c2, rfl, g1, g2, s2, l1⟩; replace s2 : Sl w1 1 A2 n2 (N64 l) := s2; obtain rfl : n2 = l.length := (by have := s2.1; rw [N64_len] at this; omega); have hA2 : ∀ ad, A2 = some ad → ad.block < w1.heap.size := (fun ad e => by obtain ⟨a', e', hlt, _⟩ := s2.2 (by omega); rw [e] at e'; cases e'; exact hlt); have b2 := (Blk.new w 26 zC.cells.toArray zC.cells rfl).keep l1; have lw := Later.trans_ (later1 w (.cells zC.cells.toArray 26)) l1; have hz1 := b2.lt; have b4 := Blk.new w1 60 #[.slice A2 l.length c2] [.slice A2 l.length c2] rfl; replace b2 := b2.alloc (.cells #[.slice A2 l.length c2] 60); replace lw := lw.alloc lw.size (.cells #[.slice A2 l.length c2] 60); replace s2 := s2.alloc (.cells #[.slice A2 l.length c2] 60); have e4 := b4.cell (j := 0) (v := .slice A2 l.length c2) rfl)
  have HN := Lib.hid (fun (j : Nat) (w' : World) (hj : j < 28) (h : Rest w' w1.heap.size (l.drop j)) => next_any w1.heap.size (l.getD j 0) (l.drop (j + 1)) w' (by rw [← drop_getD (by omega)]; exact h))
  have r0 : Rest (w1.alloc (.cells #[.slice A2 l.length c2] 60)) w1.heap.size (l.drop 0) := ⟨A2, c2, b4, s2, g1, g2, hA2⟩
  clear e4 b4 s2 hA2 HG hnz l1 g1 g2
  obtain ⟨u0, hu0⟩ : ∃ u0, w1.alloc (.cells #[.slice A2 l.length c2] 60) = u0 := ⟨_, rfl⟩
  have hsz : u0.heap.size = w1.heap.size + 1 := by rw [← hu0]; simp
  rw [hu0] at r0 b2 lw
  rw [hl28] at hu0
  rw [hu0]
  clear hu0
  obtain ⟨y, hy⟩ : ∃ y, y = l.getD (0) 0 := ⟨_, rfl⟩
  obtain ⟨z, hz⟩ : ∃ z, IntKind.u32.wrap y = z := ⟨_, rfl⟩
  have HZ := Lib.hid (show z = wr32 (l.getD (0) 0) by rw [← hz, hy]; rfl)
  have HN1 := Lib.hid (fun w' h => HN.out (0) w' (by omega) h)
  rw [← hy] at HN1
  clear hy
  go_upto_region 6 with (first | (go_at_call 37; refine (HN1.out _ r0).mono ?_; rintro e v1 ⟨rfl, r1, o1⟩; replace b2 := b2.only o1 (by omega); replace lw := Below.only lw o1 (by omega); have hv1 : w1.heap.size < v1.heap.size := (by rw [o1.size]; omega)) | ((with_reducible refine wpList_bld (o := ⟨some 30, .build 26 #[(0, .tmp 29)], _, _, _, none⟩) rfl _ #[(0, .tmp 29)] #[(0, .int .u32 z)] ({ zC with pc := z } : Cpu).cells.toArray rfl ?_ (run_pc z _) ?_); rfl) | ((with_reducible refine wpList_store_abs (o := ⟨none, .store 26 (.tmp 8) (.tmp 30), _, _, _, none⟩) rfl _ _ _ rfl v1.heap.size 26 zC.cells ({ zC with pc := z } : Cpu).cells ?_ ?_ ?_ ?_ ?_ ?_ ?_); rfl; rfl; exact (Blk.new _ _ _ _ rfl); exact cpu_sz _; rfl; exact cpu_one _; intro w3 b8 o3; replace b2 := (b2.alloc (.cells zC.cells.toArray 26)).only o3 (by omega); replace r1 := (r1.keep (later1 v1 (.cells zC.cells.toArray 26))).only o3 (by omega); replace lw := Below.only (lw.alloc lw.size (.cells zC.cells.toArray 26)) o3 (by omega)))
  have b8n : Blk w3 v1.heap.size 26 (fillR l 0) := by rw [HZ.out] at b8; exact b8
  clear b8 r0 HN1 HZ hz o1 o3
  have b8 := b8n
  have r0 : Rest w3 w1.heap.size (l.drop (1 + 0)) := r1
  clear b8n r1
  go_wp2
  go_loopw [31] (fun i wr => ∃ k : Nat, k ≤ 16 ∧ i = .int .i64 k ∧ Rest wr w1.heap.size (l.drop (1 + k)) ∧ Blk wr v1.heap.size 26 (fillR l k) ∧ Blk wr w.heap.size 26 zC.cells ∧ Later w wr) (fun i _ => 16 - (intOf i).toNat)
  case atStart => exact ⟨0, by omega, rfl, r0, b8, b2, lw⟩
  case round =>
    clear r0 b8 b2 lw
    obtain ⟨k, hk, rfl, r0, b8, b2, lw⟩ := hrel
    by_cases hlt : k < 16
    · have hkn : (k : Int) < 16 := by omega
      have hk0 : (0 : Int) ≤ k := by omega
      obtain ⟨y, hy⟩ : ∃ y, y = l.getD (1 + k) 0 := ⟨_, rfl⟩
      obtain ⟨z, hz⟩ : ∃ z, IntKind.u32.wrap y = z := ⟨_, rfl⟩
      have HZ := Lib.hid (show z = wr32 (l.getD (1 + k) 0) by rw [← hz, hy]; rfl)
      have HN1 := Lib.hid (fun w' h => HN.out (1 + k) w' (by omega) h)
      rw [← hy] at HN1
      clear hy
      go_wp2_with (go_at_call 37; refine (HN1.out _ r0).mono ?_; rintro e v2 ⟨rfl, r2, o2⟩; replace b2 := b2.only o2 (by omega); replace b8 := b8.only o2 (by omega); replace lw := Below.only lw o2 (by omega); obtain ⟨q, e8⟩ := Option.isSome_iff_exists.1 (b8.there1 (j := 1 + k) (by rw [fillR_len]; omega)); have f8 := b8.frz (1 + k))
      have hset := Only.set v2 v1.heap.size (1 + k) (.int .u32 z)
      replace b8 := b8.set (1 + k) (.int .u32 z)
      rw [HZ.out] at b8 hset
      replace b2 := b2.only hset (by omega)
      replace r2 := r2.only hset (by omega)
      replace lw := Below.only lw hset (by omega)
      rw [← HZ.out] at b8 b2 r2 lw
      clear e8 f8 r0 o2 hset HN1 hz
      replace b8 : Blk _ v1.heap.size 26 (fillR l (k + 1)) := (by rw [fillR, ← HZ.out]; exact b8)
      go_roundw
      case rel => first | exact ⟨k + 1, by omega, by go_num, r2, b8, b2, lw⟩ | exact ⟨_, _, _, _, _, _, ⟨k + 1, by omega, by go_num, r2, b8, b2, lw⟩, rfl⟩ | exact ⟨_, _, _, _, _, _, _, ⟨k + 1, by omega, by go_num, r2, b8, b2, lw⟩, rfl⟩ | exact ⟨_, _, _, _, _, _, _, _, ⟨k + 1, by omega, by go_num, r2, b8, b2, lw⟩, rfl⟩ | exact ⟨_, _, _, _, _, _, _, _, _, ⟨k + 1, by omega, by go_num, r2, b8, b2, lw⟩, rfl⟩ | exact ⟨_, _, _, _, _, _, _, _, _, _, ⟨k + 1, by omega, by go_num, r2, b8, b2, lw⟩, rfl⟩ | exact ⟨_, _, _, _, _, _, _, _, _, _, _, ⟨k + 1, by omega, by go_num, r2, b8, b2, lw⟩, rfl⟩ | exact ⟨_, _, _, _, _, _, _, _, _, _, _, _, ⟨k + 1, by omega, by go_num, r2, b8, b2, lw⟩, rfl⟩ | exact ⟨_, _, _, _, _, _, _, _, _, _, _, _, _, ⟨k + 1, by omega, by go_num, r2, b8, b2, lw⟩, rfl⟩ | exact ⟨_, _, _, _, _, _, _, _, _, _, _, _, _, _, ⟨k + 1, by omega, by go_num, r2, b8, b2, lw⟩, rfl⟩ | exact ⟨_, _, _, _, _, _, _, _, _, _, _, _, _, _, _, ⟨k + 1, by omega, by go_num, r2, b8, b2, lw⟩, rfl⟩ | exact ⟨_, _, _, _, _, _, _, _, _, _, _, _, _, _, _, _, ⟨k + 1, by omega, by go_num, r2, b8, b2, lw⟩, rfl⟩ | exact ⟨_, _, _, _, _, _, _, _, _, _, _, _, _, _, _, _, _, ⟨k + 1, by omega, by go_num, r2, b8, b2, lw⟩, rfl⟩ | exact ⟨_, _, _, _, _, _, _, _, _, _, _, _, _, _, _, _, _, _, ⟨k + 1, by omega, by go_num, r2, b8, b2, lw⟩, rfl⟩ | exact ⟨_, _, _, _, _, _, _, _, _, _, _, _, _, _, _, _, _, _, _, ⟨k + 1, by omega, by go_num, r2, b8, b2, lw⟩, rfl⟩ | exact ⟨_, _, _, _, _, _, _, _, _, _, _, _, _, _, _, _, _, _, _, _, ⟨k + 1, by omega, by go_num, r2, b8, b2, lw⟩, rfl⟩ | exact ⟨_, _, _, _, _, _, _, _, _, _, _, _, _, _, _, _, _, _, _, _, _, ⟨k + 1, by omega, by go_num, r2, b8, b2, lw⟩, rfl⟩ | exact ⟨_, _, _, _, _, _, _, _, _, _, _, _, _, _, _, _, _, _, _, _, _, _, ⟨k + 1, by omega, by go_num, r2, b8, b2, lw⟩, rfl⟩ | exact ⟨_, _, _, _, _, _, _, _, _, _, _, _, _, _, _, _, _, _, _, _, _, _, _, ⟨k + 1, by omega, by go_num, r2, b8, b2, lw⟩, rfl⟩ | exact ⟨_, _, _, _, _, _, _, _, _, _, _, _, _, _, _, _, _, _, _, _, _, _, _, _, ⟨k + 1, by omega, by go_num, r2, b8, b2, lw⟩, rfl⟩ | exact ⟨_, _, _, _, _, _, _, _, _, _, _, _, _, _, _, _, _, _, _, _, _, _, _, _, _, ⟨k + 1, by omega, by go_num, r2, b8, b2, lw⟩, rfl⟩
      case measure => simp [intOf]; omega
    · obtain rfl : k = 16 := by omega
      clear hlt hk
      have b8n : Blk _ v1.heap.size 26 (fillC l 0) := b8
      clear b8
      have b8 := b8n
      clear b8n
      go_wp2
      go_loopw [41] (fun i wr => ∃ k : Nat, k ≤ 9 ∧ i = .int .i64 k ∧ Rest wr w1.heap.size (l.drop (17 + k)) ∧ Blk wr v1.heap.size 26 (fillC l k) ∧ Blk wr w.heap.size 26 zC.cells ∧ Later w wr) (fun i _ => 9 - (intOf i).toNat)
      case atStart => exact ⟨0, by omega, rfl, r0, b8, b2, lw⟩
      case round =>
        clear r0 b8 b2 lw
        obtain ⟨k, hk, rfl, r0, b8, b2, lw⟩ := hrel
        by_cases hlt : k < 9
        · have hkn : (k : Int) < 9 := by omega
          have hk0 : (0 : Int) ≤ k := by omega
          obtain ⟨y, hy⟩ : ∃ y, y = l.getD (17 + k) 0 := ⟨_, rfl⟩
          obtain ⟨z, hz⟩ : ∃ z, IntKind.u32.wrap y = z := ⟨_, rfl⟩
          have HZ := Lib.hid (show z = wr32 (l.getD (17 + k) 0) by rw [← hz, hy]; rfl)
          have HN1 := Lib.hid (fun w' h => HN.out (17 + k) w' (by omega) h)
          rw [← hy] at HN1
          clear hy
          go_wp2_with (go_at_call 37; refine (HN1.out _ r0).mono ?_; rintro e v2 ⟨rfl, r2, o2⟩; replace b2 := b2.only o2 (by omega); replace b8 := b8.only o2 (by omega); replace lw := Below.only lw o2 (by omega); obtain ⟨q, e8⟩ := Option.isSome_iff_exists.1 (b8.there1 (j := 17 + k) (by rw [fillC_len]; omega)); have f8 := b8.frz (17 + k))
          have hset := Only.set v2 v1.heap.size (17 + k) (.int .u32 z)
          replace b8 := b8.set (17 + k) (.int .u32 z)
          rw [HZ.out] at b8 hset
          replace b2 := b2.only hset (by omega)
          replace r2 := r2.only hset (by omega)
          replace lw := Below.only lw hset (by omega)
          rw [← HZ.out] at b8 b2 r2 lw
          clear e8 f8 r0 o2 hset HN1 hz
          replace b8 : Blk _ v1.heap.size 26 (fillC l (k + 1)) := (by rw [fillC, ← HZ.out]; exact b8)
          go_roundw
          case rel => first | exact ⟨k + 1, by omega, by go_num, r2, b8, b2, lw⟩ | exact ⟨_, _, _, _, _, _, ⟨k + 1, by omega, by go_num, r2, b8, b2, lw⟩, rfl⟩ | exact ⟨_, _, _, _, _, _, _, ⟨k + 1, by omega, by go_num, r2, b8, b2, lw⟩, rfl⟩ | exact ⟨_, _, _, _, _, _, _, _, ⟨k + 1, by omega, by go_num, r2, b8, b2, lw⟩, rfl⟩ | exact ⟨_, _, _, _, _, _, _, _, _, ⟨k + 1, by omega, by go_num, r2, b8, b2, lw⟩, rfl⟩ | exact ⟨_, _, _, _, _, _, _, _, _, _, ⟨k + 1, by omega, by go_num, r2, b8, b2, lw⟩, rfl⟩ | exact ⟨_, _, _, _, _, _, _, _, _, _, _, ⟨k + 1, by omega, by go_num, r2, b8, b2, lw⟩, rfl⟩ | exact ⟨_, _, _, _, _, _, _, _, _, _, _, _, ⟨k + 1, by omega, by go_num, r2, b8, b2, lw⟩, rfl⟩ | exact ⟨_, _, _, _, _, _, _, _, _, _, _, _, _, ⟨k + 1, by omega, by go_num, r2, b8, b2, lw⟩, rfl⟩ | exact ⟨_, _, _, _, _, _, _, _, _, _, _, _, _, _, ⟨k + 1, by omega, by go_num, r2, b8, b2, lw⟩, rfl⟩ | exact ⟨_, _, _, _, _, _, _, _, _, _, _, _, _, _, _, ⟨k + 1, by omega, by go_num, r2, b8, b2, lw⟩, rfl⟩ | exact ⟨_, _, _, _, _, _, _, _, _, _, _, _, _, _, _, _, ⟨k + 1, by omega, by go_num, r2, b8, b2, lw⟩, rfl⟩ | exact ⟨_, _, _, _, _, _, _, _, _, _, _, _, _, _, _, _, _, ⟨k + 1, by omega, by go_num, r2, b8, b2, lw⟩, rfl⟩ | exact ⟨_, _, _, _, _, _, _, _, _, _, _, _, _, _, _, _, _, _, ⟨k + 1, by omega, by go_num, r2, b8, b2, lw⟩, rfl⟩ | exact ⟨_, _, _, _, _, _, _, _, _, _, _, _, _, _, _, _, _, _, _, ⟨k + 1, by omega, by go_num, r2, b8, b2, lw⟩, rfl⟩ | exact ⟨_, _, _, _, _, _, _, _, _, _, _, _, _, _, _, _, _, _, _, _, ⟨k + 1, by omega, by go_num, r2, b8, b2, lw⟩, rfl⟩ | exact ⟨_, _, _, _, _, _, _, _, _, _, _, _, _, _, _, _, _, _, _, _, _, ⟨k + 1, by omega, by go_num, r2, b8, b2, lw⟩, rfl⟩ | exact ⟨_, _, _, _, _, _, _, _, _, _, _, _, _, _, _, _, _, _, _, _, _, _, ⟨k + 1, by omega, by go_num, r2, b8, b2, lw⟩, rfl⟩ | exact ⟨_, _, _, _, _, _, _, _, _, _, _, _, _, _, _, _, _, _, _, _, _, _, _, ⟨k + 1, by omega, by go_num, r2, b8, b2, lw⟩, rfl⟩ | exact ⟨_, _, _, _, _, _, _, _, _, _, _, _, _, _, _, _, _, _, _, _, _, _, _, _, ⟨k + 1, by omega, by go_num, r2, b8, b2, lw⟩, rfl⟩ | exact ⟨_, _, _, _, _, _, _, _, _, _, _, _, _, _, _, _, _, _, _, _, _, _, _, _, _, ⟨k + 1, by omega, by go_num, r2, b8, b2, lw⟩, rfl⟩
          case measure => simp [intOf]; omega
        · obtain rfl : k = 9 := by omega
          clear hlt hk
          obtain ⟨y, hy⟩ : ∃ y, y = l.getD 26 0 := ⟨_, rfl⟩
          have HN1 := Lib.hid (fun w' h => HN.out 26 w' (by omega) h)
          rw [← hy] at HN1
          obtain ⟨f1, h1⟩ : ∃ f, (bits .and .i64 y 1 != 0) = f := ⟨_, rfl⟩
          obtain ⟨f2, h2⟩ : ∃ f, (bits .and .i64 y 2 != 0) = f := ⟨_, rfl⟩
          obtain ⟨f4, h4⟩ : ∃ f, (bits .and .i64 y 4 != 0) = f := ⟨_, rfl⟩
          have HF1 := Lib.hid (show f1 = bi (l.getD 26 0) 1 by rw [← h1, hy]; rfl)
          have HF2 := Lib.hid (show f2 = bi (l.getD 26 0) 2 by rw [← h2, hy]; rfl)
          have HF4 := Lib.hid (show f4 = bi (l.getD 26 0) 4 by rw [← h4, hy]; rfl)
          obtain ⟨y7, hy7⟩ : ∃ y, y = l.getD 27 0 := ⟨_, rfl⟩
          have HN2 := Lib.hid (fun w' h => HN.out 27 w' (by omega) h)
          rw [← hy7] at HN2
          have HY7 := Lib.hid hy7
          clear hy hy7
          rw [fill_half] at b8
          go_upto_region 18 with (go_at_call 37; refine (HN1.out _ r0).mono ?_; rintro e v2 ⟨rfl, r2, o2⟩; replace b2 := b2.only o2 (by omega); replace b8 := b8.only o2 (by omega); replace lw := Below.only lw o2 (by omega); have e1 := b8.cell (j := 26) (v := .bool false) rfl; have g1 := b8.frz 26; have e2 := b8.cell (j := 27) (v := .bool false) rfl; have g2 := b8.frz 27; have e3 := b8.cell (j := 28) (v := .bool false) rfl; have g3 := b8.frz 28)
          obtain ⟨u2, hu2⟩ : ∃ u2, u2 = (((v2.setCell ⟨v1.heap.size, 26, none⟩ (.bool f1)).setCell ⟨v1.heap.size, 27, none⟩ (.bool f2)).setCell ⟨v1.heap.size, 28, none⟩ (.bool f4)) := ⟨_, rfl⟩
          rw [← hu2]
          have hs1 := Only.set v2 v1.heap.size 26 (.bool f1)
          have hs2 := Only.set (v2.setCell ⟨v1.heap.size, 26, none⟩ (.bool f1)) v1.heap.size 27 (.bool f2)
          have hs3 := Only.set ((v2.setCell ⟨v1.heap.size, 26, none⟩ (.bool f1)).setCell ⟨v1.heap.size, 27, none⟩ (.bool f2)) v1.heap.size 28 (.bool f4)
          have b8n : Blk u2 v1.heap.size 26 (((((Cpu.half l).cells.set 26 (.bool f1)).set 27 (.bool f2)).set 28 (.bool f4))) := by
            rw [hu2]
            exact (((b8.set 26 (.bool f1)).set 27 (.bool f2)).set 28 (.bool f4))
          replace b2 : Blk u2 w.heap.size 26 zC.cells := by
            rw [hu2]
            exact ((b2.only hs1 (by omega)).only hs2 (by omega)).only hs3 (by omega)
          replace r2 : Rest u2 w1.heap.size (l.drop 27) := by
            rw [hu2]
            exact ((r2.only hs1 (by omega)).only hs2 (by omega)).only hs3 (by omega)
          replace lw : Later w u2 := by
            rw [hu2]
            exact Below.only (Below.only (Below.only lw hs1 (by omega)) hs2 (by omega)) hs3 (by omega)
          clear hu2 hs1 hs2 hs3 b8 e1 e2 e3 g1 g2 g3 r0 o2 HN1 h1 h2 h4
          have b8 := b8n
          clear b8n
          go_upto_region 19 with (go_at_call 37; refine (HN2.out _ r2).mono ?_; rintro e v3 ⟨rfl, r3, o3⟩; replace b2 := b2.only o3 (by omega); replace b8 := b8.only o3 (by omega); replace lw := Below.only lw o3 (by omega); have e1 := b8.cell (j := 29) (v := .int .i64 0) rfl; have g1 := b8.frz 29)
          obtain ⟨u3, hu3⟩ : ∃ u3, u3 = v3.setCell ⟨v1.heap.size, 29, none⟩ (.int .i64 y7) := ⟨_, rfl⟩
          rw [← hu3]
          have hs1 := Only.set v3 v1.heap.size 29 (.int .i64 y7)
          have b8n : Blk u3 v1.heap.size 26 (Cpu.ofL l).cells := by
            rw [hu3]
            have h := b8.set 29 (.int .i64 y7)
            rw [HF1.out, HF2.out, HF4.out, HY7.out] at h
            rw [HY7.out]
            exact h
          replace b2 : Blk u3 w.heap.size 26 zC.cells := by
            rw [hu3]
            exact b2.only hs1 (by omega)
          replace lw : Later w u3 := by
            rw [hu3]
            exact Below.only lw hs1 (by omega)
          clear hu3 hs1 b8 e1 g1 r2 r3 o3 HN2 HF1 HF2 HF4 HY7
          have b8 := b8n
          clear b8n HN
          have hwf := ofL_wf hin
          have hns := hs.keep lw
          have hoc : okD b l 0 = (okC (Cpu.ofL l).r0 (Cpu.ofL l).c5 (Cpu.ofL l).c7 (Cpu.ofL l).c8 (Cpu.ofL l).wt (Cpu.ofL l).hl (Cpu.ofL l).cn && decide (Wm.encL Wm.encI (Cpu.ofL l).nums = b)) := by
            unfold okD
            rw [decide_eq_true hl28, decide_eq_true rfl]
            rfl
          obtain ⟨X, hX⟩ : ∃ X, X = Cpu.ofL l := ⟨_, rfl⟩
          have HX := Lib.hid hX
          rw [← hX] at hwf b8 hoc
          clear hX hin
          have KV := Lib.hid fun w' => valid_any X w'
          obtain ⟨V, hV⟩ : ∃ V, V = okC X.r0 X.c5 X.c7 X.c8 X.wt X.hl X.cn := ⟨_, rfl⟩
          rw [← hV] at KV hoc
          have KE := Lib.hid fun w' => enc_any X w' hwf
          have hbe : Wm.isBs (Wm.encL Wm.encI X.nums) := encLI_bytes _
          clear hV hwf
          cases V with
          | false =>
            have HOK := Lib.hid (dcd_no hoc)
            clear hoc KE hns hbe
            go_wp2_with (first
              | ((with_reducible refine wpList_load_blk (o := ⟨some 68, .load 26 (.tmp 8), _, _, _, none⟩) rfl _ _ rfl v1.heap.size 26 X.cells _ ?_ ?_ Try.underlying26 rfl (cpu_sz _) ?_); rfl; exact b8)
              | (go_at_call 10; refine (KV.out _).mono ?_; rintro e w5 ⟨rfl, l5⟩; replace b2 := b2.keep l5; replace lw := Later.trans_ lw l5)
              | ((with_reducible refine wpList_bld (o := ⟨some 78, .build 26 #[], _, _, _, none⟩) rfl _ #[] #[] zC.cells.toArray rfl ?_ (run_0 _) ?_); rfl) | ((with_reducible refine wpList_store_abs (o := ⟨none, .store 26 (.tmp 2) (.tmp 78), _, _, _, none⟩) rfl _ _ _ rfl w.heap.size 26 zC.cells zC.cells ?_ ?_ ?_ ?_ ?_ ?_ ?_); rfl; rfl; exact b2; exact cpu_sz _; rfl; exact cpu_one _; intro w9 b9 o9))
            exact bodyPost_ret (cpu_ret2 Try.results27 _ _ w.heap.size zC (.int .i64 11) rfl rfl b9) rfl ⟨by rw [HOK.out.1, HOK.out.2], Below.only lw o9 (Nat.le_refl _)⟩
          | true =>
            have lk := Lib.hid (fun (w' : World) (hl : Later w w') => hs.keep hl)
            obtain ⟨D, hD⟩ : ∃ D, D = decide (Wm.encL Wm.encI X.nums = b) := ⟨_, rfl⟩
            rw [← hD, Bool.true_and] at hoc
            have KQ := Lib.hid (fun A6 n6 c6 (w' : World) (h1 : Sl w' 1 A6 n6 (U (Wm.encL Wm.encI X.nums))) (h2 : Sl w' 1 A n (U b)) => (show Calls Try.prog 38 #[.slice A6 n6 c6, .slice A n c] w' fun e w'' => e = .returned (.bool D) ∧ w' = w'' from by rw [hD]; exact equal_any A6 A n6 c6 n c _ b w' h1 h2 hbe hb))
            clear hD hns
            cases D with
            | false =>
              have HOK := Lib.hid (dcd_no hoc)
              clear hoc
              go_wp2_with (first
                | ((with_reducible refine wpList_load_blk (o := ⟨some 68, .load 26 (.tmp 8), _, _, _, none⟩) rfl _ _ rfl v1.heap.size 26 X.cells _ ?_ ?_ Try.underlying26 rfl (cpu_sz _) ?_); rfl; exact b8)
                | (go_at_call 10; refine (KV.out _).mono ?_; rintro e w5 ⟨rfl, l5⟩; replace b2 := b2.keep l5; replace b8 := b8.keep l5; replace lw := Later.trans_ lw l5)
                | ((with_reducible refine wpList_load_g (o := ⟨some 72, .load 26 (.tmp 8), _, _, _, _⟩) _ _ rfl v1.heap.size 26 X.cells _ ?_ ?_ ?_ Try.underlying26 ?_ (cpu_sz _) ?_); rfl; rfl; exact b8; rfl)
                | (go_at_call 29; refine (KE.out _).mono ?_; rintro e w6 ⟨A6, n6, c6, rfl, _, _, rfl, s6, l6⟩; replace b2 := b2.keep l6; replace b8 := b8.keep l6; replace lw := Later.trans_ lw l6)
                | (go_at_call 38; refine (KQ.out A6 _ c6 _ s6 (lk.out _ lw)).mono ?_; rintro e w7 ⟨rfl, rfl⟩)
                | ((with_reducible refine wpList_bld (o := ⟨some 78, .build 26 #[], _, _, _, none⟩) rfl _ #[] #[] zC.cells.toArray rfl ?_ (run_0 _) ?_); rfl) | ((with_reducible refine wpList_store_abs (o := ⟨none, .store 26 (.tmp 2) (.tmp 78), _, _, _, none⟩) rfl _ _ _ rfl w.heap.size 26 zC.cells zC.cells ?_ ?_ ?_ ?_ ?_ ?_ ?_); rfl; rfl; exact b2; exact cpu_sz _; rfl; exact cpu_one _; intro w9 b9 o9))
              exact bodyPost_ret (cpu_ret2 Try.results27 _ _ w.heap.size zC (.int .i64 11) rfl rfl b9) rfl ⟨by rw [HOK.out.1, HOK.out.2], Below.only lw o9 (Nat.le_refl _)⟩
            | true =>
              have HOK := Lib.hid (dcd_yes hoc)
              clear hoc
              go_wp2_with (first
                | ((with_reducible refine wpList_load_blk (o := ⟨some 68, .load 26 (.tmp 8), _, _, _, none⟩) rfl _ _ rfl v1.heap.size 26 X.cells _ ?_ ?_ Try.underlying26 rfl (cpu_sz _) ?_); rfl; exact b8)
                | (go_at_call 10; refine (KV.out _).mono ?_; rintro e w5 ⟨rfl, l5⟩; replace b2 := b2.keep l5; replace b8 := b8.keep l5; replace lw := Later.trans_ lw l5)
                | ((with_reducible refine wpList_load_g (o := ⟨some 72, .load 26 (.tmp 8), _, _, _, _⟩) _ _ rfl v1.heap.size 26 X.cells _ ?_ ?_ ?_ Try.underlying26 ?_ (cpu_sz _) ?_); rfl; rfl; exact b8; rfl)
                | (go_at_call 29; refine (KE.out _).mono ?_; rintro e w6 ⟨A6, n6, c6, rfl, _, _, rfl, s6, l6⟩; replace b2 := b2.keep l6; replace b8 := b8.keep l6; replace lw := Later.trans_ lw l6)
                | (go_at_call 38; refine (KQ.out A6 _ c6 _ s6 (lk.out _ lw)).mono ?_; rintro e w7 ⟨rfl, rfl⟩)
                | ((with_reducible refine wpList_load_blk (o := ⟨some 79, .load 26 (.tmp 8), _, _, _, none⟩) rfl _ _ rfl v1.heap.size 26 X.cells _ ?_ ?_ Try.underlying26 rfl (cpu_sz _) ?_); rfl; exact b8)
                | ((with_reducible refine wpList_store_abs (o := ⟨none, .store 26 (.tmp 2) (.tmp 79), _, _, _, none⟩) rfl _ _ _ rfl w.heap.size 26 zC.cells X.cells ?_ ?_ ?_ ?_ ?_ ?_ ?_); rfl; rfl; exact b2; exact cpu_sz _; rfl; exact cpu_one _; intro w9 b9 o9))
              exact bodyPost_ret (cpu_ret2 Try.results27 _ _ w.heap.size X (.int .i64 0) rfl rfl b9) rfl ⟨by rw [HOK.out.1, HOK.out.2, HX.out], Below.only lw o9 (Nat.le_refl _)⟩
end Go.Proofs.Ytkknobonpejgbaa
