/-
  A RING: Gather, the program's (a builder).
-/
import Derived.Test.YtffgbbfcbobecaaRgR
import Derived.Test.YtffgbbfcbobecaaShelf
import Derived.Lib.AppendStr
import Derived.Lib.Builder
namespace Go.Proofs.Ytffgbbfcbobecaa
open Go.RowKit Go.ChangeShapes Go.WideShapes Go.ChangeAt

set_option maxHeartbeats 1000000 in
set_option maxRecDepth 100000 in
theorem copy_used (b : Nat) (w : World) (h0 : w.cell? ⟨b, 0, none⟩ = some (.pointer (some ⟨b, 0, none⟩))) :
    Calls Try.prog 74 #[.pointer (some ⟨b, 0, none⟩)] w fun e w' => e = .returned (.tuple #[]) ∧ w' = w := by
  obtain ⟨j, hj, _⟩ := Option.map_eq_some_iff.1 (show (Try.prog.info? 96).map (·.size) = some 2 by kernel_rfl)
  go_enter Try.func74, Try.ntmps74
  go_wp2
  rw [Lib.run_neq_ptr_same w _ Try.underlying93 hj]
  go_wp2
  go_end0
  exact ⟨rfl, rfl⟩
set_option maxHeartbeats 1000000 in
set_option maxRecDepth 100000 in
theorem copy_fresh (b : Nat) (w : World) (h0 : w.cell? ⟨b, 0, none⟩ = some (.pointer none)) (hsh : w.shape? b = some (96, 2)) (hfz : w.frozen? ⟨b, 0, none⟩ = false) :
    Calls Try.prog 74 #[.pointer (some ⟨b, 0, none⟩)] w fun e w' => e = .returned (.tuple #[]) ∧ w' = w.setCell ⟨b, 0, none⟩ (.pointer (some ⟨b, 0, none⟩)) := by
  obtain ⟨j, hj, hjs⟩ := Option.map_eq_some_iff.1 (show (Try.prog.info? 96).map (·.size) = some 2 by kernel_rfl)
  go_enter Try.func74, Try.ntmps74
  go_wp2
  rw [Lib.run_to_unsafe w ⟨b, 0, none⟩ Try.underlying93 Try.underlying142 hj (by rw [hjs]; decide) hsh (Nat.zero_lt_succ 1)]
  simp only [Result.andThen]
  rw [Oper.upon_value]
  go_wp2
  rw [run_callFunc_extern Try.func87 (by kernel_rfl) (by kernel_rfl) (by kernel_rfl) (e := Extern.AbiNoEscape.same) (by kernel_rfl)]
  rw [Lib.run_noEscape]
  simp only [Result.andThen]
  rw [Oper.upon_value]
  go_wp2
  rw [Lib.run_from_unsafe w ⟨b, 0, none⟩ Try.underlying142 Try.underlying93 hj hsh (by kernel_rfl)]
  simp only [Result.andThen]
  rw [Oper.upon_value]
  go_wp2
  go_end0
  exact ⟨rfl, rfl⟩
def KeepT (b : Nat) (w w' : World) : Prop := ∀ g cs T, g ≠ b → T ≠ 5 → Blk w g T cs → Blk w' g T cs
theorem copy_any (B b : Nat) (bs : List Value) (w : World) (h : Lib.IsBuilder 96 5 B b bs w) :
    Calls Try.prog 74 #[.pointer (some ⟨b, 0, none⟩)] w fun e w' => e = .returned (.tuple #[]) ∧ Lib.BuilderAt 96 5 B b (.pointer (some ⟨b, 0, none⟩)) bs w' ∧ Below B w w' ∧ KeepT b w w' := by
  rcases h with h | h
  · refine (copy_fresh b w h.cell0 h.shape h.frozen0).mono ?_
    rintro e w' ⟨rfl, rfl⟩
    exact ⟨rfl, h.used _, (Below.refl _ _).setCell (p := ⟨b, 0, none⟩) h.1 _, fun g cs T hg _ hk => by unfold Blk; rw [Below.heap_setCell _ _ _ _ hg]; exact hk⟩
  · refine (copy_used b w h.cell0).mono ?_
    rintro e w' ⟨rfl, rfl⟩
    exact ⟨rfl, h, Below.refl _ _, fun _ _ _ _ _ hk => hk⟩
set_option maxHeartbeats 2000000 in
set_option maxRecDepth 100000 in
theorem bwrite_any (B b : Nat) (bs : List Value) (s : ByteArray) (w : World) (h : Lib.IsBuilder 96 5 B b bs w) (hlen : bs.length + s.size ≤ 100000000) (hBw : B ≤ w.heap.size) :
    Calls Try.prog 54 #[.pointer (some ⟨b, 0, none⟩), .string s] w fun e w' => e = .returned (.tuple #[.int .i64 s.size, .nilIface]) ∧ Lib.BuilderAt 96 5 B b (.pointer (some ⟨b, 0, none⟩)) (bs ++ Lib.strCells s) w' ∧ Below B w w' ∧ KeepT b w w' := by
  obtain ⟨i0, hi, hz0, hz1, hz2⟩ := info_parts u8_info
  have HC := Lib.hid (copy_any B b bs w h)
  clear h
  go_enter Try.func54, Try.ntmps54
  go_wp2_with (go_at_call 74; refine (HC.out).mono ?_)
  rintro e w1 ⟨rfl, h1, hb1, hk1⟩
  obtain ⟨hB, v, hbk, hown, hne⟩ := h1
  have c1 : w1.cell? ⟨b, 1, none⟩ = some v := by rw [Lib.cell_of_heap hbk]; rfl
  go_wp2_with (at_builtin; refine Lib.wpList_append_own_string _ rfl _ _ 94 9 rfl B 5 i0 Try.underlying94 Try.underlying9 hi hz0 hz1 hz2 _ _ _ rfl hown s rfl ?c3 ?c4 ?c5 ?_)
  case c3 => unfold maxLen; omega
  case c4 => omega
  case c5 => have := hb1.size; omega
  intro v' w2 hown' hgrow _
  have hlt : b < w1.heap.size := by
    rcases Nat.lt_or_ge b w1.heap.size with h' | h'
    · exact h'
    · simp [Array.getElem?_eq_none h'] at hbk
  have hb2 : w2.heap[b]? = some (.cells #[.pointer (some ⟨b, 0, none⟩), v] 96 (0, 0)) := by
    rw [hgrow.block b hlt (fun e => hne e.symm)]
    exact hbk
  have d1 : w2.cell? ⟨b, 1, none⟩ = some v := by rw [Lib.cell_of_heap hb2]; rfl
  have f1 : w2.frozen? ⟨b, 1, none⟩ = false := Lib.frozen_of_heap hb2 1
  obtain ⟨ao, n', cap, rfl⟩ : ∃ ao n' cap, v' = .slice ao n' cap := by
    rcases hown'.2 with ⟨hv, _⟩ | ⟨g, cap, cur, hv, _⟩
    · exact ⟨_, _, _, hv⟩
    · exact ⟨_, _, _, hv⟩
  go_wp2
  go_ret2
  refine ⟨rfl, ?_, ?_, ?_⟩
  · exact Lib.BuilderAt.put (T := 96) (e := 5) hB hb2 (bs' := bs ++ Lib.strCells s) (by simpa [Lib.strCells_length] using hown') (by decide)
  · exact (hb1.grown hgrow (by have := hb1.size; omega) (fun k hk => (hown.lt k hk).1)).setCell (p := ⟨b, 1, none⟩) hB _
  · intro g cs T hg hT hk
    have hk2 := hk1 g cs T hg hT hk
    unfold Blk
    rw [Below.heap_setCell _ _ _ _ hg, hgrow.block g hk2.lt (fun e => Lib.ownBlock_ne hown hk2 hT e.symm)]
    exact hk2
theorem sl_below {w w' : World} {base size n : Nat} {A : Option Addr} {xs : List Value} (h : Sl w size A n xs) (k : Below base w w') (hlt : 0 < n → ∀ ad, A = some ad → ad.block < base) : Sl w' size A n xs :=
  ⟨h.1, fun hn => by
    obtain ⟨ad, e, hl, hc⟩ := h.2 hn
    refine ⟨ad, e, Nat.lt_of_lt_of_le hl k.size, fun j u hu => ?_⟩
    rw [k.cell (by rw [addr_add_block]; exact hlt hn ad e)]
    exact hc j u hu⟩
structure BoI (i : TypeInfo) : Prop where
  hi : Try.prog.info? 4 = some i
  hz : i.zero = some (.bool false)
  hs : i.size = 1
  hb : i.bytes = 1
theorem isB_later {B b : Nat} {bs : List Value} {w w' : World} (h : Lib.IsBuilder 96 5 B b bs w) (k : Later w w') : Lib.IsBuilder 96 5 B b bs w' := by
  have aux : ∀ p, Lib.BuilderAt 96 5 B b p bs w → Lib.BuilderAt 96 5 B b p bs w' := fun p h => by
    obtain ⟨h1, v, h2, h3, h4⟩ := h
    have hlt : b < w.heap.size := by
      rcases Nat.lt_or_ge b w.heap.size with h' | h'
      · exact h'
      · simp [Array.getElem?_eq_none h'] at h2
    exact ⟨h1, v, by rw [k.block b hlt]; exact h2, own_below h3 k, h4⟩
  exact h.imp (aux _) (aux _)
theorem bc_app (x y : ByteArray) : Lib.byteCells (x ++ y).data.toList = Lib.byteCells x.data.toList ++ Lib.strCells y := by
  rw [Lib.strCells_eq]
  unfold Lib.byteCells
  rw [ByteArray.data_append, Array.toList_append, List.map_append]
theorem bc_len (x : ByteArray) : (Lib.byteCells x.data.toList).length = x.size := by
  rw [Lib.byteCells_length]; exact Array.length_toList
set_option maxRecDepth 100000 in
set_option maxHeartbeats 4000000 in
theorem pgather_any (A : Option Addr) (n c : Nat) (b : Wm.Bs) (A' : Option Addr) (m c' : Nat) (l : List Rg.Pt) (w : World) (hs : Sl w 128 A n (U b)) (hn1 : 1 ≤ n) (hn : n ≤ 64) (hsl : Sl w 4 A' m (Ps l)) (hl : l.length = m) (hsm : Sml l) :
    Calls Try.prog 26 #[.agg #[.slice A n c], .slice A' m c'] w fun e w' => e = .returned (.string (strOfNums (Rg.gat b l))) ∧ Later w w' := by
  have hm : m ≤ 4 := by have := hsm.1; omega
  have HL := Lib.hid hl
  have HG := Lib.hid fun k => (show (Rg.gat b (l.take k)).length ≤ 2048 from by
    have h1 := gat_len b (l := l.take k) (fun p hp => (hsm.2 p (List.mem_of_mem_take hp)).2.1)
    have h2 : (l.take k).length ≤ 4 := by rw [List.length_take]; have := hsm.1; omega
    omega)
  have HE := Lib.hid hsm.2
  have KR0 := Lib.hid fun (a r : Int) (ha : -9223372036854775808 ≤ a ∧ a ≤ 9223372036854775807) w' (k : Later w w') => read_any A n c a r b w' (hs.keep k) hn1 hn ha
  have HAL := Lib.hid (show 0 < m → ∀ ad, A' = some ad → ad.block < w.heap.size from fun hm ad e => by obtain ⟨_, e', h, _⟩ := hsl.2 hm; rw [e'] at e; cases e; exact h)
  clear hl hsm
  have b2 := (Blk.new w 24 #[.slice A n c] [.slice A n c] rfl).alloc (.cells #[.pointer none, .slice none 0 0] 96)
  have lw := (later1 w (.cells #[.slice A n c] 24)).alloc (by simp) (.cells #[.pointer none, .slice none 0 0] 96)
  replace hsl := hsl.keep lw
  have ib : Lib.IsBuilder 96 5 (w.heap.size + 1) (w.heap.size + 1) (Lib.byteCells (strOfNums (Rg.gat b (l.take 0))).data.toList) ((w.alloc (.cells #[.slice A n c] 24)).alloc (.cells #[.pointer none, .slice none 0 0] 96)) := by
    refine .inl ⟨Nat.le_refl _, .slice none 0 0, ?_, World.ownsRow_nil _ _ _ _, by simp [Value.ownBlock]⟩
    have h := heap_alloc_new (w.alloc (.cells #[.slice A n c] 24)) (.cells #[.pointer none, .slice none 0 0] 96)
    rwa [show (w.alloc (.cells #[.slice A n c] 24)).heap.size = w.heap.size + 1 from by simp] at h
  clear hs
  go_enter Try.func26, Try.ntmps26
  go_wp2
  go_loopw [12] (fun v wr => ∃ k : Nat, k ≤ m ∧ v = .int .i64 (k : Int) ∧ Lib.IsBuilder 96 5 (w.heap.size + 1) (w.heap.size + 1) (Lib.byteCells (strOfNums (Rg.gat b (l.take k))).data.toList) wr ∧ Blk wr w.heap.size 24 [.slice A n c] ∧ Sl wr 4 A' m (Ps l) ∧ Later w wr) (fun v _ => m - (intOf v).toNat)
  case atStart => exact ⟨0, Nat.zero_le _, rfl, ib, b2, hsl, lw⟩
  case round =>
    clear hsl b2 lw ib
    rename_i wr
    obtain ⟨k, hk, rfl, ib, b2, hs, lr⟩ := hrel
    have z1 := HG.out k
    by_cases hlt : k < m
    · have hkl : k < l.length := by rw [HL.out]; exact hlt
      obtain ⟨ad, hA⟩ := hs.addr (by omega)
      subst hA
      have hadb : ad.block < w.heap.size + 1 := Nat.lt_succ_of_lt (HAL.out (by omega) ad rfl)
      have HC := Lib.hid (hs.ptAt hkl HL.out)
      have HX := Lib.hid (gat_succ b l hkl)
      obtain ⟨s1, s2, s3, s4⟩ := HE.out _ (List.getElem_mem hkl)
      have kn : (k : Int) < (m : Int) := by omega
      obtain ⟨q, hq⟩ : ∃ q, q = l[k] := ⟨_, rfl⟩
      rw [← hq] at HC HX s1 s2 s3 s4
      clear hq
      have KR := Lib.hid (KR0.out q.2.1 q.2.2.1 ⟨by omega, by omega⟩)
      obtain ⟨s0, hs0⟩ : ∃ s0, s0 = strOfNums (Rg.gat b (l.take k)) := ⟨_, rfl⟩
      rw [← hs0] at ib
      obtain ⟨t0, ht0⟩ : ∃ t0, t0 = strOfNums (Mm.rd b q.2.1 q.2.2.1) := ⟨_, rfl⟩
      obtain ⟨qb, hqb⟩ : ∃ qb, qb = decide (Mm.Inside (n * 128) q.2.1 q.2.2.1) := ⟨_, rfl⟩
      rw [← ht0, ← hqb] at KR
      have z2 : s0.size ≤ 2048 := by rw [hs0, str_len]; exact z1
      have z3 : t0.size ≤ 512 := by rw [ht0, str_len]; have := rd_len b q.2.1 q.2.2.1; omega
      have KB := Lib.hid fun w' (h : Lib.IsBuilder 96 5 (w.heap.size + 1) (w.heap.size + 1) (Lib.byteCells s0.data.toList) w') (h2 : w.heap.size + 1 ≤ w'.heap.size) => bwrite_any (w.heap.size + 1) (w.heap.size + 1) (Lib.byteCells s0.data.toList) t0 w' h (by rw [bc_len]; omega) h2
      have HS0 := Lib.hid hs0
      have HT0 := Lib.hid ht0
      clear hs0 ht0 hqb z1
      cases hw : q.2.2.2
      · have HY := Lib.hid (show strOfNums (Rg.gat b (l.take (k + 1))) = s0 ++ t0 from by rw [HX.out, hw, HS0.out, HT0.out]; exact str_app _ _)
        go_wp2_with (first
  | ((with_reducible refine wpList_load_addr (o := ⟨some 15, .load 59 (.tmp 14), _, _, _, none⟩) rfl _ _ rfl (ad.add (k * 4)) (Pc q) _ ?_ HC.out Try.underlying59 rfl (pt_sz _) ?_); rfl)
  | ((with_reducible refine wpList_store_abs (o := ⟨none, .store 59 (.tmp 7) (.tmp 15), _, _, _, none⟩) rfl _ _ _ rfl wr.heap.size 59 ([.int .i64 0, .int .i64 0, .int .i64 0, .bool false]) (Pc q) ?_ ?_ ?_ ?_ ?_ ?_ ?_); rfl; rfl; exact (Blk.new _ _ _ _ rfl); exact (pt_sz _); rfl; exact (pt_one _); intro w2 b9 o9; have l2 := Below.only (later1 wr (.cells #[.int .i64 0, .int .i64 0, .int .i64 0, .bool false] 59)) o9 (Nat.le_refl _); replace b2 := b2.keep l2; replace hs := hs.keep l2; replace ib := isB_later ib l2; replace lr := Later.trans_ lr l2; have e3 := b9.cell (j := 3) (v := .bool q.2.2.2) rfl; rw [hw] at e3; have e2 := b9.cell (j := 2) (v := .int .i64 q.2.2.1) rfl; have e1 := b9.cell (j := 1) (v := .int .i64 q.2.1) rfl)
  | ((with_reducible refine wpList_load_blk (o := ⟨some 20, .load 24 (.tmp 2), _, _, _, none⟩) rfl _ _ rfl w.heap.size 24 ([.slice A n c]) _ ?_ ?_ Try.underlying24 rfl memS ?_); rfl; exact b2)
  | (go_at_call 37; (with_reducible refine (KR.out _ lr).mono ?_); rintro e w3 ⟨rfl, l3⟩; clear e1 e2 e3; replace b2 := b2.keep l3; replace hs := hs.keep l3; replace ib := isB_later ib l3; replace lr := Later.trans_ lr l3)
  | (go_at_call 54; (with_reducible refine (KB.out _ ib (Nat.le_trans (Nat.succ_le_of_lt b2.lt) (Nat.le_refl _))).mono ?_); rintro e w4 ⟨rfl, ib2, bw, _⟩; clear ib; have ib := Or.inr (a := Lib.BuilderAt 96 5 (w.heap.size + 1) (w.heap.size + 1) (.pointer none) (Lib.byteCells s0.data.toList ++ Lib.strCells t0) w4) ib2; replace b2 := b2.later bw (Nat.lt_succ_self _); replace hs := sl_below hs bw (fun _ ad' e => (by cases e; exact hadb)); replace lr := lr.trans (bw.mono (Nat.le_succ _))))
        go_roundw
        case rel => exact ⟨k + 1, by omega, by go_num, by rw [HY.out, bc_app]; exact ib, b2, hs, lr⟩
        case measure => simp [intOf]; omega
      · have HY := Lib.hid (show strOfNums (Rg.gat b (l.take (k + 1))) = s0 from by rw [HX.out, hw, HS0.out]; simp)
        go_wp2_with (first
  | ((with_reducible refine wpList_load_addr (o := ⟨some 15, .load 59 (.tmp 14), _, _, _, none⟩) rfl _ _ rfl (ad.add (k * 4)) (Pc q) _ ?_ HC.out Try.underlying59 rfl (pt_sz _) ?_); rfl)
  | ((with_reducible refine wpList_store_abs (o := ⟨none, .store 59 (.tmp 7) (.tmp 15), _, _, _, none⟩) rfl _ _ _ rfl wr.heap.size 59 ([.int .i64 0, .int .i64 0, .int .i64 0, .bool false]) (Pc q) ?_ ?_ ?_ ?_ ?_ ?_ ?_); rfl; rfl; exact (Blk.new _ _ _ _ rfl); exact (pt_sz _); rfl; exact (pt_one _); intro w2 b9 o9; have l2 := Below.only (later1 wr (.cells #[.int .i64 0, .int .i64 0, .int .i64 0, .bool false] 59)) o9 (Nat.le_refl _); replace b2 := b2.keep l2; replace hs := hs.keep l2; replace ib := isB_later ib l2; replace lr := Later.trans_ lr l2; have e3 := b9.cell (j := 3) (v := .bool q.2.2.2) rfl; rw [hw] at e3; have e2 := b9.cell (j := 2) (v := .int .i64 q.2.2.1) rfl; have e1 := b9.cell (j := 1) (v := .int .i64 q.2.1) rfl)
  | ((with_reducible refine wpList_load_blk (o := ⟨some 20, .load 24 (.tmp 2), _, _, _, none⟩) rfl _ _ rfl w.heap.size 24 ([.slice A n c]) _ ?_ ?_ Try.underlying24 rfl memS ?_); rfl; exact b2)
  | (go_at_call 37; (with_reducible refine (KR.out _ lr).mono ?_); rintro e w3 ⟨rfl, l3⟩; clear e1 e2 e3; replace b2 := b2.keep l3; replace hs := hs.keep l3; replace ib := isB_later ib l3; replace lr := Later.trans_ lr l3)
  | (go_at_call 54; (with_reducible refine (KB.out _ ib (Nat.le_trans (Nat.succ_le_of_lt b2.lt) (Nat.le_refl _))).mono ?_); rintro e w4 ⟨rfl, ib2, bw, _⟩; clear ib; have ib := Or.inr (a := Lib.BuilderAt 96 5 (w.heap.size + 1) (w.heap.size + 1) (.pointer none) (Lib.byteCells s0.data.toList ++ Lib.strCells t0) w4) ib2; replace b2 := b2.later bw (Nat.lt_succ_self _); replace hs := sl_below hs bw (fun _ ad' e => (by cases e; exact hadb)); replace lr := lr.trans (bw.mono (Nat.le_succ _))))
        go_roundw
        case rel => exact ⟨k + 1, by omega, by go_num, by rw [HY.out]; exact ib, b2, hs, lr⟩
        case measure => simp [intOf]; omega
    · obtain rfl : k = m := by omega
      have nlt : ¬ ((k : Int) < (k : Int)) := by omega
      have HN := Lib.hid (show Rg.gat b (l.take k) = Rg.gat b l from by rw [List.take_of_length_le (by rw [HL.out]; exact Nat.le_refl _)])
      rw [HN.out] at ib
      have KS := Lib.hid (Try.Builder_String_any (w.heap.size + 1) (w.heap.size + 1) _ wr ib (Nat.succ_le_of_lt b2.lt))
      clear ib z1
      go_wp2_with (go_at_call 55; (with_reducible refine (KS.out).mono ?_); rintro e w3 ⟨rfl, bw⟩)
      go_ret
      exact ⟨rfl, lr.trans (bw.mono (Nat.le_succ _))⟩
end Go.Proofs.Ytffgbbfcbobecaa
