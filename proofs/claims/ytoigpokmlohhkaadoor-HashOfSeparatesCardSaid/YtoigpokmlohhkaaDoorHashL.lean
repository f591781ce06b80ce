/-
  THE WALK OF Stream.Sum: the padding, and the hash.
-/
import Derived.Test.YtoigpokmlohhkaaDoorHashK
import Derived.Lib.SliceRun
namespace Go.Proofs.YtoigpokmlohhkaaDoor
open Go.RowKit

theorem zero_u8 (w : World) : (zeroValue 5).run Tryd.prog w = .ok (.int .u8 0) w := by
  obtain ⟨i0, hi, hz0, _, _⟩ := info_parts u8_info
  simp [zeroValue, typeInfo, hi, hz0]
/-- clear, of a part of a block that is known whole. -/
theorem wpList_clear_blk {w : World} {ops : Array Oper} {rest : List Oper} {o : Oper} {a : Act} {Q : Exit → Act → World → Prop} (hgd : o.guard = none) (hdn : o.dst = none) (s : Operand)
    (ho : o.op = .call { callee := .builtin .clear, args := #[s], argTypes := #[33] }) (g off n c : Nat) (A : Option Addr) (t : TypeId) (old : List Value) (hx : a.eval s = .slice A n c) (hA : 0 < n → A = some ⟨g, off, none⟩)
    (hg : Blk w g t old) (hfit : off + n ≤ old.length)
    (h : ∀ w', Blk w' g t (old.take off ++ List.replicate n (.int .u8 0) ++ old.drop (off + n)) → Only g w w' → wpList Tryd.prog ops Q rest a w') : wpList Tryd.prog ops Q (o :: rest) a w := by
  refine wpList_plain hgd fun K hK => ?_
  have hput : a.put o.dst (.tuple #[]) = a := by rw [hdn]; rfl
  rcases Nat.eq_zero_or_pos n with h0 | h0
  · subst h0
    have hrun : (Builtin.clear_ #[33] o.type #[.slice A 0 c]).run Tryd.prog w = .ok (.tuple #[]) w := by
      cases A <;> simp [Builtin.clear_, run_underlying Tryd.underlying33]
    unfold Oper.wp
    simp [execOp, ho, resolve, invoke, builtin, hx, hrun, Result.andThen]
    exact hK _ _ (by rw [hput]; exact h w (by simpa using hg) ⟨rfl, rfl, rfl, rfl, fun _ _ => rfl⟩)
  · obtain rfl := hA h0
    have hrun := Lib.run_clear_slice (P := Tryd.prog) w 33 5 o.type (.int .u8 0) Tryd.underlying33 zero_u8 rfl rfl g off n c h0 (fun j hj => hg.there1 (by omega)) (fun j _ => hg.frz _)
    unfold Oper.wp
    simp [execOp, ho, resolve, invoke, builtin, hx, hrun, Result.andThen]
    have h1 := hg.sets off (List.replicate n (.int .u8 0)) (by rw [List.length_replicate]; exact hfit)
    rw [List.length_replicate] at h1
    exact hK _ _ (by rw [hput]; exact h _ h1 (Only.sets _ _ _ _))

theorem strC_at (n : Nat) (v : Hs.St) (blk : Wm.Bs) (i : Nat) (x : Int) : (strC n v blk).set (9 + i) (.int .u8 x) = strC n v (blk.set i x) := by
  unfold strC
  rw [show 9 + i = (8 + i) + 1 by omega, List.set_cons_succ, List.set_append_right _ _ (by rw [StV_len]; omega), StV_len, show 8 + i - 8 = i by omega]
  simp [U, List.map_set]
theorem strC_zero (n : Nat) (v : Hs.St) (blk : Wm.Bs) (i k : Nat) :
    (strC n v blk).take (9 + i) ++ List.replicate k (.int .u8 0) ++ (strC n v blk).drop (9 + i + k) = strC n v (blk.take i ++ List.replicate k 0 ++ blk.drop (i + k)) := by
  have h := strC_copy n v blk (List.replicate k 0) i
  rw [List.length_replicate] at h
  rw [← h]
  simp [U]

/-- The bytes of the length. -/
def lenB (L : Nat) : Wm.Bs := iv8 (Hs.len8 L)
theorem lenB_len (L : Nat) : (lenB L).length = 8 := by unfold lenB; rw [iv8_len, Hs.len8_len]
theorem lenB_at (L i : Nat) (h : i < 8) : (lenB L).getD (7 - i) 0 = ((8 * L / 2 ^ (8 * i) % 256 : Nat) : Int) := by
  unfold lenB iv8 Hs.len8
  rw [List.map_map, List.getD_eq_getElem?_getD, List.getElem?_map, List.getElem?_range (by omega)]
  simp only [Option.map_some, Option.getD_some, Function.comp, q8, BitVec.toNat_ofNat]
  rw [show 56 - 8 * (7 - i) = 8 * i by omega]
/-- The block while the length is laid, from behind. -/
def Laying (b0 : Wm.Bs) (L i : Nat) : Wm.Bs := b0.take (64 - i) ++ (lenB L).drop (8 - i)
theorem Laying.len {b0 : Wm.Bs} {L i : Nat} (h : b0.length = 64) (hi : i ≤ 8) : (Laying b0 L i).length = 64 := by
  unfold Laying; rw [List.length_append, List.length_take, List.length_drop, lenB_len]; omega
theorem Laying.next {b0 : Wm.Bs} {L i : Nat} (h : b0.length = 64) (hi : i < 8) : (Laying b0 L i).set (63 - i) ((8 * L / 2 ^ (8 * i) % 256 : Nat) : Int) = Laying b0 L (i + 1) := by
  unfold Laying
  rw [List.set_append_left _ _ (by rw [List.length_take]; omega)]
  have e1 : b0.take (64 - i) = b0.take (63 - i) ++ [b0.getD (63 - i) 0] := by
    rw [show 64 - i = (63 - i) + 1 by omega, List.take_succ_eq_append_getElem (by omega)]
    congr 2
    rw [List.getD_eq_getElem?_getD, List.getElem?_eq_getElem (by omega)]; rfl
  have e2 : (lenB L).drop (7 - i) = (lenB L).getD (7 - i) 0 :: (lenB L).drop (8 - i) := by
    rw [List.drop_eq_getElem_cons (by rw [lenB_len]; omega), show 7 - i + 1 = 8 - i by omega]
    congr 1
    rw [List.getD_eq_getElem?_getD, List.getElem?_eq_getElem (by rw [lenB_len]; omega)]; rfl
  rw [e1, List.set_append_right _ _ (by rw [List.length_take]; omega), List.length_take, show 63 - i - min (63 - i) b0.length = 0 by omega, show 64 - (i + 1) = 63 - i by omega, show 8 - (i + 1) = 7 - i by omega, e2, lenB_at L i hi]
  simp


/-- The block with the byte 128 and zeros behind the rest. -/
def Padded (m : List Hs.By) : Wm.Bs := iv8 (Hs.rest m) ++ [128] ++ List.replicate (63 - m.length % 64) 0
theorem Padded.len (m : List Hs.By) : (Padded m).length = 64 := by
  unfold Padded; simp only [List.length_append, iv8_len, Hs.rest_len, List.length_replicate, List.length_singleton]; omega
theorem padded_is {m : List Hs.By} {blk : Wm.Bs} (h2 : blk.length = 64) (h3 : blk.take (m.length % 64) = iv8 (Hs.rest m)) :
    (blk.set (m.length % 64) 128).take (m.length % 64 + 1) ++ List.replicate (63 - m.length % 64) 0 ++ (blk.set (m.length % 64) 128).drop (m.length % 64 + 1 + (63 - m.length % 64)) = Padded m := by
  unfold Padded
  rw [← h3, List.drop_eq_nil_of_le (by rw [List.length_set]; omega), List.append_nil, List.take_succ_eq_append_getElem (by rw [List.length_set]; omega), List.take_set_of_le (by omega)]
  simp
theorem Padded.bs (m : List Hs.By) : Wm.isBs (Padded m) := bs_app (bs_app (iv8_bs _) (fun x hx => by simp at hx; omega)) (fun x hx => by rw [List.eq_of_mem_replicate hx]; omega)

theorem bv_zeros (n : Nat) : bv (List.replicate n 0) = List.replicate n 0#8 := by
  unfold bv; rw [List.map_replicate]; rfl
theorem bv_lenB (L : Nat) : bv (lenB L) = Hs.len8 L := bv_iv8 _
theorem Laying.zero {b0 : Wm.Bs} {L : Nat} (h : b0.length = 64) : Laying b0 L 0 = b0 := by
  unfold Laying
  rw [List.take_of_length_le (by omega), List.drop_eq_nil_of_le (by rw [lenB_len]; omega), List.append_nil]
theorem Laying.bs {b0 : Wm.Bs} {L i : Nat} (h : Wm.isBs b0) : Wm.isBs (Laying b0 L i) := bs_app (bs_take h _) (bs_drop (iv8_bs _) _)
theorem lay_one (m : List Hs.By) (h : m.length % 64 ≤ 55) : Hs.compress (Hs.whole m) (bv (Laying (Padded m) m.length 8)) = Hs.final m := by
  rw [Hs.final_one m h]
  congr 1
  unfold Laying Padded
  have e : (iv8 (Hs.rest m) ++ [128] ++ List.replicate (63 - m.length % 64) 0).take (64 - 8) = iv8 (Hs.rest m) ++ [128] ++ List.replicate (55 - m.length % 64) (0 : Int) := by
    rw [List.take_append, List.take_of_length_le (by simp only [List.length_append, iv8_len, Hs.rest_len, List.length_singleton]; omega), List.take_replicate]
    congr 2
    simp only [List.length_append, iv8_len, Hs.rest_len, List.length_singleton]
    omega
  rw [e, Nat.sub_self, List.drop_zero, bv_append, bv_append, bv_append, bv_iv8, bv_zeros, bv_lenB]
  rfl
theorem strC_zeros (n : Nat) (v : Hs.St) (blk : Wm.Bs) (h : blk.length = 64) :
    (strC n v blk).take 9 ++ U (List.replicate 64 0) ++ (strC n v blk).drop (9 + (U (List.replicate 64 0)).length) = strC n v (List.replicate 64 0) := by
  have h1 := strC_copy n v blk (List.replicate 64 0) 0
  have e : blk.take 0 ++ List.replicate 64 0 ++ blk.drop (0 + (List.replicate 64 (0 : Int)).length) = List.replicate 64 0 := by
    rw [List.take_zero, List.nil_append, List.length_replicate, List.drop_eq_nil_of_le (by omega), List.append_nil]
  rw [e] at h1
  rw [← h1, U_length]
theorem bv_padded (m : List Hs.By) : bv (Padded m) = Hs.rest m ++ [128#8] ++ List.replicate (63 - m.length % 64) 0#8 := by
  unfold Padded
  rw [bv_append, bv_append, bv_iv8, bv_zeros]
  rfl
theorem bv_lay_two (L : Nat) : bv (Laying (List.replicate 64 0) L 8) = List.replicate 56 0#8 ++ Hs.len8 L := by
  unfold Laying
  rw [List.take_replicate, Nat.sub_self, List.drop_zero, bv_append, bv_zeros, bv_lenB]
  rfl
theorem lay_two (m : List Hs.By) (h : 55 < m.length % 64) : Hs.compress (Hs.compress (Hs.whole m) (bv (Padded m))) (bv (Laying (List.replicate 64 0) m.length 8)) = Hs.final m := by
  rw [Hs.final_two m h, bv_padded, bv_lay_two]

set_option maxRecDepth 100000 in
set_option maxHeartbeats 4000000 in
theorem strSum_any (m : List Hs.By) (cs : List Value) (w : World) (hS : StrOf m cs) (hbig : m.length ≤ 281474976710656) (tab : Tab w) :
    Calls Tryd.prog 25 #[.agg cs.toArray] w fun e w' => e = .returned (.agg (U (iv8 (Hs.sha m))).toArray) ∧ Later w w' := by
  have hsz : (Tryd.prog.info? 42).map (·.size) = some cs.length := by rw [hS.len]; kernel_rfl
  obtain ⟨blk, b1, b2, b3, hcs⟩ := hS
  have hpad := padded_is b2 b3
  obtain ⟨V, hV⟩ : ∃ V, V = Hs.whole m := ⟨_, rfl⟩
  obtain ⟨L, hL⟩ : ∃ L, L = m.length := ⟨_, rfl⟩
  obtain ⟨p, hp⟩ : ∃ p, p = L % 64 := ⟨_, rfl⟩
  rw [← hL, ← hV] at hcs
  rw [← hL, ← hp] at hpad b3
  have hc0 : cs[0]? = some (.int .i64 (L : Int)) := by rw [hcs]; rfl
  obtain ⟨u, hcp⟩ : ∃ u, cs[9 + p]? = some u := by
    have hlt : 9 + p < cs.length := by rw [hcs, strC_len _ _ _ b2]; omega
    exact ⟨_, List.getElem?_eq_getElem hlt⟩
  have hg2 : ∀ o, Blk ((w.alloc (.cells (cs.set (9 + p) (.int .u8 128)).toArray 42)).alloc o) w.heap.size 42 (strC L V (blk.set p 128)) := fun o => by
    rw [← strC_at]
    exact (Blk.new w _ _ _ (by rw [hcs])).alloc o
  have hfit : 9 + (p + 1) + (63 - p) ≤ (strC L V (blk.set p 128)).length := by rw [strC_len _ _ _ (by rw [List.length_set]; exact b2)]; omega
  have hp64 : p < 64 := by omega
  have hpm : (L : Int) % 64 = (p : Int) := by omega
  have hLb : L ≤ 281474976710656 := by omega
  have p0 : (0 : Int) ≤ (p : Int) := by omega
  have p1 : (p : Int) ≤ 64 := by omega
  have p2 : (p : Int) < 64 := by omega
  have HCS := Lib.hid hcs; have HPD := Lib.hid hpad; have HL := Lib.hid hL; have HP := Lib.hid hp; have HV := Lib.hid hV
  clear hcs hpad hL hp hV
  go_enter Tryd.func25, Tryd.ntmps25
  have q0 : (0 : Int) ≤ (p : Int) + 1 := by omega
  have q1 : (p : Int) + 1 ≤ 64 := by omega
  have qn : ((p : Int) + 1).toNat = p + 1 := by omega
  rw [show ((p : Int) : Int) = p from rfl] at hpm
  have hu8 := Tryd.underlying39
  have HU8 := Lib.hid hu8
  have hu64 := Tryd.underlying40
  have HU64 := Lib.hid hu64
  have HS8' : ∀ v : Hs.St, (Tryd.prog.info? 39).map (·.size) = some (StV v).length := fun v => by rw [StV_len]; kernel_rfl
  have HS8 := Lib.hid (HS8' V)
  have hs64 : (Tryd.prog.info? 40).map (·.size) = some (U (Padded m)).length := by rw [U_length, Padded.len]; kernel_rfl
  have HS64 := Lib.hid hs64
  have hz64 : (Tryd.prog.info? 40).map (·.size) = some (U (List.replicate 64 0)).length := by rw [U_length, List.length_replicate]; kernel_rfl
  have HZ64 := Lib.hid hz64
  have hf8 : 1 + (StV (Hs.compress V (bv (Padded m)))).length ≤ (strC L V (Padded m)).length := by rw [StV_len, strC_len _ _ _ (Padded.len m)]; omega
  have HF8 := Lib.hid hf8
  have hf64 : 9 + (U (List.replicate 64 0)).length ≤ (strC L (Hs.compress V (bv (Padded m))) (Padded m)).length := by rw [U_length, List.length_replicate, strC_len _ _ _ (Padded.len m)]; omega
  have HF64 := Lib.hid hf64
  clear hu8 hu64 hs64 hz64 hf8 hf64
  have hcases : p = 63 ∨ (p < 63 ∧ 55 < p) ∨ p ≤ 55 := by omega
  rcases hcases with h63 | ⟨hlt63, h55⟩ | h55
  case' inl =>
    have HW63 : 55 < m.length % 64 := by have h1 := HP.out; have h2 := HL.out; omega
    subst h63
    have hg63 : ∀ o, Blk ((w.alloc (.cells (cs.set 72 (.int .u8 128)).toArray 42)).alloc o) w.heap.size 42 (strC L V (blk.set 63 128)) := hg2
    have hz63 : (strC L V (blk.set 63 128)).take 73 ++ List.replicate 0 (.int .u8 0) ++ (strC L V (blk.set 63 128)).drop (73 + 0) = strC L V (Padded m) := by
      have h := strC_zero L V (blk.set 63 128) (63 + 1) (63 - 63)
      rw [HPD.out] at h
      exact h
    have HZ63 := Lib.hid hz63
    have hfit63 : 73 + 0 ≤ (strC L V (blk.set 63 128)).length := hfit
    clear hz63
    go_wp2_with (first
        | ((with_reducible refine wpList_clear_blk (o := ⟨none, .call { callee := .builtin .clear, args := #[.tmp 19], argTypes := #[33] }, _, _, _, none⟩) rfl rfl _ rfl w.heap.size 73 0 0 (some ⟨w.heap.size, 9, none⟩) 42 _ ?_ (fun h => absurd h (Nat.lt_irrefl 0)) (hg63 _) hfit63 ?_); rfl; intro w2 k1 k2; rw [HZ63.out] at k1; have k3 : Later w w2 := Below.only (((Below.refl _ _).alloc (Nat.le_refl _) _).alloc (by simp) _) k2 (Nat.le_refl _); have k4 : Blk w2 (w.heap.size + 1) 35 (PartB [] 32) := (Blk.new' _ _ _ _ _ (by simp) rfl).only k2 (by omega))
        | ((with_reducible refine wpList_load_at (o := ⟨some 24, .load 39 (.tmp 23), _, _, _, none⟩) rfl _ _ rfl w.heap.size 1 8 42 (strC L V (Padded m)) (StV V) _ ?_ k1 (strC_val _ _ _) HU8.out rfl HS8.out ?_); rfl)
        | ((with_reducible refine wpList_load_at (o := ⟨some 26, .load 40 (.tmp 25), _, _, _, none⟩) rfl _ _ rfl w.heap.size 9 64 42 (strC L V (Padded m)) (U (Padded m)) _ ?_ k1 (strC_blk _ _ _ (Padded.len m)) HU64.out rfl HS64.out ?_); rfl)
        | (go_at_call 64; refine (compress_any V (Padded m) _ (Padded.bs m) (Padded.len m) (tab.keep k3)).mono ?_; rintro e w3 ⟨rfl, hl3⟩)
        | ((with_reducible refine wpList_store_at (o := ⟨none, .store 39 (.tmp 28) (.tmp 27), _, _, _, none⟩) rfl _ _ _ rfl rfl w.heap.size 1 42 (strC L V (Padded m)) (StV (Hs.compress V (bv (Padded m)))) ?_ ?_ (k1.keep hl3) (HS8' _) (HF8.out) (StV_one _) ?_); rfl; rfl; intro w4 q1 q2; rw [strC_put] at q1)
        | ((with_reducible refine wpList_store_at (o := ⟨none, .store 40 (.tmp 30) (.tmp 29), _, _, _, none⟩) rfl _ _ _ rfl rfl w.heap.size 9 42 (strC L (Hs.compress V (bv (Padded m))) (Padded m)) (U (List.replicate 64 0)) ?_ ?_ q1 HZ64.out HF64.out (U_one _) ?_); rfl; rfl; intro w5 s1 s2))
    have sx := s1
    rw [strC_zeros _ _ _ (Padded.len m)] at sx
    have ex : Later w w5 := Below.only (Below.only (Later.trans_ k3 hl3) q2 (Nat.le_refl _)) s2 (Nat.le_refl _)
    have zx : Blk w5 (w.heap.size + 1) 35 (PartB [] 32) := ((k4.keep hl3).only q2 (by omega)).only s2 (by omega)
    have hb0 : (List.replicate 64 (0 : Int)).length = 64 := List.length_replicate
    have hB0 : Wm.isBs (List.replicate 64 (0 : Int)) := fun x hx => by rw [List.eq_of_mem_replicate hx]; omega
    have HFIN : Hid (Hs.compress (Hs.compress V (bv (Padded m))) (bv (Laying (List.replicate 64 0) L 8)) = Hs.final m) := by
      rw [HL.out, HV.out]
      exact lay_two m HW63
    generalize Hs.compress V (bv (Padded m)) = V0 at sx HFIN
    obtain ⟨b0, hbb⟩ : ∃ b0, b0 = List.replicate 64 (0 : Int) := ⟨_, rfl⟩
    rw [← hbb] at sx HFIN hb0 hB0
    clear hbb
    obtain ⟨wx, hwx⟩ : ∃ wx, wx = w5 := ⟨_, rfl⟩
    subst hwx
    clear hg63 HZ63 hfit63
  case' inr.inl =>
    have HW63 : 55 < m.length % 64 := by have h1 := HP.out; have h2 := HL.out; omega
    have hlt63' : (p : Int) + 1 < 64 := by omega
    go_wp2_with (first
      | ((with_reducible refine wpList_clear_blk (o := ⟨none, .call { callee := .builtin .clear, args := #[.tmp 19], argTypes := #[33] }, _, _, _, none⟩) rfl rfl _ rfl w.heap.size (9 + (p + 1)) (63 - p) (63 - p) (some ⟨w.heap.size, 9 + (p + 1), none⟩) 42 _ ?_ (fun _ => rfl) (hg2 _) hfit ?_); rfl; intro w2 k1 k2; rw [strC_zero, HPD.out] at k1; have k3 : Later w w2 := Below.only (((Below.refl _ _).alloc (Nat.le_refl _) _).alloc (by simp) _) k2 (Nat.le_refl _); have k4 : Blk w2 (w.heap.size + 1) 35 (PartB [] 32) := (Blk.new' _ _ _ _ _ (by simp) rfl).only k2 (by omega))
      | ((with_reducible refine wpList_load_at (o := ⟨some 24, .load 39 (.tmp 23), _, _, _, none⟩) rfl _ _ rfl w.heap.size 1 8 42 (strC L V (Padded m)) (StV V) _ ?_ k1 (strC_val _ _ _) HU8.out rfl HS8.out ?_); rfl)
      | ((with_reducible refine wpList_load_at (o := ⟨some 26, .load 40 (.tmp 25), _, _, _, none⟩) rfl _ _ rfl w.heap.size 9 64 42 (strC L V (Padded m)) (U (Padded m)) _ ?_ k1 (strC_blk _ _ _ (Padded.len m)) HU64.out rfl HS64.out ?_); rfl)
      | (go_at_call 64; refine (compress_any V (Padded m) _ (Padded.bs m) (Padded.len m) (tab.keep k3)).mono ?_; rintro e w3 ⟨rfl, hl3⟩)
      | ((with_reducible refine wpList_store_at (o := ⟨none, .store 39 (.tmp 28) (.tmp 27), _, _, _, none⟩) rfl _ _ _ rfl rfl w.heap.size 1 42 (strC L V (Padded m)) (StV (Hs.compress V (bv (Padded m)))) ?_ ?_ (k1.keep hl3) (HS8' _) (HF8.out) (StV_one _) ?_); rfl; rfl; intro w4 q1 q2; rw [strC_put] at q1)
      | ((with_reducible refine wpList_store_at (o := ⟨none, .store 40 (.tmp 30) (.tmp 29), _, _, _, none⟩) rfl _ _ _ rfl rfl w.heap.size 9 42 (strC L (Hs.compress V (bv (Padded m))) (Padded m)) (U (List.replicate 64 0)) ?_ ?_ q1 HZ64.out HF64.out (U_one _) ?_); rfl; rfl; intro w5 s1 s2))
    have sx := s1
    rw [strC_zeros _ _ _ (Padded.len m)] at sx
    have ex : Later w w5 := Below.only (Below.only (Later.trans_ k3 hl3) q2 (Nat.le_refl _)) s2 (Nat.le_refl _)
    have zx : Blk w5 (w.heap.size + 1) 35 (PartB [] 32) := ((k4.keep hl3).only q2 (by omega)).only s2 (by omega)
    have hb0 : (List.replicate 64 (0 : Int)).length = 64 := List.length_replicate
    have hB0 : Wm.isBs (List.replicate 64 (0 : Int)) := fun x hx => by rw [List.eq_of_mem_replicate hx]; omega
    have HFIN : Hid (Hs.compress (Hs.compress V (bv (Padded m))) (bv (Laying (List.replicate 64 0) L 8)) = Hs.final m) := by
      rw [HL.out, HV.out]
      exact lay_two m HW63
    generalize Hs.compress V (bv (Padded m)) = V0 at sx HFIN
    obtain ⟨b0, hbb⟩ : ∃ b0, b0 = List.replicate 64 (0 : Int) := ⟨_, rfl⟩
    rw [← hbb] at sx HFIN hb0 hB0
    clear hbb
    obtain ⟨wx, hwx⟩ : ∃ wx, wx = w5 := ⟨_, rfl⟩
    subst hwx
  case' inr.inr =>
    have HW55 : m.length % 64 ≤ 55 := by have h1 := HP.out; have h2 := HL.out; omega
    have hlt63 : p < 63 := by omega
    have hlt63' : (p : Int) + 1 < 64 := by omega
    go_wp2_with (first
      | ((with_reducible refine wpList_clear_blk (o := ⟨none, .call { callee := .builtin .clear, args := #[.tmp 19], argTypes := #[33] }, _, _, _, none⟩) rfl rfl _ rfl w.heap.size (9 + (p + 1)) (63 - p) (63 - p) (some ⟨w.heap.size, 9 + (p + 1), none⟩) 42 _ ?_ (fun _ => rfl) (hg2 _) hfit ?_); rfl; intro w2 k1 k2; rw [strC_zero, HPD.out] at k1; have k3 : Later w w2 := Below.only (((Below.refl _ _).alloc (Nat.le_refl _) _).alloc (by simp) _) k2 (Nat.le_refl _); have k4 : Blk w2 (w.heap.size + 1) 35 (PartB [] 32) := (Blk.new' _ _ _ _ _ (by simp) rfl).only k2 (by omega)))
    have sx := k1
    have ex := k3
    have zx := k4
    have hb0 := Padded.len m
    have hB0 := Padded.bs m
    have HFIN : Hid (Hs.compress V (bv (Laying (Padded m) L 8)) = Hs.final m) := by
      rw [HL.out, HV.out]
      exact lay_one m HW55
    generalize Padded m = b0 at sx HFIN hb0 hB0
    obtain ⟨V0, hv0⟩ : ∃ V0, V0 = V := ⟨_, rfl⟩
    rw [← hv0] at sx HFIN
    clear hv0
    obtain ⟨wx, hwx⟩ : ∃ wx, wx = w2 := ⟨_, rfl⟩
    subst hwx
  all_goals
    clear hpm qn hc0 hcp hg2 hfit
    go_loopw [31] (fun i wr => ∃ k : Nat, k ≤ 8 ∧ i = .int .i64 k ∧ Blk wr w.heap.size 42 (strC L V0 (Laying b0 L k)) ∧ Blk wr (w.heap.size + 1) 35 (PartB [] 32) ∧ Later w wr) (fun i _ => 8 - (intOf i).toNat)
    case atStart => exact ⟨0, by omega, rfl, by rw [Laying.zero hb0]; exact sx, zx, ex⟩
    case round =>
      clear sx zx ex
      rename_i wr
      obtain ⟨k, hk, rfl, g1, g2, g3⟩ := hrel
      by_cases hlt : k < 8
      · have hlay := Laying.next (L := L) hb0 hlt
        obtain ⟨y, hy⟩ : ∃ y : Int, y = ((8 * L / 2 ^ (8 * k) % 256 : Nat) : Int) := ⟨_, rfl⟩
        have hby : IntKind.u8.wrap ((L : Int) * 8 / 2 ^ (8 * k)) = y := by
          rw [IntKind.wrap_u8, hy, show (L : Int) * 8 = ((8 * L : Nat) : Int) by omega, show (2 : Int) ^ (8 * k) = ((2 ^ (8 * k) : Nat) : Int) by rw [Int.natCast_pow]; rfl]
          rfl
        rw [← hy] at hlay
        obtain ⟨u, hcell⟩ := Option.isSome_iff_exists.1 (g1.there1 (j := 9 + (63 - k)) (by rw [strC_len _ _ _ (Laying.len hb0 hk)]; omega))
        have hfr := g1.frz (9 + (63 - k))
        have hset := g1.set (9 + (63 - k)) (.int .u8 y)
        rw [strC_at, hlay] at hset
        have h2 := g2.set_other ⟨w.heap.size, 9 + (63 - k), none⟩ (.int .u8 y) (by simp)
        have h3 : Later w (wr.setCell ⟨w.heap.size, 9 + (63 - k), none⟩ (.int .u8 y)) := g3.setCell (Nat.le_refl _) _
        have n1 : ((63 : Int) - (k : Int)).toNat = 63 - k := by omega
        have n2 : ((8 : Int) * (k : Int)).toNat = 8 * k := by omega
        have r0 : (0 : Int) ≤ 63 - (k : Int) := by omega
        have r1 : (63 : Int) - (k : Int) < 64 := by omega
        have r2 : (k : Int) ≤ 63 := by omega
        have r3 : (0 : Int) ≤ 8 * (k : Int) := by omega
        clear hy hlay g1 g2 g3
        go_wp2
        go_roundw
        case rel => exact ⟨k + 1, by omega, by go_num, hset, h2, h3⟩
        case measure => simp [intOf]; omega
      · obtain rfl : k = 8 := by omega
        have hLl := Laying.len (L := L) hb0 (Nat.le_refl 8)
        have hLb8 : Wm.isBs (Laying b0 L 8) := Laying.bs hB0
        have hcm := HFIN.out
        obtain ⟨F, hF⟩ : ∃ F, F = Laying b0 L 8 := ⟨_, rfl⟩
        rw [← hF] at g1 hLl hLb8 hcm
        have hs64 : (Tryd.prog.info? 40).map (·.size) = some (U F).length := by rw [U_length, hLl]; kernel_rfl
        have HSF := Lib.hid hs64
        have HSV := Lib.hid (HS8' V0)
        have hC : ∀ w', Later w w' → Calls Tryd.prog 64 #[.agg (StV V0).toArray, .agg (U F).toArray] w' fun e w'' => e = .returned (.agg (StV (Hs.final m)).toArray) ∧ Later w' w'' := fun w' hl => by
          rw [← hcm]; exact compress_any V0 F w' hLb8 hLl (tab.keep hl)
        have HCC := Lib.hid hC
        have hU : ∀ w', Calls Tryd.prog 65 #[.agg (StV (Hs.final m)).toArray] w' fun e w'' => e = .returned (.agg (U (iv8 (Hs.sha m))).toArray) ∧ Later w' w'' := fun w' => unpack_any (Hs.final m) w'
        have HUU := Lib.hid hU
        have hfo : (U (iv8 (Hs.sha m))).length = 32 := fresh_out (Hs.final m)
        have HLF := Lib.hid hLl
        clear hF hs64 hC hU hcm hLl HFIN
        obtain ⟨O, hO⟩ : ∃ O, O = U (iv8 (Hs.sha m)) := ⟨_, rfl⟩
        rw [← hO] at HUU hfo
        have hsO : (Tryd.prog.info? 35).map (·.size) = some O.length := by rw [hfo]; kernel_rfl
        have hO1 : ∀ v ∈ O, v.oneCell' = true := by rw [hO]; exact U_one _
        have hOl : (PartB [] 32).length = O.length := by rw [hfo]; rfl
        have hu32 := Tryd.underlying35
        have HU32 := Lib.hid hu32
        have HO := Lib.hid hO; have HO1 := Lib.hid hO1; have HOL := Lib.hid hOl
        clear hO hO1 hOl hu32 hfo
        go_wp2_with (first
          | ((with_reducible refine wpList_load_at (o := ⟨some 45, .load 39 (.tmp 44), _, _, _, none⟩) rfl _ _ rfl w.heap.size 1 8 42 (strC L V0 F) (StV V0) _ ?_ g1 (strC_val _ _ _) HU8.out rfl HSV.out ?_); rfl)
          | ((with_reducible refine wpList_load_at (o := ⟨some 47, .load 40 (.tmp 46), _, _, _, none⟩) rfl _ _ rfl w.heap.size 9 64 42 (strC L V0 F) (U F) _ ?_ g1 (strC_blk _ _ _ HLF.out) HU64.out rfl HSF.out ?_); rfl)
          | (go_at_call 64; refine (HCC.out _ g3).mono ?_; rintro e wc ⟨rfl, hlc⟩)
          | (go_at_call 65; refine (HUU.out _).mono ?_; rintro e wu ⟨rfl, hlu⟩)
          | ((with_reducible refine wpList_store_abs (o := ⟨none, .store 35 (.tmp 2) (.tmp 49), _, _, _, none⟩) rfl _ _ _ rfl (w.heap.size + 1) 35 (PartB [] 32) O ?_ ?_ ((g2.keep hlc).keep hlu) hsO HOL.out HO1.out ?_); rfl; rfl; intro wz z1 z2))
        exact bodyPost_ret (v := .agg O.toArray) (results_blk Tryd.results25 _ _ (w.heap.size + 1) _ O _ rfl z1 HU32.out rfl hsO) rfl ⟨by rw [HO.out], Below.only (Later.trans_ (Later.trans_ g3 hlc) hlu) z2 (by omega)⟩
end Go.Proofs.YtoigpokmlohhkaaDoor
