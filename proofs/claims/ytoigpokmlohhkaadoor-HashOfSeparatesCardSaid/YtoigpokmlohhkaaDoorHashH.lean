/-
  THE WALK OF hash.unpack: the bytes of a hash value.
-/
import Derived.Test.YtoigpokmlohhkaaDoorHashG
namespace Go.Proofs.YtoigpokmlohhkaaDoor
open Go.RowKit

/-- Bytes, as integers. -/
def iv8 (l : List Hs.By) : Wm.Bs := l.map q8
theorem iv8_len (l : List Hs.By) : (iv8 l).length = l.length := List.length_map _
theorem iv8_bs (l : List Hs.By) : Wm.isBs (iv8 l) := fun x hx => by
  obtain ⟨c, _, rfl⟩ := List.mem_map.1 hx
  exact q8_bd c
theorem bv_iv8 (l : List Hs.By) : bv (iv8 l) = l := by
  unfold bv iv8
  rw [List.map_map]
  conv => rhs; rw [← List.map_id l]
  congr 1
  funext c
  exact ob_q8 c
/-- Bytes so far, and zeros. -/
def PartB (b : Wm.Bs) (n : Nat) : List Value := U b ++ List.replicate (n - b.length) (.int .u8 0)
theorem PartB.set {b : Wm.Bs} {n : Nat} (h : b.length < n) (x : Int) : (PartB b n).set b.length (.int .u8 x) = PartB (b ++ [x]) n := by
  unfold PartB
  rw [List.set_append_right _ _ (by rw [U_length]; exact Nat.le_refl _), U_length, Nat.sub_self]
  have e : List.replicate (n - b.length) (Value.int .u8 0) = .int .u8 0 :: List.replicate (n - (b ++ [x]).length) (.int .u8 0) := by
    rw [List.length_append, List.length_singleton, ← List.replicate_succ]
    congr 1
    omega
  rw [e, List.set_cons_zero, U_append]
  simp [U]
theorem PartB.full {b : Wm.Bs} {n : Nat} (h : b.length = n) : PartB b n = U b := by
  unfold PartB; rw [h, Nat.sub_self]; simp
theorem PartB.len {b : Wm.Bs} {n : Nat} (h : b.length ≤ n) : (PartB b n).length = n := by
  unfold PartB; rw [List.length_append, U_length, List.length_replicate]; omega

/-- The bytes of a hash value so far. -/
def unp (s : Hs.St) (k : Nat) : Wm.Bs := (List.range k).map fun i => q8 (((s.list.getD (i / 4) 0) >>> (24 - 8 * (i % 4))).setWidth 8)
theorem unp_len (s : Hs.St) (k : Nat) : (unp s k).length = k := by simp [unp]
theorem unp_succ (s : Hs.St) (k : Nat) : unp s (k + 1) = unp s k ++ [q8 (((s.list.getD (k / 4) 0) >>> (24 - 8 * (k % 4))).setWidth 8)] := by
  unfold unp; rw [List.range_succ, List.map_append]; rfl
theorem unp_all (s : Hs.St) : unp s 32 = iv8 (Hs.bytesOf s) := by
  unfold unp iv8 Hs.bytesOf
  rw [List.map_map]; rfl
theorem byte_of (x : Hs.W) (j : Nat) : IntKind.u8.wrap (q32 x / 2 ^ j) = q8 ((x >>> j).setWidth 8) := by
  have e : q32 x / 2 ^ j = q32 (x >>> j) := shr32 x j _ (by rw [Int.natCast_pow]; rfl)
  rw [e, IntKind.wrap_u8]
  unfold q32 q8
  rw [BitVec.toNat_setWidth]
  rfl

theorem fresh_out (s : Hs.St) : (U (iv8 (Hs.bytesOf s))).length = 32 := by
  rw [U_length, iv8_len]; unfold Hs.bytesOf; rw [List.length_map, List.length_range]

set_option maxRecDepth 100000 in
set_option maxHeartbeats 1000000 in
theorem unpack_any (s : Hs.St) (w : World) :
    Calls Tryd.prog 65 #[.agg (StV s).toArray] w fun e w' => e = .returned (.agg (U (iv8 (Hs.bytesOf s))).toArray) ∧ Later w w' := by
  obtain ⟨V, hV⟩ : ∃ V, V = StV s := ⟨_, rfl⟩
  have hszV : (Tryd.prog.info? 39).map (·.size) = some V.length := by rw [hV, StV_len]; kernel_rfl
  rw [← hV]
  have HV := Lib.hid hV; clear hV
  go_enter Tryd.func65, Tryd.ntmps65
  go_wp2
  go_loopw [5] (fun i wr => ∃ k : Nat, k ≤ 32 ∧ i = .int .i64 k ∧ Blk wr w.heap.size 39 (StV s) ∧ Blk wr (w.heap.size + 1) 35 (PartB [] 32) ∧ Blk wr (w.heap.size + 1 + 1) 35 (PartB (unp s k) 32) ∧ Later w wr) (fun i _ => 32 - (intOf i).toNat)
  case atStart => exact ⟨0, by omega, rfl, ((Blk.new w _ _ _ (by rw [HV.out])).alloc _).alloc _, (Blk.new' _ _ _ _ _ (by simp) rfl).alloc _, Blk.new' _ _ _ _ _ (by simp) rfl, (((Below.refl _ _).alloc (Nat.le_refl _) _).alloc (by simp) _).alloc (by simp; omega) _⟩
  case round =>
    obtain ⟨k, hk, rfl, g1, g2, g3, g4⟩ := hrel
    by_cases hlt : k < 32
    · have hc := g1.cell (j := k / 4) (W32_get s.list (k / 4) (by show _ < 8; omega))
      have hb := byte_of (s.list.getD (k / 4) 0) (24 - 8 * (k % 4))
      have hbd := q32_bd (s.list.getD (k / 4) 0)
      have hus := unp_succ s k
      obtain ⟨y, hy⟩ : ∃ y, y = q8 (((s.list.getD (k / 4) 0) >>> (24 - 8 * (k % 4))).setWidth 8) := ⟨_, rfl⟩
      rw [← hy] at hb hus
      obtain ⟨x, hx⟩ : ∃ x, x = s.list.getD (k / 4) 0 := ⟨_, rfl⟩
      rw [← hx] at hc hb hbd
      clear hx hy
      obtain ⟨u, hcell⟩ := Option.isSome_iff_exists.1 (g3.there1 (j := k) (by rw [PartB.len (by rw [unp_len]; omega)]; omega))
      have hfr := g3.frz k
      have HU := Lib.hid hus; clear hus
      have e1 : ((k : Int) / 4).toNat = k / 4 := by omega
      have e2 : ((24 : Int) - 8 * ((k : Int) % 4)).toNat = 24 - 8 * (k % 4) := by omega
      have k0 : (0 : Int) ≤ (k : Int) := by omega
      have k1 : (k : Int) / 4 < 8 := by omega
      have k2 : (0 : Int) ≤ (k : Int) / 4 := by omega
      have k32 : (k : Int) < 32 := by omega
      go_wp2
      have hset := g3.set k (.int .u8 y)
      have hps : (PartB (unp s k) 32).set k (.int .u8 y) = PartB (unp s (k + 1)) 32 := by
        have h := PartB.set (b := unp s k) (n := 32) (by rw [unp_len]; exact hlt) y
        rw [unp_len] at h
        rw [h, HU.out]
      rw [hps] at hset
      go_roundw
      case rel => exact ⟨k + 1, by omega, by go_num, g1.set_other _ _ (by simp; omega), g2.set_other _ _ (by simp), hset, g4.setCell (by simp; omega) _⟩
      case measure => simp [intOf]; omega
    · obtain rfl : k = 32 := by omega
      have hf : PartB (unp s 32) 32 = U (iv8 (Hs.bytesOf s)) := by rw [PartB.full (unp_len s 32), unp_all]
      rw [hf] at g3
      clear hf g1
      have hol := fresh_out s
      obtain ⟨F, hF⟩ : ∃ F, F = U (iv8 (Hs.bytesOf s)) := ⟨_, rfl⟩
      rw [← hF] at g3 hol
      have hszF : (Tryd.prog.info? 35).map (·.size) = some F.length := by rw [hol]; kernel_rfl
      have hF1 : ∀ v ∈ F, v.oneCell' = true := by rw [hF]; exact U_one _
      have hFl : (PartB [] 32).length = F.length := by rw [hol]; rfl
      have HF := Lib.hid hF
      have HF1 := Lib.hid hF1
      have HFl := Lib.hid hFl
      have hu8 := Tryd.underlying35
      have HU8 := Lib.hid hu8
      clear hF hF1 hFl hu8 hol
      go_wp2_with (first
        | ((with_reducible refine wpList_load_blk (o := ⟨some 21, .load 35 (.tmp 3), _, _, _, none⟩) rfl _ _ rfl (w.heap.size + 1 + 1) 35 F _ ?_ g3 HU8.out rfl hszF ?_); rfl)
        | ((with_reducible refine wpList_store_abs (o := ⟨none, .store 35 (.tmp 2) (.tmp 21), _, _, _, none⟩) rfl _ _ _ rfl (w.heap.size + 1) 35 (PartB [] 32) F ?_ ?_ g2 hszF HFl.out HF1.out ?_); rfl; rfl; intro w5 k1 k2))
      exact bodyPost_ret (v := .agg F.toArray) (results_blk Tryd.results65 _ _ (w.heap.size + 1) _ F _ rfl k1 HU8.out rfl hszF) rfl ⟨by rw [HF.out], Below.only g4 k2 (by omega)⟩
end Go.Proofs.YtoigpokmlohhkaaDoor
