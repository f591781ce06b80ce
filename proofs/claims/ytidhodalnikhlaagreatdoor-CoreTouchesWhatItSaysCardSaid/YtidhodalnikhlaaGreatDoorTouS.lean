/-
  THE REFERENCE's Same, of two effects that are the same.
-/
import Derived.Test.YtidhodalnikhlaaGreatDoorTouL
namespace Go.Proofs.YtidhodalnikhlaaGreatDoor
open Go.RowKit Go.ChangeShapes Go.WideShapes Go.ChangeAt

set_option maxRecDepth 100000 in
theorem wr_eq (x : Int × Int × Int) (w : World) : (Op.equalIn 10000 64 (.agg #[.int .i64 x.1, .int .i64 x.2.1, .int .u32 x.2.2]) (.agg #[.int .i64 x.1, .int .i64 x.2.1, .int .u32 x.2.2])).run Tryz.prog w = .ok true w := by
  obtain ⟨fs, hfs, hu⟩ : ∃ fs, Tryz.prog.fieldsOf 64 = fs ∧ Tryz.prog.underlying 64 = some (.struct fs) := ⟨_, by kernel_rfl, Tryz.underlying64⟩
  rw [run_equalIn_struct w 9999 _ _ _ (by rw [hfs]; exact hu) (by kernel_rfl), hfs]
  have hfs2 := hu.symm.trans Tryz.underlying64
  injection hfs2 with h1
  injection h1 with h2
  subst h2
  refine fields_refl _ _ w _ fun f hf => ?_
  simp only [List.mem_cons, List.not_mem_nil, or_false] at hf
  rcases hf with rfl | rfl | rfl
  · exact ⟨by decide, .int .i64 x.1, by kernel_rfl, by rw [run_equalIn_int w 9998 3 .i64 .i64 _ _ Tryz.underlying3]; simp⟩
  · exact ⟨by decide, .int .i64 x.2.1, by kernel_rfl, by rw [run_equalIn_int w 9998 3 .i64 .i64 _ _ Tryz.underlying3]; simp⟩
  · exact ⟨by decide, .int .u32 x.2.2, by kernel_rfl, by rw [run_equalIn_int w 9998 22 .u32 .u32 _ _ Tryz.underlying22]; simp⟩
set_option maxRecDepth 100000 in
theorem ac_eq (x : Int × Int × Bool) (w : World) : (Op.equalIn 10000 53 (.agg #[.int .i64 x.1, .int .i64 x.2.1, .bool x.2.2]) (.agg #[.int .i64 x.1, .int .i64 x.2.1, .bool x.2.2])).run Tryz.prog w = .ok true w := by
  obtain ⟨fs, hfs, hu⟩ : ∃ fs, Tryz.prog.fieldsOf 53 = fs ∧ Tryz.prog.underlying 53 = some (.struct fs) := ⟨_, by kernel_rfl, Tryz.underlying53⟩
  rw [run_equalIn_struct w 9999 _ _ _ (by rw [hfs]; exact hu) (by kernel_rfl), hfs]
  have hfs2 := hu.symm.trans Tryz.underlying53
  injection hfs2 with h1
  injection h1 with h2
  subst h2
  refine fields_refl _ _ w _ fun f hf => ?_
  simp only [List.mem_cons, List.not_mem_nil, or_false] at hf
  rcases hf with rfl | rfl | rfl
  · exact ⟨by decide, .int .i64 x.1, by kernel_rfl, by rw [run_equalIn_int w 9998 3 .i64 .i64 _ _ Tryz.underlying3]; simp⟩
  · exact ⟨by decide, .int .i64 x.2.1, by kernel_rfl, by rw [run_equalIn_int w 9998 3 .i64 .i64 _ _ Tryz.underlying3]; simp⟩
  · exact ⟨by decide, .bool x.2.2, by kernel_rfl, by rw [run_equalIn_bool' w 9998 4 _ _ Tryz.underlying4]; simp⟩
set_option maxRecDepth 100000 in
theorem io_eqT (a : Bool) (b c : Int) (w : World) : (Op.equalIn 10000 36 (.agg #[.bool a, .int .i64 b, .int .u32 c]) (.agg #[.bool a, .int .i64 b, .int .u32 c])).run Tryz.prog w = .ok true w := by
  obtain ⟨fs, hfs, hu⟩ : ∃ fs, Tryz.prog.fieldsOf 36 = fs ∧ Tryz.prog.underlying 36 = some (.struct fs) := ⟨_, by kernel_rfl, Tryz.underlying36⟩
  rw [run_equalIn_struct w 9999 _ _ _ (by rw [hfs]; exact hu) (by kernel_rfl), hfs]
  have hfs2 := hu.symm.trans Tryz.underlying36
  injection hfs2 with h1
  injection h1 with h2
  subst h2
  refine fields_refl _ _ w _ fun f hf => ?_
  simp only [List.mem_cons, List.not_mem_nil, or_false] at hf
  rcases hf with rfl | rfl | rfl
  · exact ⟨by decide, .bool a, by kernel_rfl, by rw [run_equalIn_bool' w 9998 4 _ _ Tryz.underlying4]; simp⟩
  · exact ⟨by decide, .int .i64 b, by kernel_rfl, by rw [run_equalIn_int w 9998 3 .i64 .i64 _ _ Tryz.underlying3]; simp⟩
  · exact ⟨by decide, .int .u32 c, by kernel_rfl, by rw [run_equalIn_int w 9998 22 .u32 .u32 _ _ Tryz.underlying22]; simp⟩
theorem ioT_sz (a : Bool) (b c : Int) : (Tryz.prog.info? 36).map (·.size) = some [Value.bool a, .int .i64 b, .int .u32 c].length := by
  show _ = some 3
  kernel_rfl
theorem wrT_sz (a b c : Int) : (Tryz.prog.info? 64).map (·.size) = some [Value.int .i64 a, .int .i64 b, .int .u32 c].length := by
  show _ = some 3
  kernel_rfl
def Sp.wv2 (s : Sp) (v u : Value) : Sp := { s with wv := v, av := u }
theorem eT_ec (s : Sp) : (s.eff.drop 1).take 30 = s.ec.cells := rfl
theorem eT_old (s : Sp) : (s.eff.drop 31).take 30 = s.old.cells := rfl
theorem eT_io (s : Sp) : (s.eff.drop 65).take 3 = [.bool s.ii, .int .i64 s.ip, .int .u32 s.iv] := rfl
theorem eT2_ec (s : Sp) (v u : Value) : ((s.wv2 v u).eff.drop 1).take 30 = s.ec.cells := rfl
theorem eT2_old (s : Sp) (v u : Value) : ((s.wv2 v u).eff.drop 31).take 30 = s.old.cells := rfl
theorem eT2_io (s : Sp) (v u : Value) : ((s.wv2 v u).eff.drop 65).take 3 = [.bool s.ii, .int .i64 s.ip, .int .u32 s.iv] := rfl
set_option maxRecDepth 100000 in
set_option maxHeartbeats 16000000 in
theorem same_T (s s2 : Sp) (AW AA AW' AA' : Option Addr) (cw ca cw' ca' nw na : Nat) (ws : List (Int × Int × Int)) (ac : List (Int × Int × Bool)) (w : World) (hnw : ws.length = nw) (hna : ac.length = na) (hw3 : nw ≤ 90) (ha9 : na ≤ 90) (h1 : s.wv = .slice AW nw cw) (h2 : s.av = .slice AA na ca) (e2 : s2 = s.wv2 (.slice AW' nw cw') (.slice AA' na ca')) (g3 : Sl w 3 AW nw (Ws ws)) (g4 : Sl w 3 AA na (Acs ac)) (g5 : Sl w 3 AW' nw (Ws ws)) (g6 : Sl w 3 AA' na (Acs ac)) :
    Calls Tryz.prog 12 #[.agg s2.eff.toArray, .agg s.eff.toArray] w fun e w' => e = .returned (.bool true) ∧ Later w w' := by
  subst e2
  have b2 := (Blk.new w 38 (s.wv2 (.slice AW' nw cw') (.slice AA' na ca')).eff.toArray (s.wv2 (.slice AW' nw cw') (.slice AA' na ca')).eff rfl).alloc (.cells s.eff.toArray 38)
  have b3 := Blk.new' (w.alloc (.cells (s.wv2 (.slice AW' nw cw') (.slice AA' na ca')).eff.toArray 38)) (w.heap.size + 1) 38 s.eff.toArray s.eff (by simp) rfl
  have lw := (later1 w (.cells (s.wv2 (.slice AW' nw cw') (.slice AA' na ca')).eff.toArray 38)).alloc (by simp) (.cells s.eff.toArray 38)
  obtain ⟨u0, hu⟩ : ∃ u0, (w.alloc (.cells (s.wv2 (.slice AW' nw cw') (.slice AA' na ca')).eff.toArray 38)).alloc (.cells s.eff.toArray 38) = u0 := ⟨_, rfl⟩
  rw [hu] at b2 b3 lw
  have LW := Lib.hid lw
  have HGW := Lib.hid fun w' (l : Later u0 w') => (g3.keep lw).keep l
  have HGA := Lib.hid fun w' (l : Later u0 w') => (g4.keep lw).keep l
  have HGW2 := Lib.hid fun w' (l : Later u0 w') => (g5.keep lw).keep l
  have HGA2 := Lib.hid fun w' (l : Later u0 w') => (g6.keep lw).keep l
  have HLW := Lib.hid hnw
  have HLA := Lib.hid hna
  have G1 := Lib.hid h1
  have G2 := Lib.hid h2
  clear g3 g4 g5 g6 h1 h2 lw hnw hna
  have heqC := cpu_same s.ec
  have heqO := cpu_same s.old
  have heqI := io_eqT s.ii s.ip s.iv
  go_enter Tryz.func12, Tryz.ntmps12
  go_upto_region 1 with fail
  clear hu
  simp only [List.append_eq, List.cons_append, List.nil_append]
  have p0 := b2.cell (j := 0) (v := .bool s.dn) rfl
  have q0 := b3.cell (j := 0) (v := .bool s.dn) rfl
  have p61 := b2.cell (j := 61) (v := .int .u32 s.wd) rfl
  have q61 := b3.cell (j := 61) (v := .int .u32 s.wd) rfl
  have p64 := b2.cell (j := 64) (v := .bool s.ak) rfl
  have q64 := b3.cell (j := 64) (v := .bool s.ak) rfl
  have p68 := b2.cell (j := 68) (v := .int .i64 s.fl) rfl
  have q68 := b3.cell (j := 68) (v := .int .i64 s.fl) rfl
  have p69 := b2.cell (j := 69) (v := .int .u32 s.fa) rfl
  have q69 := b3.cell (j := 69) (v := .int .u32 s.fa) rfl
  have p70 := b2.cell (j := 70) (v := .int .i64 s.tr) rfl
  have q70 := b3.cell (j := 70) (v := .int .i64 s.tr) rfl
  have p62 := b2.cell (j := 62) (v := .slice AW' nw cw') rfl
  have p63 := b2.cell (j := 63) (v := .slice AA' na ca') rfl
  have q62 := b3.cell (j := 62) (v := .slice AW nw cw) (congrArg some G1.out)
  have q63 := b3.cell (j := 63) (v := .slice AA na ca) (congrArg some G2.out)
  go_upto_region 4 with (first
    | ((with_reducible refine wpList_load_atg (o := ⟨some 14, .load 26 (.tmp 13), _, _, _, _⟩) _ _ rfl w.heap.size 1 30 38 (s.wv2 (.slice AW' nw cw') (.slice AA' na ca')).eff s.ec.cells _ ?_ ?_ ?_ (eT2_ec _ _ _) Tryz.underlying26 ?_ (cpu_sz _) ?_); rfl; rfl; exact b2; rfl)
    | ((with_reducible refine wpList_load_atg (o := ⟨some 16, .load 26 (.tmp 15), _, _, _, _⟩) _ _ rfl (w.heap.size + 1) 1 30 38 s.eff s.ec.cells _ ?_ ?_ ?_ (eT_ec _) Tryz.underlying26 ?_ (cpu_sz _) ?_); rfl; rfl; exact b3; rfl)
    | ((with_reducible refine wpList_load_atg (o := ⟨some 21, .load 26 (.tmp 20), _, _, _, _⟩) _ _ rfl w.heap.size 31 30 38 (s.wv2 (.slice AW' nw cw') (.slice AA' na ca')).eff s.old.cells _ ?_ ?_ ?_ (eT2_old _ _ _) Tryz.underlying26 ?_ (cpu_sz _) ?_); rfl; rfl; exact b2; rfl)
    | ((with_reducible refine wpList_load_atg (o := ⟨some 23, .load 26 (.tmp 22), _, _, _, _⟩) _ _ rfl (w.heap.size + 1) 31 30 38 s.eff s.old.cells _ ?_ ?_ ?_ (eT_old _) Tryz.underlying26 ?_ (cpu_sz _) ?_); rfl; rfl; exact b3; rfl)
    | ((with_reducible refine wpList_load_atg (o := ⟨some 42, .load 36 (.tmp 41), _, _, _, _⟩) _ _ rfl w.heap.size 65 3 38 (s.wv2 (.slice AW' nw cw') (.slice AA' na ca')).eff [.bool s.ii, .int .i64 s.ip, .int .u32 s.iv] _ ?_ ?_ ?_ (eT2_io _ _ _) Tryz.underlying36 ?_ (ioT_sz _ _ _) ?_); rfl; rfl; exact b2; rfl)
    | ((with_reducible refine wpList_load_atg (o := ⟨some 44, .load 36 (.tmp 43), _, _, _, _⟩) _ _ rfl (w.heap.size + 1) 65 3 38 s.eff [.bool s.ii, .int .i64 s.ip, .int .u32 s.iv] _ ?_ ?_ ?_ (eT_io _) Tryz.underlying36 ?_ (ioT_sz _ _ _) ?_); rfl; rfl; exact b3; rfl))
  clear p0 q0 p61 q61 p64 q64 p68 q68 p69 q69 p70 q70 p62 p63 q62 q63
  clear heqC heqO heqI
  go_wp2
  go_loopw [5] (fun i wr => ∃ k : Nat, k ≤ nw ∧ i = .int .i64 (k : Int) ∧ Blk wr w.heap.size 38 (s.wv2 (.slice AW' nw cw') (.slice AA' na ca')).eff ∧ Blk wr (w.heap.size + 1) 38 s.eff ∧ Later u0 wr) (fun i _ => nw - (intOf i).toNat)
  case atStart => exact ⟨0, Nat.zero_le _, rfl, b2, b3, later0 u0⟩
  case round =>
    clear b2 b3 
    rename_i wr
    obtain ⟨k, hk, rfl, b2, b3, lu⟩ := hrel
    have p62 := b2.cell (j := 62) (v := .slice AW' nw cw') rfl
    have p63 := b2.cell (j := 63) (v := .slice AA' na ca') rfl
    by_cases hlt : k < nw
    · have hkn : (k : Int) < (nw : Int) := by omega
      have hk0 : (0 : Int) ≤ k := by omega
      have hk9 : (k : Int) < 100 := by omega
      have hL : k < ws.length := by rw [HLW.out]; exact hlt
      obtain ⟨ad1, hA1⟩ := (HGW2.out _ lu).addr (by omega)
      obtain ⟨ad2, hA2⟩ := (HGW.out _ lu).addr (by omega)
      have h1 := HGW2.out wr lu
      have h2 := HGW.out wr lu
      rw [hA1] at h1
      rw [hA2] at h2
      have HW1 := Lib.hid (h1.write hL HLW.out)
      have HW2 := Lib.hid (h2.write hL HLW.out)
      obtain ⟨x, hx⟩ : ∃ x, x = ws[k] := ⟨_, rfl⟩
      rw [← hx] at HW1 HW2
      have heq := wr_eq x
      obtain ⟨e1, hc1⟩ : ∃ z, z = AW' := ⟨_, rfl⟩
      clear hc1 e1 h1 h2 hx hL
      subst hA1
      subst hA2
      go_upto_region 6 with fail
      clear p62 p63
      replace b2 := b2.drew
      replace b3 := b3.drew
      replace lu := lu.drew
      refine wp_region_held_drew (S := fun w' => w'.cell? ⟨w.heap.size, 62, none⟩ = some (.slice (some ad1) nw cw') ∧ w'.cell? ⟨(w.heap.size + 1), 62, none⟩ = some (.slice (some ad2) nw cw) ∧ (∀ j u, [Value.int .i64 x.1, .int .i64 x.2.1, .int .u32 x.2.2][j]? = some u → w'.cell? ((ad1.add (k * 3)).add j) = some u) ∧ (∀ j u, [Value.int .i64 x.1, .int .i64 x.2.1, .int .u32 x.2.2][j]? = some u → w'.cell? ((ad2.add (k * 3)).add j) = some u)) (by kernel_rfl) ⟨b2.cell (j := 62) (v := .slice (some ad1) nw cw') rfl, b3.cell (j := 62) (v := .slice (some ad2) nw cw) (congrArg some G1.out), HW1.out, HW2.out⟩ (fun hHeld => ?_)
      refine wpAnyH_take (i := 0) (oi := ⟨some 93, .fieldAddr 38 (.tmp 2) 4, _, _, _, none⟩) (v := .pointer (some ⟨w.heap.size, 62, none⟩)) rfl (by kernel_rfl) (by kernel_rfl) (by kernel_rfl) (fun _ _ _ h => h) (Or.inl ⟨by rfl, fun w _ => by go_simp⟩) hHeld ?_
      simp only [Act.put, List.setIfInBounds_toArray, List.set_cons_zero, List.set_cons_succ]
      refine wpAnyH_take (i := 1) (oi := ⟨some 94, .load 33 (.tmp 93), _, _, _, none⟩) (v := .slice (some ad1) nw cw') rfl (by kernel_rfl) (by kernel_rfl) (by kernel_rfl) (fun _ _ _ h => h) (Or.inl ⟨by rfl, fun w hSw => by have e1 := hSw.1; clear hSw; go_simp⟩) hHeld ?_
      simp only [Act.put, List.setIfInBounds_toArray, List.set_cons_zero, List.set_cons_succ]
      refine wpAnyH_take (i := 2) (oi := ⟨some 95, .move (.tmp 5), _, _, _, none⟩) (v := .int .i64 (k : Int)) rfl (by kernel_rfl) (by kernel_rfl) (by kernel_rfl) (fun _ _ _ h => h) (Or.inl ⟨by rfl, fun _ _ => rfl⟩) hHeld ?_
      simp only [Act.put, List.setIfInBounds_toArray, List.set_cons_zero, List.set_cons_succ]
      refine wpAnyH_take (i := 3) (oi := ⟨some 96, .indexAddr 33 (.tmp 94) (.tmp 95), _, _, _, none⟩) (v := .pointer (some (ad1.add (k * 3)))) rfl (by kernel_rfl) (by kernel_rfl) (by kernel_rfl) (fun _ _ _ h => h) (Or.inl ⟨by rfl, fun w _ => by go_simp⟩) hHeld ?_
      simp only [Act.put, List.setIfInBounds_toArray, List.set_cons_zero, List.set_cons_succ]
      refine wpAnyH_take (i := 4) (oi := ⟨some 97, .load 64 (.tmp 96), _, _, _, none⟩) (v := .agg #[Value.int .i64 x.1, .int .i64 x.2.1, .int .u32 x.2.2]) rfl (by kernel_rfl) (by kernel_rfl) (by kernel_rfl) (fun _ _ _ h => h) (yieldsIf_load_addr (by rfl) _ _ rfl (ad1.add (k * 3)) (by rfl) [Value.int .i64 x.1, .int .i64 x.2.1, .int .u32 x.2.2] _ (fun w h => h.2.2.1) Tryz.underlying64 rfl (wrT_sz _ _ _)) hHeld ?_
      simp only [Act.put, List.setIfInBounds_toArray, List.set_cons_zero, List.set_cons_succ]
      refine wpAnyH_take (i := 5) (oi := ⟨some 98, .fieldAddr 38 (.tmp 3) 4, _, _, _, none⟩) (v := .pointer (some ⟨(w.heap.size + 1), 62, none⟩)) rfl (by kernel_rfl) (by kernel_rfl) (by kernel_rfl) (fun _ _ _ h => h) (Or.inl ⟨by rfl, fun w _ => by go_simp⟩) hHeld ?_
      simp only [Act.put, List.setIfInBounds_toArray, List.set_cons_zero, List.set_cons_succ]
      refine wpAnyH_take (i := 6) (oi := ⟨some 99, .load 33 (.tmp 98), _, _, _, none⟩) (v := .slice (some ad2) nw cw) rfl (by kernel_rfl) (by kernel_rfl) (by kernel_rfl) (fun _ _ _ h => h) (Or.inl ⟨by rfl, fun w hSw => by have e1 := hSw.2.1; clear hSw; go_simp⟩) hHeld ?_
      simp only [Act.put, List.setIfInBounds_toArray, List.set_cons_zero, List.set_cons_succ]
      refine wpAnyH_take (i := 7) (oi := ⟨some 100, .move (.tmp 5), _, _, _, none⟩) (v := .int .i64 (k : Int)) rfl (by kernel_rfl) (by kernel_rfl) (by kernel_rfl) (fun _ _ _ h => h) (Or.inl ⟨by rfl, fun _ _ => rfl⟩) hHeld ?_
      simp only [Act.put, List.setIfInBounds_toArray, List.set_cons_zero, List.set_cons_succ]
      refine wpAnyH_take (i := 8) (oi := ⟨some 101, .indexAddr 33 (.tmp 99) (.tmp 100), _, _, _, none⟩) (v := .pointer (some (ad2.add (k * 3)))) rfl (by kernel_rfl) (by kernel_rfl) (by kernel_rfl) (fun _ _ _ h => h) (Or.inl ⟨by rfl, fun w _ => by go_simp⟩) hHeld ?_
      simp only [Act.put, List.setIfInBounds_toArray, List.set_cons_zero, List.set_cons_succ]
      refine wpAnyH_take (i := 9) (oi := ⟨some 102, .load 64 (.tmp 101), _, _, _, none⟩) (v := .agg #[Value.int .i64 x.1, .int .i64 x.2.1, .int .u32 x.2.2]) rfl (by kernel_rfl) (by kernel_rfl) (by kernel_rfl) (fun _ _ _ h => h) (yieldsIf_load_addr (by rfl) _ _ rfl (ad2.add (k * 3)) (by rfl) [Value.int .i64 x.1, .int .i64 x.2.1, .int .u32 x.2.2] _ (fun w h => h.2.2.2) Tryz.underlying64 rfl (wrT_sz _ _ _)) hHeld ?_
      simp only [Act.put, List.setIfInBounds_toArray, List.set_cons_zero, List.set_cons_succ]
      refine wpAnyH_take (i := 10) (oi := ⟨some 103, .binOp .neq 64 (.tmp 97) (.tmp 102) 64, _, _, _, none⟩) (v := .bool false) rfl (by kernel_rfl) (by kernel_rfl) (by kernel_rfl) (fun _ _ _ h => h) (Or.inl ⟨by rfl, fun w _ => by go_simp⟩) hHeld ?_
      simp only [Act.put, List.setIfInBounds_toArray, List.set_cons_zero, List.set_cons_succ]
      refine wpAnyH_done (by kernel_rfl) ?_ _
      clear hHeld
      go_wp2
      go_roundw
      case rel => exact ⟨k + 1, by omega, by go_num, b2, b3, lu⟩
      case measure => simp [intOf]; omega
    · obtain rfl : nw = k := by omega
      clear hlt hk
      go_wp2
      clear p62 p63
      go_loopw [6] (fun i wr => ∃ k : Nat, k ≤ na ∧ i = .int .i64 (k : Int) ∧ Blk wr w.heap.size 38 (s.wv2 (.slice AW' nw cw') (.slice AA' na ca')).eff ∧ Blk wr (w.heap.size + 1) 38 s.eff ∧ Later u0 wr) (fun i _ => na - (intOf i).toNat)
      case atStart => exact ⟨0, Nat.zero_le _, rfl, b2, b3, lu⟩
      case round =>
        clear b2 b3 lu
        rename_i wr
        obtain ⟨k, hk, rfl, b2, b3, lu⟩ := hrel
        have p62 := b2.cell (j := 62) (v := .slice AW' nw cw') rfl
        have p63 := b2.cell (j := 63) (v := .slice AA' na ca') rfl
        by_cases hlt : k < na
        · have hkn : (k : Int) < (na : Int) := by omega
          have hk0 : (0 : Int) ≤ k := by omega
          have hk9 : (k : Int) < 100 := by omega
          have hL : k < ac.length := by rw [HLA.out]; exact hlt
          obtain ⟨ad1, hA1⟩ := (HGA2.out _ lu).addr (by omega)
          obtain ⟨ad2, hA2⟩ := (HGA.out _ lu).addr (by omega)
          have h1 := HGA2.out wr lu
          have h2 := HGA.out wr lu
          rw [hA1] at h1
          rw [hA2] at h2
          have HW1 := Lib.hid (h1.acc hL HLA.out)
          have HW2 := Lib.hid (h2.acc hL HLA.out)
          obtain ⟨x, hx⟩ : ∃ x, x = ac[k] := ⟨_, rfl⟩
          rw [← hx] at HW1 HW2
          have heq := ac_eq x
          obtain ⟨e1, hc1⟩ : ∃ z, z = AA' := ⟨_, rfl⟩
          clear hc1 e1 h1 h2 hx hL
          subst hA1
          subst hA2
          go_upto_region 11 with fail
          clear p62 p63
          replace b2 := b2.drew
          replace b3 := b3.drew
          replace lu := lu.drew
          refine wp_region_held_drew (S := fun w' => w'.cell? ⟨w.heap.size, 63, none⟩ = some (.slice (some ad1) na ca') ∧ w'.cell? ⟨(w.heap.size + 1), 63, none⟩ = some (.slice (some ad2) na ca) ∧ (∀ j u, [Value.int .i64 x.1, .int .i64 x.2.1, .bool x.2.2][j]? = some u → w'.cell? ((ad1.add (k * 3)).add j) = some u) ∧ (∀ j u, [Value.int .i64 x.1, .int .i64 x.2.1, .bool x.2.2][j]? = some u → w'.cell? ((ad2.add (k * 3)).add j) = some u)) (by kernel_rfl) ⟨b2.cell (j := 63) (v := .slice (some ad1) na ca') rfl, b3.cell (j := 63) (v := .slice (some ad2) na ca) (congrArg some G2.out), HW1.out, HW2.out⟩ (fun hHeld => ?_)
          refine wpAnyH_take (i := 0) (oi := ⟨some 111, .fieldAddr 38 (.tmp 2) 5, _, _, _, none⟩) (v := .pointer (some ⟨w.heap.size, 63, none⟩)) rfl (by kernel_rfl) (by kernel_rfl) (by kernel_rfl) (fun _ _ _ h => h) (Or.inl ⟨by rfl, fun w _ => by go_simp⟩) hHeld ?_
          simp only [Act.put, List.setIfInBounds_toArray, List.set_cons_zero, List.set_cons_succ]
          refine wpAnyH_take (i := 1) (oi := ⟨some 112, .load 34 (.tmp 111), _, _, _, none⟩) (v := .slice (some ad1) na ca') rfl (by kernel_rfl) (by kernel_rfl) (by kernel_rfl) (fun _ _ _ h => h) (Or.inl ⟨by rfl, fun w hSw => by have e1 := hSw.1; clear hSw; go_simp⟩) hHeld ?_
          simp only [Act.put, List.setIfInBounds_toArray, List.set_cons_zero, List.set_cons_succ]
          refine wpAnyH_take (i := 2) (oi := ⟨some 113, .move (.tmp 6), _, _, _, none⟩) (v := .int .i64 (k : Int)) rfl (by kernel_rfl) (by kernel_rfl) (by kernel_rfl) (fun _ _ _ h => h) (Or.inl ⟨by rfl, fun _ _ => rfl⟩) hHeld ?_
          simp only [Act.put, List.setIfInBounds_toArray, List.set_cons_zero, List.set_cons_succ]
          refine wpAnyH_take (i := 3) (oi := ⟨some 114, .indexAddr 34 (.tmp 112) (.tmp 113), _, _, _, none⟩) (v := .pointer (some (ad1.add (k * 3)))) rfl (by kernel_rfl) (by kernel_rfl) (by kernel_rfl) (fun _ _ _ h => h) (Or.inl ⟨by rfl, fun w _ => by go_simp⟩) hHeld ?_
          simp only [Act.put, List.setIfInBounds_toArray, List.set_cons_zero, List.set_cons_succ]
          refine wpAnyH_take (i := 4) (oi := ⟨some 115, .load 53 (.tmp 114), _, _, _, none⟩) (v := .agg #[Value.int .i64 x.1, .int .i64 x.2.1, .bool x.2.2]) rfl (by kernel_rfl) (by kernel_rfl) (by kernel_rfl) (fun _ _ _ h => h) (yieldsIf_load_addr (by rfl) _ _ rfl (ad1.add (k * 3)) (by rfl) [Value.int .i64 x.1, .int .i64 x.2.1, .bool x.2.2] _ (fun w h => h.2.2.1) Tryz.underlying53 rfl (ac_sz _ _ _)) hHeld ?_
          simp only [Act.put, List.setIfInBounds_toArray, List.set_cons_zero, List.set_cons_succ]
          refine wpAnyH_take (i := 5) (oi := ⟨some 116, .fieldAddr 38 (.tmp 3) 5, _, _, _, none⟩) (v := .pointer (some ⟨(w.heap.size + 1), 63, none⟩)) rfl (by kernel_rfl) (by kernel_rfl) (by kernel_rfl) (fun _ _ _ h => h) (Or.inl ⟨by rfl, fun w _ => by go_simp⟩) hHeld ?_
          simp only [Act.put, List.setIfInBounds_toArray, List.set_cons_zero, List.set_cons_succ]
          refine wpAnyH_take (i := 6) (oi := ⟨some 117, .load 34 (.tmp 116), _, _, _, none⟩) (v := .slice (some ad2) na ca) rfl (by kernel_rfl) (by kernel_rfl) (by kernel_rfl) (fun _ _ _ h => h) (Or.inl ⟨by rfl, fun w hSw => by have e1 := hSw.2.1; clear hSw; go_simp⟩) hHeld ?_
          simp only [Act.put, List.setIfInBounds_toArray, List.set_cons_zero, List.set_cons_succ]
          refine wpAnyH_take (i := 7) (oi := ⟨some 118, .move (.tmp 6), _, _, _, none⟩) (v := .int .i64 (k : Int)) rfl (by kernel_rfl) (by kernel_rfl) (by kernel_rfl) (fun _ _ _ h => h) (Or.inl ⟨by rfl, fun _ _ => rfl⟩) hHeld ?_
          simp only [Act.put, List.setIfInBounds_toArray, List.set_cons_zero, List.set_cons_succ]
          refine wpAnyH_take (i := 8) (oi := ⟨some 119, .indexAddr 34 (.tmp 117) (.tmp 118), _, _, _, none⟩) (v := .pointer (some (ad2.add (k * 3)))) rfl (by kernel_rfl) (by kernel_rfl) (by kernel_rfl) (fun _ _ _ h => h) (Or.inl ⟨by rfl, fun w _ => by go_simp⟩) hHeld ?_
          simp only [Act.put, List.setIfInBounds_toArray, List.set_cons_zero, List.set_cons_succ]
          refine wpAnyH_take (i := 9) (oi := ⟨some 120, .load 53 (.tmp 119), _, _, _, none⟩) (v := .agg #[Value.int .i64 x.1, .int .i64 x.2.1, .bool x.2.2]) rfl (by kernel_rfl) (by kernel_rfl) (by kernel_rfl) (fun _ _ _ h => h) (yieldsIf_load_addr (by rfl) _ _ rfl (ad2.add (k * 3)) (by rfl) [Value.int .i64 x.1, .int .i64 x.2.1, .bool x.2.2] _ (fun w h => h.2.2.2) Tryz.underlying53 rfl (ac_sz _ _ _)) hHeld ?_
          simp only [Act.put, List.setIfInBounds_toArray, List.set_cons_zero, List.set_cons_succ]
          refine wpAnyH_take (i := 10) (oi := ⟨some 121, .binOp .neq 53 (.tmp 115) (.tmp 120) 53, _, _, _, none⟩) (v := .bool false) rfl (by kernel_rfl) (by kernel_rfl) (by kernel_rfl) (fun _ _ _ h => h) (Or.inl ⟨by rfl, fun w _ => by go_simp⟩) hHeld ?_
          simp only [Act.put, List.setIfInBounds_toArray, List.set_cons_zero, List.set_cons_succ]
          refine wpAnyH_done (by kernel_rfl) ?_ _
          clear hHeld
          go_wp2
          go_roundw
          case rel => exact ⟨k + 1, by omega, by go_num, b2, b3, lu⟩
          case measure => simp [intOf]; omega
        · obtain rfl : na = k := by omega
          clear hlt hk
          go_wp2
          go_ret
          exact ⟨rfl, Later.trans_ LW.out lu⟩
end Go.Proofs.YtidhodalnikhlaaGreatDoor
