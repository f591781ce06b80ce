/-
  THE STATEMENT ImageBeginsCalm: its walk.
-/
import Derived.Test.YtjfphjgmphlbhaaDoorJq
namespace Go.Proofs.YtjfphjgmphlbhaaDoor
open Go.RowKit Go.ChangeShapes Go.WideShapes Go.ChangeAt

set_option maxRecDepth 100000 in
theorem cpuR_at (pc : Int) (n j : Nat) (h2 : n ≤ 4) (hj : j < n) : ((cpuR pc n n).drop (j * 30)).take 30 = cpuC pc (j : Int) (decide (0 < j)) := by
  rcases n with _ | _ | _ | _ | _ | n <;> rcases j with _ | _ | _ | _ | j <;> first | omega | rfl
set_option maxRecDepth 100000 in
theorem cpuR_get (pc : Int) (n j : Nat) (h2 : n ≤ 4) (hj : j < n) (i : Nat) (v : Value) (h : (cpuC pc (j : Int) (decide (0 < j)))[i]? = some v) : (cpuR pc n n)[j * 30 + i]? = some v := by
  rw [← cpuR_at pc n j h2 hj, List.getElem?_take] at h
  split at h
  · rwa [List.getElem?_drop] at h
  · cases h
set_option maxRecDepth 100000 in
theorem cpu_sz (pc id : Int) (wt : Bool) : (Tryd.prog.info? 61).map (·.size) = some ([.int .u32 pc, .int .u32 0, .int .u32 0, .int .u32 0, .int .u32 0, .int .u32 0, .int .u32 0, .int .u32 0, .int .u32 0, .int .u32 0, .int .u32 0, .int .u32 0, .int .u32 0, .int .u32 0, .int .u32 0, .int .u32 0, .int .u32 0, .int .u32 0, .int .u32 0, .int .u32 0, .int .u32 0, .int .u32 0, .int .u32 0, .int .u32 0, .int .u32 0, .int .u32 id, .bool false, .bool wt, .bool false, .int .i64 0] : List Value).length := by
  show _ = some 30
  kernel_rfl
set_option maxRecDepth 100000 in
theorem cpuC_is (pc id : Int) (wt : Bool) : cpuC pc id wt = [.int .u32 pc, .int .u32 0, .int .u32 0, .int .u32 0, .int .u32 0, .int .u32 0, .int .u32 0, .int .u32 0, .int .u32 0, .int .u32 0, .int .u32 0, .int .u32 0, .int .u32 0, .int .u32 0, .int .u32 0, .int .u32 0, .int .u32 0, .int .u32 0, .int .u32 0, .int .u32 0, .int .u32 0, .int .u32 0, .int .u32 0, .int .u32 0, .int .u32 0, .int .u32 id, .bool false, .bool wt, .bool false, .int .i64 0] := rfl
set_option maxRecDepth 100000 in
theorem cpuC_one (pc id : Int) (wt : Bool) : ∀ v ∈ cpuC pc id wt, v.oneCell' = true := fun v hv => List.all_eq_true.1 (show (cpuC pc id wt).all Value.oneCell' = true from rfl) v hv
set_option maxRecDepth 100000 in
theorem z_sz : (Tryd.prog.info? 58).map (·.size) = some ([.int .u32 0, .int .u32 0, .int .u32 0, .int .u32 0, .int .u32 0, .int .u32 0, .int .u32 0, .int .u32 0, .int .u32 0, .int .u32 0, .int .u32 0, .int .u32 0, .int .u32 0, .int .u32 0, .int .u32 0, .int .u32 0] : List Value).length := by kernel_rfl
set_option maxRecDepth 100000 in
theorem regs_at (pc id : Int) (wt : Bool) (i : Nat) (v : Value) (h : ([.int .u32 0, .int .u32 0, .int .u32 0, .int .u32 0, .int .u32 0, .int .u32 0, .int .u32 0, .int .u32 0, .int .u32 0, .int .u32 0, .int .u32 0, .int .u32 0, .int .u32 0, .int .u32 0, .int .u32 0, .int .u32 0] : List Value)[i]? = some v) : (cpuC pc id wt)[1 + i]? = some v := by
  rcases i with _ | _ | _ | _ | _ | _ | _ | _ | _ | _ | _ | _ | _ | _ | _ | _ | i <;> first | exact h | (simp at h)
set_option maxRecDepth 100000 in
theorem csr_z (pc id : Int) (wt : Bool) (q : Nat) (hq : q < 8) : (cpuC pc id wt)[17 + q]? = some (.int .u32 0) := by
  rcases q with _ | _ | _ | _ | _ | _ | _ | _ | q <;> first | omega | rfl
set_option maxRecDepth 100000 in
theorem regs_eq (w : World) : (Op.equalIn 10000 58 (.agg #[.int .u32 0, .int .u32 0, .int .u32 0, .int .u32 0, .int .u32 0, .int .u32 0, .int .u32 0, .int .u32 0, .int .u32 0, .int .u32 0, .int .u32 0, .int .u32 0, .int .u32 0, .int .u32 0, .int .u32 0, .int .u32 0]) (.agg #[.int .u32 0, .int .u32 0, .int .u32 0, .int .u32 0, .int .u32 0, .int .u32 0, .int .u32 0, .int .u32 0, .int .u32 0, .int .u32 0, .int .u32 0, .int .u32 0, .int .u32 0, .int .u32 0, .int .u32 0, .int .u32 0])).run Tryd.prog w = .ok true w := by kernel_rfl
set_option maxRecDepth 100000 in
set_option maxHeartbeats 4000000 in
theorem calm_any (en p : Int) (A : Option Addr) (n c : Nat) (L : List Im.Seg) (B : Option Addr) (m cd : Nat) (x : Int) (w : World) (hs : Sl w 2 A n (Gs L)) (hL : inSeg L) (hn : n ≤ maxLen) (hm : m ≤ maxLen) (hp : -9223372036854775808 ≤ p ∧ p ≤ 9223372036854775807) (hx : 0 ≤ x ∧ x < 256) (tab : Tab w) :
    Calls Tryd.prog 7 #[.agg #[.int .i64 en, .int .i64 p, .slice A n c, .slice B m cd], .int .u8 x] w fun e w' => e = .returned (.bool true) ∧ Later w w' := by
  have HF := Lib.hid fun w' (hl : Later w w') => few_any en p A n c L B m cd w' (hs.keep hl) hn hm
  have HC := Lib.hid fun w' (hl : Later w w') => rcheck_any en p A n c L B m cd w' (hs.keep hl) hL hn hm hp
  have HS := Lib.hid fun w' (hl : Later w w') => sanity_any w' (tab.keep hl)
  obtain ⟨K, hK⟩ : ∃ K : Nat, (K : Int) = 1 + x % 4 := ⟨(1 + x % 4).toNat, by omega⟩
  have HP := Lib.hid fun (hc : Im.chk en p L m = 0) w' (hl : Later w w') => cpus_ok en p K A n c L B m cd w' (hs.keep hl) hL hm hn hp hc (by omega) (by omega)
  obtain ⟨q, hq⟩ : ∃ q, q = fewQ L m := ⟨_, rfl⟩
  rw [← hq] at HF
  obtain ⟨r, hr⟩ : ∃ r, r = Im.chk en p L m := ⟨_, rfl⟩
  rw [← hr] at HC HP
  have b0 := Blk.new w 29 #[.int .i64 en, .int .i64 p, .slice A n c, .slice B m cd] [.int .i64 en, .int .i64 p, .slice A n c, .slice B m cd] rfl
  have l0 := later1 w (.cells #[.int .i64 en, .int .i64 p, .slice A n c, .slice B m cd] 29)
  clear hs hL hn hm hp tab hq hr
  cases q with
  | false =>
    go_enter Tryd.func7, Tryd.ntmps7
    go_wp2_with (first
    | (go_at_call 14; refine (HF.out _ l0).mono ?_; rintro e w1 ⟨rfl, l1⟩; have b1 := b0.keep l1; have lw := Later.trans_ l0 l1; have c0 := b1.cell (j := 0) (v := .int .i64 en) rfl; have c1 := b1.cell (j := 1) (v := .int .i64 p) rfl; have c2 := b1.cell (j := 2) (v := .slice A n c) rfl; have c3 := b1.cell (j := 3) (v := .slice B m cd) rfl)
    | (go_at_call 8; refine (HS.out _ lw).mono ?_; rintro e w9 ⟨rfl, l9⟩; replace lw := Later.trans_ lw l9))
    go_ret
    exact ⟨rfl, lw⟩
  | true =>
    by_cases hr : r = 0
    · subst hr
      replace HP := Lib.hid (HP.out rfl)
      have ht : x.tmod 4 = x % 4 := Int.tmod_eq_emod_of_nonneg hx.1
      have hk1 : IntKind.i64.wrap x = x := wraps_i64 _ (by omega) (by omega)
      have hk2 : IntKind.i64.wrap (x % 4) = x % 4 := wraps_i64 _ (by omega) (by omega)
      have hk0 := Lib.hid hK
      clear hK
      have hk3 : 1 + x % 4 = (K : Int) := hk0.out.symm
      have hK1 : 1 ≤ K ∧ K ≤ 4 := by have := hk0.out; omega
      obtain ⟨pc, hpc⟩ : ∃ pc, pc = IntKind.u32.wrap en := ⟨_, rfl⟩
      rw [← hpc] at HP
      have hpc' := hpc.symm
      clear hpc
      go_enter Tryd.func7, Tryd.ntmps7
      go_wp2_with (first
    | (go_at_call 14; refine (HF.out _ l0).mono ?_; rintro e w1 ⟨rfl, l1⟩; have b1 := b0.keep l1; have lw := Later.trans_ l0 l1; have c0 := b1.cell (j := 0) (v := .int .i64 en) rfl; have c1 := b1.cell (j := 1) (v := .int .i64 p) rfl; have c2 := b1.cell (j := 2) (v := .slice A n c) rfl; have c3 := b1.cell (j := 3) (v := .slice B m cd) rfl)
    | (go_at_call 15; refine (HC.out _ lw).mono ?_; rintro e w2 ⟨rfl, l2⟩; clear c0 c1 c2 c3; replace b1 := b1.keep l2; replace lw := Later.trans_ lw l2; have c0 := b1.cell (j := 0) (v := .int .i64 en) rfl; have c1 := b1.cell (j := 1) (v := .int .i64 p) rfl; have c2 := b1.cell (j := 2) (v := .slice A n c) rfl; have c3 := b1.cell (j := 3) (v := .slice B m cd) rfl)
    | (go_at_call 21; (with_reducible refine (HP.out _ lw).mono ?_); rintro e w3 ⟨g, rfl, _, bp, l3⟩; clear c0 c1 c2 c3; replace b1 := b1.keep l3; replace lw := Later.trans_ lw l3; have c0 := b1.cell (j := 0) (v := .int .i64 en) rfl; have c1 := b1.cell (j := 1) (v := .int .i64 p) rfl; have c2 := b1.cell (j := 2) (v := .slice A n c) rfl; have c3 := b1.cell (j := 3) (v := .slice B m cd) rfl)
    | (go_at_call 8; refine (HS.out _ lw).mono ?_; rintro e w9 ⟨rfl, l9⟩; replace lw := Later.trans_ lw l9))
      clear c0 c1 c2 c3
      go_loopw [8] (fun i wr => ∃ j : Nat, j ≤ K ∧ i = .int .i64 (j : Int) ∧ Blk wr g 61 (cpuR pc K K) ∧ Blk wr w.heap.size 29 [.int .i64 en, .int .i64 p, .slice A n c, .slice B m cd] ∧ Later w wr) (fun i _ => K - (intOf i).toNat)
      case atStart => exact ⟨0, Nat.zero_le _, rfl, bp, b1, lw⟩
      case round =>
        clear bp b1 lw
        rename_i wr
        obtain ⟨j, hj, rfl, bp, b1, lw⟩ := hrel
        by_cases hlt : j < K
        · have kj : (j : Int) < (K : Int) := by omega
          obtain ⟨wt, hwt⟩ : ∃ wt, wt = decide (0 < j) := ⟨_, rfl⟩
          obtain ⟨CL, hCL⟩ : ∃ CL, CL = cpuC pc (j : Int) (decide (0 < j)) := ⟨_, rfl⟩
          have HCC := Lib.hid fun (i : Nat) (v : Value) (h : CL[i]? = some v) => (show wr.cell? ((⟨g, j * 30, none⟩ : Addr).add i) = some v by rw [Addr.add_mid]; exact bp.cell (cpuR_get pc K j hK1.2 hlt i v (by rw [← hCL]; exact h)))
          have HSZ : Hid ((Tryd.prog.info? 61).map (·.size) = some CL.length) := Lib.hid (by rw [hCL]; exact cpu_sz _ _ _)
          have HON : Hid (∀ v ∈ CL, v.oneCell' = true) := Lib.hid (by rw [hCL]; exact cpuC_one _ _ _)
          have HLN : Hid (([.int .u32 0, .int .u32 0, .int .u32 0, .int .u32 0, .int .u32 0, .int .u32 0, .int .u32 0, .int .u32 0, .int .u32 0, .int .u32 0, .int .u32 0, .int .u32 0, .int .u32 0, .int .u32 0, .int .u32 0, .int .u32 0, .int .u32 0, .int .u32 0, .int .u32 0, .int .u32 0, .int .u32 0, .int .u32 0, .int .u32 0, .int .u32 0, .int .u32 0, .int .u32 0, .bool false, .bool false, .bool false, .int .i64 0] : List Value).length = CL.length) := Lib.hid (by rw [hCL]; rfl)
          have g0 : Hid (CL[0]? = some (.int .u32 pc)) := Lib.hid (by rw [hCL]; rfl)
          have g26 : Hid (CL[26]? = some (.bool false)) := Lib.hid (by rw [hCL]; rfl)
          have g27 : Hid (CL[27]? = some (.bool wt)) := Lib.hid (by rw [hCL, hwt]; rfl)
          have g28 : Hid (CL[28]? = some (.bool false)) := Lib.hid (by rw [hCL]; rfl)
          have g29 : Hid (CL[29]? = some (.int .i64 0)) := Lib.hid (by rw [hCL]; rfl)
          have g25 : Hid (CL[25]? = some (.int .u32 (j : Int))) := Lib.hid (by rw [hCL]; rfl)
          have gR : Hid (∀ i v, ([.int .u32 0, .int .u32 0, .int .u32 0, .int .u32 0, .int .u32 0, .int .u32 0, .int .u32 0, .int .u32 0, .int .u32 0, .int .u32 0, .int .u32 0, .int .u32 0, .int .u32 0, .int .u32 0, .int .u32 0, .int .u32 0] : List Value)[i]? = some v → CL[1 + i]? = some v) := Lib.hid (by rw [hCL]; exact regs_at _ _ _)
          have gC : Hid (∀ q, q < 8 → CL[17 + q]? = some (.int .u32 0)) := Lib.hid (by rw [hCL]; exact csr_z _ _ _)
          have hw3 : decide (0 < j) = wt := hwt.symm
          have hjw : IntKind.u32.wrap (j : Int) = (j : Int) := by rw [IntKind.wrap_u32]; omega
          have hre := fun w' => regs_eq w'
          clear hwt hCL
          go_wp2_with (first
            | ((with_reducible refine wpList_load_addr (o := ⟨some 46, .load 61 (.tmp 45), _, _, _, none⟩) rfl _ _ rfl ⟨g, j * 30, none⟩ CL _ ?_ HCC.out Tryd.underlying61 rfl HSZ.out ?_); rfl)
            | ((with_reducible refine wpList_store_abs (o := ⟨none, .store 61 (.tmp 9) (.tmp 46), _, _, _, none⟩) rfl _ _ _ rfl wr.heap.size 61 [.int .u32 0, .int .u32 0, .int .u32 0, .int .u32 0, .int .u32 0, .int .u32 0, .int .u32 0, .int .u32 0, .int .u32 0, .int .u32 0, .int .u32 0, .int .u32 0, .int .u32 0, .int .u32 0, .int .u32 0, .int .u32 0, .int .u32 0, .int .u32 0, .int .u32 0, .int .u32 0, .int .u32 0, .int .u32 0, .int .u32 0, .int .u32 0, .int .u32 0, .int .u32 0, .bool false, .bool false, .bool false, .int .i64 0] CL ?_ ?_ (Blk.new wr _ _ _ rfl) HSZ.out HLN.out HON.out ?_); rfl; rfl; intro w5 z1 z2; have l5 : Later wr w5 := Below.only (later1 wr _) z2 (Nat.le_refl _); clear z2; replace bp := bp.keep l5; replace b1 := b1.keep l5; replace lw := Later.trans_ lw l5; have k0 := z1.cell g0.out; have k1 := z1.cell (gR.out 0 _ rfl); have k2 := z1.cell (gR.out 1 _ rfl); have k3 := z1.cell (gR.out 2 _ rfl); have k4 := z1.cell (gR.out 3 _ rfl); have k5 := z1.cell (gR.out 4 _ rfl); have k6 := z1.cell (gR.out 5 _ rfl); have k7 := z1.cell (gR.out 6 _ rfl); have k8 := z1.cell (gR.out 7 _ rfl); have k9 := z1.cell (gR.out 8 _ rfl); have k10 := z1.cell (gR.out 9 _ rfl); have k11 := z1.cell (gR.out 10 _ rfl); have k12 := z1.cell (gR.out 11 _ rfl); have k13 := z1.cell (gR.out 12 _ rfl); have k14 := z1.cell (gR.out 13 _ rfl); have k15 := z1.cell (gR.out 14 _ rfl); have k16 := z1.cell (gR.out 15 _ rfl); have k26 := z1.cell g26.out; have k27 := z1.cell g27.out; have k28 := z1.cell g28.out; have k29 := z1.cell g29.out; have c0 := b1.cell (j := 0) (v := .int .i64 en) rfl))
          clear c0 k0 k26 k27 k28 k29 hre gR HON HLN HSZ HCC k1 k2 k3 k4 k5 k6 k7 k8 k9 k10 k11 k12 k13 k14 k15 k16
          go_loopw [10] (fun i wq => ∃ q : Nat, q ≤ 9 ∧ i = .int .i64 (q : Int) ∧ Blk wq wr.heap.size 61 CL ∧ Blk wq g 61 (cpuR pc K K) ∧ Blk wq w.heap.size 29 [.int .i64 en, .int .i64 p, .slice A n c, .slice B m cd] ∧ Later w wq) (fun i _ => 9 - (intOf i).toNat)
          case atStart => exact ⟨0, by omega, rfl, z1, bp, b1, lw⟩
          case round =>
            clear z1 bp b1 lw
            rename_i wq
            obtain ⟨q, hq, rfl, z1, bp, b1, lw⟩ := hrel
            by_cases h9 : q < 9
            · have q9 : (q : Int) < 9 := by omega
              by_cases h8 : q = 8
              · subst h8
                have k25 := z1.cell g25.out
                have e8 : (((8 : Nat) : Int) == 8) = true := rfl
                go_wp2
                go_roundw
                case rel => exact ⟨8 + 1, by omega, by go_num, z1, bp, b1, lw⟩
                case measure => simp [intOf]
              · have kq := z1.cell (gC.out q (by omega))
                have e8 : ((q : Int) == 8) = false := neq_false' (by omega)
                go_wp2
                go_roundw
                case rel => exact ⟨q + 1, by omega, by go_num, z1, bp, b1, lw⟩
                case measure => simp [intOf]; omega
            · obtain rfl : q = 9 := by omega
              go_wp2
              go_roundw
              case rel => exact ⟨j + 1, by omega, by go_num, bp, b1, lw⟩
              case measure => simp [intOf]; omega
        · obtain rfl : j = K := by omega
          have nlt : ¬ ((j : Int) < (j : Int)) := by omega
          go_wp2_with (first
    | (go_at_call 8; refine (HS.out _ lw).mono ?_; rintro e w9 ⟨rfl, l9⟩; replace lw := Later.trans_ lw l9))
          go_ret
          exact ⟨rfl, lw⟩
    · have hr1 : (r == 0) = false := neq_false' hr
      go_enter Tryd.func7, Tryd.ntmps7
      go_wp2_with (first
    | (go_at_call 14; refine (HF.out _ l0).mono ?_; rintro e w1 ⟨rfl, l1⟩; have b1 := b0.keep l1; have lw := Later.trans_ l0 l1; have c0 := b1.cell (j := 0) (v := .int .i64 en) rfl; have c1 := b1.cell (j := 1) (v := .int .i64 p) rfl; have c2 := b1.cell (j := 2) (v := .slice A n c) rfl; have c3 := b1.cell (j := 3) (v := .slice B m cd) rfl)
    | (go_at_call 15; refine (HC.out _ lw).mono ?_; rintro e w2 ⟨rfl, l2⟩; clear c0 c1 c2 c3; replace b1 := b1.keep l2; replace lw := Later.trans_ lw l2; have c0 := b1.cell (j := 0) (v := .int .i64 en) rfl; have c1 := b1.cell (j := 1) (v := .int .i64 p) rfl; have c2 := b1.cell (j := 2) (v := .slice A n c) rfl; have c3 := b1.cell (j := 3) (v := .slice B m cd) rfl)
    | (go_at_call 8; refine (HS.out _ lw).mono ?_; rintro e w9 ⟨rfl, l9⟩; replace lw := Later.trans_ lw l9))
      go_ret
      exact ⟨rfl, lw⟩
end Go.Proofs.YtjfphjgmphlbhaaDoor
