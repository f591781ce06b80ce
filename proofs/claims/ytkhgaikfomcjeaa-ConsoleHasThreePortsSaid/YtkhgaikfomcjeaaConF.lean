/-
  A CONSOLE: Port, whatever is asked; Encode.
-/
import Derived.Test.YtkhgaikfomcjeaaConE
import Derived.Test.YtkhgaikfomcjeaaTwF
import Derived.Test.YtkhgaikfomcjeaaWireLaws
import Derived.Deep.RegionHeld
import Derived.Lib.Hide
namespace Go.Proofs.Ytkhgaikfomcjeaa
open Go.RowKit Go.ChangeShapes Go.WideShapes Go.ChangeAt

theorem port_any (x : Cn) (inn : Bool) (p v : Int) (w : World) (hz : x.s.size ≤ 64) : Calls Try.prog 13 #[.agg x.cells.toArray, .agg #[.bool inn, .int .i64 p, .int .u32 v]] w fun e w' => e = .returned (.tuple #[.agg (x.portC inn p).cells.toArray, .int .u32 (x.portV inn p), .string (portO inn p v), .bool (portB inn p)]) ∧ Later w w' := by
  by_cases h32 : p = 32
  · subst h32
    cases inn with
    | true => exact port_n32 x v w hz
    | false => exact port_put x v w hz
  · by_cases h33 : p = 33
    · subst h33
      cases inn with
      | true => exact port_take x v w hz
      | false => exact port_n33 x v w hz
    · by_cases h34 : p = 34
      · subst h34
        cases inn with
        | true => exact port_count x v w hz
        | false => exact port_n34 x v w hz
      · have g0 := beq_false_of_ne (Ne.symm h32)
        have g1 := beq_false_of_ne (Ne.symm h33)
        have g2 := beq_false_of_ne (Ne.symm h34)
        cases inn with
        | true =>
          have h := port_nt x p g0 g1 g2 v w hz
          rw [show x.portC true p = x from by simp [Cn.portC, h33], show x.portV true p = 0 from by simp [Cn.portV, h33, h34], show portO true p v = noS from rfl, show portB true p = false from by simp [portB, h33, h34]]
          exact h
        | false =>
          have h := port_nf x p g0 g1 g2 v w hz
          rw [show x.portC false p = x from rfl, show x.portV false p = 0 from rfl, show portO false p v = noS from by simp [portO, h32], show portB false p = false from by simp [portB, h32]]
          exact h
theorem rport_any (x : Cn) (inn : Bool) (p v : Int) (w : World) (hz : x.s.size ≤ 64) : Calls Try.prog 15 #[.agg x.cells.toArray, .agg #[.bool inn, .int .i64 p, .int .u32 v]] w fun e w' => e = .returned (.agg (dnC (x.portC inn p) (x.portV inn p) (portO inn p v) (portB inn p)).toArray) ∧ Later w w' := by
  by_cases h32 : p = 32
  · subst h32
    cases inn with
    | true => exact rport_n32 x v w hz
    | false => exact rport_put x v w hz
  · by_cases h33 : p = 33
    · subst h33
      cases inn with
      | true => exact rport_take x v w hz
      | false => exact rport_n33 x v w hz
    · by_cases h34 : p = 34
      · subst h34
        cases inn with
        | true => exact rport_count x v w hz
        | false => exact rport_n34 x v w hz
      · have g0 := beq_false_of_ne h32
        have g1 := beq_false_of_ne h33
        have g2 := beq_false_of_ne h34
        cases inn with
        | true =>
          have h := rport_nt x p g0 g1 g2 v w hz
          rw [show x.portC true p = x from by simp [Cn.portC, h33], show x.portV true p = 0 from by simp [Cn.portV, h33, h34], show portO true p v = noS from rfl, show portB true p = false from by simp [portB, h33, h34]]
          exact h
        | false =>
          have h := rport_nf x p g0 g1 g2 v w hz
          rw [show x.portC false p = x from rfl, show x.portV false p = 0 from rfl, show portO false p v = noS from by simp [portO, h32], show portB false p = false from by simp [portB, h32]]
          exact h
theorem wp_app {P : Program} (w : World) {o : Oper} {a : Act} {K : Act → World → Prop} {Q : Exit → Act → World → Prop} (s x : Operand) (t : TypeId)
    (ho : o.op = .call { callee := .builtin .append, args := #[s, x], argTypes := #[t, t] })
    (base : Nat) (e : TypeId) (i : TypeInfo) (z : Value) (size bytes : Nat) (ht : P.underlying t = some (.slice e)) (hi : P.info? e = some i) (hz : i.zero = some z)
    (hsize : i.size = size) (hby : i.bytes = bytes) (hzs : z.cells.size = size) (hsz : 0 < size)
    (v : Value) (n : Nat) (xs : List Value) (hsv : a.eval s = v) (hown : w.ownsRow base e size v n xs)
    (A : Option Addr) (m c : Nat) (news : List Value) (hx : a.eval x = .slice A m c) (hs : Sl w size A m news) (h1 : ∀ u ∈ news, u.oneCell' = true)
    (h63 : n + m ≤ maxLen) (hbytes : (n + m) * bytes ≤ 140737488355328) (hbase : base ≤ w.heap.size)
    (h : ∀ v' w', w'.ownsRow base e size v' (n + m) (xs ++ news) → w.grownBy w' v.ownBlock → K (a.put o.dst v') w') : o.wp P a w K Q := by
  obtain ⟨v', w', hr, h2, h3⟩ := run_app (P := P) w base t o.type e i z size bytes ht hi hz hsize hby hzs hsz v n xs hown A m c news hs h1 h63 hbytes hbase
  unfold Oper.wp execOp
  simp only [ho, resolve, invoke, builtin, Sem.run_bind, Sem.run_pure, Result.andThen_ok, List.map_toArray, List.map_cons, List.map_nil, hsv, hx, hr]
  exact h v' w' h2 h3
theorem to_str {w : World} {A : Option Addr} {n : Nat} {b : Wm.Bs} (h : Sl w 1 A n (U b)) (c : Nat) : (convert 29 9 (.slice A n c)).run Try.prog w = .ok (.string (strOfNums b)) w :=
  run_str (P := Try.prog) 29 9 5 Try.underlying29 Try.underlying5 Try.underlying9 h c
def GotBs (bs : Wm.Bs) (w : World) (e : Ending) (w' : World) : Prop := ∃ A n c, e = .returned (.slice A n c) ∧ n ≤ c ∧ c ≤ maxLen ∧ n = bs.length ∧ Sl w' 1 A n (U bs) ∧ Later w w'
/-- A console's encoding. -/
def encC (x : Cn) : Wm.Bs := Wm.encB (Wm.ofS x.s) ++ Wm.encI x.n
set_option maxRecDepth 100000 in
set_option maxHeartbeats 2000000 in
theorem enc_any (x : Cn) (w : World) (hz : x.s.size ≤ 100) (hn : i64 x.n) : Calls Try.prog 10 #[.agg x.cells.toArray] w (GotBs (encC x) w) := by
  obtain ⟨i0, hi, hz0, hz1, hz2⟩ := info_parts u8_info
  have hl1 := Wm.encI_len hn.1 hn.2
  have hl2 := Wm.encI_len (n := (x.s.size : Int)) (by omega) (by omega)
  have hl3 : (Wm.encB (Wm.ofS x.s)).length ≤ 110 := by
    unfold Wm.encB
    rw [List.length_append, Wm.ofS_length]
    omega
  have KB := Lib.hid fun w' => wireBytes_any x.s w' (by omega) (by omega)
  have KI := Lib.hid fun w' => wireInt_any x.n w' hn.1 hn.2
  clear hl2 hz hn
  have b1 := (Blk.new' w w.heap.size 23 (x.cells).toArray (x.cells) (by simp) rfl)
  have lw := (later1 w (.cells (x.cells).toArray 23))
  obtain ⟨u0, hu⟩ : ∃ u, (w.alloc (.cells (x.cells).toArray 23)) = u := ⟨_, rfl⟩
  rw [hu] at b1 lw
  go_enter Try.func10, Try.ntmps10
  go_upto_region 1 with fail
  have hu2 : (w.alloc (.cells (x.cells).toArray 23)) = u0 := hu
  try rw [hu2]
  clear hu hu2
  go_upto_region 1 with fail
  have HB := Lib.hid (fun w' (hl : Later u0.drew w') => b1.drew.keep hl)
  have lz := later0 u0.drew
  replace lw := lw.drew
  refine wp_region_held_drew (S := fun w' => w'.cell? ⟨w.heap.size, 0, none⟩ = some (.string x.s) ∧ w'.cell? ⟨w.heap.size, 1, none⟩ = some (.int .i64 x.n)) (by kernel_rfl) ⟨(HB.out _ lz).cell (cn_s x), (HB.out _ lz).cell (cn_n x)⟩ (fun hHeld => ?_)
  refine wpAnyH_take (i := 0) (oi := ⟨some 3, .fieldAddr 23 (.tmp 1) 0, _, _, _, none⟩) (v := .pointer (some ⟨w.heap.size, 0, none⟩)) rfl (by kernel_rfl) (by kernel_rfl) (by kernel_rfl) (fun _ _ _ h => h) (Or.inl ⟨by rfl, fun w _ => by go_simp⟩) hHeld ?_
  simp only [Act.put, List.setIfInBounds_toArray, List.set_cons_zero, List.set_cons_succ]
  refine wpAnyH_take (i := 1) (oi := ⟨some 4, .load 9 (.tmp 3), _, _, _, none⟩) (v := .string x.s) rfl (by kernel_rfl) (by kernel_rfl) (by kernel_rfl) (fun _ _ _ h => h) (Or.inl ⟨by rfl, fun w hSw => by have e1 := hSw.1; clear hSw; go_simp⟩) hHeld ?_
  simp only [Act.put, List.setIfInBounds_toArray, List.set_cons_zero, List.set_cons_succ]
  refine wpAnyH_take (i := 3) (oi := ⟨some 6, .fieldAddr 23 (.tmp 1) 1, _, _, _, none⟩) (v := .pointer (some ⟨w.heap.size, 1, none⟩)) rfl (by kernel_rfl) (by kernel_rfl) (by kernel_rfl) (fun _ _ _ h => h) (Or.inl ⟨by rfl, fun w _ => by go_simp⟩) hHeld ?_
  simp only [Act.put, List.setIfInBounds_toArray, List.set_cons_zero, List.set_cons_succ]
  refine wpAnyH_take (i := 4) (oi := ⟨some 7, .load 3 (.tmp 6), _, _, _, none⟩) (v := .int .i64 x.n) rfl (by kernel_rfl) (by kernel_rfl) (by kernel_rfl) (fun _ _ _ h => h) (Or.inl ⟨by rfl, fun w hSw => by have e1 := hSw.2; clear hSw; go_simp⟩) hHeld ?_
  simp only [Act.put, List.setIfInBounds_toArray, List.set_cons_zero, List.set_cons_succ]
  refine wpAnyH_ready (rs := [2]) (by kernel_rfl) (by simp) (AllReadyH.cons (o := ⟨some 5, .call { callee := .value (.func 18), args := #[.tmp 4], argTypes := #[9] }, _, _, _, none⟩) rfl (fun K' hK => ?_) (AllReadyH.nil))
  go_simp
  refine (KB.out _).mono ?_
  rintro e w1 ⟨v1, rfl, ho, l1⟩
  replace lz := Later.trans_ lz l1
  refine hK.out _ _ ⟨(HB.out _ lz).cell (cn_s x), (HB.out _ lz).cell (cn_n x)⟩ (fun hHeld => ?_)
  clear hK K'
  try simp only [Act.put, List.setIfInBounds_toArray, List.set_cons_zero, List.set_cons_succ]
  refine wpAnyH_ready (rs := [5]) (by kernel_rfl) (by simp) (AllReadyH.cons (o := ⟨some 8, .call { callee := .value (.func 19), args := #[.tmp 7], argTypes := #[3] }, _, _, _, none⟩) rfl (fun K' hK => ?_) (AllReadyH.nil))
  go_simp
  refine (made_as (KI.out _)).mono ?_
  rintro e w2 ⟨A2, c2, rfl, g1, g2, _, s2, l1⟩
  replace lz := Later.trans_ lz l1
  replace ho := own_below ho l1
  refine hK.out _ _ ⟨(HB.out _ lz).cell (cn_s x), (HB.out _ lz).cell (cn_n x)⟩ (fun hHeld => ?_)
  clear hK K'
  try simp only [Act.put, List.setIfInBounds_toArray, List.set_cons_zero, List.set_cons_succ]
  refine wpAnyH_ready (rs := [6]) (by kernel_rfl) (by simp) (AllReadyH.cons (o := ⟨some 9, .call { callee := .builtin .append, args := #[.tmp 5, .tmp 8], argTypes := #[29, 29] }, _, _, _, none⟩) rfl (fun K' hK => ?_) (AllReadyH.nil))
  refine wp_app _ _ _ 29 rfl u0.drew.heap.size 5 i0 (.int .u8 0) 1 1 Try.underlying29 hi hz0 hz1 hz2 rfl (by decide) v1 _ _ rfl ho A2 _ c2 (U (Wm.encI x.n)) rfl s2 (U_one _) (by unfold maxLen; omega) (by omega) lz.size ?_
  intro v3 w3 ho3 hg3
  replace lz := lz.grown hg3 lz.size (fun j hj => (ho.lt j hj).1)
  clear hg3 ho
  refine hK.out _ _ ⟨(HB.out _ lz).cell (cn_s x), (HB.out _ lz).cell (cn_n x)⟩ (fun hHeld => ?_)
  clear hK K'
  try simp only [Act.put, List.setIfInBounds_toArray, List.set_cons_zero, List.set_cons_succ]
  refine wpAnyH_take (i := 7) (oi := ⟨some 2, .assign (.tmp 9), _, _, _, none⟩) (v := v3) rfl (by kernel_rfl) (by kernel_rfl) (by kernel_rfl) (fun _ _ _ h => h) (Or.inl ⟨by rfl, fun _ _ => rfl⟩) hHeld ?_
  simp only [Act.put, List.setIfInBounds_toArray, List.set_cons_zero, List.set_cons_succ]
  refine wpAnyH_done (by kernel_rfl) ?_ _
  clear hHeld
  go_wp2
  go_ret
  have h9 := own_app ho3 rfl
  obtain ⟨A9, c9, rfl, k1, k2, k3, _⟩ := own_form h9
  exact ⟨A9, _, c9, rfl, k1, k2, rfl, k3, Later.trans_ lw lz⟩
set_option maxRecDepth 100000 in
set_option maxHeartbeats 2000000 in
theorem renc_any (x : Cn) (w : World) (hz : x.s.size ≤ 100) (hn : i64 x.n) : Calls Try.prog 11 #[.agg x.cells.toArray] w (GotBs (encC x) w) := by
  obtain ⟨i0, hi, hz0, hz1, hz2⟩ := info_parts u8_info
  have hl1 := Wm.encI_len hn.1 hn.2
  have hl2 := Wm.encI_len (n := (x.s.size : Int)) (by omega) (by omega)
  have hl3 : (Wm.encB (Wm.ofS x.s)).length ≤ 110 := by
    unfold Wm.encB
    rw [List.length_append, Wm.ofS_length]
    omega
  have KB := Lib.hid fun w' => refBytes_any x.s w' (by omega) (by omega)
  have KI := Lib.hid fun w' => refInt_any x.n w' hn.1 hn.2
  clear hl2 hz hn
  have b1 := (Blk.new' w w.heap.size 23 (x.cells).toArray (x.cells) (by simp) rfl)
  have lw := (later1 w (.cells (x.cells).toArray 23))
  obtain ⟨u0, hu⟩ : ∃ u, (w.alloc (.cells (x.cells).toArray 23)) = u := ⟨_, rfl⟩
  rw [hu] at b1 lw
  go_enter Try.func11, Try.ntmps11
  go_upto_region 1 with fail
  have hu2 : (w.alloc (.cells (x.cells).toArray 23)) = u0 := hu
  try rw [hu2]
  clear hu hu2
  go_upto_region 1 with fail
  have HB := Lib.hid (fun w' (hl : Later u0.drew w') => b1.drew.keep hl)
  have lz := later0 u0.drew
  replace lw := lw.drew
  refine wp_region_held_drew (S := fun w' => w'.cell? ⟨w.heap.size, 0, none⟩ = some (.string x.s) ∧ w'.cell? ⟨w.heap.size, 1, none⟩ = some (.int .i64 x.n)) (by kernel_rfl) ⟨(HB.out _ lz).cell (cn_s x), (HB.out _ lz).cell (cn_n x)⟩ (fun hHeld => ?_)
  refine wpAnyH_take (i := 0) (oi := ⟨some 3, .fieldAddr 23 (.tmp 1) 0, _, _, _, none⟩) (v := .pointer (some ⟨w.heap.size, 0, none⟩)) rfl (by kernel_rfl) (by kernel_rfl) (by kernel_rfl) (fun _ _ _ h => h) (Or.inl ⟨by rfl, fun w _ => by go_simp⟩) hHeld ?_
  simp only [Act.put, List.setIfInBounds_toArray, List.set_cons_zero, List.set_cons_succ]
  refine wpAnyH_take (i := 1) (oi := ⟨some 4, .load 9 (.tmp 3), _, _, _, none⟩) (v := .string x.s) rfl (by kernel_rfl) (by kernel_rfl) (by kernel_rfl) (fun _ _ _ h => h) (Or.inl ⟨by rfl, fun w hSw => by have e1 := hSw.1; clear hSw; go_simp⟩) hHeld ?_
  simp only [Act.put, List.setIfInBounds_toArray, List.set_cons_zero, List.set_cons_succ]
  refine wpAnyH_take (i := 3) (oi := ⟨some 6, .fieldAddr 23 (.tmp 1) 1, _, _, _, none⟩) (v := .pointer (some ⟨w.heap.size, 1, none⟩)) rfl (by kernel_rfl) (by kernel_rfl) (by kernel_rfl) (fun _ _ _ h => h) (Or.inl ⟨by rfl, fun w _ => by go_simp⟩) hHeld ?_
  simp only [Act.put, List.setIfInBounds_toArray, List.set_cons_zero, List.set_cons_succ]
  refine wpAnyH_take (i := 4) (oi := ⟨some 7, .load 3 (.tmp 6), _, _, _, none⟩) (v := .int .i64 x.n) rfl (by kernel_rfl) (by kernel_rfl) (by kernel_rfl) (fun _ _ _ h => h) (Or.inl ⟨by rfl, fun w hSw => by have e1 := hSw.2; clear hSw; go_simp⟩) hHeld ?_
  simp only [Act.put, List.setIfInBounds_toArray, List.set_cons_zero, List.set_cons_succ]
  refine wpAnyH_ready (rs := [2]) (by kernel_rfl) (by simp) (AllReadyH.cons (o := ⟨some 5, .call { callee := .value (.func 20), args := #[.tmp 4], argTypes := #[9] }, _, _, _, none⟩) rfl (fun K' hK => ?_) (AllReadyH.nil))
  go_simp
  refine (KB.out _).mono ?_
  rintro e w1 ⟨v1, rfl, ho, l1⟩
  replace lz := Later.trans_ lz l1
  refine hK.out _ _ ⟨(HB.out _ lz).cell (cn_s x), (HB.out _ lz).cell (cn_n x)⟩ (fun hHeld => ?_)
  clear hK K'
  try simp only [Act.put, List.setIfInBounds_toArray, List.set_cons_zero, List.set_cons_succ]
  refine wpAnyH_ready (rs := [5]) (by kernel_rfl) (by simp) (AllReadyH.cons (o := ⟨some 8, .call { callee := .value (.func 21), args := #[.tmp 7], argTypes := #[3] }, _, _, _, none⟩) rfl (fun K' hK => ?_) (AllReadyH.nil))
  go_simp
  refine (made_as (KI.out _)).mono ?_
  rintro e w2 ⟨A2, c2, rfl, g1, g2, _, s2, l1⟩
  replace lz := Later.trans_ lz l1
  replace ho := own_below ho l1
  refine hK.out _ _ ⟨(HB.out _ lz).cell (cn_s x), (HB.out _ lz).cell (cn_n x)⟩ (fun hHeld => ?_)
  clear hK K'
  try simp only [Act.put, List.setIfInBounds_toArray, List.set_cons_zero, List.set_cons_succ]
  refine wpAnyH_ready (rs := [6]) (by kernel_rfl) (by simp) (AllReadyH.cons (o := ⟨some 9, .call { callee := .builtin .append, args := #[.tmp 5, .tmp 8], argTypes := #[29, 29] }, _, _, _, none⟩) rfl (fun K' hK => ?_) (AllReadyH.nil))
  refine wp_app _ _ _ 29 rfl u0.drew.heap.size 5 i0 (.int .u8 0) 1 1 Try.underlying29 hi hz0 hz1 hz2 rfl (by decide) v1 _ _ rfl ho A2 _ c2 (U (Wm.encI x.n)) rfl s2 (U_one _) (by unfold maxLen; omega) (by omega) lz.size ?_
  intro v3 w3 ho3 hg3
  replace lz := lz.grown hg3 lz.size (fun j hj => (ho.lt j hj).1)
  clear hg3 ho
  refine hK.out _ _ ⟨(HB.out _ lz).cell (cn_s x), (HB.out _ lz).cell (cn_n x)⟩ (fun hHeld => ?_)
  clear hK K'
  try simp only [Act.put, List.setIfInBounds_toArray, List.set_cons_zero, List.set_cons_succ]
  refine wpAnyH_take (i := 7) (oi := ⟨some 2, .assign (.tmp 9), _, _, _, none⟩) (v := v3) rfl (by kernel_rfl) (by kernel_rfl) (by kernel_rfl) (fun _ _ _ h => h) (Or.inl ⟨by rfl, fun _ _ => rfl⟩) hHeld ?_
  simp only [Act.put, List.setIfInBounds_toArray, List.set_cons_zero, List.set_cons_succ]
  refine wpAnyH_done (by kernel_rfl) ?_ _
  clear hHeld
  go_wp2
  go_ret
  have h9 := own_app ho3 rfl
  obtain ⟨A9, c9, rfl, k1, k2, k3, _⟩ := own_form h9
  exact ⟨A9, _, c9, rfl, k1, k2, rfl, k3, Later.trans_ lw lz⟩
end Go.Proofs.Ytkhgaikfomcjeaa
