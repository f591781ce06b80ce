/-
  THE STATEMENT MemoryStoresAsSpecified: Valid, Size, Load and Store answer as the specification does, for every memory of at most 80 pages, address, size and store.
-/
import Derived.Test.YtaihfkcoiagdaaaMemN
namespace Go.Proofs.Ytaihfkcoiagdaaa
open Go.RowKit Go.ChangeShapes Go.WideShapes Go.ChangeAt

set_option maxRecDepth 100000 in
theorem stores_big (A : Option Addr) (n c : Nat) (at_ size : Int) (a s v : Int) (w : World) (h : 80 < n) :
    Calls Try.prog 3 #[.agg #[.slice A n c], .int .i64 at_, .int .i64 size, .agg #[.int .i64 a, .int .i64 s, .int .u32 v]] w fun e w' => e = .returned (.bool true) ∧ Later w w' := by
  have HN := Lib.hid fun w' => sanity_any w'
  have h2 : (80 : Int) < (n : Int) := by omega
  go_enter Try.func3, Try.ntmps3
  go_wp2_with (first
    | (go_at_call 9; refine (HN.out _).mono ?_; rintro e w2 ⟨rfl, l2⟩))
  go_ret
  exact ⟨rfl, Later.trans_ ((later1 _ _).alloc (by simp) _) l2⟩

set_option maxRecDepth 100000 in
set_option maxHeartbeats 2000000 in
theorem stores_bad (A : Option Addr) (n c : Nat) (at_ size : Int) (a s v : Int) (w : World) (h0 : n ≤ 80) (h : ¬ (1 ≤ n ∧ n ≤ 64)) :
    Calls Try.prog 3 #[.agg #[.slice A n c], .int .i64 at_, .int .i64 size, .agg #[.int .i64 a, .int .i64 s, .int .u32 v]] w fun e w' => e = .returned (.bool true) ∧ Later w w' := by
  have HN := Lib.hid fun w' => sanity_any w'
  have HV := Lib.hid fun w' => valid_any A n c w'
  have HRV := Lib.hid fun w' => rvalid_any A n c w'
  rw [decide_eq_false h] at HV HRV
  have h2 : ¬ (80 : Int) < (n : Int) := by omega
  obtain ⟨q, hq⟩ : ∃ q, q = false := ⟨_, rfl⟩
  rw [← hq] at HV HRV
  have HQ := Lib.hid hq
  clear h hq
  have b4 := ((Blk.new w 24 #[.slice A n c] [.slice A n c] rfl).alloc (.cells #[.int .i64 a, .int .i64 s, .int .u32 v] 27)).drew
  have b7 := (Blk.new' (w.alloc (.cells #[.slice A n c] 24)) (w.heap.size + 1) 27 #[.int .i64 a, .int .i64 s, .int .u32 v] [.int .i64 a, .int .i64 s, .int .u32 v] (by simp) rfl).drew
  have lw : Later w ((w.alloc (.cells #[.slice A n c] 24)).alloc (.cells #[.int .i64 a, .int .i64 s, .int .u32 v] 27)).drew := ((later1 w _).alloc (by simp) _).drew
  go_enter Try.func3, Try.ntmps3
  go_wp2
  refine wp_region_held_drew (S := fun w' => w'.cell? ⟨w.heap.size, 0, none⟩ = some (.slice A n c)) (by kernel_rfl) (b4.cell rfl) (fun hHeld => ?_)
  refine wpAnyH_take (i := 0) (oi := ⟨some 20, .load 24 (.tmp 4), _, _, _, none⟩) (v := .agg #[.slice A n c]) rfl (by kernel_rfl) (by kernel_rfl) (by kernel_rfl) (fun _ _ _ h => h) (yieldsIf_load_mid (by rfl) _ _ rfl _ _ rfl _ _ (fun w h => range1 h) Try.underlying24 rfl mem_sz) hHeld ?_
  simp only [Act.put, List.setIfInBounds_toArray, List.set_cons_zero, List.set_cons_succ]
  refine wpAnyH_take (i := 2) (oi := ⟨some 22, .load 24 (.tmp 4), _, _, _, none⟩) (v := .agg #[.slice A n c]) rfl (by kernel_rfl) (by kernel_rfl) (by kernel_rfl) (fun _ _ _ h => h) (yieldsIf_load_mid (by rfl) _ _ rfl _ _ rfl _ _ (fun w h => range1 h) Try.underlying24 rfl mem_sz) hHeld ?_
  simp only [Act.put, List.setIfInBounds_toArray, List.set_cons_zero, List.set_cons_succ]
  refine wpAnyH_ready (rs := [1]) (by kernel_rfl) (by simp) (AllReadyH.cons (o := ⟨some 21, .call { callee := .value (.func 10), args := #[.tmp 20], argTypes := #[24] }, _, _, _, none⟩) rfl (fun K' hK => ?_) (AllReadyH.nil))
  go_simp
  refine (HV.out _).mono ?_
  rintro e v1 ⟨rfl, k1⟩
  replace b4 := b4.keep k1
  replace b7 := b7.keep k1
  replace lw := Later.trans_ lw k1
  refine hK.out _ _ (b4.cell rfl) (fun hHeld => ?_)
  clear hK K'
  try simp only [Act.put, List.setIfInBounds_toArray, List.set_cons_zero, List.set_cons_succ]
  refine wpAnyH_ready (rs := [3]) (by kernel_rfl) (by simp) (AllReadyH.cons (o := ⟨some 23, .call { callee := .value (.func 11), args := #[.tmp 22], argTypes := #[24] }, _, _, _, none⟩) rfl (fun K' hK => ?_) (AllReadyH.nil))
  go_simp
  refine (HRV.out _).mono ?_
  rintro e v2 ⟨rfl, k2⟩
  replace b4 := b4.keep k2
  replace b7 := b7.keep k2
  replace lw := Later.trans_ lw k2
  refine hK.out _ _ (b4.cell rfl) (fun hHeld => ?_)
  clear hK K'
  try simp only [Act.put, List.setIfInBounds_toArray, List.set_cons_zero, List.set_cons_succ]
  refine wpAnyH_take (i := 4) (oi := ⟨some 24, .binOp .neq 4 (.tmp 21) (.tmp 23) 4, _, _, _, none⟩) (v := .bool false) rfl (by kernel_rfl) (by kernel_rfl) (by kernel_rfl) (fun _ _ _ h => h) (Or.inl ⟨by rfl, fun w _ => by go_simp⟩) hHeld ?_
  simp only [Act.put, List.setIfInBounds_toArray, List.set_cons_zero, List.set_cons_succ]
  refine wpAnyH_done (by kernel_rfl) ?_ _
  clear hHeld
  rw [HQ.out]
  have c4 := b4.cell (j := 0) (v := .slice A n c) rfl
  go_wp2_with (first
    | (go_at_call 11; refine (HRV.out _).mono ?_; rintro e w1 ⟨rfl, l1⟩; rw [HQ.out]; replace lw := Later.trans_ lw l1)
    | (go_at_call 9; refine (HN.out _).mono ?_; rintro e w2 ⟨rfl, l2⟩))
  go_ret
  exact ⟨rfl, Later.trans_ lw l2⟩

set_option maxRecDepth 100000 in
set_option maxHeartbeats 4000000 in
theorem stores_any (A : Option Addr) (n c : Nat) (at_ size : Int) (a s v : Int) (w : World) (b : Wm.Bs) (hs : Sl w 128 A n (U b)) (hb : Wm.isBs b) (hnc : n ≤ c) (hc : c ≤ maxLen) (h1 : 1 ≤ n ∧ n ≤ 64) (hw : isW (a, s, v)) (hat : -9223372036854775808 ≤ at_ ∧ at_ ≤ 9223372036854775807) :
    Calls Try.prog 3 #[.agg #[.slice A n c], .int .i64 at_, .int .i64 size, .agg #[.int .i64 a, .int .i64 s, .int .u32 v]] w fun e w' => e = .returned (.bool true) ∧ Later w w' := by
  have HN := Lib.hid fun w' => sanity_any w'
  have HV := Lib.hid fun w' => valid_any A n c w'
  have HRV := Lib.hid fun w' => rvalid_any A n c w'
  rw [decide_eq_true h1] at HV HRV
  have h2 : ¬ (80 : Int) < (n : Int) := by omega
  have KB := Lib.hid fun w' (hl : Later w w') => load_any A n c at_ size b w' (hs.keep hl) hb h1.1 h1.2 hat
  have KRB := Lib.hid fun w' (hl : Later w w') => rload_any A n c at_ size b w' (hs.keep hl) hb h1.2 hat
  have KS := Lib.hid fun w' (hl : Later w w') => pstore_any A n c a s v b w' (hs.keep hl) hb h1.1 h1.2 hw
  have KRS := Lib.hid fun w' (hl : Later w w') => rstore_any A n c a s v b w' (hs.keep hl) h1.1 h1.2 hnc hc hw
  have HZ := Lib.hid fun w' => size_any A n c w' h1.2
  have HRZ := Lib.hid fun w' => rsize_any A n c w' h1.2
  obtain ⟨M, hM⟩ : ∃ M, M = Mm.st b a s v := ⟨_, rfl⟩
  obtain ⟨L, hL⟩ : ∃ L, L = n * 128 := ⟨_, rfl⟩
  rw [← hL] at HZ HRZ KB KRB KS KRS
  rw [← hM] at KS KRS
  have HSM := Lib.hid fun g c' A2 c2 w' (h : Sl w' 128 (some ⟨g, 0, none⟩) n (U M)) (h2 : Sl w' 128 A2 n (U M)) => same_any (some ⟨g, 0, none⟩) n c' A2 n c2 M M w' h h2 h1.2 h1.2
  rw [decide_eq_true (rfl : M = M)] at HSM
  obtain ⟨X, hX⟩ : ∃ X, X = Mm.ld b at_ size := ⟨_, rfl⟩
  rw [← hX] at KB KRB
  obtain ⟨r, hr⟩ : ∃ r, r = decide (Mm.There L at_ size) := ⟨_, rfl⟩
  obtain ⟨p, hp⟩ : ∃ p, p = decide (Mm.There L a s) := ⟨_, rfl⟩
  rw [← hr] at KB KRB
  rw [← hp] at KS KRS
  obtain ⟨q, hq⟩ : ∃ q, q = true := ⟨_, rfl⟩
  rw [← hq] at HV HRV
  have HQ := Lib.hid hq
  clear hs hb hnc hc h1 hw hat hM hL hX hr hp hq
  have b4 := ((Blk.new w 24 #[.slice A n c] [.slice A n c] rfl).alloc (.cells #[.int .i64 a, .int .i64 s, .int .u32 v] 27)).drew
  have b7 := (Blk.new' (w.alloc (.cells #[.slice A n c] 24)) (w.heap.size + 1) 27 #[.int .i64 a, .int .i64 s, .int .u32 v] [.int .i64 a, .int .i64 s, .int .u32 v] (by simp) rfl).drew
  have lw : Later w ((w.alloc (.cells #[.slice A n c] 24)).alloc (.cells #[.int .i64 a, .int .i64 s, .int .u32 v] 27)).drew := ((later1 w _).alloc (by simp) _).drew
  go_enter Try.func3, Try.ntmps3
  go_wp2
  refine wp_region_held_drew (S := fun w' => w'.cell? ⟨w.heap.size, 0, none⟩ = some (.slice A n c)) (by kernel_rfl) (b4.cell rfl) (fun hHeld => ?_)
  refine wpAnyH_take (i := 0) (oi := ⟨some 20, .load 24 (.tmp 4), _, _, _, none⟩) (v := .agg #[.slice A n c]) rfl (by kernel_rfl) (by kernel_rfl) (by kernel_rfl) (fun _ _ _ h => h) (yieldsIf_load_mid (by rfl) _ _ rfl _ _ rfl _ _ (fun w h => range1 h) Try.underlying24 rfl mem_sz) hHeld ?_
  simp only [Act.put, List.setIfInBounds_toArray, List.set_cons_zero, List.set_cons_succ]
  refine wpAnyH_take (i := 2) (oi := ⟨some 22, .load 24 (.tmp 4), _, _, _, none⟩) (v := .agg #[.slice A n c]) rfl (by kernel_rfl) (by kernel_rfl) (by kernel_rfl) (fun _ _ _ h => h) (yieldsIf_load_mid (by rfl) _ _ rfl _ _ rfl _ _ (fun w h => range1 h) Try.underlying24 rfl mem_sz) hHeld ?_
  simp only [Act.put, List.setIfInBounds_toArray, List.set_cons_zero, List.set_cons_succ]
  refine wpAnyH_ready (rs := [1]) (by kernel_rfl) (by simp) (AllReadyH.cons (o := ⟨some 21, .call { callee := .value (.func 10), args := #[.tmp 20], argTypes := #[24] }, _, _, _, none⟩) rfl (fun K' hK => ?_) (AllReadyH.nil))
  go_simp
  refine (HV.out _).mono ?_
  rintro e v1 ⟨rfl, k1⟩
  replace b4 := b4.keep k1
  replace b7 := b7.keep k1
  replace lw := Later.trans_ lw k1
  refine hK.out _ _ (b4.cell rfl) (fun hHeld => ?_)
  clear hK K'
  try simp only [Act.put, List.setIfInBounds_toArray, List.set_cons_zero, List.set_cons_succ]
  refine wpAnyH_ready (rs := [3]) (by kernel_rfl) (by simp) (AllReadyH.cons (o := ⟨some 23, .call { callee := .value (.func 11), args := #[.tmp 22], argTypes := #[24] }, _, _, _, none⟩) rfl (fun K' hK => ?_) (AllReadyH.nil))
  go_simp
  refine (HRV.out _).mono ?_
  rintro e v2 ⟨rfl, k2⟩
  replace b4 := b4.keep k2
  replace b7 := b7.keep k2
  replace lw := Later.trans_ lw k2
  refine hK.out _ _ (b4.cell rfl) (fun hHeld => ?_)
  clear hK K'
  try simp only [Act.put, List.setIfInBounds_toArray, List.set_cons_zero, List.set_cons_succ]
  refine wpAnyH_take (i := 4) (oi := ⟨some 24, .binOp .neq 4 (.tmp 21) (.tmp 23) 4, _, _, _, none⟩) (v := .bool false) rfl (by kernel_rfl) (by kernel_rfl) (by kernel_rfl) (fun _ _ _ h => h) (Or.inl ⟨by rfl, fun w _ => by go_simp⟩) hHeld ?_
  simp only [Act.put, List.setIfInBounds_toArray, List.set_cons_zero, List.set_cons_succ]
  refine wpAnyH_done (by kernel_rfl) ?_ _
  clear hHeld
  rw [HQ.out]
  have c4 := b4.cell (j := 0) (v := .slice A n c) rfl
  go_wp2_with (first
    | (go_at_call 11; refine (HRV.out _).mono ?_; rintro e w1 ⟨rfl, l1⟩; rw [HQ.out]; clear c4; replace b4 := b4.keep l1; replace b7 := b7.keep l1; replace lw := Later.trans_ lw l1; have c4 := b4.cell (j := 0) (v := .slice A n c) rfl)
    | (go_at_call 12; refine (KB.out _ lw).mono ?_; rintro e w2 ⟨rfl, l2⟩; clear c4; replace b4 := b4.keep l2; replace b7 := b7.keep l2; replace lw := Later.trans_ lw l2; have c4 := b4.cell (j := 0) (v := .slice A n c) rfl; have c70 := b7.cell (j := 0) (v := .int .i64 a) rfl; have c71 := b7.cell (j := 1) (v := .int .i64 s) rfl; have c72 := b7.cell (j := 2) (v := .int .u32 v) rfl)
    | (go_at_call 13; refine (KS.out _ lw).mono ?_; rintro e w3 ⟨g, c', rfl, _, _, _, dx, l3⟩; replace b4 := b4.keep l3; replace b7 := b7.keep l3; replace lw := Later.trans_ lw l3; clear c4 c70 c71 c72; have c4 := b4.cell (j := 0) (v := .slice A n c) rfl; have c70 := b7.cell (j := 0) (v := .int .i64 a) rfl; have c71 := b7.cell (j := 1) (v := .int .i64 s) rfl; have c72 := b7.cell (j := 2) (v := .int .u32 v) rfl; replace b4 := b4.keep (later1 w3 (.cells #[.slice (some ⟨g, 0, none⟩) n c'] 24)); replace b7 := b7.keep (later1 w3 (.cells #[.slice (some ⟨g, 0, none⟩) n c'] 24)); replace lw := Later.trans_ lw (later1 w3 (.cells #[.slice (some ⟨g, 0, none⟩) n c'] 24)); clear c4 c70 c71 c72; have c4 := b4.cell (j := 0) (v := .slice A n c) rfl; have c70 := b7.cell (j := 0) (v := .int .i64 a) rfl; have c71 := b7.cell (j := 1) (v := .int .i64 s) rfl; have c72 := b7.cell (j := 2) (v := .int .u32 v) rfl; replace dx := dx.keep (later1 w3 (.cells #[.slice (some ⟨g, 0, none⟩) n c'] 24)); have b11 := Blk.new w3 24 #[.slice (some ⟨g, 0, none⟩) n c'] [.slice (some ⟨g, 0, none⟩) n c'] rfl)
    | (go_at_call 14; refine (KRB.out _ lw).mono ?_; rintro e w4 ⟨rfl, l4⟩; replace b4 := b4.keep l4; replace b7 := b7.keep l4; replace b11 := b11.keep l4; replace dx := dx.keep l4; replace lw := Later.trans_ lw l4; clear c4 c70 c71 c72; have c4 := b4.cell (j := 0) (v := .slice A n c) rfl; have c70 := b7.cell (j := 0) (v := .int .i64 a) rfl; have c71 := b7.cell (j := 1) (v := .int .i64 s) rfl; have c72 := b7.cell (j := 2) (v := .int .u32 v) rfl; replace b4 := b4.keep (later1 w4 (.cells #[.int .u32 X, .bool r] 35)); replace b7 := b7.keep (later1 w4 (.cells #[.int .u32 X, .bool r] 35)); replace b11 := b11.keep (later1 w4 (.cells #[.int .u32 X, .bool r] 35)); replace dx := dx.keep (later1 w4 (.cells #[.int .u32 X, .bool r] 35)); replace lw := Later.trans_ lw (later1 w4 (.cells #[.int .u32 X, .bool r] 35)); clear c4 c70 c71 c72; have c4 := b4.cell (j := 0) (v := .slice A n c) rfl; have c70 := b7.cell (j := 0) (v := .int .i64 a) rfl; have c71 := b7.cell (j := 1) (v := .int .i64 s) rfl; have c72 := b7.cell (j := 2) (v := .int .u32 v) rfl; have b13 := Blk.new w4 35 #[.int .u32 X, .bool r] [.int .u32 X, .bool r] rfl)
    | (go_at_call 15; refine (KRS.out _ lw).mono ?_; rintro e w5 ⟨A2, c2, rfl, _, _, s2, l5⟩; replace b4 := b4.keep l5; replace b7 := b7.keep l5; replace b11 := b11.keep l5; replace dx := dx.keep l5; replace b13 := b13.keep l5; replace lw := Later.trans_ lw l5; clear c4 c70 c71 c72; have c4 := b4.cell (j := 0) (v := .slice A n c) rfl; have c70 := b7.cell (j := 0) (v := .int .i64 a) rfl; have c71 := b7.cell (j := 1) (v := .int .i64 s) rfl; have c72 := b7.cell (j := 2) (v := .int .u32 v) rfl; replace b4 := b4.keep (later1 w5 (.cells #[.slice A2 n c2, .bool p] 38)); replace b7 := b7.keep (later1 w5 (.cells #[.slice A2 n c2, .bool p] 38)); replace b11 := b11.keep (later1 w5 (.cells #[.slice A2 n c2, .bool p] 38)); replace dx := dx.keep (later1 w5 (.cells #[.slice A2 n c2, .bool p] 38)); replace b13 := b13.keep (later1 w5 (.cells #[.slice A2 n c2, .bool p] 38)); replace lw := Later.trans_ lw (later1 w5 (.cells #[.slice A2 n c2, .bool p] 38)); clear c4 c70 c71 c72; have c4 := b4.cell (j := 0) (v := .slice A n c) rfl; have c70 := b7.cell (j := 0) (v := .int .i64 a) rfl; have c71 := b7.cell (j := 1) (v := .int .i64 s) rfl; have c72 := b7.cell (j := 2) (v := .int .u32 v) rfl; replace s2 := s2.keep (later1 w5 (.cells #[.slice A2 n c2, .bool p] 38)); have b14 := Blk.new w5 38 #[.slice A2 n c2, .bool p] [.slice A2 n c2, .bool p] rfl))
  clear c4 c70 c71 c72
  replace b4 := b4.drew; replace b11 := b11.drew; replace b13 := b13.drew; replace b14 := b14.drew; replace lw := lw.drew; replace dx := dx.drew; replace s2 := s2.drew
  obtain ⟨B11, hB11⟩ : ∃ B, B = w3.heap.size := ⟨_, rfl⟩
  obtain ⟨B13, hB13⟩ : ∃ B, B = w4.heap.size := ⟨_, rfl⟩
  obtain ⟨B14, hB14⟩ : ∃ B, B = w5.heap.size := ⟨_, rfl⟩
  rw [← hB11] at b11 ⊢
  rw [← hB13] at b13 ⊢
  rw [← hB14] at b14 ⊢
  clear hB11 hB13 hB14
  refine wp_region_held_drew (S := fun w' => w'.cell? ⟨w.heap.size, 0, none⟩ = some (.slice A n c) ∧ w'.cell? ⟨B11, 0, none⟩ = some (.slice (some ⟨g, 0, none⟩) n c') ∧ w'.cell? ⟨B13, 0, none⟩ = some (.int .u32 X) ∧ w'.cell? ⟨B13, 1, none⟩ = some (.bool r) ∧ w'.cell? ⟨B14, 0, none⟩ = some (.slice A2 n c2) ∧ w'.cell? ⟨B14, 1, none⟩ = some (.bool p)) (by kernel_rfl) ⟨b4.cell rfl, b11.cell rfl, b13.cell rfl, b13.cell rfl, b14.cell rfl, b14.cell rfl⟩ (fun hHeld => ?_)
  refine wpAnyH_ready (rs := [0]) (by kernel_rfl) (by simp) (AllReadyH.cons (o := ⟨some 49, .call { callee := .value (.func 9), args := #[], argTypes := #[] }, _, _, _, none⟩) rfl (fun K' hK => ?_) (AllReadyH.nil))
  go_simp
  refine (HN.out _).mono ?_
  rintro e x1 ⟨rfl, k1⟩
  replace b4 := b4.keep k1
  replace b11 := b11.keep k1
  replace b13 := b13.keep k1
  replace b14 := b14.keep k1
  replace dx := dx.keep k1
  replace s2 := s2.keep k1
  replace lw := Later.trans_ lw k1
  refine hK.out _ _ ⟨b4.cell rfl, b11.cell rfl, b13.cell rfl, b13.cell rfl, b14.cell rfl, b14.cell rfl⟩ (fun hHeld => ?_)
  clear hK K'
  try simp only [Act.put, List.setIfInBounds_toArray, List.set_cons_zero, List.set_cons_succ]
  refine wpAnyH_take (i := 1) (oi := ⟨some 50, .move (.tmp 49), _, _, _, none⟩) (v := .bool true) rfl (by kernel_rfl) (by kernel_rfl) (by kernel_rfl) (fun _ _ _ h => h) (Or.inl ⟨by rfl, fun _ _ => rfl⟩) hHeld ?_
  simp only [Act.put, List.setIfInBounds_toArray, List.set_cons_zero, List.set_cons_succ]
  refine wpAnyH_take (i := 2) (oi := ⟨some 51, .load 24 (.tmp 4), _, _, _, _⟩) (v := .agg #[.slice A n c]) rfl (by kernel_rfl) (by kernel_rfl) (by kernel_rfl) (fun _ _ _ h => h) (yieldsIf_load_mid (by rfl) _ _ rfl _ _ rfl _ _ (fun w h => range1 h.1) Try.underlying24 rfl mem_sz) hHeld ?_
  simp only [Act.put, List.setIfInBounds_toArray, List.set_cons_zero, List.set_cons_succ]
  refine wpAnyH_take (i := 4) (oi := ⟨some 53, .load 24 (.tmp 4), _, _, _, _⟩) (v := .agg #[.slice A n c]) rfl (by kernel_rfl) (by kernel_rfl) (by kernel_rfl) (fun _ _ _ h => h) (yieldsIf_load_mid (by rfl) _ _ rfl _ _ rfl _ _ (fun w h => range1 h.1) Try.underlying24 rfl mem_sz) hHeld ?_
  simp only [Act.put, List.setIfInBounds_toArray, List.set_cons_zero, List.set_cons_succ]
  refine wpAnyH_ready (rs := [3]) (by kernel_rfl) (by simp) (AllReadyH.cons (o := ⟨some 52, .call { callee := .value (.func 16), args := #[.tmp 51], argTypes := #[24] }, _, _, _, _⟩) rfl (fun K' hK => ?_) (AllReadyH.nil))
  go_simp
  refine (HZ.out _).mono ?_
  rintro e x2 ⟨rfl, k2⟩
  replace b4 := b4.keep k2
  replace b11 := b11.keep k2
  replace b13 := b13.keep k2
  replace b14 := b14.keep k2
  replace dx := dx.keep k2
  replace s2 := s2.keep k2
  replace lw := Later.trans_ lw k2
  refine hK.out _ _ ⟨b4.cell rfl, b11.cell rfl, b13.cell rfl, b13.cell rfl, b14.cell rfl, b14.cell rfl⟩ (fun hHeld => ?_)
  clear hK K'
  try simp only [Act.put, List.setIfInBounds_toArray, List.set_cons_zero, List.set_cons_succ]
  refine wpAnyH_ready (rs := [5]) (by kernel_rfl) (by simp) (AllReadyH.cons (o := ⟨some 54, .call { callee := .value (.func 17), args := #[.tmp 53], argTypes := #[24] }, _, _, _, _⟩) rfl (fun K' hK => ?_) (AllReadyH.nil))
  go_simp
  refine (HRZ.out _).mono ?_
  rintro e x3 ⟨rfl, k3⟩
  replace b4 := b4.keep k3
  replace b11 := b11.keep k3
  replace b13 := b13.keep k3
  replace b14 := b14.keep k3
  replace dx := dx.keep k3
  replace s2 := s2.keep k3
  replace lw := Later.trans_ lw k3
  refine hK.out _ _ ⟨b4.cell rfl, b11.cell rfl, b13.cell rfl, b13.cell rfl, b14.cell rfl, b14.cell rfl⟩ (fun hHeld => ?_)
  clear hK K'
  try simp only [Act.put, List.setIfInBounds_toArray, List.set_cons_zero, List.set_cons_succ]
  refine wpAnyH_take (i := 6) (oi := ⟨some 55, .binOp .eql 3 (.tmp 52) (.tmp 54) 3, _, _, _, _⟩) (v := .bool true) rfl (by kernel_rfl) (by kernel_rfl) (by kernel_rfl) (fun _ _ _ h => h) (Or.inl ⟨by rfl, fun w _ => by go_simp⟩) hHeld ?_
  simp only [Act.put, List.setIfInBounds_toArray, List.set_cons_zero, List.set_cons_succ]
  refine wpAnyH_take (i := 7) (oi := ⟨some 56, .pick (.tmp 50) (.tmp 55) (.const (.bool false)), _, _, _, none⟩) (v := .bool true) rfl (by kernel_rfl) (by kernel_rfl) (by kernel_rfl) (fun _ _ _ h => h) (Or.inl ⟨by rfl, fun w _ => by go_simp⟩) hHeld ?_
  simp only [Act.put, List.setIfInBounds_toArray, List.set_cons_zero, List.set_cons_succ]
  refine wpAnyH_take (i := 8) (oi := ⟨some 57, .move (.tmp 56), _, _, _, none⟩) (v := .bool true) rfl (by kernel_rfl) (by kernel_rfl) (by kernel_rfl) (fun _ _ _ h => h) (Or.inl ⟨by rfl, fun _ _ => rfl⟩) hHeld ?_
  simp only [Act.put, List.setIfInBounds_toArray, List.set_cons_zero, List.set_cons_succ]
  refine wpAnyH_take (i := 9) (oi := ⟨some 58, .move (.tmp 9), _, _, _, _⟩) (v := .int .u32 X) rfl (by kernel_rfl) (by kernel_rfl) (by kernel_rfl) (fun _ _ _ h => h) (Or.inl ⟨by rfl, fun _ _ => rfl⟩) hHeld ?_
  simp only [Act.put, List.setIfInBounds_toArray, List.set_cons_zero, List.set_cons_succ]
  refine wpAnyH_take (i := 10) (oi := ⟨some 59, .fieldAddr 35 (.tmp 13) 0, _, _, _, _⟩) (v := .pointer (some ⟨B13, 0, none⟩)) rfl (by kernel_rfl) (by kernel_rfl) (by kernel_rfl) (fun _ _ _ h => h) (Or.inl ⟨by rfl, fun w _ => by go_simp⟩) hHeld ?_
  simp only [Act.put, List.setIfInBounds_toArray, List.set_cons_zero, List.set_cons_succ]
  refine wpAnyH_take (i := 11) (oi := ⟨some 60, .load 25 (.tmp 59), _, _, _, _⟩) (v := .int .u32 X) rfl (by kernel_rfl) (by kernel_rfl) (by kernel_rfl) (fun _ _ _ h => h) (Or.inl ⟨by rfl, fun w hSw => by have e1 := hSw.2.2.1; clear hSw; go_simp⟩) hHeld ?_
  simp only [Act.put, List.setIfInBounds_toArray, List.set_cons_zero, List.set_cons_succ]
  refine wpAnyH_take (i := 12) (oi := ⟨some 61, .binOp .eql 25 (.tmp 58) (.tmp 60) 25, _, _, _, _⟩) (v := .bool true) rfl (by kernel_rfl) (by kernel_rfl) (by kernel_rfl) (fun _ _ _ h => h) (Or.inl ⟨by rfl, fun w _ => by go_simp⟩) hHeld ?_
  simp only [Act.put, List.setIfInBounds_toArray, List.set_cons_zero, List.set_cons_succ]
  refine wpAnyH_take (i := 13) (oi := ⟨some 62, .pick (.tmp 57) (.tmp 61) (.const (.bool false)), _, _, _, none⟩) (v := .bool true) rfl (by kernel_rfl) (by kernel_rfl) (by kernel_rfl) (fun _ _ _ h => h) (Or.inl ⟨by rfl, fun w _ => by go_simp⟩) hHeld ?_
  simp only [Act.put, List.setIfInBounds_toArray, List.set_cons_zero, List.set_cons_succ]
  refine wpAnyH_take (i := 14) (oi := ⟨some 63, .move (.tmp 62), _, _, _, none⟩) (v := .bool true) rfl (by kernel_rfl) (by kernel_rfl) (by kernel_rfl) (fun _ _ _ h => h) (Or.inl ⟨by rfl, fun _ _ => rfl⟩) hHeld ?_
  simp only [Act.put, List.setIfInBounds_toArray, List.set_cons_zero, List.set_cons_succ]
  refine wpAnyH_take (i := 15) (oi := ⟨some 64, .move (.tmp 10), _, _, _, _⟩) (v := .bool r) rfl (by kernel_rfl) (by kernel_rfl) (by kernel_rfl) (fun _ _ _ h => h) (Or.inl ⟨by rfl, fun _ _ => rfl⟩) hHeld ?_
  simp only [Act.put, List.setIfInBounds_toArray, List.set_cons_zero, List.set_cons_succ]
  refine wpAnyH_take (i := 16) (oi := ⟨some 65, .fieldAddr 35 (.tmp 13) 1, _, _, _, _⟩) (v := .pointer (some ⟨B13, 1, none⟩)) rfl (by kernel_rfl) (by kernel_rfl) (by kernel_rfl) (fun _ _ _ h => h) (Or.inl ⟨by rfl, fun w _ => by go_simp⟩) hHeld ?_
  simp only [Act.put, List.setIfInBounds_toArray, List.set_cons_zero, List.set_cons_succ]
  refine wpAnyH_take (i := 17) (oi := ⟨some 66, .load 4 (.tmp 65), _, _, _, _⟩) (v := .bool r) rfl (by kernel_rfl) (by kernel_rfl) (by kernel_rfl) (fun _ _ _ h => h) (Or.inl ⟨by rfl, fun w hSw => by have e1 := hSw.2.2.2.1; clear hSw; go_simp⟩) hHeld ?_
  simp only [Act.put, List.setIfInBounds_toArray, List.set_cons_zero, List.set_cons_succ]
  refine wpAnyH_take (i := 18) (oi := ⟨some 67, .binOp .eql 4 (.tmp 64) (.tmp 66) 4, _, _, _, _⟩) (v := .bool true) rfl (by kernel_rfl) (by kernel_rfl) (by kernel_rfl) (fun _ _ _ h => h) (Or.inl ⟨by rfl, fun w _ => by go_simp⟩) hHeld ?_
  simp only [Act.put, List.setIfInBounds_toArray, List.set_cons_zero, List.set_cons_succ]
  refine wpAnyH_take (i := 19) (oi := ⟨some 68, .pick (.tmp 63) (.tmp 67) (.const (.bool false)), _, _, _, none⟩) (v := .bool true) rfl (by kernel_rfl) (by kernel_rfl) (by kernel_rfl) (fun _ _ _ h => h) (Or.inl ⟨by rfl, fun w _ => by go_simp⟩) hHeld ?_
  simp only [Act.put, List.setIfInBounds_toArray, List.set_cons_zero, List.set_cons_succ]
  refine wpAnyH_take (i := 20) (oi := ⟨some 69, .move (.tmp 68), _, _, _, none⟩) (v := .bool true) rfl (by kernel_rfl) (by kernel_rfl) (by kernel_rfl) (fun _ _ _ h => h) (Or.inl ⟨by rfl, fun _ _ => rfl⟩) hHeld ?_
  simp only [Act.put, List.setIfInBounds_toArray, List.set_cons_zero, List.set_cons_succ]
  refine wpAnyH_take (i := 21) (oi := ⟨some 70, .move (.tmp 12), _, _, _, _⟩) (v := .bool p) rfl (by kernel_rfl) (by kernel_rfl) (by kernel_rfl) (fun _ _ _ h => h) (Or.inl ⟨by rfl, fun _ _ => rfl⟩) hHeld ?_
  simp only [Act.put, List.setIfInBounds_toArray, List.set_cons_zero, List.set_cons_succ]
  refine wpAnyH_take (i := 22) (oi := ⟨some 71, .fieldAddr 38 (.tmp 14) 1, _, _, _, _⟩) (v := .pointer (some ⟨B14, 1, none⟩)) rfl (by kernel_rfl) (by kernel_rfl) (by kernel_rfl) (fun _ _ _ h => h) (Or.inl ⟨by rfl, fun w _ => by go_simp⟩) hHeld ?_
  simp only [Act.put, List.setIfInBounds_toArray, List.set_cons_zero, List.set_cons_succ]
  refine wpAnyH_take (i := 23) (oi := ⟨some 72, .load 4 (.tmp 71), _, _, _, _⟩) (v := .bool p) rfl (by kernel_rfl) (by kernel_rfl) (by kernel_rfl) (fun _ _ _ h => h) (Or.inl ⟨by rfl, fun w hSw => by have e1 := hSw.2.2.2.2.2; clear hSw; go_simp⟩) hHeld ?_
  simp only [Act.put, List.setIfInBounds_toArray, List.set_cons_zero, List.set_cons_succ]
  refine wpAnyH_take (i := 24) (oi := ⟨some 73, .binOp .eql 4 (.tmp 70) (.tmp 72) 4, _, _, _, _⟩) (v := .bool true) rfl (by kernel_rfl) (by kernel_rfl) (by kernel_rfl) (fun _ _ _ h => h) (Or.inl ⟨by rfl, fun w _ => by go_simp⟩) hHeld ?_
  simp only [Act.put, List.setIfInBounds_toArray, List.set_cons_zero, List.set_cons_succ]
  refine wpAnyH_take (i := 25) (oi := ⟨some 74, .pick (.tmp 69) (.tmp 73) (.const (.bool false)), _, _, _, none⟩) (v := .bool true) rfl (by kernel_rfl) (by kernel_rfl) (by kernel_rfl) (fun _ _ _ h => h) (Or.inl ⟨by rfl, fun w _ => by go_simp⟩) hHeld ?_
  simp only [Act.put, List.setIfInBounds_toArray, List.set_cons_zero, List.set_cons_succ]
  refine wpAnyH_take (i := 26) (oi := ⟨some 75, .move (.tmp 74), _, _, _, none⟩) (v := .bool true) rfl (by kernel_rfl) (by kernel_rfl) (by kernel_rfl) (fun _ _ _ h => h) (Or.inl ⟨by rfl, fun _ _ => rfl⟩) hHeld ?_
  simp only [Act.put, List.setIfInBounds_toArray, List.set_cons_zero, List.set_cons_succ]
  refine wpAnyH_take (i := 27) (oi := ⟨some 76, .load 24 (.tmp 11), _, _, _, _⟩) (v := (.agg #[.slice (some ⟨g, 0, none⟩) n c'])) rfl (by kernel_rfl) (by kernel_rfl) (by kernel_rfl) (fun _ _ _ h => h) (yieldsIf_load_mid (by rfl) _ _ rfl _ _ rfl _ _ (fun w h => range1 h.2.1) Try.underlying24 rfl mem_sz) hHeld ?_
  simp only [Act.put, List.setIfInBounds_toArray, List.set_cons_zero, List.set_cons_succ]
  refine wpAnyH_take (i := 28) (oi := ⟨some 77, .fieldAddr 38 (.tmp 14) 0, _, _, _, _⟩) (v := .pointer (some ⟨B14, 0, none⟩)) rfl (by kernel_rfl) (by kernel_rfl) (by kernel_rfl) (fun _ _ _ h => h) (Or.inl ⟨by rfl, fun w _ => by go_simp⟩) hHeld ?_
  simp only [Act.put, List.setIfInBounds_toArray, List.set_cons_zero, List.set_cons_succ]
  refine wpAnyH_take (i := 29) (oi := ⟨some 78, .load 24 (.tmp 77), _, _, _, _⟩) (v := .agg #[.slice A2 n c2]) rfl (by kernel_rfl) (by kernel_rfl) (by kernel_rfl) (fun _ _ _ h => h) (yieldsIf_load_mid (by rfl) _ _ rfl _ _ rfl _ _ (fun w h => range1 h.2.2.2.2.1) Try.underlying24 rfl mem_sz) hHeld ?_
  simp only [Act.put, List.setIfInBounds_toArray, List.set_cons_zero, List.set_cons_succ]
  refine wpAnyH_ready (rs := [30]) (by kernel_rfl) (by simp) (AllReadyH.cons (o := ⟨some 79, .call { callee := .value (.func 18), args := #[.tmp 76, .tmp 78], argTypes := #[24, 24] }, _, _, _, _⟩) rfl (fun K' hK => ?_) (AllReadyH.nil))
  go_simp
  refine (HSM.out _ _ _ _ _ dx.sl s2).mono ?_
  rintro e x4 ⟨rfl, k4⟩
  replace b4 := b4.keep k4
  replace b11 := b11.keep k4
  replace b13 := b13.keep k4
  replace b14 := b14.keep k4
  replace dx := dx.keep k4
  replace s2 := s2.keep k4
  replace lw := Later.trans_ lw k4
  refine hK.out _ _ ⟨b4.cell rfl, b11.cell rfl, b13.cell rfl, b13.cell rfl, b14.cell rfl, b14.cell rfl⟩ (fun hHeld => ?_)
  clear hK K'
  try simp only [Act.put, List.setIfInBounds_toArray, List.set_cons_zero, List.set_cons_succ]
  refine wpAnyH_take (i := 31) (oi := ⟨some 80, .pick (.tmp 75) (.tmp 79) (.const (.bool false)), _, _, _, none⟩) (v := .bool true) rfl (by kernel_rfl) (by kernel_rfl) (by kernel_rfl) (fun _ _ _ h => h) (Or.inl ⟨by rfl, fun w _ => by go_simp⟩) hHeld ?_
  simp only [Act.put, List.setIfInBounds_toArray, List.set_cons_zero, List.set_cons_succ]
  refine wpAnyH_take (i := 32) (oi := ⟨some 8, .assign (.tmp 80), _, _, _, none⟩) (v := .bool true) rfl (by kernel_rfl) (by kernel_rfl) (by kernel_rfl) (fun _ _ _ h => h) (Or.inl ⟨by rfl, fun _ _ => rfl⟩) hHeld ?_
  simp only [Act.put, List.setIfInBounds_toArray, List.set_cons_zero, List.set_cons_succ]
  refine wpAnyH_done (by kernel_rfl) ?_ _
  clear hHeld
  go_wp2
  go_ret
  exact ⟨rfl, lw⟩
theorem stores_all (A : Option Addr) (n c : Nat) (at_ size : Int) (u : Int × Int × Int) (b : Wm.Bs) (w : World) (hs : Sl w 128 A n (U b)) (hb : Wm.isBs b) (hnc : n ≤ c) (hc : c ≤ maxLen) (hw : isW u) (hat : -9223372036854775808 ≤ at_ ∧ at_ ≤ 9223372036854775807) :
    Calls Try.prog 3 #[.agg #[.slice A n c], .int .i64 at_, .int .i64 size, .agg (Wc u).toArray] w fun e w' => e = .returned (.bool true) ∧ Later w w' := by
  obtain ⟨a, s, v⟩ := u
  by_cases h0 : 80 < n
  · exact stores_big A n c at_ size a s v w h0
  · by_cases h1 : 1 ≤ n ∧ n ≤ 64
    · exact stores_any A n c at_ size a s v w b hs hb hnc hc h1 hw hat
    · exact stores_bad A n c at_ size a s v w (by omega) h1

set_option maxRecDepth 100000 in
theorem memoryStoresAsSpecified_lifted (os : Os) (started : os.Started) (H : Type) (enc : TypeId × Value → H) :
    ReturnsInHanded {} Try.checked os 3 .any (Rows.memoryStoresAsSpecifiedSpec.pre6 enc Try.prog Try.f3 Rows.memoryStoresAsSpecifiedRow.domain false) (Rows.memoryStoresAsSpecifiedSpec.post enc Try.prog Try.f3 false true false false) := by
  refine returnsInHanded_of_change (C := Try.checked) ownK started (by kernel_rfl) Try.func3
    (ChangeSpec.witness6 (enc := enc) (C := Try.checked) false ⟨#[], #[.agg #[.slice none 0 0], .int .i64 0, .int .i64 0, .agg #[.int .i64 0, .int .i64 0, .int .u32 0]], []⟩ 8 (by kernel_rfl) (by kernel_rfl) (by kernel_rfl) (by kernel_rfl)) ?_
  intro W base args ds gs before hval0 hW hcnd _
  have hval : ∀ (j : Nat) t v, Try.f3.params[j]? = some t → args[j]? = some v → Value.okWide Try.prog W .any base t v := hval0
  have hW' := hW
  obtain ⟨p, q, hA0, hV, rfl, hfz, hnd⟩ := hW
  have hA : DataW.TrodAll enc Try.prog W 0 (fun _ => true) true Try.f3.params.toList args.toList ds p := hA0
  rw [Try.params3] at hA hval
  obtain ⟨v0, vs0, d0, ds0, p0, q0, hargs, rfl, rfl, h0, r0⟩ := trodAll_cons hA
  obtain ⟨v1, vs1, d1, ds1, p1, q1, rfl, rfl, rfl, h1, r1⟩ := trodAll_cons r0
  obtain ⟨v2, vs2, d2, ds2, p2, q2, rfl, rfl, rfl, h2, r2⟩ := trodAll_cons r1
  obtain ⟨v3, vs3, d3, ds3, p3, q3, rfl, rfl, rfl, h3, r3⟩ := trodAll_cons r2
  obtain ⟨rfl, rfl, rfl⟩ := trodAll_nil r3
  obtain rfl : args = #[v0, v1, v2, v3] := by cases args; simp_all
  obtain ⟨rfl, rfl⟩ := trodVars_none hV
  obtain ⟨A0, n0, c0, b0, rfl, x0, y0, s0, z0⟩ := mem_arg (K := 128) (by omega) Try.underlying24 rfl Try.underlying22 Try.underlying79 Try.underlying5 (by kernel_rfl) (by kernel_rfl) (by kernel_rfl) (by kernel_rfl) (hval 0 24 v0 rfl rfl) h0
  obtain ⟨a1, rfl, z1⟩ := int_arg Try.underlying3 (hval 1 3 v1 rfl rfl) h1
  obtain ⟨a2, rfl, z2⟩ := int_arg Try.underlying3 (hval 2 3 v2 rfl rfl) h2
  obtain ⟨u3, rfl, z3⟩ := write_arg Try.underlying27 rfl rfl rfl Try.underlying3 Try.underlying3 Try.underlying25 (by kernel_rfl) (by kernel_rfl) (by kernel_rfl) (by kernel_rfl) (hval 3 27 v3 rfl rfl) h3
  clear hA0 hval0
  simp only [List.append_nil] at hW'
  refine (stores_all A0 n0 c0 a1 a2 u3 b0 W s0 z0 x0 y0 z3 z1).mono fun e W' ⟨he, hw⟩ => ?_
  subst he
  exact ⟨_, rfl, law_post laidK rfl (by kernel_rfl) (by kernel_rfl) Try.underlying4 (by kernel_rfl) hW' rfl hw⟩
set_option maxRecDepth 100000 in
/-- The statement. -/
theorem memoryStoresAsSpecified_said : Rows.MemoryStoresAsSpecifiedSaid :=
  OpenClaim.holds_of_wide 3 Try.f3 rfl rfl rfl rfl rfl rfl rfl ⟨rfl, rfl, rfl, rfl, rfl⟩ rfl rfl rfl rfl rfl (by kernel_rfl) Try.func3 (by kernel_rfl)
    (of_decide_eq_true (by kernel_rfl)) (by unfold Func.isWrapper; first | (rw [if_pos (by decide +kernel)]; kernel_rfl) | (rw [if_neg (by decide +kernel)]; exact ⟨rfl, rfl⟩))
    (fun os started H enc _ => memoryStoresAsSpecified_lifted os started H enc)
#print axioms memoryStoresAsSpecified_said
end Go.Proofs.Ytaihfkcoiagdaaa
