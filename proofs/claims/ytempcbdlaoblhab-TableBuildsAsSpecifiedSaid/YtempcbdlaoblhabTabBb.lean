/-
  THE WALK OF the reference's Unmap.
-/
import Derived.Test.YtempcbdlaoblhabTabBa
import Derived.Deep.DeepCutAuto
namespace Go.Proofs.Ytempcbdlaoblhab
open Go.RowKit Go.ChangeShapes Go.WideShapes Go.ChangeAt

set_option maxRecDepth 100000 in
set_option maxHeartbeats 4000000 in
theorem runmap_b1 (A : Option Addr) (n c : Nat) (root va : Int) (b : Wm.Bs) (w : World) (hs : Sl w 128 A n (U b)) (_ : 1 ≤ n ∧ n ≤ 64) (hr : 0 ≤ root ∧ root < 4294967296) (hv : 0 ≤ va ∧ va < 4294967296) (hlt : ¬ va < 131072) :
    Calls Try.prog 19 #[.agg #[.slice A n c], .int .u32 root, .int .u32 va] w (GotMd n b 1 w) := by
  have w_va : IntKind.i64.wrap va = va := by rw [IntKind.wrap_i64]; omega
  have w_root : IntKind.i64.wrap root = root := by rw [IntKind.wrap_i64]; omega
  have d1 : decide (131072 ≤ va) = true := decide_eq_true (by omega)
  clear hr hv hlt
  have b5 := (Blk.new w 24 #[.slice A n c] [.slice A n c] rfl).alloc (.cells #[.slice none 0 0, .int .i64 0] 46)
  have b10 := Blk.new' (w.alloc (.cells #[.slice A n c] 24)) (w.heap.size + 1) 46 #[.slice none 0 0, .int .i64 0] [.slice none 0 0, .int .i64 0] (by simp) rfl
  have lx := (later1 w (.cells #[.slice A n c] 24)).alloc (by simp) (.cells #[.slice none 0 0, .int .i64 0] 46)
  go_enter Try.func19, Try.ntmps19
  go_wp2_with (first
    | ((with_reducible refine wpList_bld (o := ⟨some 25, .build 46 #[(0, .tmp 24), (1, .const (.int .i64 1))], _, _, _, none⟩) rfl _ _ _ _ rfl rfl (run_mk A n c 1 _) ?_))
    | ((with_reducible refine wpList_store_abs (o := ⟨none, .store 46 (.tmp 6) (.tmp 25), _, _, _, none⟩) rfl _ _ _ rfl (w.heap.size + 1) 46 [.slice none 0 0, .int .i64 0] [.slice A n c, .int .i64 1] ?_ ?_ b10 ?_ ?_ ?_ ?_); rfl; rfl; exact mk_sz _ _; rfl; exact mk_one _ _ _ _; intro w5 b8 o5))
  exact bodyPost_ret (v := .agg #[.slice A n c, .int .i64 1]) (results_blk Try.results19 _ _ (w.heap.size + 1) 46 [.slice A n c, .int .i64 1] _ rfl b8 Try.underlying46 rfl (mk_sz _ _)) rfl
    ⟨A, c, rfl, hs.keep (Below.only lx o5 (by omega)), Below.only lx o5 (by omega)⟩
set_option maxRecDepth 100000 in
set_option maxHeartbeats 4000000 in
theorem runmap_b2 (A : Option Addr) (n c : Nat) (root va : Int) (b : Wm.Bs) (w : World) (hs : Sl w 128 A n (U b)) (_ : 1 ≤ n ∧ n ≤ 64) (_ : 0 ≤ root ∧ root < 4294967296) (hv : 0 ≤ va ∧ va < 4294967296) (hlt : va < 131072) (h0 : root = 0) :
    Calls Try.prog 19 #[.agg #[.slice A n c], .int .u32 root, .int .u32 va] w (GotMd n b 1 w) := by
  have w_va : IntKind.i64.wrap va = va := by rw [IntKind.wrap_i64]; omega
  have w_root : IntKind.i64.wrap root = root := by rw [IntKind.wrap_i64]; omega
  have d1 : decide (131072 ≤ va) = false := decide_eq_false (by omega)
  have d6 : (root == 0) = true := by simpa using h0
  clear hv hlt h0
  have b5 := (Blk.new w 24 #[.slice A n c] [.slice A n c] rfl).alloc (.cells #[.slice none 0 0, .int .i64 0] 46)
  have b10 := Blk.new' (w.alloc (.cells #[.slice A n c] 24)) (w.heap.size + 1) 46 #[.slice none 0 0, .int .i64 0] [.slice none 0 0, .int .i64 0] (by simp) rfl
  have lx := (later1 w (.cells #[.slice A n c] 24)).alloc (by simp) (.cells #[.slice none 0 0, .int .i64 0] 46)
  go_enter Try.func19, Try.ntmps19
  go_wp2_with (first
    | ((with_reducible refine wpList_bld (o := ⟨some 25, .build 46 #[(0, .tmp 24), (1, .const (.int .i64 1))], _, _, _, none⟩) rfl _ _ _ _ rfl rfl (run_mk A n c 1 _) ?_))
    | ((with_reducible refine wpList_store_abs (o := ⟨none, .store 46 (.tmp 6) (.tmp 25), _, _, _, none⟩) rfl _ _ _ rfl (w.heap.size + 1) 46 [.slice none 0 0, .int .i64 0] [.slice A n c, .int .i64 1] ?_ ?_ b10 ?_ ?_ ?_ ?_); rfl; rfl; exact mk_sz _ _; rfl; exact mk_one _ _ _ _; intro w5 b8 o5))
  exact bodyPost_ret (v := .agg #[.slice A n c, .int .i64 1]) (results_blk Try.results19 _ _ (w.heap.size + 1) 46 [.slice A n c, .int .i64 1] _ rfl b8 Try.underlying46 rfl (mk_sz _ _)) rfl
    ⟨A, c, rfl, hs.keep (Below.only lx o5 (by omega)), Below.only lx o5 (by omega)⟩
set_option maxRecDepth 100000 in
set_option maxHeartbeats 4000000 in
theorem runmap_b3 (A : Option Addr) (n c : Nat) (root va : Int) (b : Wm.Bs) (w : World) (hs : Sl w 128 A n (U b)) (h1 : 1 ≤ n ∧ n ≤ 64) (hr : 0 ≤ root ∧ root < 4294967296) (hv : 0 ≤ va ∧ va < 4294967296) (hlt : va < 131072) (h0 : root ≠ 0) (hpr : Tm.pageB n root = false) :
    Calls Try.prog 19 #[.agg #[.slice A n c], .int .u32 root, .int .u32 va] w (GotMd n b 1 w) := by
  have w_va : IntKind.i64.wrap va = va := by rw [IntKind.wrap_i64]; omega
  have w_root : IntKind.i64.wrap root = root := by rw [IntKind.wrap_i64]; omega
  have d1 : decide (131072 ≤ va) = false := decide_eq_false (by omega)
  have d6 : (root == 0) = false := by simpa using h0
  have HPR := Lib.hid fun w' => rpage_any A n c root w' h1.2 (by omega)
  rw [hpr] at HPR
  clear h1 hr hv hlt h0 hpr
  have b5 := (Blk.new w 24 #[.slice A n c] [.slice A n c] rfl).alloc (.cells #[.slice none 0 0, .int .i64 0] 46)
  have b10 := Blk.new' (w.alloc (.cells #[.slice A n c] 24)) (w.heap.size + 1) 46 #[.slice none 0 0, .int .i64 0] [.slice none 0 0, .int .i64 0] (by simp) rfl
  have lx := (later1 w (.cells #[.slice A n c] 24)).alloc (by simp) (.cells #[.slice none 0 0, .int .i64 0] 46)
  go_enter Try.func19, Try.ntmps19
  go_wp2_with (first
    | (go_at_call 34; (first | (with_reducible refine (HP.out _).mono ?_) | (with_reducible refine (HPR.out _).mono ?_)); rintro e w2 ⟨rfl, l2⟩; replace b5 := b5.keep l2; replace b10 := b10.keep l2; replace lx := Later.trans_ lx l2; have c5 := b5.cell (j := 0) (v := .slice A n c) rfl)
    | ((with_reducible refine wpList_bld (o := ⟨some 25, .build 46 #[(0, .tmp 24), (1, .const (.int .i64 1))], _, _, _, none⟩) rfl _ _ _ _ rfl rfl (run_mk A n c 1 _) ?_))
    | ((with_reducible refine wpList_store_abs (o := ⟨none, .store 46 (.tmp 6) (.tmp 25), _, _, _, none⟩) rfl _ _ _ rfl (w.heap.size + 1) 46 [.slice none 0 0, .int .i64 0] [.slice A n c, .int .i64 1] ?_ ?_ b10 ?_ ?_ ?_ ?_); rfl; rfl; exact mk_sz _ _; rfl; exact mk_one _ _ _ _; intro w5 b8 o5))
  exact bodyPost_ret (v := .agg #[.slice A n c, .int .i64 1]) (results_blk Try.results19 _ _ (w.heap.size + 1) 46 [.slice A n c, .int .i64 1] _ rfl b8 Try.underlying46 rfl (mk_sz _ _)) rfl
    ⟨A, c, rfl, hs.keep (Below.only lx o5 (by omega)), Below.only lx o5 (by omega)⟩
set_option maxRecDepth 100000 in
set_option maxHeartbeats 4000000 in
theorem runmap_form (A : Option Addr) (n c : Nat) (root va : Int) (b : Wm.Bs) (w : World) (hs : Sl w 128 A n (U b)) (h1 : 1 ≤ n ∧ n ≤ 64) (hr : 0 ≤ root ∧ root < 4294967296) (hv : 0 ≤ va ∧ va < 4294967296) (hlt : va < 131072) (h0 : root ≠ 0) (hpr : Tm.pageB n root = true) (lg : Bool) (fa fe : Int) (KT : Hid (∀ w', Later w w' → Calls Try.prog 52 #[.agg #[.slice A n c], .int .i64 root, .int .i64 va] w' fun r w'' => r = .returned (.agg #[.int .i64 fa, .int .i64 fe, .bool true, .bool false, .bool lg]) ∧ Later w' w'')) :
    Calls Try.prog 19 #[.agg #[.slice A n c], .int .u32 root, .int .u32 va] w (GotMd n b 3 w) := by
  have w_va : IntKind.i64.wrap va = va := by rw [IntKind.wrap_i64]; omega
  have w_root : IntKind.i64.wrap root = root := by rw [IntKind.wrap_i64]; omega
  have d1 : decide (131072 ≤ va) = false := decide_eq_false (by omega)
  have d6 : (root == 0) = false := by simpa using h0
  have HPR := Lib.hid fun w' => rpage_any A n c root w' h1.2 (by omega)
  rw [hpr] at HPR
  clear h1 hr hv hlt h0 hpr
  have b5 := (Blk.new w 24 #[.slice A n c] [.slice A n c] rfl).alloc (.cells #[.slice none 0 0, .int .i64 0] 46)
  have b10 := Blk.new' (w.alloc (.cells #[.slice A n c] 24)) (w.heap.size + 1) 46 #[.slice none 0 0, .int .i64 0] [.slice none 0 0, .int .i64 0] (by simp) rfl
  have lx := (later1 w (.cells #[.slice A n c] 24)).alloc (by simp) (.cells #[.slice none 0 0, .int .i64 0] 46)
  go_enter Try.func19, Try.ntmps19
  go_wp2_with (first
    | (go_at_call 34; (first | (with_reducible refine (HPR.out _).mono ?_)); rintro e w2 ⟨rfl, l2⟩; replace b5 := b5.keep l2; replace b10 := b10.keep l2; replace lx := Later.trans_ lx l2; have c5 := b5.cell (j := 0) (v := .slice A n c) rfl)
    | (go_at_call 52; refine (KT.out _ lx).mono ?_; rintro e w3 ⟨rfl, l3⟩; replace b5 := b5.keep l3; replace b10 := b10.keep l3; replace lx := Later.trans_ lx l3; have c5 := b5.cell (j := 0) (v := .slice A n c) rfl; have b10f := b10.alloc (.cells #[.int .i64 fa, .int .i64 fe, .bool true, .bool false, .bool lg] 88); have lf := lx.alloc lx.size (.cells #[.int .i64 fa, .int .i64 fe, .bool true, .bool false, .bool lg] 88); clear c5; have c5 := (b5.alloc (.cells #[.int .i64 fa, .int .i64 fe, .bool true, .bool false, .bool lg] 88)).cell (j := 0) (v := .slice A n c) rfl)
    | ((with_reducible refine wpList_bld (o := ⟨some 39, .build 46 #[(0, .tmp 38), (1, .const (.int .i64 3))], _, _, _, none⟩) rfl _ _ _ _ rfl rfl (run_mk A n c 3 _) ?_))
    | ((with_reducible refine wpList_store_abs (o := ⟨none, .store 46 (.tmp 6) (.tmp 39), _, _, _, none⟩) rfl _ _ _ rfl (w.heap.size + 1) 46 [.slice none 0 0, .int .i64 0] [.slice A n c, .int .i64 3] ?_ ?_ b10f ?_ ?_ ?_ ?_); rfl; rfl; exact mk_sz _ _; rfl; exact mk_one _ _ _ _; intro w5 b8 o5))
  exact bodyPost_ret (v := .agg #[.slice A n c, .int .i64 3]) (results_blk Try.results19 _ _ (w.heap.size + 1) 46 [.slice A n c, .int .i64 3] _ rfl b8 Try.underlying46 rfl (mk_sz _ _)) rfl
    ⟨A, c, rfl, hs.keep (Below.only lf o5 (by omega)), Below.only lf o5 (by omega)⟩
set_option maxRecDepth 100000 in
set_option maxHeartbeats 4000000 in
theorem runmap_name (A : Option Addr) (n c : Nat) (root va : Int) (b : Wm.Bs) (w : World) (hs : Sl w 128 A n (U b)) (h1 : 1 ≤ n ∧ n ≤ 64) (hr : 0 ≤ root ∧ root < 4294967296) (hv : 0 ≤ va ∧ va < 4294967296) (hlt : va < 131072) (h0 : root ≠ 0) (hpr : Tm.pageB n root = true) (rf lg : Bool) (fa fe : Int) (KT : Hid (∀ w', Later w w' → Calls Try.prog 52 #[.agg #[.slice A n c], .int .i64 root, .int .i64 va] w' fun r w'' => r = .returned (.agg #[.int .i64 fa, .int .i64 fe, .bool false, .bool rf, .bool lg]) ∧ Later w' w'')) :
    Calls Try.prog 19 #[.agg #[.slice A n c], .int .u32 root, .int .u32 va] w (GotMd n b 5 w) := by
  have w_va : IntKind.i64.wrap va = va := by rw [IntKind.wrap_i64]; omega
  have w_root : IntKind.i64.wrap root = root := by rw [IntKind.wrap_i64]; omega
  have d1 : decide (131072 ≤ va) = false := decide_eq_false (by omega)
  have d6 : (root == 0) = false := by simpa using h0
  have HPR := Lib.hid fun w' => rpage_any A n c root w' h1.2 (by omega)
  rw [hpr] at HPR
  clear h1 hr hv hlt h0 hpr
  have b5 := (Blk.new w 24 #[.slice A n c] [.slice A n c] rfl).alloc (.cells #[.slice none 0 0, .int .i64 0] 46)
  have b10 := Blk.new' (w.alloc (.cells #[.slice A n c] 24)) (w.heap.size + 1) 46 #[.slice none 0 0, .int .i64 0] [.slice none 0 0, .int .i64 0] (by simp) rfl
  have lx := (later1 w (.cells #[.slice A n c] 24)).alloc (by simp) (.cells #[.slice none 0 0, .int .i64 0] 46)
  go_enter Try.func19, Try.ntmps19
  go_wp2_with (first
    | (go_at_call 34; (first | (with_reducible refine (HPR.out _).mono ?_)); rintro e w2 ⟨rfl, l2⟩; replace b5 := b5.keep l2; replace b10 := b10.keep l2; replace lx := Later.trans_ lx l2; have c5 := b5.cell (j := 0) (v := .slice A n c) rfl)
    | (go_at_call 52; refine (KT.out _ lx).mono ?_; rintro e w3 ⟨rfl, l3⟩; replace b5 := b5.keep l3; replace b10 := b10.keep l3; replace lx := Later.trans_ lx l3; have c5 := b5.cell (j := 0) (v := .slice A n c) rfl; have b10f := b10.alloc (.cells #[.int .i64 fa, .int .i64 fe, .bool false, .bool rf, .bool lg] 88); have lf := lx.alloc lx.size (.cells #[.int .i64 fa, .int .i64 fe, .bool false, .bool rf, .bool lg] 88); clear c5; have c5 := (b5.alloc (.cells #[.int .i64 fa, .int .i64 fe, .bool false, .bool rf, .bool lg] 88)).cell (j := 0) (v := .slice A n c) rfl)
    | ((with_reducible refine wpList_bld (o := ⟨some 44, .build 46 #[(0, .tmp 43), (1, .const (.int .i64 5))], _, _, _, none⟩) rfl _ _ _ _ rfl rfl (run_mk A n c 5 _) ?_))
    | ((with_reducible refine wpList_store_abs (o := ⟨none, .store 46 (.tmp 6) (.tmp 44), _, _, _, none⟩) rfl _ _ _ rfl (w.heap.size + 1) 46 [.slice none 0 0, .int .i64 0] [.slice A n c, .int .i64 5] ?_ ?_ b10f ?_ ?_ ?_ ?_); rfl; rfl; exact mk_sz _ _; rfl; exact mk_one _ _ _ _; intro w5 b8 o5))
  exact bodyPost_ret (v := .agg #[.slice A n c, .int .i64 5]) (results_blk Try.results19 _ _ (w.heap.size + 1) 46 [.slice A n c, .int .i64 5] _ rfl b8 Try.underlying46 rfl (mk_sz _ _)) rfl
    ⟨A, c, rfl, hs.keep (Below.only lf o5 (by omega)), Below.only lf o5 (by omega)⟩
set_option maxRecDepth 100000 in
set_option maxHeartbeats 4000000 in
theorem runmap_large (A : Option Addr) (n c : Nat) (root va : Int) (b : Wm.Bs) (w : World) (_ : Sl w 128 A n (U b)) (h1 : 1 ≤ n ∧ n ≤ 64) (hr : 0 ≤ root ∧ root < 4294967296) (hv : 0 ≤ va ∧ va < 4294967296) (hlt : va < 131072) (h0 : root ≠ 0) (hpr : Tm.pageB n root = true) (fa fe : Int) (KT : Hid (∀ w', Later w w' → Calls Try.prog 52 #[.agg #[.slice A n c], .int .i64 root, .int .i64 va] w' fun r w'' => r = .returned (.agg #[.int .i64 fa, .int .i64 fe, .bool true, .bool true, .bool true]) ∧ Later w' w'')) (X : Wm.Bs) (KS : Hid (∀ w', Later w w' → Calls Try.prog 55 #[.agg #[.slice A n c], .int .i64 fa, .int .i64 0] w' (GotM n X w'))) :
    Calls Try.prog 19 #[.agg #[.slice A n c], .int .u32 root, .int .u32 va] w (GotMd n X 0 w) := by
  have w_va : IntKind.i64.wrap va = va := by rw [IntKind.wrap_i64]; omega
  have w_root : IntKind.i64.wrap root = root := by rw [IntKind.wrap_i64]; omega
  have d1 : decide (131072 ≤ va) = false := decide_eq_false (by omega)
  have d6 : (root == 0) = false := by simpa using h0
  have HPR := Lib.hid fun w' => rpage_any A n c root w' h1.2 (by omega)
  rw [hpr] at HPR
  clear h1 hr hv hlt h0 hpr
  have b5 := (Blk.new w 24 #[.slice A n c] [.slice A n c] rfl).alloc (.cells #[.slice none 0 0, .int .i64 0] 46)
  have b10 := Blk.new' (w.alloc (.cells #[.slice A n c] 24)) (w.heap.size + 1) 46 #[.slice none 0 0, .int .i64 0] [.slice none 0 0, .int .i64 0] (by simp) rfl
  have lx := (later1 w (.cells #[.slice A n c] 24)).alloc (by simp) (.cells #[.slice none 0 0, .int .i64 0] 46)
  go_enter Try.func19, Try.ntmps19
  go_wp2_with (first
    | (go_at_call 34; (first | (with_reducible refine (HPR.out _).mono ?_)); rintro e w2 ⟨rfl, l2⟩; replace b5 := b5.keep l2; replace b10 := b10.keep l2; replace lx := Later.trans_ lx l2; have c5 := b5.cell (j := 0) (v := .slice A n c) rfl)
    | (go_at_call 52; refine (KT.out _ lx).mono ?_; rintro e w3 ⟨rfl, l3⟩; replace b5 := b5.keep l3; replace b10 := b10.keep l3; replace lx := Later.trans_ lx l3; have c5 := b5.cell (j := 0) (v := .slice A n c) rfl; have b10f := b10.alloc (.cells #[.int .i64 fa, .int .i64 fe, .bool true, .bool true, .bool true] 88); have lf := lx.alloc lx.size (.cells #[.int .i64 fa, .int .i64 fe, .bool true, .bool true, .bool true] 88); clear c5; have c5 := (b5.alloc (.cells #[.int .i64 fa, .int .i64 fe, .bool true, .bool true, .bool true] 88)).cell (j := 0) (v := .slice A n c) rfl)
    | (go_at_call 55; refine (KS.out _ lf).mono ?_; rintro e w6 ⟨g, c', rfl, k1, k2, k3, k4, l6⟩; have hgx : w.heap.size + 1 ≠ g := (by have := b10f.lt; omega); have b10g := b10f.keep l6; have lg6 := Later.trans_ lf l6)
    | ((with_reducible refine wpList_bld (o := ⟨some 51, .build 46 #[(0, .tmp 50)], _, _, _, none⟩) rfl _ _ _ _ rfl rfl (run_mk0 (some ⟨g, 0, none⟩) n c' _) ?_))
    | ((with_reducible refine wpList_store_abs (o := ⟨none, .store 46 (.tmp 6) (.tmp 51), _, _, _, none⟩) rfl _ _ _ rfl (w.heap.size + 1) 46 [.slice none 0 0, .int .i64 0] [.slice (some ⟨g, 0, none⟩) n c', .int .i64 0] ?_ ?_ b10g ?_ ?_ ?_ ?_); rfl; rfl; exact mk_sz _ _; rfl; exact mk_one _ _ _ _; intro w5 b8 o5))
  exact bodyPost_ret (v := .agg #[.slice (some ⟨g, 0, none⟩) n c', .int .i64 0]) (results_blk Try.results19 _ _ (w.heap.size + 1) 46 [.slice (some ⟨g, 0, none⟩) n c', .int .i64 0] _ rfl b8 Try.underlying46 rfl (mk_sz _ _)) rfl
    ⟨_, _, rfl, (k4.only o5 (Ne.symm hgx)).sl, Below.only lg6 o5 (by omega)⟩
set_option maxRecDepth 100000 in
set_option maxHeartbeats 4000000 in
theorem runmap_none (A : Option Addr) (n c : Nat) (root va : Int) (b : Wm.Bs) (w : World) (hs : Sl w 128 A n (U b)) (h1 : 1 ≤ n ∧ n ≤ 64) (hr : 0 ≤ root ∧ root < 4294967296) (hv : 0 ≤ va ∧ va < 4294967296) (hlt : va < 131072) (h0 : root ≠ 0) (hpr : Tm.pageB n root = true) (fa fe : Int) (KT : Hid (∀ w', Later w w' → Calls Try.prog 52 #[.agg #[.slice A n c], .int .i64 root, .int .i64 va] w' fun r w'' => r = .returned (.agg #[.int .i64 fa, .int .i64 fe, .bool true, .bool true, .bool false]) ∧ Later w' w'')) (sa se : Int) (KB : Hid (∀ w', Calls Try.prog 53 #[.agg #[.int .i64 fa, .int .i64 fe, .bool true, .bool true, .bool false], .int .i64 va] w' fun r w'' => r = .returned (.int .i64 sa) ∧ Later w' w'')) (KW : Hid (∀ w', Later w w' → Calls Try.prog 56 #[.agg #[.slice A n c], .int .i64 sa] w' fun r w'' => r = .returned (.int .i64 se) ∧ Later w' w'')) (KH : Hid (∀ w', Calls Try.prog 36 #[.int .i64 se, .int .i64 1] w' fun r w'' => r = .returned (.bool false) ∧ w' = w'')) :
    Calls Try.prog 19 #[.agg #[.slice A n c], .int .u32 root, .int .u32 va] w (GotMd n b 5 w) := by
  have w_va : IntKind.i64.wrap va = va := by rw [IntKind.wrap_i64]; omega
  have w_root : IntKind.i64.wrap root = root := by rw [IntKind.wrap_i64]; omega
  have d1 : decide (131072 ≤ va) = false := decide_eq_false (by omega)
  have d6 : (root == 0) = false := by simpa using h0
  have HPR := Lib.hid fun w' => rpage_any A n c root w' h1.2 (by omega)
  rw [hpr] at HPR
  clear h1 hr hv hlt h0 hpr
  have b5 := (Blk.new w 24 #[.slice A n c] [.slice A n c] rfl).alloc (.cells #[.slice none 0 0, .int .i64 0] 46)
  have b10 := Blk.new' (w.alloc (.cells #[.slice A n c] 24)) (w.heap.size + 1) 46 #[.slice none 0 0, .int .i64 0] [.slice none 0 0, .int .i64 0] (by simp) rfl
  have lx := (later1 w (.cells #[.slice A n c] 24)).alloc (by simp) (.cells #[.slice none 0 0, .int .i64 0] 46)
  go_enter Try.func19, Try.ntmps19
  go_upto_region 11 with (first
    | (go_at_call 34; (first | (with_reducible refine (HPR.out _).mono ?_)); rintro e w2 ⟨rfl, l2⟩; replace b5 := b5.keep l2; replace b10 := b10.keep l2; replace lx := Later.trans_ lx l2; have c5 := b5.cell (j := 0) (v := .slice A n c) rfl)
    | (go_at_call 52; refine (KT.out _ lx).mono ?_; rintro e w3 ⟨rfl, l3⟩; replace b5 := b5.keep l3; replace b10 := b10.keep l3; replace lx := Later.trans_ lx l3; have c5 := b5.cell (j := 0) (v := .slice A n c) rfl; have b10f := b10.alloc (.cells #[.int .i64 fa, .int .i64 fe, .bool true, .bool true, .bool false] 88); have lf := lx.alloc lx.size (.cells #[.int .i64 fa, .int .i64 fe, .bool true, .bool true, .bool false] 88); clear c5; have c5 := (b5.alloc (.cells #[.int .i64 fa, .int .i64 fe, .bool true, .bool true, .bool false] 88)).cell (j := 0) (v := .slice A n c) rfl))
  have b8 := Blk.new w3 88 #[.int .i64 fa, .int .i64 fe, .bool true, .bool true, .bool false] [.int .i64 fa, .int .i64 fe, .bool true, .bool true, .bool false] rfl
  have h8 : w.heap.size + 1 < w3.heap.size := b10.lt
  replace b5 := b5.alloc (.cells #[.int .i64 fa, .int .i64 fe, .bool true, .bool true, .bool false] 88)
  obtain ⟨u, hu⟩ : ∃ x, x = w3.alloc (.cells #[.int .i64 fa, .int .i64 fe, .bool true, .bool true, .bool false] 88) := ⟨_, rfl⟩
  rw [← hu] at b5 b8 b10f lf c5 ⊢
  clear hu l3 c5 b10 lx
  obtain ⟨g8, hg8⟩ : ∃ x, x = w3.heap.size := ⟨_, rfl⟩
  rw [← hg8] at b8 h8 ⊢
  clear hg8
  replace b5 := b5.drew
  replace b8 := b8.drew
  replace b10f := b10f.drew
  replace lf := lf.drew
  refine wp_region_held_drew (S := fun w' => w'.cell? ⟨w.heap.size, 0, none⟩ = some (.slice A n c) ∧ w'.cell? ⟨g8, 0, none⟩ = some (.int .i64 fa) ∧ w'.cell? ⟨g8, 1, none⟩ = some (.int .i64 fe) ∧ w'.cell? ⟨g8, 2, none⟩ = some (.bool true) ∧ w'.cell? ⟨g8, 3, none⟩ = some (.bool true) ∧ w'.cell? ⟨g8, 4, none⟩ = some (.bool false)) (by kernel_rfl) ⟨b5.cell (j := 0) rfl, b8.cell (j := 0) rfl, b8.cell (j := 1) rfl, b8.cell (j := 2) rfl, b8.cell (j := 3) rfl, b8.cell (j := 4) rfl⟩ (fun hHeld => ?_)
  refine wpAnyH_take (i := 0) (oi := ⟨some 52, .load 24 (.tmp 3), _, _, _, none⟩) (v := .agg #[.slice A n c]) rfl (by kernel_rfl) (by kernel_rfl) (by kernel_rfl) (fun _ _ _ h => h) (Or.inl ⟨by rfl, fun w hSw => by have e1 := hSw.1; clear hSw; go_simp⟩) hHeld ?_
  simp only [Act.put, List.setIfInBounds_toArray, List.set_cons_zero, List.set_cons_succ]
  refine wpAnyH_take (i := 1) (oi := ⟨some 53, .load 88 (.tmp 8), _, _, _, none⟩) (v := .agg #[.int .i64 fa, .int .i64 fe, .bool true, .bool true, .bool false]) rfl (by kernel_rfl) (by kernel_rfl) (by kernel_rfl) (fun _ _ _ h => h) (Or.inl ⟨by rfl, fun w hSw => by obtain ⟨_, e0, e1, e2, e3, e4⟩ := hSw; go_simp⟩) hHeld ?_
  simp only [Act.put, List.setIfInBounds_toArray, List.set_cons_zero, List.set_cons_succ]
  refine wpAnyH_take (i := 2) (oi := ⟨some 54, .move (.tmp 7), _, _, _, none⟩) (v := .int .i64 va) rfl (by kernel_rfl) (by kernel_rfl) (by kernel_rfl) (fun _ _ _ h => h) (Or.inl ⟨by rfl, fun _ _ => rfl⟩) hHeld ?_
  simp only [Act.put, List.setIfInBounds_toArray, List.set_cons_zero, List.set_cons_succ]
  refine wpAnyH_ready (rs := [3]) (by kernel_rfl) (by simp) (AllReadyH.cons (o := ⟨some 55, .call { callee := .value (.func 53), args := #[.tmp 53, .tmp 54], argTypes := #[88, 3] }, _, _, _, none⟩) rfl (fun K' hK => ?_) (AllReadyH.nil))
  go_simp
  refine (KB.out _).mono ?_
  rintro e w4 ⟨rfl, l4⟩
  replace b5 := b5.keep l4
  replace b8 := b8.keep l4
  replace b10f := b10f.keep l4
  replace lf := Later.trans_ lf l4
  refine hK.out _ _ ⟨b5.cell (j := 0) rfl, b8.cell (j := 0) rfl, b8.cell (j := 1) rfl, b8.cell (j := 2) rfl, b8.cell (j := 3) rfl, b8.cell (j := 4) rfl⟩ (fun hHeld => ?_)
  clear hK K'
  try simp only [Act.put, List.setIfInBounds_toArray, List.set_cons_zero, List.set_cons_succ]
  refine wpAnyH_ready (rs := [4]) (by kernel_rfl) (by simp) (AllReadyH.cons (o := ⟨some 56, .call { callee := .value (.func 56), args := #[.tmp 52, .tmp 55], argTypes := #[24, 3] }, _, _, _, none⟩) rfl (fun K' hK => ?_) (AllReadyH.nil))
  go_simp
  refine (KW.out _ lf).mono ?_
  rintro e w5 ⟨rfl, l5⟩
  replace b5 := b5.keep l5
  replace b8 := b8.keep l5
  replace b10f := b10f.keep l5
  replace lf := Later.trans_ lf l5
  refine hK.out _ _ ⟨b5.cell (j := 0) rfl, b8.cell (j := 0) rfl, b8.cell (j := 1) rfl, b8.cell (j := 2) rfl, b8.cell (j := 3) rfl, b8.cell (j := 4) rfl⟩ (fun hHeld => ?_)
  clear hK K'
  try simp only [Act.put, List.setIfInBounds_toArray, List.set_cons_zero, List.set_cons_succ]
  refine wpAnyH_ready (rs := [5]) (by kernel_rfl) (by simp) (AllReadyH.cons (o := ⟨some 57, .call { callee := .value (.func 36), args := #[.tmp 56, .const (.int .i64 1)], argTypes := #[3, 3] }, _, _, _, none⟩) rfl (fun K' hK => ?_) (AllReadyH.nil))
  go_simp
  refine (KH.out _).mono ?_
  rintro e w9 ⟨rfl, rfl⟩
  refine hK.out _ _ ⟨b5.cell (j := 0) rfl, b8.cell (j := 0) rfl, b8.cell (j := 1) rfl, b8.cell (j := 2) rfl, b8.cell (j := 3) rfl, b8.cell (j := 4) rfl⟩ (fun hHeld => ?_)
  clear hK K'
  try simp only [Act.put, List.setIfInBounds_toArray, List.set_cons_zero, List.set_cons_succ]
  refine wpAnyH_take (i := 6) (oi := ⟨some 58, .unOp .not 4 (.tmp 57), _, _, _, none⟩) (v := .bool true) rfl (by kernel_rfl) (by kernel_rfl) (by kernel_rfl) (fun _ _ _ h => h) (Or.inl ⟨by rfl, fun w _ => by go_simp⟩) hHeld ?_
  simp only [Act.put, List.setIfInBounds_toArray, List.set_cons_zero, List.set_cons_succ]
  refine wpAnyH_done (by kernel_rfl) ?_ _
  clear hHeld
  have c5 := b5.cell (j := 0) (v := .slice A n c) rfl
  go_wp2_with (first
    | ((with_reducible refine wpList_bld (o := ⟨some 60, .build 46 #[(0, .tmp 59), (1, .const (.int .i64 5))], _, _, _, none⟩) rfl _ _ _ _ rfl rfl (run_mk A n c 5 _) ?_))
    | ((with_reducible refine wpList_store_abs (o := ⟨none, .store 46 (.tmp 6) (.tmp 60), _, _, _, none⟩) rfl _ _ _ rfl (w.heap.size + 1) 46 [.slice none 0 0, .int .i64 0] [.slice A n c, .int .i64 5] ?_ ?_ b10f ?_ ?_ ?_ ?_); rfl; rfl; exact mk_sz _ _; rfl; exact mk_one _ _ _ _; intro w5 b8 o5))
  exact bodyPost_ret (v := .agg #[.slice A n c, .int .i64 5]) (results_blk Try.results19 _ _ (w.heap.size + 1) 46 [.slice A n c, .int .i64 5] _ rfl b8 Try.underlying46 rfl (mk_sz _ _)) rfl
    ⟨A, c, rfl, hs.keep (Below.only lf o5 (by omega)), Below.only lf o5 (by omega)⟩
set_option maxRecDepth 100000 in
set_option maxHeartbeats 4000000 in
theorem runmap_second (A : Option Addr) (n c : Nat) (root va : Int) (b : Wm.Bs) (w : World) (_ : Sl w 128 A n (U b)) (h1 : 1 ≤ n ∧ n ≤ 64) (hr : 0 ≤ root ∧ root < 4294967296) (hv : 0 ≤ va ∧ va < 4294967296) (hlt : va < 131072) (h0 : root ≠ 0) (hpr : Tm.pageB n root = true) (fa fe : Int) (KT : Hid (∀ w', Later w w' → Calls Try.prog 52 #[.agg #[.slice A n c], .int .i64 root, .int .i64 va] w' fun r w'' => r = .returned (.agg #[.int .i64 fa, .int .i64 fe, .bool true, .bool true, .bool false]) ∧ Later w' w'')) (sa se : Int) (KB : Hid (∀ w', Calls Try.prog 53 #[.agg #[.int .i64 fa, .int .i64 fe, .bool true, .bool true, .bool false], .int .i64 va] w' fun r w'' => r = .returned (.int .i64 sa) ∧ Later w' w'')) (KW : Hid (∀ w', Later w w' → Calls Try.prog 56 #[.agg #[.slice A n c], .int .i64 sa] w' fun r w'' => r = .returned (.int .i64 se) ∧ Later w' w'')) (KH : Hid (∀ w', Calls Try.prog 36 #[.int .i64 se, .int .i64 1] w' fun r w'' => r = .returned (.bool true) ∧ w' = w'')) (X : Wm.Bs) (KS : Hid (∀ w', Later w w' → Calls Try.prog 55 #[.agg #[.slice A n c], .int .i64 sa, .int .i64 0] w' (GotM n X w'))) :
    Calls Try.prog 19 #[.agg #[.slice A n c], .int .u32 root, .int .u32 va] w (GotMd n X 0 w) := by
  have w_va : IntKind.i64.wrap va = va := by rw [IntKind.wrap_i64]; omega
  have w_root : IntKind.i64.wrap root = root := by rw [IntKind.wrap_i64]; omega
  have d1 : decide (131072 ≤ va) = false := decide_eq_false (by omega)
  have d6 : (root == 0) = false := by simpa using h0
  have HPR := Lib.hid fun w' => rpage_any A n c root w' h1.2 (by omega)
  rw [hpr] at HPR
  clear h1 hr hv hlt h0 hpr
  have b5 := (Blk.new w 24 #[.slice A n c] [.slice A n c] rfl).alloc (.cells #[.slice none 0 0, .int .i64 0] 46)
  have b10 := Blk.new' (w.alloc (.cells #[.slice A n c] 24)) (w.heap.size + 1) 46 #[.slice none 0 0, .int .i64 0] [.slice none 0 0, .int .i64 0] (by simp) rfl
  have lx := (later1 w (.cells #[.slice A n c] 24)).alloc (by simp) (.cells #[.slice none 0 0, .int .i64 0] 46)
  go_enter Try.func19, Try.ntmps19
  go_upto_region 11 with (first
    | (go_at_call 34; (first | (with_reducible refine (HPR.out _).mono ?_)); rintro e w2 ⟨rfl, l2⟩; replace b5 := b5.keep l2; replace b10 := b10.keep l2; replace lx := Later.trans_ lx l2; have c5 := b5.cell (j := 0) (v := .slice A n c) rfl)
    | (go_at_call 52; refine (KT.out _ lx).mono ?_; rintro e w3 ⟨rfl, l3⟩; replace b5 := b5.keep l3; replace b10 := b10.keep l3; replace lx := Later.trans_ lx l3; have c5 := b5.cell (j := 0) (v := .slice A n c) rfl; have b10f := b10.alloc (.cells #[.int .i64 fa, .int .i64 fe, .bool true, .bool true, .bool false] 88); have lf := lx.alloc lx.size (.cells #[.int .i64 fa, .int .i64 fe, .bool true, .bool true, .bool false] 88); clear c5; have c5 := (b5.alloc (.cells #[.int .i64 fa, .int .i64 fe, .bool true, .bool true, .bool false] 88)).cell (j := 0) (v := .slice A n c) rfl))
  have b8 := Blk.new w3 88 #[.int .i64 fa, .int .i64 fe, .bool true, .bool true, .bool false] [.int .i64 fa, .int .i64 fe, .bool true, .bool true, .bool false] rfl
  have h8 : w.heap.size + 1 < w3.heap.size := b10.lt
  replace b5 := b5.alloc (.cells #[.int .i64 fa, .int .i64 fe, .bool true, .bool true, .bool false] 88)
  obtain ⟨u, hu⟩ : ∃ x, x = w3.alloc (.cells #[.int .i64 fa, .int .i64 fe, .bool true, .bool true, .bool false] 88) := ⟨_, rfl⟩
  rw [← hu] at b5 b8 b10f lf c5 ⊢
  clear hu l3 c5 b10 lx
  obtain ⟨g8, hg8⟩ : ∃ x, x = w3.heap.size := ⟨_, rfl⟩
  rw [← hg8] at b8 h8 ⊢
  clear hg8
  replace b5 := b5.drew
  replace b8 := b8.drew
  replace b10f := b10f.drew
  replace lf := lf.drew
  refine wp_region_held_drew (S := fun w' => w'.cell? ⟨w.heap.size, 0, none⟩ = some (.slice A n c) ∧ w'.cell? ⟨g8, 0, none⟩ = some (.int .i64 fa) ∧ w'.cell? ⟨g8, 1, none⟩ = some (.int .i64 fe) ∧ w'.cell? ⟨g8, 2, none⟩ = some (.bool true) ∧ w'.cell? ⟨g8, 3, none⟩ = some (.bool true) ∧ w'.cell? ⟨g8, 4, none⟩ = some (.bool false)) (by kernel_rfl) ⟨b5.cell (j := 0) rfl, b8.cell (j := 0) rfl, b8.cell (j := 1) rfl, b8.cell (j := 2) rfl, b8.cell (j := 3) rfl, b8.cell (j := 4) rfl⟩ (fun hHeld => ?_)
  refine wpAnyH_take (i := 0) (oi := ⟨some 52, .load 24 (.tmp 3), _, _, _, none⟩) (v := .agg #[.slice A n c]) rfl (by kernel_rfl) (by kernel_rfl) (by kernel_rfl) (fun _ _ _ h => h) (Or.inl ⟨by rfl, fun w hSw => by have e1 := hSw.1; clear hSw; go_simp⟩) hHeld ?_
  simp only [Act.put, List.setIfInBounds_toArray, List.set_cons_zero, List.set_cons_succ]
  refine wpAnyH_take (i := 1) (oi := ⟨some 53, .load 88 (.tmp 8), _, _, _, none⟩) (v := .agg #[.int .i64 fa, .int .i64 fe, .bool true, .bool true, .bool false]) rfl (by kernel_rfl) (by kernel_rfl) (by kernel_rfl) (fun _ _ _ h => h) (Or.inl ⟨by rfl, fun w hSw => by obtain ⟨_, e0, e1, e2, e3, e4⟩ := hSw; go_simp⟩) hHeld ?_
  simp only [Act.put, List.setIfInBounds_toArray, List.set_cons_zero, List.set_cons_succ]
  refine wpAnyH_take (i := 2) (oi := ⟨some 54, .move (.tmp 7), _, _, _, none⟩) (v := .int .i64 va) rfl (by kernel_rfl) (by kernel_rfl) (by kernel_rfl) (fun _ _ _ h => h) (Or.inl ⟨by rfl, fun _ _ => rfl⟩) hHeld ?_
  simp only [Act.put, List.setIfInBounds_toArray, List.set_cons_zero, List.set_cons_succ]
  refine wpAnyH_ready (rs := [3]) (by kernel_rfl) (by simp) (AllReadyH.cons (o := ⟨some 55, .call { callee := .value (.func 53), args := #[.tmp 53, .tmp 54], argTypes := #[88, 3] }, _, _, _, none⟩) rfl (fun K' hK => ?_) (AllReadyH.nil))
  go_simp
  refine (KB.out _).mono ?_
  rintro e w4 ⟨rfl, l4⟩
  replace b5 := b5.keep l4
  replace b8 := b8.keep l4
  replace b10f := b10f.keep l4
  replace lf := Later.trans_ lf l4
  refine hK.out _ _ ⟨b5.cell (j := 0) rfl, b8.cell (j := 0) rfl, b8.cell (j := 1) rfl, b8.cell (j := 2) rfl, b8.cell (j := 3) rfl, b8.cell (j := 4) rfl⟩ (fun hHeld => ?_)
  clear hK K'
  try simp only [Act.put, List.setIfInBounds_toArray, List.set_cons_zero, List.set_cons_succ]
  refine wpAnyH_ready (rs := [4]) (by kernel_rfl) (by simp) (AllReadyH.cons (o := ⟨some 56, .call { callee := .value (.func 56), args := #[.tmp 52, .tmp 55], argTypes := #[24, 3] }, _, _, _, none⟩) rfl (fun K' hK => ?_) (AllReadyH.nil))
  go_simp
  refine (KW.out _ lf).mono ?_
  rintro e w5 ⟨rfl, l5⟩
  replace b5 := b5.keep l5
  replace b8 := b8.keep l5
  replace b10f := b10f.keep l5
  replace lf := Later.trans_ lf l5
  refine hK.out _ _ ⟨b5.cell (j := 0) rfl, b8.cell (j := 0) rfl, b8.cell (j := 1) rfl, b8.cell (j := 2) rfl, b8.cell (j := 3) rfl, b8.cell (j := 4) rfl⟩ (fun hHeld => ?_)
  clear hK K'
  try simp only [Act.put, List.setIfInBounds_toArray, List.set_cons_zero, List.set_cons_succ]
  refine wpAnyH_ready (rs := [5]) (by kernel_rfl) (by simp) (AllReadyH.cons (o := ⟨some 57, .call { callee := .value (.func 36), args := #[.tmp 56, .const (.int .i64 1)], argTypes := #[3, 3] }, _, _, _, none⟩) rfl (fun K' hK => ?_) (AllReadyH.nil))
  go_simp
  refine (KH.out _).mono ?_
  rintro e w9 ⟨rfl, rfl⟩
  refine hK.out _ _ ⟨b5.cell (j := 0) rfl, b8.cell (j := 0) rfl, b8.cell (j := 1) rfl, b8.cell (j := 2) rfl, b8.cell (j := 3) rfl, b8.cell (j := 4) rfl⟩ (fun hHeld => ?_)
  clear hK K'
  try simp only [Act.put, List.setIfInBounds_toArray, List.set_cons_zero, List.set_cons_succ]
  refine wpAnyH_take (i := 6) (oi := ⟨some 58, .unOp .not 4 (.tmp 57), _, _, _, none⟩) (v := .bool false) rfl (by kernel_rfl) (by kernel_rfl) (by kernel_rfl) (fun _ _ _ h => h) (Or.inl ⟨by rfl, fun w _ => by go_simp⟩) hHeld ?_
  simp only [Act.put, List.setIfInBounds_toArray, List.set_cons_zero, List.set_cons_succ]
  refine wpAnyH_done (by kernel_rfl) ?_ _
  clear hHeld
  go_wp2
  replace b5 := b5.drew
  replace b8 := b8.drew
  replace b10f := b10f.drew
  replace lf := lf.drew
  refine wp_region_held_drew (S := fun w' => w'.cell? ⟨w.heap.size, 0, none⟩ = some (.slice A n c) ∧ w'.cell? ⟨g8, 0, none⟩ = some (.int .i64 fa) ∧ w'.cell? ⟨g8, 1, none⟩ = some (.int .i64 fe) ∧ w'.cell? ⟨g8, 2, none⟩ = some (.bool true) ∧ w'.cell? ⟨g8, 3, none⟩ = some (.bool true) ∧ w'.cell? ⟨g8, 4, none⟩ = some (.bool false)) (by kernel_rfl) ⟨b5.cell (j := 0) rfl, b8.cell (j := 0) rfl, b8.cell (j := 1) rfl, b8.cell (j := 2) rfl, b8.cell (j := 3) rfl, b8.cell (j := 4) rfl⟩ (fun hHeld => ?_)
  refine wpAnyH_take (i := 0) (oi := ⟨some 61, .load 24 (.tmp 3), _, _, _, none⟩) (v := .agg #[.slice A n c]) rfl (by kernel_rfl) (by kernel_rfl) (by kernel_rfl) (fun _ _ _ h => h) (Or.inl ⟨by rfl, fun w hSw => by have e1 := hSw.1; clear hSw; go_simp⟩) hHeld ?_
  simp only [Act.put, List.setIfInBounds_toArray, List.set_cons_zero, List.set_cons_succ]
  refine wpAnyH_take (i := 1) (oi := ⟨some 62, .load 88 (.tmp 8), _, _, _, none⟩) (v := .agg #[.int .i64 fa, .int .i64 fe, .bool true, .bool true, .bool false]) rfl (by kernel_rfl) (by kernel_rfl) (by kernel_rfl) (fun _ _ _ h => h) (Or.inl ⟨by rfl, fun w hSw => by obtain ⟨_, e0, e1, e2, e3, e4⟩ := hSw; go_simp⟩) hHeld ?_
  simp only [Act.put, List.setIfInBounds_toArray, List.set_cons_zero, List.set_cons_succ]
  refine wpAnyH_take (i := 2) (oi := ⟨some 63, .move (.tmp 7), _, _, _, none⟩) (v := .int .i64 va) rfl (by kernel_rfl) (by kernel_rfl) (by kernel_rfl) (fun _ _ _ h => h) (Or.inl ⟨by rfl, fun _ _ => rfl⟩) hHeld ?_
  simp only [Act.put, List.setIfInBounds_toArray, List.set_cons_zero, List.set_cons_succ]
  refine wpAnyH_ready (rs := [3]) (by kernel_rfl) (by simp) (AllReadyH.cons (o := ⟨some 64, .call { callee := .value (.func 53), args := #[.tmp 62, .tmp 63], argTypes := #[88, 3] }, _, _, _, none⟩) rfl (fun K' hK => ?_) (AllReadyH.nil))
  go_simp
  refine (KB.out _).mono ?_
  rintro e y4 ⟨rfl, z4⟩
  replace b5 := b5.keep z4
  replace b8 := b8.keep z4
  replace b10f := b10f.keep z4
  replace lf := Later.trans_ lf z4
  refine hK.out _ _ ⟨b5.cell (j := 0) rfl, b8.cell (j := 0) rfl, b8.cell (j := 1) rfl, b8.cell (j := 2) rfl, b8.cell (j := 3) rfl, b8.cell (j := 4) rfl⟩ (fun hHeld => ?_)
  clear hK K'
  try simp only [Act.put, List.setIfInBounds_toArray, List.set_cons_zero, List.set_cons_succ]
  refine wpAnyH_ready (rs := [4]) (by kernel_rfl) (by simp) (AllReadyH.cons (o := ⟨some 65, .call { callee := .value (.func 55), args := #[.tmp 61, .tmp 64, .const (.int .i64 0)], argTypes := #[24, 3, 3] }, _, _, _, none⟩) rfl (fun K' hK => ?_) (AllReadyH.nil))
  go_simp
  refine (KS.out _ lf).mono ?_
  have h10 := b10f.lt
  rintro e w6 ⟨g, c', rfl, k1, k2, k3, k4, l6⟩
  have hgx : w.heap.size + 1 ≠ g := by omega
  replace b5 := b5.keep l6
  replace b8 := b8.keep l6
  replace b10f := b10f.keep l6
  replace lf := Later.trans_ lf l6
  refine hK.out _ _ ⟨b5.cell (j := 0) rfl, b8.cell (j := 0) rfl, b8.cell (j := 1) rfl, b8.cell (j := 2) rfl, b8.cell (j := 3) rfl, b8.cell (j := 4) rfl⟩ (fun hHeld => ?_)
  clear hK K'
  try simp only [Act.put, List.setIfInBounds_toArray, List.set_cons_zero, List.set_cons_succ]
  refine wpAnyH_take (i := 5) (oi := ⟨some 66, .build 46 #[(0, .tmp 65)], _, _, _, none⟩) (v := .agg #[.slice (some ⟨g, 0, none⟩) n c', .int .i64 0]) rfl (by kernel_rfl) (by kernel_rfl) (by kernel_rfl) (fun _ _ _ h => h) (Or.inl ⟨by rfl, fun w _ => by have e1 := run_mk0 (some ⟨g, 0, none⟩) n c' w; go_simp⟩) hHeld ?_
  simp only [Act.put, List.setIfInBounds_toArray, List.set_cons_zero, List.set_cons_succ]
  refine wpAnyH_ready (rs := [6]) (by kernel_rfl) (by simp) (AllReadyH.cons (o := ⟨none, .store 46 (.tmp 6) (.tmp 66), _, _, _, none⟩) rfl (fun K' hK => ?_) (AllReadyH.nil))
  refine wp_store_abs 46 _ _ rfl _ 46 [.slice none 0 0, .int .i64 0] [.slice (some ⟨g, 0, none⟩) n c', .int .i64 0] rfl rfl b10f (mk_sz _ _) rfl (mk_one _ _ _ _) ?_
  intro w7 b11 o5
  replace b5 := b5.only o5 (by omega)
  replace b8 := b8.only o5 (by omega)
  replace k4 := k4.only o5 (Ne.symm hgx)
  replace lf := Below.only lf o5 (by omega)
  refine hK.out _ _ ⟨b5.cell (j := 0) rfl, b8.cell (j := 0) rfl, b8.cell (j := 1) rfl, b8.cell (j := 2) rfl, b8.cell (j := 3) rfl, b8.cell (j := 4) rfl⟩ (fun hHeld => ?_)
  clear hK K'
  try simp only [Act.put]
  refine wpAnyH_done (by kernel_rfl) ?_ _
  clear hHeld
  go_wp2
  exact bodyPost_ret (v := .agg #[.slice (some ⟨g, 0, none⟩) n c', .int .i64 0]) (results_blk Try.results19 _ _ (w.heap.size + 1) 46 [.slice (some ⟨g, 0, none⟩) n c', .int .i64 0] _ rfl b11 Try.underlying46 rfl (mk_sz _ _)) rfl
    ⟨_, _, rfl, k4.sl, lf⟩
end Go.Proofs.Ytempcbdlaoblhab
