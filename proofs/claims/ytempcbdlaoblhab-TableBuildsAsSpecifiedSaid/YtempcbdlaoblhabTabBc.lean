/-
  THE WALK OF the reference's Map.
-/
import Derived.Test.YtempcbdlaoblhabTabBa
import Derived.Deep.DeepCutAuto
namespace Go.Proofs.Ytempcbdlaoblhab
open Go.RowKit Go.ChangeShapes Go.WideShapes Go.ChangeAt

theorem wpAnyH_more0 {P : Program} {md : Region.Mode} {ops : Array Oper} {Q : Exit → Act → World → Prop} {S S' : World → Prop} (h : ∀ w, S' w → S w) : ∀ (fuel : Nat) (listed : Array Bool) (a : Act) (w : World), wpAnyH P md ops Q S' fuel listed a w → wpAnyH P md ops Q S fuel listed a w
  | 0, _, _, _, k => k
  | fuel + 1, _, _, _, k => ⟨k.1, fun i hi => wpOp_mono (fun a' w' h' => ⟨h _ h'.1, wpAnyH_more0 h fuel _ a' w' h'.2⟩) (k.2 i hi)⟩
theorem wpAnyH_more {P : Program} {md : Region.Mode} {ops : Array Oper} {Q : Exit → Act → World → Prop} {S S' : World → Prop} {fuel : Nat} {listed : Array Bool} {a : Act} {w : World} (h : ∀ w, S' w → S w) (k : wpAnyH P md ops Q S' fuel listed a w) : wpAnyH P md ops Q S fuel listed a w := wpAnyH_more0 h fuel listed a w k
theorem Sl.ne_blk {w : World} {A : Option Addr} {n B : Nat} {xs cs : List Value} {t : TypeId} (h : Sl w 128 A n xs) (hn : 1 ≤ n) (hb : Blk w B t cs) (hl : cs.length < 128) : ∀ ad, A = some ad → ad.block ≠ B := by
  intro ad e hne
  obtain ⟨ad', e', _, hc⟩ := h.2 (by omega)
  rw [e] at e'
  cases e'
  have hx : 127 < xs.length := by rw [h.1]; omega
  have h1 := hc 127 xs[127] (List.getElem?_eq_getElem hx)
  have h2 : ad.add 127 = { ad with off := ad.off + 127, spot := none } := by unfold Addr.add; rw [if_neg (by decide)]
  rw [h2] at h1
  unfold World.cell? at h1
  rw [show ({ ad with off := ad.off + 127, spot := none } : Addr).block = B from hne, show w.heap[B]? = some (.cells cs.toArray t (0, 0)) from hb] at h1
  have h3 : cs.toArray[ad.off + 127]? = none := by rw [List.getElem?_toArray, List.getElem?_eq_none (by omega)]
  simp [h3] at h1
set_option maxRecDepth 100000 in
set_option maxHeartbeats 4000000 in
theorem rmap_b1 (A : Option Addr) (n c : Nat) (root va pa r tb : Int) (b : Wm.Bs) (w : World) (hs : Sl w 128 A n (U b)) (_ : 1 ≤ n ∧ n ≤ 64) (hr : 0 ≤ root ∧ root < 4294967296) (hv : 0 ≤ va ∧ va < 4294967296) (hp : 0 ≤ pa ∧ pa < 4294967296) (ht : 0 ≤ tb ∧ tb < 4294967296) (hlt : ¬ va < 131072) :
    Calls Try.prog 17 #[.agg #[.slice A n c], .int .u32 root, .int .u32 va, .int .u32 pa, .int .i64 r, .int .u32 tb] w (GotMd n b 1 w) := by
  have w_va : IntKind.i64.wrap va = va := by rw [IntKind.wrap_i64]; omega
  have w_pa : IntKind.i64.wrap pa = pa := by rw [IntKind.wrap_i64]; omega
  have w_root : IntKind.i64.wrap root = root := by rw [IntKind.wrap_i64]; omega
  have w_tb : IntKind.i64.wrap tb = tb := by rw [IntKind.wrap_i64]; omega
  have d1 : decide (131072 ≤ va) = true := decide_eq_true (by omega)
  clear hr hv hp ht hlt
  have b5 := (Blk.new w 24 #[.slice A n c] [.slice A n c] rfl).alloc (.cells #[.slice none 0 0, .int .i64 0] 46)
  have b10 := Blk.new' (w.alloc (.cells #[.slice A n c] 24)) (w.heap.size + 1) 46 #[.slice none 0 0, .int .i64 0] [.slice none 0 0, .int .i64 0] (by simp) rfl
  have lx := (later1 w (.cells #[.slice A n c] 24)).alloc (by simp) (.cells #[.slice none 0 0, .int .i64 0] 46)
  go_enter Try.func17, Try.ntmps17
  go_wp2_with (first
    | ((with_reducible refine wpList_bld (o := ⟨some 50, .build 46 #[(0, .tmp 49), (1, .const (.int .i64 1))], _, _, _, none⟩) rfl _ _ _ _ rfl rfl (run_mk A n c 1 _) ?_))
    | ((with_reducible refine wpList_store_abs (o := ⟨none, .store 46 (.tmp 12) (.tmp 50), _, _, _, none⟩) rfl _ _ _ rfl (w.heap.size + 1) 46 [.slice none 0 0, .int .i64 0] [.slice A n c, .int .i64 1] ?_ ?_ b10 ?_ ?_ ?_ ?_); rfl; rfl; exact mk_sz _ _; rfl; exact mk_one _ _ _ _; intro w5 b8 o5))
  exact bodyPost_ret (v := .agg #[.slice A n c, .int .i64 1]) (results_blk Try.results17 _ _ (w.heap.size + 1) 46 [.slice A n c, .int .i64 1] _ rfl b8 Try.underlying46 rfl (mk_sz _ _)) rfl
    ⟨A, c, rfl, hs.keep (Below.only lx o5 (by omega)), Below.only lx o5 (by omega)⟩
set_option maxRecDepth 100000 in
set_option maxHeartbeats 4000000 in
theorem rmap_b2 (A : Option Addr) (n c : Nat) (root va pa r tb : Int) (b : Wm.Bs) (w : World) (hs : Sl w 128 A n (U b)) (_ : 1 ≤ n ∧ n ≤ 64) (hr : 0 ≤ root ∧ root < 4294967296) (hv : 0 ≤ va ∧ va < 4294967296) (hp : 0 ≤ pa ∧ pa < 4294967296) (ht : 0 ≤ tb ∧ tb < 4294967296) (hlt : va < 131072) (hm : ¬ va % 128 = 0) :
    Calls Try.prog 17 #[.agg #[.slice A n c], .int .u32 root, .int .u32 va, .int .u32 pa, .int .i64 r, .int .u32 tb] w (GotMd n b 1 w) := by
  have w_va : IntKind.i64.wrap va = va := by rw [IntKind.wrap_i64]; omega
  have w_pa : IntKind.i64.wrap pa = pa := by rw [IntKind.wrap_i64]; omega
  have w_root : IntKind.i64.wrap root = root := by rw [IntKind.wrap_i64]; omega
  have w_tb : IntKind.i64.wrap tb = tb := by rw [IntKind.wrap_i64]; omega
  have d1 : decide (131072 ≤ va) = false := decide_eq_false (by omega)
  have m2 : va.tmod 128 = va % 128 := Int.tmod_eq_emod_of_nonneg hv.1
  have d2 : (va % 128 != 0) = true := by simp [hm]
  clear hr hv hp ht hlt hm
  have b5 := (Blk.new w 24 #[.slice A n c] [.slice A n c] rfl).alloc (.cells #[.slice none 0 0, .int .i64 0] 46)
  have b10 := Blk.new' (w.alloc (.cells #[.slice A n c] 24)) (w.heap.size + 1) 46 #[.slice none 0 0, .int .i64 0] [.slice none 0 0, .int .i64 0] (by simp) rfl
  have lx := (later1 w (.cells #[.slice A n c] 24)).alloc (by simp) (.cells #[.slice none 0 0, .int .i64 0] 46)
  go_enter Try.func17, Try.ntmps17
  go_wp2_with (first
    | ((with_reducible refine wpList_bld (o := ⟨some 50, .build 46 #[(0, .tmp 49), (1, .const (.int .i64 1))], _, _, _, none⟩) rfl _ _ _ _ rfl rfl (run_mk A n c 1 _) ?_))
    | ((with_reducible refine wpList_store_abs (o := ⟨none, .store 46 (.tmp 12) (.tmp 50), _, _, _, none⟩) rfl _ _ _ rfl (w.heap.size + 1) 46 [.slice none 0 0, .int .i64 0] [.slice A n c, .int .i64 1] ?_ ?_ b10 ?_ ?_ ?_ ?_); rfl; rfl; exact mk_sz _ _; rfl; exact mk_one _ _ _ _; intro w5 b8 o5))
  exact bodyPost_ret (v := .agg #[.slice A n c, .int .i64 1]) (results_blk Try.results17 _ _ (w.heap.size + 1) 46 [.slice A n c, .int .i64 1] _ rfl b8 Try.underlying46 rfl (mk_sz _ _)) rfl
    ⟨A, c, rfl, hs.keep (Below.only lx o5 (by omega)), Below.only lx o5 (by omega)⟩
set_option maxRecDepth 100000 in
set_option maxHeartbeats 4000000 in
theorem rmap_b3 (A : Option Addr) (n c : Nat) (root va pa r tb : Int) (b : Wm.Bs) (w : World) (hs : Sl w 128 A n (U b)) (h1 : 1 ≤ n ∧ n ≤ 64) (hr : 0 ≤ root ∧ root < 4294967296) (hv : 0 ≤ va ∧ va < 4294967296) (hp : 0 ≤ pa ∧ pa < 4294967296) (ht : 0 ≤ tb ∧ tb < 4294967296) (hlt : va < 131072) (hm : va % 128 = 0) (hpp : Tm.pageB n pa = false) :
    Calls Try.prog 17 #[.agg #[.slice A n c], .int .u32 root, .int .u32 va, .int .u32 pa, .int .i64 r, .int .u32 tb] w (GotMd n b 1 w) := by
  have w_va : IntKind.i64.wrap va = va := by rw [IntKind.wrap_i64]; omega
  have w_pa : IntKind.i64.wrap pa = pa := by rw [IntKind.wrap_i64]; omega
  have w_root : IntKind.i64.wrap root = root := by rw [IntKind.wrap_i64]; omega
  have w_tb : IntKind.i64.wrap tb = tb := by rw [IntKind.wrap_i64]; omega
  have d1 : decide (131072 ≤ va) = false := decide_eq_false (by omega)
  have m2 : va.tmod 128 = va % 128 := Int.tmod_eq_emod_of_nonneg hv.1
  have d2 : (va % 128 != 0) = false := by simp [hm]
  have HP := Lib.hid fun w' => rpage_any A n c pa w' h1.2 (by omega)
  rw [hpp] at HP
  clear h1 hr hv hp ht hlt hm hpp
  have b5 := (Blk.new w 24 #[.slice A n c] [.slice A n c] rfl).alloc (.cells #[.slice none 0 0, .int .i64 0] 46)
  have b10 := Blk.new' (w.alloc (.cells #[.slice A n c] 24)) (w.heap.size + 1) 46 #[.slice none 0 0, .int .i64 0] [.slice none 0 0, .int .i64 0] (by simp) rfl
  have lx := (later1 w (.cells #[.slice A n c] 24)).alloc (by simp) (.cells #[.slice none 0 0, .int .i64 0] 46)
  go_enter Try.func17, Try.ntmps17
  go_wp2_with (first
    | (go_at_call 34; (first | (with_reducible refine (HP.out _).mono ?_)); rintro e w2 ⟨rfl, l2⟩; replace b5 := b5.keep l2; replace b10 := b10.keep l2; replace lx := Later.trans_ lx l2; have c5 := b5.cell (j := 0) (v := .slice A n c) rfl)
    | ((with_reducible refine wpList_bld (o := ⟨some 50, .build 46 #[(0, .tmp 49), (1, .const (.int .i64 1))], _, _, _, none⟩) rfl _ _ _ _ rfl rfl (run_mk A n c 1 _) ?_))
    | ((with_reducible refine wpList_store_abs (o := ⟨none, .store 46 (.tmp 12) (.tmp 50), _, _, _, none⟩) rfl _ _ _ rfl (w.heap.size + 1) 46 [.slice none 0 0, .int .i64 0] [.slice A n c, .int .i64 1] ?_ ?_ b10 ?_ ?_ ?_ ?_); rfl; rfl; exact mk_sz _ _; rfl; exact mk_one _ _ _ _; intro w5 b8 o5))
  exact bodyPost_ret (v := .agg #[.slice A n c, .int .i64 1]) (results_blk Try.results17 _ _ (w.heap.size + 1) 46 [.slice A n c, .int .i64 1] _ rfl b8 Try.underlying46 rfl (mk_sz _ _)) rfl
    ⟨A, c, rfl, hs.keep (Below.only lx o5 (by omega)), Below.only lx o5 (by omega)⟩
set_option maxRecDepth 100000 in
set_option maxHeartbeats 4000000 in
theorem rmap_b4 (A : Option Addr) (n c : Nat) (root va pa r tb : Int) (b : Wm.Bs) (w : World) (hs : Sl w 128 A n (U b)) (h1 : 1 ≤ n ∧ n ≤ 64) (hr : 0 ≤ root ∧ root < 4294967296) (hv : 0 ≤ va ∧ va < 4294967296) (hp : 0 ≤ pa ∧ pa < 4294967296) (ht : 0 ≤ tb ∧ tb < 4294967296) (hlt : va < 131072) (hm : va % 128 = 0) (hpp : Tm.pageB n pa = true) (hrr : Tm.rightsB r = false) :
    Calls Try.prog 17 #[.agg #[.slice A n c], .int .u32 root, .int .u32 va, .int .u32 pa, .int .i64 r, .int .u32 tb] w (GotMd n b 1 w) := by
  have w_va : IntKind.i64.wrap va = va := by rw [IntKind.wrap_i64]; omega
  have w_pa : IntKind.i64.wrap pa = pa := by rw [IntKind.wrap_i64]; omega
  have w_root : IntKind.i64.wrap root = root := by rw [IntKind.wrap_i64]; omega
  have w_tb : IntKind.i64.wrap tb = tb := by rw [IntKind.wrap_i64]; omega
  have d1 : decide (131072 ≤ va) = false := decide_eq_false (by omega)
  have m2 : va.tmod 128 = va % 128 := Int.tmod_eq_emod_of_nonneg hv.1
  have d2 : (va % 128 != 0) = false := by simp [hm]
  have HP := Lib.hid fun w' => rpage_any A n c pa w' h1.2 (by omega)
  rw [hpp] at HP
  have HR := Lib.hid fun w' => rrights_any r w'
  rw [hrr] at HR
  clear h1 hr hv hp ht hlt hm hpp hrr
  have b5 := (Blk.new w 24 #[.slice A n c] [.slice A n c] rfl).alloc (.cells #[.slice none 0 0, .int .i64 0] 46)
  have b10 := Blk.new' (w.alloc (.cells #[.slice A n c] 24)) (w.heap.size + 1) 46 #[.slice none 0 0, .int .i64 0] [.slice none 0 0, .int .i64 0] (by simp) rfl
  have lx := (later1 w (.cells #[.slice A n c] 24)).alloc (by simp) (.cells #[.slice none 0 0, .int .i64 0] 46)
  go_enter Try.func17, Try.ntmps17
  go_wp2_with (first
    | (go_at_call 34; (first | (with_reducible refine (HP.out _).mono ?_)); rintro e w2 ⟨rfl, l2⟩; replace b5 := b5.keep l2; replace b10 := b10.keep l2; replace lx := Later.trans_ lx l2; have c5 := b5.cell (j := 0) (v := .slice A n c) rfl)
    | (go_at_call 51; refine (HR.out _).mono ?_; rintro e wr ⟨rfl, rfl⟩)
    | ((with_reducible refine wpList_bld (o := ⟨some 50, .build 46 #[(0, .tmp 49), (1, .const (.int .i64 1))], _, _, _, none⟩) rfl _ _ _ _ rfl rfl (run_mk A n c 1 _) ?_))
    | ((with_reducible refine wpList_store_abs (o := ⟨none, .store 46 (.tmp 12) (.tmp 50), _, _, _, none⟩) rfl _ _ _ rfl (w.heap.size + 1) 46 [.slice none 0 0, .int .i64 0] [.slice A n c, .int .i64 1] ?_ ?_ b10 ?_ ?_ ?_ ?_); rfl; rfl; exact mk_sz _ _; rfl; exact mk_one _ _ _ _; intro w5 b8 o5))
  exact bodyPost_ret (v := .agg #[.slice A n c, .int .i64 1]) (results_blk Try.results17 _ _ (w.heap.size + 1) 46 [.slice A n c, .int .i64 1] _ rfl b8 Try.underlying46 rfl (mk_sz _ _)) rfl
    ⟨A, c, rfl, hs.keep (Below.only lx o5 (by omega)), Below.only lx o5 (by omega)⟩
set_option maxRecDepth 100000 in
set_option maxHeartbeats 4000000 in
theorem rmap_b5 (A : Option Addr) (n c : Nat) (root va pa r tb : Int) (b : Wm.Bs) (w : World) (hs : Sl w 128 A n (U b)) (h1 : 1 ≤ n ∧ n ≤ 64) (_ : 0 ≤ root ∧ root < 4294967296) (hv : 0 ≤ va ∧ va < 4294967296) (hp : 0 ≤ pa ∧ pa < 4294967296) (ht : 0 ≤ tb ∧ tb < 4294967296) (hlt : va < 131072) (hm : va % 128 = 0) (hpp : Tm.pageB n pa = true) (hrr : Tm.rightsB r = true) (h0 : root = 0) :
    Calls Try.prog 17 #[.agg #[.slice A n c], .int .u32 root, .int .u32 va, .int .u32 pa, .int .i64 r, .int .u32 tb] w (GotMd n b 1 w) := by
  have w_va : IntKind.i64.wrap va = va := by rw [IntKind.wrap_i64]; omega
  have w_pa : IntKind.i64.wrap pa = pa := by rw [IntKind.wrap_i64]; omega
  have w_root : IntKind.i64.wrap root = root := by rw [IntKind.wrap_i64]; omega
  have w_tb : IntKind.i64.wrap tb = tb := by rw [IntKind.wrap_i64]; omega
  have d1 : decide (131072 ≤ va) = false := decide_eq_false (by omega)
  have m2 : va.tmod 128 = va % 128 := Int.tmod_eq_emod_of_nonneg hv.1
  have d2 : (va % 128 != 0) = false := by simp [hm]
  have HP := Lib.hid fun w' => rpage_any A n c pa w' h1.2 (by omega)
  rw [hpp] at HP
  have HR := Lib.hid fun w' => rrights_any r w'
  rw [hrr] at HR
  have d6 : (root == 0) = true := by simpa using h0
  clear h1 hv hp ht hlt hm hpp hrr h0
  have b5 := (Blk.new w 24 #[.slice A n c] [.slice A n c] rfl).alloc (.cells #[.slice none 0 0, .int .i64 0] 46)
  have b10 := Blk.new' (w.alloc (.cells #[.slice A n c] 24)) (w.heap.size + 1) 46 #[.slice none 0 0, .int .i64 0] [.slice none 0 0, .int .i64 0] (by simp) rfl
  have lx := (later1 w (.cells #[.slice A n c] 24)).alloc (by simp) (.cells #[.slice none 0 0, .int .i64 0] 46)
  go_enter Try.func17, Try.ntmps17
  go_wp2_with (first
    | (go_at_call 34; (first | (with_reducible refine (HP.out _).mono ?_)); rintro e w2 ⟨rfl, l2⟩; replace b5 := b5.keep l2; replace b10 := b10.keep l2; replace lx := Later.trans_ lx l2; have c5 := b5.cell (j := 0) (v := .slice A n c) rfl)
    | (go_at_call 51; refine (HR.out _).mono ?_; rintro e wr ⟨rfl, rfl⟩)
    | ((with_reducible refine wpList_bld (o := ⟨some 50, .build 46 #[(0, .tmp 49), (1, .const (.int .i64 1))], _, _, _, none⟩) rfl _ _ _ _ rfl rfl (run_mk A n c 1 _) ?_))
    | ((with_reducible refine wpList_store_abs (o := ⟨none, .store 46 (.tmp 12) (.tmp 50), _, _, _, none⟩) rfl _ _ _ rfl (w.heap.size + 1) 46 [.slice none 0 0, .int .i64 0] [.slice A n c, .int .i64 1] ?_ ?_ b10 ?_ ?_ ?_ ?_); rfl; rfl; exact mk_sz _ _; rfl; exact mk_one _ _ _ _; intro w5 b8 o5))
  exact bodyPost_ret (v := .agg #[.slice A n c, .int .i64 1]) (results_blk Try.results17 _ _ (w.heap.size + 1) 46 [.slice A n c, .int .i64 1] _ rfl b8 Try.underlying46 rfl (mk_sz _ _)) rfl
    ⟨A, c, rfl, hs.keep (Below.only lx o5 (by omega)), Below.only lx o5 (by omega)⟩
set_option maxRecDepth 100000 in
set_option maxHeartbeats 4000000 in
theorem rmap_b6 (A : Option Addr) (n c : Nat) (root va pa r tb : Int) (b : Wm.Bs) (w : World) (hs : Sl w 128 A n (U b)) (h1 : 1 ≤ n ∧ n ≤ 64) (hr : 0 ≤ root ∧ root < 4294967296) (hv : 0 ≤ va ∧ va < 4294967296) (hp : 0 ≤ pa ∧ pa < 4294967296) (ht : 0 ≤ tb ∧ tb < 4294967296) (hlt : va < 131072) (hm : va % 128 = 0) (hpp : Tm.pageB n pa = true) (hrr : Tm.rightsB r = true) (h0 : root ≠ 0) (hpr : Tm.pageB n root = false) :
    Calls Try.prog 17 #[.agg #[.slice A n c], .int .u32 root, .int .u32 va, .int .u32 pa, .int .i64 r, .int .u32 tb] w (GotMd n b 1 w) := by
  have w_va : IntKind.i64.wrap va = va := by rw [IntKind.wrap_i64]; omega
  have w_pa : IntKind.i64.wrap pa = pa := by rw [IntKind.wrap_i64]; omega
  have w_root : IntKind.i64.wrap root = root := by rw [IntKind.wrap_i64]; omega
  have w_tb : IntKind.i64.wrap tb = tb := by rw [IntKind.wrap_i64]; omega
  have d1 : decide (131072 ≤ va) = false := decide_eq_false (by omega)
  have m2 : va.tmod 128 = va % 128 := Int.tmod_eq_emod_of_nonneg hv.1
  have d2 : (va % 128 != 0) = false := by simp [hm]
  have HP := Lib.hid fun w' => rpage_any A n c pa w' h1.2 (by omega)
  rw [hpp] at HP
  have HR := Lib.hid fun w' => rrights_any r w'
  rw [hrr] at HR
  have d6 : (root == 0) = false := by simpa using h0
  have HPR := Lib.hid fun w' => rpage_any A n c root w' h1.2 (by omega)
  rw [hpr] at HPR
  clear h1 hr hv hp ht hlt hm hpp hrr h0 hpr
  have b5 := (Blk.new w 24 #[.slice A n c] [.slice A n c] rfl).alloc (.cells #[.slice none 0 0, .int .i64 0] 46)
  have b10 := Blk.new' (w.alloc (.cells #[.slice A n c] 24)) (w.heap.size + 1) 46 #[.slice none 0 0, .int .i64 0] [.slice none 0 0, .int .i64 0] (by simp) rfl
  have lx := (later1 w (.cells #[.slice A n c] 24)).alloc (by simp) (.cells #[.slice none 0 0, .int .i64 0] 46)
  go_enter Try.func17, Try.ntmps17
  go_wp2_with (first
    | (go_at_call 34; (first | (with_reducible refine (HP.out _).mono ?_) | (with_reducible refine (HPR.out _).mono ?_)); rintro e w2 ⟨rfl, l2⟩; replace b5 := b5.keep l2; replace b10 := b10.keep l2; replace lx := Later.trans_ lx l2; have c5 := b5.cell (j := 0) (v := .slice A n c) rfl)
    | (go_at_call 51; refine (HR.out _).mono ?_; rintro e wr ⟨rfl, rfl⟩)
    | ((with_reducible refine wpList_bld (o := ⟨some 50, .build 46 #[(0, .tmp 49), (1, .const (.int .i64 1))], _, _, _, none⟩) rfl _ _ _ _ rfl rfl (run_mk A n c 1 _) ?_))
    | ((with_reducible refine wpList_store_abs (o := ⟨none, .store 46 (.tmp 12) (.tmp 50), _, _, _, none⟩) rfl _ _ _ rfl (w.heap.size + 1) 46 [.slice none 0 0, .int .i64 0] [.slice A n c, .int .i64 1] ?_ ?_ b10 ?_ ?_ ?_ ?_); rfl; rfl; exact mk_sz _ _; rfl; exact mk_one _ _ _ _; intro w5 b8 o5))
  exact bodyPost_ret (v := .agg #[.slice A n c, .int .i64 1]) (results_blk Try.results17 _ _ (w.heap.size + 1) 46 [.slice A n c, .int .i64 1] _ rfl b8 Try.underlying46 rfl (mk_sz _ _)) rfl
    ⟨A, c, rfl, hs.keep (Below.only lx o5 (by omega)), Below.only lx o5 (by omega)⟩
set_option maxRecDepth 100000 in
set_option maxHeartbeats 4000000 in
theorem rmap_form (A : Option Addr) (n c : Nat) (root va pa r tb : Int) (b : Wm.Bs) (w : World) (hs : Sl w 128 A n (U b)) (h1 : 1 ≤ n ∧ n ≤ 64) (hr : 0 ≤ root ∧ root < 4294967296) (hv : 0 ≤ va ∧ va < 4294967296) (hp : 0 ≤ pa ∧ pa < 4294967296) (ht : 0 ≤ tb ∧ tb < 4294967296) (hlt : va < 131072) (hm : va % 128 = 0) (hpp : Tm.pageB n pa = true) (hrr : Tm.rightsB r = true) (h0 : root ≠ 0) (hpr : Tm.pageB n root = true) (lg : Bool) (fa fe : Int) (KT : Hid (∀ w', Later w w' → Calls Try.prog 52 #[.agg #[.slice A n c], .int .i64 root, .int .i64 va] w' fun r w'' => r = .returned (.agg #[.int .i64 fa, .int .i64 fe, .bool true, .bool false, .bool lg]) ∧ Later w' w'')) :
    Calls Try.prog 17 #[.agg #[.slice A n c], .int .u32 root, .int .u32 va, .int .u32 pa, .int .i64 r, .int .u32 tb] w (GotMd n b 3 w) := by
  have w_va : IntKind.i64.wrap va = va := by rw [IntKind.wrap_i64]; omega
  have w_pa : IntKind.i64.wrap pa = pa := by rw [IntKind.wrap_i64]; omega
  have w_root : IntKind.i64.wrap root = root := by rw [IntKind.wrap_i64]; omega
  have w_tb : IntKind.i64.wrap tb = tb := by rw [IntKind.wrap_i64]; omega
  have d1 : decide (131072 ≤ va) = false := decide_eq_false (by omega)
  have m2 : va.tmod 128 = va % 128 := Int.tmod_eq_emod_of_nonneg hv.1
  have d2 : (va % 128 != 0) = false := by simp [hm]
  have HP := Lib.hid fun w' => rpage_any A n c pa w' h1.2 (by omega)
  rw [hpp] at HP
  have HR := Lib.hid fun w' => rrights_any r w'
  rw [hrr] at HR
  have d6 : (root == 0) = false := by simpa using h0
  have HPR := Lib.hid fun w' => rpage_any A n c root w' h1.2 (by omega)
  rw [hpr] at HPR
  clear h1 hr hv hp ht hlt hm hpp hrr h0 hpr
  have b5 := (Blk.new w 24 #[.slice A n c] [.slice A n c] rfl).alloc (.cells #[.slice none 0 0, .int .i64 0] 46)
  have b10 := Blk.new' (w.alloc (.cells #[.slice A n c] 24)) (w.heap.size + 1) 46 #[.slice none 0 0, .int .i64 0] [.slice none 0 0, .int .i64 0] (by simp) rfl
  have lx := (later1 w (.cells #[.slice A n c] 24)).alloc (by simp) (.cells #[.slice none 0 0, .int .i64 0] 46)
  go_enter Try.func17, Try.ntmps17
  go_wp2_with (first
    | (go_at_call 34; (first | (with_reducible refine (HP.out _).mono ?_) | (with_reducible refine (HPR.out _).mono ?_)); rintro e w2 ⟨rfl, l2⟩; replace b5 := b5.keep l2; replace b10 := b10.keep l2; replace lx := Later.trans_ lx l2; have c5 := b5.cell (j := 0) (v := .slice A n c) rfl)
    | (go_at_call 51; refine (HR.out _).mono ?_; rintro e wr ⟨rfl, rfl⟩)
    | (go_at_call 52; refine (KT.out _ lx).mono ?_; rintro e w3 ⟨rfl, l3⟩; replace b5 := b5.keep l3; replace b10 := b10.keep l3; replace lx := Later.trans_ lx l3; have c5 := b5.cell (j := 0) (v := .slice A n c) rfl; have b10f := b10.alloc (.cells #[.int .i64 fa, .int .i64 fe, .bool true, .bool false, .bool lg] 88); have lf := lx.alloc lx.size (.cells #[.int .i64 fa, .int .i64 fe, .bool true, .bool false, .bool lg] 88); clear c5; have c5 := (b5.alloc (.cells #[.int .i64 fa, .int .i64 fe, .bool true, .bool false, .bool lg] 88)).cell (j := 0) (v := .slice A n c) rfl)
    | ((with_reducible refine wpList_bld (o := ⟨some 64, .build 46 #[(0, .tmp 63), (1, .const (.int .i64 3))], _, _, _, none⟩) rfl _ _ _ _ rfl rfl (run_mk A n c 3 _) ?_))
    | ((with_reducible refine wpList_store_abs (o := ⟨none, .store 46 (.tmp 12) (.tmp 64), _, _, _, none⟩) rfl _ _ _ rfl (w.heap.size + 1) 46 [.slice none 0 0, .int .i64 0] [.slice A n c, .int .i64 3] ?_ ?_ b10f ?_ ?_ ?_ ?_); rfl; rfl; exact mk_sz _ _; rfl; exact mk_one _ _ _ _; intro w5 b8 o5))
  exact bodyPost_ret (v := .agg #[.slice A n c, .int .i64 3]) (results_blk Try.results17 _ _ (w.heap.size + 1) 46 [.slice A n c, .int .i64 3] _ rfl b8 Try.underlying46 rfl (mk_sz _ _)) rfl
    ⟨A, c, rfl, hs.keep (Below.only lf o5 (by omega)), Below.only lf o5 (by omega)⟩
set_option maxRecDepth 100000 in
set_option maxHeartbeats 4000000 in
theorem rmap_twice (A : Option Addr) (n c : Nat) (root va pa r tb : Int) (b : Wm.Bs) (w : World) (hs : Sl w 128 A n (U b)) (h1 : 1 ≤ n ∧ n ≤ 64) (hr : 0 ≤ root ∧ root < 4294967296) (hv : 0 ≤ va ∧ va < 4294967296) (hp : 0 ≤ pa ∧ pa < 4294967296) (ht : 0 ≤ tb ∧ tb < 4294967296) (hlt : va < 131072) (hm : va % 128 = 0) (hpp : Tm.pageB n pa = true) (hrr : Tm.rightsB r = true) (h0 : root ≠ 0) (hpr : Tm.pageB n root = true) (fa fe : Int) (KT : Hid (∀ w', Later w w' → Calls Try.prog 52 #[.agg #[.slice A n c], .int .i64 root, .int .i64 va] w' fun r w'' => r = .returned (.agg #[.int .i64 fa, .int .i64 fe, .bool true, .bool true, .bool true]) ∧ Later w' w'')) :
    Calls Try.prog 17 #[.agg #[.slice A n c], .int .u32 root, .int .u32 va, .int .u32 pa, .int .i64 r, .int .u32 tb] w (GotMd n b 6 w) := by
  have w_va : IntKind.i64.wrap va = va := by rw [IntKind.wrap_i64]; omega
  have w_pa : IntKind.i64.wrap pa = pa := by rw [IntKind.wrap_i64]; omega
  have w_root : IntKind.i64.wrap root = root := by rw [IntKind.wrap_i64]; omega
  have w_tb : IntKind.i64.wrap tb = tb := by rw [IntKind.wrap_i64]; omega
  have d1 : decide (131072 ≤ va) = false := decide_eq_false (by omega)
  have m2 : va.tmod 128 = va % 128 := Int.tmod_eq_emod_of_nonneg hv.1
  have d2 : (va % 128 != 0) = false := by simp [hm]
  have HP := Lib.hid fun w' => rpage_any A n c pa w' h1.2 (by omega)
  rw [hpp] at HP
  have HR := Lib.hid fun w' => rrights_any r w'
  rw [hrr] at HR
  have d6 : (root == 0) = false := by simpa using h0
  have HPR := Lib.hid fun w' => rpage_any A n c root w' h1.2 (by omega)
  rw [hpr] at HPR
  clear h1 hr hv hp ht hlt hm hpp hrr h0 hpr
  have b5 := (Blk.new w 24 #[.slice A n c] [.slice A n c] rfl).alloc (.cells #[.slice none 0 0, .int .i64 0] 46)
  have b10 := Blk.new' (w.alloc (.cells #[.slice A n c] 24)) (w.heap.size + 1) 46 #[.slice none 0 0, .int .i64 0] [.slice none 0 0, .int .i64 0] (by simp) rfl
  have lx := (later1 w (.cells #[.slice A n c] 24)).alloc (by simp) (.cells #[.slice none 0 0, .int .i64 0] 46)
  go_enter Try.func17, Try.ntmps17
  go_wp2_with (first
    | (go_at_call 34; (first | (with_reducible refine (HP.out _).mono ?_) | (with_reducible refine (HPR.out _).mono ?_)); rintro e w2 ⟨rfl, l2⟩; replace b5 := b5.keep l2; replace b10 := b10.keep l2; replace lx := Later.trans_ lx l2; have c5 := b5.cell (j := 0) (v := .slice A n c) rfl)
    | (go_at_call 51; refine (HR.out _).mono ?_; rintro e wr ⟨rfl, rfl⟩)
    | (go_at_call 52; refine (KT.out _ lx).mono ?_; rintro e w3 ⟨rfl, l3⟩; replace b5 := b5.keep l3; replace b10 := b10.keep l3; replace lx := Later.trans_ lx l3; have c5 := b5.cell (j := 0) (v := .slice A n c) rfl; have b10f := b10.alloc (.cells #[.int .i64 fa, .int .i64 fe, .bool true, .bool true, .bool true] 88); have lf := lx.alloc lx.size (.cells #[.int .i64 fa, .int .i64 fe, .bool true, .bool true, .bool true] 88); clear c5; have c5 := (b5.alloc (.cells #[.int .i64 fa, .int .i64 fe, .bool true, .bool true, .bool true] 88)).cell (j := 0) (v := .slice A n c) rfl)
    | ((with_reducible refine wpList_bld (o := ⟨some 72, .build 46 #[(0, .tmp 71), (1, .const (.int .i64 6))], _, _, _, none⟩) rfl _ _ _ _ rfl rfl (run_mk A n c 6 _) ?_))
    | ((with_reducible refine wpList_store_abs (o := ⟨none, .store 46 (.tmp 12) (.tmp 72), _, _, _, none⟩) rfl _ _ _ rfl (w.heap.size + 1) 46 [.slice none 0 0, .int .i64 0] [.slice A n c, .int .i64 6] ?_ ?_ b10f ?_ ?_ ?_ ?_); rfl; rfl; exact mk_sz _ _; rfl; exact mk_one _ _ _ _; intro w5 b8 o5))
  exact bodyPost_ret (v := .agg #[.slice A n c, .int .i64 6]) (results_blk Try.results17 _ _ (w.heap.size + 1) 46 [.slice A n c, .int .i64 6] _ rfl b8 Try.underlying46 rfl (mk_sz _ _)) rfl
    ⟨A, c, rfl, hs.keep (Below.only lf o5 (by omega)), Below.only lf o5 (by omega)⟩
set_option maxRecDepth 100000 in
set_option maxHeartbeats 4000000 in
theorem rmap_twice2 (A : Option Addr) (n c : Nat) (root va pa r tb : Int) (b : Wm.Bs) (w : World) (hs : Sl w 128 A n (U b)) (h1 : 1 ≤ n ∧ n ≤ 64) (hr : 0 ≤ root ∧ root < 4294967296) (hv : 0 ≤ va ∧ va < 4294967296) (hp : 0 ≤ pa ∧ pa < 4294967296) (ht : 0 ≤ tb ∧ tb < 4294967296) (hlt : va < 131072) (hm : va % 128 = 0) (hpp : Tm.pageB n pa = true) (hrr : Tm.rightsB r = true) (h0 : root ≠ 0) (hpr : Tm.pageB n root = true) (fa fe : Int) (KT : Hid (∀ w', Later w w' → Calls Try.prog 52 #[.agg #[.slice A n c], .int .i64 root, .int .i64 va] w' fun r w'' => r = .returned (.agg #[.int .i64 fa, .int .i64 fe, .bool true, .bool true, .bool false]) ∧ Later w' w'')) (sa se : Int) (KB : Hid (∀ w', Calls Try.prog 53 #[.agg #[.int .i64 fa, .int .i64 fe, .bool true, .bool true, .bool false], .int .i64 va] w' fun r w'' => r = .returned (.int .i64 sa) ∧ Later w' w'')) (KW : Hid (∀ w', Later w w' → Calls Try.prog 56 #[.agg #[.slice A n c], .int .i64 sa] w' fun r w'' => r = .returned (.int .i64 se) ∧ Later w' w'')) (KH : Hid (∀ w', Calls Try.prog 36 #[.int .i64 se, .int .i64 1] w' fun r w'' => r = .returned (.bool true) ∧ w' = w'')) :
    Calls Try.prog 17 #[.agg #[.slice A n c], .int .u32 root, .int .u32 va, .int .u32 pa, .int .i64 r, .int .u32 tb] w (GotMd n b 6 w) := by
  have w_va : IntKind.i64.wrap va = va := by rw [IntKind.wrap_i64]; omega
  have w_pa : IntKind.i64.wrap pa = pa := by rw [IntKind.wrap_i64]; omega
  have w_root : IntKind.i64.wrap root = root := by rw [IntKind.wrap_i64]; omega
  have w_tb : IntKind.i64.wrap tb = tb := by rw [IntKind.wrap_i64]; omega
  have d1 : decide (131072 ≤ va) = false := decide_eq_false (by omega)
  have m2 : va.tmod 128 = va % 128 := Int.tmod_eq_emod_of_nonneg hv.1
  have d2 : (va % 128 != 0) = false := by simp [hm]
  have HP := Lib.hid fun w' => rpage_any A n c pa w' h1.2 (by omega)
  rw [hpp] at HP
  have HR := Lib.hid fun w' => rrights_any r w'
  rw [hrr] at HR
  have d6 : (root == 0) = false := by simpa using h0
  have HPR := Lib.hid fun w' => rpage_any A n c root w' h1.2 (by omega)
  rw [hpr] at HPR
  clear h1 hr hv hp ht hlt hm hpp hrr h0 hpr
  have b5 := (Blk.new w 24 #[.slice A n c] [.slice A n c] rfl).alloc (.cells #[.slice none 0 0, .int .i64 0] 46)
  have b10 := Blk.new' (w.alloc (.cells #[.slice A n c] 24)) (w.heap.size + 1) 46 #[.slice none 0 0, .int .i64 0] [.slice none 0 0, .int .i64 0] (by simp) rfl
  have lx := (later1 w (.cells #[.slice A n c] 24)).alloc (by simp) (.cells #[.slice none 0 0, .int .i64 0] 46)
  go_enter Try.func17, Try.ntmps17
  go_upto_region 9 with (first
    | (go_at_call 34; (first | (with_reducible refine (HP.out _).mono ?_) | (with_reducible refine (HPR.out _).mono ?_)); rintro e w2 ⟨rfl, l2⟩; replace b5 := b5.keep l2; replace b10 := b10.keep l2; replace lx := Later.trans_ lx l2; have c5 := b5.cell (j := 0) (v := .slice A n c) rfl)
    | (go_at_call 51; refine (HR.out _).mono ?_; rintro e wr ⟨rfl, rfl⟩)
    | (go_at_call 52; refine (KT.out _ lx).mono ?_; rintro e w3 ⟨rfl, l3⟩; replace b5 := b5.keep l3; replace b10 := b10.keep l3; replace lx := Later.trans_ lx l3; have c5 := b5.cell (j := 0) (v := .slice A n c) rfl; have b10f := b10.alloc (.cells #[.int .i64 fa, .int .i64 fe, .bool true, .bool true, .bool false] 88); have lf := lx.alloc lx.size (.cells #[.int .i64 fa, .int .i64 fe, .bool true, .bool true, .bool false] 88); clear c5; have c5 := (b5.alloc (.cells #[.int .i64 fa, .int .i64 fe, .bool true, .bool true, .bool false] 88)).cell (j := 0) (v := .slice A n c) rfl))
  have b8 := Blk.new w3 88 #[.int .i64 fa, .int .i64 fe, .bool true, .bool true, .bool false] [.int .i64 fa, .int .i64 fe, .bool true, .bool true, .bool false] rfl
  have h8 : w.heap.size + 1 < w3.heap.size := b10.lt
  replace b5 := b5.alloc (.cells #[.int .i64 fa, .int .i64 fe, .bool true, .bool true, .bool false] 88)
  obtain ⟨u, hu⟩ : ∃ x, x = w3.alloc (.cells #[.int .i64 fa, .int .i64 fe, .bool true, .bool true, .bool false] 88) := ⟨_, rfl⟩
  rw [← hu] at b5 b8 b10f lf c5 ⊢
  clear hu l3 b10 lx
  obtain ⟨g8, hg8⟩ : ∃ x, x = w3.heap.size := ⟨_, rfl⟩
  rw [← hg8] at b8 h8 ⊢
  clear hg8
  go_upto_region 11 with (fail)
  clear c5
  have b15 := Blk.new u 24 #[.slice A n c] [.slice A n c] rfl
  have h15 : g8 < u.heap.size := b8.lt
  replace b5 := b5.alloc (.cells #[.slice A n c] 24)
  replace b8 := b8.alloc (.cells #[.slice A n c] 24)
  replace b10f := b10f.alloc (.cells #[.slice A n c] 24)
  replace lf := lf.alloc lf.size (.cells #[.slice A n c] 24)
  obtain ⟨u2, hu2⟩ : ∃ x, x = u.alloc (.cells #[.slice A n c] 24) := ⟨_, rfl⟩
  rw [← hu2] at b5 b8 b10f b15 lf ⊢
  clear hu2
  obtain ⟨g15, hg15⟩ : ∃ x, x = u.heap.size := ⟨_, rfl⟩
  rw [← hg15] at b15 h15 ⊢
  clear hg15
  have e2 := b8.cell (j := 2) (v := .bool true) rfl
  go_wp2_with (first
    | ((with_reducible refine wpList_load_blk (o := ⟨some 76, .load 88 (.tmp 14), _, _, _, none⟩) rfl _ _ rfl g8 88 [.int .i64 fa, .int .i64 fe, .bool true, .bool true, .bool false] _ ?_ b8 Try.underlying88 rfl (first_sz _ _ _ _ _) ?_); rfl)
    | (go_at_call 53; refine (KB.out _).mono ?_; rintro e w4 ⟨rfl, l4⟩; clear e2; replace b5 := b5.keep l4; replace b8 := b8.keep l4; replace b10f := b10f.keep l4; replace b15 := b15.keep l4; replace lf := Later.trans_ lf l4; have c15 := b15.cell (j := 0) (v := .slice A n c) rfl)
    | (go_at_call 56; refine (KW.out _ lf).mono ?_; rintro e w5 ⟨rfl, l6⟩; clear c15; replace b5 := b5.keep l6; replace b8 := b8.keep l6; replace b10f := b10f.keep l6; replace b15 := b15.keep l6; replace lf := Later.trans_ lf l6; have c15 := b15.cell (j := 0) (v := .slice A n c) rfl; have c5 := b5.cell (j := 0) (v := .slice A n c) rfl)
    | (go_at_call 36; refine (KH.out _).mono ?_; rintro e w9 ⟨rfl, rfl⟩)
    | ((with_reducible refine wpList_bld (o := ⟨some 121, .build 46 #[(0, .tmp 120), (1, .const (.int .i64 6))], _, _, _, none⟩) rfl _ _ _ _ rfl rfl (run_mk A n c 6 _) ?_))
    | ((with_reducible refine wpList_store_abs (o := ⟨none, .store 46 (.tmp 12) (.tmp 121), _, _, _, none⟩) rfl _ _ _ rfl (w.heap.size + 1) 46 [.slice none 0 0, .int .i64 0] [.slice A n c, .int .i64 6] ?_ ?_ b10f ?_ ?_ ?_ ?_); rfl; rfl; exact mk_sz _ _; rfl; exact mk_one _ _ _ _; intro w5 b8 o5))
  exact bodyPost_ret (v := .agg #[.slice A n c, .int .i64 6]) (results_blk Try.results17 _ _ (w.heap.size + 1) 46 [.slice A n c, .int .i64 6] _ rfl b8 Try.underlying46 rfl (mk_sz _ _)) rfl
    ⟨A, c, rfl, hs.keep (Below.only lf o5 (by omega)), Below.only lf o5 (by omega)⟩
set_option maxRecDepth 100000 in
set_option maxHeartbeats 4000000 in
theorem rmap_ok2 (A : Option Addr) (n c : Nat) (root va pa r tb : Int) (b : Wm.Bs) (w : World) (_ : Sl w 128 A n (U b)) (h1 : 1 ≤ n ∧ n ≤ 64) (hr : 0 ≤ root ∧ root < 4294967296) (hv : 0 ≤ va ∧ va < 4294967296) (hp : 0 ≤ pa ∧ pa < 4294967296) (ht : 0 ≤ tb ∧ tb < 4294967296) (hlt : va < 131072) (hm : va % 128 = 0) (hpp : Tm.pageB n pa = true) (hrr : Tm.rightsB r = true) (h0 : root ≠ 0) (hpr : Tm.pageB n root = true) (hrv : 0 ≤ r ∧ r < 16) (fa fe : Int) (KT : Hid (∀ w', Later w w' → Calls Try.prog 52 #[.agg #[.slice A n c], .int .i64 root, .int .i64 va] w' fun r w'' => r = .returned (.agg #[.int .i64 fa, .int .i64 fe, .bool true, .bool true, .bool false]) ∧ Later w' w'')) (sa se : Int) (KB : Hid (∀ w', Calls Try.prog 53 #[.agg #[.int .i64 fa, .int .i64 fe, .bool true, .bool true, .bool false], .int .i64 va] w' fun r w'' => r = .returned (.int .i64 sa) ∧ Later w' w'')) (KW : Hid (∀ w', Later w w' → Calls Try.prog 56 #[.agg #[.slice A n c], .int .i64 sa] w' fun r w'' => r = .returned (.int .i64 se) ∧ Later w' w'')) (KH : Hid (∀ w', Calls Try.prog 36 #[.int .i64 se, .int .i64 1] w' fun r w'' => r = .returned (.bool false) ∧ w' = w'')) (v : Int) (hvv : v = pa + 1 + r) (X : Wm.Bs) (KS : Hid (∀ w', Later w w' → Calls Try.prog 55 #[.agg #[.slice A n c], .int .i64 sa, .int .i64 v] w' (GotM n X w'))) :
    Calls Try.prog 17 #[.agg #[.slice A n c], .int .u32 root, .int .u32 va, .int .u32 pa, .int .i64 r, .int .u32 tb] w (GotMd n X 0 w) := by
  have w_va : IntKind.i64.wrap va = va := by rw [IntKind.wrap_i64]; omega
  have w_pa : IntKind.i64.wrap pa = pa := by rw [IntKind.wrap_i64]; omega
  have w_root : IntKind.i64.wrap root = root := by rw [IntKind.wrap_i64]; omega
  have w_tb : IntKind.i64.wrap tb = tb := by rw [IntKind.wrap_i64]; omega
  have d1 : decide (131072 ≤ va) = false := decide_eq_false (by omega)
  have m2 : va.tmod 128 = va % 128 := Int.tmod_eq_emod_of_nonneg hv.1
  have d2 : (va % 128 != 0) = false := by simp [hm]
  have HP := Lib.hid fun w' => rpage_any A n c pa w' h1.2 (by omega)
  rw [hpp] at HP
  have HR := Lib.hid fun w' => rrights_any r w'
  rw [hrr] at HR
  have d6 : (root == 0) = false := by simpa using h0
  have HPR := Lib.hid fun w' => rpage_any A n c root w' h1.2 (by omega)
  rw [hpr] at HPR
  have q1 : IntKind.i64.wrap (pa + 1) = pa + 1 := by rw [IntKind.wrap_i64]; omega
  have q3 : IntKind.i64.wrap (pa + 1 + r) = v := by rw [IntKind.wrap_i64]; omega
  clear hvv hrv h1 hr hv hp ht hlt hm hpp hrr h0 hpr
  have b5 := (Blk.new w 24 #[.slice A n c] [.slice A n c] rfl).alloc (.cells #[.slice none 0 0, .int .i64 0] 46)
  have b10 := Blk.new' (w.alloc (.cells #[.slice A n c] 24)) (w.heap.size + 1) 46 #[.slice none 0 0, .int .i64 0] [.slice none 0 0, .int .i64 0] (by simp) rfl
  have lx := (later1 w (.cells #[.slice A n c] 24)).alloc (by simp) (.cells #[.slice none 0 0, .int .i64 0] 46)
  go_enter Try.func17, Try.ntmps17
  go_upto_region 9 with (first
    | (go_at_call 34; (first | (with_reducible refine (HP.out _).mono ?_) | (with_reducible refine (HPR.out _).mono ?_)); rintro e w2 ⟨rfl, l2⟩; replace b5 := b5.keep l2; replace b10 := b10.keep l2; replace lx := Later.trans_ lx l2; have c5 := b5.cell (j := 0) (v := .slice A n c) rfl)
    | (go_at_call 51; refine (HR.out _).mono ?_; rintro e wr ⟨rfl, rfl⟩)
    | (go_at_call 52; refine (KT.out _ lx).mono ?_; rintro e w3 ⟨rfl, l3⟩; replace b5 := b5.keep l3; replace b10 := b10.keep l3; replace lx := Later.trans_ lx l3; have c5 := b5.cell (j := 0) (v := .slice A n c) rfl; have b10f := b10.alloc (.cells #[.int .i64 fa, .int .i64 fe, .bool true, .bool true, .bool false] 88); have lf := lx.alloc lx.size (.cells #[.int .i64 fa, .int .i64 fe, .bool true, .bool true, .bool false] 88); clear c5; have c5 := (b5.alloc (.cells #[.int .i64 fa, .int .i64 fe, .bool true, .bool true, .bool false] 88)).cell (j := 0) (v := .slice A n c) rfl))
  have b8 := Blk.new w3 88 #[.int .i64 fa, .int .i64 fe, .bool true, .bool true, .bool false] [.int .i64 fa, .int .i64 fe, .bool true, .bool true, .bool false] rfl
  have h8 : w.heap.size + 1 < w3.heap.size := b10.lt
  replace b5 := b5.alloc (.cells #[.int .i64 fa, .int .i64 fe, .bool true, .bool true, .bool false] 88)
  obtain ⟨u, hu⟩ : ∃ x, x = w3.alloc (.cells #[.int .i64 fa, .int .i64 fe, .bool true, .bool true, .bool false] 88) := ⟨_, rfl⟩
  rw [← hu] at b5 b8 b10f lf c5 ⊢
  clear hu l3 b10 lx
  obtain ⟨g8, hg8⟩ : ∃ x, x = w3.heap.size := ⟨_, rfl⟩
  rw [← hg8] at b8 h8 ⊢
  clear hg8
  go_upto_region 11 with (fail)
  clear c5
  have b15 := Blk.new u 24 #[.slice A n c] [.slice A n c] rfl
  have h15 : g8 < u.heap.size := b8.lt
  replace b5 := b5.alloc (.cells #[.slice A n c] 24)
  replace b8 := b8.alloc (.cells #[.slice A n c] 24)
  replace b10f := b10f.alloc (.cells #[.slice A n c] 24)
  replace lf := lf.alloc lf.size (.cells #[.slice A n c] 24)
  obtain ⟨u2, hu2⟩ : ∃ x, x = u.alloc (.cells #[.slice A n c] 24) := ⟨_, rfl⟩
  rw [← hu2] at b5 b8 b10f b15 lf ⊢
  clear hu2
  obtain ⟨g15, hg15⟩ : ∃ x, x = u.heap.size := ⟨_, rfl⟩
  rw [← hg15] at b15 h15 ⊢
  clear hg15
  have e2 := b8.cell (j := 2) (v := .bool true) rfl
  go_wp2_with (first
    | ((with_reducible refine wpList_load_blk (o := ⟨some 76, .load 88 (.tmp 14), _, _, _, none⟩) rfl _ _ rfl g8 88 [.int .i64 fa, .int .i64 fe, .bool true, .bool true, .bool false] _ ?_ b8 Try.underlying88 rfl (first_sz _ _ _ _ _) ?_); rfl)
    | (go_at_call 53; refine (KB.out _).mono ?_; rintro e w4 ⟨rfl, l4⟩; clear e2; replace b5 := b5.keep l4; replace b8 := b8.keep l4; replace b10f := b10f.keep l4; replace b15 := b15.keep l4; replace lf := Later.trans_ lf l4; have c15 := b15.cell (j := 0) (v := .slice A n c) rfl)
    | (go_at_call 56; refine (KW.out _ lf).mono ?_; rintro e w5 ⟨rfl, l6⟩; clear c15; replace b5 := b5.keep l6; replace b8 := b8.keep l6; replace b10f := b10f.keep l6; replace b15 := b15.keep l6; replace lf := Later.trans_ lf l6; have c15 := b15.cell (j := 0) (v := .slice A n c) rfl; have c5 := b5.cell (j := 0) (v := .slice A n c) rfl)
    | (go_at_call 36; refine (KH.out _).mono ?_; rintro e w9 ⟨rfl, rfl⟩)
    | (go_at_call 55; refine (KS.out _ lf).mono ?_; rintro e w6 ⟨g, c', rfl, k1, k2, k3, k4, l6⟩; have hgx : w.heap.size + 1 ≠ g := (by have := b10f.lt; omega); have b10g := b10f.keep l6; have lg6 := Later.trans_ lf l6)
    | ((with_reducible refine wpList_bld (o := ⟨some 130, .build 46 #[(0, .tmp 129)], _, _, _, none⟩) rfl _ _ _ _ rfl rfl (run_mk0 (some ⟨g, 0, none⟩) n c' _) ?_))
    | ((with_reducible refine wpList_store_abs (o := ⟨none, .store 46 (.tmp 12) (.tmp 130), _, _, _, none⟩) rfl _ _ _ rfl (w.heap.size + 1) 46 [.slice none 0 0, .int .i64 0] [.slice (some ⟨g, 0, none⟩) n c', .int .i64 0] ?_ ?_ b10g ?_ ?_ ?_ ?_); rfl; rfl; exact mk_sz _ _; rfl; exact mk_one _ _ _ _; intro w5 b8 o5))
  exact bodyPost_ret (v := .agg #[.slice (some ⟨g, 0, none⟩) n c', .int .i64 0]) (results_blk Try.results17 _ _ (w.heap.size + 1) 46 [.slice (some ⟨g, 0, none⟩) n c', .int .i64 0] _ rfl b8 Try.underlying46 rfl (mk_sz _ _)) rfl
    ⟨_, _, rfl, (k4.only o5 (Ne.symm hgx)).sl, Below.only lg6 o5 (by omega)⟩
set_option maxRecDepth 100000 in
set_option maxHeartbeats 4000000 in
theorem rmap_n1 (A : Option Addr) (n c : Nat) (root va pa r tb : Int) (b : Wm.Bs) (w : World) (hs : Sl w 128 A n (U b)) (h1 : 1 ≤ n ∧ n ≤ 64) (hr : 0 ≤ root ∧ root < 4294967296) (hv : 0 ≤ va ∧ va < 4294967296) (hp : 0 ≤ pa ∧ pa < 4294967296) (_ : 0 ≤ tb ∧ tb < 4294967296) (hlt : va < 131072) (hm : va % 128 = 0) (hpp : Tm.pageB n pa = true) (hrr : Tm.rightsB r = true) (h0 : root ≠ 0) (hpr : Tm.pageB n root = true) (htz : tb = 0) (rf lg : Bool) (fa fe : Int) (KT : Hid (∀ w', Later w w' → Calls Try.prog 52 #[.agg #[.slice A n c], .int .i64 root, .int .i64 va] w' fun r w'' => r = .returned (.agg #[.int .i64 fa, .int .i64 fe, .bool false, .bool rf, .bool lg]) ∧ Later w' w'')) :
    Calls Try.prog 17 #[.agg #[.slice A n c], .int .u32 root, .int .u32 va, .int .u32 pa, .int .i64 r, .int .u32 tb] w (GotMd n b 1 w) := by
  have w_va : IntKind.i64.wrap va = va := by rw [IntKind.wrap_i64]; omega
  have w_pa : IntKind.i64.wrap pa = pa := by rw [IntKind.wrap_i64]; omega
  have w_root : IntKind.i64.wrap root = root := by rw [IntKind.wrap_i64]; omega
  have w_tb : IntKind.i64.wrap tb = tb := by rw [IntKind.wrap_i64]; omega
  have d1 : decide (131072 ≤ va) = false := decide_eq_false (by omega)
  have m2 : va.tmod 128 = va % 128 := Int.tmod_eq_emod_of_nonneg hv.1
  have d2 : (va % 128 != 0) = false := by simp [hm]
  have HP := Lib.hid fun w' => rpage_any A n c pa w' h1.2 (by omega)
  rw [hpp] at HP
  have HR := Lib.hid fun w' => rrights_any r w'
  rw [hrr] at HR
  have d6 : (root == 0) = false := by simpa using h0
  have HPR := Lib.hid fun w' => rpage_any A n c root w' h1.2 (by omega)
  rw [hpr] at HPR
  have t0 : (tb == 0) = true := by simpa using htz
  clear htz h1 hr hv hp hlt hm hpp hrr h0 hpr
  have b5 := (Blk.new w 24 #[.slice A n c] [.slice A n c] rfl).alloc (.cells #[.slice none 0 0, .int .i64 0] 46)
  have b10 := Blk.new' (w.alloc (.cells #[.slice A n c] 24)) (w.heap.size + 1) 46 #[.slice none 0 0, .int .i64 0] [.slice none 0 0, .int .i64 0] (by simp) rfl
  have lx := (later1 w (.cells #[.slice A n c] 24)).alloc (by simp) (.cells #[.slice none 0 0, .int .i64 0] 46)
  go_enter Try.func17, Try.ntmps17
  go_upto_region 9 with (first
    | (go_at_call 34; (first | (with_reducible refine (HP.out _).mono ?_) | (with_reducible refine (HPR.out _).mono ?_)); rintro e w2 ⟨rfl, l2⟩; replace b5 := b5.keep l2; replace b10 := b10.keep l2; replace lx := Later.trans_ lx l2; have c5 := b5.cell (j := 0) (v := .slice A n c) rfl)
    | (go_at_call 51; refine (HR.out _).mono ?_; rintro e wr ⟨rfl, rfl⟩)
    | (go_at_call 52; refine (KT.out _ lx).mono ?_; rintro e w3 ⟨rfl, l3⟩; replace b5 := b5.keep l3; replace b10 := b10.keep l3; replace lx := Later.trans_ lx l3; have c5 := b5.cell (j := 0) (v := .slice A n c) rfl; have b10f := b10.alloc (.cells #[.int .i64 fa, .int .i64 fe, .bool false, .bool rf, .bool lg] 88); have lf := lx.alloc lx.size (.cells #[.int .i64 fa, .int .i64 fe, .bool false, .bool rf, .bool lg] 88); clear c5; have c5 := (b5.alloc (.cells #[.int .i64 fa, .int .i64 fe, .bool false, .bool rf, .bool lg] 88)).cell (j := 0) (v := .slice A n c) rfl))
  have b8 := Blk.new w3 88 #[.int .i64 fa, .int .i64 fe, .bool false, .bool rf, .bool lg] [.int .i64 fa, .int .i64 fe, .bool false, .bool rf, .bool lg] rfl
  have h8 : w.heap.size + 1 < w3.heap.size := b10.lt
  replace b5 := b5.alloc (.cells #[.int .i64 fa, .int .i64 fe, .bool false, .bool rf, .bool lg] 88)
  obtain ⟨u, hu⟩ : ∃ x, x = w3.alloc (.cells #[.int .i64 fa, .int .i64 fe, .bool false, .bool rf, .bool lg] 88) := ⟨_, rfl⟩
  rw [← hu] at b5 b8 b10f lf c5 ⊢
  clear hu l3 b10 lx
  obtain ⟨g8, hg8⟩ : ∃ x, x = w3.heap.size := ⟨_, rfl⟩
  rw [← hg8] at b8 h8 ⊢
  clear hg8
  go_upto_region 11 with (fail)
  clear c5
  have b15 := Blk.new u 24 #[.slice A n c] [.slice A n c] rfl
  have h15 : g8 < u.heap.size := b8.lt
  replace b5 := b5.alloc (.cells #[.slice A n c] 24)
  replace b8 := b8.alloc (.cells #[.slice A n c] 24)
  replace b10f := b10f.alloc (.cells #[.slice A n c] 24)
  replace lf := lf.alloc lf.size (.cells #[.slice A n c] 24)
  obtain ⟨u2, hu2⟩ : ∃ x, x = u.alloc (.cells #[.slice A n c] 24) := ⟨_, rfl⟩
  rw [← hu2] at b5 b8 b10f b15 lf ⊢
  clear hu2
  obtain ⟨g15, hg15⟩ : ∃ x, x = u.heap.size := ⟨_, rfl⟩
  rw [← hg15] at b15 h15 ⊢
  clear hg15
  have e2 := b8.cell (j := 2) (v := .bool false) rfl
  have c5 := b5.cell (j := 0) (v := .slice A n c) rfl
  go_wp2_with (first
    | ((with_reducible refine wpList_bld (o := ⟨some 94, .build 46 #[(0, .tmp 93), (1, .const (.int .i64 1))], _, _, _, none⟩) rfl _ _ _ _ rfl rfl (run_mk A n c 1 _) ?_))
    | ((with_reducible refine wpList_store_abs (o := ⟨none, .store 46 (.tmp 12) (.tmp 94), _, _, _, none⟩) rfl _ _ _ rfl (w.heap.size + 1) 46 [.slice none 0 0, .int .i64 0] [.slice A n c, .int .i64 1] ?_ ?_ b10f ?_ ?_ ?_ ?_); rfl; rfl; exact mk_sz _ _; rfl; exact mk_one _ _ _ _; intro w5 b8 o5))
  exact bodyPost_ret (v := .agg #[.slice A n c, .int .i64 1]) (results_blk Try.results17 _ _ (w.heap.size + 1) 46 [.slice A n c, .int .i64 1] _ rfl b8 Try.underlying46 rfl (mk_sz _ _)) rfl
    ⟨A, c, rfl, hs.keep (Below.only lf o5 (by omega)), Below.only lf o5 (by omega)⟩
set_option maxRecDepth 100000 in
set_option maxHeartbeats 4000000 in
theorem rmap_n2 (A : Option Addr) (n c : Nat) (root va pa r tb : Int) (b : Wm.Bs) (w : World) (hs : Sl w 128 A n (U b)) (h1 : 1 ≤ n ∧ n ≤ 64) (_ : 0 ≤ root ∧ root < 4294967296) (hv : 0 ≤ va ∧ va < 4294967296) (hp : 0 ≤ pa ∧ pa < 4294967296) (ht : 0 ≤ tb ∧ tb < 4294967296) (hlt : va < 131072) (hm : va % 128 = 0) (hpp : Tm.pageB n pa = true) (hrr : Tm.rightsB r = true) (h0 : root ≠ 0) (hpr : Tm.pageB n root = true) (htz : tb ≠ 0) (htr : tb = root) (rf lg : Bool) (fa fe : Int) (KT : Hid (∀ w', Later w w' → Calls Try.prog 52 #[.agg #[.slice A n c], .int .i64 root, .int .i64 va] w' fun r w'' => r = .returned (.agg #[.int .i64 fa, .int .i64 fe, .bool false, .bool rf, .bool lg]) ∧ Later w' w'')) :
    Calls Try.prog 17 #[.agg #[.slice A n c], .int .u32 root, .int .u32 va, .int .u32 pa, .int .i64 r, .int .u32 tb] w (GotMd n b 1 w) := by
  have w_va : IntKind.i64.wrap va = va := by rw [IntKind.wrap_i64]; omega
  have w_pa : IntKind.i64.wrap pa = pa := by rw [IntKind.wrap_i64]; omega
  have w_root : IntKind.i64.wrap root = root := by rw [IntKind.wrap_i64]; omega
  have w_tb : IntKind.i64.wrap tb = tb := by rw [IntKind.wrap_i64]; omega
  have d1 : decide (131072 ≤ va) = false := decide_eq_false (by omega)
  have m2 : va.tmod 128 = va % 128 := Int.tmod_eq_emod_of_nonneg hv.1
  have d2 : (va % 128 != 0) = false := by simp [hm]
  have HP := Lib.hid fun w' => rpage_any A n c pa w' h1.2 (by omega)
  rw [hpp] at HP
  have HR := Lib.hid fun w' => rrights_any r w'
  rw [hrr] at HR
  have d6 : (root == 0) = false := by simpa using h0
  have HPR := Lib.hid fun w' => rpage_any A n c root w' h1.2 (by omega)
  rw [hpr] at HPR
  have t0 : (tb == 0) = false := by simpa using htz
  have t1 : (tb == root) = true := by simpa using htr
  clear htz htr h1 hv hp ht hlt hm hpp hrr h0 hpr
  have b5 := (Blk.new w 24 #[.slice A n c] [.slice A n c] rfl).alloc (.cells #[.slice none 0 0, .int .i64 0] 46)
  have b10 := Blk.new' (w.alloc (.cells #[.slice A n c] 24)) (w.heap.size + 1) 46 #[.slice none 0 0, .int .i64 0] [.slice none 0 0, .int .i64 0] (by simp) rfl
  have lx := (later1 w (.cells #[.slice A n c] 24)).alloc (by simp) (.cells #[.slice none 0 0, .int .i64 0] 46)
  go_enter Try.func17, Try.ntmps17
  go_upto_region 9 with (first
    | (go_at_call 34; (first | (with_reducible refine (HP.out _).mono ?_) | (with_reducible refine (HPR.out _).mono ?_)); rintro e w2 ⟨rfl, l2⟩; replace b5 := b5.keep l2; replace b10 := b10.keep l2; replace lx := Later.trans_ lx l2; have c5 := b5.cell (j := 0) (v := .slice A n c) rfl)
    | (go_at_call 51; refine (HR.out _).mono ?_; rintro e wr ⟨rfl, rfl⟩)
    | (go_at_call 52; refine (KT.out _ lx).mono ?_; rintro e w3 ⟨rfl, l3⟩; replace b5 := b5.keep l3; replace b10 := b10.keep l3; replace lx := Later.trans_ lx l3; have c5 := b5.cell (j := 0) (v := .slice A n c) rfl; have b10f := b10.alloc (.cells #[.int .i64 fa, .int .i64 fe, .bool false, .bool rf, .bool lg] 88); have lf := lx.alloc lx.size (.cells #[.int .i64 fa, .int .i64 fe, .bool false, .bool rf, .bool lg] 88); clear c5; have c5 := (b5.alloc (.cells #[.int .i64 fa, .int .i64 fe, .bool false, .bool rf, .bool lg] 88)).cell (j := 0) (v := .slice A n c) rfl))
  have b8 := Blk.new w3 88 #[.int .i64 fa, .int .i64 fe, .bool false, .bool rf, .bool lg] [.int .i64 fa, .int .i64 fe, .bool false, .bool rf, .bool lg] rfl
  have h8 : w.heap.size + 1 < w3.heap.size := b10.lt
  replace b5 := b5.alloc (.cells #[.int .i64 fa, .int .i64 fe, .bool false, .bool rf, .bool lg] 88)
  obtain ⟨u, hu⟩ : ∃ x, x = w3.alloc (.cells #[.int .i64 fa, .int .i64 fe, .bool false, .bool rf, .bool lg] 88) := ⟨_, rfl⟩
  rw [← hu] at b5 b8 b10f lf c5 ⊢
  clear hu l3 b10 lx
  obtain ⟨g8, hg8⟩ : ∃ x, x = w3.heap.size := ⟨_, rfl⟩
  rw [← hg8] at b8 h8 ⊢
  clear hg8
  go_upto_region 11 with (fail)
  clear c5
  have b15 := Blk.new u 24 #[.slice A n c] [.slice A n c] rfl
  have h15 : g8 < u.heap.size := b8.lt
  replace b5 := b5.alloc (.cells #[.slice A n c] 24)
  replace b8 := b8.alloc (.cells #[.slice A n c] 24)
  replace b10f := b10f.alloc (.cells #[.slice A n c] 24)
  replace lf := lf.alloc lf.size (.cells #[.slice A n c] 24)
  obtain ⟨u2, hu2⟩ : ∃ x, x = u.alloc (.cells #[.slice A n c] 24) := ⟨_, rfl⟩
  rw [← hu2] at b5 b8 b10f b15 lf ⊢
  clear hu2
  obtain ⟨g15, hg15⟩ : ∃ x, x = u.heap.size := ⟨_, rfl⟩
  rw [← hg15] at b15 h15 ⊢
  clear hg15
  have e2 := b8.cell (j := 2) (v := .bool false) rfl
  have c5 := b5.cell (j := 0) (v := .slice A n c) rfl
  go_wp2_with (first
    | ((with_reducible refine wpList_bld (o := ⟨some 94, .build 46 #[(0, .tmp 93), (1, .const (.int .i64 1))], _, _, _, none⟩) rfl _ _ _ _ rfl rfl (run_mk A n c 1 _) ?_))
    | ((with_reducible refine wpList_store_abs (o := ⟨none, .store 46 (.tmp 12) (.tmp 94), _, _, _, none⟩) rfl _ _ _ rfl (w.heap.size + 1) 46 [.slice none 0 0, .int .i64 0] [.slice A n c, .int .i64 1] ?_ ?_ b10f ?_ ?_ ?_ ?_); rfl; rfl; exact mk_sz _ _; rfl; exact mk_one _ _ _ _; intro w5 b8 o5))
  exact bodyPost_ret (v := .agg #[.slice A n c, .int .i64 1]) (results_blk Try.results17 _ _ (w.heap.size + 1) 46 [.slice A n c, .int .i64 1] _ rfl b8 Try.underlying46 rfl (mk_sz _ _)) rfl
    ⟨A, c, rfl, hs.keep (Below.only lf o5 (by omega)), Below.only lf o5 (by omega)⟩
set_option maxRecDepth 100000 in
set_option maxHeartbeats 4000000 in
theorem rmap_n3 (A : Option Addr) (n c : Nat) (root va pa r tb : Int) (b : Wm.Bs) (w : World) (hs : Sl w 128 A n (U b)) (h1 : 1 ≤ n ∧ n ≤ 64) (hr : 0 ≤ root ∧ root < 4294967296) (hv : 0 ≤ va ∧ va < 4294967296) (hp : 0 ≤ pa ∧ pa < 4294967296) (ht : 0 ≤ tb ∧ tb < 4294967296) (hlt : va < 131072) (hm : va % 128 = 0) (hpp : Tm.pageB n pa = true) (hrr : Tm.rightsB r = true) (h0 : root ≠ 0) (hpr : Tm.pageB n root = true) (htz : tb ≠ 0) (htr : tb ≠ root) (hpt : Tm.pageB n tb = false) (rf lg : Bool) (fa fe : Int) (KT : Hid (∀ w', Later w w' → Calls Try.prog 52 #[.agg #[.slice A n c], .int .i64 root, .int .i64 va] w' fun r w'' => r = .returned (.agg #[.int .i64 fa, .int .i64 fe, .bool false, .bool rf, .bool lg]) ∧ Later w' w'')) :
    Calls Try.prog 17 #[.agg #[.slice A n c], .int .u32 root, .int .u32 va, .int .u32 pa, .int .i64 r, .int .u32 tb] w (GotMd n b 1 w) := by
  have w_va : IntKind.i64.wrap va = va := by rw [IntKind.wrap_i64]; omega
  have w_pa : IntKind.i64.wrap pa = pa := by rw [IntKind.wrap_i64]; omega
  have w_root : IntKind.i64.wrap root = root := by rw [IntKind.wrap_i64]; omega
  have w_tb : IntKind.i64.wrap tb = tb := by rw [IntKind.wrap_i64]; omega
  have d1 : decide (131072 ≤ va) = false := decide_eq_false (by omega)
  have m2 : va.tmod 128 = va % 128 := Int.tmod_eq_emod_of_nonneg hv.1
  have d2 : (va % 128 != 0) = false := by simp [hm]
  have HP := Lib.hid fun w' => rpage_any A n c pa w' h1.2 (by omega)
  rw [hpp] at HP
  have HR := Lib.hid fun w' => rrights_any r w'
  rw [hrr] at HR
  have d6 : (root == 0) = false := by simpa using h0
  have HPR := Lib.hid fun w' => rpage_any A n c root w' h1.2 (by omega)
  rw [hpr] at HPR
  have t0 : (tb == 0) = false := by simpa using htz
  have t1 : (tb == root) = false := by simpa using htr
  have HPT := Lib.hid fun w' => rpage_any A n c tb w' h1.2 (by omega)
  rw [hpt] at HPT
  clear htz htr hpt h1 hr hv hp ht hlt hm hpp hrr h0 hpr
  have b5 := (Blk.new w 24 #[.slice A n c] [.slice A n c] rfl).alloc (.cells #[.slice none 0 0, .int .i64 0] 46)
  have b10 := Blk.new' (w.alloc (.cells #[.slice A n c] 24)) (w.heap.size + 1) 46 #[.slice none 0 0, .int .i64 0] [.slice none 0 0, .int .i64 0] (by simp) rfl
  have lx := (later1 w (.cells #[.slice A n c] 24)).alloc (by simp) (.cells #[.slice none 0 0, .int .i64 0] 46)
  go_enter Try.func17, Try.ntmps17
  go_upto_region 9 with (first
    | (go_at_call 34; (first | (with_reducible refine (HP.out _).mono ?_) | (with_reducible refine (HPR.out _).mono ?_)); rintro e w2 ⟨rfl, l2⟩; replace b5 := b5.keep l2; replace b10 := b10.keep l2; replace lx := Later.trans_ lx l2; have c5 := b5.cell (j := 0) (v := .slice A n c) rfl)
    | (go_at_call 51; refine (HR.out _).mono ?_; rintro e wr ⟨rfl, rfl⟩)
    | (go_at_call 52; refine (KT.out _ lx).mono ?_; rintro e w3 ⟨rfl, l3⟩; replace b5 := b5.keep l3; replace b10 := b10.keep l3; replace lx := Later.trans_ lx l3; have c5 := b5.cell (j := 0) (v := .slice A n c) rfl; have b10f := b10.alloc (.cells #[.int .i64 fa, .int .i64 fe, .bool false, .bool rf, .bool lg] 88); have lf := lx.alloc lx.size (.cells #[.int .i64 fa, .int .i64 fe, .bool false, .bool rf, .bool lg] 88); clear c5; have c5 := (b5.alloc (.cells #[.int .i64 fa, .int .i64 fe, .bool false, .bool rf, .bool lg] 88)).cell (j := 0) (v := .slice A n c) rfl))
  have b8 := Blk.new w3 88 #[.int .i64 fa, .int .i64 fe, .bool false, .bool rf, .bool lg] [.int .i64 fa, .int .i64 fe, .bool false, .bool rf, .bool lg] rfl
  have h8 : w.heap.size + 1 < w3.heap.size := b10.lt
  replace b5 := b5.alloc (.cells #[.int .i64 fa, .int .i64 fe, .bool false, .bool rf, .bool lg] 88)
  obtain ⟨u, hu⟩ : ∃ x, x = w3.alloc (.cells #[.int .i64 fa, .int .i64 fe, .bool false, .bool rf, .bool lg] 88) := ⟨_, rfl⟩
  rw [← hu] at b5 b8 b10f lf c5 ⊢
  clear hu l3 b10 lx
  obtain ⟨g8, hg8⟩ : ∃ x, x = w3.heap.size := ⟨_, rfl⟩
  rw [← hg8] at b8 h8 ⊢
  clear hg8
  go_upto_region 11 with (fail)
  clear c5
  have b15 := Blk.new u 24 #[.slice A n c] [.slice A n c] rfl
  have h15 : g8 < u.heap.size := b8.lt
  replace b5 := b5.alloc (.cells #[.slice A n c] 24)
  replace b8 := b8.alloc (.cells #[.slice A n c] 24)
  replace b10f := b10f.alloc (.cells #[.slice A n c] 24)
  replace lf := lf.alloc lf.size (.cells #[.slice A n c] 24)
  obtain ⟨u2, hu2⟩ : ∃ x, x = u.alloc (.cells #[.slice A n c] 24) := ⟨_, rfl⟩
  rw [← hu2] at b5 b8 b10f b15 lf ⊢
  clear hu2
  obtain ⟨g15, hg15⟩ : ∃ x, x = u.heap.size := ⟨_, rfl⟩
  rw [← hg15] at b15 h15 ⊢
  clear hg15
  have e2 := b8.cell (j := 2) (v := .bool false) rfl
  have c5 := b5.cell (j := 0) (v := .slice A n c) rfl
  go_wp2_with (first
    | (go_at_call 34; refine (HPT.out _).mono ?_; rintro e w4 ⟨rfl, l4⟩; clear e2 c5; replace b5 := b5.keep l4; replace b8 := b8.keep l4; replace b10f := b10f.keep l4; replace b15 := b15.keep l4; replace lf := Later.trans_ lf l4; have c5 := b5.cell (j := 0) (v := .slice A n c) rfl; have c15 := b15.cell (j := 0) (v := .slice A n c) rfl)
    | ((with_reducible refine wpList_bld (o := ⟨some 94, .build 46 #[(0, .tmp 93), (1, .const (.int .i64 1))], _, _, _, none⟩) rfl _ _ _ _ rfl rfl (run_mk A n c 1 _) ?_))
    | ((with_reducible refine wpList_store_abs (o := ⟨none, .store 46 (.tmp 12) (.tmp 94), _, _, _, none⟩) rfl _ _ _ rfl (w.heap.size + 1) 46 [.slice none 0 0, .int .i64 0] [.slice A n c, .int .i64 1] ?_ ?_ b10f ?_ ?_ ?_ ?_); rfl; rfl; exact mk_sz _ _; rfl; exact mk_one _ _ _ _; intro w5 b8 o5))
  exact bodyPost_ret (v := .agg #[.slice A n c, .int .i64 1]) (results_blk Try.results17 _ _ (w.heap.size + 1) 46 [.slice A n c, .int .i64 1] _ rfl b8 Try.underlying46 rfl (mk_sz _ _)) rfl
    ⟨A, c, rfl, hs.keep (Below.only lf o5 (by omega)), Below.only lf o5 (by omega)⟩
theorem run_strz {w : World} {B : Nat} (h : Blk w B 5 (U (List.replicate 128 0))) : (convert 94 9 (.slice (some ⟨B, 0, none⟩) 128 128)).run Try.prog w = .ok (.string (strOfNums (List.replicate 128 0))) w := by
  refine run_str (P := Try.prog) 94 9 5 Try.underlying94 Try.underlying5 Try.underlying9 ?_ 128
  have hs := h.sl 0 128 (by rw [U_length, List.length_replicate]; omega)
  rwa [List.drop_zero, List.take_of_length_le (by rw [U_length, List.length_replicate]; omega)] at hs
set_option maxRecDepth 100000 in
set_option maxHeartbeats 4000000 in
theorem rmap_new (A : Option Addr) (n c : Nat) (root va pa r tb : Int) (b : Wm.Bs) (w : World) (_ : Sl w 128 A n (U b)) (h1 : 1 ≤ n ∧ n ≤ 64) (hr : 0 ≤ root ∧ root < 4294967296) (hv : 0 ≤ va ∧ va < 4294967296) (hp : 0 ≤ pa ∧ pa < 4294967296) (ht : 0 ≤ tb ∧ tb < 4294967296) (hlt : va < 131072) (hm : va % 128 = 0) (hpp : Tm.pageB n pa = true) (hrr : Tm.rightsB r = true) (h0 : root ≠ 0) (hpr : Tm.pageB n root = true) (hrv : 0 ≤ r ∧ r < 16) (htz : tb ≠ 0) (htr : tb ≠ root) (hpt : Tm.pageB n tb = true) (rf lg : Bool) (fa fe : Int) (KT : Hid (∀ w', Later w w' → Calls Try.prog 52 #[.agg #[.slice A n c], .int .i64 root, .int .i64 va] w' fun r w'' => r = .returned (.agg #[.int .i64 fa, .int .i64 fe, .bool false, .bool rf, .bool lg]) ∧ Later w' w'')) (X1 X2 X3 : Wm.Bs) (KWr : Hid (∀ w', Later w w' → Calls Try.prog 54 #[.agg #[.slice A n c], .int .i64 tb, .string (strOfNums (List.replicate 128 0))] w' (GotS n X1 true w'))) (KS1 : Hid (∀ A1 c1 w', Sl w' 128 A1 n (U X1) → Calls Try.prog 55 #[.agg #[.slice A1 n c1], .int .i64 fa, .int .i64 (tb + 1)] w' (GotM n X2 w'))) (sa se v : Int) (KW2 : Hid (∀ A1 c1 w', Sl w' 128 A1 n (U X2) → Calls Try.prog 56 #[.agg #[.slice A1 n c1], .int .i64 sa] w' fun r w'' => r = .returned (.int .i64 se) ∧ Later w' w'')) (KS2 : Hid (∀ A1 c1 w', Sl w' 128 A1 n (U X2) → Calls Try.prog 55 #[.agg #[.slice A1 n c1], .int .i64 sa, .int .i64 v] w' (GotM n X3 w'))) (KH : Hid (∀ w', Calls Try.prog 36 #[.int .i64 se, .int .i64 1] w' fun r w'' => r = .returned (.bool false) ∧ w' = w'')) (hsa : sa = tb + 4 * (va / 128 % 32)) (hvv : v = pa + 1 + r) :
    Calls Try.prog 17 #[.agg #[.slice A n c], .int .u32 root, .int .u32 va, .int .u32 pa, .int .i64 r, .int .u32 tb] w (GotMd n X3 0 w) := by
  have w_va : IntKind.i64.wrap va = va := by rw [IntKind.wrap_i64]; omega
  have w_pa : IntKind.i64.wrap pa = pa := by rw [IntKind.wrap_i64]; omega
  have w_root : IntKind.i64.wrap root = root := by rw [IntKind.wrap_i64]; omega
  have w_tb : IntKind.i64.wrap tb = tb := by rw [IntKind.wrap_i64]; omega
  have d1 : decide (131072 ≤ va) = false := decide_eq_false (by omega)
  have m2 : va.tmod 128 = va % 128 := Int.tmod_eq_emod_of_nonneg hv.1
  have d2 : (va % 128 != 0) = false := by simp [hm]
  have HP := Lib.hid fun w' => rpage_any A n c pa w' h1.2 (by omega)
  rw [hpp] at HP
  have HR := Lib.hid fun w' => rrights_any r w'
  rw [hrr] at HR
  have d6 : (root == 0) = false := by simpa using h0
  have HPR := Lib.hid fun w' => rpage_any A n c root w' h1.2 (by omega)
  rw [hpr] at HPR
  have t0 : (tb == 0) = false := by simpa using htz
  have t1 : (tb == root) = false := by simpa using htr
  have HPT := Lib.hid fun w' => rpage_any A n c tb w' h1.2 (by omega)
  rw [hpt] at HPT
  have q1 : IntKind.i64.wrap (pa + 1) = pa + 1 := by rw [IntKind.wrap_i64]; omega
  have q3 : IntKind.i64.wrap (pa + 1 + r) = v := by rw [IntKind.wrap_i64]; omega
  have v1 : va.tdiv 128 = va / 128 := Int.tdiv_eq_ediv_of_nonneg hv.1
  have v2 : (va / 128).tmod 32 = va / 128 % 32 := Int.tmod_eq_emod_of_nonneg (by omega)
  have v3 : IntKind.i64.wrap (va / 128) = va / 128 := by rw [IntKind.wrap_i64]; omega
  have v4 : IntKind.i64.wrap (4 * (va / 128 % 32)) = 4 * (va / 128 % 32) := by rw [IntKind.wrap_i64]; omega
  have v5 : IntKind.i64.wrap (tb + 4 * (va / 128 % 32)) = sa := by rw [IntKind.wrap_i64]; omega
  have v6 : IntKind.i64.wrap (tb + 1) = tb + 1 := by rw [IntKind.wrap_i64]; omega
  obtain ⟨i0, hi, hz0, hz1, hz2⟩ := info_parts u8_info
  have hmk := fun w' => run_makeSlice (P := Try.prog) w' 94 5 i0 _ Try.underlying94 hi hz0 .i64 .i64 128 128 (by omega) (by omega) (by rw [hz1]; omega) (by rw [hz2]; omega) (by omega)
  rw [hz1, show (128 : Int).toNat = 128 from rfl, make_bytes 128] at hmk
  obtain ⟨Z, hZ⟩ : ∃ Z, Z = (U (List.replicate 128 0)).toArray := ⟨_, rfl⟩
  rw [← hZ] at hmk
  have HZ := Lib.hid hZ
  clear hZ hi hz0 hz1 hz2
  have hn1 := h1.1
  clear hvv hrv htz htr hpt hsa hr hv hp ht hlt hm hpp hrr h0 hpr
  have b5 := (Blk.new w 24 #[.slice A n c] [.slice A n c] rfl).alloc (.cells #[.slice none 0 0, .int .i64 0] 46)
  have b10 := Blk.new' (w.alloc (.cells #[.slice A n c] 24)) (w.heap.size + 1) 46 #[.slice none 0 0, .int .i64 0] [.slice none 0 0, .int .i64 0] (by simp) rfl
  have lx := (later1 w (.cells #[.slice A n c] 24)).alloc (by simp) (.cells #[.slice none 0 0, .int .i64 0] 46)
  go_enter Try.func17, Try.ntmps17
  go_upto_region 9 with (first
    | (go_at_call 34; (first | (with_reducible refine (HP.out _).mono ?_) | (with_reducible refine (HPR.out _).mono ?_)); rintro e w2 ⟨rfl, l2⟩; replace b5 := b5.keep l2; replace b10 := b10.keep l2; replace lx := Later.trans_ lx l2; have c5 := b5.cell (j := 0) (v := .slice A n c) rfl)
    | (go_at_call 51; refine (HR.out _).mono ?_; rintro e wr ⟨rfl, rfl⟩)
    | (go_at_call 52; refine (KT.out _ lx).mono ?_; rintro e w3 ⟨rfl, l3⟩; replace b5 := b5.keep l3; replace b10 := b10.keep l3; replace lx := Later.trans_ lx l3; have c5 := b5.cell (j := 0) (v := .slice A n c) rfl; have b10f := b10.alloc (.cells #[.int .i64 fa, .int .i64 fe, .bool false, .bool rf, .bool lg] 88); have lf := lx.alloc lx.size (.cells #[.int .i64 fa, .int .i64 fe, .bool false, .bool rf, .bool lg] 88); clear c5; have c5 := (b5.alloc (.cells #[.int .i64 fa, .int .i64 fe, .bool false, .bool rf, .bool lg] 88)).cell (j := 0) (v := .slice A n c) rfl))
  have b8 := Blk.new w3 88 #[.int .i64 fa, .int .i64 fe, .bool false, .bool rf, .bool lg] [.int .i64 fa, .int .i64 fe, .bool false, .bool rf, .bool lg] rfl
  have h8 : w.heap.size + 1 < w3.heap.size := b10.lt
  replace b5 := b5.alloc (.cells #[.int .i64 fa, .int .i64 fe, .bool false, .bool rf, .bool lg] 88)
  obtain ⟨u, hu⟩ : ∃ x, x = w3.alloc (.cells #[.int .i64 fa, .int .i64 fe, .bool false, .bool rf, .bool lg] 88) := ⟨_, rfl⟩
  rw [← hu] at b5 b8 b10f lf c5 ⊢
  clear hu l3 b10 lx
  obtain ⟨g8, hg8⟩ : ∃ x, x = w3.heap.size := ⟨_, rfl⟩
  rw [← hg8] at b8 h8 ⊢
  clear hg8
  go_upto_region 11 with (fail)
  clear c5
  have b15 := Blk.new u 24 #[.slice A n c] [.slice A n c] rfl
  have h15 : g8 < u.heap.size := b8.lt
  replace b5 := b5.alloc (.cells #[.slice A n c] 24)
  replace b8 := b8.alloc (.cells #[.slice A n c] 24)
  replace b10f := b10f.alloc (.cells #[.slice A n c] 24)
  replace lf := lf.alloc lf.size (.cells #[.slice A n c] 24)
  obtain ⟨u2, hu2⟩ : ∃ x, x = u.alloc (.cells #[.slice A n c] 24) := ⟨_, rfl⟩
  rw [← hu2] at b5 b8 b10f b15 lf ⊢
  clear hu2
  obtain ⟨g15, hg15⟩ : ∃ x, x = u.heap.size := ⟨_, rfl⟩
  rw [← hg15] at b15 h15 ⊢
  clear hg15
  have e2 := b8.cell (j := 2) (v := .bool false) rfl
  have c5 := b5.cell (j := 0) (v := .slice A n c) rfl
  go_upto_region 15 with (first
    | (go_at_call 34; refine (HPT.out _).mono ?_; rintro e w4 ⟨rfl, l4⟩; clear e2 c5; replace b5 := b5.keep l4; replace b8 := b8.keep l4; replace b10f := b10f.keep l4; replace b15 := b15.keep l4; replace lf := Later.trans_ lf l4; have c5 := b5.cell (j := 0) (v := .slice A n c) rfl; have c15 := b15.cell (j := 0) (v := .slice A n c) rfl))
  clear c5
  replace b5 := b5.drew
  replace b8 := b8.drew
  replace b10f := b10f.drew
  replace b15 := b15.drew
  replace lf := lf.drew
  clear c15
  have c15 := b15.cell (j := 0) (v := .slice A n c) rfl
  have c15q : w4.cell? ⟨g15, 0, none⟩ = some (.slice A n c) := c15
  have h4 : g15 < w4.heap.size := b15.lt
  refine wp_region_held_drew (S := fun w' => True) (by kernel_rfl) trivial (fun hHeld => ?_)
  refine wpAnyH_take (i := 1) (oi := ⟨some 96, .move (.tmp 5), _, _, _, none⟩) (v := .int .u32 tb) rfl (by kernel_rfl) (by kernel_rfl) (by kernel_rfl) (fun _ _ _ h => h) (Or.inl ⟨by rfl, fun _ _ => rfl⟩) hHeld ?_
  simp only [Act.put, List.setIfInBounds_toArray, List.set_cons_zero, List.set_cons_succ]
  refine wpAnyH_take (i := 2) (oi := ⟨some 97, .convert 25 3 (.tmp 96), _, _, _, none⟩) (v := .int .i64 tb) rfl (by kernel_rfl) (by kernel_rfl) (by kernel_rfl) (fun _ _ _ h => h) (Or.inl ⟨by rfl, fun w _ => by go_simp⟩) hHeld ?_
  simp only [Act.put, List.setIfInBounds_toArray, List.set_cons_zero, List.set_cons_succ]
  refine wpAnyH_ready (rs := [0, 3]) (by kernel_rfl) (by simp) (AllReadyH.cons (o := ⟨some 95, .load 24 (.tmp 15), _, _, _, none⟩) rfl (fun K' hK => ?_) (AllReadyH.cons (o := ⟨some 98, .makeSlice 94 (.const (.int .i64 128)) (.const (.int .i64 128)), _, _, _, none⟩) rfl (fun K' hK => ?_) AllReadyH.nil))
  · go_simp
    refine hK.out _ _ trivial (fun hHeld => ?_)
    clear hK K'
    try simp only [Act.put, List.setIfInBounds_toArray, List.set_cons_zero, List.set_cons_succ]
    refine wpAnyH_ready (rs := [3]) (by kernel_rfl) (by simp) (AllReadyH.cons (o := ⟨some 98, .makeSlice 94 (.const (.int .i64 128)) (.const (.int .i64 128)), _, _, _, none⟩) rfl (fun K' hK => ?_) AllReadyH.nil)
    go_simp
    have b99 := (Blk.new w4 5 Z (U (List.replicate 128 0)) HZ.out).drew
    replace b5 := b5.alloc (.cells Z 5)
    replace b8 := b8.alloc (.cells Z 5)
    replace b10f := b10f.alloc (.cells Z 5)
    replace b15 := b15.alloc (.cells Z 5)
    replace lf := lf.alloc lf.size (.cells Z 5)
    refine hK.out _ _ trivial (fun hHeld => ?_)
    clear hK K'
    try simp only [Act.put, List.setIfInBounds_toArray, List.set_cons_zero, List.set_cons_succ]
    refine wpAnyH_more (S' := fun w' => (convert 94 9 (.slice (some ⟨w4.heap.size, 0, none⟩) 128 128)).run Try.prog w' = .ok (.string (strOfNums (List.replicate 128 0))) w') (fun _ h => trivial) ?_
    replace hHeld := (run_strz b99)
    refine wpAnyH_take (i := 4) (oi := ⟨some 99, .convert 94 9 (.tmp 98), _, _, _, none⟩) (v := .string (strOfNums (List.replicate 128 0))) rfl (by kernel_rfl) (by kernel_rfl) (by kernel_rfl) (fun _ _ _ h => h) (Or.inl ⟨by rfl, fun w hSw => by have e1 := hSw; clear hSw; go_simp⟩) hHeld ?_
    simp only [Act.put, List.setIfInBounds_toArray, List.set_cons_zero, List.set_cons_succ]
    refine wpAnyH_ready (rs := [5]) (by kernel_rfl) (by simp) (AllReadyH.cons (o := ⟨some 100, .call { callee := .value (.func 54), args := #[.tmp 95, .tmp 97, .tmp 99], argTypes := #[24, 3, 9] }, _, _, _, none⟩) rfl (fun K' hK => ?_) AllReadyH.nil)
    go_simp
    refine (KWr.out _ lf).mono ?_
    rintro e w5 ⟨A1, c1, rfl, k1, k2, k3, l5⟩
    replace b99 := b99.keep l5
    replace b5 := b5.keep l5
    replace b8 := b8.keep l5
    replace b10f := b10f.keep l5
    replace b15 := b15.keep l5
    replace lf := Later.trans_ lf l5
    clear c15
    have c15 := b15.cell (j := 0) (v := .slice A n c) rfl
    have f15 := b15.frz 0
    have hne := k3.ne_blk hn1 b15 (by simp)
    refine hK.out _ _ (run_strz b99) (fun hHeld => ?_)
    clear hK K'
    try simp only [Act.put, List.setIfInBounds_toArray, List.set_cons_zero, List.set_cons_succ]
    refine wpAnyH_take (i := 6) (oi := ⟨some 101, .field 92 (.tmp 100) 0, _, _, _, none⟩) (v := .agg #[.slice A1 n c1]) rfl (by kernel_rfl) (by kernel_rfl) (by kernel_rfl) (fun _ _ _ h => h) (Or.inl ⟨by rfl, fun w _ => by have e1 := st_f0 (.slice A1 n c1) (.bool true) w; go_simp⟩) hHeld ?_
    simp only [Act.put, List.setIfInBounds_toArray, List.set_cons_zero, List.set_cons_succ]
    refine wpAnyH_ready (rs := [7]) (by kernel_rfl) (by simp) (AllReadyH.cons (o := ⟨none, .store 24 (.tmp 15) (.tmp 101), _, _, _, none⟩) rfl (fun K' hK => ?_) AllReadyH.nil)
    go_simp
    replace b99 := b99.set_other ⟨g15, 0, none⟩ (.slice A1 n c1) (by show w4.heap.size ≠ g15; omega)
    replace b5 := b5.set_other ⟨g15, 0, none⟩ (.slice A1 n c1) (by show w.heap.size ≠ g15; omega)
    replace b8 := b8.set_other ⟨g15, 0, none⟩ (.slice A1 n c1) (by show g8 ≠ g15; omega)
    replace b10f := b10f.set_other ⟨g15, 0, none⟩ (.slice A1 n c1) (by show w.heap.size + 1 ≠ g15; omega)
    replace lf := lf.setCell (p := ⟨g15, 0, none⟩) (by show w.heap.size ≤ g15; omega) (.slice A1 n c1)
    replace k3 := k3.only_ne (Only.set _ g15 0 (.slice A1 n c1)) hne
    replace b15 := b15.set 0 (.slice A1 n c1)
    clear c15 f15
    refine hK.out _ _ (run_strz b99) (fun hHeld => ?_)
    clear hK K'
    try simp only [Act.put, List.setIfInBounds_toArray, List.set_cons_zero, List.set_cons_succ]
    refine wpAnyH_done (by kernel_rfl) ?_ _
    clear hHeld
    have c15 := b15.cell (j := 0) (v := .slice A1 n c1) rfl
    have e0 := b8.cell (j := 0) (v := .int .i64 fa) rfl
    obtain ⟨u5, hu5⟩ : ∃ x, x = w5.setCell ⟨g15, 0, none⟩ (.slice A1 n c1) := ⟨_, rfl⟩
    rw [← hu5] at b5 b8 b10f b15 k3 lf c15 e0 ⊢
    clear hu5 l5 b99
    go_upto_region 17 with (first
      | (go_at_call 55; refine (KS1.out A1 c1 _ k3).mono ?_; rintro e w7 ⟨g2, c2, rfl, j1, j2, j3, j4, l7⟩; have hg2 : g15 < g2 := (by have := b15.lt; omega); clear c15 e0; replace b5 := b5.keep l7; replace b8 := b8.keep l7; replace b10f := b10f.keep l7; replace b15 := b15.keep l7; replace lf := Later.trans_ lf l7; have c15 := b15.cell (j := 0) (v := .slice A1 n c1) rfl; have f15 := b15.frz 0))
    replace b5 := b5.set_other ⟨g15, 0, none⟩ (.slice (some ⟨g2, 0, none⟩) n c2) (by show w.heap.size ≠ g15; omega)
    replace b8 := b8.set_other ⟨g15, 0, none⟩ (.slice (some ⟨g2, 0, none⟩) n c2) (by show g8 ≠ g15; omega)
    replace b10f := b10f.set_other ⟨g15, 0, none⟩ (.slice (some ⟨g2, 0, none⟩) n c2) (by show w.heap.size + 1 ≠ g15; omega)
    replace lf := lf.setCell (p := ⟨g15, 0, none⟩) (by show w.heap.size ≤ g15; omega) (.slice (some ⟨g2, 0, none⟩) n c2)
    replace j4 := j4.only (Only.set _ g15 0 (.slice (some ⟨g2, 0, none⟩) n c2)) (by omega)
    replace b15 := b15.set 0 (.slice (some ⟨g2, 0, none⟩) n c2)
    clear c15 f15
    obtain ⟨u7, hu7⟩ : ∃ x, x = w7.setCell ⟨g15, 0, none⟩ (.slice (some ⟨g2, 0, none⟩) n c2) := ⟨_, rfl⟩
    rw [← hu7] at b5 b8 b10f b15 j4 lf ⊢
    clear hu7 l7 k3
    have c15 := b15.cell (j := 0) (v := .slice (some ⟨g2, 0, none⟩) n c2) rfl
    go_wp2_with (first
      | (go_at_call 56; refine (KW2.out _ _ _ j4.sl).mono ?_; rintro e w8 ⟨rfl, l8⟩; clear c15; replace b5 := b5.keep l8; replace b8 := b8.keep l8; replace b10f := b10f.keep l8; replace b15 := b15.keep l8; replace lf := Later.trans_ lf l8; replace j4 := j4.keep l8; have c15 := b15.cell (j := 0) (v := .slice (some ⟨g2, 0, none⟩) n c2) rfl)
      | (go_at_call 36; refine (KH.out _).mono ?_; rintro e w9 ⟨rfl, rfl⟩)
      | (go_at_call 55; refine (KS2.out _ _ _ j4.sl).mono ?_; rintro e w6 ⟨g, c', rfl, k1, k2, k3, k4, l6⟩; have hgx : w.heap.size + 1 ≠ g := (by have := b10f.lt; omega); have b10g := b10f.keep l6; have lg6 := Later.trans_ lf l6)
      | ((with_reducible refine wpList_bld (o := ⟨some 130, .build 46 #[(0, .tmp 129)], _, _, _, none⟩) rfl _ _ _ _ rfl rfl (run_mk0 (some ⟨g, 0, none⟩) n c' _) ?_))
      | ((with_reducible refine wpList_store_abs (o := ⟨none, .store 46 (.tmp 12) (.tmp 130), _, _, _, none⟩) rfl _ _ _ rfl (w.heap.size + 1) 46 [.slice none 0 0, .int .i64 0] [.slice (some ⟨g, 0, none⟩) n c', .int .i64 0] ?_ ?_ b10g ?_ ?_ ?_ ?_); rfl; rfl; exact mk_sz _ _; rfl; exact mk_one _ _ _ _; intro w5 b8 o5))
    exact bodyPost_ret (v := .agg #[.slice (some ⟨g, 0, none⟩) n c', .int .i64 0]) (results_blk Try.results17 _ _ (w.heap.size + 1) 46 [.slice (some ⟨g, 0, none⟩) n c', .int .i64 0] _ rfl b8 Try.underlying46 rfl (mk_sz _ _)) rfl
      ⟨_, _, rfl, (k4.only o5 (Ne.symm hgx)).sl, Below.only lg6 o5 (by omega)⟩
  · go_simp
    have b99 := (Blk.new w4 5 Z (U (List.replicate 128 0)) HZ.out).drew
    replace b5 := b5.alloc (.cells Z 5)
    replace b8 := b8.alloc (.cells Z 5)
    replace b10f := b10f.alloc (.cells Z 5)
    replace b15 := b15.alloc (.cells Z 5)
    replace lf := lf.alloc lf.size (.cells Z 5)
    refine hK.out _ _ trivial (fun hHeld => ?_)
    clear hK K'
    try simp only [Act.put, List.setIfInBounds_toArray, List.set_cons_zero, List.set_cons_succ]
    refine wpAnyH_more (S' := fun w' => (convert 94 9 (.slice (some ⟨w4.heap.size, 0, none⟩) 128 128)).run Try.prog w' = .ok (.string (strOfNums (List.replicate 128 0))) w') (fun _ h => trivial) ?_
    replace hHeld := (run_strz b99)
    refine wpAnyH_take (i := 4) (oi := ⟨some 99, .convert 94 9 (.tmp 98), _, _, _, none⟩) (v := .string (strOfNums (List.replicate 128 0))) rfl (by kernel_rfl) (by kernel_rfl) (by kernel_rfl) (fun _ _ _ h => h) (Or.inl ⟨by rfl, fun w hSw => by have e1 := hSw; clear hSw; go_simp⟩) hHeld ?_
    simp only [Act.put, List.setIfInBounds_toArray, List.set_cons_zero, List.set_cons_succ]
    refine wpAnyH_ready (rs := [0]) (by kernel_rfl) (by simp) (AllReadyH.cons (o := ⟨some 95, .load 24 (.tmp 15), _, _, _, none⟩) rfl (fun K' hK => ?_) AllReadyH.nil)
    go_simp
    refine hK.out _ _ (run_strz b99) (fun hHeld => ?_)
    clear hK K'
    try simp only [Act.put, List.setIfInBounds_toArray, List.set_cons_zero, List.set_cons_succ]
    refine wpAnyH_ready (rs := [5]) (by kernel_rfl) (by simp) (AllReadyH.cons (o := ⟨some 100, .call { callee := .value (.func 54), args := #[.tmp 95, .tmp 97, .tmp 99], argTypes := #[24, 3, 9] }, _, _, _, none⟩) rfl (fun K' hK => ?_) AllReadyH.nil)
    go_simp
    refine (KWr.out _ lf).mono ?_
    rintro e w5 ⟨A1, c1, rfl, k1, k2, k3, l5⟩
    replace b99 := b99.keep l5
    replace b5 := b5.keep l5
    replace b8 := b8.keep l5
    replace b10f := b10f.keep l5
    replace b15 := b15.keep l5
    replace lf := Later.trans_ lf l5
    clear c15
    have c15 := b15.cell (j := 0) (v := .slice A n c) rfl
    have f15 := b15.frz 0
    have hne := k3.ne_blk hn1 b15 (by simp)
    refine hK.out _ _ (run_strz b99) (fun hHeld => ?_)
    clear hK K'
    try simp only [Act.put, List.setIfInBounds_toArray, List.set_cons_zero, List.set_cons_succ]
    refine wpAnyH_take (i := 6) (oi := ⟨some 101, .field 92 (.tmp 100) 0, _, _, _, none⟩) (v := .agg #[.slice A1 n c1]) rfl (by kernel_rfl) (by kernel_rfl) (by kernel_rfl) (fun _ _ _ h => h) (Or.inl ⟨by rfl, fun w _ => by have e1 := st_f0 (.slice A1 n c1) (.bool true) w; go_simp⟩) hHeld ?_
    simp only [Act.put, List.setIfInBounds_toArray, List.set_cons_zero, List.set_cons_succ]
    refine wpAnyH_ready (rs := [7]) (by kernel_rfl) (by simp) (AllReadyH.cons (o := ⟨none, .store 24 (.tmp 15) (.tmp 101), _, _, _, none⟩) rfl (fun K' hK => ?_) AllReadyH.nil)
    go_simp
    replace b99 := b99.set_other ⟨g15, 0, none⟩ (.slice A1 n c1) (by show w4.heap.size ≠ g15; omega)
    replace b5 := b5.set_other ⟨g15, 0, none⟩ (.slice A1 n c1) (by show w.heap.size ≠ g15; omega)
    replace b8 := b8.set_other ⟨g15, 0, none⟩ (.slice A1 n c1) (by show g8 ≠ g15; omega)
    replace b10f := b10f.set_other ⟨g15, 0, none⟩ (.slice A1 n c1) (by show w.heap.size + 1 ≠ g15; omega)
    replace lf := lf.setCell (p := ⟨g15, 0, none⟩) (by show w.heap.size ≤ g15; omega) (.slice A1 n c1)
    replace k3 := k3.only_ne (Only.set _ g15 0 (.slice A1 n c1)) hne
    replace b15 := b15.set 0 (.slice A1 n c1)
    clear c15 f15
    refine hK.out _ _ (run_strz b99) (fun hHeld => ?_)
    clear hK K'
    try simp only [Act.put, List.setIfInBounds_toArray, List.set_cons_zero, List.set_cons_succ]
    refine wpAnyH_done (by kernel_rfl) ?_ _
    clear hHeld
    have c15 := b15.cell (j := 0) (v := .slice A1 n c1) rfl
    have e0 := b8.cell (j := 0) (v := .int .i64 fa) rfl
    obtain ⟨u5, hu5⟩ : ∃ x, x = w5.setCell ⟨g15, 0, none⟩ (.slice A1 n c1) := ⟨_, rfl⟩
    rw [← hu5] at b5 b8 b10f b15 k3 lf c15 e0 ⊢
    clear hu5 l5 b99
    go_upto_region 17 with (first
      | (go_at_call 55; refine (KS1.out A1 c1 _ k3).mono ?_; rintro e w7 ⟨g2, c2, rfl, j1, j2, j3, j4, l7⟩; have hg2 : g15 < g2 := (by have := b15.lt; omega); clear c15 e0; replace b5 := b5.keep l7; replace b8 := b8.keep l7; replace b10f := b10f.keep l7; replace b15 := b15.keep l7; replace lf := Later.trans_ lf l7; have c15 := b15.cell (j := 0) (v := .slice A1 n c1) rfl; have f15 := b15.frz 0))
    replace b5 := b5.set_other ⟨g15, 0, none⟩ (.slice (some ⟨g2, 0, none⟩) n c2) (by show w.heap.size ≠ g15; omega)
    replace b8 := b8.set_other ⟨g15, 0, none⟩ (.slice (some ⟨g2, 0, none⟩) n c2) (by show g8 ≠ g15; omega)
    replace b10f := b10f.set_other ⟨g15, 0, none⟩ (.slice (some ⟨g2, 0, none⟩) n c2) (by show w.heap.size + 1 ≠ g15; omega)
    replace lf := lf.setCell (p := ⟨g15, 0, none⟩) (by show w.heap.size ≤ g15; omega) (.slice (some ⟨g2, 0, none⟩) n c2)
    replace j4 := j4.only (Only.set _ g15 0 (.slice (some ⟨g2, 0, none⟩) n c2)) (by omega)
    replace b15 := b15.set 0 (.slice (some ⟨g2, 0, none⟩) n c2)
    clear c15 f15
    obtain ⟨u7, hu7⟩ : ∃ x, x = w7.setCell ⟨g15, 0, none⟩ (.slice (some ⟨g2, 0, none⟩) n c2) := ⟨_, rfl⟩
    rw [← hu7] at b5 b8 b10f b15 j4 lf ⊢
    clear hu7 l7 k3
    have c15 := b15.cell (j := 0) (v := .slice (some ⟨g2, 0, none⟩) n c2) rfl
    go_wp2_with (first
      | (go_at_call 56; refine (KW2.out _ _ _ j4.sl).mono ?_; rintro e w8 ⟨rfl, l8⟩; clear c15; replace b5 := b5.keep l8; replace b8 := b8.keep l8; replace b10f := b10f.keep l8; replace b15 := b15.keep l8; replace lf := Later.trans_ lf l8; replace j4 := j4.keep l8; have c15 := b15.cell (j := 0) (v := .slice (some ⟨g2, 0, none⟩) n c2) rfl)
      | (go_at_call 36; refine (KH.out _).mono ?_; rintro e w9 ⟨rfl, rfl⟩)
      | (go_at_call 55; refine (KS2.out _ _ _ j4.sl).mono ?_; rintro e w6 ⟨g, c', rfl, k1, k2, k3, k4, l6⟩; have hgx : w.heap.size + 1 ≠ g := (by have := b10f.lt; omega); have b10g := b10f.keep l6; have lg6 := Later.trans_ lf l6)
      | ((with_reducible refine wpList_bld (o := ⟨some 130, .build 46 #[(0, .tmp 129)], _, _, _, none⟩) rfl _ _ _ _ rfl rfl (run_mk0 (some ⟨g, 0, none⟩) n c' _) ?_))
      | ((with_reducible refine wpList_store_abs (o := ⟨none, .store 46 (.tmp 12) (.tmp 130), _, _, _, none⟩) rfl _ _ _ rfl (w.heap.size + 1) 46 [.slice none 0 0, .int .i64 0] [.slice (some ⟨g, 0, none⟩) n c', .int .i64 0] ?_ ?_ b10g ?_ ?_ ?_ ?_); rfl; rfl; exact mk_sz _ _; rfl; exact mk_one _ _ _ _; intro w5 b8 o5))
    exact bodyPost_ret (v := .agg #[.slice (some ⟨g, 0, none⟩) n c', .int .i64 0]) (results_blk Try.results17 _ _ (w.heap.size + 1) 46 [.slice (some ⟨g, 0, none⟩) n c', .int .i64 0] _ rfl b8 Try.underlying46 rfl (mk_sz _ _)) rfl
      ⟨_, _, rfl, (k4.only o5 (Ne.symm hgx)).sl, Below.only lg6 o5 (by omega)⟩
end Go.Proofs.Ytempcbdlaoblhab
