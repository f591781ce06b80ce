/-
  THE WALKS OF the reference's set, MapLarge and Unmap.
-/
import Derived.Test.YtempcbdlaoblhabTabX
import Derived.Test.YtempcbdlaoblhabTabB5
import Derived.Test.YtempcbdlaoblhabTabF
import Derived.Test.YtempcbdlaoblhabMemK2
namespace Go.Proofs.Ytempcbdlaoblhab
open Go.RowKit Go.ChangeShapes Go.WideShapes Go.ChangeAt

theorem st_f0 (x y : Value) (w : World) : (Instr.field 92 (.agg #[x, y]) 0).run Try.prog w = .ok (.agg #[x]) w := by kernel_rfl
theorem mk_sz (a b : Value) : (Try.prog.info? 46).map (·.size) = some [a, b].length := by
  show _ = some 2
  kernel_rfl
theorem mk_one (A : Option Addr) (n c : Nat) (e : Int) : ∀ v ∈ [Value.slice A n c, .int .i64 e], v.oneCell' = true := by
  intro v hv
  simp only [List.mem_cons, List.not_mem_nil, or_false] at hv
  rcases hv with rfl | rfl <;> rfl
theorem run_mk (A : Option Addr) (n c : Nat) (e : Int) (w : World) : (Instr.build 46 #[(0, .agg #[.slice A n c]), (1, .int .i64 e)]).run Try.prog w = .ok (.agg #[.slice A n c, .int .i64 e]) w := run_build w _ _ _ (by kernel_rfl)
theorem run_mk0 (A : Option Addr) (n c : Nat) (w : World) : (Instr.build 46 #[(0, .agg #[.slice A n c])]).run Try.prog w = .ok (.agg #[.slice A n c, .int .i64 0]) w := run_build w _ _ _ (by kernel_rfl)
theorem wpList_bld {ops : Array Oper} {rest : List Oper} {o : Oper} {a : Act} {w : World} {Q : Exit → Act → World → Prop} (hg : o.guard = none) (t : TypeId) (fs : Array (Nat × Operand)) (vs : Array (Nat × Value)) (C : Array Value) (ho : o.op = .build t fs)
    (hv : fs.toList.map (fun x => (x.1, a.eval x.2)) = vs.toList) (hr : (Instr.build t vs).run Try.prog w = .ok (.agg C) w)
    (hK : wpList Try.prog ops Q rest (a.put o.dst (.agg C)) w) : wpList Try.prog ops Q (o :: rest) a w := by
  refine wpList_plain hg fun K' hK' => ?_
  have e : fs.map (fun x => (x.1, a.eval x.2)) = vs := by
    apply Array.toList_inj.1; rw [Array.toList_map]; exact hv
  unfold Oper.wp execOp
  simp only [ho, e, Sem.run_bind, hr, Sem.run_pure, Result.andThen_ok]
  exact hK' _ _ hK
theorem rset_any (A : Option Addr) (n c : Nat) (a v : Int) (b : Wm.Bs) (w : World) (hs : Sl w 128 A n (U b)) (h1 : 1 ≤ n ∧ n ≤ 64) (ht : Mm.There (n * 128) a 4) (hv : 0 ≤ v ∧ v < 4294967296) :
    Calls Try.prog 55 #[.agg #[.slice A n c], .int .i64 a, .int .i64 v] w (GotM n (Mm.st b a 4 v) w) := by
  have hbl : b.length = n * 128 := by have := hs.1; rwa [U_length] at this
  unfold Mm.st
  rw [hbl, if_pos ht]
  obtain ⟨a', rfl⟩ := Int.eq_ofNat_of_zero_le ht.2.1
  have HS := Lib.hid fun w' (hl : Later w w') => rstore_there A n c a' 4 v b w' (hs.keep hl) h1.1 h1.2 ht hv.1 hv.2
  have hf := st_f0
  have hx : IntKind.u32.wrap v = v := by rw [IntKind.wrap_u32]; omega
  have bR := Blk.new' (w.alloc (.cells #[.slice A n c] 24)) (w.heap.size + 1) 24 #[.slice none 0 0] [.slice none 0 0] (by simp) rfl
  have l0 := (later1 w (.cells #[.slice A n c] 24)).alloc (by simp) (.cells #[.slice none 0 0] 24)
  clear hs ht hv hbl
  show Calls _ _ _ _ (GotM n (Mm.put b a' (Mm.el 4 v)) w)
  obtain ⟨X, hX⟩ : ∃ X, X = Mm.put b a' (Mm.el 4 v) := ⟨_, rfl⟩
  rw [← hX] at HS ⊢
  clear hX
  go_enter Try.func55, Try.ntmps55
  go_wp2_with (go_at_call 76; refine (HS.out _ l0).mono ?_; rintro e w1 ⟨g, c', rfl, k1, k2, k3, k4, l1⟩; have h0 := bR.lt; have hg1 : w.heap.size + 2 ≤ g := (by simpa using k1); replace bR := bR.keep l1; have cR := bR.cell (j := 0) (v := .slice none 0 0) rfl; have fR := bR.frz 0; have lw := Later.trans_ l0 l1)
  exact bodyPost_ret (results_blk Try.results55 _ _ (w.heap.size + 1) 24 [.slice (some ⟨g, 0, none⟩) n c'] _ rfl (bR.set 0 (.slice (some ⟨g, 0, none⟩) n c')) Try.underlying24 rfl mem_sz) rfl ⟨g, c', rfl, by omega, k2, k3, k4.only (Only.set _ _ _ _) (by omega), lw.setCell (by simp) _⟩
/-- What hands back a memory and an error. -/
def GotMd (n : Nat) (x : Wm.Bs) (E : Int) (w : World) (e : Ending) (w' : World) : Prop := ∃ A c, e = .returned (.agg #[.slice A n c, .int .i64 E]) ∧ Sl w' 128 A n (U x) ∧ Later w w'
set_option maxRecDepth 100000 in
set_option maxHeartbeats 4000000 in
theorem rlarge_b1 (A : Option Addr) (n c : Nat) (root va pa r : Int) (b : Wm.Bs) (w : World) (hs : Sl w 128 A n (U b)) (_ : 1 ≤ n ∧ n ≤ 64) (hr : 0 ≤ root ∧ root < 4294967296) (hv : 0 ≤ va ∧ va < 4294967296) (hp : 0 ≤ pa ∧ pa < 4294967296) (hlt : ¬ va < 131072) :
    Calls Try.prog 18 #[.agg #[.slice A n c], .int .u32 root, .int .u32 va, .int .u32 pa, .int .i64 r] w (GotMd n b 1 w) := by
  have w_va : IntKind.i64.wrap va = va := by rw [IntKind.wrap_i64]; omega
  have w_pa : IntKind.i64.wrap pa = pa := by rw [IntKind.wrap_i64]; omega
  have w_root : IntKind.i64.wrap root = root := by rw [IntKind.wrap_i64]; omega
  have d1 : decide (131072 ≤ va) = true := decide_eq_true (by omega)
  clear hr hv hp hlt
  have b5 := (Blk.new w 24 #[.slice A n c] [.slice A n c] rfl).alloc (.cells #[.slice none 0 0, .int .i64 0] 46)
  have b10 := Blk.new' (w.alloc (.cells #[.slice A n c] 24)) (w.heap.size + 1) 46 #[.slice none 0 0, .int .i64 0] [.slice none 0 0, .int .i64 0] (by simp) rfl
  have lx := (later1 w (.cells #[.slice A n c] 24)).alloc (by simp) (.cells #[.slice none 0 0, .int .i64 0] 46)
  go_enter Try.func18, Try.ntmps18
  go_wp2_with (first
    | ((with_reducible refine wpList_bld (o := ⟨some 51, .build 46 #[(0, .tmp 50), (1, .const (.int .i64 1))], _, _, _, none⟩) rfl _ _ _ _ rfl rfl (run_mk A n c 1 _) ?_))
    | ((with_reducible refine wpList_store_abs (o := ⟨none, .store 46 (.tmp 10) (.tmp 51), _, _, _, none⟩) rfl _ _ _ rfl (w.heap.size + 1) 46 [.slice none 0 0, .int .i64 0] [.slice A n c, .int .i64 1] ?_ ?_ b10 ?_ ?_ ?_ ?_); rfl; rfl; exact mk_sz _ _; rfl; exact mk_one _ _ _ _; intro w5 b8 o5))
  exact bodyPost_ret (v := .agg #[.slice A n c, .int .i64 1]) (results_blk Try.results18 _ _ (w.heap.size + 1) 46 [.slice A n c, .int .i64 1] _ rfl b8 Try.underlying46 rfl (mk_sz _ _)) rfl
    ⟨A, c, rfl, hs.keep (Below.only lx o5 (by omega)), Below.only lx o5 (by omega)⟩
set_option maxRecDepth 100000 in
set_option maxHeartbeats 4000000 in
theorem rlarge_b2 (A : Option Addr) (n c : Nat) (root va pa r : Int) (b : Wm.Bs) (w : World) (hs : Sl w 128 A n (U b)) (_ : 1 ≤ n ∧ n ≤ 64) (hr : 0 ≤ root ∧ root < 4294967296) (hv : 0 ≤ va ∧ va < 4294967296) (hp : 0 ≤ pa ∧ pa < 4294967296) (hlt : va < 131072) (hm : ¬ va % 4096 = 0) :
    Calls Try.prog 18 #[.agg #[.slice A n c], .int .u32 root, .int .u32 va, .int .u32 pa, .int .i64 r] w (GotMd n b 1 w) := by
  have w_va : IntKind.i64.wrap va = va := by rw [IntKind.wrap_i64]; omega
  have w_pa : IntKind.i64.wrap pa = pa := by rw [IntKind.wrap_i64]; omega
  have w_root : IntKind.i64.wrap root = root := by rw [IntKind.wrap_i64]; omega
  have d1 : decide (131072 ≤ va) = false := decide_eq_false (by omega)
  have m2 : va.tmod 4096 = va % 4096 := Int.tmod_eq_emod_of_nonneg hv.1
  have d2 : (va % 4096 != 0) = true := by simp [hm]
  clear hr hv hp hlt hm
  have b5 := (Blk.new w 24 #[.slice A n c] [.slice A n c] rfl).alloc (.cells #[.slice none 0 0, .int .i64 0] 46)
  have b10 := Blk.new' (w.alloc (.cells #[.slice A n c] 24)) (w.heap.size + 1) 46 #[.slice none 0 0, .int .i64 0] [.slice none 0 0, .int .i64 0] (by simp) rfl
  have lx := (later1 w (.cells #[.slice A n c] 24)).alloc (by simp) (.cells #[.slice none 0 0, .int .i64 0] 46)
  go_enter Try.func18, Try.ntmps18
  go_wp2_with (first
    | ((with_reducible refine wpList_bld (o := ⟨some 51, .build 46 #[(0, .tmp 50), (1, .const (.int .i64 1))], _, _, _, none⟩) rfl _ _ _ _ rfl rfl (run_mk A n c 1 _) ?_))
    | ((with_reducible refine wpList_store_abs (o := ⟨none, .store 46 (.tmp 10) (.tmp 51), _, _, _, none⟩) rfl _ _ _ rfl (w.heap.size + 1) 46 [.slice none 0 0, .int .i64 0] [.slice A n c, .int .i64 1] ?_ ?_ b10 ?_ ?_ ?_ ?_); rfl; rfl; exact mk_sz _ _; rfl; exact mk_one _ _ _ _; intro w5 b8 o5))
  exact bodyPost_ret (v := .agg #[.slice A n c, .int .i64 1]) (results_blk Try.results18 _ _ (w.heap.size + 1) 46 [.slice A n c, .int .i64 1] _ rfl b8 Try.underlying46 rfl (mk_sz _ _)) rfl
    ⟨A, c, rfl, hs.keep (Below.only lx o5 (by omega)), Below.only lx o5 (by omega)⟩
set_option maxRecDepth 100000 in
set_option maxHeartbeats 4000000 in
theorem rlarge_b3 (A : Option Addr) (n c : Nat) (root va pa r : Int) (b : Wm.Bs) (w : World) (hs : Sl w 128 A n (U b)) (h1 : 1 ≤ n ∧ n ≤ 64) (hr : 0 ≤ root ∧ root < 4294967296) (hv : 0 ≤ va ∧ va < 4294967296) (hp : 0 ≤ pa ∧ pa < 4294967296) (hlt : va < 131072) (hm : va % 4096 = 0) (hpp : Tm.pageB n pa = false) :
    Calls Try.prog 18 #[.agg #[.slice A n c], .int .u32 root, .int .u32 va, .int .u32 pa, .int .i64 r] w (GotMd n b 1 w) := by
  have w_va : IntKind.i64.wrap va = va := by rw [IntKind.wrap_i64]; omega
  have w_pa : IntKind.i64.wrap pa = pa := by rw [IntKind.wrap_i64]; omega
  have w_root : IntKind.i64.wrap root = root := by rw [IntKind.wrap_i64]; omega
  have d1 : decide (131072 ≤ va) = false := decide_eq_false (by omega)
  have m2 : va.tmod 4096 = va % 4096 := Int.tmod_eq_emod_of_nonneg hv.1
  have d2 : (va % 4096 != 0) = false := by simp [hm]
  have HP := Lib.hid fun w' => rpage_any A n c pa w' h1.2 (by omega)
  rw [hpp] at HP
  clear h1 hr hv hp hlt hm hpp
  have b5 := (Blk.new w 24 #[.slice A n c] [.slice A n c] rfl).alloc (.cells #[.slice none 0 0, .int .i64 0] 46)
  have b10 := Blk.new' (w.alloc (.cells #[.slice A n c] 24)) (w.heap.size + 1) 46 #[.slice none 0 0, .int .i64 0] [.slice none 0 0, .int .i64 0] (by simp) rfl
  have lx := (later1 w (.cells #[.slice A n c] 24)).alloc (by simp) (.cells #[.slice none 0 0, .int .i64 0] 46)
  go_enter Try.func18, Try.ntmps18
  go_wp2_with (first
    | (go_at_call 34; (first | (with_reducible refine (HP.out _).mono ?_)); rintro e w2 ⟨rfl, l2⟩; replace b5 := b5.keep l2; replace b10 := b10.keep l2; replace lx := Later.trans_ lx l2; have c5 := b5.cell (j := 0) (v := .slice A n c) rfl)
    | ((with_reducible refine wpList_bld (o := ⟨some 51, .build 46 #[(0, .tmp 50), (1, .const (.int .i64 1))], _, _, _, none⟩) rfl _ _ _ _ rfl rfl (run_mk A n c 1 _) ?_))
    | ((with_reducible refine wpList_store_abs (o := ⟨none, .store 46 (.tmp 10) (.tmp 51), _, _, _, none⟩) rfl _ _ _ rfl (w.heap.size + 1) 46 [.slice none 0 0, .int .i64 0] [.slice A n c, .int .i64 1] ?_ ?_ b10 ?_ ?_ ?_ ?_); rfl; rfl; exact mk_sz _ _; rfl; exact mk_one _ _ _ _; intro w5 b8 o5))
  exact bodyPost_ret (v := .agg #[.slice A n c, .int .i64 1]) (results_blk Try.results18 _ _ (w.heap.size + 1) 46 [.slice A n c, .int .i64 1] _ rfl b8 Try.underlying46 rfl (mk_sz _ _)) rfl
    ⟨A, c, rfl, hs.keep (Below.only lx o5 (by omega)), Below.only lx o5 (by omega)⟩
set_option maxRecDepth 100000 in
set_option maxHeartbeats 4000000 in
theorem rlarge_b4 (A : Option Addr) (n c : Nat) (root va pa r : Int) (b : Wm.Bs) (w : World) (hs : Sl w 128 A n (U b)) (h1 : 1 ≤ n ∧ n ≤ 64) (hr : 0 ≤ root ∧ root < 4294967296) (hv : 0 ≤ va ∧ va < 4294967296) (hp : 0 ≤ pa ∧ pa < 4294967296) (hlt : va < 131072) (hm : va % 4096 = 0) (hpp : Tm.pageB n pa = true) (hm2 : ¬ pa % 4096 = 0) :
    Calls Try.prog 18 #[.agg #[.slice A n c], .int .u32 root, .int .u32 va, .int .u32 pa, .int .i64 r] w (GotMd n b 1 w) := by
  have w_va : IntKind.i64.wrap va = va := by rw [IntKind.wrap_i64]; omega
  have w_pa : IntKind.i64.wrap pa = pa := by rw [IntKind.wrap_i64]; omega
  have w_root : IntKind.i64.wrap root = root := by rw [IntKind.wrap_i64]; omega
  have d1 : decide (131072 ≤ va) = false := decide_eq_false (by omega)
  have m2 : va.tmod 4096 = va % 4096 := Int.tmod_eq_emod_of_nonneg hv.1
  have d2 : (va % 4096 != 0) = false := by simp [hm]
  have HP := Lib.hid fun w' => rpage_any A n c pa w' h1.2 (by omega)
  rw [hpp] at HP
  have m4 : pa.tmod 4096 = pa % 4096 := Int.tmod_eq_emod_of_nonneg hp.1
  have d4 : (pa % 4096 != 0) = true := by simp [hm2]
  clear h1 hr hv hp hlt hm hpp hm2
  have b5 := (Blk.new w 24 #[.slice A n c] [.slice A n c] rfl).alloc (.cells #[.slice none 0 0, .int .i64 0] 46)
  have b10 := Blk.new' (w.alloc (.cells #[.slice A n c] 24)) (w.heap.size + 1) 46 #[.slice none 0 0, .int .i64 0] [.slice none 0 0, .int .i64 0] (by simp) rfl
  have lx := (later1 w (.cells #[.slice A n c] 24)).alloc (by simp) (.cells #[.slice none 0 0, .int .i64 0] 46)
  go_enter Try.func18, Try.ntmps18
  go_wp2_with (first
    | (go_at_call 34; (first | (with_reducible refine (HP.out _).mono ?_)); rintro e w2 ⟨rfl, l2⟩; replace b5 := b5.keep l2; replace b10 := b10.keep l2; replace lx := Later.trans_ lx l2; have c5 := b5.cell (j := 0) (v := .slice A n c) rfl)
    | ((with_reducible refine wpList_bld (o := ⟨some 51, .build 46 #[(0, .tmp 50), (1, .const (.int .i64 1))], _, _, _, none⟩) rfl _ _ _ _ rfl rfl (run_mk A n c 1 _) ?_))
    | ((with_reducible refine wpList_store_abs (o := ⟨none, .store 46 (.tmp 10) (.tmp 51), _, _, _, none⟩) rfl _ _ _ rfl (w.heap.size + 1) 46 [.slice none 0 0, .int .i64 0] [.slice A n c, .int .i64 1] ?_ ?_ b10 ?_ ?_ ?_ ?_); rfl; rfl; exact mk_sz _ _; rfl; exact mk_one _ _ _ _; intro w5 b8 o5))
  exact bodyPost_ret (v := .agg #[.slice A n c, .int .i64 1]) (results_blk Try.results18 _ _ (w.heap.size + 1) 46 [.slice A n c, .int .i64 1] _ rfl b8 Try.underlying46 rfl (mk_sz _ _)) rfl
    ⟨A, c, rfl, hs.keep (Below.only lx o5 (by omega)), Below.only lx o5 (by omega)⟩
set_option maxRecDepth 100000 in
set_option maxHeartbeats 4000000 in
theorem rlarge_b5 (A : Option Addr) (n c : Nat) (root va pa r : Int) (b : Wm.Bs) (w : World) (hs : Sl w 128 A n (U b)) (h1 : 1 ≤ n ∧ n ≤ 64) (hr : 0 ≤ root ∧ root < 4294967296) (hv : 0 ≤ va ∧ va < 4294967296) (hp : 0 ≤ pa ∧ pa < 4294967296) (hlt : va < 131072) (hm : va % 4096 = 0) (hpp : Tm.pageB n pa = true) (hm2 : pa % 4096 = 0) (hrr : Tm.rightsB r = false) :
    Calls Try.prog 18 #[.agg #[.slice A n c], .int .u32 root, .int .u32 va, .int .u32 pa, .int .i64 r] w (GotMd n b 1 w) := by
  have w_va : IntKind.i64.wrap va = va := by rw [IntKind.wrap_i64]; omega
  have w_pa : IntKind.i64.wrap pa = pa := by rw [IntKind.wrap_i64]; omega
  have w_root : IntKind.i64.wrap root = root := by rw [IntKind.wrap_i64]; omega
  have d1 : decide (131072 ≤ va) = false := decide_eq_false (by omega)
  have m2 : va.tmod 4096 = va % 4096 := Int.tmod_eq_emod_of_nonneg hv.1
  have d2 : (va % 4096 != 0) = false := by simp [hm]
  have HP := Lib.hid fun w' => rpage_any A n c pa w' h1.2 (by omega)
  rw [hpp] at HP
  have m4 : pa.tmod 4096 = pa % 4096 := Int.tmod_eq_emod_of_nonneg hp.1
  have d4 : (pa % 4096 != 0) = false := by simp [hm2]
  have HR := Lib.hid fun w' => rrights_any r w'
  rw [hrr] at HR
  clear h1 hr hv hp hlt hm hpp hm2 hrr
  have b5 := (Blk.new w 24 #[.slice A n c] [.slice A n c] rfl).alloc (.cells #[.slice none 0 0, .int .i64 0] 46)
  have b10 := Blk.new' (w.alloc (.cells #[.slice A n c] 24)) (w.heap.size + 1) 46 #[.slice none 0 0, .int .i64 0] [.slice none 0 0, .int .i64 0] (by simp) rfl
  have lx := (later1 w (.cells #[.slice A n c] 24)).alloc (by simp) (.cells #[.slice none 0 0, .int .i64 0] 46)
  go_enter Try.func18, Try.ntmps18
  go_wp2_with (first
    | (go_at_call 34; (first | (with_reducible refine (HP.out _).mono ?_)); rintro e w2 ⟨rfl, l2⟩; replace b5 := b5.keep l2; replace b10 := b10.keep l2; replace lx := Later.trans_ lx l2; have c5 := b5.cell (j := 0) (v := .slice A n c) rfl)
    | (go_at_call 51; refine (HR.out _).mono ?_; rintro e wr ⟨rfl, rfl⟩)
    | ((with_reducible refine wpList_bld (o := ⟨some 51, .build 46 #[(0, .tmp 50), (1, .const (.int .i64 1))], _, _, _, none⟩) rfl _ _ _ _ rfl rfl (run_mk A n c 1 _) ?_))
    | ((with_reducible refine wpList_store_abs (o := ⟨none, .store 46 (.tmp 10) (.tmp 51), _, _, _, none⟩) rfl _ _ _ rfl (w.heap.size + 1) 46 [.slice none 0 0, .int .i64 0] [.slice A n c, .int .i64 1] ?_ ?_ b10 ?_ ?_ ?_ ?_); rfl; rfl; exact mk_sz _ _; rfl; exact mk_one _ _ _ _; intro w5 b8 o5))
  exact bodyPost_ret (v := .agg #[.slice A n c, .int .i64 1]) (results_blk Try.results18 _ _ (w.heap.size + 1) 46 [.slice A n c, .int .i64 1] _ rfl b8 Try.underlying46 rfl (mk_sz _ _)) rfl
    ⟨A, c, rfl, hs.keep (Below.only lx o5 (by omega)), Below.only lx o5 (by omega)⟩
set_option maxRecDepth 100000 in
set_option maxHeartbeats 4000000 in
theorem rlarge_b6 (A : Option Addr) (n c : Nat) (root va pa r : Int) (b : Wm.Bs) (w : World) (hs : Sl w 128 A n (U b)) (h1 : 1 ≤ n ∧ n ≤ 64) (_ : 0 ≤ root ∧ root < 4294967296) (hv : 0 ≤ va ∧ va < 4294967296) (hp : 0 ≤ pa ∧ pa < 4294967296) (hlt : va < 131072) (hm : va % 4096 = 0) (hpp : Tm.pageB n pa = true) (hm2 : pa % 4096 = 0) (hrr : Tm.rightsB r = true) (h0 : root = 0) :
    Calls Try.prog 18 #[.agg #[.slice A n c], .int .u32 root, .int .u32 va, .int .u32 pa, .int .i64 r] w (GotMd n b 1 w) := by
  have w_va : IntKind.i64.wrap va = va := by rw [IntKind.wrap_i64]; omega
  have w_pa : IntKind.i64.wrap pa = pa := by rw [IntKind.wrap_i64]; omega
  have w_root : IntKind.i64.wrap root = root := by rw [IntKind.wrap_i64]; omega
  have d1 : decide (131072 ≤ va) = false := decide_eq_false (by omega)
  have m2 : va.tmod 4096 = va % 4096 := Int.tmod_eq_emod_of_nonneg hv.1
  have d2 : (va % 4096 != 0) = false := by simp [hm]
  have HP := Lib.hid fun w' => rpage_any A n c pa w' h1.2 (by omega)
  rw [hpp] at HP
  have m4 : pa.tmod 4096 = pa % 4096 := Int.tmod_eq_emod_of_nonneg hp.1
  have d4 : (pa % 4096 != 0) = false := by simp [hm2]
  have HR := Lib.hid fun w' => rrights_any r w'
  rw [hrr] at HR
  have d6 : (root == 0) = true := by simpa using h0
  clear h1 hv hp hlt hm hpp hm2 hrr h0
  have b5 := (Blk.new w 24 #[.slice A n c] [.slice A n c] rfl).alloc (.cells #[.slice none 0 0, .int .i64 0] 46)
  have b10 := Blk.new' (w.alloc (.cells #[.slice A n c] 24)) (w.heap.size + 1) 46 #[.slice none 0 0, .int .i64 0] [.slice none 0 0, .int .i64 0] (by simp) rfl
  have lx := (later1 w (.cells #[.slice A n c] 24)).alloc (by simp) (.cells #[.slice none 0 0, .int .i64 0] 46)
  go_enter Try.func18, Try.ntmps18
  go_wp2_with (first
    | (go_at_call 34; (first | (with_reducible refine (HP.out _).mono ?_)); rintro e w2 ⟨rfl, l2⟩; replace b5 := b5.keep l2; replace b10 := b10.keep l2; replace lx := Later.trans_ lx l2; have c5 := b5.cell (j := 0) (v := .slice A n c) rfl)
    | (go_at_call 51; refine (HR.out _).mono ?_; rintro e wr ⟨rfl, rfl⟩)
    | ((with_reducible refine wpList_bld (o := ⟨some 51, .build 46 #[(0, .tmp 50), (1, .const (.int .i64 1))], _, _, _, none⟩) rfl _ _ _ _ rfl rfl (run_mk A n c 1 _) ?_))
    | ((with_reducible refine wpList_store_abs (o := ⟨none, .store 46 (.tmp 10) (.tmp 51), _, _, _, none⟩) rfl _ _ _ rfl (w.heap.size + 1) 46 [.slice none 0 0, .int .i64 0] [.slice A n c, .int .i64 1] ?_ ?_ b10 ?_ ?_ ?_ ?_); rfl; rfl; exact mk_sz _ _; rfl; exact mk_one _ _ _ _; intro w5 b8 o5))
  exact bodyPost_ret (v := .agg #[.slice A n c, .int .i64 1]) (results_blk Try.results18 _ _ (w.heap.size + 1) 46 [.slice A n c, .int .i64 1] _ rfl b8 Try.underlying46 rfl (mk_sz _ _)) rfl
    ⟨A, c, rfl, hs.keep (Below.only lx o5 (by omega)), Below.only lx o5 (by omega)⟩
set_option maxRecDepth 100000 in
set_option maxHeartbeats 4000000 in
theorem rlarge_b7 (A : Option Addr) (n c : Nat) (root va pa r : Int) (b : Wm.Bs) (w : World) (hs : Sl w 128 A n (U b)) (h1 : 1 ≤ n ∧ n ≤ 64) (hr : 0 ≤ root ∧ root < 4294967296) (hv : 0 ≤ va ∧ va < 4294967296) (hp : 0 ≤ pa ∧ pa < 4294967296) (hlt : va < 131072) (hm : va % 4096 = 0) (hpp : Tm.pageB n pa = true) (hm2 : pa % 4096 = 0) (hrr : Tm.rightsB r = true) (h0 : root ≠ 0) (hpr : Tm.pageB n root = false) :
    Calls Try.prog 18 #[.agg #[.slice A n c], .int .u32 root, .int .u32 va, .int .u32 pa, .int .i64 r] w (GotMd n b 1 w) := by
  have w_va : IntKind.i64.wrap va = va := by rw [IntKind.wrap_i64]; omega
  have w_pa : IntKind.i64.wrap pa = pa := by rw [IntKind.wrap_i64]; omega
  have w_root : IntKind.i64.wrap root = root := by rw [IntKind.wrap_i64]; omega
  have d1 : decide (131072 ≤ va) = false := decide_eq_false (by omega)
  have m2 : va.tmod 4096 = va % 4096 := Int.tmod_eq_emod_of_nonneg hv.1
  have d2 : (va % 4096 != 0) = false := by simp [hm]
  have HP := Lib.hid fun w' => rpage_any A n c pa w' h1.2 (by omega)
  rw [hpp] at HP
  have m4 : pa.tmod 4096 = pa % 4096 := Int.tmod_eq_emod_of_nonneg hp.1
  have d4 : (pa % 4096 != 0) = false := by simp [hm2]
  have HR := Lib.hid fun w' => rrights_any r w'
  rw [hrr] at HR
  have d6 : (root == 0) = false := by simpa using h0
  have HPR := Lib.hid fun w' => rpage_any A n c root w' h1.2 (by omega)
  rw [hpr] at HPR
  clear h1 hr hv hp hlt hm hpp hm2 hrr h0 hpr
  have b5 := (Blk.new w 24 #[.slice A n c] [.slice A n c] rfl).alloc (.cells #[.slice none 0 0, .int .i64 0] 46)
  have b10 := Blk.new' (w.alloc (.cells #[.slice A n c] 24)) (w.heap.size + 1) 46 #[.slice none 0 0, .int .i64 0] [.slice none 0 0, .int .i64 0] (by simp) rfl
  have lx := (later1 w (.cells #[.slice A n c] 24)).alloc (by simp) (.cells #[.slice none 0 0, .int .i64 0] 46)
  go_enter Try.func18, Try.ntmps18
  go_wp2_with (first
    | (go_at_call 34; (first | (with_reducible refine (HP.out _).mono ?_) | (with_reducible refine (HPR.out _).mono ?_)); rintro e w2 ⟨rfl, l2⟩; replace b5 := b5.keep l2; replace b10 := b10.keep l2; replace lx := Later.trans_ lx l2; have c5 := b5.cell (j := 0) (v := .slice A n c) rfl)
    | (go_at_call 51; refine (HR.out _).mono ?_; rintro e wr ⟨rfl, rfl⟩)
    | ((with_reducible refine wpList_bld (o := ⟨some 51, .build 46 #[(0, .tmp 50), (1, .const (.int .i64 1))], _, _, _, none⟩) rfl _ _ _ _ rfl rfl (run_mk A n c 1 _) ?_))
    | ((with_reducible refine wpList_store_abs (o := ⟨none, .store 46 (.tmp 10) (.tmp 51), _, _, _, none⟩) rfl _ _ _ rfl (w.heap.size + 1) 46 [.slice none 0 0, .int .i64 0] [.slice A n c, .int .i64 1] ?_ ?_ b10 ?_ ?_ ?_ ?_); rfl; rfl; exact mk_sz _ _; rfl; exact mk_one _ _ _ _; intro w5 b8 o5))
  exact bodyPost_ret (v := .agg #[.slice A n c, .int .i64 1]) (results_blk Try.results18 _ _ (w.heap.size + 1) 46 [.slice A n c, .int .i64 1] _ rfl b8 Try.underlying46 rfl (mk_sz _ _)) rfl
    ⟨A, c, rfl, hs.keep (Below.only lx o5 (by omega)), Below.only lx o5 (by omega)⟩
set_option maxRecDepth 100000 in
set_option maxHeartbeats 4000000 in
theorem rlarge_twice (A : Option Addr) (n c : Nat) (root va pa r : Int) (b : Wm.Bs) (w : World) (hs : Sl w 128 A n (U b)) (h1 : 1 ≤ n ∧ n ≤ 64) (hr : 0 ≤ root ∧ root < 4294967296) (hv : 0 ≤ va ∧ va < 4294967296) (hp : 0 ≤ pa ∧ pa < 4294967296) (hlt : va < 131072) (hm : va % 4096 = 0) (hpp : Tm.pageB n pa = true) (hm2 : pa % 4096 = 0) (hrr : Tm.rightsB r = true) (h0 : root ≠ 0) (hpr : Tm.pageB n root = true) (rf lg : Bool) (fa fe : Int) (KT : Hid (∀ w', Later w w' → Calls Try.prog 52 #[.agg #[.slice A n c], .int .i64 root, .int .i64 va] w' fun r w'' => r = .returned (.agg #[.int .i64 fa, .int .i64 fe, .bool true, .bool rf, .bool lg]) ∧ Later w' w'')) :
    Calls Try.prog 18 #[.agg #[.slice A n c], .int .u32 root, .int .u32 va, .int .u32 pa, .int .i64 r] w (GotMd n b 6 w) := by
  have w_va : IntKind.i64.wrap va = va := by rw [IntKind.wrap_i64]; omega
  have w_pa : IntKind.i64.wrap pa = pa := by rw [IntKind.wrap_i64]; omega
  have w_root : IntKind.i64.wrap root = root := by rw [IntKind.wrap_i64]; omega
  have d1 : decide (131072 ≤ va) = false := decide_eq_false (by omega)
  have m2 : va.tmod 4096 = va % 4096 := Int.tmod_eq_emod_of_nonneg hv.1
  have d2 : (va % 4096 != 0) = false := by simp [hm]
  have HP := Lib.hid fun w' => rpage_any A n c pa w' h1.2 (by omega)
  rw [hpp] at HP
  have m4 : pa.tmod 4096 = pa % 4096 := Int.tmod_eq_emod_of_nonneg hp.1
  have d4 : (pa % 4096 != 0) = false := by simp [hm2]
  have HR := Lib.hid fun w' => rrights_any r w'
  rw [hrr] at HR
  have d6 : (root == 0) = false := by simpa using h0
  have HPR := Lib.hid fun w' => rpage_any A n c root w' h1.2 (by omega)
  rw [hpr] at HPR
  clear h1 hr hv hp hlt hm hpp hm2 hrr h0 hpr
  have b5 := (Blk.new w 24 #[.slice A n c] [.slice A n c] rfl).alloc (.cells #[.slice none 0 0, .int .i64 0] 46)
  have b10 := Blk.new' (w.alloc (.cells #[.slice A n c] 24)) (w.heap.size + 1) 46 #[.slice none 0 0, .int .i64 0] [.slice none 0 0, .int .i64 0] (by simp) rfl
  have lx := (later1 w (.cells #[.slice A n c] 24)).alloc (by simp) (.cells #[.slice none 0 0, .int .i64 0] 46)
  go_enter Try.func18, Try.ntmps18
  go_wp2_with (first
    | (go_at_call 34; (first | (with_reducible refine (HP.out _).mono ?_) | (with_reducible refine (HPR.out _).mono ?_)); rintro e w2 ⟨rfl, l2⟩; replace b5 := b5.keep l2; replace b10 := b10.keep l2; replace lx := Later.trans_ lx l2; have c5 := b5.cell (j := 0) (v := .slice A n c) rfl)
    | (go_at_call 51; refine (HR.out _).mono ?_; rintro e wr ⟨rfl, rfl⟩)
    | (go_at_call 52; refine (KT.out _ lx).mono ?_; rintro e w3 ⟨rfl, l3⟩; replace b5 := b5.keep l3; replace b10 := b10.keep l3; replace lx := Later.trans_ lx l3; have c5 := b5.cell (j := 0) (v := .slice A n c) rfl; have b10f := b10.alloc (.cells #[.int .i64 fa, .int .i64 fe, .bool true, .bool rf, .bool lg] 88); have lf := lx.alloc lx.size (.cells #[.int .i64 fa, .int .i64 fe, .bool true, .bool rf, .bool lg] 88); clear c5; have c5 := (b5.alloc (.cells #[.int .i64 fa, .int .i64 fe, .bool true, .bool rf, .bool lg] 88)).cell (j := 0) (v := .slice A n c) rfl)
    | ((with_reducible refine wpList_bld (o := ⟨some 60, .build 46 #[(0, .tmp 59), (1, .const (.int .i64 6))], _, _, _, none⟩) rfl _ _ _ _ rfl rfl (run_mk A n c 6 _) ?_))
    | ((with_reducible refine wpList_store_abs (o := ⟨none, .store 46 (.tmp 10) (.tmp 60), _, _, _, none⟩) rfl _ _ _ rfl (w.heap.size + 1) 46 [.slice none 0 0, .int .i64 0] [.slice A n c, .int .i64 6] ?_ ?_ b10f ?_ ?_ ?_ ?_); rfl; rfl; exact mk_sz _ _; rfl; exact mk_one _ _ _ _; intro w5 b8 o5))
  exact bodyPost_ret (v := .agg #[.slice A n c, .int .i64 6]) (results_blk Try.results18 _ _ (w.heap.size + 1) 46 [.slice A n c, .int .i64 6] _ rfl b8 Try.underlying46 rfl (mk_sz _ _)) rfl
    ⟨A, c, rfl, hs.keep (Below.only lf o5 (by omega)), Below.only lf o5 (by omega)⟩
set_option maxRecDepth 100000 in
set_option maxHeartbeats 4000000 in
theorem rlarge_ok (A : Option Addr) (n c : Nat) (root va pa r : Int) (b : Wm.Bs) (w : World) (_ : Sl w 128 A n (U b)) (h1 : 1 ≤ n ∧ n ≤ 64) (hr : 0 ≤ root ∧ root < 4294967296) (hv : 0 ≤ va ∧ va < 4294967296) (hp : 0 ≤ pa ∧ pa < 4294967296) (hlt : va < 131072) (hm : va % 4096 = 0) (hpp : Tm.pageB n pa = true) (hm2 : pa % 4096 = 0) (hrr : Tm.rightsB r = true) (h0 : root ≠ 0) (hpr : Tm.pageB n root = true) (hrv : 0 ≤ r ∧ r < 16) (rf lg : Bool) (fa fe : Int) (KT : Hid (∀ w', Later w w' → Calls Try.prog 52 #[.agg #[.slice A n c], .int .i64 root, .int .i64 va] w' fun r w'' => r = .returned (.agg #[.int .i64 fa, .int .i64 fe, .bool false, .bool rf, .bool lg]) ∧ Later w' w'')) (v : Int) (hvv : v = pa + 65 + r) (X : Wm.Bs) (KS : Hid (∀ w', Later w w' → Calls Try.prog 55 #[.agg #[.slice A n c], .int .i64 fa, .int .i64 v] w' (GotM n X w'))) :
    Calls Try.prog 18 #[.agg #[.slice A n c], .int .u32 root, .int .u32 va, .int .u32 pa, .int .i64 r] w (GotMd n X 0 w) := by
  have w_va : IntKind.i64.wrap va = va := by rw [IntKind.wrap_i64]; omega
  have w_pa : IntKind.i64.wrap pa = pa := by rw [IntKind.wrap_i64]; omega
  have w_root : IntKind.i64.wrap root = root := by rw [IntKind.wrap_i64]; omega
  have d1 : decide (131072 ≤ va) = false := decide_eq_false (by omega)
  have m2 : va.tmod 4096 = va % 4096 := Int.tmod_eq_emod_of_nonneg hv.1
  have d2 : (va % 4096 != 0) = false := by simp [hm]
  have HP := Lib.hid fun w' => rpage_any A n c pa w' h1.2 (by omega)
  rw [hpp] at HP
  have m4 : pa.tmod 4096 = pa % 4096 := Int.tmod_eq_emod_of_nonneg hp.1
  have d4 : (pa % 4096 != 0) = false := by simp [hm2]
  have HR := Lib.hid fun w' => rrights_any r w'
  rw [hrr] at HR
  have d6 : (root == 0) = false := by simpa using h0
  have HPR := Lib.hid fun w' => rpage_any A n c root w' h1.2 (by omega)
  rw [hpr] at HPR
  have q1 : IntKind.i64.wrap (pa + 1) = pa + 1 := by rw [IntKind.wrap_i64]; omega
  have q2 : IntKind.i64.wrap (pa + 1 + 64) = pa + 65 := by rw [IntKind.wrap_i64]; omega
  have q3 : IntKind.i64.wrap (pa + 65 + r) = v := by rw [IntKind.wrap_i64]; omega
  clear hvv hrv h1 hr hv hp hlt hm hpp hm2 hrr h0 hpr
  have b5 := (Blk.new w 24 #[.slice A n c] [.slice A n c] rfl).alloc (.cells #[.slice none 0 0, .int .i64 0] 46)
  have b10 := Blk.new' (w.alloc (.cells #[.slice A n c] 24)) (w.heap.size + 1) 46 #[.slice none 0 0, .int .i64 0] [.slice none 0 0, .int .i64 0] (by simp) rfl
  have lx := (later1 w (.cells #[.slice A n c] 24)).alloc (by simp) (.cells #[.slice none 0 0, .int .i64 0] 46)
  go_enter Try.func18, Try.ntmps18
  go_wp2_with (first
    | (go_at_call 34; (first | (with_reducible refine (HP.out _).mono ?_) | (with_reducible refine (HPR.out _).mono ?_)); rintro e w2 ⟨rfl, l2⟩; replace b5 := b5.keep l2; replace b10 := b10.keep l2; replace lx := Later.trans_ lx l2; have c5 := b5.cell (j := 0) (v := .slice A n c) rfl)
    | (go_at_call 51; refine (HR.out _).mono ?_; rintro e wr ⟨rfl, rfl⟩)
    | (go_at_call 52; refine (KT.out _ lx).mono ?_; rintro e w3 ⟨rfl, l3⟩; replace b5 := b5.keep l3; replace b10 := b10.keep l3; replace lx := Later.trans_ lx l3; have c5 := b5.cell (j := 0) (v := .slice A n c) rfl; have b10f := b10.alloc (.cells #[.int .i64 fa, .int .i64 fe, .bool false, .bool rf, .bool lg] 88); have lf := lx.alloc lx.size (.cells #[.int .i64 fa, .int .i64 fe, .bool false, .bool rf, .bool lg] 88); clear c5; have c5 := (b5.alloc (.cells #[.int .i64 fa, .int .i64 fe, .bool false, .bool rf, .bool lg] 88)).cell (j := 0) (v := .slice A n c) rfl)
    | (go_at_call 55; refine (KS.out _ lf).mono ?_; rintro e w6 ⟨g, c', rfl, k1, k2, k3, k4, l6⟩; have hgx : w.heap.size + 1 ≠ g := (by have := b10f.lt; omega); have b10g := b10f.keep l6; have lg6 := Later.trans_ lf l6)
    | ((with_reducible refine wpList_bld (o := ⟨some 71, .build 46 #[(0, .tmp 70)], _, _, _, none⟩) rfl _ _ _ _ rfl rfl (run_mk0 (some ⟨g, 0, none⟩) n c' _) ?_))
    | ((with_reducible refine wpList_store_abs (o := ⟨none, .store 46 (.tmp 10) (.tmp 71), _, _, _, none⟩) rfl _ _ _ rfl (w.heap.size + 1) 46 [.slice none 0 0, .int .i64 0] [.slice (some ⟨g, 0, none⟩) n c', .int .i64 0] ?_ ?_ b10g ?_ ?_ ?_ ?_); rfl; rfl; exact mk_sz _ _; rfl; exact mk_one _ _ _ _; intro w5 b8 o5))
  exact bodyPost_ret (v := .agg #[.slice (some ⟨g, 0, none⟩) n c', .int .i64 0]) (results_blk Try.results18 _ _ (w.heap.size + 1) 46 [.slice (some ⟨g, 0, none⟩) n c', .int .i64 0] _ rfl b8 Try.underlying46 rfl (mk_sz _ _)) rfl
    ⟨_, _, rfl, (k4.only o5 (Ne.symm hgx)).sl, Below.only lg6 o5 (by omega)⟩
end Go.Proofs.Ytempcbdlaoblhab
